/- The reference of layer 7, and the examples. -/
import Derived.Test.YtebhflmmdfbjkaaDoorTra
import Derived.Test.YtebhflmmdfbjkaaDoorPld
/- Arctrig: the reference's guess: any angle from a quarter back to a quarter on. -/
namespace Go.Proofs.YtebhflmmdfbjkaaDoor
open Go.RowKit
set_option linter.unusedVariables false
set_option maxRecDepth 100000

theorem mul_bound {x y : Int} {A B : Nat} (hx : -(A : Int) ≤ x ∧ x ≤ A) (hy : -(B : Int) ≤ y ∧ y ≤ B) : -((A * B : Nat) : Int) ≤ x * y ∧ x * y ≤ ((A * B : Nat) : Int) := by
  have a : (x * y).natAbs ≤ A * B := by rw [Int.natAbs_mul]; exact Nat.mul_le_mul (by omega) (by omega)
  omega
theorem tdiv_bound {x : Int} {A d : Nat} (hd : 0 < d) (hx : -(A : Int) ≤ x ∧ x ≤ A) : -((A / d : Nat) : Int) ≤ x.tdiv d ∧ x.tdiv d ≤ ((A / d : Nat) : Int) := by
  have a : (x.tdiv d).natAbs ≤ A / d := by
    rw [Int.natAbs_tdiv]
    exact Nat.div_le_div_right (by omega)
  omega
set_option maxHeartbeats 1000000 in
theorem rough_pos (n : Int) (h0 : 0 ≤ n) (h1 : n ≤ 5400000) (w : World) :
    Calls Tryd.prog 64 #[.int .i64 n] w fun e w' => ∃ r : Int, e = .returned (.int .i64 r) ∧ (-4294967296 ≤ r ∧ r ≤ 4294967296) ∧ w' = w := by
  have p1 : 0 ≤ n * 3373259426 ∧ n * 3373259426 ≤ 18215600900400000 := by omega
  obtain ⟨x, hx⟩ : ∃ x, (n * 3373259426).tdiv 10800000 = x := ⟨_, rfl⟩
  have x0 : 0 ≤ x ∧ x ≤ 1686629713 := by
    rw [← hx, Int.tdiv_eq_ediv_of_nonneg p1.1]; omega
  obtain ⟨p, hp⟩ : ∃ p, n * 3373259426 = p := ⟨_, rfl⟩
  rw [hp] at hx p1
  have q1 := mul_bound (x := x) (y := x) (A := 1686629713) (B := 1686629713) ⟨by omega, by omega⟩ ⟨by omega, by omega⟩
  obtain ⟨q, hq⟩ : ∃ q, x * x = q := ⟨_, rfl⟩
  rw [hq] at q1
  have y1 := tdiv_bound (x := q) (d := 1073741824) (by omega) q1
  obtain ⟨y, hy⟩ : ∃ y, q.tdiv 1073741824 = y := ⟨_, rfl⟩
  have y1 : -2649400000 ≤ y ∧ y ≤ 2649400000 := by
    have : q.tdiv ((1073741824 : Nat) : Int) = y := hy
    rw [this] at y1
    omega
  have Y := Lib.hid y1
  have X := Lib.hid x0
  obtain ⟨p1, p2⟩ := p1
  obtain ⟨q1, q2⟩ := q1
  have q3 : -9223372036854775808 ≤ q := by omega
  have q4 : q ≤ 9223372036854775807 := by omega
  obtain ⟨xa, xb⟩ := x0
  obtain ⟨ya, yb⟩ := y1
  clear q1 q2
  go_enter Tryd.func64, Tryd.ntmps64
  go_wp2_with fail
  go_loopg [5, 6] 6 (fun m v5 v6 wr => ∃ (j : Nat) (t : Int), m = 6 - j ∧ v6 = .int .i64 (13 - 2 * (j : Int)) ∧ v5 = .int .i64 t ∧ Hid (j ≤ 6) ∧ Hid (-2147483648 ≤ t ∧ t ≤ 2147483648) ∧ w = wr)
  case atStart => exact ⟨0, 1073741824, rfl, rfl, rfl, Nat.zero_le _, ⟨by decide, by decide⟩, rfl⟩
  case round =>
    obtain ⟨j, t, hm, rfl, rfl, HJ, HT, rfl⟩ := hrel
    have HG := Lib.hid hm
    clear hm
    by_cases hj : j < 6
    · have HJ6 := Lib.hid hj
      obtain ⟨k, hk⟩ : ∃ k, (13 : Int) - 2 * (j : Int) = k := ⟨_, rfl⟩
      obtain ⟨l, hl⟩ : ∃ l, k - 1 = l := ⟨_, rfl⟩
      obtain ⟨kl, hkl⟩ : ∃ kl, k * l = kl := ⟨_, rfl⟩
      have k3 : 3 ≤ k := by omega
      have k13 : k ≤ 13 := by omega
      have m6 : 6 ≤ kl ∧ kl ≤ 156 := by
        rcases (show k = 3 ∨ k = 4 ∨ k = 5 ∨ k = 6 ∨ k = 7 ∨ k = 8 ∨ k = 9 ∨ k = 10 ∨ k = 11 ∨ k = 12 ∨ k = 13 by omega) with e | e | e | e | e | e | e | e | e | e | e <;> subst e <;> omega
      have u1 := mul_bound (x := y) (y := t) (A := 2649400000) (B := 2147483648) Y.out HT.out
      obtain ⟨u, hu⟩ : ∃ u, y * t = u := ⟨_, rfl⟩
      rw [hu] at u1
      have v1 := tdiv_bound (x := u) (d := 1073741824) (by omega) u1
      obtain ⟨v, hv⟩ : ∃ v, u.tdiv 1073741824 = v := ⟨_, rfl⟩
      have v2 : -5298800000 ≤ v ∧ v ≤ 5298800000 := by
        have : u.tdiv ((1073741824 : Nat) : Int) = v := hv
        rw [this] at v1
        omega
      obtain ⟨z, hz⟩ : ∃ z, v.tdiv kl = z := ⟨_, rfl⟩
      have z1 : -883133333 ≤ z ∧ z ≤ 883133333 := by
        have a : z.natAbs ≤ 883133333 := by
          have e : z.natAbs = v.natAbs / kl.natAbs := by rw [← hz, Int.natAbs_tdiv]; rfl
          rw [e]
          exact Nat.le_trans (Nat.div_le_div_left (show 6 ≤ kl.natAbs by omega) (by omega)) (show v.natAbs / 6 ≤ 883133333 by omega)
        omega
      have ua : -9223372036854775808 ≤ u := by omega
      have ub : u ≤ 9223372036854775807 := by omega
      obtain ⟨va, vb⟩ := v2
      obtain ⟨za, zb⟩ := z1
      have nz : ¬ kl = 0 := by omega
      have ma : 6 ≤ kl := m6.1
      have mb : kl ≤ 156 := m6.2
      obtain ⟨ta, tb⟩ := HT.out
      have la : 2 ≤ l := by omega
      have lc : l ≤ 12 := by omega
      have KK := Lib.hid hk
      rw [hk]
      clear u1 v1 m6 hj hk
      go_wp2_with fail
      go_roundg (6 - (j + 1))
      case measure => have := HG.out; have := HJ6.out; omega
      case rel => exact ⟨j + 1, 1073741824 - z, rfl, congrArg (Value.int .i64) (by have := KK.out; omega), rfl, by have := HJ6.out; show _ ≤ _; omega, ⟨by omega, by omega⟩, rfl⟩
    · obtain rfl : j = 6 := by have := HJ.out; omega
      rw [show (13 : Int) - 2 * ((6 : Nat) : Int) = 1 by decide]
      have u1 := mul_bound (x := x) (y := t) (A := 1686629713) (B := 2147483648) ⟨by have := X.out; omega, by have := X.out; omega⟩ HT.out
      obtain ⟨u, hu⟩ : ∃ u, x * t = u := ⟨_, rfl⟩
      rw [hu] at u1
      have v1 := tdiv_bound (x := u) (d := 1073741824) (by omega) u1
      obtain ⟨v, hv⟩ : ∃ v, u.tdiv 1073741824 = v := ⟨_, rfl⟩
      have v2 : -4294967296 ≤ v ∧ v ≤ 4294967296 := by
        have : u.tdiv ((1073741824 : Nat) : Int) = v := hv
        rw [this] at v1
        omega
      have ua : -9223372036854775808 ≤ u := by omega
      have ub : u ≤ 9223372036854775807 := by omega
      obtain ⟨va, vb⟩ := v2
      obtain ⟨ta, tb⟩ := HT.out
      clear u1 v1
      go_wp2_with fail
      go_ret
      exact ⟨v, rfl, ⟨va, vb⟩, rfl⟩
theorem rough_any (n : Int) (h0 : -5400000 ≤ n) (h1 : n ≤ 5400000) (w : World) :
    Calls Tryd.prog 64 #[.int .i64 n] w fun e w' => ∃ r : Int, e = .returned (.int .i64 r) ∧ (-4294967296 ≤ r ∧ r ≤ 4294967296) ∧ w' = w := by
  by_cases c : n < 0
  · obtain ⟨m, hm⟩ : ∃ m, 0 - n = m := ⟨_, rfl⟩
    have C := Lib.hid (fun wx => rough_pos m (by omega) (by omega) wx)
    have m1 : 0 < m := by omega
    have m2 : m ≤ 5400000 := by omega
    go_enter Tryd.func64, Tryd.ntmps64
    go_wp2_with fail
    refine (C.out _).mono ?_
    rintro e w1 ⟨r, rfl, ⟨r1, r2⟩, rfl⟩
    go_wp2_with fail
    go_ret
    exact ⟨-r, rfl, ⟨by omega, by omega⟩, rfl⟩
  · exact rough_pos n (by omega) h1 w
set_option maxHeartbeats 1000000 in
theorem guess_any (v : Int) (w : World) (v1 : -9223372036854775808 ≤ v) (v2 : v ≤ 9223372036854775807) :
    Calls Tryd.prog 54 #[.int .i64 v] w fun e w' => ∃ r : Int, e = .returned (.int .i64 r) ∧ (-5400000 ≤ r ∧ r ≤ 5400000) ∧ w' = w := by
  have C := Lib.hid (fun n h0 h1 wx => rough_any n h0 h1 wx)
  go_enter Tryd.func54, Tryd.ntmps54
  go_wp2_with fail
  go_loopg [3, 4] 10800000 (fun m v3 v4 wr => ∃ l h : Int, m = (h - l).toNat ∧ v3 = .int .i64 l ∧ v4 = .int .i64 h ∧ Hid (-5400000 ≤ l ∧ l ≤ h ∧ h ≤ 5400000) ∧ w = wr)
  case atStart => exact ⟨-5400000, 5400000, rfl, rfl, rfl, ⟨by decide, by decide, by decide⟩, rfl⟩
  case round =>
    obtain ⟨l, h, hm, rfl, rfl, HB, rfl⟩ := hrel
    have HG := Lib.hid hm
    clear hm
    obtain ⟨b1, b2, b3⟩ := HB.out
    by_cases c : l < h
    · obtain ⟨d, hd⟩ : ∃ d, h - l = d := ⟨_, rfl⟩
      obtain ⟨f, hf⟩ : ∃ f, d + 1 = f := ⟨_, rfl⟩
      obtain ⟨g, hg⟩ : ∃ g, f.tdiv 2 = g := ⟨_, rfl⟩
      have g1 : 1 ≤ g ∧ g ≤ d := by rw [← hg, Int.tdiv_eq_ediv_of_nonneg (by omega)]; omega
      obtain ⟨m, hm⟩ : ∃ m, l + g = m := ⟨_, rfl⟩
      have m1 : l < m := by omega
      have m2 : m ≤ h := by omega
      have C := Lib.hid (fun wx => C.out m (by omega) (by omega) wx)
      have d1 : 0 < d := by omega
      have d2 : d ≤ 10800000 := by omega
      have f1 : f ≤ 10800001 := by omega
      have f0 : 0 < f := by omega
      obtain ⟨g0, gd⟩ := g1
      have g3 : g ≤ 10800000 := by omega
      have LH := Lib.hid (show l < h from c)
      go_wp2_with fail
      refine (C.out _).mono ?_
      rintro e w1 ⟨r, rfl, ⟨r1, r2⟩, rfl⟩
      by_cases k : r ≤ v
      · go_wp2_with fail
        go_roundg ((h - m).toNat)
        case measure => have := HG.out; omega
        case rel => exact ⟨m, h, rfl, rfl, rfl, ⟨by omega, by omega, by omega⟩, rfl⟩
      · go_wp2_with fail
        go_roundg ((m - 1 - l).toNat)
        case measure => have := HG.out; omega
        case rel => exact ⟨l, m - 1, rfl, rfl, rfl, ⟨by omega, by omega, by omega⟩, rfl⟩
    · go_wp2_with fail
      go_ret
      exact ⟨l, rfl, ⟨by omega, by omega⟩, rfl⟩
end Go.Proofs.YtebhflmmdfbjkaaDoor

/- Arctrig: the reference's Floor: the greatest angle whose sine is at most a number. -/
namespace Go.Proofs.YtebhflmmdfbjkaaDoor
open Go.RowKit
set_option linter.unusedVariables false
set_option maxRecDepth 100000

theorem bln_le (n v : Int) : (L6.hi n ≤ v → blN n v ≤ 0) ∧ (v < L6.hi n → blN n v = 1) ∧ -1 ≤ blN n v ∧ blN n v ≤ 1 := by
  unfold blN L6.hi
  by_cases h : L6.ex n = true
  · rw [if_pos h]
    by_cases c : L6.fl n = v
    · rw [if_pos ⟨h, c⟩]; omega
    · rw [if_neg (fun k => c k.2)]; split <;> omega
  · rw [if_neg h, if_neg (fun k => h k.1)]; split <;> omega
theorem bln_ge (n v : Int) : (v ≤ L6.lo n → 0 ≤ blN n v) ∧ (L6.lo n < v → blN n v = -1) := by
  unfold blN L6.lo
  by_cases h : L6.ex n = true
  · by_cases c : L6.fl n = v
    · rw [if_pos ⟨h, c⟩]; omega
    · rw [if_neg (fun k => c k.2)]; split <;> omega
  · rw [if_neg (fun k => h k.1)]; split <;> omega
set_option maxHeartbeats 4000000 in
theorem rFloor7 (v : Int) (w : World) (v1 : -1073741824 ≤ v) (v2 : v ≤ 1073741824) :
    Calls Tryd.prog 35 #[.int .i64 v] w fun e w' => e = .returned (.int .i64 (L6.aF v)) ∧ Below w.heap.size w w' := by
  have CG := Lib.hid (fun wx => guess_any v wx (by omega) (by omega))
  have CB := Lib.hid (fun n wx => rBelow n v wx)
  have bot := Lib.hid (show L6.hi (-5400000) ≤ v by rw [L6.hi_bottom]; omega)
  have FE : Hid (∀ n, L6.IsF v n → L6.aF v = n) := Lib.hid (fun n h => L6.aF_eq h)
  have BL := Lib.hid (fun n => bln_le n v)
  generalize L6.aF v = res at *
  have HB := Lib.hid (Below.refl w.heap.size w)
  go_enter Tryd.func35, Tryd.ntmps35
  go_wp2_with fail
  refine (CG.out _).mono ?_
  rintro e w1 ⟨g, rfl, ⟨g1, g2⟩, hww⟩
  replace hww := hww.symm
  subst hww
  go_wp2_with fail
  go_loopg [3, 4] ((g + 5400000).toNat) (fun m v3 v4 wr => ∃ l s : Int, m = (l + 5400000).toNat ∧ v3 = .int .i64 l ∧ v4 = .int .i64 s ∧ Hid (-5400000 ≤ l ∧ l ≤ 5400000 ∧ 1 ≤ s ∧ s ≤ 43200004 ∧ (-5400000 < l → s + l ≤ 5400001)) ∧ Hid (Below w.heap.size w wr))
  case atStart => exact ⟨g, 1, rfl, rfl, rfl, ⟨g1, g2, by decide, by decide, fun _ => by omega⟩, HB⟩
  case round =>
    obtain ⟨l, s, hm, rfl, rfl, HI, HB⟩ := hrel
    have HG := Lib.hid hm
    clear hm
    obtain ⟨b1, b2, b3, b4, b5⟩ := HI.out
    obtain ⟨c1, c2, c3, c4⟩ := BL.out l
    have C := Lib.hid (fun wx => CB.out l wx)
    generalize blN l v = b at *
    go_wp2_with fail
    refine (C.out _).mono ?_
    rintro e w2 ⟨rfl, hb⟩
    have HB := Lib.hid (bstep HB.out hb)
    clear hb C
    by_cases k : 0 < b
    · have k1 : v < L6.hi l := by
        refine Classical.byContradiction fun c => ?_
        have := c1 (by omega)
        omega
      have k2 : -5400000 < l := by
        refine Classical.byContradiction fun c => ?_
        obtain rfl : l = -5400000 := by omega
        have := bot.out
        omega
      have K := Lib.hid (b5 k2)
      clear c1 c2 b5 k1
      obtain ⟨l', hl'⟩ : ∃ l', l - s = l' := ⟨_, rfl⟩
      obtain ⟨s', hs'⟩ : ∃ s', 2 * s = s' := ⟨_, rfl⟩
      have q1 : -60000000 ≤ l' := by omega
      have q2 : l' < 5400000 := by omega
      have q3 : s' ≤ 86400008 := by omega
      have q4 : 2 ≤ s' := by omega
      have EQ := Lib.hid (And.intro hl' hs')
      have LL := Lib.hid k2
      by_cases f : l' < -5400000
      · go_wp2_with fail
        go_roundg 0
        case measure => have := HG.out; have := LL.out; omega
        case rel => exact ⟨-5400000, s', rfl, rfl, rfl, ⟨by decide, by decide, by have := EQ.out; omega, by have := EQ.out; have := K.out; omega, fun h => absurd h (by omega)⟩, HB⟩
      · go_wp2_with fail
        go_roundg ((l' + 5400000).toNat)
        case measure => have := HG.out; have := EQ.out; omega
        case rel => exact ⟨l', s', rfl, rfl, rfl, ⟨by omega, by omega, by omega, by have := EQ.out; have := K.out; omega, fun h => by have := EQ.out; have := K.out; omega⟩, HB⟩
    · have k1 : L6.hi l ≤ v := by
        refine Classical.byContradiction fun c => ?_
        have := c2 (by omega)
        omega
      have K1 := Lib.hid k1
      clear c1 c2 b5 k1 HI HG
      go_wp2_with fail
      go_loopg [3, 5, 6] ((5400000 - l).toNat) (fun m v3 v5 v6 wr => ∃ l h s : Int, m = (5400001 - h).toNat ∧ v3 = .int .i64 l ∧ v5 = .int .i64 h ∧ v6 = .int .i64 s ∧ Hid (-5400000 ≤ l ∧ l ≤ 5400000 ∧ l < h ∧ L6.hi l ≤ v ∧ 1 ≤ s ∧ s ≤ 43200004 ∧ h ≤ 60000000 ∧ (5400000 < h → l = 5400000) ∧ (h < 5400000 → s ≤ h + 5400000) ∧ (h = 5400000 → s ≤ 21600000)) ∧ Hid (Below w.heap.size w wr))
      case atStart => exact ⟨l, l + 1, 1, by omega, rfl, rfl, rfl, ⟨b1, b2, by omega, K1.out, by decide, by decide, by omega, fun h => by omega, fun h => by omega, fun h => by omega⟩, HB⟩
      case round =>
        obtain ⟨l2, h2, s2, hm, rfl, rfl, rfl, HI, HB⟩ := hrel
        have HG := Lib.hid hm
        clear hm K1
        obtain ⟨d1, d2, d3, d4, d5, d6, d7, d8, d9, da⟩ := HI.out
        have D4 := Lib.hid d4
        clear d4
        by_cases f : h2 ≤ 5400000
        · obtain ⟨c1, c2, c5, c6⟩ := BL.out h2
          have C := Lib.hid (fun wx => CB.out h2 wx)
          generalize blN h2 v = b at *
          have F := Lib.hid (And.intro d9 da)
          clear d8 d9 da
          go_wp2_with fail
          refine (C.out _).mono ?_
          rintro e w3 ⟨rfl, hb⟩
          have HB := Lib.hid (bstep HB.out hb)
          clear hb C
          by_cases k : b ≤ 0
          · have k1 : L6.hi h2 ≤ v := by
              refine Classical.byContradiction fun c => ?_
              have := c2 (by omega)
              omega
            have K1 := Lib.hid k1
            clear c1 c2 k1
            obtain ⟨h', hh'⟩ : ∃ h', h2 + s2 = h' := ⟨_, rfl⟩
            obtain ⟨s', hs'⟩ : ∃ s', 2 * s2 = s' := ⟨_, rfl⟩
            have q1 : -5400000 < h' := by omega
            have q2 : h' ≤ 60000000 := by omega
            have q3 : s' ≤ 86400008 := by omega
            have q4 : 2 ≤ s' := by omega
            have EQ := Lib.hid (And.intro hh' hs')
            have LL := Lib.hid (And.intro d3 d5)
            by_cases x : h2 < 5400000
            · by_cases y : h' > 5400000
              · go_wp2_with fail
                go_roundg 1
                case measure => have := HG.out; omega
                case rel => exact ⟨h2, 5400000, s', rfl, rfl, rfl, rfl, ⟨by omega, by omega, by omega, K1.out, by omega, by have := EQ.out; have := F.out; omega, by decide, fun h => by omega, fun h => by omega, fun h => by have := EQ.out; have := F.out; omega⟩, HB⟩
              · go_wp2_with fail
                go_roundg ((5400001 - h').toNat)
                case measure => have := HG.out; have := EQ.out; have := LL.out; omega
                case rel => exact ⟨h2, h', s', rfl, rfl, rfl, rfl, ⟨by omega, by omega, by have := EQ.out; have := LL.out; omega, K1.out, by omega, by have := EQ.out; have := F.out; omega, by omega, fun h => by omega, fun h => by have := EQ.out; have := F.out; omega, fun h => by have := EQ.out; have := F.out; omega⟩, HB⟩
            · go_wp2_with fail
              go_roundg 0
              case measure => have := HG.out; omega
              case rel => exact ⟨h2, h', s', by have := EQ.out; have := LL.out; omega, rfl, rfl, rfl, ⟨by omega, by omega, by have := EQ.out; have := LL.out; omega, K1.out, by omega, by have := EQ.out; have := F.out; omega, by omega, fun h => by omega, fun h => by have := EQ.out; have := LL.out; omega, fun h => by have := EQ.out; have := LL.out; omega⟩, HB⟩
          · have k1 : v < L6.hi h2 := by
              refine Classical.byContradiction fun c => ?_
              have := c1 (by omega)
              omega
            have K1 := Lib.hid k1
            clear c1 c2 k1 HI HG F
            have x : ¬ l2 = 5400000 := by omega
            have xb : (l2 == 5400000) = false := by simp [x]
            go_wp2_with fail
            go_loopg [3, 5] ((h2 - l2).toNat) (fun m v3 v5 wr => ∃ l h : Int, m = (h - l).toNat ∧ v3 = .int .i64 l ∧ v5 = .int .i64 h ∧ Hid (-5400000 ≤ l ∧ l < h ∧ h ≤ 5400000 ∧ L6.hi l ≤ v ∧ v < L6.hi h) ∧ Hid (Below w.heap.size w wr))
            case atStart => exact ⟨l2, h2, rfl, rfl, rfl, ⟨d1, d3, f, D4.out, K1.out⟩, HB⟩
            case round =>
              obtain ⟨l3, h3, hm, rfl, rfl, HI, HB⟩ := hrel
              have HG := Lib.hid hm
              clear hm K1 D4
              obtain ⟨e1, e2, e3, e4, e5⟩ := HI.out
              have E4 := Lib.hid (And.intro e4 e5)
              clear e4 e5
              by_cases y : l3 + 1 < h3
              · obtain ⟨d, hd⟩ : ∃ d, h3 - l3 = d := ⟨_, rfl⟩
                obtain ⟨q, hq⟩ : ∃ q, d.tdiv 2 = q := ⟨_, rfl⟩
                have q1 : 1 ≤ q ∧ q < d := by rw [← hq, Int.tdiv_eq_ediv_of_nonneg (by omega)]; omega
                obtain ⟨m, hm⟩ : ∃ m, l3 + q = m := ⟨_, rfl⟩
                have m1 : l3 < m := by omega
                have m2 : m < h3 := by omega
                obtain ⟨c1, c2, c5, c6⟩ := BL.out m
                have C := Lib.hid (fun wx => CB.out m wx)
                generalize blN m v = b at *
                have dd1 : 0 < d := by omega
                have dd2 : d ≤ 10800000 := by omega
                obtain ⟨q1, q2⟩ := q1
                have q3 : q ≤ 10800000 := by omega
                go_wp2_with fail
                refine (C.out _).mono ?_
                rintro e w4 ⟨rfl, hb⟩
                have HB := Lib.hid (bstep HB.out hb)
                clear hb C
                by_cases k : b ≤ 0
                · have k1 : L6.hi m ≤ v := by
                    refine Classical.byContradiction fun c => ?_
                    have := c2 (by omega)
                    omega
                  have K1 := Lib.hid k1
                  clear c1 c2 k1
                  go_wp2_with fail
                  go_roundg ((h3 - m).toNat)
                  case measure => have := HG.out; omega
                  case rel => exact ⟨m, h3, rfl, rfl, rfl, ⟨by omega, by omega, by omega, K1.out, E4.out.2⟩, HB⟩
                · have k1 : v < L6.hi m := by
                    refine Classical.byContradiction fun c => ?_
                    have := c1 (by omega)
                    omega
                  have K1 := Lib.hid k1
                  clear c1 c2 k1
                  go_wp2_with fail
                  go_roundg ((m - l3).toNat)
                  case measure => have := HG.out; omega
                  case rel => exact ⟨l3, m, rfl, rfl, rfl, ⟨by omega, by omega, by omega, E4.out.1, K1.out⟩, HB⟩
              · have r : res = l3 := FE.out l3 ⟨e1, by omega, E4.out.1, .inr (by rw [show l3 + 1 = h3 by omega]; exact E4.out.2)⟩
                have r := Lib.hid r
                go_wp2_with fail
                go_ret
                exact ⟨rfl, HB.out⟩
        · have x : l2 = 5400000 := d8 (by omega)
          have r : res = 5400000 := FE.out 5400000 ⟨by decide, by decide, by have := D4.out; rw [x] at this; exact this, .inl rfl⟩
          have r := Lib.hid r
          clear d8 d9 da
          go_wp2_with fail
          go_ret
          exact ⟨rfl, HB.out⟩
theorem rCeil7 (v : Int) (w : World) (v1 : -1073741824 ≤ v) (v2 : v ≤ 1073741824) :
    Calls Tryd.prog 36 #[.int .i64 v] w fun e w' => e = .returned (.int .i64 (L6.aHi v)) ∧ Below w.heap.size w w' := by
  obtain ⟨m, hm⟩ : ∃ m, 0 - v = m := ⟨_, rfl⟩
  have C := Lib.hid (fun wx => rFloor7 m wx (by omega) (by omega))
  have e : L6.aHi v = 0 - L6.aF m := by unfold L6.aHi; rw [show -v = m by omega]; omega
  have f := L6.aF_is m (by omega)
  have f1 := f.lo
  have f2 := f.hi
  rw [e]
  generalize L6.aF m = r at *
  clear e f
  have hm' : -v = m := by omega
  have m1 : -1073741824 ≤ m := by omega
  have m2 : m ≤ 1073741824 := by omega
  go_enter Tryd.func36, Tryd.ntmps36
  go_wp2_with fail
  refine (C.out _).mono ?_
  rintro e w1 ⟨rfl, hb⟩
  go_wp2_with fail
  go_ret
  exact ⟨ret_int (by omega), hb⟩
end Go.Proofs.YtebhflmmdfbjkaaDoor

/- Arctrig: the reference's Asin, Acos, Ahav. -/
namespace Go.Proofs.YtebhflmmdfbjkaaDoor
open Go.RowKit
set_option linter.unusedVariables false
set_option maxRecDepth 100000

theorem rValid7 (a b : Int) (w : World) :
    Calls Tryd.prog 26 #[.agg #[.int .i64 a, .int .i64 b]] w fun e w' => e = .returned (.bool (fok a b)) ∧ Below w.heap.size w w' := by
  obtain ⟨a0, a1, af0, af1, alt⟩ := At2.new w (.int .i64 a) (.int .i64 b) 23
  unfold fok
  by_cases c1 : a ≤ b
  · by_cases c2 : a ≥ -2147483648
    · by_cases c3 : b ≤ 2147483648
      · rw [decide_eq_true (show -2147483648 ≤ a ∧ b ≤ 2147483648 ∧ a ≤ b by omega)]
        go_enter Tryd.func26, Tryd.ntmps26
        go_wp2
        go_ret
        exact ⟨rfl, below1 _ _⟩
      · rw [decide_eq_false (show ¬ (-2147483648 ≤ a ∧ b ≤ 2147483648 ∧ a ≤ b) by omega)]
        go_enter Tryd.func26, Tryd.ntmps26
        go_wp2
        go_ret
        exact ⟨rfl, below1 _ _⟩
    · rw [decide_eq_false (show ¬ (-2147483648 ≤ a ∧ b ≤ 2147483648 ∧ a ≤ b) by omega)]
      go_enter Tryd.func26, Tryd.ntmps26
      go_wp2
      go_ret
      exact ⟨rfl, below1 _ _⟩
  · rw [decide_eq_false (show ¬ (-2147483648 ≤ a ∧ b ≤ 2147483648 ∧ a ≤ b) by omega)]
    go_enter Tryd.func26, Tryd.ntmps26
    go_wp2
    go_ret
    exact ⟨rfl, below1 _ _⟩
theorem rValid7_is (a b : Int) (r : Bool) (h : fok a b = r) (w : World) :
    Calls Tryd.prog 26 #[.agg #[.int .i64 a, .int .i64 b]] w fun e w' => e = .returned (.bool r) ∧ Below w.heap.size w w' := h ▸ rValid7 a b w
/-- the errors and the answers -/
def aE (a b : Int) : Int := if fok a b = true then (if max a (-1073741824) > min b 1073741824 then 2 else 0) else 1
noncomputable def asL (a b : Int) : Int := if aE a b = 0 then L6.aLo (max a (-1073741824)) else 0
noncomputable def asH (a b : Int) : Int := if aE a b = 0 then L6.aHi (min b 1073741824) else 0
noncomputable def acL (a b : Int) : Int := if aE a b = 0 then 5400000 - asH a b else 0
noncomputable def acH (a b : Int) : Int := if aE a b = 0 then 5400000 - asL a b else 0
def hE (a b : Int) : Int := if fok a b = true then (if max a 0 > min b 1073741824 then 2 else 0) else 1
noncomputable def ahL (a b : Int) : Int := if hE a b = 0 then acL (1073741824 - 2 * min b 1073741824) (1073741824 - 2 * max a 0) else 0
noncomputable def ahH (a b : Int) : Int := if hE a b = 0 then acH (1073741824 - 2 * min b 1073741824) (1073741824 - 2 * max a 0) else 0

theorem rAsin_bad (a b : Int) (w : World) (h : fok a b = false) : Calls Tryd.prog 15 #[.agg #[.int .i64 a, .int .i64 b]] w fun e w' => e = .returned (.tuple #[.agg #[.int .i64 (0), .int .i64 (0)], .int .i64 1]) ∧ Below w.heap.size w w' := by
  have C0 := Lib.hid (fun wx => rValid7_is a b false h wx)
  clear h
  obtain ⟨A, R⟩ := At2.two w (.int .i64 a) (.int .i64 b) (.int .i64 0) (.int .i64 0) 23 25
  have HB := Lib.hid (below2 w (.cells #[.int .i64 a, .int .i64 b] 23) (.cells #[.int .i64 0, .int .i64 0] 25))
  obtain ⟨A0, A1, -, -, -⟩ := id A
  go_enter Tryd.func15, Tryd.ntmps15
  go_wp2_with fail
  refine (C0.out _).mono ?_
  rintro e w1 ⟨rfl, hb⟩
  have A := A.keep hb
  have R := R.keep hb
  have HB := Lib.hid (bstep HB.out hb)
  clear hb A0 A1
  obtain ⟨A0, A1, -, -, -⟩ := id A
  obtain ⟨R0, R1, R2, R3, -⟩ := id R
  obtain ⟨z0, z1⟩ := set2 R0 R1 (.int .i64 (0)) (.int .i64 (0))
  go_wp2_with fail
  refine bodyPost_ret (v := .tuple #[.agg #[.int .i64 (0), .int .i64 (0)], .int .i64 1]) (by simp [results, Tryd.results15, go_sem, z0, z1]) rfl ⟨rfl, ?_⟩
  exact below_set2 HB.out (by omega) _ _

theorem rAsin_r00 (a b : Int) (w : World) (h : fok a b = true) (cx : ¬ a < -1073741824) (cy : ¬ b > 1073741824) (cz : a > b) : Calls Tryd.prog 15 #[.agg #[.int .i64 a, .int .i64 b]] w fun e w' => e = .returned (.tuple #[.agg #[.int .i64 (0), .int .i64 (0)], .int .i64 2]) ∧ Below w.heap.size w w' := by
  have C0 := Lib.hid (fun wx => rValid7_is a b true h wx)
  clear h
  obtain ⟨A, R⟩ := At2.two w (.int .i64 a) (.int .i64 b) (.int .i64 0) (.int .i64 0) 23 25
  have HB := Lib.hid (below2 w (.cells #[.int .i64 a, .int .i64 b] 23) (.cells #[.int .i64 0, .int .i64 0] 25))
  obtain ⟨A0, A1, -, -, -⟩ := id A
  go_enter Tryd.func15, Tryd.ntmps15
  go_wp2_with fail
  refine (C0.out _).mono ?_
  rintro e w1 ⟨rfl, hb⟩
  have A := A.keep hb
  have R := R.keep hb
  have HB := Lib.hid (bstep HB.out hb)
  clear hb A0 A1
  obtain ⟨A0, A1, -, -, -⟩ := id A
  obtain ⟨R0, R1, R2, R3, -⟩ := id R
  obtain ⟨z0, z1⟩ := set2 R0 R1 (.int .i64 (0)) (.int .i64 (0))
  go_wp2_with fail
  refine bodyPost_ret (v := .tuple #[.agg #[.int .i64 (0), .int .i64 (0)], .int .i64 2]) (by simp [results, Tryd.results15, go_sem, z0, z1]) rfl ⟨rfl, ?_⟩
  exact below_set2 HB.out (by omega) _ _

theorem rAsin_o00 (a b l u : Int) (w : World) (h : fok a b = true) (cx : ¬ a < -1073741824) (cy : ¬ b > 1073741824) (cz : ¬ a > b)
    (C1 : Hid (∀ wx, Calls Tryd.prog 35 #[.int .i64 a] wx fun e w' => e = .returned (.int .i64 l) ∧ Below wx.heap.size wx w'))
    (C2 : Hid (∀ wx, Calls Tryd.prog 36 #[.int .i64 b] wx fun e w' => e = .returned (.int .i64 u) ∧ Below wx.heap.size wx w')) : Calls Tryd.prog 15 #[.agg #[.int .i64 a, .int .i64 b]] w fun e w' => e = .returned (.tuple #[.agg #[.int .i64 (l), .int .i64 (u)], .int .i64 0]) ∧ Below w.heap.size w w' := by
  have C0 := Lib.hid (fun wx => rValid7_is a b true h wx)
  clear h
  obtain ⟨A, R⟩ := At2.two w (.int .i64 a) (.int .i64 b) (.int .i64 0) (.int .i64 0) 23 25
  have HB := Lib.hid (below2 w (.cells #[.int .i64 a, .int .i64 b] 23) (.cells #[.int .i64 0, .int .i64 0] 25))
  obtain ⟨A0, A1, -, -, -⟩ := id A
  go_enter Tryd.func15, Tryd.ntmps15
  go_wp2_with fail
  refine (C0.out _).mono ?_
  rintro e w1 ⟨rfl, hb⟩
  have A := A.keep hb
  have R := R.keep hb
  have HB := Lib.hid (bstep HB.out hb)
  clear hb A0 A1
  obtain ⟨A0, A1, -, -, -⟩ := id A
  go_wp2_with fail
  refine (C1.out _).mono ?_
  rintro e w2 ⟨rfl, hb⟩
  have R := R.keep hb
  have HB := Lib.hid (bstep HB.out hb)
  clear hb A0 A1
  go_wp2_with fail
  refine (C2.out _).mono ?_
  rintro e w3 ⟨rfl, hb⟩
  have R := R.keep hb
  have HB := Lib.hid (bstep HB.out hb)
  clear hb
  obtain ⟨R0, R1, R2, R3, -⟩ := id R
  obtain ⟨z0, z1⟩ := set2 R0 R1 (.int .i64 (l)) (.int .i64 (u))
  go_wp2_with fail
  refine bodyPost_ret (v := .tuple #[.agg #[.int .i64 (l), .int .i64 (u)], .int .i64 0]) (by simp [results, Tryd.results15, go_sem, z0, z1]) rfl ⟨rfl, ?_⟩
  exact below_set2 HB.out (by omega) _ _

theorem rAsin_r01 (a b : Int) (w : World) (h : fok a b = true) (cx : ¬ a < -1073741824) (cy : b > 1073741824) (cz : a > 1073741824) : Calls Tryd.prog 15 #[.agg #[.int .i64 a, .int .i64 b]] w fun e w' => e = .returned (.tuple #[.agg #[.int .i64 (0), .int .i64 (0)], .int .i64 2]) ∧ Below w.heap.size w w' := by
  have C0 := Lib.hid (fun wx => rValid7_is a b true h wx)
  clear h
  obtain ⟨A, R⟩ := At2.two w (.int .i64 a) (.int .i64 b) (.int .i64 0) (.int .i64 0) 23 25
  have HB := Lib.hid (below2 w (.cells #[.int .i64 a, .int .i64 b] 23) (.cells #[.int .i64 0, .int .i64 0] 25))
  obtain ⟨A0, A1, -, -, -⟩ := id A
  go_enter Tryd.func15, Tryd.ntmps15
  go_wp2_with fail
  refine (C0.out _).mono ?_
  rintro e w1 ⟨rfl, hb⟩
  have A := A.keep hb
  have R := R.keep hb
  have HB := Lib.hid (bstep HB.out hb)
  clear hb A0 A1
  obtain ⟨A0, A1, -, -, -⟩ := id A
  obtain ⟨R0, R1, R2, R3, -⟩ := id R
  obtain ⟨z0, z1⟩ := set2 R0 R1 (.int .i64 (0)) (.int .i64 (0))
  go_wp2_with fail
  refine bodyPost_ret (v := .tuple #[.agg #[.int .i64 (0), .int .i64 (0)], .int .i64 2]) (by simp [results, Tryd.results15, go_sem, z0, z1]) rfl ⟨rfl, ?_⟩
  exact below_set2 HB.out (by omega) _ _

theorem rAsin_o01 (a b l u : Int) (w : World) (h : fok a b = true) (cx : ¬ a < -1073741824) (cy : b > 1073741824) (cz : ¬ a > 1073741824)
    (C1 : Hid (∀ wx, Calls Tryd.prog 35 #[.int .i64 a] wx fun e w' => e = .returned (.int .i64 l) ∧ Below wx.heap.size wx w'))
    (C2 : Hid (∀ wx, Calls Tryd.prog 36 #[.int .i64 1073741824] wx fun e w' => e = .returned (.int .i64 u) ∧ Below wx.heap.size wx w')) : Calls Tryd.prog 15 #[.agg #[.int .i64 a, .int .i64 b]] w fun e w' => e = .returned (.tuple #[.agg #[.int .i64 (l), .int .i64 (u)], .int .i64 0]) ∧ Below w.heap.size w w' := by
  have C0 := Lib.hid (fun wx => rValid7_is a b true h wx)
  clear h
  obtain ⟨A, R⟩ := At2.two w (.int .i64 a) (.int .i64 b) (.int .i64 0) (.int .i64 0) 23 25
  have HB := Lib.hid (below2 w (.cells #[.int .i64 a, .int .i64 b] 23) (.cells #[.int .i64 0, .int .i64 0] 25))
  obtain ⟨A0, A1, -, -, -⟩ := id A
  go_enter Tryd.func15, Tryd.ntmps15
  go_wp2_with fail
  refine (C0.out _).mono ?_
  rintro e w1 ⟨rfl, hb⟩
  have A := A.keep hb
  have R := R.keep hb
  have HB := Lib.hid (bstep HB.out hb)
  clear hb A0 A1
  obtain ⟨A0, A1, -, -, -⟩ := id A
  go_wp2_with fail
  refine (C1.out _).mono ?_
  rintro e w2 ⟨rfl, hb⟩
  have R := R.keep hb
  have HB := Lib.hid (bstep HB.out hb)
  clear hb A0 A1
  go_wp2_with fail
  refine (C2.out _).mono ?_
  rintro e w3 ⟨rfl, hb⟩
  have R := R.keep hb
  have HB := Lib.hid (bstep HB.out hb)
  clear hb
  obtain ⟨R0, R1, R2, R3, -⟩ := id R
  obtain ⟨z0, z1⟩ := set2 R0 R1 (.int .i64 (l)) (.int .i64 (u))
  go_wp2_with fail
  refine bodyPost_ret (v := .tuple #[.agg #[.int .i64 (l), .int .i64 (u)], .int .i64 0]) (by simp [results, Tryd.results15, go_sem, z0, z1]) rfl ⟨rfl, ?_⟩
  exact below_set2 HB.out (by omega) _ _

theorem rAsin_r10 (a b : Int) (w : World) (h : fok a b = true) (cx : a < -1073741824) (cy : ¬ b > 1073741824) (cz : (-1073741824) > b) : Calls Tryd.prog 15 #[.agg #[.int .i64 a, .int .i64 b]] w fun e w' => e = .returned (.tuple #[.agg #[.int .i64 (0), .int .i64 (0)], .int .i64 2]) ∧ Below w.heap.size w w' := by
  have C0 := Lib.hid (fun wx => rValid7_is a b true h wx)
  clear h
  obtain ⟨A, R⟩ := At2.two w (.int .i64 a) (.int .i64 b) (.int .i64 0) (.int .i64 0) 23 25
  have HB := Lib.hid (below2 w (.cells #[.int .i64 a, .int .i64 b] 23) (.cells #[.int .i64 0, .int .i64 0] 25))
  obtain ⟨A0, A1, -, -, -⟩ := id A
  go_enter Tryd.func15, Tryd.ntmps15
  go_wp2_with fail
  refine (C0.out _).mono ?_
  rintro e w1 ⟨rfl, hb⟩
  have A := A.keep hb
  have R := R.keep hb
  have HB := Lib.hid (bstep HB.out hb)
  clear hb A0 A1
  obtain ⟨A0, A1, -, -, -⟩ := id A
  obtain ⟨R0, R1, R2, R3, -⟩ := id R
  obtain ⟨z0, z1⟩ := set2 R0 R1 (.int .i64 (0)) (.int .i64 (0))
  go_wp2_with fail
  refine bodyPost_ret (v := .tuple #[.agg #[.int .i64 (0), .int .i64 (0)], .int .i64 2]) (by simp [results, Tryd.results15, go_sem, z0, z1]) rfl ⟨rfl, ?_⟩
  exact below_set2 HB.out (by omega) _ _

theorem rAsin_o10 (a b l u : Int) (w : World) (h : fok a b = true) (cx : a < -1073741824) (cy : ¬ b > 1073741824) (cz : ¬ (-1073741824) > b)
    (C1 : Hid (∀ wx, Calls Tryd.prog 35 #[.int .i64 (-1073741824)] wx fun e w' => e = .returned (.int .i64 l) ∧ Below wx.heap.size wx w'))
    (C2 : Hid (∀ wx, Calls Tryd.prog 36 #[.int .i64 b] wx fun e w' => e = .returned (.int .i64 u) ∧ Below wx.heap.size wx w')) : Calls Tryd.prog 15 #[.agg #[.int .i64 a, .int .i64 b]] w fun e w' => e = .returned (.tuple #[.agg #[.int .i64 (l), .int .i64 (u)], .int .i64 0]) ∧ Below w.heap.size w w' := by
  have C0 := Lib.hid (fun wx => rValid7_is a b true h wx)
  clear h
  obtain ⟨A, R⟩ := At2.two w (.int .i64 a) (.int .i64 b) (.int .i64 0) (.int .i64 0) 23 25
  have HB := Lib.hid (below2 w (.cells #[.int .i64 a, .int .i64 b] 23) (.cells #[.int .i64 0, .int .i64 0] 25))
  obtain ⟨A0, A1, -, -, -⟩ := id A
  go_enter Tryd.func15, Tryd.ntmps15
  go_wp2_with fail
  refine (C0.out _).mono ?_
  rintro e w1 ⟨rfl, hb⟩
  have A := A.keep hb
  have R := R.keep hb
  have HB := Lib.hid (bstep HB.out hb)
  clear hb A0 A1
  obtain ⟨A0, A1, -, -, -⟩ := id A
  go_wp2_with fail
  refine (C1.out _).mono ?_
  rintro e w2 ⟨rfl, hb⟩
  have R := R.keep hb
  have HB := Lib.hid (bstep HB.out hb)
  clear hb A0 A1
  go_wp2_with fail
  refine (C2.out _).mono ?_
  rintro e w3 ⟨rfl, hb⟩
  have R := R.keep hb
  have HB := Lib.hid (bstep HB.out hb)
  clear hb
  obtain ⟨R0, R1, R2, R3, -⟩ := id R
  obtain ⟨z0, z1⟩ := set2 R0 R1 (.int .i64 (l)) (.int .i64 (u))
  go_wp2_with fail
  refine bodyPost_ret (v := .tuple #[.agg #[.int .i64 (l), .int .i64 (u)], .int .i64 0]) (by simp [results, Tryd.results15, go_sem, z0, z1]) rfl ⟨rfl, ?_⟩
  exact below_set2 HB.out (by omega) _ _

theorem rAsin_o11 (a b l u : Int) (w : World) (h : fok a b = true) (cx : a < -1073741824) (cy : b > 1073741824) (cz : ¬ (-1073741824) > 1073741824)
    (C1 : Hid (∀ wx, Calls Tryd.prog 35 #[.int .i64 (-1073741824)] wx fun e w' => e = .returned (.int .i64 l) ∧ Below wx.heap.size wx w'))
    (C2 : Hid (∀ wx, Calls Tryd.prog 36 #[.int .i64 1073741824] wx fun e w' => e = .returned (.int .i64 u) ∧ Below wx.heap.size wx w')) : Calls Tryd.prog 15 #[.agg #[.int .i64 a, .int .i64 b]] w fun e w' => e = .returned (.tuple #[.agg #[.int .i64 (l), .int .i64 (u)], .int .i64 0]) ∧ Below w.heap.size w w' := by
  have C0 := Lib.hid (fun wx => rValid7_is a b true h wx)
  clear h
  obtain ⟨A, R⟩ := At2.two w (.int .i64 a) (.int .i64 b) (.int .i64 0) (.int .i64 0) 23 25
  have HB := Lib.hid (below2 w (.cells #[.int .i64 a, .int .i64 b] 23) (.cells #[.int .i64 0, .int .i64 0] 25))
  obtain ⟨A0, A1, -, -, -⟩ := id A
  go_enter Tryd.func15, Tryd.ntmps15
  go_wp2_with fail
  refine (C0.out _).mono ?_
  rintro e w1 ⟨rfl, hb⟩
  have A := A.keep hb
  have R := R.keep hb
  have HB := Lib.hid (bstep HB.out hb)
  clear hb A0 A1
  obtain ⟨A0, A1, -, -, -⟩ := id A
  go_wp2_with fail
  refine (C1.out _).mono ?_
  rintro e w2 ⟨rfl, hb⟩
  have R := R.keep hb
  have HB := Lib.hid (bstep HB.out hb)
  clear hb A0 A1
  go_wp2_with fail
  refine (C2.out _).mono ?_
  rintro e w3 ⟨rfl, hb⟩
  have R := R.keep hb
  have HB := Lib.hid (bstep HB.out hb)
  clear hb
  obtain ⟨R0, R1, R2, R3, -⟩ := id R
  obtain ⟨z0, z1⟩ := set2 R0 R1 (.int .i64 (l)) (.int .i64 (u))
  go_wp2_with fail
  refine bodyPost_ret (v := .tuple #[.agg #[.int .i64 (l), .int .i64 (u)], .int .i64 0]) (by simp [results, Tryd.results15, go_sem, z0, z1]) rfl ⟨rfl, ?_⟩
  exact below_set2 HB.out (by omega) _ _

theorem fok_two {a b : Int} (h : fok a b = true) : -2147483648 ≤ a ∧ b ≤ 2147483648 ∧ a ≤ b := by unfold fok at h; simpa using h
theorem rAsin7 (a b : Int) (w : World) : Calls Tryd.prog 15 #[.agg #[.int .i64 a, .int .i64 b]] w fun e w' => e = .returned (.tuple #[.agg #[.int .i64 (asL a b), .int .i64 (asH a b)], .int .i64 (aE a b)]) ∧ Below w.heap.size w w' := by
  rcases Bool.eq_false_or_eq_true (fok a b) with h | h
  · obtain ⟨k1, k2, k3⟩ := fok_two h
    by_cases cx : a < -1073741824
    · by_cases cy : b > 1073741824
      · have e : aE a b = 0 := by unfold aE; rw [if_pos h, if_neg (by omega)]
        unfold asL asH
        rw [if_pos e, if_pos e, e, show max a (-1073741824) = -1073741824 by omega, show min b 1073741824 = 1073741824 by omega]
        exact rAsin_o11 a b _ _ w h cx cy (by omega) (fun wx => rFloor7 _ wx (by omega) (by omega)) (fun wx => rCeil7 _ wx (by omega) (by omega))
      · by_cases cz : -1073741824 > b
        · have e : aE a b = 2 := by unfold aE; rw [if_pos h, if_pos (by omega)]
          unfold asL asH
          rw [if_neg (by omega), if_neg (by omega), e]
          exact rAsin_r10 a b w h cx cy cz
        · have e : aE a b = 0 := by unfold aE; rw [if_pos h, if_neg (by omega)]
          unfold asL asH
          rw [if_pos e, if_pos e, e, show max a (-1073741824) = -1073741824 by omega, show min b 1073741824 = b by omega]
          exact rAsin_o10 a b _ _ w h cx cy cz (fun wx => rFloor7 _ wx (by omega) (by omega)) (fun wx => rCeil7 _ wx (by omega) (by omega))
    · by_cases cy : b > 1073741824
      · by_cases cz : a > 1073741824
        · have e : aE a b = 2 := by unfold aE; rw [if_pos h, if_pos (by omega)]
          unfold asL asH
          rw [if_neg (by omega), if_neg (by omega), e]
          exact rAsin_r01 a b w h cx cy cz
        · have e : aE a b = 0 := by unfold aE; rw [if_pos h, if_neg (by omega)]
          unfold asL asH
          rw [if_pos e, if_pos e, e, show max a (-1073741824) = a by omega, show min b 1073741824 = 1073741824 by omega]
          exact rAsin_o01 a b _ _ w h cx cy cz (fun wx => rFloor7 _ wx (by omega) (by omega)) (fun wx => rCeil7 _ wx (by omega) (by omega))
      · have e : aE a b = 0 := by unfold aE; rw [if_pos h, if_neg (by omega)]
        unfold asL asH
        rw [if_pos e, if_pos e, e, show max a (-1073741824) = a by omega, show min b 1073741824 = b by omega]
        exact rAsin_o00 a b _ _ w h cx cy (by omega) (fun wx => rFloor7 _ wx (by omega) (by omega)) (fun wx => rCeil7 _ wx (by omega) (by omega))
  · have e : aE a b = 1 := by unfold aE; rw [if_neg (by rw [h]; simp)]
    unfold asL asH
    rw [if_neg (by omega), if_neg (by omega), e]
    exact rAsin_bad a b w h

theorem rAcos_e (a b er : Int) (w : World) (he : ¬ er = 0) (C0 : Hid (∀ wx, Calls Tryd.prog 15 #[.agg #[.int .i64 a, .int .i64 b]] wx fun e w' => e = .returned (.tuple #[.agg #[.int .i64 (0), .int .i64 (0)], .int .i64 er]) ∧ Below wx.heap.size wx w')) : Calls Tryd.prog 16 #[.agg #[.int .i64 a, .int .i64 b]] w fun e w' => e = .returned (.tuple #[.agg #[.int .i64 (0), .int .i64 (0)], .int .i64 er]) ∧ Below w.heap.size w w' := by
  obtain ⟨A, R⟩ := At2.two w (.int .i64 a) (.int .i64 b) (.int .i64 0) (.int .i64 0) 23 25
  have HB := Lib.hid (below2 w (.cells #[.int .i64 a, .int .i64 b] 23) (.cells #[.int .i64 0, .int .i64 0] 25))
  obtain ⟨A0, A1, -, -, -⟩ := id A
  go_enter Tryd.func16, Tryd.ntmps16
  go_wp2_with fail
  refine (C0.out _).mono ?_
  rintro e w1 ⟨rfl, hb⟩
  have R := R.keep hb
  have HB := Lib.hid (bstep HB.out hb)
  clear hb A0 A1
  have R := R.alloc (.cells #[.int .i64 0, .int .i64 0] 25)
  have N := At2.new w1 (.int .i64 0) (.int .i64 0) 25
  have HB := Lib.hid (bstep HB.out (below1 w1 (.cells #[.int .i64 0, .int .i64 0] 25)))
  obtain ⟨N0, N1, -, -, -⟩ := id N
  obtain ⟨R0, R1, R2, R3, -⟩ := id R
  obtain ⟨z0, z1⟩ := set2 R0 R1 (.int .i64 (0)) (.int .i64 (0))
  go_wp2_with fail
  refine bodyPost_ret (v := .tuple #[.agg #[.int .i64 (0), .int .i64 (0)], .int .i64 er]) (by simp [results, Tryd.results16, go_sem, z0, z1]) rfl ⟨rfl, ?_⟩
  exact below_set2 HB.out (by omega) _ _

theorem rAcos_o (a b l u : Int) (w : World) (l1 : -5400000 ≤ l) (l2 : l ≤ 5400000) (u1 : -5400000 ≤ u) (u2 : u ≤ 5400000) (C0 : Hid (∀ wx, Calls Tryd.prog 15 #[.agg #[.int .i64 a, .int .i64 b]] wx fun e w' => e = .returned (.tuple #[.agg #[.int .i64 (l), .int .i64 (u)], .int .i64 0]) ∧ Below wx.heap.size wx w')) : Calls Tryd.prog 16 #[.agg #[.int .i64 a, .int .i64 b]] w fun e w' => e = .returned (.tuple #[.agg #[.int .i64 (5400000 - u), .int .i64 (5400000 - l)], .int .i64 0]) ∧ Below w.heap.size w w' := by
  obtain ⟨A, R⟩ := At2.two w (.int .i64 a) (.int .i64 b) (.int .i64 0) (.int .i64 0) 23 25
  have HB := Lib.hid (below2 w (.cells #[.int .i64 a, .int .i64 b] 23) (.cells #[.int .i64 0, .int .i64 0] 25))
  obtain ⟨A0, A1, -, -, -⟩ := id A
  go_enter Tryd.func16, Tryd.ntmps16
  go_wp2_with fail
  refine (C0.out _).mono ?_
  rintro e w1 ⟨rfl, hb⟩
  have R := R.keep hb
  have HB := Lib.hid (bstep HB.out hb)
  clear hb A0 A1
  have R := R.alloc (.cells #[.int .i64 l, .int .i64 u] 25)
  have N := At2.new w1 (.int .i64 l) (.int .i64 u) 25
  have HB := Lib.hid (bstep HB.out (below1 w1 (.cells #[.int .i64 l, .int .i64 u] 25)))
  obtain ⟨N0, N1, -, -, -⟩ := id N
  obtain ⟨R0, R1, R2, R3, -⟩ := id R
  obtain ⟨z0, z1⟩ := set2 R0 R1 (.int .i64 (5400000 - u)) (.int .i64 (5400000 - l))
  go_wp2_with fail
  refine bodyPost_ret (v := .tuple #[.agg #[.int .i64 (5400000 - u), .int .i64 (5400000 - l)], .int .i64 0]) (by simp [results, Tryd.results16, go_sem, z0, z1]) rfl ⟨rfl, ?_⟩
  exact below_set2 HB.out (by omega) _ _

theorem aE_in {a b : Int} (h : aE a b = 0) : L6.InA (max a (-1073741824)) (min b 1073741824) := by
  unfold aE at h
  split at h
  · split at h
    · omega
    · exact ⟨by omega, by omega, by omega⟩
  · omega
theorem rAcos7 (a b : Int) (w : World) : Calls Tryd.prog 16 #[.agg #[.int .i64 a, .int .i64 b]] w fun e w' => e = .returned (.tuple #[.agg #[.int .i64 (acL a b), .int .i64 (acH a b)], .int .i64 (aE a b)]) ∧ Below w.heap.size w w' := by
  have C0 := Lib.hid (fun wx => rAsin7 a b wx)
  by_cases e : aE a b = 0
  · obtain ⟨i1, i2, i3, i4, i5⟩ := L6.asin_in (aE_in e)
    have h1 : asL a b = L6.aLo (max a (-1073741824)) := by unfold asL; rw [if_pos e]
    have h2 : asH a b = L6.aHi (min b 1073741824) := by unfold asH; rw [if_pos e]
    unfold acL acH
    rw [if_pos e, if_pos e, e]
    rw [e] at C0
    exact rAcos_o a b _ _ w (by omega) (by omega) (by omega) (by omega) C0
  · have h1 : asL a b = 0 := by unfold asL; rw [if_neg e]
    have h2 : asH a b = 0 := by unfold asH; rw [if_neg e]
    unfold acL acH
    rw [if_neg e, if_neg e]
    rw [h1, h2] at C0
    exact rAcos_e a b _ w e C0

theorem rAhav_bad (a b : Int) (w : World) (h : fok a b = false) : Calls Tryd.prog 17 #[.agg #[.int .i64 a, .int .i64 b]] w fun e w' => e = .returned (.tuple #[.agg #[.int .i64 (0), .int .i64 (0)], .int .i64 1]) ∧ Below w.heap.size w w' := by
  have C0 := Lib.hid (fun wx => rValid7_is a b false h wx)
  clear h
  obtain ⟨A, R⟩ := At2.two w (.int .i64 a) (.int .i64 b) (.int .i64 0) (.int .i64 0) 23 25
  have HB := Lib.hid (below2 w (.cells #[.int .i64 a, .int .i64 b] 23) (.cells #[.int .i64 0, .int .i64 0] 25))
  obtain ⟨A0, A1, -, -, -⟩ := id A
  go_enter Tryd.func17, Tryd.ntmps17
  go_wp2_with fail
  refine (C0.out _).mono ?_
  rintro e w1 ⟨rfl, hb⟩
  have A := A.keep hb
  have R := R.keep hb
  have HB := Lib.hid (bstep HB.out hb)
  clear hb A0 A1
  obtain ⟨A0, A1, -, -, -⟩ := id A
  obtain ⟨R0, R1, R2, R3, -⟩ := id R
  obtain ⟨z0, z1⟩ := set2 R0 R1 (.int .i64 (0)) (.int .i64 (0))
  go_wp2_with fail
  refine bodyPost_ret (v := .tuple #[.agg #[.int .i64 (0), .int .i64 (0)], .int .i64 1]) (by simp [results, Tryd.results17, go_sem, z0, z1]) rfl ⟨rfl, ?_⟩
  exact below_set2 HB.out (by omega) _ _

theorem rAhav_r00 (a b : Int) (w : World) (h : fok a b = true) (cx : ¬ a < 0) (cy : ¬ b > 1073741824) (cz : a > b) : Calls Tryd.prog 17 #[.agg #[.int .i64 a, .int .i64 b]] w fun e w' => e = .returned (.tuple #[.agg #[.int .i64 (0), .int .i64 (0)], .int .i64 2]) ∧ Below w.heap.size w w' := by
  have C0 := Lib.hid (fun wx => rValid7_is a b true h wx)
  clear h
  obtain ⟨A, R⟩ := At2.two w (.int .i64 a) (.int .i64 b) (.int .i64 0) (.int .i64 0) 23 25
  have HB := Lib.hid (below2 w (.cells #[.int .i64 a, .int .i64 b] 23) (.cells #[.int .i64 0, .int .i64 0] 25))
  obtain ⟨A0, A1, -, -, -⟩ := id A
  go_enter Tryd.func17, Tryd.ntmps17
  go_wp2_with fail
  refine (C0.out _).mono ?_
  rintro e w1 ⟨rfl, hb⟩
  have A := A.keep hb
  have R := R.keep hb
  have HB := Lib.hid (bstep HB.out hb)
  clear hb A0 A1
  obtain ⟨A0, A1, -, -, -⟩ := id A
  obtain ⟨R0, R1, R2, R3, -⟩ := id R
  obtain ⟨z0, z1⟩ := set2 R0 R1 (.int .i64 (0)) (.int .i64 (0))
  go_wp2_with fail
  refine bodyPost_ret (v := .tuple #[.agg #[.int .i64 (0), .int .i64 (0)], .int .i64 2]) (by simp [results, Tryd.results17, go_sem, z0, z1]) rfl ⟨rfl, ?_⟩
  exact below_set2 HB.out (by omega) _ _

theorem rAhav_o00 (a b l u p0 p q0 q : Int) (w : World) (h : fok a b = true) (cx : ¬ a < 0) (cy : ¬ b > 1073741824) (cz : ¬ a > b) (hp0 : 2 * b = p0) (hp : 1073741824 - p0 = p) (hq0 : 2 * a = q0) (hq : 1073741824 - q0 = q)
    (C1 : Hid (∀ wx, Calls Tryd.prog 16 #[.agg #[.int .i64 p, .int .i64 q]] wx fun e w' => e = .returned (.tuple #[.agg #[.int .i64 (l), .int .i64 (u)], .int .i64 0]) ∧ Below wx.heap.size wx w')) : Calls Tryd.prog 17 #[.agg #[.int .i64 a, .int .i64 b]] w fun e w' => e = .returned (.tuple #[.agg #[.int .i64 (l), .int .i64 (u)], .int .i64 0]) ∧ Below w.heap.size w w' := by
  have C0 := Lib.hid (fun wx => rValid7_is a b true h wx)
  obtain ⟨k1, k2, k3⟩ := fok_two h
  have p1 : -4294967296 ≤ p0 := by omega
  have p2 : p0 ≤ 4294967296 := by omega
  have p3 : -5368709120 ≤ p := by omega
  have p4 : p ≤ 5368709120 := by omega
  have r1 : -4294967296 ≤ q0 := by omega
  have r2 : q0 ≤ 4294967296 := by omega
  have r3 : -5368709120 ≤ q := by omega
  have r4 : q ≤ 5368709120 := by omega
  clear h
  obtain ⟨A, R⟩ := At2.two w (.int .i64 a) (.int .i64 b) (.int .i64 0) (.int .i64 0) 23 25
  have HB := Lib.hid (below2 w (.cells #[.int .i64 a, .int .i64 b] 23) (.cells #[.int .i64 0, .int .i64 0] 25))
  obtain ⟨A0, A1, -, -, -⟩ := id A
  go_enter Tryd.func17, Tryd.ntmps17
  go_wp2_with fail
  refine (C0.out _).mono ?_
  rintro e w1 ⟨rfl, hb⟩
  have A := A.keep hb
  have R := R.keep hb
  have HB := Lib.hid (bstep HB.out hb)
  clear hb A0 A1
  obtain ⟨A0, A1, -, -, -⟩ := id A
  go_wp2_with fail
  refine (C1.out _).mono ?_
  rintro e w2 ⟨rfl, hb⟩
  have R := R.keep hb
  have HB := Lib.hid (bstep HB.out hb)
  clear hb A0 A1
  obtain ⟨R0, R1, R2, R3, -⟩ := id R
  obtain ⟨z0, z1⟩ := set2 R0 R1 (.int .i64 (l)) (.int .i64 (u))
  go_wp2_with fail
  refine bodyPost_ret (v := .tuple #[.agg #[.int .i64 (l), .int .i64 (u)], .int .i64 0]) (by simp [results, Tryd.results17, go_sem, z0, z1]) rfl ⟨rfl, ?_⟩
  exact below_set2 HB.out (by omega) _ _

theorem rAhav_r01 (a b : Int) (w : World) (h : fok a b = true) (cx : ¬ a < 0) (cy : b > 1073741824) (cz : a > 1073741824) : Calls Tryd.prog 17 #[.agg #[.int .i64 a, .int .i64 b]] w fun e w' => e = .returned (.tuple #[.agg #[.int .i64 (0), .int .i64 (0)], .int .i64 2]) ∧ Below w.heap.size w w' := by
  have C0 := Lib.hid (fun wx => rValid7_is a b true h wx)
  clear h
  obtain ⟨A, R⟩ := At2.two w (.int .i64 a) (.int .i64 b) (.int .i64 0) (.int .i64 0) 23 25
  have HB := Lib.hid (below2 w (.cells #[.int .i64 a, .int .i64 b] 23) (.cells #[.int .i64 0, .int .i64 0] 25))
  obtain ⟨A0, A1, -, -, -⟩ := id A
  go_enter Tryd.func17, Tryd.ntmps17
  go_wp2_with fail
  refine (C0.out _).mono ?_
  rintro e w1 ⟨rfl, hb⟩
  have A := A.keep hb
  have R := R.keep hb
  have HB := Lib.hid (bstep HB.out hb)
  clear hb A0 A1
  obtain ⟨A0, A1, -, -, -⟩ := id A
  obtain ⟨R0, R1, R2, R3, -⟩ := id R
  obtain ⟨z0, z1⟩ := set2 R0 R1 (.int .i64 (0)) (.int .i64 (0))
  go_wp2_with fail
  refine bodyPost_ret (v := .tuple #[.agg #[.int .i64 (0), .int .i64 (0)], .int .i64 2]) (by simp [results, Tryd.results17, go_sem, z0, z1]) rfl ⟨rfl, ?_⟩
  exact below_set2 HB.out (by omega) _ _

theorem rAhav_o01 (a b l u q0 q : Int) (w : World) (h : fok a b = true) (cx : ¬ a < 0) (cy : b > 1073741824) (cz : ¬ a > 1073741824) (hq0 : 2 * a = q0) (hq : 1073741824 - q0 = q)
    (C1 : Hid (∀ wx, Calls Tryd.prog 16 #[.agg #[.int .i64 (-1073741824), .int .i64 q]] wx fun e w' => e = .returned (.tuple #[.agg #[.int .i64 (l), .int .i64 (u)], .int .i64 0]) ∧ Below wx.heap.size wx w')) : Calls Tryd.prog 17 #[.agg #[.int .i64 a, .int .i64 b]] w fun e w' => e = .returned (.tuple #[.agg #[.int .i64 (l), .int .i64 (u)], .int .i64 0]) ∧ Below w.heap.size w w' := by
  have C0 := Lib.hid (fun wx => rValid7_is a b true h wx)
  obtain ⟨k1, k2, k3⟩ := fok_two h
  have r1 : -4294967296 ≤ q0 := by omega
  have r2 : q0 ≤ 4294967296 := by omega
  have r3 : -5368709120 ≤ q := by omega
  have r4 : q ≤ 5368709120 := by omega
  clear h
  obtain ⟨A, R⟩ := At2.two w (.int .i64 a) (.int .i64 b) (.int .i64 0) (.int .i64 0) 23 25
  have HB := Lib.hid (below2 w (.cells #[.int .i64 a, .int .i64 b] 23) (.cells #[.int .i64 0, .int .i64 0] 25))
  obtain ⟨A0, A1, -, -, -⟩ := id A
  go_enter Tryd.func17, Tryd.ntmps17
  go_wp2_with fail
  refine (C0.out _).mono ?_
  rintro e w1 ⟨rfl, hb⟩
  have A := A.keep hb
  have R := R.keep hb
  have HB := Lib.hid (bstep HB.out hb)
  clear hb A0 A1
  obtain ⟨A0, A1, -, -, -⟩ := id A
  go_wp2_with fail
  refine (C1.out _).mono ?_
  rintro e w2 ⟨rfl, hb⟩
  have R := R.keep hb
  have HB := Lib.hid (bstep HB.out hb)
  clear hb A0 A1
  obtain ⟨R0, R1, R2, R3, -⟩ := id R
  obtain ⟨z0, z1⟩ := set2 R0 R1 (.int .i64 (l)) (.int .i64 (u))
  go_wp2_with fail
  refine bodyPost_ret (v := .tuple #[.agg #[.int .i64 (l), .int .i64 (u)], .int .i64 0]) (by simp [results, Tryd.results17, go_sem, z0, z1]) rfl ⟨rfl, ?_⟩
  exact below_set2 HB.out (by omega) _ _

theorem rAhav_r10 (a b : Int) (w : World) (h : fok a b = true) (cx : a < 0) (cy : ¬ b > 1073741824) (cz : 0 > b) : Calls Tryd.prog 17 #[.agg #[.int .i64 a, .int .i64 b]] w fun e w' => e = .returned (.tuple #[.agg #[.int .i64 (0), .int .i64 (0)], .int .i64 2]) ∧ Below w.heap.size w w' := by
  have C0 := Lib.hid (fun wx => rValid7_is a b true h wx)
  clear h
  obtain ⟨A, R⟩ := At2.two w (.int .i64 a) (.int .i64 b) (.int .i64 0) (.int .i64 0) 23 25
  have HB := Lib.hid (below2 w (.cells #[.int .i64 a, .int .i64 b] 23) (.cells #[.int .i64 0, .int .i64 0] 25))
  obtain ⟨A0, A1, -, -, -⟩ := id A
  go_enter Tryd.func17, Tryd.ntmps17
  go_wp2_with fail
  refine (C0.out _).mono ?_
  rintro e w1 ⟨rfl, hb⟩
  have A := A.keep hb
  have R := R.keep hb
  have HB := Lib.hid (bstep HB.out hb)
  clear hb A0 A1
  obtain ⟨A0, A1, -, -, -⟩ := id A
  obtain ⟨R0, R1, R2, R3, -⟩ := id R
  obtain ⟨z0, z1⟩ := set2 R0 R1 (.int .i64 (0)) (.int .i64 (0))
  go_wp2_with fail
  refine bodyPost_ret (v := .tuple #[.agg #[.int .i64 (0), .int .i64 (0)], .int .i64 2]) (by simp [results, Tryd.results17, go_sem, z0, z1]) rfl ⟨rfl, ?_⟩
  exact below_set2 HB.out (by omega) _ _

theorem rAhav_o10 (a b l u p0 p : Int) (w : World) (h : fok a b = true) (cx : a < 0) (cy : ¬ b > 1073741824) (cz : ¬ 0 > b) (hp0 : 2 * b = p0) (hp : 1073741824 - p0 = p)
    (C1 : Hid (∀ wx, Calls Tryd.prog 16 #[.agg #[.int .i64 p, .int .i64 1073741824]] wx fun e w' => e = .returned (.tuple #[.agg #[.int .i64 (l), .int .i64 (u)], .int .i64 0]) ∧ Below wx.heap.size wx w')) : Calls Tryd.prog 17 #[.agg #[.int .i64 a, .int .i64 b]] w fun e w' => e = .returned (.tuple #[.agg #[.int .i64 (l), .int .i64 (u)], .int .i64 0]) ∧ Below w.heap.size w w' := by
  have C0 := Lib.hid (fun wx => rValid7_is a b true h wx)
  obtain ⟨k1, k2, k3⟩ := fok_two h
  have p1 : -4294967296 ≤ p0 := by omega
  have p2 : p0 ≤ 4294967296 := by omega
  have p3 : -5368709120 ≤ p := by omega
  have p4 : p ≤ 5368709120 := by omega
  clear h
  obtain ⟨A, R⟩ := At2.two w (.int .i64 a) (.int .i64 b) (.int .i64 0) (.int .i64 0) 23 25
  have HB := Lib.hid (below2 w (.cells #[.int .i64 a, .int .i64 b] 23) (.cells #[.int .i64 0, .int .i64 0] 25))
  obtain ⟨A0, A1, -, -, -⟩ := id A
  go_enter Tryd.func17, Tryd.ntmps17
  go_wp2_with fail
  refine (C0.out _).mono ?_
  rintro e w1 ⟨rfl, hb⟩
  have A := A.keep hb
  have R := R.keep hb
  have HB := Lib.hid (bstep HB.out hb)
  clear hb A0 A1
  obtain ⟨A0, A1, -, -, -⟩ := id A
  go_wp2_with fail
  refine (C1.out _).mono ?_
  rintro e w2 ⟨rfl, hb⟩
  have R := R.keep hb
  have HB := Lib.hid (bstep HB.out hb)
  clear hb A0 A1
  obtain ⟨R0, R1, R2, R3, -⟩ := id R
  obtain ⟨z0, z1⟩ := set2 R0 R1 (.int .i64 (l)) (.int .i64 (u))
  go_wp2_with fail
  refine bodyPost_ret (v := .tuple #[.agg #[.int .i64 (l), .int .i64 (u)], .int .i64 0]) (by simp [results, Tryd.results17, go_sem, z0, z1]) rfl ⟨rfl, ?_⟩
  exact below_set2 HB.out (by omega) _ _

theorem rAhav_o11 (a b l u : Int) (w : World) (h : fok a b = true) (cx : a < 0) (cy : b > 1073741824) (cz : ¬ 0 > 1073741824) 
    (C1 : Hid (∀ wx, Calls Tryd.prog 16 #[.agg #[.int .i64 (-1073741824), .int .i64 1073741824]] wx fun e w' => e = .returned (.tuple #[.agg #[.int .i64 (l), .int .i64 (u)], .int .i64 0]) ∧ Below wx.heap.size wx w')) : Calls Tryd.prog 17 #[.agg #[.int .i64 a, .int .i64 b]] w fun e w' => e = .returned (.tuple #[.agg #[.int .i64 (l), .int .i64 (u)], .int .i64 0]) ∧ Below w.heap.size w w' := by
  have C0 := Lib.hid (fun wx => rValid7_is a b true h wx)
  obtain ⟨k1, k2, k3⟩ := fok_two h
  clear h
  obtain ⟨A, R⟩ := At2.two w (.int .i64 a) (.int .i64 b) (.int .i64 0) (.int .i64 0) 23 25
  have HB := Lib.hid (below2 w (.cells #[.int .i64 a, .int .i64 b] 23) (.cells #[.int .i64 0, .int .i64 0] 25))
  obtain ⟨A0, A1, -, -, -⟩ := id A
  go_enter Tryd.func17, Tryd.ntmps17
  go_wp2_with fail
  refine (C0.out _).mono ?_
  rintro e w1 ⟨rfl, hb⟩
  have A := A.keep hb
  have R := R.keep hb
  have HB := Lib.hid (bstep HB.out hb)
  clear hb A0 A1
  obtain ⟨A0, A1, -, -, -⟩ := id A
  go_wp2_with fail
  refine (C1.out _).mono ?_
  rintro e w2 ⟨rfl, hb⟩
  have R := R.keep hb
  have HB := Lib.hid (bstep HB.out hb)
  clear hb A0 A1
  obtain ⟨R0, R1, R2, R3, -⟩ := id R
  obtain ⟨z0, z1⟩ := set2 R0 R1 (.int .i64 (l)) (.int .i64 (u))
  go_wp2_with fail
  refine bodyPost_ret (v := .tuple #[.agg #[.int .i64 (l), .int .i64 (u)], .int .i64 0]) (by simp [results, Tryd.results17, go_sem, z0, z1]) rfl ⟨rfl, ?_⟩
  exact below_set2 HB.out (by omega) _ _

theorem rAhav7 (a b : Int) (w : World) : Calls Tryd.prog 17 #[.agg #[.int .i64 a, .int .i64 b]] w fun e w' => e = .returned (.tuple #[.agg #[.int .i64 (ahL a b), .int .i64 (ahH a b)], .int .i64 (hE a b)]) ∧ Below w.heap.size w w' := by
  rcases Bool.eq_false_or_eq_true (fok a b) with h | h
  · obtain ⟨k1, k2, k3⟩ := fok_two h
    have OK : ∀ x y : Int, -1073741824 ≤ x → x ≤ y → y ≤ 1073741824 → ∀ wx, Calls Tryd.prog 16 #[.agg #[.int .i64 x, .int .i64 y]] wx fun e w' => e = .returned (.tuple #[.agg #[.int .i64 (acL x y), .int .i64 (acH x y)], .int .i64 0]) ∧ Below wx.heap.size wx w' := fun x y h1 h2 h3 wx => by
      have c := rAcos7 x y wx
      have e : aE x y = 0 := by
        have : fok x y = true := (fok_iff x y).2 ⟨by omega, by omega, h2⟩
        unfold aE; rw [if_pos this, if_neg (by omega)]
      rw [e] at c
      exact c
    by_cases z : max a 0 > min b 1073741824
    · have e : hE a b = 2 := by unfold hE; rw [if_pos h, if_pos z]
      unfold ahL ahH
      rw [if_neg (by omega), if_neg (by omega), e]
      by_cases cx : a < 0
      · exact rAhav_r10 a b w h cx (by omega) (by omega)
      · exact rAhav_r01 a b w h cx (by omega) (by omega)
    · have e : hE a b = 0 := by unfold hE; rw [if_pos h, if_neg z]
      unfold ahL ahH
      rw [if_pos e, if_pos e, e]
      by_cases cx : a < 0
      · by_cases cy : b > 1073741824
        · rw [show 1073741824 - 2 * min b 1073741824 = -1073741824 by omega, show 1073741824 - 2 * max a 0 = 1073741824 by omega]
          exact rAhav_o11 a b _ _ w h cx cy (by omega) (OK _ _ (by omega) (by omega) (by omega))
        · rw [show 1073741824 - 2 * max a 0 = 1073741824 by omega, show min b 1073741824 = b by omega]
          exact rAhav_o10 a b _ _ (2 * b) (1073741824 - 2 * b) w h cx cy (by omega) rfl rfl (OK _ _ (by omega) (by omega) (by omega))
      · by_cases cy : b > 1073741824
        · rw [show 1073741824 - 2 * min b 1073741824 = -1073741824 by omega, show max a 0 = a by omega]
          exact rAhav_o01 a b _ _ (2 * a) (1073741824 - 2 * a) w h cx cy (by omega) rfl rfl (OK _ _ (by omega) (by omega) (by omega))
        · rw [show min b 1073741824 = b by omega, show max a 0 = a by omega]
          exact rAhav_o00 a b _ _ (2 * b) (1073741824 - 2 * b) (2 * a) (1073741824 - 2 * a) w h cx cy (by omega) rfl rfl rfl rfl (OK _ _ (by omega) (by omega) (by omega))
  · have e : hE a b = 1 := by unfold hE; rw [if_neg (by rw [h]; simp)]
    unfold ahL ahH
    rw [if_neg (by omega), if_neg (by omega), e]
    exact rAhav_bad a b w h
end Go.Proofs.YtebhflmmdfbjkaaDoor

/- Arctrig: what is asked of the program; the laws' small functions and examples. -/
namespace Go.Proofs.YtebhflmmdfbjkaaDoor
open Go.RowKit
set_option linter.unusedVariables false
set_option maxRecDepth 100000

def tAr (l h e : Int) : Value := .tuple #[.agg #[.int .i64 l, .int .i64 h], .int .i64 e]
/-- the program's arcsines answer as they should; its directions do so at the examples -/
structure ArProg (w : World) : Prop where
  asin : ∀ (a b : Int) (wx : World), Below w.heap.size w wx → I64 a → I64 b → Calls Tryd.prog 12 #[.agg #[.int .i64 a, .int .i64 b]] wx fun e w' => e = .returned (tAr (asL a b) (asH a b) (aE a b)) ∧ Below wx.heap.size wx w'
  acos : ∀ (a b : Int) (wx : World), Below w.heap.size w wx → I64 a → I64 b → Calls Tryd.prog 13 #[.agg #[.int .i64 a, .int .i64 b]] wx fun e w' => e = .returned (tAr (acL a b) (acH a b) (aE a b)) ∧ Below wx.heap.size wx w'
  ahav : ∀ (a b : Int) (wx : World), Below w.heap.size w wx → I64 a → I64 b → Calls Tryd.prog 14 #[.agg #[.int .i64 a, .int .i64 b]] wx fun e w' => e = .returned (tAr (ahL a b) (ahH a b) (hE a b)) ∧ Below wx.heap.size wx w'
  bear1 : ∀ (wx : World), Below w.heap.size w wx → Calls Tryd.prog 18 #[.agg #[.int .i64 1073741824, .int .i64 1073741824], .agg #[.int .i64 2147483648, .int .i64 2147483648]] wx fun e w' => e = .returned (tAr 1593903 1593904 0) ∧ Below wx.heap.size wx w'
  bear2 : ∀ (wx : World), Below w.heap.size w wx → Calls Tryd.prog 18 #[.agg #[.int .i64 (-1), .int .i64 1], .agg #[.int .i64 1073741824, .int .i64 1073741824]] wx fun e w' => e = .returned (tAr 21599999 21600001 0) ∧ Below wx.heap.size wx w'
theorem half_f : L6.aF 536870912 = 1800000 := L6.aF_eq ⟨by decide, by decide, by decide +kernel, .inr (by decide +kernel)⟩
theorem half_c : L6.aF (-536870912) = -1800000 := L6.aF_eq ⟨by decide, by decide, by decide +kernel, .inr (by decide +kernel)⟩
theorem tell_a1 : tAr (asL 536870912 536870912) (asH 536870912 536870912) (aE 536870912 536870912) = tAr 1800000 1800000 0 := by
  have e : aE 536870912 536870912 = 0 := by decide
  unfold asL asH
  rw [if_pos e, if_pos e, e, show max (536870912 : Int) (-1073741824) = 536870912 by decide, show min (536870912 : Int) 1073741824 = 536870912 by decide]
  unfold L6.aLo L6.aHi
  rw [half_f, half_c]
  rfl
theorem tell_a2 : tAr (ahL 268435456 268435456) (ahH 268435456 268435456) (hE 268435456 268435456) = tAr 3600000 3600000 0 := by
  have e : hE 268435456 268435456 = 0 := by decide
  have f : aE 536870912 536870912 = 0 := by decide
  unfold ahL ahH
  rw [if_pos e, if_pos e, e, show (1073741824 : Int) - 2 * min 268435456 1073741824 = 536870912 by decide, show (1073741824 : Int) - 2 * max 268435456 0 = 536870912 by decide]
  unfold acL acH asL asH
  rw [if_pos f, if_pos f, if_pos f, if_pos f, show max (536870912 : Int) (-1073741824) = 536870912 by decide, show min (536870912 : Int) 1073741824 = 536870912 by decide]
  unfold L6.aLo L6.aHi
  rw [half_f, half_c]
  rfl
theorem point_any (n : Int) (w : World) : Calls Tryd.prog 32 #[.int .i64 n] w fun e w' => e = .returned (.agg #[.int .i64 n, .int .i64 n]) ∧ Below w.heap.size w w' := by
  have R := At2.new w (.int .i64 0) (.int .i64 0) 23
  obtain ⟨R0, R1, -, -, -⟩ := id R
  go_enter Tryd.func32, Tryd.ntmps32
  go_wp2_with fail
  refine bodyPost_ret (v := .agg #[.int .i64 n, .int .i64 n]) (by simp [results, Tryd.results32, go_sem]) rfl ⟨rfl, ?_⟩
  exact below1 _ _
/-- an interval from -1 to 1 -/
def wOk (a b : Int) : Bool := decide (a ≤ b ∧ a ≥ -1073741824 ∧ b ≤ 1073741824)
theorem wOk_iff (a b : Int) : wOk a b = true ↔ (a ≤ b ∧ a ≥ -1073741824 ∧ b ≤ 1073741824) := by unfold wOk; simp
theorem within_any (a b : Int) (w : World) :
    Calls Tryd.prog 20 #[.agg #[.int .i64 a, .int .i64 b]] w fun e w' => e = .returned (.bool (wOk a b)) ∧ Below w.heap.size w w' := by
  obtain ⟨a0, a1, af0, af1, alt⟩ := At2.new w (.int .i64 a) (.int .i64 b) 23
  unfold wOk
  by_cases c1 : a ≤ b
  · by_cases c2 : a ≥ -1073741824
    · by_cases c3 : b ≤ 1073741824
      · rw [decide_eq_true (show a ≤ b ∧ a ≥ -1073741824 ∧ b ≤ 1073741824 by omega)]
        go_enter Tryd.func20, Tryd.ntmps20
        go_wp2
        go_ret
        exact ⟨rfl, below1 _ _⟩
      · rw [decide_eq_false (show ¬ (a ≤ b ∧ a ≥ -1073741824 ∧ b ≤ 1073741824) by omega)]
        go_enter Tryd.func20, Tryd.ntmps20
        go_wp2
        go_ret
        exact ⟨rfl, below1 _ _⟩
    · rw [decide_eq_false (show ¬ (a ≤ b ∧ a ≥ -1073741824 ∧ b ≤ 1073741824) by omega)]
      go_enter Tryd.func20, Tryd.ntmps20
      go_wp2
      go_ret
      exact ⟨rfl, below1 _ _⟩
  · rw [decide_eq_false (show ¬ (a ≤ b ∧ a ≥ -1073741824 ∧ b ≤ 1073741824) by omega)]
    go_enter Tryd.func20, Tryd.ntmps20
    go_wp2
    go_ret
    exact ⟨rfl, below1 _ _⟩
theorem within_is (a b : Int) (r : Bool) (h : wOk a b = r) (w : World) :
    Calls Tryd.prog 20 #[.agg #[.int .i64 a, .int .i64 b]] w fun e w' => e = .returned (.bool r) ∧ Below w.heap.size w w' := h ▸ within_any a b w
theorem told7 {f : Nat} {args : Array Value} {w : World} {v v' : Value} (h : v = v') (C : Calls Tryd.prog f args w fun e w' => e = .returned v ∧ Below w.heap.size w w') : Calls Tryd.prog f args w fun e w' => e = .returned v' ∧ Below w.heap.size w w' := h ▸ C
set_option maxHeartbeats 1000000 in
theorem awake7 (w0 : World) (P : ArProg w0) (w : World) (h0 : Below w0.heap.size w0 w) : Calls Tryd.prog 11 #[] w fun e w' => e = .returned (.bool true) ∧ Below w.heap.size w w' := by
  have KP := Lib.hid (fun n wx => point_any n wx)
  have C1 := Lib.hid (fun wx (hb : Below w0.heap.size w0 wx) => told7 tell_a1 (P.asin 536870912 536870912 wx hb ⟨by decide, by decide⟩ ⟨by decide, by decide⟩))
  have C2 := Lib.hid (fun wx (hb : Below w0.heap.size w0 wx) => told7 tell_a2 (P.ahav 268435456 268435456 wx hb ⟨by decide, by decide⟩ ⟨by decide, by decide⟩))
  have C3 := Lib.hid (fun wx (hb : Below w0.heap.size w0 wx) => P.bear1 wx hb)
  have C4 := Lib.hid (fun wx (hb : Below w0.heap.size w0 wx) => P.bear2 wx hb)
  unfold tAr at C1 C2 C3 C4
  have HB := Lib.hid (Below.refl w.heap.size w)
  clear P
  go_enter Tryd.func11, Tryd.ntmps11
  go_wp2_with fail
  refine (KP.out _ _).mono ?_
  rintro e w2 ⟨rfl, hb⟩
  have HB := Lib.hid (bstep HB.out hb)
  clear hb
  go_wp2_with fail
  refine (C1.out _ (bstep h0 HB.out)).mono ?_
  rintro e w3 ⟨rfl, hb⟩
  have HB := Lib.hid (bstep HB.out hb)
  clear hb
  have S := At2.new w3 (.int .i64 (1800000)) (.int .i64 (1800000)) 25
  have HB := Lib.hid (bstep HB.out (below1 w3 (.cells #[.int .i64 (1800000), .int .i64 (1800000)] 25)))
  go_wp2_with fail
  refine (KP.out _ _).mono ?_
  rintro e w4 ⟨rfl, hb⟩
  have S := S.keep hb
  have HB := Lib.hid (bstep HB.out hb)
  clear hb
  go_wp2_with fail
  refine (C2.out _ (bstep h0 HB.out)).mono ?_
  rintro e w5 ⟨rfl, hb⟩
  have S := S.keep hb
  have HB := Lib.hid (bstep HB.out hb)
  clear hb
  have S := S.alloc (.cells #[.int .i64 (3600000), .int .i64 (3600000)] 25)
  have T := At2.new w5 (.int .i64 (3600000)) (.int .i64 (3600000)) 25
  have HB := Lib.hid (bstep HB.out (below1 w5 (.cells #[.int .i64 (3600000), .int .i64 (3600000)] 25)))
  go_wp2_with fail
  refine (KP.out _ _).mono ?_
  rintro e w6 ⟨rfl, hb⟩
  have S := S.keep hb
  have T := T.keep hb
  have HB := Lib.hid (bstep HB.out hb)
  clear hb
  go_wp2_with fail
  refine (KP.out _ _).mono ?_
  rintro e w7 ⟨rfl, hb⟩
  have S := S.keep hb
  have T := T.keep hb
  have HB := Lib.hid (bstep HB.out hb)
  clear hb
  go_wp2_with fail
  refine (C3.out _ (bstep h0 HB.out)).mono ?_
  rintro e w8 ⟨rfl, hb⟩
  have S := S.keep hb
  have T := T.keep hb
  have HB := Lib.hid (bstep HB.out hb)
  clear hb
  have S := S.alloc (.cells #[.int .i64 (1593903), .int .i64 (1593904)] 25)
  have T := T.alloc (.cells #[.int .i64 (1593903), .int .i64 (1593904)] 25)
  have U := At2.new w8 (.int .i64 (1593903)) (.int .i64 (1593904)) 25
  have HB := Lib.hid (bstep HB.out (below1 w8 (.cells #[.int .i64 (1593903), .int .i64 (1593904)] 25)))
  go_wp2_with fail
  refine (KP.out _ _).mono ?_
  rintro e w9 ⟨rfl, hb⟩
  have S := S.keep hb
  have T := T.keep hb
  have U := U.keep hb
  have HB := Lib.hid (bstep HB.out hb)
  clear hb
  go_wp2_with fail
  refine (C4.out _ (bstep h0 HB.out)).mono ?_
  rintro e w10 ⟨rfl, hb⟩
  have S := S.keep hb
  have T := T.keep hb
  have U := U.keep hb
  have HB := Lib.hid (bstep HB.out hb)
  clear hb
  have S := S.alloc (.cells #[.int .i64 (21599999), .int .i64 (21600001)] 25)
  have T := T.alloc (.cells #[.int .i64 (21599999), .int .i64 (21600001)] 25)
  have U := U.alloc (.cells #[.int .i64 (21599999), .int .i64 (21600001)] 25)
  have V := At2.new w10 (.int .i64 (21599999)) (.int .i64 (21600001)) 25
  have HB := Lib.hid (bstep HB.out (below1 w10 (.cells #[.int .i64 (21599999), .int .i64 (21600001)] 25)))
  obtain ⟨S0, S1, -, -, -⟩ := id S
  obtain ⟨T0, T1, -, -, -⟩ := id T
  obtain ⟨U0, U1, -, -, -⟩ := id U
  obtain ⟨V0, V1, -, -, -⟩ := id V
  go_wp2_with fail
  go_ret
  exact ⟨rfl, HB.out⟩
end Go.Proofs.YtebhflmmdfbjkaaDoor
