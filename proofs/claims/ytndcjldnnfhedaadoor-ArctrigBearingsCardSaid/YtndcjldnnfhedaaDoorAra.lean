/- The reference of layer 7, and the examples. -/
import Derived.Test.YtndcjldnnfhedaaDoorTra
import Derived.Test.YtndcjldnnfhedaaDoorPld
/- Arctrig: the reference's guess: any angle from a quarter back to a quarter on. -/
namespace Go.Proofs.YtndcjldnnfhedaaDoor
open Go.RowKit
set_option linter.unusedVariables false
set_option maxRecDepth 100000

theorem mul_bound {x y : Int} {A B : Nat} (hx : -(A : Int) ≤ x ∧ x ≤ A) (hy : -(B : Int) ≤ y ∧ y ≤ B) : -((A * B : Nat) : Int) ≤ x * y ∧ x * y ≤ ((A * B : Nat) : Int) := by
  have a : (x * y).natAbs ≤ A * B := by rw [Int.natAbs_mul]; exact Nat.mul_le_mul (by omega) (by omega)
  omega
theorem tdiv_bound {x : Int} {A d : Nat} (hd : 0 < d) (hx : -(A : Int) ≤ x ∧ x ≤ A) : -((A / d : Nat) : Int) ≤ x.tdiv d ∧ x.tdiv d ≤ ((A / d : Nat) : Int) := by
  have a : (x.tdiv d).natAbs ≤ A / d := by
    rw [Int.natAbs_tdiv]
    exact Nat.div_le_div_right (by omega)
  omega
set_option maxHeartbeats 1000000 in
theorem rough_pos (n : Int) (h0 : 0 ≤ n) (h1 : n ≤ 5400000) (w : World) :
    Calls Tryd.prog 68 #[.int .i64 n] w fun e w' => ∃ r : Int, e = .returned (.int .i64 r) ∧ (-4294967296 ≤ r ∧ r ≤ 4294967296) ∧ w' = w := by
  have p1 : 0 ≤ n * 3373259426 ∧ n * 3373259426 ≤ 18215600900400000 := by omega
  obtain ⟨x, hx⟩ : ∃ x, (n * 3373259426).tdiv 10800000 = x := ⟨_, rfl⟩
  have x0 : 0 ≤ x ∧ x ≤ 1686629713 := by
    rw [← hx, Int.tdiv_eq_ediv_of_nonneg p1.1]; omega
  obtain ⟨p, hp⟩ : ∃ p, n * 3373259426 = p := ⟨_, rfl⟩
  rw [hp] at hx p1
  have q1 := mul_bound (x := x) (y := x) (A := 1686629713) (B := 1686629713) ⟨by omega, by omega⟩ ⟨by omega, by omega⟩
  obtain ⟨q, hq⟩ : ∃ q, x * x = q := ⟨_, rfl⟩
  rw [hq] at q1
  have y1 := tdiv_bound (x := q) (d := 1073741824) (by omega) q1
  obtain ⟨y, hy⟩ : ∃ y, q.tdiv 1073741824 = y := ⟨_, rfl⟩
  have y1 : -2649400000 ≤ y ∧ y ≤ 2649400000 := by
    have : q.tdiv ((1073741824 : Nat) : Int) = y := hy
    rw [this] at y1
    omega
  have Y := Lib.hid y1
  have X := Lib.hid x0
  obtain ⟨p1, p2⟩ := p1
  obtain ⟨q1, q2⟩ := q1
  have q3 : -9223372036854775808 ≤ q := by omega
  have q4 : q ≤ 9223372036854775807 := by omega
  obtain ⟨xa, xb⟩ := x0
  obtain ⟨ya, yb⟩ := y1
  clear q1 q2
  go_enter Tryd.func68, Tryd.ntmps68
  go_wp2_with fail
  go_loopg [5, 6] 6 (fun m v5 v6 wr => ∃ (j : Nat) (t : Int), m = 6 - j ∧ v6 = .int .i64 (13 - 2 * (j : Int)) ∧ v5 = .int .i64 t ∧ Hid (j ≤ 6) ∧ Hid (-2147483648 ≤ t ∧ t ≤ 2147483648) ∧ w = wr)
  case atStart => exact ⟨0, 1073741824, rfl, rfl, rfl, Nat.zero_le _, ⟨by decide, by decide⟩, rfl⟩
  case round =>
    obtain ⟨j, t, hm, rfl, rfl, HJ, HT, rfl⟩ := hrel
    have HG := Lib.hid hm
    clear hm
    by_cases hj : j < 6
    · have HJ6 := Lib.hid hj
      obtain ⟨k, hk⟩ : ∃ k, (13 : Int) - 2 * (j : Int) = k := ⟨_, rfl⟩
      obtain ⟨l, hl⟩ : ∃ l, k - 1 = l := ⟨_, rfl⟩
      obtain ⟨kl, hkl⟩ : ∃ kl, k * l = kl := ⟨_, rfl⟩
      have k3 : 3 ≤ k := by omega
      have k13 : k ≤ 13 := by omega
      have m6 : 6 ≤ kl ∧ kl ≤ 156 := by
        rcases (show k = 3 ∨ k = 4 ∨ k = 5 ∨ k = 6 ∨ k = 7 ∨ k = 8 ∨ k = 9 ∨ k = 10 ∨ k = 11 ∨ k = 12 ∨ k = 13 by omega) with e | e | e | e | e | e | e | e | e | e | e <;> subst e <;> omega
      have u1 := mul_bound (x := y) (y := t) (A := 2649400000) (B := 2147483648) Y.out HT.out
      obtain ⟨u, hu⟩ : ∃ u, y * t = u := ⟨_, rfl⟩
      rw [hu] at u1
      have v1 := tdiv_bound (x := u) (d := 1073741824) (by omega) u1
      obtain ⟨v, hv⟩ : ∃ v, u.tdiv 1073741824 = v := ⟨_, rfl⟩
      have v2 : -5298800000 ≤ v ∧ v ≤ 5298800000 := by
        have : u.tdiv ((1073741824 : Nat) : Int) = v := hv
        rw [this] at v1
        omega
      obtain ⟨z, hz⟩ : ∃ z, v.tdiv kl = z := ⟨_, rfl⟩
      have z1 : -883133333 ≤ z ∧ z ≤ 883133333 := by
        have a : z.natAbs ≤ 883133333 := by
          have e : z.natAbs = v.natAbs / kl.natAbs := by rw [← hz, Int.natAbs_tdiv]; rfl
          rw [e]
          exact Nat.le_trans (Nat.div_le_div_left (show 6 ≤ kl.natAbs by omega) (by omega)) (show v.natAbs / 6 ≤ 883133333 by omega)
        omega
      have ua : -9223372036854775808 ≤ u := by omega
      have ub : u ≤ 9223372036854775807 := by omega
      obtain ⟨va, vb⟩ := v2
      obtain ⟨za, zb⟩ := z1
      have nz : ¬ kl = 0 := by omega
      have ma : 6 ≤ kl := m6.1
      have mb : kl ≤ 156 := m6.2
      obtain ⟨ta, tb⟩ := HT.out
      have la : 2 ≤ l := by omega
      have lc : l ≤ 12 := by omega
      have KK := Lib.hid hk
      rw [hk]
      clear u1 v1 m6 hj hk
      go_wp2_with fail
      go_roundg (6 - (j + 1))
      case measure => have := HG.out; have := HJ6.out; omega
      case rel => exact ⟨j + 1, 1073741824 - z, rfl, congrArg (Value.int .i64) (by have := KK.out; omega), rfl, by have := HJ6.out; show _ ≤ _; omega, ⟨by omega, by omega⟩, rfl⟩
    · obtain rfl : j = 6 := by have := HJ.out; omega
      rw [show (13 : Int) - 2 * ((6 : Nat) : Int) = 1 by decide]
      have u1 := mul_bound (x := x) (y := t) (A := 1686629713) (B := 2147483648) ⟨by have := X.out; omega, by have := X.out; omega⟩ HT.out
      obtain ⟨u, hu⟩ : ∃ u, x * t = u := ⟨_, rfl⟩
      rw [hu] at u1
      have v1 := tdiv_bound (x := u) (d := 1073741824) (by omega) u1
      obtain ⟨v, hv⟩ : ∃ v, u.tdiv 1073741824 = v := ⟨_, rfl⟩
      have v2 : -4294967296 ≤ v ∧ v ≤ 4294967296 := by
        have : u.tdiv ((1073741824 : Nat) : Int) = v := hv
        rw [this] at v1
        omega
      have ua : -9223372036854775808 ≤ u := by omega
      have ub : u ≤ 9223372036854775807 := by omega
      obtain ⟨va, vb⟩ := v2
      obtain ⟨ta, tb⟩ := HT.out
      clear u1 v1
      go_wp2_with fail
      go_ret
      exact ⟨v, rfl, ⟨va, vb⟩, rfl⟩
theorem rough_any (n : Int) (h0 : -5400000 ≤ n) (h1 : n ≤ 5400000) (w : World) :
    Calls Tryd.prog 68 #[.int .i64 n] w fun e w' => ∃ r : Int, e = .returned (.int .i64 r) ∧ (-4294967296 ≤ r ∧ r ≤ 4294967296) ∧ w' = w := by
  by_cases c : n < 0
  · obtain ⟨m, hm⟩ : ∃ m, 0 - n = m := ⟨_, rfl⟩
    have C := Lib.hid (fun wx => rough_pos m (by omega) (by omega) wx)
    have m1 : 0 < m := by omega
    have m2 : m ≤ 5400000 := by omega
    go_enter Tryd.func68, Tryd.ntmps68
    go_wp2_with fail
    refine (C.out _).mono ?_
    rintro e w1 ⟨r, rfl, ⟨r1, r2⟩, rfl⟩
    go_wp2_with fail
    go_ret
    exact ⟨-r, rfl, ⟨by omega, by omega⟩, rfl⟩
  · exact rough_pos n (by omega) h1 w
end Go.Proofs.YtndcjldnnfhedaaDoor

/- Arctrig: the reference's Floor: the greatest angle whose sine is at most a number. -/
namespace Go.Proofs.YtndcjldnnfhedaaDoor
open Go.RowKit
set_option linter.unusedVariables false
set_option maxRecDepth 100000

theorem bln_le (n v : Int) : (L6.hi n ≤ v → blN n v ≤ 0) ∧ (v < L6.hi n → blN n v = 1) ∧ -1 ≤ blN n v ∧ blN n v ≤ 1 := by
  unfold blN L6.hi
  by_cases h : L6.ex n = true
  · rw [if_pos h]
    by_cases c : L6.fl n = v
    · rw [if_pos ⟨h, c⟩]; omega
    · rw [if_neg (fun k => c k.2)]; split <;> omega
  · rw [if_neg h, if_neg (fun k => h k.1)]; split <;> omega
theorem bln_ge (n v : Int) : (v ≤ L6.lo n → 0 ≤ blN n v) ∧ (L6.lo n < v → blN n v = -1) := by
  unfold blN L6.lo
  by_cases h : L6.ex n = true
  · by_cases c : L6.fl n = v
    · rw [if_pos ⟨h, c⟩]; omega
    · rw [if_neg (fun k => c k.2)]; split <;> omega
  · rw [if_neg (fun k => h k.1)]; split <;> omega
end Go.Proofs.YtndcjldnnfhedaaDoor

/- Arctrig: the reference's Asin, Acos, Ahav. -/
namespace Go.Proofs.YtndcjldnnfhedaaDoor
open Go.RowKit
set_option linter.unusedVariables false
set_option maxRecDepth 100000

theorem rValid7 (a b : Int) (w : World) :
    Calls Tryd.prog 23 #[.agg #[.int .i64 a, .int .i64 b]] w fun e w' => e = .returned (.bool (fok a b)) ∧ Below w.heap.size w w' := by
  obtain ⟨a0, a1, af0, af1, alt⟩ := At2.new w (.int .i64 a) (.int .i64 b) 23
  unfold fok
  by_cases c1 : a ≤ b
  · by_cases c2 : a ≥ -2147483648
    · by_cases c3 : b ≤ 2147483648
      · rw [decide_eq_true (show -2147483648 ≤ a ∧ b ≤ 2147483648 ∧ a ≤ b by omega)]
        go_enter Tryd.func23, Tryd.ntmps23
        go_wp2
        go_ret
        exact ⟨rfl, below1 _ _⟩
      · rw [decide_eq_false (show ¬ (-2147483648 ≤ a ∧ b ≤ 2147483648 ∧ a ≤ b) by omega)]
        go_enter Tryd.func23, Tryd.ntmps23
        go_wp2
        go_ret
        exact ⟨rfl, below1 _ _⟩
    · rw [decide_eq_false (show ¬ (-2147483648 ≤ a ∧ b ≤ 2147483648 ∧ a ≤ b) by omega)]
      go_enter Tryd.func23, Tryd.ntmps23
      go_wp2
      go_ret
      exact ⟨rfl, below1 _ _⟩
  · rw [decide_eq_false (show ¬ (-2147483648 ≤ a ∧ b ≤ 2147483648 ∧ a ≤ b) by omega)]
    go_enter Tryd.func23, Tryd.ntmps23
    go_wp2
    go_ret
    exact ⟨rfl, below1 _ _⟩
theorem rValid7_is (a b : Int) (r : Bool) (h : fok a b = r) (w : World) :
    Calls Tryd.prog 23 #[.agg #[.int .i64 a, .int .i64 b]] w fun e w' => e = .returned (.bool r) ∧ Below w.heap.size w w' := h ▸ rValid7 a b w
/-- the errors and the answers -/
def aE (a b : Int) : Int := if fok a b = true then (if max a (-1073741824) > min b 1073741824 then 2 else 0) else 1
noncomputable def asL (a b : Int) : Int := if aE a b = 0 then L6.aLo (max a (-1073741824)) else 0
noncomputable def asH (a b : Int) : Int := if aE a b = 0 then L6.aHi (min b 1073741824) else 0
noncomputable def acL (a b : Int) : Int := if aE a b = 0 then 5400000 - asH a b else 0
noncomputable def acH (a b : Int) : Int := if aE a b = 0 then 5400000 - asL a b else 0
def hE (a b : Int) : Int := if fok a b = true then (if max a 0 > min b 1073741824 then 2 else 0) else 1
noncomputable def ahL (a b : Int) : Int := if hE a b = 0 then acL (1073741824 - 2 * min b 1073741824) (1073741824 - 2 * max a 0) else 0
noncomputable def ahH (a b : Int) : Int := if hE a b = 0 then acH (1073741824 - 2 * min b 1073741824) (1073741824 - 2 * max a 0) else 0

theorem fok_two {a b : Int} (h : fok a b = true) : -2147483648 ≤ a ∧ b ≤ 2147483648 ∧ a ≤ b := by unfold fok at h; simpa using h
theorem aE_in {a b : Int} (h : aE a b = 0) : L6.InA (max a (-1073741824)) (min b 1073741824) := by
  unfold aE at h
  split at h
  · split at h
    · omega
    · exact ⟨by omega, by omega, by omega⟩
  · omega
end Go.Proofs.YtndcjldnnfhedaaDoor

/- Arctrig: what is asked of the program; the laws' small functions and examples. -/
namespace Go.Proofs.YtndcjldnnfhedaaDoor
open Go.RowKit
set_option linter.unusedVariables false
set_option maxRecDepth 100000

def tAr (l h e : Int) : Value := .tuple #[.agg #[.int .i64 l, .int .i64 h], .int .i64 e]
/-- the program's arcsines answer as they should; its directions do so at the examples -/
structure ArProg (w : World) : Prop where
  asin : ∀ (a b : Int) (wx : World), Below w.heap.size w wx → I64 a → I64 b → Calls Tryd.prog 16 #[.agg #[.int .i64 a, .int .i64 b]] wx fun e w' => e = .returned (tAr (asL a b) (asH a b) (aE a b)) ∧ Below wx.heap.size wx w'
  acos : ∀ (a b : Int) (wx : World), Below w.heap.size w wx → I64 a → I64 b → Calls Tryd.prog 37 #[.agg #[.int .i64 a, .int .i64 b]] wx fun e w' => e = .returned (tAr (acL a b) (acH a b) (aE a b)) ∧ Below wx.heap.size wx w'
  ahav : ∀ (a b : Int) (wx : World), Below w.heap.size w wx → I64 a → I64 b → Calls Tryd.prog 18 #[.agg #[.int .i64 a, .int .i64 b]] wx fun e w' => e = .returned (tAr (ahL a b) (ahH a b) (hE a b)) ∧ Below wx.heap.size wx w'
  bear1 : ∀ (wx : World), Below w.heap.size w wx → Calls Tryd.prog 6 #[.agg #[.int .i64 1073741824, .int .i64 1073741824], .agg #[.int .i64 2147483648, .int .i64 2147483648]] wx fun e w' => e = .returned (tAr 1593903 1593904 0) ∧ Below wx.heap.size wx w'
  bear2 : ∀ (wx : World), Below w.heap.size w wx → Calls Tryd.prog 6 #[.agg #[.int .i64 (-1), .int .i64 1], .agg #[.int .i64 1073741824, .int .i64 1073741824]] wx fun e w' => e = .returned (tAr 21599999 21600001 0) ∧ Below wx.heap.size wx w'
theorem half_f : L6.aF 536870912 = 1800000 := L6.aF_eq ⟨by decide, by decide, by decide +kernel, .inr (by decide +kernel)⟩
theorem half_c : L6.aF (-536870912) = -1800000 := L6.aF_eq ⟨by decide, by decide, by decide +kernel, .inr (by decide +kernel)⟩
theorem tell_a1 : tAr (asL 536870912 536870912) (asH 536870912 536870912) (aE 536870912 536870912) = tAr 1800000 1800000 0 := by
  have e : aE 536870912 536870912 = 0 := by decide
  unfold asL asH
  rw [if_pos e, if_pos e, e, show max (536870912 : Int) (-1073741824) = 536870912 by decide, show min (536870912 : Int) 1073741824 = 536870912 by decide]
  unfold L6.aLo L6.aHi
  rw [half_f, half_c]
  rfl
theorem tell_a2 : tAr (ahL 268435456 268435456) (ahH 268435456 268435456) (hE 268435456 268435456) = tAr 3600000 3600000 0 := by
  have e : hE 268435456 268435456 = 0 := by decide
  have f : aE 536870912 536870912 = 0 := by decide
  unfold ahL ahH
  rw [if_pos e, if_pos e, e, show (1073741824 : Int) - 2 * min 268435456 1073741824 = 536870912 by decide, show (1073741824 : Int) - 2 * max 268435456 0 = 536870912 by decide]
  unfold acL acH asL asH
  rw [if_pos f, if_pos f, if_pos f, if_pos f, show max (536870912 : Int) (-1073741824) = 536870912 by decide, show min (536870912 : Int) 1073741824 = 536870912 by decide]
  unfold L6.aLo L6.aHi
  rw [half_f, half_c]
  rfl
theorem point_any (n : Int) (w : World) : Calls Tryd.prog 17 #[.int .i64 n] w fun e w' => e = .returned (.agg #[.int .i64 n, .int .i64 n]) ∧ Below w.heap.size w w' := by
  have R := At2.new w (.int .i64 0) (.int .i64 0) 23
  obtain ⟨R0, R1, -, -, -⟩ := id R
  go_enter Tryd.func17, Tryd.ntmps17
  go_wp2_with fail
  refine bodyPost_ret (v := .agg #[.int .i64 n, .int .i64 n]) (by simp [results, Tryd.results17, go_sem]) rfl ⟨rfl, ?_⟩
  exact below1 _ _
/-- an interval from -1 to 1 -/
def wOk (a b : Int) : Bool := decide (a ≤ b ∧ a ≥ -1073741824 ∧ b ≤ 1073741824)
theorem wOk_iff (a b : Int) : wOk a b = true ↔ (a ≤ b ∧ a ≥ -1073741824 ∧ b ≤ 1073741824) := by unfold wOk; simp
theorem told7 {f : Nat} {args : Array Value} {w : World} {v v' : Value} (h : v = v') (C : Calls Tryd.prog f args w fun e w' => e = .returned v ∧ Below w.heap.size w w') : Calls Tryd.prog f args w fun e w' => e = .returned v' ∧ Below w.heap.size w w' := h ▸ C
set_option maxHeartbeats 1000000 in
theorem awake7 (w0 : World) (P : ArProg w0) (w : World) (h0 : Below w0.heap.size w0 w) : Calls Tryd.prog 5 #[] w fun e w' => e = .returned (.bool true) ∧ Below w.heap.size w w' := by
  have KP := Lib.hid (fun n wx => point_any n wx)
  have C1 := Lib.hid (fun wx (hb : Below w0.heap.size w0 wx) => told7 tell_a1 (P.asin 536870912 536870912 wx hb ⟨by decide, by decide⟩ ⟨by decide, by decide⟩))
  have C2 := Lib.hid (fun wx (hb : Below w0.heap.size w0 wx) => told7 tell_a2 (P.ahav 268435456 268435456 wx hb ⟨by decide, by decide⟩ ⟨by decide, by decide⟩))
  have C3 := Lib.hid (fun wx (hb : Below w0.heap.size w0 wx) => P.bear1 wx hb)
  have C4 := Lib.hid (fun wx (hb : Below w0.heap.size w0 wx) => P.bear2 wx hb)
  unfold tAr at C1 C2 C3 C4
  have HB := Lib.hid (Below.refl w.heap.size w)
  clear P
  go_enter Tryd.func5, Tryd.ntmps5
  go_wp2_with fail
  refine (KP.out _ _).mono ?_
  rintro e w2 ⟨rfl, hb⟩
  have HB := Lib.hid (bstep HB.out hb)
  clear hb
  go_wp2_with fail
  refine (C1.out _ (bstep h0 HB.out)).mono ?_
  rintro e w3 ⟨rfl, hb⟩
  have HB := Lib.hid (bstep HB.out hb)
  clear hb
  have S := At2.new w3 (.int .i64 (1800000)) (.int .i64 (1800000)) 25
  have HB := Lib.hid (bstep HB.out (below1 w3 (.cells #[.int .i64 (1800000), .int .i64 (1800000)] 25)))
  go_wp2_with fail
  refine (KP.out _ _).mono ?_
  rintro e w4 ⟨rfl, hb⟩
  have S := S.keep hb
  have HB := Lib.hid (bstep HB.out hb)
  clear hb
  go_wp2_with fail
  refine (C2.out _ (bstep h0 HB.out)).mono ?_
  rintro e w5 ⟨rfl, hb⟩
  have S := S.keep hb
  have HB := Lib.hid (bstep HB.out hb)
  clear hb
  have S := S.alloc (.cells #[.int .i64 (3600000), .int .i64 (3600000)] 25)
  have T := At2.new w5 (.int .i64 (3600000)) (.int .i64 (3600000)) 25
  have HB := Lib.hid (bstep HB.out (below1 w5 (.cells #[.int .i64 (3600000), .int .i64 (3600000)] 25)))
  go_wp2_with fail
  refine (KP.out _ _).mono ?_
  rintro e w6 ⟨rfl, hb⟩
  have S := S.keep hb
  have T := T.keep hb
  have HB := Lib.hid (bstep HB.out hb)
  clear hb
  go_wp2_with fail
  refine (KP.out _ _).mono ?_
  rintro e w7 ⟨rfl, hb⟩
  have S := S.keep hb
  have T := T.keep hb
  have HB := Lib.hid (bstep HB.out hb)
  clear hb
  go_wp2_with fail
  refine (C3.out _ (bstep h0 HB.out)).mono ?_
  rintro e w8 ⟨rfl, hb⟩
  have S := S.keep hb
  have T := T.keep hb
  have HB := Lib.hid (bstep HB.out hb)
  clear hb
  have S := S.alloc (.cells #[.int .i64 (1593903), .int .i64 (1593904)] 25)
  have T := T.alloc (.cells #[.int .i64 (1593903), .int .i64 (1593904)] 25)
  have U := At2.new w8 (.int .i64 (1593903)) (.int .i64 (1593904)) 25
  have HB := Lib.hid (bstep HB.out (below1 w8 (.cells #[.int .i64 (1593903), .int .i64 (1593904)] 25)))
  go_wp2_with fail
  refine (KP.out _ _).mono ?_
  rintro e w9 ⟨rfl, hb⟩
  have S := S.keep hb
  have T := T.keep hb
  have U := U.keep hb
  have HB := Lib.hid (bstep HB.out hb)
  clear hb
  go_wp2_with fail
  refine (C4.out _ (bstep h0 HB.out)).mono ?_
  rintro e w10 ⟨rfl, hb⟩
  have S := S.keep hb
  have T := T.keep hb
  have U := U.keep hb
  have HB := Lib.hid (bstep HB.out hb)
  clear hb
  have S := S.alloc (.cells #[.int .i64 (21599999), .int .i64 (21600001)] 25)
  have T := T.alloc (.cells #[.int .i64 (21599999), .int .i64 (21600001)] 25)
  have U := U.alloc (.cells #[.int .i64 (21599999), .int .i64 (21600001)] 25)
  have V := At2.new w10 (.int .i64 (21599999)) (.int .i64 (21600001)) 25
  have HB := Lib.hid (bstep HB.out (below1 w10 (.cells #[.int .i64 (21599999), .int .i64 (21600001)] 25)))
  obtain ⟨S0, S1, -, -, -⟩ := id S
  obtain ⟨T0, T1, -, -, -⟩ := id T
  obtain ⟨U0, U1, -, -, -⟩ := id U
  obtain ⟨V0, V1, -, -, -⟩ := id V
  go_wp2_with fail
  go_ret
  exact ⟨rfl, HB.out⟩
end Go.Proofs.YtndcjldnnfhedaaDoor
