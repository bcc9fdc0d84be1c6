/- Arctrig: the reference's digits at any offset: Drop, Times, Part, Unit. -/
import Derived.Test.YtndcjldnnfhedaaDoorDgb
namespace Go.Proofs.YtndcjldnnfhedaaDoor.wd2
open Go.RowKit
set_option linter.unusedVariables false
set_option maxRecDepth 100000

/-- digits that lie at any offset of their block -/
structure DigO (w : World) (A : Option Addr) (n c : Nat) (l : List Nat) : Prop where
  len : n = l.length
  cap : n ≤ c
  top : c ≤ maxLen
  nil_ : A = none → n = 0 ∧ c = 0
  at_ : ∀ ad, A = some ad → ∃ g o, ad = ⟨g, o, none⟩ ∧ g < w.heap.size ∧ ∀ j, j < l.length → w.cell? ⟨g, o + j, none⟩ = some (.int .i64 ((l.getD j 0 : Nat) : Int))
theorem Dig.o {w : World} {A : Option Addr} {n c : Nat} {l : List Nat} (h : Dig w A n c l) : DigO w A n c l :=
  ⟨h.len, h.cap, h.top, h.nil_, fun ad e => by
    obtain ⟨g, rfl, hg, hc⟩ := h.at_ ad e
    exact ⟨g, 0, rfl, hg, fun j hj => by rw [Nat.zero_add]; exact hc j hj⟩⟩
theorem DigO.keep {w w' : World} {A : Option Addr} {n c : Nat} {l : List Nat} (h : DigO w A n c l) (hb : Below w.heap.size w w') : DigO w' A n c l :=
  ⟨h.len, h.cap, h.top, h.nil_, fun ad hn => by
    obtain ⟨g, o, e, hg, hc⟩ := h.at_ ad hn
    exact ⟨g, o, e, Nat.lt_of_lt_of_le hg hb.size, fun j hj => (hb.cell (p := ⟨g, o + j, none⟩) hg).trans (hc j hj)⟩⟩
theorem DigO.cell {w : World} {A : Option Addr} {n c : Nat} {l : List Nat} (h : DigO w A n c l) {k : Nat} (hk : k < l.length) :
    ∃ g o, A = some ⟨g, o, none⟩ ∧ g < w.heap.size ∧ w.cell? ⟨g, o + k, none⟩ = some (.int .i64 ((l.getD k 0 : Nat) : Int)) := by
  rcases A with _ | ad
  · have := (h.nil_ rfl).1; have := h.len; omega
  · obtain ⟨g, o, rfl, hg, hc⟩ := h.at_ ad rfl
    exact ⟨g, o, rfl, hg, hc k hk⟩
theorem DigO.nil (w : World) : DigO w none 0 0 [] := (Dig.nil w).o
set_option maxHeartbeats 4000000 in
theorem times_off (A B : Option Addr) (n m c d : Nat) (a b : List Nat) (w : World) (ha : Dig w A n c a) (hb : DigO w B m d b) (ca : Dok a) (cb : Dok b) (h1 : a.length ≤ 2000000) (h2 : b.length ≤ 2000000) :
    Calls Tryd.prog 100 #[.slice A n c, .slice B m d] w (Ret w (dgs (val a * val b))) := by
  obtain ⟨i0, hi, hz0, hz1, hz2⟩ := info_parts Tryd.infoI
  have hla := ha.len
  have hlb := hb.len
  have HA := Lib.hid ha
  have HB := Lib.hid hb
  have CA := Lib.hid ca
  have CB := Lib.hid cb
  clear ha hb ca cb
  have LA := Lib.hid hla
  have LB := Lib.hid hlb
  have n1 : n ≤ 2000000 := by omega
  have n2 : m ≤ 2000000 := by omega
  clear hla hlb h1 h2
  go_enter Tryd.func100, Tryd.ntmps100
  go_wp2_with (at_make; refine wpList_make_full _ rfl _ _ 105 rfl w.heap.size 3 i0 (.int .i64 0) 1 Tryd.underlying105 hi hz0 hz1 _ _ _ _ (n + m) rfl rfl (by first | rfl | go_num) (by first | rfl | go_num) (by rw [hz2]; omega) (by unfold maxLen; omega) (Nat.le_refl _) ?_)
  intro w1 hown hgrow
  have hB : Below w.heap.size w w1 := (Below.refl _ _).grown hgrow (Nat.le_refl _) (by intro k hk; cases hk)
  have T0 : Hid (TimW w (n + m) (List.replicate (a.length + b.length) 0) w1) := by
    refine ⟨?_, hB⟩
    have e : (List.replicate (a.length + b.length) 0).map dv = (madeCells #[Value.int .i64 0] (n + m)).toList := by rw [toList_madeCells_one, List.map_replicate, LA.out, LB.out]; rfl
    rw [e]
    simpa [Value.cells] using hown
  clear hgrow hown hB
  go_wp2_with fail
  go_loopw [6] (fun iv wr => ∃ i : Nat, ∃ O : List Nat, i ≤ n ∧ iv = .int .i64 (i : Int) ∧ Hid (TimI a b i O) ∧ Hid (TimW w (n + m) O wr)) (fun iv _ => n - (intOf iv).toNat)
  case atStart => exact ⟨0, _, Nat.zero_le _, rfl, timI_start a b, T0⟩
  case round =>
    clear T0
    obtain ⟨i, O, hin, rfl, hI, hT⟩ := hrel
    by_cases q1 : i < n
    · have z1 : (i : Int) < (n : Int) := by omega
      have hia : i < a.length := by rw [← LA.out]; exact q1
      have J0 : Hid (TimJ a b i 0 0 O) := timJ_start CA.out CB.out hia hI.out
      clear hI
      go_wp2_with fail
      go_loopw [7, 8] (fun cv kv ws => ∃ k cy : Nat, ∃ O' : List Nat, k ≤ m ∧ cv = .int .i64 (cy : Int) ∧ kv = .int .i64 (k : Int) ∧ Hid (TimJ a b i k cy O') ∧ Hid (TimW w (n + m) O' ws)) (fun _ kv _ => m - (intOf kv).toNat)
      case atStart => exact ⟨0, 0, O, Nat.zero_le _, rfl, rfl, J0, hT⟩
      case round =>
        clear hT
        obtain ⟨k, cy, O', hkm, rfl, rfl, hJ, hT⟩ := hrel
        have hcy := hJ.out.c1
        by_cases q2 : k < m
        · have z2 : (k : Int) < (m : Int) := by omega
          have hkb : k < b.length := by rw [← LB.out]; exact q2
          obtain ⟨ga, rfl, hga, hca⟩ := (HA.out.keep hT.out.bel).cell hia
          obtain ⟨gb, ob, rfl, hgb, hcb⟩ := (HB.out.keep hT.out.bel).cell hkb
          have hco := hT.out.cell (j := i + k) (by omega)
          have hfo := hT.out.froz (i + k)
          obtain ⟨x, hx⟩ : ∃ x, x = a.getD i 0 := ⟨_, rfl⟩
          obtain ⟨y, hy⟩ : ∃ y, y = b.getD k 0 := ⟨_, rfl⟩
          obtain ⟨o, ho⟩ : ∃ o, o = O'.getD (i + k) 0 := ⟨_, rfl⟩
          have hxb := CA.out.get i
          have hyb := CB.out.get k
          have hob := hJ.out.ok.get (i + k)
          rw [← hx] at hca hxb
          rw [← hy] at hcb hyb
          rw [← ho] at hco hob
          obtain ⟨z, hz⟩ : ∃ z, z = x * y := ⟨_, rfl⟩
          have hzb : z ≤ 72057593501057025 := by rw [hz]; exact mul_digit hxb hyb
          have E : (x : Int) * (y : Int) = (z : Int) := by rw [hz, Int.natCast_mul]
          have J2 : Hid (TimJ a b i (k + 1) ((o + z + cy) / 268435456) (O'.set (i + k) ((o + z + cy) % 268435456))) := by
            have := timJ_step CA.out CB.out hia hkb hJ.out
            rw [← hx, ← hy, ← ho, ← hz] at this
            exact this
          clear hx hy ho hz hkb
          have W1 : IntKind.i64.wrap ((i : Int) + (k : Int)) = (i : Int) + (k : Int) := IntWalk.i64_in _ (by omega)
          have W2 : IntKind.i64.wrap (z : Int) = (z : Int) := IntWalk.i64_in _ (by omega)
          have W3 : IntKind.i64.wrap ((o : Int) + (z : Int)) = (o : Int) + (z : Int) := IntWalk.i64_in _ (by omega)
          have W4 : IntKind.i64.wrap ((o : Int) + (z : Int) + (cy : Int)) = (o : Int) + (z : Int) + (cy : Int) := IntWalk.i64_in _ (by omega)
          have b0 : (0 : Int) ≤ (i : Int) + (k : Int) := by omega
          have b1 : (i : Int) + (k : Int) < (n : Int) + (m : Int) := by omega
          have b2 : ((i : Int) + (k : Int)).toNat = i + k := by omega
          go_wp2_with fail
          go_region
          all_goals
            clear W1 W2 W3 W4 b2
            go_wp2_with fail
            go_roundw
            case rel => exact ⟨k + 1, (o + z + cy) / 268435456, _, by omega, by go_num, by go_num, J2, (hT.out.drew).store (i + k) ((o + z + cy) % 268435456) (by omega)⟩
            case measure => simp [intOf]; omega
        · have e : k = m := by omega
          subst e
          have z2 : ¬ (k : Int) < (k : Int) := by omega
          have hco := hT.out.cell (j := i + k) (by omega)
          have hfo := hT.out.froz (i + k)
          have I2 : Hid (TimI a b (i + 1) (O'.set (i + k) cy)) := by
            have h := hJ.out
            rw [LB.out] at h ⊢
            exact timJ_end hia h
          go_wp2_with fail
          go_roundw
          case rel => exact ⟨i + 1, _, by omega, by go_num, I2, hT.out.store (i + k) cy rfl⟩
          case measure => simp [intOf]; omega
    · have e : i = n := by omega
      subst e
      have z1 : ¬ (i : Int) < (i : Int) := by omega
      have E : Hid (val O = val a * val b) := by
        have h := hI.out
        rw [LA.out] at h
        exact timI_end h
      have hl : O.length = i + m := by have := hT.out.own.1; simpa using this
      have HL := Lib.hid hl
      clear hl
      go_wp2_with (go_at_call 111; refine (trim_any _ _ _ O _ (dig_of_own hT.out.own) hI.out.ok (by rw [HL.out]; omega)).mono ?_; rintro e w2 ⟨Ar, nr, cr, rfl, hdr, hfr, hbr⟩)
      go_ret
      rw [E.out] at hdr
      exact Ret.under hT.out.bel ⟨Ar, nr, cr, rfl, hdr, hfr, hbr⟩
theorem drop_any (A : Option Addr) (n c k : Nat) (l : List Nat) (w : World) (h : Dig w A n c l) (hk : k ≤ 100) :
    Calls Tryd.prog 114 #[.slice A n c, .int .i64 (k : Int)] w fun e w' => ∃ A' n' c', e = .returned (.slice A' n' c') ∧ DigO w A' n' c' (l.drop k) ∧ w' = w := by
  have hlen := h.len
  have hcap := h.cap
  have htop := h.top
  by_cases hn : n ≤ k
  · have e : l.drop k = [] := List.drop_eq_nil_of_le (by omega)
    rw [e]
    have z : (n : Int) ≤ (k : Int) := by omega
    have H := Lib.hid (DigO.nil w)
    clear hlen hcap htop h e
    unfold maxLen at *
    go_enter Tryd.func114, Tryd.ntmps114
    go_wp2_with fail
    go_ret
    exact ⟨none, 0, 0, rfl, H.out, rfl⟩
  · rcases A with _ | ad
    · have := (h.nil_ rfl).1; omega
    · obtain ⟨g, rfl, hg, hc⟩ := h.at_ ad rfl
      have H := Lib.hid (show DigO w (some ⟨g, k, none⟩) (n - k) (c - k) (l.drop k) from
        ⟨by rw [List.length_drop]; omega, by omega, by omega, (fun e => by cases e), fun ad e => by
          injection e with e
          subst e
          refine ⟨g, k, rfl, hg, fun j hj => ?_⟩
          rw [List.length_drop] at hj
          rw [hc (k + j) (by omega)]
          simp [List.getD_eq_getElem?_getD]⟩)
      have z : ¬ (n : Int) ≤ (k : Int) := by omega
      have z1 : (k : Int) ≤ (n : Int) := by omega
      have z2 : (n : Int) ≤ (c : Int) := by omega
      have zk : k ≤ n := by omega
      have zc : n ≤ c := hcap
      have ht : c ≤ 9223372036854775807 := by unfold maxLen at htop; omega
      clear hlen hcap htop h hn hc
      go_enter Tryd.func114, Tryd.ntmps114
      go_wp2_with fail
      go_ret
      exact ⟨_, _, _, rfl, by simpa using H.out, rfl⟩
set_option maxHeartbeats 4000000 in
theorem part_any (A : Option Addr) (n c d : Nat) (a : List Nat) (w : World) (ha : DigO w A n c a) (ca : Dok a) (h1 : a.length ≤ 1000) (d1 : 1 ≤ d) (d2 : d ≤ 268435456) :
    Calls Tryd.prog 112 #[.slice A n c, .int .i64 (d : Int)] w (Ret w (dgs (val a / d))) := by
  obtain ⟨i0, hi, hz0, hz1, hz2⟩ := info_parts Tryd.infoI
  have hla := ha.len
  have HA := Lib.hid ha
  have CA := Lib.hid ca
  have LA := Lib.hid hla
  have n1 : n ≤ 1000 := by omega
  have D := Lib.hid (show 1 ≤ d ∧ d ≤ 268435456 from ⟨d1, d2⟩)
  clear ha ca hla h1
  go_enter Tryd.func112, Tryd.ntmps112
  go_wp2_with (at_make; refine wpList_make_full _ rfl _ _ 105 rfl w.heap.size 3 i0 (.int .i64 0) 1 Tryd.underlying105 hi hz0 hz1 _ _ _ _ n rfl rfl (by first | rfl | go_num) (by first | rfl | go_num) (by rw [hz2]; omega) (by unfold maxLen; omega) (Nat.le_refl _) ?_)
  intro w1 hown hgrow
  have hB : Below w.heap.size w w1 := (Below.refl _ _).grown hgrow (Nat.le_refl _) (by intro k hk; cases hk)
  have T0 : Hid (TimW w n (List.replicate a.length 0) w1) := by
    refine ⟨?_, hB⟩
    have e : (List.replicate a.length 0).map dv = (madeCells #[Value.int .i64 0] n).toList := by rw [toList_madeCells_one, List.map_replicate, LA.out]; rfl
    rw [e]
    simpa [Value.cells] using hown
  clear hgrow hown hB
  go_wp2_with fail
  go_loopg [6, 7] n (fun m v6 v7 wr => ∃ (i r : Nat) (O : List Nat), m = i ∧ i ≤ n ∧ v6 = .int .i64 (r : Int) ∧ v7 = .int .i64 ((i : Int) - 1) ∧ Hid (OverI a d i O r) ∧ Hid (TimW w n O wr))
  case atStart => exact ⟨n, 0, _, rfl, Nat.le_refl _, rfl, rfl, by show OverI a d n _ 0; rw [LA.out]; exact overI_start a d D.out.1, T0⟩
  case round =>
    clear T0
    obtain ⟨i, r, O, hm, hin, rfl, rfl, hI, hT⟩ := hrel
    have HG := Lib.hid hm
    clear hm
    have hr := hI.out.lt
    rcases i with _ | i
    · have E := Lib.hid ((overI_end hI.out).1)
      have OK := Lib.hid hI.out.ok
      have hl : O.length = n := by have := hT.out.own.1; simpa using this
      have HL := Lib.hid hl
      clear hl hr
      go_wp2_with (go_at_call 111; refine (trim_any _ _ _ O _ (dig_of_own hT.out.own) OK.out (by rw [HL.out]; omega)).mono ?_; rintro e w2 ⟨Ar, nr, cr, rfl, hdr, hfr, hbr⟩)
      go_ret
      rw [E.out] at hdr
      exact Ret.under hT.out.bel ⟨Ar, nr, cr, rfl, hdr, hfr, hbr⟩
    · have hia : i < a.length := by rw [← LA.out]; omega
      obtain ⟨ga, oa, rfl, hga, hca⟩ := (HA.out.keep hT.out.bel).cell hia
      have hco := hT.out.cell (j := i) (by omega)
      have hfo := hT.out.froz i
      have hxb := CA.out.get i
      have I2 : ∀ low, low < 268435456 → low * d ≤ a.getD i 0 + 268435456 * r → a.getD i 0 + 268435456 * r < (low + 1) * d → OverI a d i (O.set i low) (a.getD i 0 + 268435456 * r - low * d) := fun low => overI_step hI.out hia
      obtain ⟨x, hx⟩ : ∃ x, x = a.getD i 0 := ⟨_, rfl⟩
      rw [← hx] at hca hxb I2
      obtain ⟨y, hy⟩ : ∃ y, y = O.getD i 0 := ⟨_, rfl⟩
      rw [← hy] at hco
      obtain ⟨t, ht⟩ : ∃ t, t = x + 268435456 * r := ⟨_, rfl⟩
      rw [← ht] at I2
      have td : t < 268435456 * d := by have := D.out; omega
      have q1 : t / d < 268435456 := (Nat.div_lt_iff_lt_mul (by have := D.out; omega)).2 td
      have q2 := Nat.div_mul_le_self t d
      have q3 := Nat.lt_div_mul_add (a := t) (b := d) (by have := D.out; omega)
      have q4 : t - t / d * d = t % d := by have := Nat.div_add_mod t d; rw [Nat.mul_comm] at this; omega
      have J := I2 (t / d) q1 q2 (by rw [Nat.add_mul, Nat.one_mul]; exact q3)
      rw [q4] at J
      have J := Lib.hid J
      have HD : (d : Int) ≠ 0 := by have := D.out; omega
      have tb : t < 72057594037927936 := by have := D.out; omega
      have hrb : r < 268435456 := by have := D.out; omega
      have E1 : (r : Int) * 268435456 + (x : Int) = (t : Int) := by omega
      have E2 : (t : Int).tdiv (d : Int) = ((t / d : Nat) : Int) := by rw [Int.tdiv_eq_ediv_of_nonneg (by omega)]; rfl
      have E3 : (t : Int).tmod (d : Int) = ((t % d : Nat) : Int) := by rw [Int.tmod_eq_emod_of_nonneg (by omega)]; rfl
      have z0 : (0 : Int) ≤ ((i + 1 : Nat) : Int) - 1 := by omega
      have z1 : ((i + 1 : Nat) : Int) - 1 = (i : Int) := by omega
      have z2 : (i : Int) < (n : Int) := by omega
      rw [z1]
      clear I2 q2 q3 q4 td hr hx hy ht hia
      generalize t / d = p at *
      generalize t % d = s at *
      go_wp2_with fail
      go_roundg i
      case measure => have := HG.out; omega
      case rel => exact ⟨i, s, _, rfl, by omega, rfl, rfl, J, hT.out.store i p (by go_num)⟩
end Go.Proofs.YtndcjldnnfhedaaDoor.wd2
