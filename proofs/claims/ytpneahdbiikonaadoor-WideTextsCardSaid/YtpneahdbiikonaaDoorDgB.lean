/- Contracts of the reference's Order and OfInt. -/
import Derived.Test.YtpneahdbiikonaaDoorDgA
import Derived.Deep.QuietTactic
import Derived.BigQuiet
import Derived.LoopTactic
namespace Go.Proofs.YtpneahdbiikonaaDoor
open Go.RowKit
set_option linter.unusedVariables false

theorem dret_int {k : IntKind} {a b : Int} (h : a = b) : Ending.returned (.int k a) = .returned (.int k b) := by rw [h]
theorem dret_bool {a b : Bool} (h : a = b) : Ending.returned (.bool a) = .returned (.bool b) := by rw [h]

set_option maxHeartbeats 1000000 in
theorem order_any (A B : Option Addr) (n m c d : Nat) (a b : List Nat) (w : World) (ha : Dig w A n c a) (hb : Dig w B m d b) (ca : Can a) (cb : Can b) (h1 : a.length ≤ 4000000) (h2 : b.length ≤ 4000000) :
    Calls Tryd.prog 39 #[.slice A n c, .slice B m d] w fun e w' => e = .returned (.int .i64 (ord (val a) (val b))) ∧ Below w.heap.size w w' := by
  have hla := ha.len
  have hlb := hb.len
  have HA := Lib.hid ha
  have HB := Lib.hid hb
  have CA := Lib.hid ca
  have CB := Lib.hid cb
  clear ha hb ca cb
  have LA := Lib.hid hla
  have LB := Lib.hid hlb
  have n1 : n ≤ 4000000 := by omega
  have n2 : m ≤ 4000000 := by omega
  clear hla hlb h1 h2
  by_cases hne : n = m
  · subst hne
    have LE : Hid (a.length = b.length) := LA.out.symm.trans LB.out
    have t0 : ((n : Int) != (n : Int)) = false := by simp
    go_enter Tryd.func39, Tryd.ntmps39
    go_wp2_with fail
    go_loopw [5] (fun v wr => ∃ k : Nat, k ≤ n ∧ v = .int .i64 ((k : Int) - 1) ∧ Hid (a.drop k = b.drop k) ∧ Hid (Below w.heap.size w wr)) (fun v _ => (intOf v + 1).toNat)
    case atStart => exact ⟨n, Nat.le_refl _, by go_num, by show _ = _; rw [List.drop_of_length_le (by rw [LA.out]; exact Nat.le_refl _), List.drop_of_length_le (by rw [LB.out]; exact Nat.le_refl _)], Below.refl _ _⟩
    case round =>
      obtain ⟨k, hk, rfl, hd, hw⟩ := hrel
      by_cases hk0 : k = 0
      · subst hk0
        have E : Hid (ord (val a) (val b) = 0) := ord_of_eq (by have := hd.out; simp at this; rw [this])
        clear hd
        go_wp2_with fail
        go_ret
        exact ⟨dret_int E.out.symm, hw.out⟩
      · have hk1 : (1 : Int) ≤ (k : Int) := by omega
        have hka : k - 1 < a.length := by have := LA.out; omega
        obtain ⟨g, rfl, hg, hcl⟩ := (HA.out.keep hw.out).cell hka
        obtain ⟨g', rfl, hg', hcl'⟩ := (HB.out.keep hw.out).cell (k := k - 1) (by have := LB.out; omega)
        have OL : Hid (a.getD (k - 1) 0 < b.getD (k - 1) 0 → ord (val a) (val b) = -1) := fun h => ord_of_lt (ord_lt CA.out.ok CB.out.ok LE.out (k - 1) hka (by rw [show k - 1 + 1 = k by omega]; exact hd.out) h)
        have OG : Hid (b.getD (k - 1) 0 < a.getD (k - 1) 0 → ord (val a) (val b) = 1) := fun h => ord_of_gt (ord_lt CB.out.ok CA.out.ok LE.out.symm (k - 1) (by have := LB.out; omega) (by rw [show k - 1 + 1 = k by omega]; exact hd.out.symm) h)
        have OE : Hid (a.getD (k - 1) 0 = b.getD (k - 1) 0 → a.drop (k - 1) = b.drop (k - 1)) := fun h => drop_step LE.out (k - 1) hka (by rw [show k - 1 + 1 = k by omega]; exact hd.out) h
        obtain ⟨x, hx⟩ : ∃ x, x = a.getD (k - 1) 0 := ⟨_, rfl⟩
        obtain ⟨y, hy⟩ : ∃ y, y = b.getD (k - 1) 0 := ⟨_, rfl⟩
        rw [← hx] at OL OG OE hcl
        rw [← hy] at OL OG OE hcl'
        clear hx hy hka hd
        have b1 : (0 : Int) ≤ (k : Int) - 1 := by omega
        have b2 : (k : Int) - 1 < (n : Int) := by omega
        by_cases q1 : x < y
        · have q1' : (x : Int) < (y : Int) := by omega
          have E := Lib.hid (OL.out q1)
          clear OL OG OE
          go_wp2_with fail
          go_region
          all_goals
            go_wp2_with fail
            go_ret
            exact ⟨dret_int E.out.symm, hw.out.drew⟩
        · have q1' : ¬ (x : Int) < (y : Int) := by omega
          by_cases q2 : y < x
          · have q2' : (y : Int) < (x : Int) := by omega
            have E := Lib.hid (OG.out q2)
            clear OL OG OE
            go_wp2_with fail
            go_region
            all_goals
              go_wp2_with fail
              go_region
              all_goals
                go_wp2_with fail
                go_ret
                exact ⟨dret_int E.out.symm, hw.out.drew.drew⟩
          · have q2' : ¬ (y : Int) < (x : Int) := by omega
            have E := Lib.hid (OE.out (by omega))
            clear OL OG OE
            go_wp2_with fail
            go_region
            all_goals
              go_wp2_with fail
              go_region
              all_goals
                go_wp2_with fail
                go_roundw
                case rel => exact ⟨k - 1, by omega, by go_num, E, hw.out.drew.drew⟩
                case measure => simp [intOf]; omega
  · have E : Hid (ord (val a) (val b) = if n < m then -1 else 1) := by
      show _ = _
      split
      · exact ord_of_lt (can_len_lt CA.out CB.out (by have := LA.out; have := LB.out; omega))
      · exact ord_of_gt (can_len_lt CB.out CA.out (by have := LA.out; have := LB.out; omega))
    have t0 : ((n : Int) != (m : Int)) = true := by simp; omega
    by_cases hlt : n < m
    · rw [if_pos hlt] at E
      have hlt' : (n : Int) < (m : Int) := by omega
      go_enter Tryd.func39, Tryd.ntmps39
      go_wp2_with fail
      go_ret
      exact ⟨dret_int E.out.symm, Below.refl _ _⟩
    · rw [if_neg hlt] at E
      have hlt' : ¬ (n : Int) < (m : Int) := by omega
      go_enter Tryd.func39, Tryd.ntmps39
      go_wp2_with fail
      go_ret
      exact ⟨dret_int E.out.symm, Below.refl _ _⟩
end Go.Proofs.YtpneahdbiikonaaDoor
