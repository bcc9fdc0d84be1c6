/- Contracts of the reference's Compare, Down and Up. -/
import Derived.Test.YtpneahdbiikonaaDoorDgZ
namespace Go.Proofs.YtpneahdbiikonaaDoor
open Go.RowKit
set_option linter.unusedVariables false
attribute [local go_sem ↓] Go.wp_at_zero Go.wp_at_succ

theorem b3e (w : World) (o1 o2 o3 : Obj) : Below w.heap.size w (((w.alloc o1).alloc o2).drew.alloc o3) := ((((Below.refl w.heap.size w).alloc (Nat.le_refl _) o1).alloc (by simp) o2).drew).alloc (by simp; omega) o3
theorem Sm.neg {z : Int} (h : Sm z) : Sm (-z) := by unfold Sm at *; rw [Int.natAbs_neg]; exact h

theorem sgn_of (z : Int) : (z.natAbs = 0 → sgn z = 0) ∧ (z < 0 → sgn z = -1) ∧ (0 < z → sgn z = 1) := by
  unfold sgn
  refine ⟨fun h => ?_, fun h => if_pos h, fun h => ?_⟩
  · rw [if_neg (by omega), if_neg (by omega)]
  · rw [if_neg (by omega), if_pos h]

/-- two structs of the call's own, and what lay before is as it was -/
structure Two (w : World) (a0 a1 b0 b1 : Value) (wr : World) : Prop where
  l : Bl2 wr w.heap.size a0 a1
  r : Bl2 wr (w.heap.size + 1) b0 b1
  bel : Below w.heap.size w wr
theorem Two.new (w : World) (a0 a1 b0 b1 : Value) (T U : Nat) : Two w a0 a1 b0 b1 ((w.alloc (.cells #[a0, a1] T)).alloc (.cells #[b0, b1] U)) := by
  have h2 := Bl2.new (w.alloc (.cells #[a0, a1] T)) b0 b1 U
  simp at h2
  exact ⟨(Bl2.new w a0 a1 T).alloc _, h2, ((Below.refl _ _).alloc (Nat.le_refl _) _).alloc (by simp) _⟩
theorem Two.keep {w wr w2 : World} {a0 a1 b0 b1 : Value} (h : Two w a0 a1 b0 b1 wr) (hb : Below wr.heap.size wr w2) : Two w a0 a1 b0 b1 w2 := ⟨h.l.keep hb, h.r.keep hb, h.bel.trans (hb.mono h.bel.size)⟩
theorem Two.drew {w wr : World} {a0 a1 b0 b1 : Value} (h : Two w a0 a1 b0 b1 wr) : Two w a0 a1 b0 b1 wr.drew := h.keep (Below.refl _ _).drew
theorem Two.alloc {w wr : World} {a0 a1 b0 b1 : Value} (h : Two w a0 a1 b0 b1 wr) (o : Obj) : Two w a0 a1 b0 b1 (wr.alloc o) := h.keep ((Below.refl _ _).alloc (Nat.le_refl _) o)

theorem NZ.cases {w : World} {A : Option Addr} {n c : Nat} {g : Bool} {z : Int} (h : NZ w A n c g z) : (z = 0 ∧ n = 0) ∨ (z < 0 ∧ 0 < n ∧ g = true) ∨ (0 < z ∧ 0 < n ∧ g = false) := by
  have h1 := h.dig.len
  have h2 := h.sgn
  have h3 := dgs_len_pos z.natAbs
  rcases Int.lt_trichotomy z 0 with q | q | q
  · exact .inr (.inl ⟨q, by rw [h1, h3]; omega, by rw [h2]; exact decide_eq_true q⟩)
  · exact .inl ⟨q, by rw [h1, q]; simp [dgs_zero]⟩
  · exact .inr (.inr ⟨q, by rw [h1, h3]; omega, by rw [h2]; exact decide_eq_false (by omega)⟩)

/-- the quotient rounded down, of signs and absolute values -/
theorem qdn_abs (x y : Int) (hy : y ≠ 0) : qdn x y = if decide (x < 0) = decide (y < 0) then ((x.natAbs / y.natAbs : Nat) : Int) else -((x.natAbs / y.natAbs + (if x.natAbs % y.natAbs = 0 then 0 else 1) : Nat) : Int) := by
  have hB : 0 < y.natAbs := by omega
  obtain ⟨e1, e2⟩ := ediv_of_nat x.natAbs y.natAbs hB
  unfold qdn
  by_cases h0 : 0 < y
  · rw [if_pos h0]
    have hyv : y = (y.natAbs : Int) := by omega
    have d2 : decide (y < 0) = false := decide_eq_false (by omega)
    by_cases hx : x < 0
    · have d1 : decide (x < 0) = true := decide_eq_true hx
      have hxv : x = -(x.natAbs : Int) := by omega
      rw [d1, d2, if_neg (by simp)]
      conv => lhs; rw [hyv, hxv]
      rw [e2]
      split <;> simp
    · have d1 : decide (x < 0) = false := decide_eq_false hx
      have hxv : x = (x.natAbs : Int) := by omega
      rw [d1, d2, if_pos rfl]
      conv => lhs; rw [hyv, hxv]
      rw [e1]
  · rw [if_neg h0]
    have hyv : -y = (y.natAbs : Int) := by omega
    have d2 : decide (y < 0) = true := decide_eq_true (by omega)
    rw [hyv]
    by_cases hx : x < 0
    · have d1 : decide (x < 0) = true := decide_eq_true hx
      have hxv : -x = (x.natAbs : Int) := by omega
      rw [d1, d2, if_pos rfl, hxv, e1]
    · have d1 : decide (x < 0) = false := decide_eq_false hx
      have hxv : x = (x.natAbs : Int) := by omega
      rw [d1, d2, if_neg (by simp)]
      conv => lhs; rw [hxv]
      rw [e2]
      split <;> simp

end Go.Proofs.YtpneahdbiikonaaDoor
