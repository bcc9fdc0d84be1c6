/- Contracts of wide.Floor, Ceil and root. -/
import Derived.Test.YtdkigfcglfgpoaaWdR
namespace Go.Proofs.Ytdkigfcglfgpoaa.wd
open Go.RowKit
set_option linter.unusedVariables false

/-- what Floor and Ceil return, for any arguments -/
def rqV (h l b : Int) (d : Bool) : Int := if wok h l = true ∧ b ≠ 0 then qV (qt (wv h l) b d) else 0
def rqE (h l b : Int) (d : Bool) : Int := if wok h l = true then (if b = 0 then 16 else qE (qt (wv h l) b d)) else 1

theorem quo_all (h l b : Int) (d : Bool) (w : World) (b1 : -9223372036854775808 ≤ b) (b2 : b ≤ 9223372036854775807) :
    Calls Try.prog 74 #[.agg #[.int .i64 h, .int .i64 l], .int .i64 b, .bool d] w fun e w' => e = .returned (.tuple #[.int .i64 (rqV h l b d), .int .i64 (rqE h l b d)]) ∧ Below w.heap.size w w' := by
  cases hk : wok h l
  · have e1 : rqV h l b d = 0 := by unfold rqV; rw [hk]; simp
    have e2 : rqE h l b d = 1 := by unfold rqE; rw [hk]; simp
    rw [e1, e2]; exact quo_bad h l b d w hk
  · by_cases hb : b = 0
    · have e1 : rqV h l b d = 0 := by unfold rqV; rw [hk, hb]; simp
      have e2 : rqE h l b d = 16 := by unfold rqE; rw [hk, hb]; simp
      rw [e1, e2, hb]; exact quo_zero h l d w hk
    · have e1 : rqV h l b d = qV (qt (wv h l) b d) := by unfold rqV; rw [if_pos ⟨hk, hb⟩]
      have e2 : rqE h l b d = qE (qt (wv h l) b d) := by unfold rqE; rw [if_pos hk, if_neg hb]
      rw [e1, e2]; exact quo_any h l b d w hk hb b1 b2

theorem floor_any (h l b : Int) (w : World) (b1 : -9223372036854775808 ≤ b) (b2 : b ≤ 9223372036854775807) :
    Calls Try.prog 65 #[.agg #[.int .i64 h, .int .i64 l], .int .i64 b] w fun e w' => e = .returned (.tuple #[.int .i64 (rqV h l b true), .int .i64 (rqE h l b true)]) ∧ Below w.heap.size w w' := by
  have CQ := Lib.hid (fun (wx : World) => quo_all h l b true wx b1 b2)
  obtain ⟨x, hx⟩ : ∃ x, x = rqV h l b true := ⟨_, rfl⟩
  obtain ⟨y, hy⟩ : ∃ y, y = rqE h l b true := ⟨_, rfl⟩
  rw [← hx, ← hy] at CQ ⊢
  clear hx hy
  go_enter Try.func65, Try.ntmps65
  go_wp2_with fail
  refine (CQ.out _).mono ?_
  rintro e w1 ⟨rfl, hb1⟩
  have HB := Lib.hid (bstep (below1 w _) hb1)
  clear hb1
  go_wp2_with fail
  go_ret2
  exact ⟨rfl, HB.out⟩
theorem ceil_any (h l b : Int) (w : World) (b1 : -9223372036854775808 ≤ b) (b2 : b ≤ 9223372036854775807) :
    Calls Try.prog 66 #[.agg #[.int .i64 h, .int .i64 l], .int .i64 b] w fun e w' => e = .returned (.tuple #[.int .i64 (rqV h l b false), .int .i64 (rqE h l b false)]) ∧ Below w.heap.size w w' := by
  have CQ := Lib.hid (fun (wx : World) => quo_all h l b false wx b1 b2)
  obtain ⟨x, hx⟩ : ∃ x, x = rqV h l b false := ⟨_, rfl⟩
  obtain ⟨y, hy⟩ : ∃ y, y = rqE h l b false := ⟨_, rfl⟩
  rw [← hx, ← hy] at CQ ⊢
  clear hx hy
  go_enter Try.func66, Try.ntmps66
  go_wp2_with fail
  refine (CQ.out _).mono ?_
  rintro e w1 ⟨rfl, hb1⟩
  have HB := Lib.hid (bstep (below1 w _) hb1)
  clear hb1
  go_wp2_with fail
  go_ret2
  exact ⟨rfl, HB.out⟩

/-- Newton's step does not go below the root, and stops there -/
theorem nw_ge (N r g : Nat) (hr : r * r ≤ N) (hg : 1 ≤ g) : r ≤ (g + N / g) / 2 := by
  suffices h : 2 * r ≤ g + N / g by omega
  rcases Nat.lt_or_ge (g + N / g) (2 * r) with h | h
  · exfalso
    have hlt : N < (2 * r - g) * g := by
      have : N / g < 2 * r - g := by generalize N / g = z at *; omega
      exact (Nat.div_lt_iff_lt_mul hg).1 this
    have hle : (2 * r - g) * g ≤ r * r := by
      rcases Nat.le_total g r with hgr | hgr
      · obtain ⟨t, rfl⟩ : ∃ t, r = g + t := ⟨r - g, by omega⟩
        rw [show 2 * (g + t) - g = g + 2 * t by omega, Nat.add_mul, Nat.add_mul g t, Nat.mul_add, Nat.mul_add]
        have e1 : 2 * t * g = g * t + t * g := by rw [Nat.mul_comm g t, Nat.mul_assoc, Nat.two_mul]
        have := Nat.zero_le (t * t)
        omega
      · obtain ⟨t, rfl⟩ : ∃ t, g = r + t := ⟨g - r, by omega⟩
        rcases Nat.le_total t r with htr | htr
        · obtain ⟨x, rfl⟩ : ∃ x, r = t + x := ⟨r - t, by omega⟩
          rw [show 2 * (t + x) - (t + x + t) = x by omega]
          have e1 : x * (t + x + t) = x * t + x * x + x * t := by rw [Nat.mul_add, Nat.mul_add]
          have e2 : (t + x) * (t + x) = t * t + x * t + (x * t + x * x) := by rw [Nat.add_mul, Nat.mul_add, Nat.mul_add, Nat.mul_comm t x]
          have := Nat.zero_le (t * t)
          omega
        · rw [show 2 * r - (r + t) = 0 by omega, Nat.zero_mul]; exact Nat.zero_le _
    omega
  · exact h
theorem nw_stop (N r g : Nat) (hr : N < (r + 1) * (r + 1)) (hg : 1 ≤ g) (h : g ≤ (g + N / g) / 2) : g ≤ r := by
  have h1 : g ≤ N / g := by generalize N / g = z at *; omega
  have h2 : g * g ≤ N := (Nat.le_div_iff_mul_le hg).1 h1
  rcases Nat.lt_or_ge r g with h3 | h3
  · exfalso
    have : (r + 1) * (r + 1) ≤ g * g := Nat.mul_le_mul h3 h3
    omega
  · exact h3
theorem nw_quo (N r g : Nat) (hr : N < (r + 1) * (r + 1)) (h1 : 1 ≤ r) (hg : r ≤ g) : N / g ≤ r + 2 := by
  have : N / g < r + 3 := by
    rw [Nat.div_lt_iff_lt_mul (by omega)]
    have h2 : (r + 3) * r ≤ (r + 3) * g := Nat.mul_le_mul_left _ hg
    have e1 : (r + 1) * (r + 1) = r * r + 2 * r + 1 := by rw [Nat.add_mul, Nat.mul_add]; omega
    have e2 : (r + 3) * r = r * r + 3 * r := by rw [Nat.add_mul]
    omega
  omega
theorem root_le (N r b : Nat) (hr : r * r ≤ N) (hb : N < b * b) : r < b := by
  rcases Nat.lt_or_ge r b with h | h
  · exact h
  · have := Nat.mul_le_mul h h; omega
/-- the root of a number -/
def isq : Nat → Nat
  | 0 => 0
  | n + 1 => if (isq n + 1) * (isq n + 1) ≤ n + 1 then isq n + 1 else isq n
theorem isq_spec (N : Nat) : isq N * isq N ≤ N ∧ N < (isq N + 1) * (isq N + 1) := by
  induction N with
  | zero => simp [isq]
  | succ n ih =>
    unfold isq
    by_cases h : (isq n + 1) * (isq n + 1) ≤ n + 1
    · rw [if_pos h]
      refine ⟨h, ?_⟩
      have e1 : (isq n + 1 + 1) * (isq n + 1 + 1) = (isq n + 1) * (isq n + 1) + (isq n + 1) + (isq n + 1) + 1 := by
        rw [Nat.add_mul (isq n + 1) 1, Nat.mul_add]; omega
      omega
    · rw [if_neg h]; omega
theorem isq_unique (N r : Nat) (h1 : r * r ≤ N) (h2 : N < (r + 1) * (r + 1)) : isq N = r := by
  obtain ⟨a, b⟩ := isq_spec N
  have c := root_le N r (isq N + 1) h1 b
  have d := root_le N (isq N) (r + 1) a h2
  omega
end Go.Proofs.Ytdkigfcglfgpoaa.wd
