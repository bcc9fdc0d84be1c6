/- Trig: contracts of the reference's ends, haversine, Below, has, Valid, sine, Sin, Cos, Hav. -/
import Derived.Test.YtglmkpnnbgkndaaDoorTrC
namespace Go.Proofs.YtglmkpnnbgkndaaDoor
open Go.RowKit
set_option linter.unusedVariables false
set_option maxRecDepth 100000

theorem fl_in (n : Int) : -1073741824 ≤ L6.fl n ∧ L6.fl n ≤ 1073741824 := by
  have h := qk_in n
  unfold L6.fl
  split
  · unfold L6.exV
    split
    · omega
    · split
      · omega
      · split
        · omega
        · split <;> omega
  · omega
theorem rEnds (n : Int) (w : World) : Calls Tryd.prog 49 #[.int .i64 n] w fun e w' => e = .returned (.tuple #[.int .i64 (L6.lo n), .int .i64 (L6.hi n)]) ∧ Below w.heap.size w w' := by
  have C := Lib.hid (fun wx => rFloor6 n wx)
  have hf := fl_in n
  unfold L6.lo L6.hi
  obtain ⟨f1, f2⟩ := hf
  generalize L6.fl n = f at *
  cases hx : L6.ex n
  · rw [hx] at C
    rw [if_neg (by simp)]
    clear hx
    go_enter Tryd.func49, Tryd.ntmps49
    go_wp2_with fail
    refine (C.out _).mono ?_
    rintro e w1 ⟨rfl, hb⟩
    go_wp2_with fail
    go_ret2
    exact ⟨rfl, hb⟩
  · rw [hx] at C
    rw [if_pos rfl]
    clear hx
    go_enter Tryd.func49, Tryd.ntmps49
    go_wp2_with fail
    refine (C.out _).mono ?_
    rintro e w1 ⟨rfl, hb⟩
    go_wp2_with fail
    go_ret2
    exact ⟨rfl, hb⟩
/-- haversines of single angles -/
def hvL (n : Int) : Int := if L6.ex (n + 5400000) = true then (1073741824 - L6.fl (n + 5400000)) / 2 else (1073741824 - L6.fl (n + 5400000) - 1) / 2
def hvH (n : Int) : Int := if L6.ex (n + 5400000) = true then (1073741824 - L6.fl (n + 5400000)) / 2 else (1073741824 - L6.fl (n + 5400000) - 1) / 2 + 1
theorem fl_no_top (n : Int) (h : L6.ex n = false) : L6.fl n ≤ 1073741823 := by
  obtain ⟨q1, q2⟩ := L6.qk_near n
  obtain ⟨-, m1, m2⟩ := L6.fl_of n h (L6.qk n) 140 (by omega) ⟨q1, q2⟩
  have b : L6.sgn n (L6.bs n) ≤ 1 := by
    have c := L6.cz_in (L6.rr n)
    have s := L6.sz_in (L6.rr n)
    unfold L6.sgn L6.bs
    split <;> split <;> grind
  refine L6.int_le_of ?_
  have e : ((1073741823 : Int) : Rat) = 1073741823 := rfl
  rw [e]
  have d : (0 : Rat) < L6.dl := by decide +kernel
  generalize L6.sgn n (L6.bs n) = x at *
  generalize L6.dl = dd at *
  grind
theorem rHvs (n : Int) (w : World) (h1 : -4611686018427387904 ≤ n) (h2 : n ≤ 4611686018427387904) : Calls Tryd.prog 35 #[.int .i64 n] w fun e w' => e = .returned (.tuple #[.int .i64 (hvL n), .int .i64 (hvH n)]) ∧ Below w.heap.size w w' := by
  have C := Lib.hid (fun wx => rFloor6 (n + 5400000) wx)
  obtain ⟨f1, f2⟩ := fl_in (n + 5400000)
  have f3 := fl_no_top (n + 5400000)
  unfold hvL hvH
  obtain ⟨m, hm⟩ : ∃ m, n + 5400000 = m := ⟨_, rfl⟩
  rw [hm] at C f1 f2 f3 ⊢
  generalize L6.fl m = f at *
  cases hx : L6.ex m
  · rw [hx] at C
    rw [if_neg (by simp), if_neg (by simp)]
    have f3 := f3 hx
    obtain ⟨g, hg⟩ : ∃ g : Nat, 1073741824 - f - 1 = (g : Int) := ⟨(1073741824 - f - 1).toNat, by omega⟩
    obtain ⟨q, hq⟩ : ∃ q : Nat, g / 2 = q := ⟨_, rfl⟩
    have i1 : (g : Int) / 2 = (q : Int) := by omega
    have b1 : q ≤ 1073741824 := by omega
    rw [hg, i1]
    clear hx hq
    go_enter Tryd.func35, Tryd.ntmps35
    go_wp2_with fail
    refine (C.out _).mono ?_
    rintro e w1 ⟨rfl, hb⟩
    go_wp2_with fail
    go_ret2
    exact ⟨rfl, hb⟩
  · rw [hx] at C
    rw [if_pos rfl, if_pos rfl]
    obtain ⟨g, hg⟩ : ∃ g : Nat, 1073741824 - f = (g : Int) := ⟨(1073741824 - f).toNat, by omega⟩
    obtain ⟨q, hq⟩ : ∃ q : Nat, g / 2 = q := ⟨_, rfl⟩
    have i1 : (g : Int) / 2 = (q : Int) := by omega
    have b1 : q ≤ 1073741824 := by omega
    rw [hg, i1]
    clear hx hq f3
    go_enter Tryd.func35, Tryd.ntmps35
    go_wp2_with fail
    refine (C.out _).mono ?_
    rintro e w1 ⟨rfl, hb⟩
    go_wp2_with fail
    go_ret2
    exact ⟨rfl, hb⟩
/-- the sine against a number -/
def blN (n v : Int) : Int := if L6.ex n = true ∧ L6.fl n = v then 0 else if v ≤ L6.fl n then 1 else -1
set_option maxHeartbeats 1000000 in
theorem rBelow (n v : Int) (w : World) : Calls Tryd.prog 21 #[.int .i64 n, .int .i64 v] w fun e w' => e = .returned (.int .i64 (blN n v)) ∧ Below w.heap.size w w' := by
  have C := Lib.hid (fun wx => rFloor6 n wx)
  unfold blN
  generalize L6.fl n = f at *
  cases hx : L6.ex n
  · rw [hx] at C
    rw [if_neg (by simp)]
    by_cases c : v ≤ f
    · rw [if_pos c]
      have c' : f ≥ v := c
      clear hx c
      go_enter Tryd.func21, Tryd.ntmps21
      go_wp2_with fail
      refine (C.out _).mono ?_
      rintro e w1 ⟨rfl, hb⟩
      go_wp2_with fail
      go_ret
      exact ⟨rfl, hb⟩
    · rw [if_neg c]
      have c' : ¬ f ≥ v := c
      clear hx c
      go_enter Tryd.func21, Tryd.ntmps21
      go_wp2_with fail
      refine (C.out _).mono ?_
      rintro e w1 ⟨rfl, hb⟩
      go_wp2_with fail
      go_ret
      exact ⟨rfl, hb⟩
  · rw [hx] at C
    by_cases d : f = v
    · rw [if_pos ⟨rfl, d⟩]
      have t1 : (f == v) = true := beq_iff_eq.2 d
      clear hx d
      go_enter Tryd.func21, Tryd.ntmps21
      go_wp2_with fail
      refine (C.out _).mono ?_
      rintro e w1 ⟨rfl, hb⟩
      go_wp2_with fail
      go_ret
      exact ⟨rfl, hb⟩
    · rw [if_neg (fun k => d k.2)]
      have t1 : (f == v) = false := beq_eq_false_iff_ne.2 d
      by_cases c : v ≤ f
      · rw [if_pos c]
        have c' : f ≥ v := c
        clear hx c d
        go_enter Tryd.func21, Tryd.ntmps21
        go_wp2_with fail
        refine (C.out _).mono ?_
        rintro e w1 ⟨rfl, hb⟩
        go_wp2_with fail
        go_ret
        exact ⟨rfl, hb⟩
      · rw [if_neg c]
        have c' : ¬ f ≥ v := c
        clear hx c d
        go_enter Tryd.func21, Tryd.ntmps21
        go_wp2_with fail
        refine (C.out _).mono ?_
        rintro e w1 ⟨rfl, hb⟩
        go_wp2_with fail
        go_ret
        exact ⟨rfl, hb⟩
set_option maxHeartbeats 1000000 in
theorem rHas6 (a b n : Int) (w : World) (a1 : -4398046511104 ≤ a) (a2 : a ≤ 4398046511104) (n1 : -21600000 ≤ n) (n2 : n ≤ 21600000) :
    Calls Tryd.prog 36 #[.agg #[.int .i64 a, .int .i64 b], .int .i64 n] w fun e w' => e = .returned (.bool (L6.has a b n)) ∧ Below w.heap.size w w' := by
  obtain ⟨M, hm, hM, t1, t2, t3⟩ := tmodM (n - a)
  unfold L6.mT at hm
  unfold L6.has
  rw [hm]
  obtain ⟨r0, hr0⟩ : ∃ r0, (n - a).tmod 21600000 = r0 := ⟨_, rfl⟩
  rw [hr0] at t1 t2 t3
  obtain ⟨A0, A1, -, -, -⟩ := At2.new w (.int .i64 a) (.int .i64 b) 23
  clear hm
  by_cases h : r0 < 0
  · have t := t1 h
    clear t1 t2
    go_enter Tryd.func36, Tryd.ntmps36
    go_wp2_with fail
    go_ret
    exact ⟨ret_bool (by first | rfl | simp), below1 _ _⟩
  · have t := t2 h
    clear t1 t2
    go_enter Tryd.func36, Tryd.ntmps36
    go_wp2_with fail
    go_ret
    exact ⟨ret_bool (by first | rfl | simp), below1 _ _⟩
end Go.Proofs.YtglmkpnnbgkndaaDoor
