/- Place: contracts of the program's small functions. -/
import Derived.Test.YtndcjldnnfhedaaDoorPcB
import Derived.Test.YtndcjldnnfhedaaDoorAnR
import Derived.Deep.RegionHeld3
namespace Go.Proofs.YtndcjldnnfhedaaDoor
open Go.RowKit
set_option linter.unusedVariables false
set_option maxRecDepth 100000

theorem pWidth (a b : Int) (w : World) (h1 : -2305843009213693952 ≤ a ∧ a ≤ 2305843009213693952) (h2 : -2305843009213693952 ≤ b ∧ b ≤ 2305843009213693952) :
    Calls Tryd.prog 57 #[.agg #[.int .i64 a, .int .i64 b]] w fun e w' => e = .returned (.int .i64 (b - a)) ∧ Below w.heap.size w w' := by
  obtain ⟨a0, a1, af0, af1, alt⟩ := At2.new w (.int .i64 a) (.int .i64 b) 25
  have d1 : -9223372036854775808 ≤ b - a := by omega
  have d2 : b - a ≤ 9223372036854775807 := by omega
  go_enter Tryd.func57, Tryd.ntmps57
  go_wp2
  go_ret
  exact ⟨ret_int (by first | rfl | go_num), below1 _ _⟩
def lngB (n : Int) : Bool := decide (-10800000 ≤ n ∧ n < 10800000)
theorem pIsLon (n : Int) (w : World) :
    Calls Tryd.prog 31 #[.int .i64 n] w fun e w' => e = .returned (.bool (lngB n)) ∧ w' = w := by
  unfold lngB
  by_cases c1 : -10800000 ≤ n
  · by_cases c2 : n < 10800000
    · rw [decide_eq_true (show -10800000 ≤ n ∧ n < 10800000 by omega)]
      go_enter Tryd.func31, Tryd.ntmps31
      go_wp2
      go_ret
      exact ⟨by first | rfl | (refine ret_bool ?_; rw [decide_eq_true_iff]; omega) | (refine ret_bool ?_; rw [decide_eq_false_iff_not]; omega), rfl⟩
    · rw [decide_eq_false (show ¬ (-10800000 ≤ n ∧ n < 10800000) by omega)]
      go_enter Tryd.func31, Tryd.ntmps31
      go_wp2
      go_ret
      exact ⟨by first | rfl | (refine ret_bool ?_; rw [decide_eq_true_iff]; omega) | (refine ret_bool ?_; rw [decide_eq_false_iff_not]; omega), rfl⟩
  · rw [decide_eq_false (show ¬ (-10800000 ≤ n ∧ n < 10800000) by omega)]
    go_enter Tryd.func31, Tryd.ntmps31
    go_wp2
    go_ret
    exact ⟨by first | rfl | (refine ret_bool ?_; rw [decide_eq_true_iff]; omega) | (refine ret_bool ?_; rw [decide_eq_false_iff_not]; omega), rfl⟩
def narB (a b : Int) : Bool := decide (-10800000 ≤ a ∧ a < 10800000 ∧ a ≤ b ∧ b < a + 21600000)
theorem pIsNarrow (a b : Int) (w : World) :
    Calls Tryd.prog 30 #[.agg #[.int .i64 a, .int .i64 b]] w fun e w' => e = .returned (.bool (narB a b)) ∧ Below w.heap.size w w' := by
  have A := At2.new w (.int .i64 a) (.int .i64 b) 25
  have HB := Lib.hid (below1 w (.cells #[.int .i64 a, .int .i64 b] 25))
  obtain ⟨a0, a1, af0, af1, alt⟩ := A
  have CL := Lib.hid (fun wx => pIsLon a wx)
  unfold narB
  by_cases c0 : -10800000 ≤ a ∧ a < 10800000
  · rw [show lngB a = true from decide_eq_true c0] at CL
    obtain ⟨c1, c2⟩ := c0
    by_cases e1 : a ≤ b
    · by_cases e2 : b < a + 21600000
      · rw [decide_eq_true (show -10800000 ≤ a ∧ a < 10800000 ∧ a ≤ b ∧ b < a + 21600000 by omega)]
        go_enter Tryd.func30, Tryd.ntmps30
        go_wp2_with fail
        refine (CL.out _).mono ?_
        rintro e w1 ⟨rfl, rfl⟩
        go_wp2_with fail
        go_ret
        exact ⟨by first | rfl | (refine ret_bool ?_; rw [decide_eq_true_iff]; omega) | (refine ret_bool ?_; rw [decide_eq_false_iff_not]; omega), HB.out⟩
      · rw [decide_eq_false (show ¬ (-10800000 ≤ a ∧ a < 10800000 ∧ a ≤ b ∧ b < a + 21600000) by omega)]
        go_enter Tryd.func30, Tryd.ntmps30
        go_wp2_with fail
        refine (CL.out _).mono ?_
        rintro e w1 ⟨rfl, rfl⟩
        go_wp2_with fail
        go_ret
        exact ⟨by first | rfl | (refine ret_bool ?_; rw [decide_eq_true_iff]; omega) | (refine ret_bool ?_; rw [decide_eq_false_iff_not]; omega), HB.out⟩
    · rw [decide_eq_false (show ¬ (-10800000 ≤ a ∧ a < 10800000 ∧ a ≤ b ∧ b < a + 21600000) by omega)]
      go_enter Tryd.func30, Tryd.ntmps30
      go_wp2_with fail
      refine (CL.out _).mono ?_
      rintro e w1 ⟨rfl, rfl⟩
      go_wp2_with fail
      go_ret
      exact ⟨by first | rfl | (refine ret_bool ?_; rw [decide_eq_true_iff]; omega) | (refine ret_bool ?_; rw [decide_eq_false_iff_not]; omega), HB.out⟩
  · rw [show lngB a = false from decide_eq_false c0] at CL
    rw [decide_eq_false (show ¬ (-10800000 ≤ a ∧ a < 10800000 ∧ a ≤ b ∧ b < a + 21600000) by omega)]
    clear c0
    go_enter Tryd.func30, Tryd.ntmps30
    go_wp2_with fail
    refine (CL.out _).mono ?_
    rintro e w1 ⟨rfl, rfl⟩
    go_wp2_with fail
    go_ret
    exact ⟨by first | rfl | (refine ret_bool ?_; rw [decide_eq_true_iff]; omega) | (refine ret_bool ?_; rw [decide_eq_false_iff_not]; omega), HB.out⟩
/-- is an arc less: by its width, then by its beginning -/
def lessB (a b c d : Int) : Bool := decide (b - a < d - c ∨ (b - a = d - c ∧ a < c))
theorem isNaN_any (n : Int) (w : World) :
    Calls Tryd.prog 84 #[.int .i64 n] w fun e w' => e = .returned (.bool false) ∧ w' = w := by
  go_enter Tryd.func84, Tryd.ntmps84
  go_wp2
  go_ret
  exact ⟨by simp, rfl⟩
def icmp (a b : Int) : Int := if a < b then -1 else if b < a then 1 else 0
theorem ccmp_any (a b : Int) (w : World) :
    Calls Tryd.prog 59 #[.int .i64 a, .int .i64 b] w fun e w' => e = .returned (.int .i64 (icmp a b)) ∧ w' = w := by
  have CI := Lib.hid (fun x wx => isNaN_any x wx)
  rcases (show a < b ∨ a = b ∨ b < a by omega) with h | h | h
  · have E : Hid (icmp a b = -1) := if_pos h
    go_enter Tryd.func59, Tryd.ntmps59
    go_wp2_with fail
    refine (CI.out _ _).mono ?_
    rintro e w' ⟨rfl, rfl⟩
    go_wp2_with fail
    refine (CI.out _ _).mono ?_
    rintro e w' ⟨rfl, rfl⟩
    go_wp2_with fail
    go_ret
    exact ⟨ret_int E.out.symm, rfl⟩
  · subst h
    have E : Hid (icmp a a = 0) := by show icmp a a = 0; unfold icmp; rw [if_neg (by omega), if_neg (by omega)]
    go_enter Tryd.func59, Tryd.ntmps59
    go_wp2_with fail
    refine (CI.out _ _).mono ?_
    rintro e w' ⟨rfl, rfl⟩
    go_wp2_with fail
    refine (CI.out _ _).mono ?_
    rintro e w' ⟨rfl, rfl⟩
    go_wp2_with fail
    go_ret
    exact ⟨ret_int E.out.symm, rfl⟩
  · have E : Hid (icmp a b = 1) := by show icmp a b = 1; unfold icmp; rw [if_neg (by omega), if_pos h]
    go_enter Tryd.func59, Tryd.ntmps59
    go_wp2_with fail
    refine (CI.out _ _).mono ?_
    rintro e w' ⟨rfl, rfl⟩
    go_wp2_with fail
    refine (CI.out _ _).mono ?_
    rintro e w' ⟨rfl, rfl⟩
    go_wp2_with fail
    go_ret
    exact ⟨ret_int E.out.symm, rfl⟩

theorem or_any (x y r : Int) (g : Nat) (w : World) (c0 : w.cell? ⟨g, 0, none⟩ = some (.int .i64 x)) (c1 : w.cell? ⟨g, 1, none⟩ = some (.int .i64 y)) (h1 : x ≠ 0 → r = x) (h2 : x = 0 → r = y) :
    Calls Tryd.prog 58 #[.slice (some ⟨g, 0, none⟩) 2 2] w fun e w' => e = .returned (.int .i64 r) ∧ w' = w := by
  have h1 := Lib.hid h1
  have h2 := Lib.hid h2
  go_enter Tryd.func58, Tryd.ntmps58
  go_wp2_with fail
  go_loopg [8] 2 (fun m v8 wr => ∃ j : Nat, m = 2 - j ∧ v8 = .int .i64 (j : Int) ∧ Hid (j ≤ 2) ∧ Hid (1 ≤ j → x = 0) ∧ Hid (2 ≤ j → y = 0) ∧ w = wr)
  case atStart => exact ⟨0, rfl, rfl, Nat.zero_le _, fun h => absurd h (by omega), fun h => absurd h (by omega), rfl⟩
  case round =>
    obtain ⟨j, hm, rfl, HJ, HX, HY, rfl⟩ := hrel
    have HG := Lib.hid hm
    clear hm
    rcases (show j = 0 ∨ j = 1 ∨ j = 2 by have := HJ.out; omega) with rfl | rfl | rfl
    · by_cases c : x = 0
      · have HX := Lib.hid c
        subst c
        go_wp2_with fail
        go_roundg 1
        case measure => have := HG.out; omega
        case rel => exact ⟨1, rfl, rfl, by show _ ≤ _; omega, by first | exact fun _ => rfl | exact fun _ => trivial, fun h => absurd h (by omega), by first | rfl | trivial⟩
      · have e := h1.out c
        go_wp2_with fail
        go_ret
        exact ⟨ret_int e.symm, rfl⟩
    · have z := HX.out (by omega)
      have e := h2.out z
      by_cases c : y = 0
      · have HZ := Lib.hid z
        clear e z
        subst c
        go_wp2_with fail
        go_roundg 0
        case measure => have := HG.out; omega
        case rel => exact ⟨2, rfl, rfl, by show _ ≤ _; omega, fun _ => HZ.out, by first | exact fun _ => rfl | exact fun _ => trivial, by first | rfl | trivial⟩
      · clear z
        go_wp2_with fail
        go_ret
        exact ⟨ret_int e.symm, rfl⟩
    · have z := HX.out (by omega)
      have e := h2.out z
      have f := HY.out (by omega)
      have e := Lib.hid (e.trans f)
      clear z f
      go_wp2_with fail
      go_ret
      exact ⟨ret_int e.out.symm, rfl⟩
theorem pIsLess (a b c d : Int) (w : World) (h1 : -2305843009213693952 ≤ a ∧ a ≤ 2305843009213693952) (h2 : -2305843009213693952 ≤ b ∧ b ≤ 2305843009213693952) (h3 : -2305843009213693952 ≤ c ∧ c ≤ 2305843009213693952) (h4 : -2305843009213693952 ≤ d ∧ d ≤ 2305843009213693952) :
    Calls Tryd.prog 46 #[.agg #[.int .i64 a, .int .i64 b], .agg #[.int .i64 c, .int .i64 d]] w fun e w' => e = .returned (.bool (lessB a b c d)) ∧ Below w.heap.size w w' := by
  have C1 := Lib.hid (fun wx => pWidth a b wx h1 h2)
  have C2 := Lib.hid (fun wx => pWidth c d wx h3 h4)
  have C3 := Lib.hid (fun wx => ccmp_any (b - a) (d - c) wx)
  have C4 := Lib.hid (fun wx => ccmp_any a c wx)
  obtain ⟨r, hr⟩ : ∃ r, (if icmp (b - a) (d - c) = 0 then icmp a c else icmp (b - a) (d - c)) = r := ⟨_, rfl⟩
  have C5 := Lib.hid (fun (g : Nat) (wx : World) c0 c1 => or_any (icmp (b - a) (d - c)) (icmp a c) r g wx c0 c1 (fun k => by rw [← hr, if_neg k]) (fun k => by rw [← hr, if_pos k]))
  have key : lessB a b c d = decide (r < 0) := by
    unfold lessB
    rw [Bool.eq_iff_iff, decide_eq_true_iff, decide_eq_true_iff, ← hr]
    unfold icmp
    split <;> split <;> omega
  rw [key]
  clear key hr h1 h2 h3 h4
  generalize b - a = x at *
  generalize d - c = y at *
  generalize icmp x y = u at *
  generalize icmp a c = t at *
  have A := (At2.new w (.int .i64 a) (.int .i64 b) 25).alloc (.cells #[.int .i64 c, .int .i64 d] 25)
  have B := At2.new (w.alloc (.cells #[.int .i64 a, .int .i64 b] 25)) (.int .i64 c) (.int .i64 d) 25
  have HB := Lib.hid (below2 w (.cells #[.int .i64 a, .int .i64 b] 25) (.cells #[.int .i64 c, .int .i64 d] 25))
  simp at B
  obtain ⟨A0, A1, -, -, -⟩ := id A
  obtain ⟨B0, B1, -, -, -⟩ := id B
  go_enter Tryd.func46, Tryd.ntmps46
  go_upto_region 1 with fail
  generalize ((w.alloc (.cells #[.int .i64 a, .int .i64 b] 25)).alloc (.cells #[.int .i64 c, .int .i64 d] 25)) = W at *
  go_region_held3 (fun w' => w'.cell? ⟨w.heap.size, 0, none⟩ = some (.int .i64 a) ∧ w'.cell? ⟨w.heap.size, 1, none⟩ = some (.int .i64 b) ∧ w'.cell? ⟨w.heap.size + 1, 0, none⟩ = some (.int .i64 c) ∧ w'.cell? ⟨w.heap.size + 1, 1, none⟩ = some (.int .i64 d)) (go_keep)
    (first
    | (go_at_call 57; (first | (with_reducible refine (C1.out _).mono ?_) | (with_reducible refine (C2.out _).mono ?_)); rintro e v ⟨rfl, hb⟩; clear A0 A1 B0 B1; have A := (by first | exact A.keep hb | exact A.dr8.keep hb : At2 v _ _ _); have B := (by first | exact B.keep hb | exact B.dr8.keep hb : At2 v _ _ _); have HB := Lib.hid (by first | exact bstep HB.out hb | exact bstep HB.out (bdrew hb) : Below w.heap.size w v); obtain ⟨A0, A1, -, -, -⟩ := id A; obtain ⟨B0, B1, -, -, -⟩ := id B; clear hb)
    | (go_at_call 59; (first | (with_reducible refine (C3.out _).mono ?_) | (with_reducible refine (C4.out _).mono ?_)); rintro e v ⟨rfl, rfl⟩)
    | (go_at_call 58; have N := At2.new v (.int .i64 u) (.int .i64 t) 3; (with_reducible refine (C5.out _ _ N.c0 N.c1).mono ?_); rintro e v ⟨rfl, rfl⟩; have HB := Lib.hid (bstep HB.out (below1 v (.cells #[.int .i64 u, .int .i64 t] 3)))))
  all_goals
    go_wp2_with fail
    go_ret
    exact ⟨rfl, HB.out⟩
end Go.Proofs.YtndcjldnnfhedaaDoor
