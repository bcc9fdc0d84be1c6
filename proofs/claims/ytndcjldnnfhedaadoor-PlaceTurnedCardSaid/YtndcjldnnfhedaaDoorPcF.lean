/- Place: contracts of the program's isPart, Contains, Inside. -/
import Derived.Test.YtndcjldnnfhedaaDoorPcD
import Derived.Test.YtndcjldnnfhedaaDoorPcE
namespace Go.Proofs.YtndcjldnnfhedaaDoor
open Go.RowKit
set_option linter.unusedVariables false
set_option maxRecDepth 100000

theorem good2 {a b c d : Int} (h : lonOk a b = true) (k : lonOk c d = true) : GoodL [(a, b), (c, d)] := by
  have := lon_bd h; have := lon_bd k
  intro p hp
  simp only [List.mem_cons, List.not_mem_nil, or_false] at hp
  rcases hp with rfl | rfl <;> simp only <;> omega
theorem row2 {w : World} {g : Nat} {a b c d : Int} (N : At4 w g (.int .i64 a) (.int .i64 b) (.int .i64 c) (.int .i64 d)) : RowP w g 0 [(a, b), (c, d)] := by
  intro j hj
  match j, hj with
  | 0, _ => exact ⟨N.c0, N.c1⟩
  | 1, _ => exact ⟨N.c2, N.c3⟩
theorem pAround2 (a b c d : Int) (h : lonOk a b = true) (k : lonOk c d = true) (g : Nat) (w : World) (H : HasAll w) (N : At4 w g (.int .i64 a) (.int .i64 b) (.int .i64 c) (.int .i64 d)) :
    Calls Tryd.prog 34 #[.slice (some ⟨g, 0, none⟩) 2 2] w fun e w' => e = .returned (.agg #[.int .i64 (arnd [(a, b), (c, d)]).1, .int .i64 (arnd [(a, b), (c, d)]).2]) ∧ Below w.heap.size w w' :=
  pAround g 0 2 2 [(a, b), (c, d)] w H rfl (by omega) (good2 h k) N.lt (row2 N)
theorem HasAll.drp {w : World} (h : HasAll w) : HasAll w.drew := h.below (Below.refl _ _).drew
theorem isPart_walk (a b c d r1 r2 : Int) (r : Bool) (w : World) (H : HasAll w)
    (CA : Hid (∀ (g : Nat) (wx : World), HasAll wx → At4 wx g (.int .i64 a) (.int .i64 b) (.int .i64 c) (.int .i64 d) → Calls Tryd.prog 34 #[.slice (some ⟨g, 0, none⟩) 2 2] wx fun e w' => e = .returned (.agg #[.int .i64 r1, .int .i64 r2]) ∧ Below wx.heap.size wx w'))
    (k1 : (r1 = c ∧ r2 = d ∧ r = true) ∨ (r1 = c ∧ ¬ r2 = d ∧ r = false) ∨ (¬ r1 = c ∧ r = false)) :
    Calls Tryd.prog 32 #[.agg #[.int .i64 a, .int .i64 b], .agg #[.int .i64 c, .int .i64 d]] w fun e w' => e = .returned (.bool r) ∧ Below w.heap.size w w' := by
  have A := (At2.new w (.int .i64 a) (.int .i64 b) 25).alloc (.cells #[.int .i64 c, .int .i64 d] 25)
  have B := At2.new (w.alloc (.cells #[.int .i64 a, .int .i64 b] 25)) (.int .i64 c) (.int .i64 d) 25
  have HB := Lib.hid (below2 w (.cells #[.int .i64 a, .int .i64 b] 25) (.cells #[.int .i64 c, .int .i64 d] 25))
  simp at B
  have G := H.below HB.out
  obtain ⟨A0, A1, -, -, -⟩ := id A
  obtain ⟨B0, B1, -, -, -⟩ := id B
  rcases k1 with ⟨k1, k2, rfl⟩ | ⟨k1, k2, rfl⟩ | ⟨k1, rfl⟩
  · have k3 := k1.symm
    subst k3
    have k4 := k2.symm
    subst k4
    clear k1 k2
    go_enter Tryd.func32, Tryd.ntmps32
    go_upto_region 1 with fail
    generalize ((w.alloc (.cells #[.int .i64 a, .int .i64 b] 25)).alloc (.cells #[.int .i64 c, .int .i64 d] 25)) = W at *
    have N := (At4.new W (.int .i64 a) (.int .i64 b) (.int .i64 c) (.int .i64 d) 25).drp
    have GN := (G.below (below1 W (.cells #[.int .i64 a, .int .i64 b, .int .i64 c, .int .i64 d] 25))).drp
    have HB := Lib.hid (bstep HB.out (below1 W (.cells #[.int .i64 a, .int .i64 b, .int .i64 c, .int .i64 d] 25)))
    go_region_held3 (fun w' => w'.cell? ⟨w.heap.size, 0, none⟩ = some (.int .i64 a) ∧ w'.cell? ⟨w.heap.size, 1, none⟩ = some (.int .i64 b) ∧ w'.cell? ⟨w.heap.size + 1, 0, none⟩ = some (.int .i64 c) ∧ w'.cell? ⟨w.heap.size + 1, 1, none⟩ = some (.int .i64 d)) (go_keep)
      (first
      | (go_at_call 34; (with_reducible refine (CA.out _ _ GN N).mono ?_); rintro e v ⟨rfl, hb⟩; clear A0 A1 B0 B1; have A := (A.alloc _).dr8.keep hb; have B := (B.alloc _).dr8.keep hb; have HB := Lib.hid (bstep HB.out (bdrew hb)); obtain ⟨A0, A1, -, -, -⟩ := id A; obtain ⟨B0, B1, -, -, -⟩ := id B; clear hb))
    all_goals
      go_wp2_with fail
      go_ret
      exact ⟨by first | rfl | exact ret_bool (by simp [*]), HB.out⟩
  · have k3 := k1.symm
    subst k3
    have kb : (r2 == d) = false := beq_eq_false_iff_ne.2 k2
    clear k1
    go_enter Tryd.func32, Tryd.ntmps32
    go_upto_region 1 with fail
    generalize ((w.alloc (.cells #[.int .i64 a, .int .i64 b] 25)).alloc (.cells #[.int .i64 c, .int .i64 d] 25)) = W at *
    have N := (At4.new W (.int .i64 a) (.int .i64 b) (.int .i64 c) (.int .i64 d) 25).drp
    have GN := (G.below (below1 W (.cells #[.int .i64 a, .int .i64 b, .int .i64 c, .int .i64 d] 25))).drp
    have HB := Lib.hid (bstep HB.out (below1 W (.cells #[.int .i64 a, .int .i64 b, .int .i64 c, .int .i64 d] 25)))
    go_region_held3 (fun w' => w'.cell? ⟨w.heap.size, 0, none⟩ = some (.int .i64 a) ∧ w'.cell? ⟨w.heap.size, 1, none⟩ = some (.int .i64 b) ∧ w'.cell? ⟨w.heap.size + 1, 0, none⟩ = some (.int .i64 c) ∧ w'.cell? ⟨w.heap.size + 1, 1, none⟩ = some (.int .i64 d)) (go_keep)
      (first
      | (go_at_call 34; (with_reducible refine (CA.out _ _ GN N).mono ?_); rintro e v ⟨rfl, hb⟩; clear A0 A1 B0 B1; have A := (A.alloc _).dr8.keep hb; have B := (B.alloc _).dr8.keep hb; have HB := Lib.hid (bstep HB.out (bdrew hb)); obtain ⟨A0, A1, -, -, -⟩ := id A; obtain ⟨B0, B1, -, -, -⟩ := id B; clear hb))
    all_goals
      go_wp2_with fail
      go_ret
      exact ⟨by first | rfl | exact ret_bool (by simp [*]), HB.out⟩
  · have kb : (r1 == c) = false := beq_eq_false_iff_ne.2 k1
    go_enter Tryd.func32, Tryd.ntmps32
    go_upto_region 1 with fail
    generalize ((w.alloc (.cells #[.int .i64 a, .int .i64 b] 25)).alloc (.cells #[.int .i64 c, .int .i64 d] 25)) = W at *
    have N := (At4.new W (.int .i64 a) (.int .i64 b) (.int .i64 c) (.int .i64 d) 25).drp
    have GN := (G.below (below1 W (.cells #[.int .i64 a, .int .i64 b, .int .i64 c, .int .i64 d] 25))).drp
    have HB := Lib.hid (bstep HB.out (below1 W (.cells #[.int .i64 a, .int .i64 b, .int .i64 c, .int .i64 d] 25)))
    go_region_held3 (fun w' => w'.cell? ⟨w.heap.size, 0, none⟩ = some (.int .i64 a) ∧ w'.cell? ⟨w.heap.size, 1, none⟩ = some (.int .i64 b) ∧ w'.cell? ⟨w.heap.size + 1, 0, none⟩ = some (.int .i64 c) ∧ w'.cell? ⟨w.heap.size + 1, 1, none⟩ = some (.int .i64 d)) (go_keep)
      (first
      | (go_at_call 34; (with_reducible refine (CA.out _ _ GN N).mono ?_); rintro e v ⟨rfl, hb⟩; clear A0 A1 B0 B1; have A := (A.alloc _).dr8.keep hb; have B := (B.alloc _).dr8.keep hb; have HB := Lib.hid (bstep HB.out (bdrew hb)); obtain ⟨A0, A1, -, -, -⟩ := id A; obtain ⟨B0, B1, -, -, -⟩ := id B; clear hb))
    all_goals
      go_wp2_with fail
      go_ret
      exact ⟨by first | rfl | exact ret_bool (by simp [*]), HB.out⟩
theorem pIsPart (a b c d : Int) (h : lonOk a b = true) (k : lonOk c d = true) (w : World) (H : HasAll w) :
    Calls Tryd.prog 32 #[.agg #[.int .i64 a, .int .i64 b], .agg #[.int .i64 c, .int .i64 d]] w fun e w' => e = .returned (.bool (partB a b c d)) ∧ Below w.heap.size w w' := by
  have e := part_is h k
  refine isPart_walk a b c d (arnd [(a, b), (c, d)]).1 (arnd [(a, b), (c, d)]).2 _ w H (Lib.hid fun g wx Hx N => pAround2 a b c d h k g wx Hx N) ?_
  rw [← e]
  generalize arnd [(a, b), (c, d)] = R
  obtain ⟨u, v⟩ := R
  by_cases h1 : u = c
  · by_cases h2 : v = d
    · exact .inl ⟨h1, h2, decide_eq_true (by rw [h1, h2])⟩
    · exact .inr (.inl ⟨h1, h2, decide_eq_false (by rw [Prod.mk.injEq]; exact fun x => h2 x.2)⟩)
  · exact .inr (.inr ⟨h1, decide_eq_false (by rw [Prod.mk.injEq]; exact fun x => h1 x.1)⟩)
theorem ainR_one (x a b : Int) (h : latOk a b = true) (hx : -5400000 ≤ x ∧ x ≤ 5400000) : ainR x x a b = decide (a ≤ x ∧ x ≤ b) := by
  have k := (latOk_iff _ _).1 h
  unfold ainR aok
  rw [Bool.eq_iff_iff]
  simp only [Bool.and_eq_true, decide_eq_true_iff]
  omega
def poleB (x : Int) : Bool := decide (x = -5400000 ∨ x = 5400000)
/-- does a valid place contain a valid point -/
def conB (a b c d x y : Int) : Bool := decide (a ≤ x ∧ x ≤ b) && (poleB x || partB y y c d)
def conE (a b c d x y : Int) : Int := if ptOk x y = true ∧ plOk a b c d = true then 0 else 1
def conV (a b c d x y : Int) : Bool := decide (ptOk x y = true ∧ plOk a b c d = true) && conB a b c d x y
theorem lon_one {y : Int} (h : -10800000 ≤ y ∧ y < 10800000) : lonOk y y = true := by rw [lonOk_iff]; omega
set_option maxHeartbeats 2000000 in
theorem pContains (a b c d x y : Int) (w : World) (H : HasAll w) :
    Calls Tryd.prog 14 #[.agg #[.int .i64 a, .int .i64 b, .int .i64 c, .int .i64 d], .agg #[.int .i64 x, .int .i64 y]] w fun e w' => e = .returned (.tuple #[.bool (conV a b c d x y), .int .i64 (conE a b c d x y)]) ∧ Below w.heap.size w w' := by
  have CO := Lib.hid (fun wx => pOf x y wx)
  have CV := Lib.hid (fun wx (Hx : HasAll wx) => pPlValid a b c d wx Hx)
  have A := (At4.new w (.int .i64 a) (.int .i64 b) (.int .i64 c) (.int .i64 d) 33).alloc (.cells #[.int .i64 x, .int .i64 y] 35)
  have B := At2.new (w.alloc (.cells #[.int .i64 a, .int .i64 b, .int .i64 c, .int .i64 d] 33)) (.int .i64 x) (.int .i64 y) 35
  have HB := Lib.hid (below2 w (.cells #[.int .i64 a, .int .i64 b, .int .i64 c, .int .i64 d] 33) (.cells #[.int .i64 x, .int .i64 y] 35))
  simp at B
  have G := H.below HB.out
  obtain ⟨A0, A1, A2, A3, -, -, -, -, -⟩ := id A
  obtain ⟨B0, B1, -, -, -⟩ := id B
  cases hp : ptOk x y
  · have e1 : conE a b c d x y = 1 := if_neg (by rw [hp]; simp)
    have e2 : conV a b c d x y = false := by unfold conV; rw [hp]; simp
    rw [e1, e2]
    rw [hp, if_neg (by decide)] at CO
    unfold vPE at CO
    go_enter Tryd.func14, Tryd.ntmps14
    go_wp2_with fail
    refine ((CO).out _).mono ?_
    rintro e w1 ⟨rfl, hb⟩
    clear A0 A1 A2 A3 B0 B1
    have A := A.keep hb
    have B := B.keep hb
    have G := G.below hb
    have HB := Lib.hid (bstep HB.out hb)
    clear hb
    obtain ⟨A0, A1, A2, A3, -, -, -, -, -⟩ := id A
    obtain ⟨B0, B1, -, -, -⟩ := id B
    clear A0 A1 A2 A3 B0 B1
    have A := A.alloc (.cells #[.int .i64 0, .int .i64 0, .int .i64 0, .int .i64 0] 33)
    have B := B.alloc (.cells #[.int .i64 0, .int .i64 0, .int .i64 0, .int .i64 0] 33)
    have G := G.below (below1 w1 (.cells #[.int .i64 0, .int .i64 0, .int .i64 0, .int .i64 0] 33))
    have S := At4.new w1 (.int .i64 0) (.int .i64 0) (.int .i64 0) (.int .i64 0) 33
    have HB := Lib.hid (bstep HB.out (below1 w1 (.cells #[.int .i64 0, .int .i64 0, .int .i64 0, .int .i64 0] 33)))
    obtain ⟨A0, A1, A2, A3, -, -, -, -, -⟩ := id A
    obtain ⟨B0, B1, -, -, -⟩ := id B
    obtain ⟨S0, S1, S2, S3, -, -, -, -, -⟩ := id S
    go_wp2_with fail
    go_ret2
    exact ⟨rfl, HB.out⟩
  · cases hv : plOk a b c d
    · have e1 : conE a b c d x y = 1 := if_neg (by rw [hv]; simp)
      have e2 : conV a b c d x y = false := by unfold conV; rw [hv]; simp
      rw [e1, e2]
      rw [hp, if_pos rfl] at CO
      unfold vPE at CO
      rw [hv] at CV
      go_enter Tryd.func14, Tryd.ntmps14
      go_wp2_with fail
      refine ((CO).out _).mono ?_
      rintro e w1 ⟨rfl, hb⟩
      clear A0 A1 A2 A3 B0 B1
      have A := A.keep hb
      have B := B.keep hb
      have G := G.below hb
      have HB := Lib.hid (bstep HB.out hb)
      clear hb
      obtain ⟨A0, A1, A2, A3, -, -, -, -, -⟩ := id A
      obtain ⟨B0, B1, -, -, -⟩ := id B
      clear A0 A1 A2 A3 B0 B1
      have A := A.alloc (.cells #[.int .i64 x, .int .i64 x, .int .i64 y, .int .i64 y] 33)
      have B := B.alloc (.cells #[.int .i64 x, .int .i64 x, .int .i64 y, .int .i64 y] 33)
      have G := G.below (below1 w1 (.cells #[.int .i64 x, .int .i64 x, .int .i64 y, .int .i64 y] 33))
      have S := At4.new w1 (.int .i64 x) (.int .i64 x) (.int .i64 y) (.int .i64 y) 33
      have HB := Lib.hid (bstep HB.out (below1 w1 (.cells #[.int .i64 x, .int .i64 x, .int .i64 y, .int .i64 y] 33)))
      obtain ⟨A0, A1, A2, A3, -, -, -, -, -⟩ := id A
      obtain ⟨B0, B1, -, -, -⟩ := id B
      obtain ⟨S0, S1, S2, S3, -, -, -, -, -⟩ := id S
      go_wp2_with fail
      refine ((CV).out _ G).mono ?_
      rintro e w2 ⟨rfl, hb⟩
      clear A0 A1 A2 A3 B0 B1 S0 S1 S2 S3
      have A := A.keep hb
      have B := B.keep hb
      have S := S.keep hb
      have G := G.below hb
      have HB := Lib.hid (bstep HB.out hb)
      clear hb
      obtain ⟨A0, A1, A2, A3, -, -, -, -, -⟩ := id A
      obtain ⟨B0, B1, -, -, -⟩ := id B
      obtain ⟨S0, S1, S2, S3, -, -, -, -, -⟩ := id S
      go_wp2_with fail
      go_ret2
      exact ⟨rfl, HB.out⟩
    · have e1 : conE a b c d x y = 0 := if_pos ⟨hp, hv⟩
      have e2 : conV a b c d x y = conB a b c d x y := by unfold conV; rw [hp, hv]; simp
      have kp := (ptOk_iff _ _).1 hp
      obtain ⟨kl, kn⟩ := (plOk_iff _ _ _ _).1 hv
      have CI := Lib.hid (fun wx => pInside x x a b wx)
      rw [ainR_one x a b kl ⟨kp.1, kp.2.1⟩] at CI
      have CP := Lib.hid (fun wx (Hx : HasAll wx) => pIsPart y y c d (lon_one ⟨kp.2.2.1, kp.2.2.2⟩) kn wx Hx)
      rw [e1, e2]
      rw [hp, if_pos rfl] at CO
      unfold vPE at CO
      rw [hv] at CV
      unfold conB
      clear e1 e2 hp hv kl kn kp
      generalize partB y y c d = pb at *
      generalize decide (a ≤ x ∧ x ≤ b) = lb at *
      cases lb
      · by_cases c1 : x = -5400000
        · have q : poleB x = true := decide_eq_true (.inl c1)
          rw [q]
          have c1b : (x == -5400000) = true := beq_iff_eq.2 c1
          clear q c1
          go_enter Tryd.func14, Tryd.ntmps14
          go_wp2_with fail
          refine ((CO).out _).mono ?_
          rintro e w1 ⟨rfl, hb⟩
          clear A0 A1 A2 A3 B0 B1
          have A := A.keep hb
          have B := B.keep hb
          have G := G.below hb
          have HB := Lib.hid (bstep HB.out hb)
          clear hb
          obtain ⟨A0, A1, A2, A3, -, -, -, -, -⟩ := id A
          obtain ⟨B0, B1, -, -, -⟩ := id B
          clear A0 A1 A2 A3 B0 B1
          have A := A.alloc (.cells #[.int .i64 x, .int .i64 x, .int .i64 y, .int .i64 y] 33)
          have B := B.alloc (.cells #[.int .i64 x, .int .i64 x, .int .i64 y, .int .i64 y] 33)
          have G := G.below (below1 w1 (.cells #[.int .i64 x, .int .i64 x, .int .i64 y, .int .i64 y] 33))
          have S := At4.new w1 (.int .i64 x) (.int .i64 x) (.int .i64 y) (.int .i64 y) 33
          have HB := Lib.hid (bstep HB.out (below1 w1 (.cells #[.int .i64 x, .int .i64 x, .int .i64 y, .int .i64 y] 33)))
          obtain ⟨A0, A1, A2, A3, -, -, -, -, -⟩ := id A
          obtain ⟨B0, B1, -, -, -⟩ := id B
          obtain ⟨S0, S1, S2, S3, -, -, -, -, -⟩ := id S
          go_wp2_with fail
          refine ((CV).out _ G).mono ?_
          rintro e w2 ⟨rfl, hb⟩
          clear A0 A1 A2 A3 B0 B1 S0 S1 S2 S3
          have A := A.keep hb
          have B := B.keep hb
          have S := S.keep hb
          have G := G.below hb
          have HB := Lib.hid (bstep HB.out hb)
          clear hb
          obtain ⟨A0, A1, A2, A3, -, -, -, -, -⟩ := id A
          obtain ⟨B0, B1, -, -, -⟩ := id B
          obtain ⟨S0, S1, S2, S3, -, -, -, -, -⟩ := id S
          go_wp2_with fail
          refine ((CI).out _).mono ?_
          rintro e w3 ⟨rfl, hb⟩
          clear A0 A1 A2 A3 B0 B1 S0 S1 S2 S3
          have A := A.keep hb
          have B := B.keep hb
          have S := S.keep hb
          have G := G.below hb
          have HB := Lib.hid (bstep HB.out hb)
          clear hb
          obtain ⟨A0, A1, A2, A3, -, -, -, -, -⟩ := id A
          obtain ⟨B0, B1, -, -, -⟩ := id B
          obtain ⟨S0, S1, S2, S3, -, -, -, -, -⟩ := id S
          go_wp2_with fail
          go_ret2
          exact ⟨by first | rfl | simp, HB.out⟩
        · by_cases c2 : x = 5400000
          · have q : poleB x = true := decide_eq_true (.inr c2)
            rw [q]
            have c1b : (x == -5400000) = false := beq_eq_false_iff_ne.2 c1
            have c2b : (x == 5400000) = true := beq_iff_eq.2 c2
            clear q c1 c2
            go_enter Tryd.func14, Tryd.ntmps14
            go_wp2_with fail
            refine ((CO).out _).mono ?_
            rintro e w1 ⟨rfl, hb⟩
            clear A0 A1 A2 A3 B0 B1
            have A := A.keep hb
            have B := B.keep hb
            have G := G.below hb
            have HB := Lib.hid (bstep HB.out hb)
            clear hb
            obtain ⟨A0, A1, A2, A3, -, -, -, -, -⟩ := id A
            obtain ⟨B0, B1, -, -, -⟩ := id B
            clear A0 A1 A2 A3 B0 B1
            have A := A.alloc (.cells #[.int .i64 x, .int .i64 x, .int .i64 y, .int .i64 y] 33)
            have B := B.alloc (.cells #[.int .i64 x, .int .i64 x, .int .i64 y, .int .i64 y] 33)
            have G := G.below (below1 w1 (.cells #[.int .i64 x, .int .i64 x, .int .i64 y, .int .i64 y] 33))
            have S := At4.new w1 (.int .i64 x) (.int .i64 x) (.int .i64 y) (.int .i64 y) 33
            have HB := Lib.hid (bstep HB.out (below1 w1 (.cells #[.int .i64 x, .int .i64 x, .int .i64 y, .int .i64 y] 33)))
            obtain ⟨A0, A1, A2, A3, -, -, -, -, -⟩ := id A
            obtain ⟨B0, B1, -, -, -⟩ := id B
            obtain ⟨S0, S1, S2, S3, -, -, -, -, -⟩ := id S
            go_wp2_with fail
            refine ((CV).out _ G).mono ?_
            rintro e w2 ⟨rfl, hb⟩
            clear A0 A1 A2 A3 B0 B1 S0 S1 S2 S3
            have A := A.keep hb
            have B := B.keep hb
            have S := S.keep hb
            have G := G.below hb
            have HB := Lib.hid (bstep HB.out hb)
            clear hb
            obtain ⟨A0, A1, A2, A3, -, -, -, -, -⟩ := id A
            obtain ⟨B0, B1, -, -, -⟩ := id B
            obtain ⟨S0, S1, S2, S3, -, -, -, -, -⟩ := id S
            go_wp2_with fail
            refine ((CI).out _).mono ?_
            rintro e w3 ⟨rfl, hb⟩
            clear A0 A1 A2 A3 B0 B1 S0 S1 S2 S3
            have A := A.keep hb
            have B := B.keep hb
            have S := S.keep hb
            have G := G.below hb
            have HB := Lib.hid (bstep HB.out hb)
            clear hb
            obtain ⟨A0, A1, A2, A3, -, -, -, -, -⟩ := id A
            obtain ⟨B0, B1, -, -, -⟩ := id B
            obtain ⟨S0, S1, S2, S3, -, -, -, -, -⟩ := id S
            go_wp2_with fail
            go_ret2
            exact ⟨by first | rfl | simp, HB.out⟩
          · have q : poleB x = false := decide_eq_false (by omega)
            rw [q]
            have c1b : (x == -5400000) = false := beq_eq_false_iff_ne.2 c1
            have c2b : (x == 5400000) = false := beq_eq_false_iff_ne.2 c2
            clear q c1 c2
            go_enter Tryd.func14, Tryd.ntmps14
            go_wp2_with fail
            refine ((CO).out _).mono ?_
            rintro e w1 ⟨rfl, hb⟩
            clear A0 A1 A2 A3 B0 B1
            have A := A.keep hb
            have B := B.keep hb
            have G := G.below hb
            have HB := Lib.hid (bstep HB.out hb)
            clear hb
            obtain ⟨A0, A1, A2, A3, -, -, -, -, -⟩ := id A
            obtain ⟨B0, B1, -, -, -⟩ := id B
            clear A0 A1 A2 A3 B0 B1
            have A := A.alloc (.cells #[.int .i64 x, .int .i64 x, .int .i64 y, .int .i64 y] 33)
            have B := B.alloc (.cells #[.int .i64 x, .int .i64 x, .int .i64 y, .int .i64 y] 33)
            have G := G.below (below1 w1 (.cells #[.int .i64 x, .int .i64 x, .int .i64 y, .int .i64 y] 33))
            have S := At4.new w1 (.int .i64 x) (.int .i64 x) (.int .i64 y) (.int .i64 y) 33
            have HB := Lib.hid (bstep HB.out (below1 w1 (.cells #[.int .i64 x, .int .i64 x, .int .i64 y, .int .i64 y] 33)))
            obtain ⟨A0, A1, A2, A3, -, -, -, -, -⟩ := id A
            obtain ⟨B0, B1, -, -, -⟩ := id B
            obtain ⟨S0, S1, S2, S3, -, -, -, -, -⟩ := id S
            go_wp2_with fail
            refine ((CV).out _ G).mono ?_
            rintro e w2 ⟨rfl, hb⟩
            clear A0 A1 A2 A3 B0 B1 S0 S1 S2 S3
            have A := A.keep hb
            have B := B.keep hb
            have S := S.keep hb
            have G := G.below hb
            have HB := Lib.hid (bstep HB.out hb)
            clear hb
            obtain ⟨A0, A1, A2, A3, -, -, -, -, -⟩ := id A
            obtain ⟨B0, B1, -, -, -⟩ := id B
            obtain ⟨S0, S1, S2, S3, -, -, -, -, -⟩ := id S
            go_wp2_with fail
            refine ((CI).out _).mono ?_
            rintro e w3 ⟨rfl, hb⟩
            clear A0 A1 A2 A3 B0 B1 S0 S1 S2 S3
            have A := A.keep hb
            have B := B.keep hb
            have S := S.keep hb
            have G := G.below hb
            have HB := Lib.hid (bstep HB.out hb)
            clear hb
            obtain ⟨A0, A1, A2, A3, -, -, -, -, -⟩ := id A
            obtain ⟨B0, B1, -, -, -⟩ := id B
            obtain ⟨S0, S1, S2, S3, -, -, -, -, -⟩ := id S
            go_wp2_with fail
            go_ret2
            exact ⟨by first | rfl | simp, HB.out⟩
      · by_cases c1 : x = -5400000
        · have q : poleB x = true := decide_eq_true (.inl c1)
          rw [q]
          have c1b : (x == -5400000) = true := beq_iff_eq.2 c1
          clear q c1
          go_enter Tryd.func14, Tryd.ntmps14
          go_wp2_with fail
          refine ((CO).out _).mono ?_
          rintro e w1 ⟨rfl, hb⟩
          clear A0 A1 A2 A3 B0 B1
          have A := A.keep hb
          have B := B.keep hb
          have G := G.below hb
          have HB := Lib.hid (bstep HB.out hb)
          clear hb
          obtain ⟨A0, A1, A2, A3, -, -, -, -, -⟩ := id A
          obtain ⟨B0, B1, -, -, -⟩ := id B
          clear A0 A1 A2 A3 B0 B1
          have A := A.alloc (.cells #[.int .i64 x, .int .i64 x, .int .i64 y, .int .i64 y] 33)
          have B := B.alloc (.cells #[.int .i64 x, .int .i64 x, .int .i64 y, .int .i64 y] 33)
          have G := G.below (below1 w1 (.cells #[.int .i64 x, .int .i64 x, .int .i64 y, .int .i64 y] 33))
          have S := At4.new w1 (.int .i64 x) (.int .i64 x) (.int .i64 y) (.int .i64 y) 33
          have HB := Lib.hid (bstep HB.out (below1 w1 (.cells #[.int .i64 x, .int .i64 x, .int .i64 y, .int .i64 y] 33)))
          obtain ⟨A0, A1, A2, A3, -, -, -, -, -⟩ := id A
          obtain ⟨B0, B1, -, -, -⟩ := id B
          obtain ⟨S0, S1, S2, S3, -, -, -, -, -⟩ := id S
          go_wp2_with fail
          refine ((CV).out _ G).mono ?_
          rintro e w2 ⟨rfl, hb⟩
          clear A0 A1 A2 A3 B0 B1 S0 S1 S2 S3
          have A := A.keep hb
          have B := B.keep hb
          have S := S.keep hb
          have G := G.below hb
          have HB := Lib.hid (bstep HB.out hb)
          clear hb
          obtain ⟨A0, A1, A2, A3, -, -, -, -, -⟩ := id A
          obtain ⟨B0, B1, -, -, -⟩ := id B
          obtain ⟨S0, S1, S2, S3, -, -, -, -, -⟩ := id S
          go_wp2_with fail
          refine ((CI).out _).mono ?_
          rintro e w3 ⟨rfl, hb⟩
          clear A0 A1 A2 A3 B0 B1 S0 S1 S2 S3
          have A := A.keep hb
          have B := B.keep hb
          have S := S.keep hb
          have G := G.below hb
          have HB := Lib.hid (bstep HB.out hb)
          clear hb
          obtain ⟨A0, A1, A2, A3, -, -, -, -, -⟩ := id A
          obtain ⟨B0, B1, -, -, -⟩ := id B
          obtain ⟨S0, S1, S2, S3, -, -, -, -, -⟩ := id S
          go_wp2_with fail
          go_ret2
          exact ⟨by first | rfl | simp, HB.out⟩
        · by_cases c2 : x = 5400000
          · have q : poleB x = true := decide_eq_true (.inr c2)
            rw [q]
            have c1b : (x == -5400000) = false := beq_eq_false_iff_ne.2 c1
            have c2b : (x == 5400000) = true := beq_iff_eq.2 c2
            clear q c1 c2
            go_enter Tryd.func14, Tryd.ntmps14
            go_wp2_with fail
            refine ((CO).out _).mono ?_
            rintro e w1 ⟨rfl, hb⟩
            clear A0 A1 A2 A3 B0 B1
            have A := A.keep hb
            have B := B.keep hb
            have G := G.below hb
            have HB := Lib.hid (bstep HB.out hb)
            clear hb
            obtain ⟨A0, A1, A2, A3, -, -, -, -, -⟩ := id A
            obtain ⟨B0, B1, -, -, -⟩ := id B
            clear A0 A1 A2 A3 B0 B1
            have A := A.alloc (.cells #[.int .i64 x, .int .i64 x, .int .i64 y, .int .i64 y] 33)
            have B := B.alloc (.cells #[.int .i64 x, .int .i64 x, .int .i64 y, .int .i64 y] 33)
            have G := G.below (below1 w1 (.cells #[.int .i64 x, .int .i64 x, .int .i64 y, .int .i64 y] 33))
            have S := At4.new w1 (.int .i64 x) (.int .i64 x) (.int .i64 y) (.int .i64 y) 33
            have HB := Lib.hid (bstep HB.out (below1 w1 (.cells #[.int .i64 x, .int .i64 x, .int .i64 y, .int .i64 y] 33)))
            obtain ⟨A0, A1, A2, A3, -, -, -, -, -⟩ := id A
            obtain ⟨B0, B1, -, -, -⟩ := id B
            obtain ⟨S0, S1, S2, S3, -, -, -, -, -⟩ := id S
            go_wp2_with fail
            refine ((CV).out _ G).mono ?_
            rintro e w2 ⟨rfl, hb⟩
            clear A0 A1 A2 A3 B0 B1 S0 S1 S2 S3
            have A := A.keep hb
            have B := B.keep hb
            have S := S.keep hb
            have G := G.below hb
            have HB := Lib.hid (bstep HB.out hb)
            clear hb
            obtain ⟨A0, A1, A2, A3, -, -, -, -, -⟩ := id A
            obtain ⟨B0, B1, -, -, -⟩ := id B
            obtain ⟨S0, S1, S2, S3, -, -, -, -, -⟩ := id S
            go_wp2_with fail
            refine ((CI).out _).mono ?_
            rintro e w3 ⟨rfl, hb⟩
            clear A0 A1 A2 A3 B0 B1 S0 S1 S2 S3
            have A := A.keep hb
            have B := B.keep hb
            have S := S.keep hb
            have G := G.below hb
            have HB := Lib.hid (bstep HB.out hb)
            clear hb
            obtain ⟨A0, A1, A2, A3, -, -, -, -, -⟩ := id A
            obtain ⟨B0, B1, -, -, -⟩ := id B
            obtain ⟨S0, S1, S2, S3, -, -, -, -, -⟩ := id S
            go_wp2_with fail
            go_ret2
            exact ⟨by first | rfl | simp, HB.out⟩
          · have q : poleB x = false := decide_eq_false (by omega)
            rw [q]
            have c1b : (x == -5400000) = false := beq_eq_false_iff_ne.2 c1
            have c2b : (x == 5400000) = false := beq_eq_false_iff_ne.2 c2
            clear q c1 c2
            go_enter Tryd.func14, Tryd.ntmps14
            go_wp2_with fail
            refine ((CO).out _).mono ?_
            rintro e w1 ⟨rfl, hb⟩
            clear A0 A1 A2 A3 B0 B1
            have A := A.keep hb
            have B := B.keep hb
            have G := G.below hb
            have HB := Lib.hid (bstep HB.out hb)
            clear hb
            obtain ⟨A0, A1, A2, A3, -, -, -, -, -⟩ := id A
            obtain ⟨B0, B1, -, -, -⟩ := id B
            clear A0 A1 A2 A3 B0 B1
            have A := A.alloc (.cells #[.int .i64 x, .int .i64 x, .int .i64 y, .int .i64 y] 33)
            have B := B.alloc (.cells #[.int .i64 x, .int .i64 x, .int .i64 y, .int .i64 y] 33)
            have G := G.below (below1 w1 (.cells #[.int .i64 x, .int .i64 x, .int .i64 y, .int .i64 y] 33))
            have S := At4.new w1 (.int .i64 x) (.int .i64 x) (.int .i64 y) (.int .i64 y) 33
            have HB := Lib.hid (bstep HB.out (below1 w1 (.cells #[.int .i64 x, .int .i64 x, .int .i64 y, .int .i64 y] 33)))
            obtain ⟨A0, A1, A2, A3, -, -, -, -, -⟩ := id A
            obtain ⟨B0, B1, -, -, -⟩ := id B
            obtain ⟨S0, S1, S2, S3, -, -, -, -, -⟩ := id S
            go_wp2_with fail
            refine ((CV).out _ G).mono ?_
            rintro e w2 ⟨rfl, hb⟩
            clear A0 A1 A2 A3 B0 B1 S0 S1 S2 S3
            have A := A.keep hb
            have B := B.keep hb
            have S := S.keep hb
            have G := G.below hb
            have HB := Lib.hid (bstep HB.out hb)
            clear hb
            obtain ⟨A0, A1, A2, A3, -, -, -, -, -⟩ := id A
            obtain ⟨B0, B1, -, -, -⟩ := id B
            obtain ⟨S0, S1, S2, S3, -, -, -, -, -⟩ := id S
            go_wp2_with fail
            refine ((CI).out _).mono ?_
            rintro e w3 ⟨rfl, hb⟩
            clear A0 A1 A2 A3 B0 B1 S0 S1 S2 S3
            have A := A.keep hb
            have B := B.keep hb
            have S := S.keep hb
            have G := G.below hb
            have HB := Lib.hid (bstep HB.out hb)
            clear hb
            obtain ⟨A0, A1, A2, A3, -, -, -, -, -⟩ := id A
            obtain ⟨B0, B1, -, -, -⟩ := id B
            obtain ⟨S0, S1, S2, S3, -, -, -, -, -⟩ := id S
            go_wp2_with fail
            refine ((CP).out _ G).mono ?_
            rintro e w4 ⟨rfl, hb⟩
            clear A0 A1 A2 A3 B0 B1 S0 S1 S2 S3
            have A := A.keep hb
            have B := B.keep hb
            have S := S.keep hb
            have G := G.below hb
            have HB := Lib.hid (bstep HB.out hb)
            clear hb
            obtain ⟨A0, A1, A2, A3, -, -, -, -, -⟩ := id A
            obtain ⟨B0, B1, -, -, -⟩ := id B
            obtain ⟨S0, S1, S2, S3, -, -, -, -, -⟩ := id S
            go_wp2_with fail
            go_ret2
            exact ⟨by first | rfl | simp, HB.out⟩
def insB (a b c d e f g h : Int) : Bool := plOk a b c d && (plOk e f g h && (decide (e ≤ a ∧ b ≤ f) && partB c d g h))
theorem ainR_two (a b e f : Int) (h : latOk a b = true) (k : latOk e f = true) : ainR a b e f = decide (e ≤ a ∧ b ≤ f) := by
  have h := (latOk_iff _ _).1 h
  have k := (latOk_iff _ _).1 k
  unfold ainR aok
  rw [Bool.eq_iff_iff]
  simp only [Bool.and_eq_true, decide_eq_true_iff]
  omega
set_option maxHeartbeats 2000000 in
theorem pPlInside (a b c d e f g h : Int) (w : World) (H : HasAll w) :
    Calls Tryd.prog 13 #[.agg #[.int .i64 a, .int .i64 b, .int .i64 c, .int .i64 d], .agg #[.int .i64 e, .int .i64 f, .int .i64 g, .int .i64 h]] w fun r w' => r = .returned (.bool (insB a b c d e f g h)) ∧ Below w.heap.size w w' := by
  have CV := Lib.hid (fun wx (Hx : HasAll wx) => pPlValid a b c d wx Hx)
  have CU := Lib.hid (fun wx (Hx : HasAll wx) => pPlValid e f g h wx Hx)
  have A := (At4.new w (.int .i64 a) (.int .i64 b) (.int .i64 c) (.int .i64 d) 33).alloc (.cells #[.int .i64 e, .int .i64 f, .int .i64 g, .int .i64 h] 33)
  have B := At4.new (w.alloc (.cells #[.int .i64 a, .int .i64 b, .int .i64 c, .int .i64 d] 33)) (.int .i64 e) (.int .i64 f) (.int .i64 g) (.int .i64 h) 33
  have HB := Lib.hid (below2 w (.cells #[.int .i64 a, .int .i64 b, .int .i64 c, .int .i64 d] 33) (.cells #[.int .i64 e, .int .i64 f, .int .i64 g, .int .i64 h] 33))
  simp at B
  have G := H.below HB.out
  unfold insB
  obtain ⟨A0, A1, A2, A3, -, -, -, -, -⟩ := id A
  obtain ⟨B0, B1, B2, B3, -, -, -, -, -⟩ := id B
  cases h1 : plOk a b c d
  · rw [h1] at CV
    go_enter Tryd.func13, Tryd.ntmps13
    go_wp2_with fail
    refine ((CV).out _ G).mono ?_
    rintro e w1 ⟨rfl, hb⟩
    clear A0 A1 A2 A3 B0 B1 B2 B3
    have A := A.keep hb
    have B := B.keep hb
    have G := G.below hb
    have HB := Lib.hid (bstep HB.out hb)
    clear hb
    obtain ⟨A0, A1, A2, A3, -, -, -, -, -⟩ := id A
    obtain ⟨B0, B1, B2, B3, -, -, -, -, -⟩ := id B
    go_wp2_with fail
    go_ret
    exact ⟨by first | rfl | exact ret_bool (by simp), HB.out⟩
  · cases h2 : plOk e f g h
    · rw [h1] at CV
      rw [h2] at CU
      go_enter Tryd.func13, Tryd.ntmps13
      go_wp2_with fail
      refine ((CV).out _ G).mono ?_
      rintro e w1 ⟨rfl, hb⟩
      clear A0 A1 A2 A3 B0 B1 B2 B3
      have A := A.keep hb
      have B := B.keep hb
      have G := G.below hb
      have HB := Lib.hid (bstep HB.out hb)
      clear hb
      obtain ⟨A0, A1, A2, A3, -, -, -, -, -⟩ := id A
      obtain ⟨B0, B1, B2, B3, -, -, -, -, -⟩ := id B
      go_wp2_with fail
      refine ((CU).out _ G).mono ?_
      rintro e w2 ⟨rfl, hb⟩
      clear A0 A1 A2 A3 B0 B1 B2 B3
      have A := A.keep hb
      have B := B.keep hb
      have G := G.below hb
      have HB := Lib.hid (bstep HB.out hb)
      clear hb
      obtain ⟨A0, A1, A2, A3, -, -, -, -, -⟩ := id A
      obtain ⟨B0, B1, B2, B3, -, -, -, -, -⟩ := id B
      go_wp2_with fail
      go_ret
      exact ⟨by first | rfl | exact ret_bool (by simp), HB.out⟩
    · obtain ⟨l1, n1⟩ := (plOk_iff _ _ _ _).1 h1
      obtain ⟨l2, n2⟩ := (plOk_iff _ _ _ _).1 h2
      rw [h1] at CV
      rw [h2] at CU
      have CI := Lib.hid (fun wx => pInside a b e f wx)
      rw [ainR_two a b e f l1 l2] at CI
      have CP := Lib.hid (fun wx (Hx : HasAll wx) => pIsPart c d g h n1 n2 wx Hx)
      clear l1 n1 l2 n2 h1 h2
      generalize partB c d g h = pb at *
      generalize decide (e ≤ a ∧ b ≤ f) = lb at *
      cases lb
      · go_enter Tryd.func13, Tryd.ntmps13
        go_wp2_with fail
        refine ((CV).out _ G).mono ?_
        rintro e w1 ⟨rfl, hb⟩
        clear A0 A1 A2 A3 B0 B1 B2 B3
        have A := A.keep hb
        have B := B.keep hb
        have G := G.below hb
        have HB := Lib.hid (bstep HB.out hb)
        clear hb
        obtain ⟨A0, A1, A2, A3, -, -, -, -, -⟩ := id A
        obtain ⟨B0, B1, B2, B3, -, -, -, -, -⟩ := id B
        go_wp2_with fail
        refine ((CU).out _ G).mono ?_
        rintro e w2 ⟨rfl, hb⟩
        clear A0 A1 A2 A3 B0 B1 B2 B3
        have A := A.keep hb
        have B := B.keep hb
        have G := G.below hb
        have HB := Lib.hid (bstep HB.out hb)
        clear hb
        obtain ⟨A0, A1, A2, A3, -, -, -, -, -⟩ := id A
        obtain ⟨B0, B1, B2, B3, -, -, -, -, -⟩ := id B
        go_wp2_with fail
        refine ((CI).out _).mono ?_
        rintro e w3 ⟨rfl, hb⟩
        clear A0 A1 A2 A3 B0 B1 B2 B3
        have A := A.keep hb
        have B := B.keep hb
        have G := G.below hb
        have HB := Lib.hid (bstep HB.out hb)
        clear hb
        obtain ⟨A0, A1, A2, A3, -, -, -, -, -⟩ := id A
        obtain ⟨B0, B1, B2, B3, -, -, -, -, -⟩ := id B
        go_wp2_with fail
        go_ret
        exact ⟨by first | rfl | exact ret_bool (by simp), HB.out⟩
      · go_enter Tryd.func13, Tryd.ntmps13
        go_wp2_with fail
        refine ((CV).out _ G).mono ?_
        rintro e w1 ⟨rfl, hb⟩
        clear A0 A1 A2 A3 B0 B1 B2 B3
        have A := A.keep hb
        have B := B.keep hb
        have G := G.below hb
        have HB := Lib.hid (bstep HB.out hb)
        clear hb
        obtain ⟨A0, A1, A2, A3, -, -, -, -, -⟩ := id A
        obtain ⟨B0, B1, B2, B3, -, -, -, -, -⟩ := id B
        go_wp2_with fail
        refine ((CU).out _ G).mono ?_
        rintro e w2 ⟨rfl, hb⟩
        clear A0 A1 A2 A3 B0 B1 B2 B3
        have A := A.keep hb
        have B := B.keep hb
        have G := G.below hb
        have HB := Lib.hid (bstep HB.out hb)
        clear hb
        obtain ⟨A0, A1, A2, A3, -, -, -, -, -⟩ := id A
        obtain ⟨B0, B1, B2, B3, -, -, -, -, -⟩ := id B
        go_wp2_with fail
        refine ((CI).out _).mono ?_
        rintro e w3 ⟨rfl, hb⟩
        clear A0 A1 A2 A3 B0 B1 B2 B3
        have A := A.keep hb
        have B := B.keep hb
        have G := G.below hb
        have HB := Lib.hid (bstep HB.out hb)
        clear hb
        obtain ⟨A0, A1, A2, A3, -, -, -, -, -⟩ := id A
        obtain ⟨B0, B1, B2, B3, -, -, -, -, -⟩ := id B
        go_wp2_with fail
        refine ((CP).out _ G).mono ?_
        rintro e w4 ⟨rfl, hb⟩
        clear A0 A1 A2 A3 B0 B1 B2 B3
        have A := A.keep hb
        have B := B.keep hb
        have G := G.below hb
        have HB := Lib.hid (bstep HB.out hb)
        clear hb
        obtain ⟨A0, A1, A2, A3, -, -, -, -, -⟩ := id A
        obtain ⟨B0, B1, B2, B3, -, -, -, -, -⟩ := id B
        go_wp2_with fail
        go_ret
        exact ⟨by first | rfl | exact ret_bool (by simp), HB.out⟩
end Go.Proofs.YtndcjldnnfhedaaDoor
