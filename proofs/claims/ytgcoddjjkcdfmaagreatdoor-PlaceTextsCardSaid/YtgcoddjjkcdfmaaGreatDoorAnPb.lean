/- Angle: contracts of the program's nearestTenth, Print. -/
import Derived.Test.YtgcoddjjkcdfmaaGreatDoorAnPa
import Derived.Test.YtgcoddjjkcdfmaaGreatDoorAnI
namespace Go.Proofs.YtgcoddjjkcdfmaaGreatDoor
open Go.RowKit
set_option linter.unusedVariables false
set_option maxRecDepth 100000

theorem pTenth (n : Int) (w : World) (h1 : -1099511627776 ≤ n) (h2 : n ≤ 1099511627776) :
    Calls Tryz.prog 39 #[.int .i64 n] w fun e w' => e = .returned (.int .i64 (rndT n)) ∧ w' = w := by
  have C := Lib.hid (fun wx => pFloor (n + 50) 100 wx (by omega) (by omega) (by omega))
  unfold rndT
  obtain ⟨q, hq⟩ : ∃ q, (n + 50) / 100 = q := ⟨_, rfl⟩
  have b1 : -10995116278 ≤ q := by omega
  have b2 : q ≤ 10995116278 := by omega
  rw [hq] at C ⊢
  obtain ⟨r, hr⟩ : ∃ r, 100 * q = r := ⟨_, rfl⟩
  have hr' : q * 100 = r := by omega
  rw [hr]
  clear hq hr
  go_enter Tryz.func39, Tryz.ntmps39
  go_wp2_with fail
  refine (C.out _).mono ?_
  rintro e w1 ⟨rfl, rfl⟩
  go_wp2_with fail
  go_ret
  exact ⟨rfl, rfl⟩
theorem afit_rnd (a b : Int) (h : aok a b = true) : aok (rndT a) (rndT b) = prO a b := by
  obtain ⟨h1, h2, h3⟩ := (aok_iff _ _).1 h
  have mo : rndT a ≤ rndT b := by unfold rndT; omega
  unfold prO
  rw [Bool.eq_iff_iff, aok_iff, decide_eq_true_iff]
  omega
theorem text_inj (a b : Int) (ha : inA a = true) (hb : inA b = true) (h : textT a = textT b) : a = b := by
  have e1 := (text_back a ha).1
  have e2 := (text_back b hb).1
  have e1 : paV (textT a) = a := e1
  have e2 : paV (textT b) = b := e2
  rw [← e1, ← e2, h]
theorem At2.drp {w : World} {b : Nat} {x y : Value} (h : At2 w b x y) : At2 w.drew b x y := h.keep (Below.refl _ _).drew

set_option maxHeartbeats 8000000 in
theorem pPrint_f (a b : Int) (w : World) (ha : aok a b = false) :
    Calls Tryz.prog 22 #[.agg #[.int .i64 a, .int .i64 b]] w fun e w' => e = .returned (.tuple #[.string ⟨#[]⟩, .int .i64 1]) ∧ Below w.heap.size w w' := by
  have C1 := Lib.hid (fun wx => pValid_is a b false ha wx)
  clear ha
  have A := At2.new w (.int .i64 a) (.int .i64 b) 25
  have HB := Lib.hid (bstep (Below.refl w.heap.size w) (below1 w (.cells #[.int .i64 a, .int .i64 b] 25)))
  go_enter Tryz.func22, Tryz.ntmps22
  obtain ⟨A0, A1, -, -, -⟩ := id A
  go_wp2_with fail
  refine (C1.out _).mono ?_
  rintro e w1 ⟨rfl, hb⟩
  have A := (A.keep hb)
  have HB := Lib.hid (bstep HB.out hb)
  clear hb
  clear A0 A1
  obtain ⟨A0, A1, -, -, -⟩ := id A
  go_wp2_with fail
  go_ret2
  exact ⟨rfl, HB.out⟩

set_option maxHeartbeats 8000000 in
theorem pPrint_b (a b : Int) (w : World) (ha : aok a b = true) (hp : prO a b = false) :
    Calls Tryz.prog 22 #[.agg #[.int .i64 a, .int .i64 b]] w fun e w' => e = .returned (.tuple #[.string ⟨#[]⟩, .int .i64 5]) ∧ Below w.heap.size w w' := by
  have C1 := Lib.hid (fun wx => pValid_is a b true ha wx)
  obtain ⟨a1, a2, a3⟩ := (aok_iff _ _).1 ha
  have C2 := Lib.hid (fun wx => pTenth a wx (by omega) (by omega))
  have C3 := Lib.hid (fun wx => pTenth b wx (by omega) (by omega))
  have C4 := Lib.hid (fun wx => pFit (rndT a) (rndT b) wx)
  unfold afit at C4
  rw [afit_rnd a b ha] at C4
  rw [hp, if_neg (by simp)] at C4
  unfold vR at C4
  generalize rndT a = x at *
  generalize rndT b = y at *
  clear ha hp a1 a2 a3
  have A := At2.new w (.int .i64 a) (.int .i64 b) 25
  have HB := Lib.hid (bstep (Below.refl w.heap.size w) (below1 w (.cells #[.int .i64 a, .int .i64 b] 25)))
  go_enter Tryz.func22, Tryz.ntmps22
  obtain ⟨A0, A1, -, -, -⟩ := id A
  go_wp2_with fail
  refine (C1.out _).mono ?_
  rintro e w1 ⟨rfl, hb⟩
  have A := A.keep hb
  have HB := Lib.hid (bstep HB.out hb)
  clear hb A0 A1
  obtain ⟨A0, A1, -, -, -⟩ := id A
  go_upto_region 3 with fail
  go_cut [4, 5] from 13 to 22 (fun v4 v5 wx => v5 = .int .i64 5 ∧ ∃ q : Nat, v4 = .pointer (some ⟨q, 0, none⟩) ∧ Hid (At2 wx q (.int .i64 0) (.int .i64 0)) ∧ Hid (At2 wx w.heap.size (.int .i64 a) (.int .i64 b)) ∧ Hid (Below w.heap.size w wx))
  case first =>
    have zA1 : ¬ w.heap.size = w1.heap.size := (by have := A.lt; omega)
    have yA1 : ¬ w1.heap.size = w.heap.size := (by have := A.lt; omega)
    have G1 := Lib.hid A.lt
    go_region_held3 (fun w' => w'.cell? ⟨w.heap.size, 0, none⟩ = some (.int .i64 a) ∧ w'.cell? ⟨w.heap.size, 1, none⟩ = some (.int .i64 b)) (go_keep)
      (first
      | (go_at_call 39; (first | (with_reducible refine (C2.out _).mono ?_) | (with_reducible refine (C3.out _).mono ?_)); rintro e w9 ⟨rfl, rfl⟩)
      | (go_at_call 38; ((with_reducible refine (C4.out (World.drew w1)).mono ?_); rintro e w2 ⟨rfl, hb⟩; clear A0 A1; have A := A.drp.keep hb; have HB := Lib.hid (bstep HB.out (bdrew hb)); obtain ⟨A0, A1, -, -, -⟩ := id A; have zA2 : ¬ w.heap.size = w2.heap.size := (by have := A.lt; omega); have yA2 : ¬ w2.heap.size = w.heap.size := (by have := A.lt; omega); have G2 := Lib.hid A.lt; clear hb))
      | (go_at_call 38; ((with_reducible refine (C4.out (World.drew (World.alloc w1 _))).mono ?_); rintro e w2 ⟨rfl, hb⟩; clear A0 A1; have A := (A.alloc _).drp.keep hb; have HB := Lib.hid (bstep HB.out (alloc_below (bdrew hb))); obtain ⟨A0, A1, -, -, -⟩ := id A; have N1 := (At2.new w1 (.int .i64 0) (.int .i64 0) 25).drp.keep hb; obtain ⟨N10, N11, N1f, N1g, N1l⟩ := id N1; have zA2 : ¬ w.heap.size = w2.heap.size := (by have := A.lt; omega); have yA2 : ¬ w2.heap.size = w.heap.size := (by have := A.lt; omega); have G2 := Lib.hid A.lt; clear hb)))
    all_goals
      go_wp2_with fail
      go_meet
    all_goals
      first
      | (with_reducible exact ⟨rfl, _, rfl, Lib.hid (At2.new _ _ _ 25), Lib.hid (A.alloc _), Lib.hid (bstep HB.out (below1 _ _))⟩)
      | (with_reducible exact ⟨rfl, _, rfl, Lib.hid (N1.put _ _), Lib.hid (A.far zA1 _ _), Lib.hid (below_set2 HB.out (by have := G1.out; omega) _ _)⟩)
  case rest =>
    obtain ⟨rfl, q, rfl, Ch, Ah, HB'⟩ := hcut
    clear A0 A1 A HB
    have A := Ah.out
    have D := Ch.out
    have HB := HB'
    clear Ah Ch HB'
    obtain ⟨A0, A1, -, -, -⟩ := id A
    obtain ⟨D0, D1, -, -, -⟩ := id D
    go_wp2_with fail
    go_ret2
    exact ⟨rfl, HB.out⟩

set_option maxHeartbeats 8000000 in
theorem pPrint_e (a b : Int) (w : World) (ha : aok a b = true) (hp : prO a b = true) (heq : rndT a = rndT b) (htab : Tab w) :
    Calls Tryz.prog 22 #[.agg #[.int .i64 a, .int .i64 b]] w fun e w' => e = .returned (.tuple #[.string (ba (textT (rndT a))), .int .i64 0]) ∧ Below w.heap.size w w' := by
  have C1 := Lib.hid (fun wx => pValid_is a b true ha wx)
  obtain ⟨a1, a2, a3⟩ := (aok_iff _ _).1 ha
  have C2 := Lib.hid (fun wx => pTenth a wx (by omega) (by omega))
  have C3 := Lib.hid (fun wx => pTenth b wx (by omega) (by omega))
  have C4 := Lib.hid (fun wx => pFit (rndT a) (rndT b) wx)
  unfold afit at C4
  rw [afit_rnd a b ha] at C4
  rw [hp, if_pos rfl] at C4
  unfold vR at C4
  have mo : rndT a ≤ rndT b := by unfold rndT; omega
  have ho := of_decide_eq_true hp
  have i1 : inA (rndT a) = true := (inA_iff _).2 (by omega)
  have i2 : inA (rndT b) = true := (inA_iff _).2 (by omega)
  have T1 := Lib.hid (fun wx (hb : Below w.heap.size w wx) => toldT (s := ba (textT (rndT a))) (y := 0) (if_pos i1) (if_pos i1) (pText (rndT a) wx (Lib.tabBelow_of_tabIs htab wx hb)))
  have T2 := Lib.hid (fun wx (hb : Below w.heap.size w wx) => toldT (s := ba (textT (rndT b))) (y := 0) (if_pos i2) (if_pos i2) (pText (rndT b) wx (Lib.tabBelow_of_tabIs htab wx hb)))
  rw [← heq] at T2 C4 C3
  clear ho mo i1 i2 htab heq
  generalize ba (textT (rndT a)) = T at *
  generalize rndT a = x at *
  clear ha hp a1 a2 a3
  have A := At2.new w (.int .i64 a) (.int .i64 b) 25
  have HB := Lib.hid (bstep (Below.refl w.heap.size w) (below1 w (.cells #[.int .i64 a, .int .i64 b] 25)))
  go_enter Tryz.func22, Tryz.ntmps22
  obtain ⟨A0, A1, -, -, -⟩ := id A
  go_wp2_with fail
  refine (C1.out _).mono ?_
  rintro e w1 ⟨rfl, hb⟩
  have A := A.keep hb
  have HB := Lib.hid (bstep HB.out hb)
  clear hb A0 A1
  obtain ⟨A0, A1, -, -, -⟩ := id A
  go_upto_region 3 with fail
  go_cut [4, 5] from 13 to 22 (fun v4 v5 wx => v5 = .int .i64 0 ∧ ∃ q : Nat, v4 = .pointer (some ⟨q, 0, none⟩) ∧ Hid (At2 wx q (.int .i64 x) (.int .i64 x)) ∧ Hid (At2 wx w.heap.size (.int .i64 a) (.int .i64 b)) ∧ Hid (Below w.heap.size w wx))
  case first =>
    have zA1 : ¬ w.heap.size = w1.heap.size := (by have := A.lt; omega)
    have yA1 : ¬ w1.heap.size = w.heap.size := (by have := A.lt; omega)
    have G1 := Lib.hid A.lt
    go_region_held3 (fun w' => w'.cell? ⟨w.heap.size, 0, none⟩ = some (.int .i64 a) ∧ w'.cell? ⟨w.heap.size, 1, none⟩ = some (.int .i64 b)) (go_keep)
      (first
      | (go_at_call 39; (first | (with_reducible refine (C2.out _).mono ?_) | (with_reducible refine (C3.out _).mono ?_)); rintro e w9 ⟨rfl, rfl⟩)
      | (go_at_call 38; ((with_reducible refine (C4.out (World.drew w1)).mono ?_); rintro e w2 ⟨rfl, hb⟩; clear A0 A1; have A := A.drp.keep hb; have HB := Lib.hid (bstep HB.out (bdrew hb)); obtain ⟨A0, A1, -, -, -⟩ := id A; have zA2 : ¬ w.heap.size = w2.heap.size := (by have := A.lt; omega); have yA2 : ¬ w2.heap.size = w.heap.size := (by have := A.lt; omega); have G2 := Lib.hid A.lt; clear hb))
      | (go_at_call 38; ((with_reducible refine (C4.out (World.drew (World.alloc w1 _))).mono ?_); rintro e w2 ⟨rfl, hb⟩; clear A0 A1; have A := (A.alloc _).drp.keep hb; have HB := Lib.hid (bstep HB.out (alloc_below (bdrew hb))); obtain ⟨A0, A1, -, -, -⟩ := id A; have N1 := (At2.new w1 (.int .i64 0) (.int .i64 0) 25).drp.keep hb; obtain ⟨N10, N11, N1f, N1g, N1l⟩ := id N1; have zA2 : ¬ w.heap.size = w2.heap.size := (by have := A.lt; omega); have yA2 : ¬ w2.heap.size = w.heap.size := (by have := A.lt; omega); have G2 := Lib.hid A.lt; clear hb)))
    all_goals
      go_wp2_with fail
      go_meet
    all_goals
      first
      | (with_reducible exact ⟨rfl, _, rfl, Lib.hid (At2.new _ _ _ 25), Lib.hid (A.alloc _), Lib.hid (bstep HB.out (below1 _ _))⟩)
      | (with_reducible exact ⟨rfl, _, rfl, Lib.hid (N1.put _ _), Lib.hid (A.far zA1 _ _), Lib.hid (below_set2 HB.out (by have := G1.out; omega) _ _)⟩)
  case rest =>
    obtain ⟨rfl, q, rfl, Ch, Ah, HB'⟩ := hcut
    clear A0 A1 A HB
    have A := Ah.out
    have D := Ch.out
    have HB := HB'
    clear Ah Ch HB'
    obtain ⟨A0, A1, -, -, -⟩ := id A
    obtain ⟨D0, D1, -, -, -⟩ := id D
    go_wp2_with fail
    refine (T1.out _ HB.out).mono ?_
    rintro e w6 ⟨rfl, hb⟩
    have A := (A.keep hb)
    have D := (D.keep hb)
    have HB := Lib.hid (bstep HB.out hb)
    clear hb
    clear A0 A1 D0 D1
    obtain ⟨A0, A1, -, -, -⟩ := id A
    obtain ⟨D0, D1, -, -, -⟩ := id D
    go_wp2_with fail
    refine (T2.out _ HB.out).mono ?_
    rintro e w7 ⟨rfl, hb⟩
    have A := (A.keep hb)
    have D := (D.keep hb)
    have HB := Lib.hid (bstep HB.out hb)
    clear hb
    clear A0 A1 D0 D1
    obtain ⟨A0, A1, -, -, -⟩ := id A
    obtain ⟨D0, D1, -, -, -⟩ := id D
    go_wp2_with fail
    go_ret2
    exact ⟨rfl, HB.out⟩

set_option maxHeartbeats 8000000 in
theorem pPrint_n (a b : Int) (w : World) (ha : aok a b = true) (hp : prO a b = true) (hne : ¬ rndT a = rndT b) (htab : Tab w) :
    Calls Tryz.prog 22 #[.agg #[.int .i64 a, .int .i64 b]] w fun e w' => e = .returned (.tuple #[.string (ba (textT (rndT a) ++ [32, 46, 46, 32] ++ textT (rndT b))), .int .i64 0]) ∧ Below w.heap.size w w' := by
  have C1 := Lib.hid (fun wx => pValid_is a b true ha wx)
  obtain ⟨a1, a2, a3⟩ := (aok_iff _ _).1 ha
  have C2 := Lib.hid (fun wx => pTenth a wx (by omega) (by omega))
  have C3 := Lib.hid (fun wx => pTenth b wx (by omega) (by omega))
  have C4 := Lib.hid (fun wx => pFit (rndT a) (rndT b) wx)
  unfold afit at C4
  rw [afit_rnd a b ha] at C4
  rw [hp, if_pos rfl] at C4
  unfold vR at C4
  have mo : rndT a ≤ rndT b := by unfold rndT; omega
  have ho := of_decide_eq_true hp
  have i1 : inA (rndT a) = true := (inA_iff _).2 (by omega)
  have i2 : inA (rndT b) = true := (inA_iff _).2 (by omega)
  have T1 := Lib.hid (fun wx (hb : Below w.heap.size w wx) => toldT (s := ba (textT (rndT a))) (y := 0) (if_pos i1) (if_pos i1) (pText (rndT a) wx (Lib.tabBelow_of_tabIs htab wx hb)))
  have T2 := Lib.hid (fun wx (hb : Below w.heap.size w wx) => toldT (s := ba (textT (rndT b))) (y := 0) (if_pos i2) (if_pos i2) (pText (rndT b) wx (Lib.tabBelow_of_tabIs htab wx hb)))
  have z1 : (ba (textT (rndT a))).size ≤ 31 := by rw [ba_size]; exact textT_len _
  have z2 : (ba (textT (rndT b))).size ≤ 31 := by rw [ba_size]; exact textT_len _
  have E : Hid (ba (textT (rndT a) ++ [32, 46, 46, 32] ++ textT (rndT b)) = ba (textT (rndT a)) ++ ⟨#[32, 46, 46, 32]⟩ ++ ba (textT (rndT b))) := by
    show ba _ = ba _ ++ ba [32, 46, 46, 32] ++ ba _
    rw [ba_app, ba_app]
  have nT : ((ba (textT (rndT a))).toList == (ba (textT (rndT b))).toList) = false := by
    rw [Lib.toList_data, Lib.toList_data, beq_eq_false_iff_ne]
    exact fun h => hne (text_inj _ _ i1 i2 h)
  clear ho mo i1 i2 htab hne
  generalize ba (textT (rndT a) ++ [32, 46, 46, 32] ++ textT (rndT b)) = R at *
  generalize ba (textT (rndT a)) = T at *
  generalize ba (textT (rndT b)) = U at *
  generalize rndT a = x at *
  generalize rndT b = y at *
  clear ha hp a1 a2 a3
  have A := At2.new w (.int .i64 a) (.int .i64 b) 25
  have HB := Lib.hid (bstep (Below.refl w.heap.size w) (below1 w (.cells #[.int .i64 a, .int .i64 b] 25)))
  go_enter Tryz.func22, Tryz.ntmps22
  obtain ⟨A0, A1, -, -, -⟩ := id A
  go_wp2_with fail
  refine (C1.out _).mono ?_
  rintro e w1 ⟨rfl, hb⟩
  have A := A.keep hb
  have HB := Lib.hid (bstep HB.out hb)
  clear hb A0 A1
  obtain ⟨A0, A1, -, -, -⟩ := id A
  go_upto_region 3 with fail
  go_cut [4, 5] from 13 to 22 (fun v4 v5 wx => v5 = .int .i64 0 ∧ ∃ q : Nat, v4 = .pointer (some ⟨q, 0, none⟩) ∧ Hid (At2 wx q (.int .i64 x) (.int .i64 y)) ∧ Hid (At2 wx w.heap.size (.int .i64 a) (.int .i64 b)) ∧ Hid (Below w.heap.size w wx))
  case first =>
    have zA1 : ¬ w.heap.size = w1.heap.size := (by have := A.lt; omega)
    have yA1 : ¬ w1.heap.size = w.heap.size := (by have := A.lt; omega)
    have G1 := Lib.hid A.lt
    go_region_held3 (fun w' => w'.cell? ⟨w.heap.size, 0, none⟩ = some (.int .i64 a) ∧ w'.cell? ⟨w.heap.size, 1, none⟩ = some (.int .i64 b)) (go_keep)
      (first
      | (go_at_call 39; (first | (with_reducible refine (C2.out _).mono ?_) | (with_reducible refine (C3.out _).mono ?_)); rintro e w9 ⟨rfl, rfl⟩)
      | (go_at_call 38; ((with_reducible refine (C4.out (World.drew w1)).mono ?_); rintro e w2 ⟨rfl, hb⟩; clear A0 A1; have A := A.drp.keep hb; have HB := Lib.hid (bstep HB.out (bdrew hb)); obtain ⟨A0, A1, -, -, -⟩ := id A; have zA2 : ¬ w.heap.size = w2.heap.size := (by have := A.lt; omega); have yA2 : ¬ w2.heap.size = w.heap.size := (by have := A.lt; omega); have G2 := Lib.hid A.lt; clear hb))
      | (go_at_call 38; ((with_reducible refine (C4.out (World.drew (World.alloc w1 _))).mono ?_); rintro e w2 ⟨rfl, hb⟩; clear A0 A1; have A := (A.alloc _).drp.keep hb; have HB := Lib.hid (bstep HB.out (alloc_below (bdrew hb))); obtain ⟨A0, A1, -, -, -⟩ := id A; have N1 := (At2.new w1 (.int .i64 0) (.int .i64 0) 25).drp.keep hb; obtain ⟨N10, N11, N1f, N1g, N1l⟩ := id N1; have zA2 : ¬ w.heap.size = w2.heap.size := (by have := A.lt; omega); have yA2 : ¬ w2.heap.size = w.heap.size := (by have := A.lt; omega); have G2 := Lib.hid A.lt; clear hb)))
    all_goals
      go_wp2_with fail
      go_meet
    all_goals
      first
      | (with_reducible exact ⟨rfl, _, rfl, Lib.hid (At2.new _ _ _ 25), Lib.hid (A.alloc _), Lib.hid (bstep HB.out (below1 _ _))⟩)
      | (with_reducible exact ⟨rfl, _, rfl, Lib.hid (N1.put _ _), Lib.hid (A.far zA1 _ _), Lib.hid (below_set2 HB.out (by have := G1.out; omega) _ _)⟩)
  case rest =>
    obtain ⟨rfl, q, rfl, Ch, Ah, HB'⟩ := hcut
    clear A0 A1 A HB
    have A := Ah.out
    have D := Ch.out
    have HB := HB'
    clear Ah Ch HB'
    obtain ⟨A0, A1, -, -, -⟩ := id A
    obtain ⟨D0, D1, -, -, -⟩ := id D
    go_wp2_with fail
    refine (T1.out _ HB.out).mono ?_
    rintro e w6 ⟨rfl, hb⟩
    have A := (A.keep hb)
    have D := (D.keep hb)
    have HB := Lib.hid (bstep HB.out hb)
    clear hb
    clear A0 A1 D0 D1
    obtain ⟨A0, A1, -, -, -⟩ := id A
    obtain ⟨D0, D1, -, -, -⟩ := id D
    go_wp2_with fail
    refine (T2.out _ HB.out).mono ?_
    rintro e w7 ⟨rfl, hb⟩
    have A := (A.keep hb)
    have D := (D.keep hb)
    have HB := Lib.hid (bstep HB.out hb)
    clear hb
    clear A0 A1 D0 D1
    obtain ⟨A0, A1, -, -, -⟩ := id A
    obtain ⟨D0, D1, -, -, -⟩ := id D
    go_wp2_with fail
    go_ret2
    exact ⟨congrArg (fun r => Ending.returned (Value.tuple #[Value.string r, Value.int .i64 0])) E.out.symm, HB.out⟩

theorem pPrint (a b : Int) (w : World) (htab : Tab w) :
    Calls Tryz.prog 22 #[.agg #[.int .i64 a, .int .i64 b]] w fun e w' => e = .returned (.tuple #[.string (prS a b), .int .i64 (prE a b)]) ∧ Below w.heap.size w w' := by
  unfold prS prE
  cases ha : aok a b
  · rw [if_neg (by simp), if_neg (by simp)]
    exact pPrint_f a b w ha
  · cases hp : prO a b
    · rw [if_neg (by simp), if_pos rfl, if_neg (by simp)]
      exact pPrint_b a b w ha hp
    · rw [if_pos ⟨rfl, rfl⟩, if_pos rfl, if_pos rfl]
      unfold prT
      by_cases he : rndT a = rndT b
      · rw [if_pos he]; exact pPrint_e a b w ha hp he htab
      · rw [if_neg he]; exact pPrint_n a b w ha hp he htab
end Go.Proofs.YtgcoddjjkcdfmaaGreatDoor
