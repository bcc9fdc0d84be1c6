/- DecimalNear: for every four numbers the law returns true: rounding goes to the nearest multiple and keeps the order. No condition. -/
import Derived.Test.YtijgaenfhmgcoaaAwake
import Derived.Test.YtijgaenfhmgcoaaDecE
import Derived.ProofKit
import Derived.OpenShut
import Derived.HandedShaped
namespace Go.Proofs.Ytijgaenfhmgcoaa.decimalNear
open Go.ChangeShapes Go.WideShapes Go.ChangeAt Go.RowKit
set_option linter.unusedVariables false

/-- what the law asks of a number and of the multiple to which it rounds -/
structure OkP (u x y : Int) : Prop where
  g : (-2251799813685248 : Int).tdiv u - 1 ≤ y
  l : y ≤ 2251799813685248 / u + 1
  d1 : -u ≤ 2 * (x - u * y)
  d2 : 2 * (x - u * y) < u
  m1 : -2305843009213693952 ≤ u * y
  m2 : u * y ≤ 2305843009213693952

theorem tdiv_neg_const (u : Int) (hu : 1 ≤ u) : (-2251799813685248 : Int).tdiv u = -(2251799813685248 / u) := by
  rw [Int.neg_tdiv, Int.tdiv_eq_ediv_of_nonneg (by omega)]

theorem okp (u x : Int) (hu : 1 ≤ u) (hu2 : u ≤ 1099511627776) (h1 : -1125899906842624 ≤ x) (h2 : x ≤ 1125899906908160) : OkP u x (near x u) := by
  have hs := near_spec x u hu
  have hq : 0 ≤ 2251799813685248 / u := Int.ediv_nonneg (by omega) (by omega)
  have hq2 : 2251799813685248 / u ≤ 2251799813685248 := Int.ediv_le_self _ (by omega)
  obtain ⟨e1, e2⟩ := hs
  have e3 : u * (near x u - 1) = u * near x u - u * 1 := Int.mul_sub u _ _
  have e4 : u * (near x u + 1) = u * near x u + u * 1 := Int.mul_add u _ _
  have f1 : near x u - 1 ≤ 2251799813685248 / u := by
    rw [Int.le_ediv_iff_mul_le (by omega), Int.mul_comm]
    omega
  have f2 : -(near x u + 1) ≤ 2251799813685248 / u := by
    rw [Int.le_ediv_iff_mul_le (by omega), Int.neg_mul, Int.mul_comm]
    omega
  exact ⟨by rw [tdiv_neg_const u hu]; omega, by omega, e1, e2, by omega, by omega⟩

set_option maxRecDepth 100000 in
set_option maxHeartbeats 2000000 in
theorem walk_out (a0 a1 a2 a3 : Int) (w0 : (Lit.int .i64 a0).wf = true) (w1 : (Lit.int .u16 a1).wf = true) (w2 : (Lit.int .i64 a2).wf = true) (w3 : (Lit.int .u16 a3).wf = true) (w : World) (hm : HasMax w) (hout : a0 < -1125899906842624 ∨ 1125899906842624 < a0 ∨ a2 < 1 ∨ 1099511627776 < a2) :
    Calls Try.prog 6 #[.int .i64 a0, .int .u16 a1, .int .i64 a2, .int .u16 a3] w fun e w' => e = .returned (.bool true) ∧ Below w.heap.size w w' := by
  have HM := Lib.hid hm
  have u1 : 0 ≤ a1 ∧ a1 ≤ 65535 := bounds_u16 w1
  have u3 : 0 ≤ a3 ∧ a3 ≤ 65535 := bounds_u16 w3
  obtain ⟨u1, u1'⟩ := u1
  obtain ⟨u3, u3'⟩ := u3
  clear hm w0 w1 w2 w3
  have HO := Lib.hid hout
  clear hout
  by_cases g1 : a0 < -1125899906842624
  · go_enter Try.func6, Try.ntmps6
    go_wp2_with fail
    refine (awake_any _ HM.out).mono ?_
    rintro e w1 ⟨rfl, hb1⟩
    have HB1 := Lib.hid hb1
    clear hb1
    go_wp2_with fail
    go_ret
    exact ⟨rfl, HB1.out⟩
  by_cases g2 : 1125899906842624 < a0
  · go_enter Try.func6, Try.ntmps6
    go_wp2_with fail
    refine (awake_any _ HM.out).mono ?_
    rintro e w1 ⟨rfl, hb1⟩
    have HB1 := Lib.hid hb1
    clear hb1
    go_wp2_with fail
    go_ret
    exact ⟨rfl, HB1.out⟩
  by_cases g3 : a2 < 1
  · go_enter Try.func6, Try.ntmps6
    go_wp2_with fail
    refine (awake_any _ HM.out).mono ?_
    rintro e w1 ⟨rfl, hb1⟩
    have HB1 := Lib.hid hb1
    clear hb1
    go_wp2_with fail
    go_ret
    exact ⟨rfl, HB1.out⟩
  by_cases g4 : 1099511627776 < a2
  · go_enter Try.func6, Try.ntmps6
    go_wp2_with fail
    refine (awake_any _ HM.out).mono ?_
    rintro e w1 ⟨rfl, hb1⟩
    have HB1 := Lib.hid hb1
    clear hb1
    go_wp2_with fail
    go_ret
    exact ⟨rfl, HB1.out⟩
  exact absurd HO.out (by omega)

set_option maxRecDepth 100000 in
set_option maxHeartbeats 2000000 in
theorem walk_in (a0 a1 a2 a3 : Int) (w0 : (Lit.int .i64 a0).wf = true) (w1 : (Lit.int .u16 a1).wf = true) (w2 : (Lit.int .i64 a2).wf = true) (w3 : (Lit.int .u16 a3).wf = true) (w : World) (hm : HasMax w) (g1 : -1125899906842624 ≤ a0) (g2 : a0 ≤ 1125899906842624) (v1 : 1 ≤ a2) (v2 : a2 ≤ 1099511627776) :
    Calls Try.prog 6 #[.int .i64 a0, .int .u16 a1, .int .i64 a2, .int .u16 a3] w fun e w' => e = .returned (.bool true) ∧ Below w.heap.size w w' := by
  have HM := Lib.hid hm
  have u1 : 0 ≤ a1 ∧ a1 ≤ 65535 := bounds_u16 w1
  have u3 : 0 ≤ a3 ∧ a3 ≤ 65535 := bounds_u16 w3
  obtain ⟨u1, u1'⟩ := u1
  obtain ⟨u3, u3'⟩ := u3
  clear hm w0 w1 w2 w3
  have m0 : 0 ≤ a3 % (a1 + 1) := Int.emod_nonneg _ (by omega)
  have m1 : a3 % (a1 + 1) ≤ a1 := by have := Int.emod_lt_of_pos a3 (show 0 < a1 + 1 by omega); omega
  have C : Hid (∀ (n : Int) (wx : World), -1125899906842624 ≤ n → n ≤ 1125899906908160 → Calls Try.prog 14 #[.int .i64 n, .int .i64 n, .int .i64 a2] wx fun e w' => e = .returned (.tuple #[.int .i64 (near n a2), .int .i64 0]) ∧ wx = w') := by
    intro n wx h1 h2
    have := round_any n n a2 wx
    have hf : fitsB n = true := (fits_iff n).2 (by omega)
    have hr : rErr n n a2 = 0 := by unfold rErr; rw [if_neg (by omega), if_neg (by simp [hf]), if_neg (by omega)]
    rw [show rdVal n n a2 = near n a2 by unfold rdVal; rw [if_pos ⟨hr, rfl⟩], show rdErr n n a2 = 0 by unfold rdErr; rw [if_pos hr, if_pos rfl]] at this
    exact this
  have k1 := okp a2 a0 v1 v2 (by omega) (by omega)
  have k2 := okp a2 (a0 + a3 % (a1 + 1)) v1 v2 (by omega) (by omega)
  have k3 := okp a2 (a0 + a1) v1 v2 (by omega) (by omega)
  have o1 : near a0 a2 ≤ near (a0 + a3 % (a1 + 1)) a2 := near_mono _ _ _ v1 (by omega)
  have o2 : near (a0 + a3 % (a1 + 1)) a2 ≤ near (a0 + a1) a2 := near_mono _ _ _ v1 (by omega)
  have q1 : -2251799813685248 ≤ near a0 a2 := near_ge a0 a2 v1 _ (by omega) (by omega)
  have q2 : near (a0 + a1) a2 ≤ 2251799813685248 := near_le (a0 + a1) a2 v1 _ (by omega) (by omega)
  have K1 := Lib.hid k1
  have K2 := Lib.hid k2
  have K3 := Lib.hid k3
  clear k1 k2 k3
  go_enter Try.func6, Try.ntmps6
  go_wp2_with fail
  refine (awake_any _ HM.out).mono ?_
  rintro e w1 ⟨rfl, hb1⟩
  have HB1 := Lib.hid hb1
  clear hb1
  go_wp2_with (go_at_call 14; refine (C.out _ _ (by omega) (by omega)).mono ?_; rintro e w' ⟨rfl, rfl⟩)
  go_loopw [110] (fun i wr => ∃ j : Nat, j ≤ 3 ∧ i = .int .i64 (j : Int) ∧ Below (w1.heap.size + 1) (w1.alloc (.cells #[.int .i64 a0, .int .i64 (near a0 a2), .int .i64 (a0 + a3 % (a1 + 1)), .int .i64 (near (a0 + a3 % (a1 + 1)) a2), .int .i64 (a0 + a1), .int .i64 (near (a0 + a1) a2)] 41)) wr) (fun i _ => 3 - (intOf i).toNat)
  case atStart => exact ⟨0, by omega, rfl, Below.refl _ _⟩
  case round =>
    obtain ⟨j, hj, rfl, hbr⟩ := hrel
    have hc : ∀ t, t < 6 → wr.cell? ⟨w1.heap.size, t, none⟩ = (#[Value.int .i64 a0, .int .i64 (near a0 a2), .int .i64 (a0 + a3 % (a1 + 1)), .int .i64 (near (a0 + a3 % (a1 + 1)) a2), .int .i64 (a0 + a1), .int .i64 (near (a0 + a1) a2)] : Array Value)[t]? := fun t _ => (hbr.cell (p := ⟨w1.heap.size, t, none⟩) (by show w1.heap.size < w1.heap.size + 1; omega)).trans (World.cell?_alloc_new _ _ _ _)
    have hgs : w1.heap.size < wr.heap.size := by have := hbr.size; simp at this; omega
    have HBR := Lib.hid hbr
    obtain ⟨T, hT⟩ : ∃ T, Int.tdiv 2251799813685248 a2 = T := ⟨_, rfl⟩
    have hTe : T = 2251799813685248 / a2 := by rw [← hT]; exact Int.tdiv_eq_ediv_of_nonneg (by omega)
    have hT0 : 0 ≤ T := by rw [hTe]; exact Int.ediv_nonneg (by omega) (by omega)
    have hT1 : T ≤ 2251799813685248 := by rw [hTe]; exact Int.ediv_le_self _ (by omega)
    have x0 : ¬ a2 = 0 := by omega
    have x1 : IntKind.i64.wrap (-T) = -T := IntWalk.i64_in _ (by omega)
    have x2 : IntKind.i64.wrap (-T - 1) = -T - 1 := IntWalk.i64_in _ (by omega)
    have x3 : IntKind.i64.wrap T = T := IntWalk.i64_in _ (by omega)
    have x4 : IntKind.i64.wrap (T + 1) = T + 1 := IntWalk.i64_in _ (by omega)
    have hTE := Lib.hid hTe
    clear hbr hTe
    rcases (show j = 0 ∨ j = 1 ∨ j = 2 ∨ j = 3 by omega) with rfl | rfl | rfl | rfl
    · have c0 : wr.cell? ⟨w1.heap.size, 0, none⟩ = some (.int .i64 a0) := hc 0 (by omega)
      have c1 : wr.cell? ⟨w1.heap.size, 1, none⟩ = some (.int .i64 (near a0 a2)) := hc 1 (by omega)
      have e1 : decide (near a0 a2 < -T - 1) = false := decide_eq_false (by have := K1.out.g; rw [tdiv_neg_const a2 v1, ← hTE.out] at this; omega)
      have e2 : decide (T + 1 < near a0 a2) = false := decide_eq_false (by have := K1.out.l; rw [← hTE.out] at this; omega)
      have d1 := K1.out.d1
      have d2 := K1.out.d2
      have m1 := K1.out.m1
      have m2 := K1.out.m2
      clear hc
      go_wp2_with fail
      go_region
      all_goals go_wp2_with fail
      all_goals go_roundw
      case rel => exact ⟨1, by omega, by go_num, (HBR.out.alloc (by omega) _).drew⟩
      case measure => simp [intOf]
    · have c0 : wr.cell? ⟨w1.heap.size, 2, none⟩ = some (.int .i64 (a0 + a3 % (a1 + 1))) := hc 2 (by omega)
      have c1 : wr.cell? ⟨w1.heap.size, 3, none⟩ = some (.int .i64 (near (a0 + a3 % (a1 + 1)) a2)) := hc 3 (by omega)
      have e1 : decide (near (a0 + a3 % (a1 + 1)) a2 < -T - 1) = false := decide_eq_false (by have := K2.out.g; rw [tdiv_neg_const a2 v1, ← hTE.out] at this; omega)
      have e2 : decide (T + 1 < near (a0 + a3 % (a1 + 1)) a2) = false := decide_eq_false (by have := K2.out.l; rw [← hTE.out] at this; omega)
      have d1 := K2.out.d1
      have d2 := K2.out.d2
      have m1 := K2.out.m1
      have m2 := K2.out.m2
      clear hc
      go_wp2_with fail
      go_region
      all_goals go_wp2_with fail
      all_goals go_roundw
      case rel => exact ⟨2, by omega, by go_num, (HBR.out.alloc (by omega) _).drew⟩
      case measure => simp [intOf]
    · have c0 : wr.cell? ⟨w1.heap.size, 4, none⟩ = some (.int .i64 (a0 + a1)) := hc 4 (by omega)
      have c1 : wr.cell? ⟨w1.heap.size, 5, none⟩ = some (.int .i64 (near (a0 + a1) a2)) := hc 5 (by omega)
      have e1 : decide (near (a0 + a1) a2 < -T - 1) = false := decide_eq_false (by have := K3.out.g; rw [tdiv_neg_const a2 v1, ← hTE.out] at this; omega)
      have e2 : decide (T + 1 < near (a0 + a1) a2) = false := decide_eq_false (by have := K3.out.l; rw [← hTE.out] at this; omega)
      have d1 := K3.out.d1
      have d2 := K3.out.d2
      have m1 := K3.out.m1
      have m2 := K3.out.m2
      clear hc
      go_wp2_with fail
      go_region
      all_goals go_wp2_with fail
      all_goals go_roundw
      case rel => exact ⟨3, by omega, by go_num, (HBR.out.alloc (by omega) _).drew⟩
      case measure => simp [intOf]
    · have hfin : Hid (Below w.heap.size w wr) := ((HB1.out.alloc HB1.out.size _).trans (HBR.out.mono (by have := HB1.out.size; omega)))
      have f0 : fitsB a0 = true := (fits_iff a0).2 (by omega)
      have f1 : fitsB (a0 + a1) = true := (fits_iff _).2 (by omega)
      have hr : rErr a0 (a0 + a1) a2 = 0 := by unfold rErr; rw [if_neg (by omega), if_neg (by simp [f0, f1]), if_neg (by omega)]
      clear hc x1 x2 x3 x4
      by_cases he : near a0 a2 = near (a0 + a1) a2
      · have CR : Hid (∀ wx, Calls Try.prog 14 #[.int .i64 a0, .int .i64 (a0 + a1), .int .i64 a2] wx fun e w' => e = .returned (.tuple #[.int .i64 (near a0 a2), .int .i64 0]) ∧ wx = w') := by
          intro wx
          have := round_any a0 (a0 + a1) a2 wx
          rw [show rdVal a0 (a0 + a1) a2 = near a0 a2 by unfold rdVal; rw [if_pos ⟨hr, he⟩], show rdErr a0 (a0 + a1) a2 = 0 by unfold rdErr; rw [if_pos hr, if_pos he]] at this
          exact this
        have t1 : (near a0 a2 != near (a0 + a1) a2) = false := by simp [he]
        clear hr f0 f1 he
        go_wp2_with (go_at_call 14; refine (CR.out _).mono ?_; rintro e w' ⟨rfl, rfl⟩)
        go_ret
        exact ⟨rfl, hfin.out⟩
      · have CR : Hid (∀ wx, Calls Try.prog 14 #[.int .i64 a0, .int .i64 (a0 + a1), .int .i64 a2] wx fun e w' => e = .returned (.tuple #[.int .i64 0, .int .i64 24]) ∧ wx = w') := by
          intro wx
          have := round_any a0 (a0 + a1) a2 wx
          rw [show rdVal a0 (a0 + a1) a2 = 0 by unfold rdVal; rw [if_neg (fun h => he h.2)], show rdErr a0 (a0 + a1) a2 = 24 by unfold rdErr; rw [if_pos hr, if_neg he]] at this
          exact this
        have t1 : (near a0 a2 != near (a0 + a1) a2) = true := by simp [he]
        clear hr f0 f1 he
        go_wp2_with (go_at_call 14; refine (CR.out _).mono ?_; rintro e w' ⟨rfl, rfl⟩)
        go_ret
        exact ⟨rfl, hfin.out⟩

theorem walk (a0 a1 a2 a3 : Int) (w0 : (Lit.int .i64 a0).wf = true) (w1 : (Lit.int .u16 a1).wf = true) (w2 : (Lit.int .i64 a2).wf = true) (w3 : (Lit.int .u16 a3).wf = true) (w : World) (hm : HasMax w) :
    Calls Try.prog 6 #[.int .i64 a0, .int .u16 a1, .int .i64 a2, .int .u16 a3] w fun e w' => e = .returned (.bool true) ∧ Below w.heap.size w w' := by
  by_cases h : a0 < -1125899906842624 ∨ 1125899906842624 < a0 ∨ a2 < 1 ∨ 1099511627776 < a2
  · exact walk_out a0 a1 a2 a3 w0 w1 w2 w3 w hm h
  · exact walk_in a0 a1 a2 a3 w0 w1 w2 w3 w hm (by omega) (by omega) (by omega) (by omega)

theorem own : ownKnob Try.prog.godebug = none := by kernel_rfl
set_option maxRecDepth 100000 in
theorem lifted (os : Os) (started : os.Started) (H : Type) (enc : TypeId × Value → H) :
    ReturnsInHanded {} Try.checked os 6 .any (Rows.decimalNearSpec.pre6 enc Try.prog Try.f6 Rows.decimalNearRow.domain false) (Rows.decimalNearSpec.post enc Try.prog Try.f6 false true false false) := by
  refine returnsInHanded_of_change_shaped (C := Try.checked) own started (by kernel_rfl) Try.func6
    (ChangeSpec.witness6 (enc := enc) (C := Try.checked) false ⟨#[], #[.int .i64 0, .int .u16 0, .int .i64 0, .int .u16 0], []⟩ 8 (by kernel_rfl) (by kernel_rfl) (by kernel_rfl) (by kernel_rfl)) ?_
  intro W base args ds gs before hval0 hW hcnd0 _ hsh _
  have hval : ∀ (j : Nat) t v, Try.f6.params[j]? = some t → args[j]? = some v → Value.okWide Try.prog W .any base t v := hval0
  have hW' := hW
  obtain ⟨p, q, hA0, hV, rfl, hfz, hnd⟩ := hW
  have hA : DataW.TrodAll enc Try.prog W 0 (fun _ => true) true Try.f6.params.toList args.toList ds p := hA0
  rw [Try.params6] at hA hval
  obtain ⟨v0, vs0, d0, ds0, p0, q0, hargs, rfl, rfl, h0, r0⟩ := trodAll_cons hA
  obtain ⟨v1, vs1, d1, ds1, p1, q1, rfl, rfl, rfl, h1, r1⟩ := trodAll_cons r0
  obtain ⟨v2, vs2, d2, ds2, p2, q2, rfl, rfl, rfl, h2, r2⟩ := trodAll_cons r1
  obtain ⟨v3, vs3, d3, ds3, p3, q3, rfl, rfl, rfl, h3, r3⟩ := trodAll_cons r2
  obtain ⟨rfl, rfl, rfl⟩ := trodAll_nil r3
  obtain rfl : args = #[v0, v1, v2, v3] := by cases args; simp_all
  obtain ⟨rfl, rfl⟩ := trodVars_none hV
  obtain ⟨a0, rfl, rfl, rfl, w0⟩ := open_int Try.underlying3 (hval 0 3 v0 rfl rfl) h0
  obtain ⟨a1, rfl, rfl, rfl, w1⟩ := open_int Try.underlying40 (hval 1 40 v1 rfl rfl) h1
  obtain ⟨a2, rfl, rfl, rfl, w2⟩ := open_int Try.underlying3 (hval 2 3 v2 rfl rfl) h2
  obtain ⟨a3, rfl, rfl, rfl, w3⟩ := open_int Try.underlying40 (hval 3 40 v3 rfl rfl) h3
  clear hA0 hval0
  simp only [List.append_nil] at hW'
  refine (walk a0 a1 a2 a3 w0 w1 w2 w3 W (Try.laysM219.s1_3 W hsh)).mono fun e W' ⟨he, bel⟩ => ?_
  subst he
  exact ⟨_, rfl, _, _, _, [], _, [], hW', trodAll_mk1 (shut_bool Try.underlying4 _), (trodAll_cons_mk (shut_int Try.underlying3 w0) (trodAll_cons_mk (shut_int Try.underlying40 w1) (trodAll_cons_mk (shut_int Try.underlying3 w2) (trodAll_cons_mk (shut_int Try.underlying40 w3) trodAll_mk0)))), rfl, bel.frame _, fun h => by cases h⟩

theorem proved : Rows.DecimalNearSaid :=
  OpenClaim.holds_of_wide 6 Try.f6 rfl rfl rfl rfl rfl rfl rfl ⟨rfl, rfl, rfl, rfl, rfl⟩ rfl rfl rfl rfl rfl (by kernel_rfl) Try.func6 (by kernel_rfl)
    (of_decide_eq_true (by kernel_rfl)) (by unfold Func.isWrapper; first | (rw [if_pos (by decide +kernel)]; kernel_rfl) | (rw [if_neg (by decide +kernel)]; exact ⟨rfl, rfl⟩))
    (fun os started H enc _ => lifted os started H enc)
#print axioms proved
end Go.Proofs.Ytijgaenfhmgcoaa.decimalNear
