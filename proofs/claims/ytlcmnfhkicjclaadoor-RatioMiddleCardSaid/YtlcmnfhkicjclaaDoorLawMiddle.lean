/- RatioMiddle: for any list of fractions and any bytes the law returns true: medians and means lie between the least and the greatest element; a median does not depend on the order. The card: the listed tables hold what the program's text lays. No other condition. -/
import Derived.Test.YtlcmnfhkicjclaaDoorMsu
import Derived.ChangeOld
import Derived.ChangeBook
import Derived.ChangeStays
import Derived.Test.YtlcmnfhkicjclaaDoorTie
import Derived.Test.YtlcmnfhkicjclaaDoorCards
import Derived.ProofKit
import Derived.OpenShut
import Derived.HandedShaped
import Derived.Handed
import Derived.Lay
import Derived.MakeChecks
import Derived.Stop.LaidErr
import Derived.Lib.LaidTab
import Derived.SevenTiedAt
import Derived.Lib.SmallJoins
namespace Go.Proofs.YtlcmnfhkicjclaaDoor.ratioMiddle
open Go.ChangeShapes Go.WideShapes Go.ChangeAt Go.RowKit
set_option linter.unusedVariables false

theorem cellsFrac : Tryd.prog.cellsOf 24 = 2 := by kernel_rfl
theorem tabOf (W : World) (h : laidMet Tryd.prog Rows.ratioMiddleRow.laid W) : Lib.TabIs Tryd.prog W "internal/strconv.uint64pow10" .u64 Lib.pow10Tab := by
  have h1 : laidMet Tryd.prog [("internal/strconv.uint64pow10", Lib.tabData .u64 Lib.pow10Tab)] W := h.tail.tail
  exact Lib.tabIs_of_head (g := 3) (by kernel_rfl) (by kernel_rfl) (t := 130) Tryd.underlying130 Tryd.underlying57 (by kernel_rfl) (by kernel_rfl) h1
theorem laidOut : laidOutB Tryd.prog = true := by kernel_rfl
theorem rec40 : Tryd.prog.readableRec 40 = true := by kernel_rfl
theorem row40 : 40 < Tryd.prog.types.size := of_decide_eq_true (by kernel_rfl)
theorem rec55 : Tryd.prog.readableRec 55 = true := by kernel_rfl
theorem row55 : 55 < Tryd.prog.types.size := of_decide_eq_true (by kernel_rfl)
theorem own : ownKnob Tryd.prog.godebug = none := by kernel_rfl
set_option maxRecDepth 100000 in
theorem lifted (os : Os) (started : os.Started) (H : Type) (enc : TypeId × Value → H) :
    ReturnsInHanded {} Tryd.checked os 11 .any (fun w args => (Rows.ratioMiddleSpec.pre enc Tryd.prog Tryd.f11 [] false w args ∧ laidMetH Tryd.prog Rows.ratioMiddleRow.laid w) ∧ sizedMet enc Tryd.prog Tryd.f11 (OpenSpec.ofChange Rows.ratioMiddleSpec) false w args) (Rows.ratioMiddleSpec.post enc Tryd.prog Tryd.f11 false true false false) := by
  refine returnsInHanded_of_change_and (C := Tryd.checked) (X := fun w _ => laidMetH Tryd.prog Rows.ratioMiddleRow.laid w) (fun _ _ _ hh h => h.of_heap hh) own started (by kernel_rfl) Tryd.func11
    (ChangeSpec.witness_at (enc := enc) (C := Tryd.checked) (os := os) (X := fun w _ => laidMetH Tryd.prog Rows.ratioMiddleRow.laid w) false (World.laidAll Tryd.prog os Rows.ratioMiddleRow.laid) #[.slice none 0 0, .slice none 0 0] 8 (World.laidAll_os _ _ _) (by kernel_rfl) (by kernel_rfl) (by kernel_rfl) (by kernel_rfl) (by kernel_rfl)
      (by rw [MakeChecks.laidMetH_plain _ _ _ (by kernel_rfl)]; exact laidMet_laidAll _ (by kernel_rfl) (by kernel_rfl))) ?_
  intro W base args ds gs before hval0 hW _ _ hL _
  have hval : ∀ (j : Nat) t v, Tryd.f11.params[j]? = some t → args[j]? = some v → Value.okWide Tryd.prog W .any base t v := hval0
  have hW' := hW
  obtain ⟨p, q, hA0, hV, rfl, hfz, hnd⟩ := hW
  have hA : DataW.TrodAll enc Tryd.prog W 0 (fun _ => true) true Tryd.f11.params.toList args.toList ds p := hA0
  rw [Tryd.params11] at hA hval
  obtain ⟨v0, vs0, d0, ds0, p0, q0, hargs, rfl, rfl, h0, r0⟩ := trodAll_cons hA
  obtain ⟨v1, vs1, d1, ds1, p1, q1, rfl, rfl, rfl, h1, r1⟩ := trodAll_cons r0
  obtain ⟨rfl, rfl, rfl⟩ := trodAll_nil r1
  obtain rfl : args = #[v0, v1] := by cases args; simp_all
  obtain ⟨rfl, rfl⟩ := trodVars_none hV
  obtain ⟨A, n, c, zs, rfl, hS, hsp, hc, hcm⟩ := open_fracs (hval 0 40 v0 rfl rfl) h0
  obtain ⟨OA, mo, oc, rfl, hox, hO⟩ := open_u8s (hval 1 55 v1 rfl rfl) h1
  clear hA0 hval0
  rw [MakeChecks.laidMetH_plain _ _ _ (by kernel_rfl)] at hL
  have htab : Lib.TabIs Tryd.prog W "internal/strconv.uint64pow10" .u64 Lib.pow10Tab := tabOf W hL
  simp only [List.append_nil] at hW'
  refine (mid_any A OA n c mo oc zs W htab hS hc hcm hox hO).mono fun e W' ⟨he, bel⟩ => ?_
  subst he
  have hlt0 : ∀ x ∈ p0, x.block < W.heap.size := fun x hx => hW'.lt x (by simp [hx])
  have hlt1 : ∀ x ∈ p1, x.block < W.heap.size := fun x hx => hW'.lt x (by simp [hx])
  have sr0 : DataW.Trod enc Tryd.prog W' 0 (fun b => decide (b < W.heap.size)) true 40 (.slice A n c) d0 p0 := by
    obtain ⟨k, hk⟩ := h0
    exact ⟨k, DataW.trod_stays (Go.kids_book laidOut rec40) (Go.book_sized rec40) (fun h => by cases h) ⟨row40, Go.book_self _⟩ hk (fun x hx => bel.same (hlt0 x hx)) (fun x hx => by simpa using hlt0 x hx)⟩
  have sr1 : DataW.Trod enc Tryd.prog W' 0 (fun b => decide (b < W.heap.size)) true 55 (.slice OA mo oc) d1 p1 := by
    obtain ⟨k, hk⟩ := h1
    exact ⟨k, DataW.trod_stays (Go.kids_book laidOut rec55) (Go.book_sized rec55) (fun h => by cases h) ⟨row55, Go.book_self _⟩ hk (fun x hx => bel.same (hlt1 x hx)) (fun x hx => by simpa using hlt1 x hx)⟩
  exact ⟨_, rfl, _, _, _, [], _, [], hW', trodAll_mk1 (shut_bool Tryd.underlying4 _), (trodAll_cons_mk sr0 (trodAll_cons_mk sr1 trodAll_mk0)), rfl, bel.frame _, fun h => by cases h⟩

theorem row_proved : Rows.RatioMiddleSaid :=
  OpenClaim.holds_of_wide 11 Tryd.f11 rfl rfl rfl rfl rfl rfl rfl ⟨rfl, rfl, rfl, rfl, rfl⟩ rfl rfl rfl rfl rfl (by kernel_rfl) Tryd.func11 (by kernel_rfl)
    (of_decide_eq_true (by kernel_rfl)) (by unfold Func.isWrapper; first | (rw [if_pos (by decide +kernel)]; kernel_rfl) | (rw [if_neg (by decide +kernel)]; exact ⟨rfl, rfl⟩))
    (fun os started H enc _ => lifted os started H enc)


theorem proved : Rows.RatioMiddleCardSaid :=
  Claim7.holds_tied_plain_at .later [] [.data, .data, .data] true (true, "3b88dd91d39bad1d38dcf410578be2d3a3f34d6bb2c2f0320786fdecc3017e08") true
    row_proved (fun _ h => by cases h) (by kernel_rfl) (fun _ h => by cases h) ratioMiddle_row_tie rfl ⟨rfl, rfl⟩ (by kernel_rfl) rfl
    (fun f fn hf hfn => by
      obtain rfl : f = 11 := Option.some.inj ((show Tryd.prog.funcNamed "almucantar/almucantarlaw03.RatioMiddle" = some 11 by kernel_rfl).symm.trans hf) |>.symm
      obtain rfl : fn = Tryd.f11 := (Option.some.inj (Tryd.func11.symm.trans hfn)).symm
      exact ⟨by kernel_rfl, fun j t ht => by
        rw [Tryd.params11] at ht
        rcases j with _ | _ | j
        · have h3 : t = 40 := by simpa using ht.symm
          subst h3
          exact (show Tryd.prog.wantsStandIn 40 = false by kernel_rfl)
        · have h3 : t = 55 := by simpa using ht.symm
          subst h3
          exact (show Tryd.prog.wantsStandIn 55 = false by kernel_rfl)
        · simp at ht⟩)
    (by kernel_rfl)
#print axioms proved
end Go.Proofs.YtlcmnfhkicjclaaDoor.ratioMiddle
