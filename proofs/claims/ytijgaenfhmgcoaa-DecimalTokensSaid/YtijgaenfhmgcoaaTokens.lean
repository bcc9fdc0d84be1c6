/- DecimalTokens: for every string the law returns true: Tokens and IsName return what their references return. No condition. -/
import Derived.Test.YtijgaenfhmgcoaaAwake
import Derived.Test.YtijgaenfhmgcoaaTokJ
import Derived.ProofKit
import Derived.OpenShut
import Derived.ShutString
import Derived.HandedShaped
namespace Go.Proofs.Ytijgaenfhmgcoaa.decimalTokens
open Go.ChangeShapes Go.WideShapes Go.ChangeAt Go.RowKit
open Go.ChangeMaps (open_string shut_string)
set_option linter.unusedVariables false

set_option maxRecDepth 100000 in
set_option maxHeartbeats 2000000 in
theorem walk_skip (a0 : ByteArray) (w0 : a0.size ≤ maxLen) (w : World) (hm : HasMax w) (hl : 400 < a0.size ∧ a0.size ≤ 65536 ∨ 65636 < a0.size) :
    Calls Try.prog 7 #[.string a0] w fun e w' => e = .returned (.bool true) ∧ Below w.heap.size w w' := by
  have HM := Lib.hid hm
  unfold maxLen at w0
  clear hm
  rcases hl with ⟨h1, h2⟩ | h1
  · go_enter Try.func7, Try.ntmps7
    go_wp2_with fail
    refine (awake_any _ HM.out).mono ?_
    rintro e w1 ⟨rfl, hb1⟩
    have HB1 := Lib.hid hb1
    clear hb1
    go_wp2_with fail
    go_ret
    exact ⟨rfl, HB1.out⟩
  · go_enter Try.func7, Try.ntmps7
    go_wp2_with fail
    refine (awake_any _ HM.out).mono ?_
    rintro e w1 ⟨rfl, hb1⟩
    have HB1 := Lib.hid hb1
    clear hb1
    go_wp2_with fail
    go_ret
    exact ⟨rfl, HB1.out⟩

set_option maxRecDepth 100000 in
set_option maxHeartbeats 2000000 in
theorem walk_big (a0 : ByteArray) (w0 : a0.size ≤ maxLen) (w : World) (hm : HasMax w) (h1 : 65536 < a0.size) (h2 : a0.size ≤ 65636) :
    Calls Try.prog 7 #[.string a0] w fun e w' => e = .returned (.bool true) ∧ Below w.heap.size w w' := by
  have HM := Lib.hid hm
  unfold maxLen at w0
  have C1 := Lib.hid (fun wx => tokens_big a0 wx h1 (by omega))
  have C2 := Lib.hid (fun wx => rtokens_big a0 wx h1 (by omega))
  have CI := Lib.hid (fun wx => isName_any a0 wx (by omega))
  have CR := Lib.hid (fun wx => rIsName_any a0 wx (by omega))
  have CE := Lib.hid (fun wx => equal_none none none 0 0 wx)
  obtain ⟨nb, hnb⟩ : ∃ b, b = nameB a0.data.toList := ⟨_, rfl⟩
  rw [← hnb] at CI CR
  clear hm hnb
  go_enter Try.func7, Try.ntmps7
  go_wp2_with fail
  refine (awake_any _ HM.out).mono ?_
  rintro e w1 ⟨rfl, hb1⟩
  have HB1 := Lib.hid hb1
  clear hb1
  go_wp2_with fail
  refine (C1.out _).mono ?_
  rintro e w2 ⟨rfl, hb2⟩
  have HB2 := Lib.hid (HB1.out.trans (hb2.mono HB1.out.size))
  clear hb2
  go_wp2_with fail
  refine (C2.out _).mono ?_
  rintro e w3 ⟨rfl, hb3⟩
  have hs3 := hb3.size
  simp at hs3
  have hlt3 : w2.heap.size < w3.heap.size := by omega
  have hx := (hb3.block w2.heap.size (by simp)).trans (heap_alloc_new w2 _)
  have q0 : w3.cell? ⟨w2.heap.size, 0, none⟩ = some (.int .i64 0) := by rw [cell_of_row _ w2.heap.size 0 _ _ _ hx]; rfl
  have q1 : w3.cell? ⟨w2.heap.size, 1, none⟩ = some (.int .i64 0) := by rw [cell_of_row _ w2.heap.size 1 _ _ _ hx]; rfl
  have HB3 := Lib.hid ((HB2.out.alloc HB2.out.size _).trans (hb3.mono (by have := HB2.out.size; simp; omega)))
  clear hb3 hx hs3
  go_wp2_with (first | (go_at_call 20; refine (CE.out _).mono ?_; rintro e w4 ⟨rfl, q, rfl⟩) | (go_at_call 21; refine (CI.out _).mono ?_; rintro e w5 ⟨rfl, rfl⟩) | (go_at_call 22; refine (CR.out _).mono ?_; rintro e w6 ⟨rfl, rfl⟩))
  go_ret
  have hf := HB3.out.alloc HB3.out.size (Obj.cells #[Value.int IntKind.i64 0, Value.int IntKind.i64 0] 46)
  exact ⟨rfl, ⟨hf.os, hf.tape, hf.output, hf.size, hf.block⟩⟩

set_option maxRecDepth 100000 in
set_option maxHeartbeats 2000000 in
theorem walk_main (a0 : ByteArray) (w : World) (hm : HasMax w) (hl : a0.size ≤ 400) :
    Calls Try.prog 7 #[.string a0] w fun e w' => e = .returned (.bool true) ∧ Below w.heap.size w w' := by
  have HM := Lib.hid hm
  have C1 := Lib.hid (fun wx => tokens_any a0 wx (by omega))
  have C2 := Lib.hid (fun wx => rtokens_any a0 wx (by omega))
  have CI := Lib.hid (fun wx => isName_any a0 wx (by omega))
  have CR := Lib.hid (fun wx => rIsName_any a0 wx (by omega))
  have hlen : (tokTs a0.data.toList).length ≤ 70000 := by have := tokTs_len a0.data.toList; rw [← Lib.size_eq] at this; omega
  obtain ⟨nb, hnb⟩ : ∃ b, b = nameB a0.data.toList := ⟨_, rfl⟩
  rw [← hnb] at CI CR
  unfold TokPost at C1 C2
  obtain ⟨ts, hts⟩ : ∃ b, b = tokTs a0.data.toList := ⟨_, rfl⟩
  obtain ⟨tl, htl⟩ : ∃ b, b = tokLine a0.data.toList := ⟨_, rfl⟩
  obtain ⟨tc, htc⟩ : ∃ b, b = tokCol a0.data.toList := ⟨_, rfl⟩
  obtain ⟨te, hte⟩ : ∃ b, b = tokErr a0.data.toList := ⟨_, rfl⟩
  rw [← hts] at hlen
  rw [← hts, ← htl, ← htc, ← hte] at C1 C2
  have HLEN := Lib.hid hlen
  clear hm hnb hts htl htc hte hlen
  go_enter Try.func7, Try.ntmps7
  go_wp2_with fail
  refine (awake_any _ HM.out).mono ?_
  rintro e w1 ⟨rfl, hb1⟩
  have HB1 := Lib.hid hb1
  clear hb1
  go_wp2_with fail
  refine (C1.out _).mono ?_
  rintro e w2 ⟨v1, rfl, ho1, hb2⟩
  have HB2 := Lib.hid (HB1.out.trans (hb2.mono HB1.out.size))
  have HO1 := Lib.hid ho1
  clear hb2 ho1
  go_wp2_with fail
  refine (C2.out _).mono ?_
  rintro e w3 ⟨v2, rfl, ho2, hb3⟩
  have hs3 := hb3.size
  simp at hs3
  have hlt3 : w2.heap.size < w3.heap.size := by omega
  have hx := (hb3.block w2.heap.size (by simp)).trans (heap_alloc_new w2 _)
  have q0 : w3.cell? ⟨w2.heap.size, 0, none⟩ = some (.int .i64 tl) := by rw [cell_of_row _ w2.heap.size 0 _ _ _ hx]; rfl
  have q1 : w3.cell? ⟨w2.heap.size, 1, none⟩ = some (.int .i64 tc) := by rw [cell_of_row _ w2.heap.size 1 _ _ _ hx]; rfl
  have HB3 := Lib.hid ((HB2.out.alloc HB2.out.size _).trans (hb3.mono (by have := HB2.out.size; simp; omega)))
  have HO3 := Lib.hid (own_below (HO1.out.alloc _) hb3)
  have HO2 := Lib.hid ho2
  have CE : Hid (∀ o, Calls Try.prog 20 #[v1, v2] (w3.alloc o) fun e w' => e = .returned (.bool true) ∧ ∃ q, w' = (w3.alloc o).drewN q) := fun o => equal_any v1 v2 _ _ ts _ HLEN.out (HO3.out.alloc o) (HO2.out.alloc o)
  clear hb3 hx hs3 ho2
  go_wp2_with (first | (go_at_call 20; refine (CE.out _).mono ?_; rintro e w4 ⟨rfl, q, rfl⟩) | (go_at_call 21; refine (CI.out _).mono ?_; rintro e w5 ⟨rfl, rfl⟩) | (go_at_call 22; refine (CR.out _).mono ?_; rintro e w6 ⟨rfl, rfl⟩))
  go_ret
  have hf := HB3.out.alloc HB3.out.size (Obj.cells #[Value.int IntKind.i64 tl, Value.int IntKind.i64 tc] 46)
  exact ⟨rfl, ⟨hf.os, hf.tape, hf.output, hf.size, hf.block⟩⟩

theorem walk (a0 : ByteArray) (w0 : a0.size ≤ maxLen) (w : World) (hm : HasMax w) :
    Calls Try.prog 7 #[.string a0] w fun e w' => e = .returned (.bool true) ∧ Below w.heap.size w w' := by
  by_cases h1 : a0.size ≤ 400
  · exact walk_main a0 w hm h1
  by_cases h2 : 65536 < a0.size ∧ a0.size ≤ 65636
  · exact walk_big a0 w0 w hm h2.1 h2.2
  · exact walk_skip a0 w0 w hm (by omega)

theorem own : ownKnob Try.prog.godebug = none := by kernel_rfl
set_option maxRecDepth 100000 in
theorem lifted (os : Os) (started : os.Started) (H : Type) (enc : TypeId × Value → H) :
    ReturnsInHanded {} Try.checked os 7 .any (Rows.decimalTokensSpec.pre6 enc Try.prog Try.f7 Rows.decimalTokensRow.domain false) (Rows.decimalTokensSpec.post enc Try.prog Try.f7 false true false false) := by
  refine returnsInHanded_of_change_shaped (C := Try.checked) own started (by kernel_rfl) Try.func7
    (ChangeSpec.witness6 (enc := enc) (C := Try.checked) false ⟨#[], #[.string ⟨#[]⟩], []⟩ 8 (by kernel_rfl) (by kernel_rfl) (by kernel_rfl) (by kernel_rfl)) ?_
  intro W base args ds gs before hval0 hW hcnd0 _ hsh _
  have hval : ∀ (j : Nat) t v, Try.f7.params[j]? = some t → args[j]? = some v → Value.okWide Try.prog W .any base t v := hval0
  have hW' := hW
  obtain ⟨p, q, hA0, hV, rfl, hfz, hnd⟩ := hW
  have hA : DataW.TrodAll enc Try.prog W 0 (fun _ => true) true Try.f7.params.toList args.toList ds p := hA0
  rw [Try.params7] at hA hval
  obtain ⟨v0, vs0, d0, ds0, p0, q0, hargs, rfl, rfl, h0, r0⟩ := trodAll_cons hA
  obtain ⟨rfl, rfl, rfl⟩ := trodAll_nil r0
  obtain rfl : args = #[v0] := by cases args; simp_all
  obtain ⟨rfl, rfl⟩ := trodVars_none hV
  obtain ⟨a0, rfl, rfl, rfl, w0⟩ := open_string Try.underlying9 (hval 0 9 v0 rfl rfl) h0
  clear hA0 hval0
  simp only [List.append_nil] at hW'
  refine (walk a0 w0 W (Try.laysM219.s1_3 W hsh)).mono fun e W' ⟨he, bel⟩ => ?_
  subst he
  exact ⟨_, rfl, _, _, _, [], _, [], hW', trodAll_mk1 (shut_bool Try.underlying4 _), (trodAll_cons_mk (shut_string Try.underlying9 w0) trodAll_mk0), rfl, bel.frame _, fun h => by cases h⟩

theorem proved : Rows.DecimalTokensSaid :=
  OpenClaim.holds_of_wide 7 Try.f7 rfl rfl rfl rfl rfl rfl rfl ⟨rfl, rfl, rfl, rfl, rfl⟩ rfl rfl rfl rfl rfl (by kernel_rfl) Try.func7 (by kernel_rfl)
    (of_decide_eq_true (by kernel_rfl)) (by unfold Func.isWrapper; first | (rw [if_pos (by decide +kernel)]; kernel_rfl) | (rw [if_neg (by decide +kernel)]; exact ⟨rfl, rfl⟩))
    (fun os started H enc _ => lifted os started H enc)
#print axioms proved
end Go.Proofs.Ytijgaenfhmgcoaa.decimalTokens
