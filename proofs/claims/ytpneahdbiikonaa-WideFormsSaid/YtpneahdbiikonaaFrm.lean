/- WideForms: the walks of the law. -/
import Derived.Test.YtpneahdbiikonaaQts
namespace Go.Proofs.Ytpneahdbiikonaa
open Go.RowKit
set_option linter.unusedVariables false
attribute [local go_sem ↓] Go.wp_at_zero Go.wp_at_succ

/-- what the walks ask of their callees: u, v the parts of n, k and e what Int answers -/
structure FmC (h l n u v x k e : Int) (b f : Bool) : Prop where
  r : ∀ wx, Calls Try.prog 13 #[.agg #[.int .i64 h, .int .i64 l]] wx fun e w' => e = .returned (.bool b) ∧ Below wx.heap.size wx w'
  p : ∀ wx, Calls Try.prog 14 #[.agg #[.int .i64 h, .int .i64 l]] wx fun e w' => e = .returned (.bool b) ∧ Below wx.heap.size wx w'
  i : ∀ wx, Calls Try.prog 16 #[.int .i64 n] wx (RetZ wx n)
  t : ∀ wx A1 n1 c1 g1, NZ wx A1 n1 c1 g1 n → Calls Try.prog 15 #[.agg #[.slice A1 n1 c1, .bool g1]] wx fun e w' => e = .returned (.tuple #[.agg #[.int .i64 u, .int .i64 v], .int .i64 x]) ∧ Below wx.heap.size wx w'
  o : ∀ wx, Calls Try.prog 17 #[.int .i64 n] wx fun e w' => e = .returned (.agg #[.int .i64 u, .int .i64 v]) ∧ Below wx.heap.size wx w'
  g : ∀ wx, Calls Try.prog 18 #[.agg #[.int .i64 h, .int .i64 l]] wx fun z w' => z = .returned (.tuple #[.int .i64 k, .int .i64 e]) ∧ Below wx.heap.size wx w'
  w : ∀ wx, Calls Try.prog 20 #[.agg #[.int .i64 h, .int .i64 l]] wx (RetZ wx (wv h l))
  j : ∀ wx A1 n1 c1 g1, b = true → NZ wx A1 n1 c1 g1 (wv h l) → Calls Try.prog 19 #[.agg #[.slice A1 n1 c1, .bool g1]] wx fun e w' => e = .returned (.tuple #[.int .i64 k, .bool f]) ∧ Below wx.heap.size wx w'

theorem fmC (h l n k e : Int) (b f : Bool) (hk : wok h l = b) (h1 : -9223372036854775808 ≤ h) (h2 : h ≤ 9223372036854775807) (l1 : -9223372036854775808 ≤ l) (l2 : l ≤ 9223372036854775807) (n1 : -9223372036854775808 ≤ n) (n2 : n ≤ 9223372036854775807)
    (hg : ∀ wx, Calls Try.prog 18 #[.agg #[.int .i64 h, .int .i64 l]] wx fun z w' => z = .returned (.tuple #[.int .i64 k, .int .i64 e]) ∧ Below wx.heap.size wx w')
    (hj : b = true → iV (wv h l) = k ∧ isI (wv h l) = f) : FmC h l n (wh n) (wl n) 0 k e b f := by
  refine ⟨fun wx => rvalid_is h l b hk wx, fun wx => valid_is h l b hk wx, fun wx => ofint_any n wx n1 n2, ?_, fun wx => of_any n wx n1 n2, hg, fun wx => ofwide_any h l wx h1 h2 l1 l2, ?_⟩
  · intro wx A1 n1 c1 g1 q
    have hf : wfit n = true := by rw [wfit_iff]; unfold wh; omega
    have := towide_any A1 n1 c1 g1 n wx q (by omega)
    rw [show fitH n = wh n by unfold fitH; rw [if_pos hf], show fitL n = wl n by unfold fitL; rw [if_pos hf], show fitE n = 0 by unfold fitE; rw [if_pos hf]] at this
    exact this
  · intro wx A1 n1 c1 g1 hb q
    obtain ⟨e1, e2⟩ := hj hb
    have hw := (wok_iff h l).1 (hk.trans hb)
    have := isint_any A1 n1 c1 g1 _ wx q (sm_big (by unfold wv; omega))
    rw [e1, e2] at this
    exact this

set_option maxRecDepth 100000 in
set_option maxHeartbeats 4000000 in
theorem frm_bad (h l n u v x : Int) (f : Bool) (w : World) (C : FmC h l n u v x 0 1 false f) :
    Calls Try.prog 3 #[.agg #[.int .i64 h, .int .i64 l], .int .i64 n] w fun e w' => e = .returned (.bool true) ∧ Below w.heap.size w w' := by
  have HC := Lib.hid C
  clear C
  have T := Lib.hid (One.new w (.int .i64 h) (.int .i64 l) 23)
  go_enter Try.func3, Try.ntmps3
  go_wp2_with fail
  refine (awake_any _).mono ?_
  rintro e w1 ⟨rfl, hb⟩
  have T := Lib.hid (T.out.keep hb)
  clear hb
  obtain ⟨⟨i0, i1, _, _, _⟩, _⟩ := id T.out
  go_wp2_with fail
  refine (HC.out.r _).mono ?_
  rintro e w2 ⟨rfl, hb⟩
  have T := Lib.hid (T.out.keep hb)
  clear hb i0 i1
  obtain ⟨⟨i0, i1, _, _, _⟩, _⟩ := id T.out
  go_wp2_with fail
  refine (HC.out.p _).mono ?_
  rintro e w3 ⟨rfl, hb⟩
  have T := Lib.hid (T.out.keep hb)
  clear hb i0 i1
  obtain ⟨⟨i0, i1, _, _, _⟩, _⟩ := id T.out
  go_wp2_with fail
  refine (HC.out.i _).mono ?_
  rintro e w4 ⟨A4, n4, c4, g4, rfl, hz, hf, hb⟩
  have T := Lib.hid (T.out.keep hb)
  have Z := Lib.hid hz
  clear hb hz hf i0 i1
  go_wp2_with fail
  refine (HC.out.t _ _ _ _ _ Z.out).mono ?_
  rintro e w5 ⟨rfl, hb⟩
  have T := Lib.hid (T.out.keep hb)
  clear hb Z
  have T := Lib.hid (T.out.alloc (.cells #[.int .i64 u, .int .i64 v] 23)).drew
  have N := Lib.hid (Bl2.new w5 (.int .i64 u) (.int .i64 v) 23).drew
  go_wp2_with fail
  go_region_held3 (fun w' => w'.cell? ⟨w5.heap.size, 0, none⟩ = some (.int .i64 u) ∧ w'.cell? ⟨w5.heap.size, 1, none⟩ = some (.int .i64 v)) (go_keep)
    (first | (go_at_call 17; refine (HC.out.o _).mono ?_; rintro e w6 ⟨rfl, hb⟩; have T := Lib.hid (T.out.keep hb); obtain ⟨k0, k1, _, _, _⟩ := N.out.keep hb; obtain ⟨⟨i0, i1, _, _, _⟩, _⟩ := id T.out; clear hb N))
  go_wp2_with fail
  refine (HC.out.g _).mono ?_
  rintro e w7 ⟨rfl, hb⟩
  have T := Lib.hid (T.out.keep hb)
  clear hb i0 i1
  obtain ⟨⟨i0, i1, _, _, _⟩, _⟩ := id T.out
  go_wp2_with fail
  go_ret
  exact ⟨rfl, T.out.bel⟩
set_option maxRecDepth 100000 in
set_option maxHeartbeats 4000000 in
theorem frm_big (h l n u v x : Int) (w : World) (C : FmC h l n u v x 0 5 true false) :
    Calls Try.prog 3 #[.agg #[.int .i64 h, .int .i64 l], .int .i64 n] w fun e w' => e = .returned (.bool true) ∧ Below w.heap.size w w' := by
  have HC := Lib.hid C
  clear C
  have T := Lib.hid (One.new w (.int .i64 h) (.int .i64 l) 23)
  go_enter Try.func3, Try.ntmps3
  go_wp2_with fail
  refine (awake_any _).mono ?_
  rintro e w1 ⟨rfl, hb⟩
  have T := Lib.hid (T.out.keep hb)
  clear hb
  obtain ⟨⟨i0, i1, _, _, _⟩, _⟩ := id T.out
  go_wp2_with fail
  refine (HC.out.r _).mono ?_
  rintro e w2 ⟨rfl, hb⟩
  have T := Lib.hid (T.out.keep hb)
  clear hb i0 i1
  obtain ⟨⟨i0, i1, _, _, _⟩, _⟩ := id T.out
  go_wp2_with fail
  refine (HC.out.p _).mono ?_
  rintro e w3 ⟨rfl, hb⟩
  have T := Lib.hid (T.out.keep hb)
  clear hb i0 i1
  obtain ⟨⟨i0, i1, _, _, _⟩, _⟩ := id T.out
  go_wp2_with fail
  refine (HC.out.i _).mono ?_
  rintro e w4 ⟨A4, n4, c4, g4, rfl, hz, hf, hb⟩
  have T := Lib.hid (T.out.keep hb)
  have Z := Lib.hid hz
  clear hb hz hf i0 i1
  go_wp2_with fail
  refine (HC.out.t _ _ _ _ _ Z.out).mono ?_
  rintro e w5 ⟨rfl, hb⟩
  have T := Lib.hid (T.out.keep hb)
  clear hb Z
  have T := Lib.hid (T.out.alloc (.cells #[.int .i64 u, .int .i64 v] 23)).drew
  have N := Lib.hid (Bl2.new w5 (.int .i64 u) (.int .i64 v) 23).drew
  go_wp2_with fail
  go_region_held3 (fun w' => w'.cell? ⟨w5.heap.size, 0, none⟩ = some (.int .i64 u) ∧ w'.cell? ⟨w5.heap.size, 1, none⟩ = some (.int .i64 v)) (go_keep)
    (first | (go_at_call 17; refine (HC.out.o _).mono ?_; rintro e w6 ⟨rfl, hb⟩; have T := Lib.hid (T.out.keep hb); obtain ⟨k0, k1, _, _, _⟩ := N.out.keep hb; obtain ⟨⟨i0, i1, _, _, _⟩, _⟩ := id T.out; clear hb N))
  go_wp2_with fail
  refine (HC.out.g _).mono ?_
  rintro e w7 ⟨rfl, hb⟩
  have T := Lib.hid (T.out.keep hb)
  clear hb i0 i1
  obtain ⟨⟨i0, i1, _, _, _⟩, _⟩ := id T.out
  go_wp2_with fail
  refine (HC.out.w _).mono ?_
  rintro e w8 ⟨A8, n8, c8, g8, rfl, hz, hf, hb⟩
  have T := Lib.hid (T.out.keep hb)
  have Z := Lib.hid hz
  clear hb hz hf i0 i1
  go_wp2_with fail
  refine (HC.out.j _ _ _ _ _ rfl Z.out).mono ?_
  rintro e w9 ⟨rfl, hb⟩
  have T := Lib.hid (T.out.keep hb)
  clear hb Z
  go_wp2_with fail
  go_ret
  exact ⟨rfl, T.out.bel⟩
set_option maxRecDepth 100000 in
set_option maxHeartbeats 4000000 in
theorem frm_ok (h l n u v x k : Int) (w : World) (C : FmC h l n u v x k 0 true true) :
    Calls Try.prog 3 #[.agg #[.int .i64 h, .int .i64 l], .int .i64 n] w fun e w' => e = .returned (.bool true) ∧ Below w.heap.size w w' := by
  have HC := Lib.hid C
  clear C
  have T := Lib.hid (One.new w (.int .i64 h) (.int .i64 l) 23)
  go_enter Try.func3, Try.ntmps3
  go_wp2_with fail
  refine (awake_any _).mono ?_
  rintro e w1 ⟨rfl, hb⟩
  have T := Lib.hid (T.out.keep hb)
  clear hb
  obtain ⟨⟨i0, i1, _, _, _⟩, _⟩ := id T.out
  go_wp2_with fail
  refine (HC.out.r _).mono ?_
  rintro e w2 ⟨rfl, hb⟩
  have T := Lib.hid (T.out.keep hb)
  clear hb i0 i1
  obtain ⟨⟨i0, i1, _, _, _⟩, _⟩ := id T.out
  go_wp2_with fail
  refine (HC.out.p _).mono ?_
  rintro e w3 ⟨rfl, hb⟩
  have T := Lib.hid (T.out.keep hb)
  clear hb i0 i1
  obtain ⟨⟨i0, i1, _, _, _⟩, _⟩ := id T.out
  go_wp2_with fail
  refine (HC.out.i _).mono ?_
  rintro e w4 ⟨A4, n4, c4, g4, rfl, hz, hf, hb⟩
  have T := Lib.hid (T.out.keep hb)
  have Z := Lib.hid hz
  clear hb hz hf i0 i1
  go_wp2_with fail
  refine (HC.out.t _ _ _ _ _ Z.out).mono ?_
  rintro e w5 ⟨rfl, hb⟩
  have T := Lib.hid (T.out.keep hb)
  clear hb Z
  have T := Lib.hid (T.out.alloc (.cells #[.int .i64 u, .int .i64 v] 23)).drew
  have N := Lib.hid (Bl2.new w5 (.int .i64 u) (.int .i64 v) 23).drew
  go_wp2_with fail
  go_region_held3 (fun w' => w'.cell? ⟨w5.heap.size, 0, none⟩ = some (.int .i64 u) ∧ w'.cell? ⟨w5.heap.size, 1, none⟩ = some (.int .i64 v)) (go_keep)
    (first | (go_at_call 17; refine (HC.out.o _).mono ?_; rintro e w6 ⟨rfl, hb⟩; have T := Lib.hid (T.out.keep hb); obtain ⟨k0, k1, _, _, _⟩ := N.out.keep hb; obtain ⟨⟨i0, i1, _, _, _⟩, _⟩ := id T.out; clear hb N))
  go_wp2_with fail
  refine (HC.out.g _).mono ?_
  rintro e w7 ⟨rfl, hb⟩
  have T := Lib.hid (T.out.keep hb)
  clear hb i0 i1
  obtain ⟨⟨i0, i1, _, _, _⟩, _⟩ := id T.out
  go_wp2_with fail
  refine (HC.out.w _).mono ?_
  rintro e w8 ⟨A8, n8, c8, g8, rfl, hz, hf, hb⟩
  have T := Lib.hid (T.out.keep hb)
  have Z := Lib.hid hz
  clear hb hz hf i0 i1
  go_wp2_with fail
  refine (HC.out.j _ _ _ _ _ rfl Z.out).mono ?_
  rintro e w9 ⟨rfl, hb⟩
  have T := Lib.hid (T.out.keep hb)
  clear hb Z
  go_wp2_with fail
  go_ret
  exact ⟨rfl, T.out.bel⟩

theorem frm_any (h l n : Int) (w : World) (n1 : -9223372036854775808 ≤ n) (n2 : n ≤ 9223372036854775807) (h1 : -9223372036854775808 ≤ h) (h2 : h ≤ 9223372036854775807) (l1 : -9223372036854775808 ≤ l) (l2 : l ≤ 9223372036854775807) :
    Calls Try.prog 3 #[.agg #[.int .i64 h, .int .i64 l], .int .i64 n] w fun e w' => e = .returned (.bool true) ∧ Below w.heap.size w w' := by
  cases hk : wok h l
  · exact frm_bad h l n _ _ _ false w (fmC h l n 0 1 false false hk h1 h2 l1 l2 n1 n2 (fun wx => int_bad h l wx hk) (fun e => by cases e))
  · cases hi : isI (wv h l)
    · exact frm_big h l n _ _ _ w (fmC h l n 0 5 true false hk h1 h2 l1 l2 n1 n2 (fun wx => int_big h l wx hk hi) (fun _ => ⟨by unfold iV; rw [hi]; rfl, hi⟩))
    · exact frm_ok h l n _ _ _ (wv h l) w (fmC h l n (wv h l) 0 true true hk h1 h2 l1 l2 n1 n2 (fun wx => int_ok h l wx hk hi) (fun _ => ⟨by unfold iV; rw [hi]; rfl, hi⟩))
end Go.Proofs.Ytpneahdbiikonaa
