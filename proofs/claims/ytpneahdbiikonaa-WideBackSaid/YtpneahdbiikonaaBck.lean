/- WideBack: the walks of the law. -/
import Derived.Test.YtpneahdbiikonaaAwk
namespace Go.Proofs.Ytpneahdbiikonaa
open Go.RowKit
set_option linter.unusedVariables false

theorem int_of (n : Int) (w : World) (l1 : -9223372036854775808 ≤ n) (l2 : n ≤ 9223372036854775807) :
    Calls Try.prog 18 #[.agg #[.int .i64 (wh n), .int .i64 (wl n)]] w fun e w' => e = .returned (.tuple #[.int .i64 n, .int .i64 0]) ∧ Below w.heap.size w w' := by
  have hf : wfit n = true := by rw [wfit_iff]; unfold wh; omega
  have := int_ok (wh n) (wl n) w (by rw [wok_parts]; exact hf) (by rw [wv_parts, isI_iff]; exact ⟨l1, l2⟩)
  rw [wv_parts] at this
  exact this
theorem valid_of (n : Int) (w : World) (l1 : -9223372036854775808 ≤ n) (l2 : n ≤ 9223372036854775807) :
    Calls Try.prog 14 #[.agg #[.int .i64 (wh n), .int .i64 (wl n)]] w fun e w' => e = .returned (.bool true) ∧ Below w.heap.size w w' := by
  have hf : wfit n = true := by rw [wfit_iff]; unfold wh; omega
  exact valid_is _ _ true (by rw [wok_parts]; exact hf) w

/-- what the law asks of n alone -/
structure BkN (n x y : Int) : Prop where
  c1 : ∀ wx, Calls Try.prog 17 #[.int .i64 n] wx fun e w' => e = .returned (.agg #[.int .i64 x, .int .i64 y]) ∧ Below wx.heap.size wx w'
  c2 : ∀ wx, Calls Try.prog 18 #[.agg #[.int .i64 x, .int .i64 y]] wx fun e w' => e = .returned (.tuple #[.int .i64 n, .int .i64 0]) ∧ Below wx.heap.size wx w'
  c3 : ∀ wx, Calls Try.prog 14 #[.agg #[.int .i64 x, .int .i64 y]] wx fun e w' => e = .returned (.bool true) ∧ Below wx.heap.size wx w'
theorem bkn (n : Int) (l1 : -9223372036854775808 ≤ n) (l2 : n ≤ 9223372036854775807) : ∃ x y, BkN n x y :=
  ⟨_, _, fun wx => of_any n wx l1 l2, fun wx => int_of n wx l1 l2, fun wx => valid_of n wx l1 l2⟩

set_option maxRecDepth 100000 in
set_option maxHeartbeats 4000000 in
theorem back_bad1 (h l h' l' n : Int) (w : World) (l1 : -9223372036854775808 ≤ n) (l2 : n ≤ 9223372036854775807) (hk : wok h l = false) :
    Calls Try.prog 8 #[.agg #[.int .i64 h, .int .i64 l], .agg #[.int .i64 h', .int .i64 l'], .int .i64 n] w fun e w' => e = .returned (.bool true) ∧ Below w.heap.size w w' := by
  have C1 := Lib.hid (fun (wx : World) => valid_is h l false hk wx)
  clear hk
  obtain ⟨u, v, hn⟩ := bkn n l1 l2
  have N := Lib.hid hn
  clear hn l1 l2
  go_enter Try.func8, Try.ntmps8
  go_wp2_with fail
  refine (awake_any _).mono ?_
  rintro e w1 ⟨rfl, hb1⟩
  obtain ⟨A, B⟩ := At2.two w (.int .i64 h) (.int .i64 l) (.int .i64 h') (.int .i64 l') 23 23
  have A := A.keep hb1
  have B := B.keep hb1
  have HB := Lib.hid (bstep (below2 w _ _) hb1)
  clear hb1
  go_wp2_with fail
  refine (N.out.c1 _).mono ?_
  rintro e w2 ⟨rfl, hb1⟩
  have A := A.keep hb1
  have B := B.keep hb1
  have HB := Lib.hid (bstep HB.out hb1)
  clear hb1
  go_wp2_with fail
  refine (N.out.c2 _).mono ?_
  rintro e w3 ⟨rfl, hb1⟩
  have A := A.keep hb1
  have B := B.keep hb1
  have HB := Lib.hid (bstep HB.out hb1)
  clear hb1
  go_wp2_with fail
  refine (N.out.c1 _).mono ?_
  rintro e w4 ⟨rfl, hb1⟩
  have A := A.keep hb1
  have B := B.keep hb1
  have HB := Lib.hid (bstep HB.out hb1)
  clear hb1
  go_wp2_with fail
  refine (N.out.c3 _).mono ?_
  rintro e w5 ⟨rfl, hb1⟩
  have A := A.keep hb1
  have B := B.keep hb1
  have HB := Lib.hid (bstep HB.out hb1)
  clear hb1
  obtain ⟨Ac0, Ac1, _, _, _⟩ := id A
  go_wp2_with fail
  refine (C1.out _).mono ?_
  rintro e w6 ⟨rfl, hb1⟩
  have A := A.keep hb1
  have B := B.keep hb1
  have HB := Lib.hid (bstep HB.out hb1)
  clear hb1
  clear Ac0 Ac1
  go_wp2_with fail
  go_ret
  exact ⟨rfl, HB.out⟩

set_option maxRecDepth 100000 in
set_option maxHeartbeats 4000000 in
theorem back_bad2 (h l h' l' n : Int) (w : World) (l1 : -9223372036854775808 ≤ n) (l2 : n ≤ 9223372036854775807) (hk : wok h l = true) (hk' : wok h' l' = false) :
    Calls Try.prog 8 #[.agg #[.int .i64 h, .int .i64 l], .agg #[.int .i64 h', .int .i64 l'], .int .i64 n] w fun e w' => e = .returned (.bool true) ∧ Below w.heap.size w w' := by
  have C1 := Lib.hid (fun (wx : World) => valid_is h l true hk wx)
  have C2 := Lib.hid (fun (wx : World) => valid_is h' l' false hk' wx)
  clear hk hk'
  obtain ⟨u, v, hn⟩ := bkn n l1 l2
  have N := Lib.hid hn
  clear hn l1 l2
  go_enter Try.func8, Try.ntmps8
  go_wp2_with fail
  refine (awake_any _).mono ?_
  rintro e w1 ⟨rfl, hb1⟩
  obtain ⟨A, B⟩ := At2.two w (.int .i64 h) (.int .i64 l) (.int .i64 h') (.int .i64 l') 23 23
  have A := A.keep hb1
  have B := B.keep hb1
  have HB := Lib.hid (bstep (below2 w _ _) hb1)
  clear hb1
  go_wp2_with fail
  refine (N.out.c1 _).mono ?_
  rintro e w2 ⟨rfl, hb1⟩
  have A := A.keep hb1
  have B := B.keep hb1
  have HB := Lib.hid (bstep HB.out hb1)
  clear hb1
  go_wp2_with fail
  refine (N.out.c2 _).mono ?_
  rintro e w3 ⟨rfl, hb1⟩
  have A := A.keep hb1
  have B := B.keep hb1
  have HB := Lib.hid (bstep HB.out hb1)
  clear hb1
  go_wp2_with fail
  refine (N.out.c1 _).mono ?_
  rintro e w4 ⟨rfl, hb1⟩
  have A := A.keep hb1
  have B := B.keep hb1
  have HB := Lib.hid (bstep HB.out hb1)
  clear hb1
  go_wp2_with fail
  refine (N.out.c3 _).mono ?_
  rintro e w5 ⟨rfl, hb1⟩
  have A := A.keep hb1
  have B := B.keep hb1
  have HB := Lib.hid (bstep HB.out hb1)
  clear hb1
  obtain ⟨Ac0, Ac1, _, _, _⟩ := id A
  go_wp2_with fail
  refine (C1.out _).mono ?_
  rintro e w6 ⟨rfl, hb1⟩
  have A := A.keep hb1
  have B := B.keep hb1
  have HB := Lib.hid (bstep HB.out hb1)
  clear hb1
  clear Ac0 Ac1
  obtain ⟨Bc0, Bc1, _, _, _⟩ := id B
  go_wp2_with fail
  refine (C2.out _).mono ?_
  rintro e w7 ⟨rfl, hb1⟩
  have A := A.keep hb1
  have B := B.keep hb1
  have HB := Lib.hid (bstep HB.out hb1)
  clear hb1
  clear Bc0 Bc1
  go_wp2_with fail
  go_ret
  exact ⟨rfl, HB.out⟩

/-- what the law asks of two valid numbers: their order, and their sum -/
structure BkV (h l h' l' c d x y z : Int) : Prop where
  c1 : ∀ wx, Calls Try.prog 14 #[.agg #[.int .i64 h, .int .i64 l]] wx fun e w' => e = .returned (.bool true) ∧ Below wx.heap.size wx w'
  c2 : ∀ wx, Calls Try.prog 14 #[.agg #[.int .i64 h', .int .i64 l']] wx fun e w' => e = .returned (.bool true) ∧ Below wx.heap.size wx w'
  c3 : ∀ wx, Calls Try.prog 23 #[.agg #[.int .i64 h, .int .i64 l], .agg #[.int .i64 h', .int .i64 l']] wx fun e w' => e = .returned (.tuple #[.int .i64 c, .int .i64 0]) ∧ Below wx.heap.size wx w'
  c4 : ∀ wx, Calls Try.prog 23 #[.agg #[.int .i64 h', .int .i64 l'], .agg #[.int .i64 h, .int .i64 l]] wx fun e w' => e = .returned (.tuple #[.int .i64 d, .int .i64 0]) ∧ Below wx.heap.size wx w'
  c5 : ∀ wx, Calls Try.prog 21 #[.agg #[.int .i64 h, .int .i64 l], .agg #[.int .i64 h', .int .i64 l']] wx fun e w' => e = .returned (.tuple #[.agg #[.int .i64 x, .int .i64 y], .int .i64 z]) ∧ Below wx.heap.size wx w'
  c6 : ∀ wx, Calls Try.prog 21 #[.agg #[.int .i64 h', .int .i64 l'], .agg #[.int .i64 h, .int .i64 l]] wx fun e w' => e = .returned (.tuple #[.agg #[.int .i64 x, .int .i64 y], .int .i64 z]) ∧ Below wx.heap.size wx w'
/-- behind a sum that fits -/
structure BkS (h l h' l' x y k : Int) : Prop where
  c1 : ∀ wx, Calls Try.prog 22 #[.agg #[.int .i64 x, .int .i64 y], .agg #[.int .i64 h', .int .i64 l']] wx fun e w' => e = .returned (.tuple #[.agg #[.int .i64 h, .int .i64 l], .int .i64 0]) ∧ Below wx.heap.size wx w'
  c2 : ∀ wx, Calls Try.prog 23 #[.agg #[.int .i64 x, .int .i64 y], .agg #[.int .i64 h, .int .i64 l]] wx fun e w' => e = .returned (.tuple #[.int .i64 k, .int .i64 0]) ∧ Below wx.heap.size wx w'
  c3 : ∀ wx, Calls Try.prog 23 #[.agg #[.int .i64 h', .int .i64 l'], .agg #[.int .i64 0, .int .i64 0]] wx fun e w' => e = .returned (.tuple #[.int .i64 k, .int .i64 0]) ∧ Below wx.heap.size wx w'

theorem bkv (h l h' l' : Int) (hk : wok h l = true) (hk' : wok h' l' = true) : BkV h l h' l' (wcmp h l h' l') (wcmp h' l' h l) (fitH (wv h l + wv h' l')) (fitL (wv h l + wv h' l')) (fitE (wv h l + wv h' l')) := by
  refine ⟨fun wx => valid_is h l true hk wx, fun wx => valid_is h' l' true hk' wx, fun wx => cmp_ok h l h' l' wx hk hk', fun wx => cmp_ok h' l' h l wx hk' hk, fun wx => add_ok h l h' l' wx hk hk', fun wx => ?_⟩
  have := add_ok h' l' h l wx hk' hk
  rw [Int.add_comm (wv h' l')] at this
  exact this
theorem bks (h l h' l' : Int) (hk : wok h l = true) (hk' : wok h' l' = true) (hf : wfit (wv h l + wv h' l') = true) :
    BkS h l h' l' (wh (wv h l + wv h' l')) (wl (wv h l + wv h' l')) (sgn (wv h' l')) := by
  have hs : wok (wh (wv h l + wv h' l')) (wl (wv h l + wv h' l')) = true := by rw [wok_parts]; exact hf
  refine ⟨fun wx => ?_, fun wx => ?_, fun wx => ?_⟩
  · have := sub_ok (wh (wv h l + wv h' l')) (wl (wv h l + wv h' l')) h' l' wx hs hk'
    have e : wv (wh (wv h l + wv h' l')) (wl (wv h l + wv h' l')) - wv h' l' = wv h l := by rw [wv_parts]; omega
    have hf2 := fit_wv h l hk
    have hp := parts_wv h l hk
    rw [e, show fitH (wv h l) = h by unfold fitH; rw [if_pos hf2]; exact hp.1, show fitL (wv h l) = l by unfold fitL; rw [if_pos hf2]; exact hp.2, show fitE (wv h l) = 0 by unfold fitE; rw [if_pos hf2]] at this
    exact this
  · have := cmp_ok (wh (wv h l + wv h' l')) (wl (wv h l + wv h' l')) h l wx hs hk
    rw [wcmp_sgn _ _ _ _ hs hk, wv_parts, show wv h l + wv h' l' - wv h l = wv h' l' by omega] at this
    exact this
  · have := cmp_ok h' l' 0 0 wx hk' (by decide)
    rw [wcmp_sgn _ _ _ _ hk' (by decide), show wv h' l' - wv 0 0 = wv h' l' by unfold wv; omega] at this
    exact this
theorem sgn_neg (a b : Int) : sgn (a - b) = -sgn (b - a) := by
  unfold sgn
  by_cases h1 : a < b
  · rw [if_pos (show a - b < 0 by omega), if_neg (show ¬ b - a < 0 by omega), if_pos (show 0 < b - a by omega)]
  · by_cases h2 : b < a
    · rw [if_neg (show ¬ a - b < 0 by omega), if_pos (show 0 < a - b by omega), if_pos (show b - a < 0 by omega)]; rfl
    · rw [if_neg (show ¬ a - b < 0 by omega), if_neg (show ¬ 0 < a - b by omega), if_neg (show ¬ b - a < 0 by omega), if_neg (show ¬ 0 < b - a by omega)]; rfl

set_option maxRecDepth 100000 in
set_option maxHeartbeats 4000000 in
theorem back_eqf (h l n x y k : Int) (w : World) (l1 : -9223372036854775808 ≤ n) (l2 : n ≤ 9223372036854775807) (hv : BkV h l h l 0 0 x y 0) (hu : BkS h l h l x y k) :
    Calls Try.prog 8 #[.agg #[.int .i64 h, .int .i64 l], .agg #[.int .i64 h, .int .i64 l], .int .i64 n] w fun e w' => e = .returned (.bool true) ∧ Below w.heap.size w w' := by
  have V := Lib.hid hv
  have U := Lib.hid hu
  clear hv hu
  obtain ⟨u, v, hn⟩ := bkn n l1 l2
  have N := Lib.hid hn
  clear hn l1 l2
  go_enter Try.func8, Try.ntmps8
  go_wp2_with fail
  refine (awake_any _).mono ?_
  rintro e w1 ⟨rfl, hb1⟩
  obtain ⟨A, B⟩ := At2.two w (.int .i64 h) (.int .i64 l) (.int .i64 h) (.int .i64 l) 23 23
  have A := A.keep hb1
  have B := B.keep hb1
  have HB := Lib.hid (bstep (below2 w _ _) hb1)
  clear hb1
  go_wp2_with fail
  refine (N.out.c1 _).mono ?_
  rintro e w2 ⟨rfl, hb1⟩
  have A := A.keep hb1
  have B := B.keep hb1
  have HB := Lib.hid (bstep HB.out hb1)
  clear hb1
  go_wp2_with fail
  refine (N.out.c2 _).mono ?_
  rintro e w3 ⟨rfl, hb1⟩
  have A := A.keep hb1
  have B := B.keep hb1
  have HB := Lib.hid (bstep HB.out hb1)
  clear hb1
  go_wp2_with fail
  refine (N.out.c1 _).mono ?_
  rintro e w4 ⟨rfl, hb1⟩
  have A := A.keep hb1
  have B := B.keep hb1
  have HB := Lib.hid (bstep HB.out hb1)
  clear hb1
  go_wp2_with fail
  refine (N.out.c3 _).mono ?_
  rintro e w5 ⟨rfl, hb1⟩
  have A := A.keep hb1
  have B := B.keep hb1
  have HB := Lib.hid (bstep HB.out hb1)
  clear hb1
  obtain ⟨Ac0, Ac1, _, _, _⟩ := id A
  go_wp2_with fail
  refine (V.out.c1 _).mono ?_
  rintro e w6 ⟨rfl, hb1⟩
  have A := A.keep hb1
  have B := B.keep hb1
  have HB := Lib.hid (bstep HB.out hb1)
  clear hb1
  clear Ac0 Ac1
  obtain ⟨Bc0, Bc1, _, _, _⟩ := id B
  go_wp2_with fail
  refine (V.out.c2 _).mono ?_
  rintro e w7 ⟨rfl, hb1⟩
  have A := A.keep hb1
  have B := B.keep hb1
  have HB := Lib.hid (bstep HB.out hb1)
  clear hb1
  clear Bc0 Bc1
  obtain ⟨Ac0, Ac1, _, _, _⟩ := id A
  obtain ⟨Bc0, Bc1, _, _, _⟩ := id B
  go_wp2_with fail
  refine (V.out.c3 _).mono ?_
  rintro e w8 ⟨rfl, hb1⟩
  have A := A.keep hb1
  have B := B.keep hb1
  have HB := Lib.hid (bstep HB.out hb1)
  clear hb1
  clear Ac0 Ac1 Bc0 Bc1
  obtain ⟨Ac0, Ac1, _, _, _⟩ := id A
  obtain ⟨Bc0, Bc1, _, _, _⟩ := id B
  go_wp2_with fail
  refine (V.out.c4 _).mono ?_
  rintro e w9 ⟨rfl, hb1⟩
  have A := A.keep hb1
  have B := B.keep hb1
  have HB := Lib.hid (bstep HB.out hb1)
  clear hb1
  clear Ac0 Ac1 Bc0 Bc1
  obtain ⟨Ac0, Ac1, _, _, _⟩ := id A
  obtain ⟨Bc0, Bc1, _, _, _⟩ := id B
  go_wp2_with fail
  refine (V.out.c5 _).mono ?_
  rintro e w10 ⟨rfl, hb1⟩
  have A := A.keep hb1
  have B := B.keep hb1
  have HB := Lib.hid (bstep HB.out hb1)
  clear hb1
  clear Ac0 Ac1 Bc0 Bc1
  have A := A.alloc (.cells #[.int .i64 x, .int .i64 y] 23)
  have B := B.alloc (.cells #[.int .i64 x, .int .i64 y] 23)
  have S := At2.new w10 (.int .i64 x) (.int .i64 y) 23
  have HB := Lib.hid (bstep HB.out (below1 w10 (.cells #[.int .i64 x, .int .i64 y] 23)))
  obtain ⟨Ac0, Ac1, _, _, _⟩ := id A
  obtain ⟨Bc0, Bc1, _, _, _⟩ := id B
  go_wp2_with fail
  refine (V.out.c6 _).mono ?_
  rintro e w11 ⟨rfl, hb1⟩
  have A := A.keep hb1
  have B := B.keep hb1
  have S := S.keep hb1
  have HB := Lib.hid (bstep HB.out hb1)
  clear hb1
  clear Ac0 Ac1 Bc0 Bc1
  have A := A.alloc (.cells #[.int .i64 x, .int .i64 y] 23)
  have B := B.alloc (.cells #[.int .i64 x, .int .i64 y] 23)
  have S := S.alloc (.cells #[.int .i64 x, .int .i64 y] 23)
  have T := At2.new w11 (.int .i64 x) (.int .i64 y) 23
  have HB := Lib.hid (bstep HB.out (below1 w11 (.cells #[.int .i64 x, .int .i64 y] 23)))
  obtain ⟨Sc0, Sc1, _, _, _⟩ := id S
  obtain ⟨Tc0, Tc1, _, _, _⟩ := id T
  obtain ⟨Bc0, Bc1, _, _, _⟩ := id B
  go_wp2_with fail
  refine (U.out.c1 _).mono ?_
  rintro e w12 ⟨rfl, hb1⟩
  have A := A.keep hb1
  have B := B.keep hb1
  have S := S.keep hb1
  have HB := Lib.hid (bstep HB.out hb1)
  clear hb1
  clear Sc0 Sc1 Tc0 Tc1 Bc0 Bc1
  have A := A.alloc (.cells #[.int .i64 h, .int .i64 l] 23)
  have B := B.alloc (.cells #[.int .i64 h, .int .i64 l] 23)
  have S := S.alloc (.cells #[.int .i64 h, .int .i64 l] 23)
  have D := At2.new w12 (.int .i64 h) (.int .i64 l) 23
  have HB := Lib.hid (bstep HB.out (below1 w12 (.cells #[.int .i64 h, .int .i64 l] 23)))
  obtain ⟨Sc0, Sc1, _, _, _⟩ := id S
  obtain ⟨Ac0, Ac1, _, _, _⟩ := id A
  go_wp2_with fail
  refine (U.out.c2 _).mono ?_
  rintro e w13 ⟨rfl, hb1⟩
  have A := A.keep hb1
  have B := B.keep hb1
  have S := S.keep hb1
  have D := D.keep hb1
  have HB := Lib.hid (bstep HB.out hb1)
  clear hb1
  clear Sc0 Sc1 Ac0 Ac1
  obtain ⟨Bc0, Bc1, _, _, _⟩ := id B
  go_wp2_with fail
  refine (U.out.c3 _).mono ?_
  rintro e w14 ⟨rfl, hb1⟩
  have A := A.keep hb1
  have B := B.keep hb1
  have S := S.keep hb1
  have D := D.keep hb1
  have HB := Lib.hid (bstep HB.out hb1)
  clear hb1
  clear Bc0 Bc1
  obtain ⟨Dc0, Dc1, _, _, _⟩ := id D
  obtain ⟨Ac0, Ac1, _, _, _⟩ := id A
  go_wp2_with fail
  go_ret
  exact ⟨rfl, HB.out⟩

set_option maxRecDepth 100000 in
set_option maxHeartbeats 4000000 in
theorem back_eqb (h l n  : Int) (w : World) (l1 : -9223372036854775808 ≤ n) (l2 : n ≤ 9223372036854775807) (hv : BkV h l h l 0 0 0 0 5) :
    Calls Try.prog 8 #[.agg #[.int .i64 h, .int .i64 l], .agg #[.int .i64 h, .int .i64 l], .int .i64 n] w fun e w' => e = .returned (.bool true) ∧ Below w.heap.size w w' := by
  have V := Lib.hid hv
  clear hv
  obtain ⟨u, v, hn⟩ := bkn n l1 l2
  have N := Lib.hid hn
  clear hn l1 l2
  go_enter Try.func8, Try.ntmps8
  go_wp2_with fail
  refine (awake_any _).mono ?_
  rintro e w1 ⟨rfl, hb1⟩
  obtain ⟨A, B⟩ := At2.two w (.int .i64 h) (.int .i64 l) (.int .i64 h) (.int .i64 l) 23 23
  have A := A.keep hb1
  have B := B.keep hb1
  have HB := Lib.hid (bstep (below2 w _ _) hb1)
  clear hb1
  go_wp2_with fail
  refine (N.out.c1 _).mono ?_
  rintro e w2 ⟨rfl, hb1⟩
  have A := A.keep hb1
  have B := B.keep hb1
  have HB := Lib.hid (bstep HB.out hb1)
  clear hb1
  go_wp2_with fail
  refine (N.out.c2 _).mono ?_
  rintro e w3 ⟨rfl, hb1⟩
  have A := A.keep hb1
  have B := B.keep hb1
  have HB := Lib.hid (bstep HB.out hb1)
  clear hb1
  go_wp2_with fail
  refine (N.out.c1 _).mono ?_
  rintro e w4 ⟨rfl, hb1⟩
  have A := A.keep hb1
  have B := B.keep hb1
  have HB := Lib.hid (bstep HB.out hb1)
  clear hb1
  go_wp2_with fail
  refine (N.out.c3 _).mono ?_
  rintro e w5 ⟨rfl, hb1⟩
  have A := A.keep hb1
  have B := B.keep hb1
  have HB := Lib.hid (bstep HB.out hb1)
  clear hb1
  obtain ⟨Ac0, Ac1, _, _, _⟩ := id A
  go_wp2_with fail
  refine (V.out.c1 _).mono ?_
  rintro e w6 ⟨rfl, hb1⟩
  have A := A.keep hb1
  have B := B.keep hb1
  have HB := Lib.hid (bstep HB.out hb1)
  clear hb1
  clear Ac0 Ac1
  obtain ⟨Bc0, Bc1, _, _, _⟩ := id B
  go_wp2_with fail
  refine (V.out.c2 _).mono ?_
  rintro e w7 ⟨rfl, hb1⟩
  have A := A.keep hb1
  have B := B.keep hb1
  have HB := Lib.hid (bstep HB.out hb1)
  clear hb1
  clear Bc0 Bc1
  obtain ⟨Ac0, Ac1, _, _, _⟩ := id A
  obtain ⟨Bc0, Bc1, _, _, _⟩ := id B
  go_wp2_with fail
  refine (V.out.c3 _).mono ?_
  rintro e w8 ⟨rfl, hb1⟩
  have A := A.keep hb1
  have B := B.keep hb1
  have HB := Lib.hid (bstep HB.out hb1)
  clear hb1
  clear Ac0 Ac1 Bc0 Bc1
  obtain ⟨Ac0, Ac1, _, _, _⟩ := id A
  obtain ⟨Bc0, Bc1, _, _, _⟩ := id B
  go_wp2_with fail
  refine (V.out.c4 _).mono ?_
  rintro e w9 ⟨rfl, hb1⟩
  have A := A.keep hb1
  have B := B.keep hb1
  have HB := Lib.hid (bstep HB.out hb1)
  clear hb1
  clear Ac0 Ac1 Bc0 Bc1
  obtain ⟨Ac0, Ac1, _, _, _⟩ := id A
  obtain ⟨Bc0, Bc1, _, _, _⟩ := id B
  go_wp2_with fail
  refine (V.out.c5 _).mono ?_
  rintro e w10 ⟨rfl, hb1⟩
  have A := A.keep hb1
  have B := B.keep hb1
  have HB := Lib.hid (bstep HB.out hb1)
  clear hb1
  clear Ac0 Ac1 Bc0 Bc1
  have A := A.alloc (.cells #[.int .i64 0, .int .i64 0] 23)
  have B := B.alloc (.cells #[.int .i64 0, .int .i64 0] 23)
  have S := At2.new w10 (.int .i64 0) (.int .i64 0) 23
  have HB := Lib.hid (bstep HB.out (below1 w10 (.cells #[.int .i64 0, .int .i64 0] 23)))
  obtain ⟨Ac0, Ac1, _, _, _⟩ := id A
  obtain ⟨Bc0, Bc1, _, _, _⟩ := id B
  go_wp2_with fail
  refine (V.out.c6 _).mono ?_
  rintro e w11 ⟨rfl, hb1⟩
  have A := A.keep hb1
  have B := B.keep hb1
  have S := S.keep hb1
  have HB := Lib.hid (bstep HB.out hb1)
  clear hb1
  clear Ac0 Ac1 Bc0 Bc1
  have A := A.alloc (.cells #[.int .i64 0, .int .i64 0] 23)
  have B := B.alloc (.cells #[.int .i64 0, .int .i64 0] 23)
  have S := S.alloc (.cells #[.int .i64 0, .int .i64 0] 23)
  have T := At2.new w11 (.int .i64 0) (.int .i64 0) 23
  have HB := Lib.hid (bstep HB.out (below1 w11 (.cells #[.int .i64 0, .int .i64 0] 23)))
  obtain ⟨Sc0, Sc1, _, _, _⟩ := id S
  obtain ⟨Tc0, Tc1, _, _, _⟩ := id T
  go_wp2_with fail
  go_ret
  exact ⟨rfl, HB.out⟩

set_option maxRecDepth 100000 in
set_option maxHeartbeats 4000000 in
theorem back_hf (h l h' l' n c d x y k : Int) (w : World) (l1 : -9223372036854775808 ≤ n) (l2 : n ≤ 9223372036854775807) (hv : BkV h l h' l' c d x y 0) (hu : BkS h l h' l' x y k) (hc0 : (c == 0) = false) (hcd : (c != -d) = false) (d1 : -1 ≤ d) (d2 : d ≤ 1) (t1 : (h == h') = false) :
    Calls Try.prog 8 #[.agg #[.int .i64 h, .int .i64 l], .agg #[.int .i64 h', .int .i64 l'], .int .i64 n] w fun e w' => e = .returned (.bool true) ∧ Below w.heap.size w w' := by
  have V := Lib.hid hv
  have U := Lib.hid hu
  clear hv hu
  obtain ⟨u, v, hn⟩ := bkn n l1 l2
  have N := Lib.hid hn
  clear hn l1 l2
  go_enter Try.func8, Try.ntmps8
  go_wp2_with fail
  refine (awake_any _).mono ?_
  rintro e w1 ⟨rfl, hb1⟩
  obtain ⟨A, B⟩ := At2.two w (.int .i64 h) (.int .i64 l) (.int .i64 h') (.int .i64 l') 23 23
  have A := A.keep hb1
  have B := B.keep hb1
  have HB := Lib.hid (bstep (below2 w _ _) hb1)
  clear hb1
  go_wp2_with fail
  refine (N.out.c1 _).mono ?_
  rintro e w2 ⟨rfl, hb1⟩
  have A := A.keep hb1
  have B := B.keep hb1
  have HB := Lib.hid (bstep HB.out hb1)
  clear hb1
  go_wp2_with fail
  refine (N.out.c2 _).mono ?_
  rintro e w3 ⟨rfl, hb1⟩
  have A := A.keep hb1
  have B := B.keep hb1
  have HB := Lib.hid (bstep HB.out hb1)
  clear hb1
  go_wp2_with fail
  refine (N.out.c1 _).mono ?_
  rintro e w4 ⟨rfl, hb1⟩
  have A := A.keep hb1
  have B := B.keep hb1
  have HB := Lib.hid (bstep HB.out hb1)
  clear hb1
  go_wp2_with fail
  refine (N.out.c3 _).mono ?_
  rintro e w5 ⟨rfl, hb1⟩
  have A := A.keep hb1
  have B := B.keep hb1
  have HB := Lib.hid (bstep HB.out hb1)
  clear hb1
  obtain ⟨Ac0, Ac1, _, _, _⟩ := id A
  go_wp2_with fail
  refine (V.out.c1 _).mono ?_
  rintro e w6 ⟨rfl, hb1⟩
  have A := A.keep hb1
  have B := B.keep hb1
  have HB := Lib.hid (bstep HB.out hb1)
  clear hb1
  clear Ac0 Ac1
  obtain ⟨Bc0, Bc1, _, _, _⟩ := id B
  go_wp2_with fail
  refine (V.out.c2 _).mono ?_
  rintro e w7 ⟨rfl, hb1⟩
  have A := A.keep hb1
  have B := B.keep hb1
  have HB := Lib.hid (bstep HB.out hb1)
  clear hb1
  clear Bc0 Bc1
  obtain ⟨Ac0, Ac1, _, _, _⟩ := id A
  obtain ⟨Bc0, Bc1, _, _, _⟩ := id B
  go_wp2_with fail
  refine (V.out.c3 _).mono ?_
  rintro e w8 ⟨rfl, hb1⟩
  have A := A.keep hb1
  have B := B.keep hb1
  have HB := Lib.hid (bstep HB.out hb1)
  clear hb1
  clear Ac0 Ac1 Bc0 Bc1
  obtain ⟨Ac0, Ac1, _, _, _⟩ := id A
  obtain ⟨Bc0, Bc1, _, _, _⟩ := id B
  go_wp2_with fail
  refine (V.out.c4 _).mono ?_
  rintro e w9 ⟨rfl, hb1⟩
  have A := A.keep hb1
  have B := B.keep hb1
  have HB := Lib.hid (bstep HB.out hb1)
  clear hb1
  clear Ac0 Ac1 Bc0 Bc1
  obtain ⟨Ac0, Ac1, _, _, _⟩ := id A
  obtain ⟨Bc0, Bc1, _, _, _⟩ := id B
  go_wp2_with fail
  refine (V.out.c5 _).mono ?_
  rintro e w10 ⟨rfl, hb1⟩
  have A := A.keep hb1
  have B := B.keep hb1
  have HB := Lib.hid (bstep HB.out hb1)
  clear hb1
  clear Ac0 Ac1 Bc0 Bc1
  have A := A.alloc (.cells #[.int .i64 x, .int .i64 y] 23)
  have B := B.alloc (.cells #[.int .i64 x, .int .i64 y] 23)
  have S := At2.new w10 (.int .i64 x) (.int .i64 y) 23
  have HB := Lib.hid (bstep HB.out (below1 w10 (.cells #[.int .i64 x, .int .i64 y] 23)))
  obtain ⟨Ac0, Ac1, _, _, _⟩ := id A
  obtain ⟨Bc0, Bc1, _, _, _⟩ := id B
  go_wp2_with fail
  refine (V.out.c6 _).mono ?_
  rintro e w11 ⟨rfl, hb1⟩
  have A := A.keep hb1
  have B := B.keep hb1
  have S := S.keep hb1
  have HB := Lib.hid (bstep HB.out hb1)
  clear hb1
  clear Ac0 Ac1 Bc0 Bc1
  have A := A.alloc (.cells #[.int .i64 x, .int .i64 y] 23)
  have B := B.alloc (.cells #[.int .i64 x, .int .i64 y] 23)
  have S := S.alloc (.cells #[.int .i64 x, .int .i64 y] 23)
  have T := At2.new w11 (.int .i64 x) (.int .i64 y) 23
  have HB := Lib.hid (bstep HB.out (below1 w11 (.cells #[.int .i64 x, .int .i64 y] 23)))
  obtain ⟨Sc0, Sc1, _, _, _⟩ := id S
  obtain ⟨Tc0, Tc1, _, _, _⟩ := id T
  obtain ⟨Bc0, Bc1, _, _, _⟩ := id B
  go_wp2_with fail
  refine (U.out.c1 _).mono ?_
  rintro e w12 ⟨rfl, hb1⟩
  have A := A.keep hb1
  have B := B.keep hb1
  have S := S.keep hb1
  have HB := Lib.hid (bstep HB.out hb1)
  clear hb1
  clear Sc0 Sc1 Tc0 Tc1 Bc0 Bc1
  have A := A.alloc (.cells #[.int .i64 h, .int .i64 l] 23)
  have B := B.alloc (.cells #[.int .i64 h, .int .i64 l] 23)
  have S := S.alloc (.cells #[.int .i64 h, .int .i64 l] 23)
  have D := At2.new w12 (.int .i64 h) (.int .i64 l) 23
  have HB := Lib.hid (bstep HB.out (below1 w12 (.cells #[.int .i64 h, .int .i64 l] 23)))
  obtain ⟨Sc0, Sc1, _, _, _⟩ := id S
  obtain ⟨Ac0, Ac1, _, _, _⟩ := id A
  go_wp2_with fail
  refine (U.out.c2 _).mono ?_
  rintro e w13 ⟨rfl, hb1⟩
  have A := A.keep hb1
  have B := B.keep hb1
  have S := S.keep hb1
  have D := D.keep hb1
  have HB := Lib.hid (bstep HB.out hb1)
  clear hb1
  clear Sc0 Sc1 Ac0 Ac1
  obtain ⟨Bc0, Bc1, _, _, _⟩ := id B
  go_wp2_with fail
  refine (U.out.c3 _).mono ?_
  rintro e w14 ⟨rfl, hb1⟩
  have A := A.keep hb1
  have B := B.keep hb1
  have S := S.keep hb1
  have D := D.keep hb1
  have HB := Lib.hid (bstep HB.out hb1)
  clear hb1
  clear Bc0 Bc1
  obtain ⟨Dc0, Dc1, _, _, _⟩ := id D
  obtain ⟨Ac0, Ac1, _, _, _⟩ := id A
  go_wp2_with fail
  go_ret
  exact ⟨rfl, HB.out⟩

set_option maxRecDepth 100000 in
set_option maxHeartbeats 4000000 in
theorem back_hb (h l h' l' n c d  : Int) (w : World) (l1 : -9223372036854775808 ≤ n) (l2 : n ≤ 9223372036854775807) (hv : BkV h l h' l' c d 0 0 5) (hc0 : (c == 0) = false) (hcd : (c != -d) = false) (d1 : -1 ≤ d) (d2 : d ≤ 1) (t1 : (h == h') = false) :
    Calls Try.prog 8 #[.agg #[.int .i64 h, .int .i64 l], .agg #[.int .i64 h', .int .i64 l'], .int .i64 n] w fun e w' => e = .returned (.bool true) ∧ Below w.heap.size w w' := by
  have V := Lib.hid hv
  clear hv
  obtain ⟨u, v, hn⟩ := bkn n l1 l2
  have N := Lib.hid hn
  clear hn l1 l2
  go_enter Try.func8, Try.ntmps8
  go_wp2_with fail
  refine (awake_any _).mono ?_
  rintro e w1 ⟨rfl, hb1⟩
  obtain ⟨A, B⟩ := At2.two w (.int .i64 h) (.int .i64 l) (.int .i64 h') (.int .i64 l') 23 23
  have A := A.keep hb1
  have B := B.keep hb1
  have HB := Lib.hid (bstep (below2 w _ _) hb1)
  clear hb1
  go_wp2_with fail
  refine (N.out.c1 _).mono ?_
  rintro e w2 ⟨rfl, hb1⟩
  have A := A.keep hb1
  have B := B.keep hb1
  have HB := Lib.hid (bstep HB.out hb1)
  clear hb1
  go_wp2_with fail
  refine (N.out.c2 _).mono ?_
  rintro e w3 ⟨rfl, hb1⟩
  have A := A.keep hb1
  have B := B.keep hb1
  have HB := Lib.hid (bstep HB.out hb1)
  clear hb1
  go_wp2_with fail
  refine (N.out.c1 _).mono ?_
  rintro e w4 ⟨rfl, hb1⟩
  have A := A.keep hb1
  have B := B.keep hb1
  have HB := Lib.hid (bstep HB.out hb1)
  clear hb1
  go_wp2_with fail
  refine (N.out.c3 _).mono ?_
  rintro e w5 ⟨rfl, hb1⟩
  have A := A.keep hb1
  have B := B.keep hb1
  have HB := Lib.hid (bstep HB.out hb1)
  clear hb1
  obtain ⟨Ac0, Ac1, _, _, _⟩ := id A
  go_wp2_with fail
  refine (V.out.c1 _).mono ?_
  rintro e w6 ⟨rfl, hb1⟩
  have A := A.keep hb1
  have B := B.keep hb1
  have HB := Lib.hid (bstep HB.out hb1)
  clear hb1
  clear Ac0 Ac1
  obtain ⟨Bc0, Bc1, _, _, _⟩ := id B
  go_wp2_with fail
  refine (V.out.c2 _).mono ?_
  rintro e w7 ⟨rfl, hb1⟩
  have A := A.keep hb1
  have B := B.keep hb1
  have HB := Lib.hid (bstep HB.out hb1)
  clear hb1
  clear Bc0 Bc1
  obtain ⟨Ac0, Ac1, _, _, _⟩ := id A
  obtain ⟨Bc0, Bc1, _, _, _⟩ := id B
  go_wp2_with fail
  refine (V.out.c3 _).mono ?_
  rintro e w8 ⟨rfl, hb1⟩
  have A := A.keep hb1
  have B := B.keep hb1
  have HB := Lib.hid (bstep HB.out hb1)
  clear hb1
  clear Ac0 Ac1 Bc0 Bc1
  obtain ⟨Ac0, Ac1, _, _, _⟩ := id A
  obtain ⟨Bc0, Bc1, _, _, _⟩ := id B
  go_wp2_with fail
  refine (V.out.c4 _).mono ?_
  rintro e w9 ⟨rfl, hb1⟩
  have A := A.keep hb1
  have B := B.keep hb1
  have HB := Lib.hid (bstep HB.out hb1)
  clear hb1
  clear Ac0 Ac1 Bc0 Bc1
  obtain ⟨Ac0, Ac1, _, _, _⟩ := id A
  obtain ⟨Bc0, Bc1, _, _, _⟩ := id B
  go_wp2_with fail
  refine (V.out.c5 _).mono ?_
  rintro e w10 ⟨rfl, hb1⟩
  have A := A.keep hb1
  have B := B.keep hb1
  have HB := Lib.hid (bstep HB.out hb1)
  clear hb1
  clear Ac0 Ac1 Bc0 Bc1
  have A := A.alloc (.cells #[.int .i64 0, .int .i64 0] 23)
  have B := B.alloc (.cells #[.int .i64 0, .int .i64 0] 23)
  have S := At2.new w10 (.int .i64 0) (.int .i64 0) 23
  have HB := Lib.hid (bstep HB.out (below1 w10 (.cells #[.int .i64 0, .int .i64 0] 23)))
  obtain ⟨Ac0, Ac1, _, _, _⟩ := id A
  obtain ⟨Bc0, Bc1, _, _, _⟩ := id B
  go_wp2_with fail
  refine (V.out.c6 _).mono ?_
  rintro e w11 ⟨rfl, hb1⟩
  have A := A.keep hb1
  have B := B.keep hb1
  have S := S.keep hb1
  have HB := Lib.hid (bstep HB.out hb1)
  clear hb1
  clear Ac0 Ac1 Bc0 Bc1
  have A := A.alloc (.cells #[.int .i64 0, .int .i64 0] 23)
  have B := B.alloc (.cells #[.int .i64 0, .int .i64 0] 23)
  have S := S.alloc (.cells #[.int .i64 0, .int .i64 0] 23)
  have T := At2.new w11 (.int .i64 0) (.int .i64 0) 23
  have HB := Lib.hid (bstep HB.out (below1 w11 (.cells #[.int .i64 0, .int .i64 0] 23)))
  obtain ⟨Sc0, Sc1, _, _, _⟩ := id S
  obtain ⟨Tc0, Tc1, _, _, _⟩ := id T
  go_wp2_with fail
  go_ret
  exact ⟨rfl, HB.out⟩

set_option maxRecDepth 100000 in
set_option maxHeartbeats 4000000 in
theorem back_lf (h l l' n c d x y k : Int) (w : World) (l1 : -9223372036854775808 ≤ n) (l2 : n ≤ 9223372036854775807) (hv : BkV h l h l' c d x y 0) (hu : BkS h l h l' x y k) (hc0 : (c == 0) = false) (hcd : (c != -d) = false) (d1 : -1 ≤ d) (d2 : d ≤ 1) (t1 : (l == l') = false) :
    Calls Try.prog 8 #[.agg #[.int .i64 h, .int .i64 l], .agg #[.int .i64 h, .int .i64 l'], .int .i64 n] w fun e w' => e = .returned (.bool true) ∧ Below w.heap.size w w' := by
  have V := Lib.hid hv
  have U := Lib.hid hu
  clear hv hu
  obtain ⟨u, v, hn⟩ := bkn n l1 l2
  have N := Lib.hid hn
  clear hn l1 l2
  go_enter Try.func8, Try.ntmps8
  go_wp2_with fail
  refine (awake_any _).mono ?_
  rintro e w1 ⟨rfl, hb1⟩
  obtain ⟨A, B⟩ := At2.two w (.int .i64 h) (.int .i64 l) (.int .i64 h) (.int .i64 l') 23 23
  have A := A.keep hb1
  have B := B.keep hb1
  have HB := Lib.hid (bstep (below2 w _ _) hb1)
  clear hb1
  go_wp2_with fail
  refine (N.out.c1 _).mono ?_
  rintro e w2 ⟨rfl, hb1⟩
  have A := A.keep hb1
  have B := B.keep hb1
  have HB := Lib.hid (bstep HB.out hb1)
  clear hb1
  go_wp2_with fail
  refine (N.out.c2 _).mono ?_
  rintro e w3 ⟨rfl, hb1⟩
  have A := A.keep hb1
  have B := B.keep hb1
  have HB := Lib.hid (bstep HB.out hb1)
  clear hb1
  go_wp2_with fail
  refine (N.out.c1 _).mono ?_
  rintro e w4 ⟨rfl, hb1⟩
  have A := A.keep hb1
  have B := B.keep hb1
  have HB := Lib.hid (bstep HB.out hb1)
  clear hb1
  go_wp2_with fail
  refine (N.out.c3 _).mono ?_
  rintro e w5 ⟨rfl, hb1⟩
  have A := A.keep hb1
  have B := B.keep hb1
  have HB := Lib.hid (bstep HB.out hb1)
  clear hb1
  obtain ⟨Ac0, Ac1, _, _, _⟩ := id A
  go_wp2_with fail
  refine (V.out.c1 _).mono ?_
  rintro e w6 ⟨rfl, hb1⟩
  have A := A.keep hb1
  have B := B.keep hb1
  have HB := Lib.hid (bstep HB.out hb1)
  clear hb1
  clear Ac0 Ac1
  obtain ⟨Bc0, Bc1, _, _, _⟩ := id B
  go_wp2_with fail
  refine (V.out.c2 _).mono ?_
  rintro e w7 ⟨rfl, hb1⟩
  have A := A.keep hb1
  have B := B.keep hb1
  have HB := Lib.hid (bstep HB.out hb1)
  clear hb1
  clear Bc0 Bc1
  obtain ⟨Ac0, Ac1, _, _, _⟩ := id A
  obtain ⟨Bc0, Bc1, _, _, _⟩ := id B
  go_wp2_with fail
  refine (V.out.c3 _).mono ?_
  rintro e w8 ⟨rfl, hb1⟩
  have A := A.keep hb1
  have B := B.keep hb1
  have HB := Lib.hid (bstep HB.out hb1)
  clear hb1
  clear Ac0 Ac1 Bc0 Bc1
  obtain ⟨Ac0, Ac1, _, _, _⟩ := id A
  obtain ⟨Bc0, Bc1, _, _, _⟩ := id B
  go_wp2_with fail
  refine (V.out.c4 _).mono ?_
  rintro e w9 ⟨rfl, hb1⟩
  have A := A.keep hb1
  have B := B.keep hb1
  have HB := Lib.hid (bstep HB.out hb1)
  clear hb1
  clear Ac0 Ac1 Bc0 Bc1
  obtain ⟨Ac0, Ac1, _, _, _⟩ := id A
  obtain ⟨Bc0, Bc1, _, _, _⟩ := id B
  go_wp2_with fail
  refine (V.out.c5 _).mono ?_
  rintro e w10 ⟨rfl, hb1⟩
  have A := A.keep hb1
  have B := B.keep hb1
  have HB := Lib.hid (bstep HB.out hb1)
  clear hb1
  clear Ac0 Ac1 Bc0 Bc1
  have A := A.alloc (.cells #[.int .i64 x, .int .i64 y] 23)
  have B := B.alloc (.cells #[.int .i64 x, .int .i64 y] 23)
  have S := At2.new w10 (.int .i64 x) (.int .i64 y) 23
  have HB := Lib.hid (bstep HB.out (below1 w10 (.cells #[.int .i64 x, .int .i64 y] 23)))
  obtain ⟨Ac0, Ac1, _, _, _⟩ := id A
  obtain ⟨Bc0, Bc1, _, _, _⟩ := id B
  go_wp2_with fail
  refine (V.out.c6 _).mono ?_
  rintro e w11 ⟨rfl, hb1⟩
  have A := A.keep hb1
  have B := B.keep hb1
  have S := S.keep hb1
  have HB := Lib.hid (bstep HB.out hb1)
  clear hb1
  clear Ac0 Ac1 Bc0 Bc1
  have A := A.alloc (.cells #[.int .i64 x, .int .i64 y] 23)
  have B := B.alloc (.cells #[.int .i64 x, .int .i64 y] 23)
  have S := S.alloc (.cells #[.int .i64 x, .int .i64 y] 23)
  have T := At2.new w11 (.int .i64 x) (.int .i64 y) 23
  have HB := Lib.hid (bstep HB.out (below1 w11 (.cells #[.int .i64 x, .int .i64 y] 23)))
  obtain ⟨Sc0, Sc1, _, _, _⟩ := id S
  obtain ⟨Tc0, Tc1, _, _, _⟩ := id T
  obtain ⟨Bc0, Bc1, _, _, _⟩ := id B
  go_wp2_with fail
  refine (U.out.c1 _).mono ?_
  rintro e w12 ⟨rfl, hb1⟩
  have A := A.keep hb1
  have B := B.keep hb1
  have S := S.keep hb1
  have HB := Lib.hid (bstep HB.out hb1)
  clear hb1
  clear Sc0 Sc1 Tc0 Tc1 Bc0 Bc1
  have A := A.alloc (.cells #[.int .i64 h, .int .i64 l] 23)
  have B := B.alloc (.cells #[.int .i64 h, .int .i64 l] 23)
  have S := S.alloc (.cells #[.int .i64 h, .int .i64 l] 23)
  have D := At2.new w12 (.int .i64 h) (.int .i64 l) 23
  have HB := Lib.hid (bstep HB.out (below1 w12 (.cells #[.int .i64 h, .int .i64 l] 23)))
  obtain ⟨Sc0, Sc1, _, _, _⟩ := id S
  obtain ⟨Ac0, Ac1, _, _, _⟩ := id A
  go_wp2_with fail
  refine (U.out.c2 _).mono ?_
  rintro e w13 ⟨rfl, hb1⟩
  have A := A.keep hb1
  have B := B.keep hb1
  have S := S.keep hb1
  have D := D.keep hb1
  have HB := Lib.hid (bstep HB.out hb1)
  clear hb1
  clear Sc0 Sc1 Ac0 Ac1
  obtain ⟨Bc0, Bc1, _, _, _⟩ := id B
  go_wp2_with fail
  refine (U.out.c3 _).mono ?_
  rintro e w14 ⟨rfl, hb1⟩
  have A := A.keep hb1
  have B := B.keep hb1
  have S := S.keep hb1
  have D := D.keep hb1
  have HB := Lib.hid (bstep HB.out hb1)
  clear hb1
  clear Bc0 Bc1
  obtain ⟨Dc0, Dc1, _, _, _⟩ := id D
  obtain ⟨Ac0, Ac1, _, _, _⟩ := id A
  go_wp2_with fail
  go_ret
  exact ⟨rfl, HB.out⟩

set_option maxRecDepth 100000 in
set_option maxHeartbeats 4000000 in
theorem back_lb (h l l' n c d  : Int) (w : World) (l1 : -9223372036854775808 ≤ n) (l2 : n ≤ 9223372036854775807) (hv : BkV h l h l' c d 0 0 5) (hc0 : (c == 0) = false) (hcd : (c != -d) = false) (d1 : -1 ≤ d) (d2 : d ≤ 1) (t1 : (l == l') = false) :
    Calls Try.prog 8 #[.agg #[.int .i64 h, .int .i64 l], .agg #[.int .i64 h, .int .i64 l'], .int .i64 n] w fun e w' => e = .returned (.bool true) ∧ Below w.heap.size w w' := by
  have V := Lib.hid hv
  clear hv
  obtain ⟨u, v, hn⟩ := bkn n l1 l2
  have N := Lib.hid hn
  clear hn l1 l2
  go_enter Try.func8, Try.ntmps8
  go_wp2_with fail
  refine (awake_any _).mono ?_
  rintro e w1 ⟨rfl, hb1⟩
  obtain ⟨A, B⟩ := At2.two w (.int .i64 h) (.int .i64 l) (.int .i64 h) (.int .i64 l') 23 23
  have A := A.keep hb1
  have B := B.keep hb1
  have HB := Lib.hid (bstep (below2 w _ _) hb1)
  clear hb1
  go_wp2_with fail
  refine (N.out.c1 _).mono ?_
  rintro e w2 ⟨rfl, hb1⟩
  have A := A.keep hb1
  have B := B.keep hb1
  have HB := Lib.hid (bstep HB.out hb1)
  clear hb1
  go_wp2_with fail
  refine (N.out.c2 _).mono ?_
  rintro e w3 ⟨rfl, hb1⟩
  have A := A.keep hb1
  have B := B.keep hb1
  have HB := Lib.hid (bstep HB.out hb1)
  clear hb1
  go_wp2_with fail
  refine (N.out.c1 _).mono ?_
  rintro e w4 ⟨rfl, hb1⟩
  have A := A.keep hb1
  have B := B.keep hb1
  have HB := Lib.hid (bstep HB.out hb1)
  clear hb1
  go_wp2_with fail
  refine (N.out.c3 _).mono ?_
  rintro e w5 ⟨rfl, hb1⟩
  have A := A.keep hb1
  have B := B.keep hb1
  have HB := Lib.hid (bstep HB.out hb1)
  clear hb1
  obtain ⟨Ac0, Ac1, _, _, _⟩ := id A
  go_wp2_with fail
  refine (V.out.c1 _).mono ?_
  rintro e w6 ⟨rfl, hb1⟩
  have A := A.keep hb1
  have B := B.keep hb1
  have HB := Lib.hid (bstep HB.out hb1)
  clear hb1
  clear Ac0 Ac1
  obtain ⟨Bc0, Bc1, _, _, _⟩ := id B
  go_wp2_with fail
  refine (V.out.c2 _).mono ?_
  rintro e w7 ⟨rfl, hb1⟩
  have A := A.keep hb1
  have B := B.keep hb1
  have HB := Lib.hid (bstep HB.out hb1)
  clear hb1
  clear Bc0 Bc1
  obtain ⟨Ac0, Ac1, _, _, _⟩ := id A
  obtain ⟨Bc0, Bc1, _, _, _⟩ := id B
  go_wp2_with fail
  refine (V.out.c3 _).mono ?_
  rintro e w8 ⟨rfl, hb1⟩
  have A := A.keep hb1
  have B := B.keep hb1
  have HB := Lib.hid (bstep HB.out hb1)
  clear hb1
  clear Ac0 Ac1 Bc0 Bc1
  obtain ⟨Ac0, Ac1, _, _, _⟩ := id A
  obtain ⟨Bc0, Bc1, _, _, _⟩ := id B
  go_wp2_with fail
  refine (V.out.c4 _).mono ?_
  rintro e w9 ⟨rfl, hb1⟩
  have A := A.keep hb1
  have B := B.keep hb1
  have HB := Lib.hid (bstep HB.out hb1)
  clear hb1
  clear Ac0 Ac1 Bc0 Bc1
  obtain ⟨Ac0, Ac1, _, _, _⟩ := id A
  obtain ⟨Bc0, Bc1, _, _, _⟩ := id B
  go_wp2_with fail
  refine (V.out.c5 _).mono ?_
  rintro e w10 ⟨rfl, hb1⟩
  have A := A.keep hb1
  have B := B.keep hb1
  have HB := Lib.hid (bstep HB.out hb1)
  clear hb1
  clear Ac0 Ac1 Bc0 Bc1
  have A := A.alloc (.cells #[.int .i64 0, .int .i64 0] 23)
  have B := B.alloc (.cells #[.int .i64 0, .int .i64 0] 23)
  have S := At2.new w10 (.int .i64 0) (.int .i64 0) 23
  have HB := Lib.hid (bstep HB.out (below1 w10 (.cells #[.int .i64 0, .int .i64 0] 23)))
  obtain ⟨Ac0, Ac1, _, _, _⟩ := id A
  obtain ⟨Bc0, Bc1, _, _, _⟩ := id B
  go_wp2_with fail
  refine (V.out.c6 _).mono ?_
  rintro e w11 ⟨rfl, hb1⟩
  have A := A.keep hb1
  have B := B.keep hb1
  have S := S.keep hb1
  have HB := Lib.hid (bstep HB.out hb1)
  clear hb1
  clear Ac0 Ac1 Bc0 Bc1
  have A := A.alloc (.cells #[.int .i64 0, .int .i64 0] 23)
  have B := B.alloc (.cells #[.int .i64 0, .int .i64 0] 23)
  have S := S.alloc (.cells #[.int .i64 0, .int .i64 0] 23)
  have T := At2.new w11 (.int .i64 0) (.int .i64 0) 23
  have HB := Lib.hid (bstep HB.out (below1 w11 (.cells #[.int .i64 0, .int .i64 0] 23)))
  obtain ⟨Sc0, Sc1, _, _, _⟩ := id S
  obtain ⟨Tc0, Tc1, _, _, _⟩ := id T
  go_wp2_with fail
  go_ret
  exact ⟨rfl, HB.out⟩

theorem back_any (h l h' l' n : Int) (w : World) (l1 : -9223372036854775808 ≤ n) (l2 : n ≤ 9223372036854775807) :
    Calls Try.prog 8 #[.agg #[.int .i64 h, .int .i64 l], .agg #[.int .i64 h', .int .i64 l'], .int .i64 n] w fun e w' => e = .returned (.bool true) ∧ Below w.heap.size w w' := by
  cases hk : wok h l
  · exact back_bad1 h l h' l' n w l1 l2 hk
  cases hk' : wok h' l'
  · exact back_bad2 h l h' l' n w l1 l2 hk hk'
  have V := bkv h l h' l' hk hk'
  have hcs := wcmp_sgn h l h' l' hk hk'
  have hds := wcmp_sgn h' l' h l hk' hk
  have hinj := @wv_inj h l h' l' hk hk'
  have hneg := sgn_neg (wv h l) (wv h' l')
  rw [← hcs, ← hds] at hneg
  have hd1 : -1 ≤ wcmp h' l' h l ∧ wcmp h' l' h l ≤ 1 := by rw [hds]; unfold sgn; split <;> (try split) <;> omega
  have hcd : (wcmp h l h' l' != -wcmp h' l' h l) = false := by rw [hneg]; simp
  have hc0 : ¬ (h = h' ∧ l = l') → (wcmp h l h' l' == 0) = false := by
    intro hne
    rw [beq_eq_false_iff_ne, hcs]
    intro hz
    refine hne (hinj ?_)
    unfold sgn at hz
    split at hz
    · omega
    · split at hz <;> omega
  cases hf : wfit (wv h l + wv h' l')
  · rw [show fitH (wv h l + wv h' l') = 0 by unfold fitH; rw [hf]; rfl, show fitL (wv h l + wv h' l') = 0 by unfold fitL; rw [hf]; rfl, show fitE (wv h l + wv h' l') = 5 by unfold fitE; rw [hf]; rfl] at V
    by_cases e1 : h = h'
    · subst e1
      by_cases e2 : l = l'
      · subst e2
        rw [show wcmp h l h l = 0 by rw [hcs]; unfold sgn; simp] at V
        exact back_eqb h l n w l1 l2 V
      · exact back_lb h l l' n _ _ w l1 l2 V (hc0 (fun e => e2 e.2)) hcd hd1.1 hd1.2 (beq_eq_false_iff_ne.2 e2)
    · exact back_hb h l h' l' n _ _ w l1 l2 V (hc0 (fun e => e1 e.1)) hcd hd1.1 hd1.2 (beq_eq_false_iff_ne.2 e1)
  · have U := bks h l h' l' hk hk' hf
    rw [show fitH (wv h l + wv h' l') = wh (wv h l + wv h' l') by unfold fitH; rw [if_pos hf], show fitL (wv h l + wv h' l') = wl (wv h l + wv h' l') by unfold fitL; rw [if_pos hf], show fitE (wv h l + wv h' l') = 0 by unfold fitE; rw [if_pos hf]] at V
    by_cases e1 : h = h'
    · subst e1
      by_cases e2 : l = l'
      · subst e2
        rw [show wcmp h l h l = 0 by rw [hcs]; unfold sgn; simp] at V
        exact back_eqf h l n _ _ _ w l1 l2 V U
      · exact back_lf h l l' n _ _ _ _ _ w l1 l2 V U (hc0 (fun e => e2 e.2)) hcd hd1.1 hd1.2 (beq_eq_false_iff_ne.2 e2)
    · exact back_hf h l h' l' n _ _ _ _ _ w l1 l2 V U (hc0 (fun e => e1 e.1)) hcd hd1.1 hd1.2 (beq_eq_false_iff_ne.2 e1)
end Go.Proofs.Ytpneahdbiikonaa
