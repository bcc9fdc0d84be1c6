/- WideSquares: the walks of the law. -/
import Derived.Test.YtpneahdbiikonaaFct
namespace Go.Proofs.Ytpneahdbiikonaa
open Go.RowKit
set_option linter.unusedVariables false

/-- a square and its root -/
structure SqK (K p q : Int) : Prop where
  c1 : ∀ wx, Calls Try.prog 27 #[.int .i64 K, .int .i64 K] wx fun e w' => e = .returned (.tuple #[.agg #[.int .i64 p, .int .i64 q], .int .i64 0]) ∧ Below wx.heap.size wx w'
  c2 : ∀ wx, Calls Try.prog 32 #[.agg #[.int .i64 p, .int .i64 q]] wx fun e w' => e = .returned (.tuple #[.int .i64 K, .int .i64 0]) ∧ Below wx.heap.size wx w'
theorem sqk (n : Nat) (h : n ≤ 1152921504606846975) : SqK (n : Int) (wh ((n : Int) * (n : Int))) (wl ((n : Int) * (n : Int))) := by
  have hf : wfit ((n : Int) * (n : Int)) = true := by
    have h1 : n * n ≤ 1152921504606846975 * 1152921504606846975 := Nat.mul_le_mul h h
    have e : (n : Int) * (n : Int) = ((n * n : Nat) : Int) := rfl
    rw [e, wfit_iff]; unfold wh; omega
  have hk : wok (wh ((n : Int) * (n : Int))) (wl ((n : Int) * (n : Int))) = true := by rw [wok_parts]; exact hf
  refine ⟨fun wx => product_fit n n wx (by omega) (by omega) (by omega) (by omega) hf, fun wx => ?_⟩
  have e : (n : Int) * (n : Int) = ((n * n : Nat) : Int) := rfl
  refine Root_ok _ _ n wx hk ?_ ?_ ?_
  · rw [e]; unfold wh; omega
  · rw [wv_parts, e]; exact Int.le_refl _
  · rw [wv_parts, e]
    have : n * n < (n + 1) * (n + 1) := Nat.mul_lt_mul_of_lt_of_lt (by omega) (by omega)
    omega

set_option maxRecDepth 100000 in
set_option maxHeartbeats 4000000 in
theorem sqr_bad (h l n : Int) (w : World) (n1 : 0 ≤ n) (n2 : n ≤ 4294967295) (hk : wok h l = false) :
    Calls Try.prog 11 #[.agg #[.int .i64 h, .int .i64 l], .int .u32 n] w fun e w' => e = .returned (.bool true) ∧ Below w.heap.size w w' := by
  have R := Lib.hid (fun (wx : World) => Root_bad h l wx hk)
  have V := Lib.hid (fun (wx : World) => valid_is h l false hk wx)
  clear hk
  obtain ⟨K, hK⟩ : ∃ K : Nat, n * 134217728 + n = (K : Int) := ⟨(n * 134217728 + n).toNat, by omega⟩
  have sk := sqk K (by omega)
  obtain ⟨p, hp⟩ : ∃ p, p = wh ((K : Int) * (K : Int)) := ⟨_, rfl⟩
  obtain ⟨q, hq⟩ : ∃ q, q = wl ((K : Int) * (K : Int)) := ⟨_, rfl⟩
  rw [← hp, ← hq] at sk
  have SK := Lib.hid sk
  clear sk hp hq
  go_enter Try.func11, Try.ntmps11
  go_wp2_with fail
  refine (awake_any _).mono ?_
  rintro e w1 ⟨rfl, hb1⟩
  have A := (At2.new w (.int .i64 h) (.int .i64 l) 23).keep hb1
  have HB := Lib.hid (bstep (below1 w _) hb1)
  clear hb1
  go_wp2_with fail
  refine (SK.out.c1 _).mono ?_
  rintro e w2 ⟨rfl, hb1⟩
  have A := A.keep hb1
  have HB := Lib.hid (bstep HB.out hb1)
  clear hb1
  have A := A.alloc (.cells #[.int .i64 p, .int .i64 q] 23)
  have S := At2.new w2 (.int .i64 p) (.int .i64 q) 23
  have HB := Lib.hid (bstep HB.out (below1 w2 (.cells #[.int .i64 p, .int .i64 q] 23)))
  obtain ⟨Sc0, Sc1, _, _, _⟩ := id S
  go_wp2_with fail
  refine (SK.out.c2 _).mono ?_
  rintro e w3 ⟨rfl, hb1⟩
  have A := A.keep hb1
  have HB := Lib.hid (bstep HB.out hb1)
  clear hb1
  clear Sc0 Sc1
  obtain ⟨Ac0, Ac1, _, _, _⟩ := id A
  go_wp2_with fail
  refine (R.out _).mono ?_
  rintro e w4 ⟨rfl, hb1⟩
  have A := A.keep hb1
  have HB := Lib.hid (bstep HB.out hb1)
  clear hb1
  clear Ac0 Ac1
  obtain ⟨Ac0, Ac1, _, _, _⟩ := id A
  go_wp2_with fail
  refine (V.out _).mono ?_
  rintro e w5 ⟨rfl, hb1⟩
  have A := A.keep hb1
  have HB := Lib.hid (bstep HB.out hb1)
  clear hb1
  clear Ac0 Ac1
  go_wp2_with fail
  go_ret
  exact ⟨rfl, HB.out⟩

set_option maxRecDepth 100000 in
set_option maxHeartbeats 4000000 in
theorem sqr_neg (h l n : Int) (w : World) (n1 : 0 ≤ n) (n2 : n ≤ 4294967295) (hk : wok h l = true) (hs : h < 0) :
    Calls Try.prog 11 #[.agg #[.int .i64 h, .int .i64 l], .int .u32 n] w fun e w' => e = .returned (.bool true) ∧ Below w.heap.size w w' := by
  have R := Lib.hid (fun (wx : World) => Root_neg h l wx hk hs)
  clear hk
  obtain ⟨K, hK⟩ : ∃ K : Nat, n * 134217728 + n = (K : Int) := ⟨(n * 134217728 + n).toNat, by omega⟩
  have sk := sqk K (by omega)
  obtain ⟨p, hp⟩ : ∃ p, p = wh ((K : Int) * (K : Int)) := ⟨_, rfl⟩
  obtain ⟨q, hq⟩ : ∃ q, q = wl ((K : Int) * (K : Int)) := ⟨_, rfl⟩
  rw [← hp, ← hq] at sk
  have SK := Lib.hid sk
  clear sk hp hq
  go_enter Try.func11, Try.ntmps11
  go_wp2_with fail
  refine (awake_any _).mono ?_
  rintro e w1 ⟨rfl, hb1⟩
  have A := (At2.new w (.int .i64 h) (.int .i64 l) 23).keep hb1
  have HB := Lib.hid (bstep (below1 w _) hb1)
  clear hb1
  go_wp2_with fail
  refine (SK.out.c1 _).mono ?_
  rintro e w2 ⟨rfl, hb1⟩
  have A := A.keep hb1
  have HB := Lib.hid (bstep HB.out hb1)
  clear hb1
  have A := A.alloc (.cells #[.int .i64 p, .int .i64 q] 23)
  have S := At2.new w2 (.int .i64 p) (.int .i64 q) 23
  have HB := Lib.hid (bstep HB.out (below1 w2 (.cells #[.int .i64 p, .int .i64 q] 23)))
  obtain ⟨Sc0, Sc1, _, _, _⟩ := id S
  go_wp2_with fail
  refine (SK.out.c2 _).mono ?_
  rintro e w3 ⟨rfl, hb1⟩
  have A := A.keep hb1
  have HB := Lib.hid (bstep HB.out hb1)
  clear hb1
  clear Sc0 Sc1
  obtain ⟨Ac0, Ac1, _, _, _⟩ := id A
  go_wp2_with fail
  refine (R.out _).mono ?_
  rintro e w4 ⟨rfl, hb1⟩
  have A := A.keep hb1
  have HB := Lib.hid (bstep HB.out hb1)
  clear hb1
  clear Ac0 Ac1
  obtain ⟨Ac0, Ac1, _, _, _⟩ := id A
  go_wp2_with fail
  go_ret
  exact ⟨rfl, HB.out⟩

/-- a number and its root: what the law asks of them -/
structure SqR (h l r lp lq c : Int) : Prop where
  c1 : ∀ wx, Calls Try.prog 32 #[.agg #[.int .i64 h, .int .i64 l]] wx fun e w' => e = .returned (.tuple #[.int .i64 r, .int .i64 0]) ∧ Below wx.heap.size wx w'
  c2 : ∀ wx, Calls Try.prog 27 #[.int .i64 r, .int .i64 r] wx fun e w' => e = .returned (.tuple #[.agg #[.int .i64 lp, .int .i64 lq], .int .i64 0]) ∧ Below wx.heap.size wx w'
  c3 : ∀ wx, Calls Try.prog 23 #[.agg #[.int .i64 lp, .int .i64 lq], .agg #[.int .i64 h, .int .i64 l]] wx fun e w' => e = .returned (.tuple #[.int .i64 c, .int .i64 0]) ∧ Below wx.heap.size wx w'
set_option maxRecDepth 100000 in
set_option maxHeartbeats 4000000 in
theorem sqr_fit (h l n r lp lq c hp hq d : Int) (w : World) (n1 : 0 ≤ n) (n2 : n ≤ 4294967295) (rr : SqR h l r lp lq c) (r0 : 0 ≤ r) (r1 : r ≤ 1152921504606846975) (hc : c ≤ 0) (hd : d < 0)
    (C1 : ∀ wx, Calls Try.prog 27 #[.int .i64 (r + 1), .int .i64 (r + 1)] wx fun e w' => e = .returned (.tuple #[.agg #[.int .i64 hp, .int .i64 hq], .int .i64 0]) ∧ Below wx.heap.size wx w')
    (C2 : ∀ wx, Calls Try.prog 23 #[.agg #[.int .i64 h, .int .i64 l], .agg #[.int .i64 hp, .int .i64 hq]] wx fun e w' => e = .returned (.tuple #[.int .i64 d, .int .i64 0]) ∧ Below wx.heap.size wx w') :
    Calls Try.prog 11 #[.agg #[.int .i64 h, .int .i64 l], .int .u32 n] w fun e w' => e = .returned (.bool true) ∧ Below w.heap.size w w' := by
  have RR := Lib.hid rr
  have Q := Lib.hid C1
  have D := Lib.hid C2
  clear rr C1 C2
  obtain ⟨K, hK⟩ : ∃ K : Nat, n * 134217728 + n = (K : Int) := ⟨(n * 134217728 + n).toNat, by omega⟩
  have sk := sqk K (by omega)
  obtain ⟨p, hp⟩ : ∃ p, p = wh ((K : Int) * (K : Int)) := ⟨_, rfl⟩
  obtain ⟨q, hq⟩ : ∃ q, q = wl ((K : Int) * (K : Int)) := ⟨_, rfl⟩
  rw [← hp, ← hq] at sk
  have SK := Lib.hid sk
  clear sk hp hq
  go_enter Try.func11, Try.ntmps11
  go_wp2_with fail
  refine (awake_any _).mono ?_
  rintro e w1 ⟨rfl, hb1⟩
  have A := (At2.new w (.int .i64 h) (.int .i64 l) 23).keep hb1
  have HB := Lib.hid (bstep (below1 w _) hb1)
  clear hb1
  go_wp2_with fail
  refine (SK.out.c1 _).mono ?_
  rintro e w2 ⟨rfl, hb1⟩
  have A := A.keep hb1
  have HB := Lib.hid (bstep HB.out hb1)
  clear hb1
  have A := A.alloc (.cells #[.int .i64 p, .int .i64 q] 23)
  have S := At2.new w2 (.int .i64 p) (.int .i64 q) 23
  have HB := Lib.hid (bstep HB.out (below1 w2 (.cells #[.int .i64 p, .int .i64 q] 23)))
  obtain ⟨Sc0, Sc1, _, _, _⟩ := id S
  go_wp2_with fail
  refine (SK.out.c2 _).mono ?_
  rintro e w3 ⟨rfl, hb1⟩
  have A := A.keep hb1
  have HB := Lib.hid (bstep HB.out hb1)
  clear hb1
  clear Sc0 Sc1
  obtain ⟨Ac0, Ac1, _, _, _⟩ := id A
  go_wp2_with fail
  refine (RR.out.c1 _).mono ?_
  rintro e w4 ⟨rfl, hb1⟩
  have A := A.keep hb1
  have HB := Lib.hid (bstep HB.out hb1)
  clear hb1
  clear Ac0 Ac1
  go_wp2_with fail
  refine (RR.out.c2 _).mono ?_
  rintro e w5 ⟨rfl, hb1⟩
  have A := A.keep hb1
  have HB := Lib.hid (bstep HB.out hb1)
  clear hb1
  have A := A.alloc (.cells #[.int .i64 lp, .int .i64 lq] 23)
  have L := At2.new w5 (.int .i64 lp) (.int .i64 lq) 23
  have HB := Lib.hid (bstep HB.out (below1 w5 (.cells #[.int .i64 lp, .int .i64 lq] 23)))
  obtain ⟨Lc0, Lc1, _, _, _⟩ := id L
  obtain ⟨Ac0, Ac1, _, _, _⟩ := id A
  go_wp2_with fail
  refine (RR.out.c3 _).mono ?_
  rintro e w6 ⟨rfl, hb1⟩
  have A := A.keep hb1
  have HB := Lib.hid (bstep HB.out hb1)
  clear hb1
  clear Lc0 Lc1 Ac0 Ac1
  go_wp2_with fail
  refine (Q.out _).mono ?_
  rintro e w7 ⟨rfl, hb1⟩
  have A := A.keep hb1
  have HB := Lib.hid (bstep HB.out hb1)
  clear hb1
  have A := A.alloc (.cells #[.int .i64 hp, .int .i64 hq] 23)
  have H := At2.new w7 (.int .i64 hp) (.int .i64 hq) 23
  have HB := Lib.hid (bstep HB.out (below1 w7 (.cells #[.int .i64 hp, .int .i64 hq] 23)))
  obtain ⟨Hc0, Hc1, _, _, _⟩ := id H
  obtain ⟨Ac0, Ac1, _, _, _⟩ := id A
  go_wp2_with fail
  refine (D.out _).mono ?_
  rintro e w8 ⟨rfl, hb1⟩
  have A := A.keep hb1
  have H := H.keep hb1
  have HB := Lib.hid (bstep HB.out hb1)
  clear hb1
  clear Hc0 Hc1 Ac0 Ac1
  go_wp2_with fail
  go_ret
  exact ⟨rfl, HB.out⟩

set_option maxRecDepth 100000 in
set_option maxHeartbeats 4000000 in
theorem sqr_big (h l n r lp lq c : Int) (w : World) (n1 : 0 ≤ n) (n2 : n ≤ 4294967295) (rr : SqR h l r lp lq c) (r0 : 0 ≤ r) (r1 : r ≤ 1152921504606846975) (hc : c ≤ 0)
    (C1 : ∀ wx, Calls Try.prog 27 #[.int .i64 (r + 1), .int .i64 (r + 1)] wx fun e w' => e = .returned (.tuple #[.agg #[.int .i64 0, .int .i64 0], .int .i64 5]) ∧ Below wx.heap.size wx w') :
    Calls Try.prog 11 #[.agg #[.int .i64 h, .int .i64 l], .int .u32 n] w fun e w' => e = .returned (.bool true) ∧ Below w.heap.size w w' := by
  have RR := Lib.hid rr
  have Q := Lib.hid C1
  clear rr C1
  obtain ⟨K, hK⟩ : ∃ K : Nat, n * 134217728 + n = (K : Int) := ⟨(n * 134217728 + n).toNat, by omega⟩
  have sk := sqk K (by omega)
  obtain ⟨p, hp⟩ : ∃ p, p = wh ((K : Int) * (K : Int)) := ⟨_, rfl⟩
  obtain ⟨q, hq⟩ : ∃ q, q = wl ((K : Int) * (K : Int)) := ⟨_, rfl⟩
  rw [← hp, ← hq] at sk
  have SK := Lib.hid sk
  clear sk hp hq
  go_enter Try.func11, Try.ntmps11
  go_wp2_with fail
  refine (awake_any _).mono ?_
  rintro e w1 ⟨rfl, hb1⟩
  have A := (At2.new w (.int .i64 h) (.int .i64 l) 23).keep hb1
  have HB := Lib.hid (bstep (below1 w _) hb1)
  clear hb1
  go_wp2_with fail
  refine (SK.out.c1 _).mono ?_
  rintro e w2 ⟨rfl, hb1⟩
  have A := A.keep hb1
  have HB := Lib.hid (bstep HB.out hb1)
  clear hb1
  have A := A.alloc (.cells #[.int .i64 p, .int .i64 q] 23)
  have S := At2.new w2 (.int .i64 p) (.int .i64 q) 23
  have HB := Lib.hid (bstep HB.out (below1 w2 (.cells #[.int .i64 p, .int .i64 q] 23)))
  obtain ⟨Sc0, Sc1, _, _, _⟩ := id S
  go_wp2_with fail
  refine (SK.out.c2 _).mono ?_
  rintro e w3 ⟨rfl, hb1⟩
  have A := A.keep hb1
  have HB := Lib.hid (bstep HB.out hb1)
  clear hb1
  clear Sc0 Sc1
  obtain ⟨Ac0, Ac1, _, _, _⟩ := id A
  go_wp2_with fail
  refine (RR.out.c1 _).mono ?_
  rintro e w4 ⟨rfl, hb1⟩
  have A := A.keep hb1
  have HB := Lib.hid (bstep HB.out hb1)
  clear hb1
  clear Ac0 Ac1
  go_wp2_with fail
  refine (RR.out.c2 _).mono ?_
  rintro e w5 ⟨rfl, hb1⟩
  have A := A.keep hb1
  have HB := Lib.hid (bstep HB.out hb1)
  clear hb1
  have A := A.alloc (.cells #[.int .i64 lp, .int .i64 lq] 23)
  have L := At2.new w5 (.int .i64 lp) (.int .i64 lq) 23
  have HB := Lib.hid (bstep HB.out (below1 w5 (.cells #[.int .i64 lp, .int .i64 lq] 23)))
  obtain ⟨Lc0, Lc1, _, _, _⟩ := id L
  obtain ⟨Ac0, Ac1, _, _, _⟩ := id A
  go_wp2_with fail
  refine (RR.out.c3 _).mono ?_
  rintro e w6 ⟨rfl, hb1⟩
  have A := A.keep hb1
  have HB := Lib.hid (bstep HB.out hb1)
  clear hb1
  clear Lc0 Lc1 Ac0 Ac1
  go_wp2_with fail
  refine (Q.out _).mono ?_
  rintro e w7 ⟨rfl, hb1⟩
  have A := A.keep hb1
  have HB := Lib.hid (bstep HB.out hb1)
  clear hb1
  have A := A.alloc (.cells #[.int .i64 0, .int .i64 0] 23)
  have H := At2.new w7 (.int .i64 0) (.int .i64 0) 23
  have HB := Lib.hid (bstep HB.out (below1 w7 (.cells #[.int .i64 0, .int .i64 0] 23)))
  go_wp2_with fail
  go_ret
  exact ⟨rfl, HB.out⟩

theorem sqr_any (h l n : Int) (w : World) (n1 : 0 ≤ n) (n2 : n ≤ 4294967295) :
    Calls Try.prog 11 #[.agg #[.int .i64 h, .int .i64 l], .int .u32 n] w fun e w' => e = .returned (.bool true) ∧ Below w.heap.size w w' := by
  cases hk : wok h l
  · exact sqr_bad h l n w n1 n2 hk
  by_cases hs : h < 0
  · exact sqr_neg h l n w n1 n2 hk hs
  have hv : 0 ≤ wv h l ∧ wv h l < 1329227995784915872903807060280344576 := by rw [wok_iff] at hk; unfold wv; omega
  obtain ⟨N, hN⟩ : ∃ N : Nat, wv h l = (N : Int) := ⟨(wv h l).toNat, by omega⟩
  obtain ⟨i1, i2⟩ := isq_spec N
  obtain ⟨r, hr⟩ : ∃ r, r = isq N := ⟨_, rfl⟩
  rw [← hr] at i1 i2
  have hr1 : r < 1152921504606846976 := root_le N r _ i1 (by omega)
  have e1 : (r : Int) * (r : Int) = ((r * r : Nat) : Int) := rfl
  have e2 : ((r : Int) + 1) * ((r : Int) + 1) = (((r + 1) * (r + 1) : Nat) : Int) := rfl
  have hf : wfit ((r : Int) * (r : Int)) = true := by rw [e1, wfit_iff]; unfold wh; omega
  have hlk : wok (wh ((r : Int) * (r : Int))) (wl ((r : Int) * (r : Int))) = true := by rw [wok_parts]; exact hf
  have c1 := wcmp_sgn _ _ _ _ hlk hk
  have hc : wcmp (wh ((r : Int) * (r : Int))) (wl ((r : Int) * (r : Int))) h l ≤ 0 := by
    rw [c1, wv_parts, hN, e1]; unfold sgn; split
    · omega
    · split <;> omega
  have RR : SqR h l (r : Int) (wh ((r : Int) * (r : Int))) (wl ((r : Int) * (r : Int))) (wcmp (wh ((r : Int) * (r : Int))) (wl ((r : Int) * (r : Int))) h l) := by
    refine ⟨fun wx => Root_ok h l r wx hk (by omega) (by rw [hN]; omega) (by rw [hN]; omega), fun wx => product_fit _ _ wx (by omega) (by omega) (by omega) (by omega) hf, fun wx => cmp_ok _ _ h l wx hlk hk⟩
  cases hg : wfit (((r : Int) + 1) * ((r : Int) + 1))
  · refine sqr_big h l n (r : Int) _ _ _ w n1 n2 RR (by omega) (by omega) hc (fun wx => ?_)
    have := product_any ((r : Int) + 1) ((r : Int) + 1) wx (by omega) (by omega) (by omega) (by omega)
    rw [show fitH (((r : Int) + 1) * ((r : Int) + 1)) = 0 by unfold fitH; rw [hg]; rfl, show fitL (((r : Int) + 1) * ((r : Int) + 1)) = 0 by unfold fitL; rw [hg]; rfl, show fitE (((r : Int) + 1) * ((r : Int) + 1)) = 5 by unfold fitE; rw [hg]; rfl] at this
    exact this
  · have hgk : wok (wh (((r : Int) + 1) * ((r : Int) + 1))) (wl (((r : Int) + 1) * ((r : Int) + 1))) = true := by rw [wok_parts]; exact hg
    have c2 := wcmp_sgn _ _ _ _ hk hgk
    refine sqr_fit h l n (r : Int) _ _ _ _ _ (wcmp h l (wh (((r : Int) + 1) * ((r : Int) + 1))) (wl (((r : Int) + 1) * ((r : Int) + 1)))) w n1 n2 RR (by omega) (by omega) hc ?_ (fun wx => product_fit _ _ wx (by omega) (by omega) (by omega) (by omega) hg) (fun wx => cmp_ok h l _ _ wx hk hgk)
    rw [c2, wv_parts, hN, e2]; unfold sgn; rw [if_pos (by omega)]; omega
end Go.Proofs.Ytpneahdbiikonaa
