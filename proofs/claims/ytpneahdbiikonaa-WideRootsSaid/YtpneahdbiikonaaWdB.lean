/- Contracts of wide.fitted, Add, Sub, Int. -/
import Derived.Test.YtpneahdbiikonaaWdA
import Derived.Deep.RegionHeld3
namespace Go.Proofs.Ytpneahdbiikonaa
open Go.RowKit
set_option linter.unusedVariables false

/-- what fitted returns: the parts of a number that fits, or ErrBig -/
def fitE (n : Int) : Int := if wfit n = true then 0 else 5
def fitH (n : Int) : Int := if wfit n = true then wh n else 0
def fitL (n : Int) : Int := if wfit n = true then wl n else 0

theorem fitted_any (h l : Int) (w : World) (h1 : -2305843009213693952 ≤ h) (h2 : h ≤ 2305843009213693952) (l1 : -2305843009213693952 ≤ l) (l2 : l ≤ 2305843009213693952) :
    Calls Try.prog 37 #[.int .i64 h, .int .i64 l] w fun e w' => e = .returned (.tuple #[.agg #[.int .i64 (fitH (wv h l)), .int .i64 (fitL (wv h l))], .int .i64 (fitE (wv h l))]) ∧ Below w.heap.size w w' := by
  have CA := Lib.hid (fun wx => carried_any h l wx h1 h2 (by omega) (by omega))
  have CV := Lib.hid (fun wx => valid_any (wh (wv h l)) (wl (wv h l)) wx)
  have E := Lib.hid (wok_parts (wv h l))
  obtain ⟨n, hn⟩ : ∃ n, n = wv h l := ⟨_, rfl⟩
  rw [← hn] at CA CV E ⊢
  clear hn
  cases hf : wfit n
  · have K1 : Hid (fitH n = 0) := by show fitH n = 0; unfold fitH; rw [hf]; rfl
    have K2 : Hid (fitL n = 0) := by show fitL n = 0; unfold fitL; rw [hf]; rfl
    have K3 : Hid (fitE n = 5) := by show fitE n = 5; unfold fitE; rw [hf]; rfl
    have CV' : Hid (∀ wx, Calls Try.prog 14 #[.agg #[.int .i64 (wh n), .int .i64 (wl n)]] wx fun e w' => e = .returned (.bool false) ∧ Below wx.heap.size wx w') := by intro wx; have := CV.out wx; rw [E.out, hf] at this; exact this
    obtain ⟨x, hx⟩ : ∃ x, x = wh n := ⟨_, rfl⟩
    obtain ⟨y, hy⟩ : ∃ y, y = wl n := ⟨_, rfl⟩
    rw [← hx, ← hy] at CA CV'
    clear hx hy hf CV E
    go_enter Try.func37, Try.ntmps37
    go_wp2_with fail
    refine (CA.out _).mono ?_
    rintro e w1 ⟨rfl, hb1⟩
    have A := At2.of hb1
    have HB := Lib.hid (alloc_below hb1)
    clear hb1
    go_wp2_with fail
    refine (CV'.out _).mono ?_
    rintro e w2 ⟨rfl, hb2⟩
    have A2 := At2.of hb2
    have A1 := A.keep (alloc_below hb2)
    have HB2 := Lib.hid (HB.out.trans ((alloc_below hb2).mono HB.out.size))
    obtain ⟨c0, c1, f0, f1, hz⟩ := A1
    obtain ⟨d0, d1, g0, g1, hy⟩ := A2
    obtain ⟨s0, s1⟩ := set2 c0 c1 (.int .i64 0) (.int .i64 0)
    clear hb2 A HB
    go_wp2_with fail
    refine bodyPost_ret (v := .tuple #[.agg #[.int .i64 0, .int .i64 0], .int .i64 5]) (by simp [results, Try.results37, go_sem, s0, s1]) rfl ⟨?_, ?_⟩
    · rw [K1.out, K2.out, K3.out]
    · exact (HB2.out.setCell (by simp) _).setCell (by simp) _
  · have K1 : Hid (fitH n = wh n) := by show fitH n = _; unfold fitH; rw [hf]; rfl
    have K2 : Hid (fitL n = wl n) := by show fitL n = _; unfold fitL; rw [hf]; rfl
    have K3 : Hid (fitE n = 0) := by show fitE n = 0; unfold fitE; rw [hf]; rfl
    have CV' : Hid (∀ wx, Calls Try.prog 14 #[.agg #[.int .i64 (wh n), .int .i64 (wl n)]] wx fun e w' => e = .returned (.bool true) ∧ Below wx.heap.size wx w') := by intro wx; have := CV.out wx; rw [E.out, hf] at this; exact this
    obtain ⟨x, hx⟩ : ∃ x, x = wh n := ⟨_, rfl⟩
    obtain ⟨y, hy⟩ : ∃ y, y = wl n := ⟨_, rfl⟩
    rw [← hx, ← hy] at CA CV'
    rw [← hx] at K1
    rw [← hy] at K2
    clear hx hy hf CV E
    go_enter Try.func37, Try.ntmps37
    go_wp2_with fail
    refine (CA.out _).mono ?_
    rintro e w1 ⟨rfl, hb1⟩
    have A := At2.of hb1
    have HB := Lib.hid (alloc_below hb1)
    clear hb1
    go_wp2_with fail
    refine (CV'.out _).mono ?_
    rintro e w2 ⟨rfl, hb2⟩
    have A2 := At2.of hb2
    have A1 := A.keep (alloc_below hb2)
    have HB2 := Lib.hid (HB.out.trans ((alloc_below hb2).mono HB.out.size))
    obtain ⟨c0, c1, f0, f1, hz⟩ := A1
    obtain ⟨d0, d1, g0, g1, hy⟩ := A2
    obtain ⟨s0, s1⟩ := set2 c0 c1 (.int .i64 x) (.int .i64 y)
    clear hb2 A HB
    go_wp2_with fail
    refine bodyPost_ret (v := .tuple #[.agg #[.int .i64 x, .int .i64 y], .int .i64 0]) (by simp [results, Try.results37, go_sem, s0, s1]) rfl ⟨?_, ?_⟩
    · rw [K1.out, K2.out, K3.out]
    · exact (HB2.out.setCell (by simp) _).setCell (by simp) _

theorem valid_is (h l : Int) (b : Bool) (hk : wok h l = b) (w : World) : Calls Try.prog 14 #[.agg #[.int .i64 h, .int .i64 l]] w fun e w' => e = .returned (.bool b) ∧ Below w.heap.size w w' := by
  have := valid_any h l w; rw [hk] at this; exact this

set_option maxHeartbeats 400000 in
theorem add_ok (h l h' l' : Int) (w : World) (hk : wok h l = true) (hk' : wok h' l' = true) :
    Calls Try.prog 21 #[.agg #[.int .i64 h, .int .i64 l], .agg #[.int .i64 h', .int .i64 l']] w fun e w' => e = .returned (.tuple #[.agg #[.int .i64 (fitH (wv h l + wv h' l')), .int .i64 (fitL (wv h l + wv h' l'))], .int .i64 (fitE (wv h l + wv h' l'))]) ∧ Below w.heap.size w w' := by
  have C1 := Lib.hid (fun wx => valid_is h l true hk wx)
  have C2 := Lib.hid (fun wx => valid_is h' l' true hk' wx)
  have hk := (wok_iff _ _).1 hk
  have hk' := (wok_iff _ _).1 hk'
  have e : wv (h + h') (l + l') = wv h l + wv h' l' := by unfold wv; omega
  have CF := Lib.hid (fun wx => fitted_any (h + h') (l + l') wx (by omega) (by omega) (by omega) (by omega))
  rw [e] at CF
  obtain ⟨x, hx⟩ : ∃ x, x = fitH (wv h l + wv h' l') := ⟨_, rfl⟩
  obtain ⟨y, hy⟩ : ∃ y, y = fitL (wv h l + wv h' l') := ⟨_, rfl⟩
  obtain ⟨z, hz⟩ : ∃ z, z = fitE (wv h l + wv h' l') := ⟨_, rfl⟩
  rw [← hx, ← hy, ← hz] at CF ⊢
  clear hx hy hz e
  obtain ⟨a1, a2, a3, a4⟩ := hk
  obtain ⟨b1, b2, b3, b4⟩ := hk'
  go_enter Try.func21, Try.ntmps21
  go_wp2_with fail
  refine (C1.out _).mono ?_
  rintro e w1 ⟨rfl, hb1⟩
  obtain ⟨A0, B0, R0⟩ := At2.three w (.int .i64 h) (.int .i64 l) (.int .i64 h') (.int .i64 l') (.int .i64 0) (.int .i64 0) 23 23 23
  have A1 := A0.keep hb1
  have B1 := B0.keep hb1
  have R1 := R0.keep hb1
  have HB := Lib.hid (bstep (below3 w _ _ _) hb1)
  clear hb1 A0 B0 R0
  obtain ⟨p0, p1, _, _, _⟩ := id B1
  go_wp2_with fail
  refine (C2.out _).mono ?_
  rintro e w2 ⟨rfl, hb2⟩
  clear p0 p1
  have A2 := A1.keep hb2
  have B2 := B1.keep hb2
  have R2 := R1.keep hb2
  have HB2 := Lib.hid (bstep HB.out hb2)
  clear hb2 A1 B1 R1 HB
  obtain ⟨p0, p1, _, _, _⟩ := id A2
  obtain ⟨q0, q1, _, _, _⟩ := id B2
  go_wp2_with fail
  refine (CF.out _).mono ?_
  rintro e w3 ⟨rfl, hb3⟩
  clear p0 p1 q0 q1
  have R3 := R2.keep hb3
  have HB3 := Lib.hid (bstep HB2.out hb3)
  clear hb3 R2 HB2
  obtain ⟨c0, c1, f0, f1, hz⟩ := R3
  obtain ⟨s0, s1⟩ := set2 c0 c1 (.int .i64 x) (.int .i64 y)
  go_wp2_with fail
  refine bodyPost_ret (v := .tuple #[.agg #[.int .i64 x, .int .i64 y], .int .i64 z]) (by simp [results, Try.results21, go_sem, s0, s1]) rfl ⟨rfl, ?_⟩
  exact below_set2 HB3.out (by omega) _ _

theorem add_bad1 (h l h' l' : Int) (w : World) (hk : wok h l = false) :
    Calls Try.prog 21 #[.agg #[.int .i64 h, .int .i64 l], .agg #[.int .i64 h', .int .i64 l']] w fun e w' => e = .returned (.tuple #[.agg #[.int .i64 0, .int .i64 0], .int .i64 1]) ∧ Below w.heap.size w w' := by
  have C1 := Lib.hid (fun wx => valid_is h l false hk wx)
  clear hk
  go_enter Try.func21, Try.ntmps21
  go_wp2_with fail
  refine (C1.out _).mono ?_
  rintro e w1 ⟨rfl, hb1⟩
  obtain ⟨A0, B0, R0⟩ := At2.three w (.int .i64 h) (.int .i64 l) (.int .i64 h') (.int .i64 l') (.int .i64 0) (.int .i64 0) 23 23 23
  have R1 := R0.keep hb1
  have HB := Lib.hid (bstep (below3 w _ _ _) hb1)
  clear hb1 A0 B0 R0
  obtain ⟨c0, c1, f0, f1, hz⟩ := R1
  obtain ⟨s0, s1⟩ := set2 c0 c1 (.int .i64 0) (.int .i64 0)
  go_wp2_with fail
  refine bodyPost_ret (v := .tuple #[.agg #[.int .i64 0, .int .i64 0], .int .i64 1]) (by simp [results, Try.results21, go_sem, s0, s1]) rfl ⟨rfl, ?_⟩
  exact below_set2 HB.out (by omega) _ _

theorem add_bad2 (h l h' l' : Int) (w : World) (hk : wok h l = true) (hk' : wok h' l' = false) :
    Calls Try.prog 21 #[.agg #[.int .i64 h, .int .i64 l], .agg #[.int .i64 h', .int .i64 l']] w fun e w' => e = .returned (.tuple #[.agg #[.int .i64 0, .int .i64 0], .int .i64 1]) ∧ Below w.heap.size w w' := by
  have C1 := Lib.hid (fun wx => valid_is h l true hk wx)
  have C2 := Lib.hid (fun wx => valid_is h' l' false hk' wx)
  clear hk hk'
  go_enter Try.func21, Try.ntmps21
  go_wp2_with fail
  refine (C1.out _).mono ?_
  rintro e w1 ⟨rfl, hb1⟩
  obtain ⟨A0, B0, R0⟩ := At2.three w (.int .i64 h) (.int .i64 l) (.int .i64 h') (.int .i64 l') (.int .i64 0) (.int .i64 0) 23 23 23
  have B1 := B0.keep hb1
  have R1 := R0.keep hb1
  have HB := Lib.hid (bstep (below3 w _ _ _) hb1)
  clear hb1 A0 B0 R0
  obtain ⟨p0, p1, _, _, _⟩ := id B1
  go_wp2_with fail
  refine (C2.out _).mono ?_
  rintro e w2 ⟨rfl, hb2⟩
  clear p0 p1
  have R2 := R1.keep hb2
  have HB2 := Lib.hid (bstep HB.out hb2)
  clear hb2 B1 R1 HB
  obtain ⟨c0, c1, f0, f1, hz⟩ := R2
  obtain ⟨s0, s1⟩ := set2 c0 c1 (.int .i64 0) (.int .i64 0)
  go_wp2_with fail
  refine bodyPost_ret (v := .tuple #[.agg #[.int .i64 0, .int .i64 0], .int .i64 1]) (by simp [results, Try.results21, go_sem, s0, s1]) rfl ⟨rfl, ?_⟩
  exact below_set2 HB2.out (by omega) _ _

set_option maxHeartbeats 400000 in
theorem sub_ok (h l h' l' : Int) (w : World) (hk : wok h l = true) (hk' : wok h' l' = true) :
    Calls Try.prog 22 #[.agg #[.int .i64 h, .int .i64 l], .agg #[.int .i64 h', .int .i64 l']] w fun e w' => e = .returned (.tuple #[.agg #[.int .i64 (fitH (wv h l - wv h' l')), .int .i64 (fitL (wv h l - wv h' l'))], .int .i64 (fitE (wv h l - wv h' l'))]) ∧ Below w.heap.size w w' := by
  have C1 := Lib.hid (fun wx => valid_is h l true hk wx)
  have C2 := Lib.hid (fun wx => valid_is h' l' true hk' wx)
  have hk := (wok_iff _ _).1 hk
  have hk' := (wok_iff _ _).1 hk'
  have e : wv (h - h') (l - l') = wv h l - wv h' l' := by unfold wv; omega
  have CF := Lib.hid (fun wx => fitted_any (h - h') (l - l') wx (by omega) (by omega) (by omega) (by omega))
  rw [e] at CF
  obtain ⟨x, hx⟩ : ∃ x, x = fitH (wv h l - wv h' l') := ⟨_, rfl⟩
  obtain ⟨y, hy⟩ : ∃ y, y = fitL (wv h l - wv h' l') := ⟨_, rfl⟩
  obtain ⟨z, hz⟩ : ∃ z, z = fitE (wv h l - wv h' l') := ⟨_, rfl⟩
  rw [← hx, ← hy, ← hz] at CF ⊢
  clear hx hy hz e
  obtain ⟨a1, a2, a3, a4⟩ := hk
  obtain ⟨b1, b2, b3, b4⟩ := hk'
  go_enter Try.func22, Try.ntmps22
  go_wp2_with fail
  refine (C1.out _).mono ?_
  rintro e w1 ⟨rfl, hb1⟩
  obtain ⟨A0, B0, R0⟩ := At2.three w (.int .i64 h) (.int .i64 l) (.int .i64 h') (.int .i64 l') (.int .i64 0) (.int .i64 0) 23 23 23
  have A1 := A0.keep hb1
  have B1 := B0.keep hb1
  have R1 := R0.keep hb1
  have HB := Lib.hid (bstep (below3 w _ _ _) hb1)
  clear hb1 A0 B0 R0
  obtain ⟨p0, p1, _, _, _⟩ := id B1
  go_wp2_with fail
  refine (C2.out _).mono ?_
  rintro e w2 ⟨rfl, hb2⟩
  clear p0 p1
  have A2 := A1.keep hb2
  have B2 := B1.keep hb2
  have R2 := R1.keep hb2
  have HB2 := Lib.hid (bstep HB.out hb2)
  clear hb2 A1 B1 R1 HB
  obtain ⟨p0, p1, _, _, _⟩ := id A2
  obtain ⟨q0, q1, _, _, _⟩ := id B2
  go_wp2_with fail
  refine (CF.out _).mono ?_
  rintro e w3 ⟨rfl, hb3⟩
  clear p0 p1 q0 q1
  have R3 := R2.keep hb3
  have HB3 := Lib.hid (bstep HB2.out hb3)
  clear hb3 R2 HB2
  obtain ⟨c0, c1, f0, f1, hz⟩ := R3
  obtain ⟨s0, s1⟩ := set2 c0 c1 (.int .i64 x) (.int .i64 y)
  go_wp2_with fail
  refine bodyPost_ret (v := .tuple #[.agg #[.int .i64 x, .int .i64 y], .int .i64 z]) (by simp [results, Try.results22, go_sem, s0, s1]) rfl ⟨rfl, ?_⟩
  exact below_set2 HB3.out (by omega) _ _

theorem sub_bad1 (h l h' l' : Int) (w : World) (hk : wok h l = false) :
    Calls Try.prog 22 #[.agg #[.int .i64 h, .int .i64 l], .agg #[.int .i64 h', .int .i64 l']] w fun e w' => e = .returned (.tuple #[.agg #[.int .i64 0, .int .i64 0], .int .i64 1]) ∧ Below w.heap.size w w' := by
  have C1 := Lib.hid (fun wx => valid_is h l false hk wx)
  clear hk
  go_enter Try.func22, Try.ntmps22
  go_wp2_with fail
  refine (C1.out _).mono ?_
  rintro e w1 ⟨rfl, hb1⟩
  obtain ⟨A0, B0, R0⟩ := At2.three w (.int .i64 h) (.int .i64 l) (.int .i64 h') (.int .i64 l') (.int .i64 0) (.int .i64 0) 23 23 23
  have R1 := R0.keep hb1
  have HB := Lib.hid (bstep (below3 w _ _ _) hb1)
  clear hb1 A0 B0 R0
  obtain ⟨c0, c1, f0, f1, hz⟩ := R1
  obtain ⟨s0, s1⟩ := set2 c0 c1 (.int .i64 0) (.int .i64 0)
  go_wp2_with fail
  refine bodyPost_ret (v := .tuple #[.agg #[.int .i64 0, .int .i64 0], .int .i64 1]) (by simp [results, Try.results22, go_sem, s0, s1]) rfl ⟨rfl, ?_⟩
  exact below_set2 HB.out (by omega) _ _

theorem sub_bad2 (h l h' l' : Int) (w : World) (hk : wok h l = true) (hk' : wok h' l' = false) :
    Calls Try.prog 22 #[.agg #[.int .i64 h, .int .i64 l], .agg #[.int .i64 h', .int .i64 l']] w fun e w' => e = .returned (.tuple #[.agg #[.int .i64 0, .int .i64 0], .int .i64 1]) ∧ Below w.heap.size w w' := by
  have C1 := Lib.hid (fun wx => valid_is h l true hk wx)
  have C2 := Lib.hid (fun wx => valid_is h' l' false hk' wx)
  clear hk hk'
  go_enter Try.func22, Try.ntmps22
  go_wp2_with fail
  refine (C1.out _).mono ?_
  rintro e w1 ⟨rfl, hb1⟩
  obtain ⟨A0, B0, R0⟩ := At2.three w (.int .i64 h) (.int .i64 l) (.int .i64 h') (.int .i64 l') (.int .i64 0) (.int .i64 0) 23 23 23
  have B1 := B0.keep hb1
  have R1 := R0.keep hb1
  have HB := Lib.hid (bstep (below3 w _ _ _) hb1)
  clear hb1 A0 B0 R0
  obtain ⟨p0, p1, _, _, _⟩ := id B1
  go_wp2_with fail
  refine (C2.out _).mono ?_
  rintro e w2 ⟨rfl, hb2⟩
  clear p0 p1
  have R2 := R1.keep hb2
  have HB2 := Lib.hid (bstep HB.out hb2)
  clear hb2 B1 R1 HB
  obtain ⟨c0, c1, f0, f1, hz⟩ := R2
  obtain ⟨s0, s1⟩ := set2 c0 c1 (.int .i64 0) (.int .i64 0)
  go_wp2_with fail
  refine bodyPost_ret (v := .tuple #[.agg #[.int .i64 0, .int .i64 0], .int .i64 1]) (by simp [results, Try.results22, go_sem, s0, s1]) rfl ⟨rfl, ?_⟩
  exact below_set2 HB2.out (by omega) _ _

end Go.Proofs.Ytpneahdbiikonaa
