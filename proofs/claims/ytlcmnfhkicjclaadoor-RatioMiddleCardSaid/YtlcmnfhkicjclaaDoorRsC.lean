/- Contract of the reference's Mean. -/
import Derived.Test.YtlcmnfhkicjclaaDoorRsB
namespace Go.Proofs.YtlcmnfhkicjclaaDoor
open Go.RowKit
set_option linter.unusedVariables false

theorem rmean_bad (A : Option Addr) (n c : Nat) (zs : List (Int × Int)) (w : World) (h : SlP w A n zs) (he : ckE zs ≠ 0) :
    Calls Tryd.prog 35 #[.slice A n c] w fun e w' => e = .returned (.tuple #[.agg #[.int .i64 0, .int .i64 0], .int .i64 (ckE zs)]) ∧ Below w.heap.size w w' := by
  have CK := Lib.hid (fun wx hx => given_any A n c zs wx (SlP.keep h hx))
  obtain ⟨r, hr⟩ : ∃ r, r = ckE zs := ⟨_, rfl⟩
  rw [← hr] at CK he ⊢
  have t1 : (r != 0) = true := by rw [bne_iff_ne]; exact he
  clear hr he h
  go_enter Tryd.func35, Tryd.ntmps35
  go_wp2_with fail
  refine (CK.out _ (below1 _ _)).mono ?_
  rintro e w1 ⟨rfl, hb1⟩
  obtain ⟨z0, z1, zf0, zf1, zlt⟩ := At2.of hb1
  have HB1 := Lib.hid (alloc_below hb1)
  clear hb1
  obtain ⟨s0, s1⟩ := set2 z0 z1 (.int .i64 0) (.int .i64 0)
  go_wp2_with fail
  refine bodyPost_ret (v := .tuple #[.agg #[.int .i64 0, .int .i64 0], .int .i64 r]) (by simp [results, Tryd.results35, go_sem, s0, s1]) rfl ⟨rfl, ?_⟩
  exact below_set2 HB1.out (Nat.le_refl _) _ _
theorem rmedian_bad (A : Option Addr) (n c : Nat) (zs : List (Int × Int)) (w : World) (h : SlP w A n zs) (he : ckE zs ≠ 0) :
    Calls Tryd.prog 34 #[.slice A n c] w fun e w' => e = .returned (.tuple #[.agg #[.int .i64 0, .int .i64 0], .int .i64 (ckE zs)]) ∧ Below w.heap.size w w' := by
  have CK := Lib.hid (fun wx hx => given_any A n c zs wx (SlP.keep h hx))
  obtain ⟨r, hr⟩ : ∃ r, r = ckE zs := ⟨_, rfl⟩
  rw [← hr] at CK he ⊢
  have t1 : (r != 0) = true := by rw [bne_iff_ne]; exact he
  clear hr he h
  go_enter Tryd.func34, Tryd.ntmps34
  go_wp2_with fail
  refine (CK.out _ (below1 _ _)).mono ?_
  rintro e w1 ⟨rfl, hb1⟩
  obtain ⟨z0, z1, zf0, zf1, zlt⟩ := At2.of hb1
  have HB1 := Lib.hid (alloc_below hb1)
  clear hb1
  obtain ⟨s0, s1⟩ := set2 z0 z1 (.int .i64 0) (.int .i64 0)
  go_wp2_with fail
  refine bodyPost_ret (v := .tuple #[.agg #[.int .i64 0, .int .i64 0], .int .i64 r]) (by simp [results, Tryd.results34, go_sem, s0, s1]) rfl ⟨rfl, ?_⟩
  exact below_set2 HB1.out (Nat.le_refl _) _ _
theorem sumE_zero (q : Rat) (r : List Rat) (h : rfit q = true) : sumE 0 (q :: r) = sumE q r := by
  have := sumE_fit (s := 0) (x := q) (xs := r) (by rw [Rat.zero_add]; exact h)
  rw [Rat.zero_add] at this
  exact this
theorem int_fit (n : Nat) (h : n ≤ 1000) : rfit ((n : Int) : Rat) = true := by
  rw [rfit_iff]
  have e1 : (((n : Int) : Rat).den : Int) = 1 := rfl
  have e2 : ((n : Int) : Rat).num = (n : Int) := rfl
  rw [e1, e2]
  omega

set_option maxRecDepth 100000 in
set_option maxHeartbeats 4000000 in
theorem rmean_in (b off c n : Nat) (qs : List Rat) (w : World) (hf : FitAll qs) (hn : n = qs.length) (h1 : 1 ≤ n) (hl : n ≤ 1000) (hb : b < w.heap.size) (hr : RowP w b off (qs.map pr)) :
    Calls Tryd.prog 35 #[.slice (some ⟨b, off, none⟩) n c] w fun e w' => e = .returned (.tuple #[.agg #[.int .i64 (mnN (sumE 0 qs) n), .int .i64 (mnD (sumE 0 qs) n)], .int .i64 (mnE (sumE 0 qs) n)]) ∧ Below w.heap.size w w' := by
  have hS : ∀ wx, Below w.heap.size w wx → SlP wx (some ⟨b, off, none⟩) n (qs.map pr) := fun wx hx => ⟨by simp [hn], by unfold maxLen; omega, fun _ => ⟨b, off, rfl, Nat.lt_of_lt_of_le hb hx.size, hr.keep hx hb⟩⟩
  have hck : ckE (qs.map pr) = 0 := by
    unfold ckE
    rw [good_of hf]
    rw [if_neg (by decide), if_neg (by rw [List.length_map]; omega), if_neg (by rw [List.length_map]; omega)]
  have CK : Hid (∀ wx, Below w.heap.size w wx → Calls Tryd.prog 51 #[.slice (some ⟨b, off, none⟩) n c] wx fun e w' => e = .returned (.int .i64 0) ∧ Below wx.heap.size wx w') := by
    intro wx hx
    have := given_any _ _ c _ wx (hS wx hx)
    rw [hck] at this
    exact this
  have CO := Lib.hid (fun n wx => rOf_any n wx)
  have HR : Hid (∀ i (h : i < qs.length), w.cell? ⟨b, off + i * 2, none⟩ = some (.int .i64 qs[i].num) ∧ w.cell? ⟨b, off + i * 2 + 1, none⟩ = some (.int .i64 (qs[i].den : Int))) := by
    intro i hi
    have := hr i (by simpa using hi)
    simpa [pr] using this
  have HFR : Hid (∀ i (h : i < qs.length), rfit qs[i] = true) := fun i h => hf _ (List.getElem_mem h)
  have HN := Lib.hid hn
  have nmx : (n : Int) ≤ 1000 := by omega
  have HFN := Lib.hid (int_fit n hl)
  obtain ⟨S0, hS0⟩ : ∃ t, t = sumE 0 qs := ⟨_, rfl⟩
  rw [← hS0]
  have HS0 := Lib.hid hS0
  clear hS hck hf hn hr hS0
  go_enter Tryd.func35, Tryd.ntmps35
  go_wp2_with fail
  refine (CK.out _ (below1 _ _)).mono ?_
  rintro e w1 ⟨rfl, hb1⟩
  have R1 := At2.of hb1
  have HB1 := Lib.hid (alloc_below hb1)
  clear hb1
  go_wp2_with fail
  refine (CO.out 0 _).mono ?_
  rintro e w2 ⟨rfl, hb2⟩
  have R1 := R1.keep hb2
  have HB1 := Lib.hid (bstep HB1.out hb2)
  clear hb2
  have hn1 : ¬ w.heap.size = w2.heap.size := by have := R1.lt; omega
  have hn2 : ¬ w2.heap.size = w.heap.size := by have := R1.lt; omega
  have Q1 := R1.alloc (.cells #[.int .i64 0, .int .i64 1] 24)
  have P1 := At2.new w2 (.int .i64 0) (.int .i64 1) 24
  have HB2 := Lib.hid (bstep HB1.out (below1 w2 (.cells #[.int .i64 0, .int .i64 1] 24)))
  have hle : w.heap.size ≤ w2.heap.size := HB1.out.size
  go_wp2_with fail
  go_loopg [6] n (fun m v6 wr => ∃ i : Nat, m = n - i ∧ i ≤ n ∧ v6 = .int .i64 (i : Int) ∧ ∃ s : Rat, Hid (rfit s = true ∧ sumE 0 qs = sumE s (qs.drop i)) ∧ Hid (At2 wr w.heap.size (.int .i64 0) (.int .i64 0)) ∧ Hid (At2 wr w2.heap.size (.int .i64 s.num) (.int .i64 (s.den : Int))) ∧ Hid (Below w.heap.size w wr))
  case atStart => exact ⟨0, rfl, Nat.zero_le _, rfl, 0, And.intro (by decide) rfl, Lib.hid Q1, Lib.hid P1, HB2⟩
  case round =>
    obtain ⟨i, hgk, hi, rfl, s, HS, HQ, HP, HB⟩ := hrel
    have HGK := Lib.hid hgk
    clear hgk Q1 P1 HB2 R1 HB1
    have HQ := Lib.hid (HQ.out.keep ((Below.refl _ wr).drew))
    have HP := Lib.hid (HP.out.keep ((Below.refl _ wr).drew))
    have HB := Lib.hid (bstep HB.out ((Below.refl _ wr).drew))
    by_cases hlt : i < n
    · have hik : i < qs.length := by have := HN.out; omega
      obtain ⟨x, hx⟩ : ∃ x, x = qs[i] := ⟨_, rfl⟩
      have y := HR.out i hik
      rw [← hx] at y
      have y0 := (HB.out.cell (p := ⟨b, off + i * 2, none⟩) hb).trans y.1
      have y1 := (HB.out.cell (p := ⟨b, off + i * 2 + 1, none⟩) hb).trans y.2
      have hx2 : rfit x = true := by rw [hx]; exact HFR.out i hik
      have hd : qs.drop i = x :: qs.drop (i + 1) := by rw [hx]; exact List.drop_eq_getElem_cons hik
      have CA := Lib.hid (fun wx => rAdd s x wx HS.out.1 hx2)
      have HS2 : Hid (sumE 0 qs = sumE s (x :: qs.drop (i + 1))) := by have := HS.out.2; rw [hd] at this; exact this
      obtain ⟨p0, p1, pf0, pf1, plt⟩ := HP.out
      have hbr : b < wr.drew.heap.size := Nat.lt_of_lt_of_le hb HB.out.size
      have u1 : (i : Int) < (n : Int) := by omega
      have HI := Lib.hid hi
      clear y hx hx2 hd hik hi
      cases hfit : rfit (s + x)
      · have HE := Lib.hid (HS2.out.trans (sumE_big hfit))
        rw [rN_big hfit, rD_big hfit, rE_big hfit] at CA
        clear hfit HS HS2
        go_wp2_with fail
        go_region_with (go_at_call 21; refine (CA.out _).mono ?_; rintro e w3 ⟨rfl, hb3⟩; have HP := Lib.hid (HP.out.keep hb3); have HQ := Lib.hid (HQ.out.keep hb3); have HB := Lib.hid (bstep HB.out hb3); clear hb3 p0 p1 pf0 pf1 y0 y1; obtain ⟨p0, p1, pf0, pf1, plt⟩ := HP.out)
        all_goals
          have Q4 := HQ.out.far hn1 (.int .i64 0) (.int .i64 0)
          have B4 := Lib.hid (below_set2 HB.out hle (.int .i64 0) (.int .i64 0))
          obtain ⟨z0, z1, zf0, zf1, zlt⟩ := Q4
          obtain ⟨s0, s1⟩ := set2 z0 z1 (.int .i64 0) (.int .i64 0)
          go_wp2_with fail
          refine bodyPost_ret (v := .tuple #[.agg #[.int .i64 0, .int .i64 0], .int .i64 5]) (by simp [results, Tryd.results35, go_sem, s0, s1]) rfl ⟨by rw [HS0.out, HE.out]; rfl, ?_⟩
          exact below_set2 B4.out (Nat.le_refl _) _ _
      · have HE := Lib.hid (HS2.out.trans (sumE_fit hfit))
        rw [rN_fit hfit, rD_fit hfit, rE_fit hfit] at CA
        have HFS := Lib.hid hfit
        clear hfit HS HS2
        obtain ⟨t, ht⟩ : ∃ t, t = s + x := ⟨_, rfl⟩
        rw [← ht] at CA HE HFS
        clear ht
        go_wp2_with fail
        go_region_with (go_at_call 21; refine (CA.out _).mono ?_; rintro e w3 ⟨rfl, hb3⟩; have HP := Lib.hid (HP.out.keep hb3); have HQ := Lib.hid (HQ.out.keep hb3); have HB := Lib.hid (bstep HB.out hb3); clear hb3 p0 p1 pf0 pf1 y0 y1; obtain ⟨p0, p1, pf0, pf1, plt⟩ := HP.out)
        all_goals
          have Q4 := Lib.hid (HQ.out.far hn1 (.int .i64 t.num) (.int .i64 (t.den : Int)))
          have P4 := Lib.hid (HP.out.put (.int .i64 t.num) (.int .i64 (t.den : Int)))
          have B4 := Lib.hid (below_set2 HB.out hle (.int .i64 t.num) (.int .i64 (t.den : Int)))
          go_wp2_with fail
          go_roundg (n - (i + 1))
          case measure => have := HGK.out; have := HI.out; omega
          case rel => exact ⟨i + 1, rfl, by omega, by go_num, t, And.intro HFS.out HE.out, Q4, P4, B4⟩
    · have hik : i = n := by omega
      subst hik
      have HE : Hid (sumE 0 qs = some s) := by have := HS.out.2; rw [HN.out, List.drop_length] at this; exact this
      have CD : Hid (∀ wx, Calls Tryd.prog 24 #[.agg #[.int .i64 s.num, .int .i64 (s.den : Int)], .agg #[.int .i64 (i : Int), .int .i64 1]] wx fun e w' => e = .returned (.tuple #[.agg #[.int .i64 (rN (mnQ s i)), .int .i64 (rD (mnQ s i))], .int .i64 (rE (mnQ s i))]) ∧ Below wx.heap.size wx w') := by
        intro wx
        exact rDiv s ((i : Int) : Rat) wx HS.out.1 HFN.out (show (i : Int) ≠ 0 by omega)
      obtain ⟨x, hx⟩ : ∃ x, x = rN (mnQ s i) := ⟨_, rfl⟩
      obtain ⟨y, hy⟩ : ∃ y, y = rD (mnQ s i) := ⟨_, rfl⟩
      obtain ⟨z, hz⟩ : ∃ z, z = rE (mnQ s i) := ⟨_, rfl⟩
      have HM : Hid (mnN S0 i = x ∧ mnD S0 i = y ∧ mnE S0 i = z) := by
        show mnN S0 i = x ∧ mnD S0 i = y ∧ mnE S0 i = z
        rw [HS0.out, HE.out, hx, hy, hz]; exact ⟨rfl, rfl, rfl⟩
      rw [← hx, ← hy, ← hz] at CD
      obtain ⟨p0, p1, pf0, pf1, plt⟩ := HP.out
      obtain ⟨q0, q1, qf0, qf1, qlt⟩ := HQ.out
      clear hx hy hz hlt hi
      go_wp2_with fail
      go_region_with
        (first
        | (go_at_call 52; refine (CO.out _ _).mono ?_; rintro e w3 ⟨rfl, hb3⟩; have HP := Lib.hid (HP.out.keep hb3); have HQ := Lib.hid (HQ.out.keep hb3); have HB := Lib.hid (bstep HB.out hb3); clear hb3 p0 p1 pf0 pf1 plt q0 q1 qf0 qf1 qlt; obtain ⟨p0, p1, pf0, pf1, plt⟩ := HP.out; obtain ⟨q0, q1, qf0, qf1, qlt⟩ := HQ.out)
        | (go_at_call 24; refine (CD.out _).mono ?_; rintro e w4 ⟨rfl, hb3⟩; have HQ := Lib.hid (HQ.out.keep hb3); have HB := Lib.hid (bstep HB.out hb3); clear hb3 p0 p1 pf0 pf1 plt q0 q1 qf0 qf1 qlt; obtain ⟨q0, q1, qf0, qf1, qlt⟩ := HQ.out))
      all_goals
        obtain ⟨s0, s1⟩ := set2 q0 q1 (.int .i64 x) (.int .i64 y)
        go_wp2_with fail
        refine bodyPost_ret (v := .tuple #[.agg #[.int .i64 x, .int .i64 y], .int .i64 z]) (by simp [results, Tryd.results35, go_sem, s0, s1]) rfl ⟨by rw [HM.out.1, HM.out.2.1, HM.out.2.2], ?_⟩
        exact below_set2 HB.out (Nat.le_refl _) _ _
end Go.Proofs.YtlcmnfhkicjclaaDoor
