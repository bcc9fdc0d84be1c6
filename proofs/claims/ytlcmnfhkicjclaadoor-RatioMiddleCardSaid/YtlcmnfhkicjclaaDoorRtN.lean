/- Contract of ratio.Mean. -/
import Derived.Test.YtlcmnfhkicjclaaDoorRtM
namespace Go.Proofs.YtlcmnfhkicjclaaDoor
open Go.RowKit
set_option linter.unusedVariables false

set_option maxRecDepth 100000 in
set_option maxHeartbeats 4000000 in
theorem mean_in1 (b off c k : Nat) (q0 : Rat) (rest : List Rat) (w : World) (hf : FitAll (q0 :: rest)) (hk : k = rest.length) (hl : k < 1000) (hb : b < w.heap.size) (hr : RowP w b off ((q0 :: rest).map pr)) (hc : k + 1 ≤ c) (hm : c ≤ maxLen) (h1 : ¬ c = 1) :
    Calls Tryd.prog 33 #[.slice (some ⟨b, off, none⟩) (k + 1) c] w fun e w' => e = .returned (.tuple #[.agg #[.int .i64 (mnN (sumE q0 rest) (k + 1)), .int .i64 (mnD (sumE q0 rest) (k + 1))], .int .i64 (mnE (sumE q0 rest) (k + 1))]) ∧ Below w.heap.size w w' := by
  have hS : ∀ wx, Below w.heap.size w wx → SlP wx (some ⟨b, off, none⟩) (k + 1) ((q0 :: rest).map pr) := fun wx hx => ⟨by simp [hk], by omega, fun _ => ⟨b, off, rfl, Nat.lt_of_lt_of_le hb hx.size, hr.keep hx hb⟩⟩
  have hck : ckE ((q0 :: rest).map pr) = 0 := by
    unfold ckE
    rw [good_of hf]
    rw [if_neg (by decide), if_neg (by simp; omega), if_neg (by simp)]
  have CK : Hid (∀ wx, Below w.heap.size w wx → Calls Tryd.prog 49 #[.slice (some ⟨b, off, none⟩) (k + 1) c] wx fun e w' => e = .returned (.int .i64 0) ∧ Below wx.heap.size wx w') := by
    intro wx hx
    have := checkList_any _ _ c _ wx (hS wx hx)
    rw [hck] at this
    exact this
  have r0 : w.cell? ⟨b, off, none⟩ = some (.int .i64 q0.num) ∧ w.cell? ⟨b, off + 1, none⟩ = some (.int .i64 (q0.den : Int)) := hr 0 (by simp)
  have HR : Hid (∀ i (h : i < rest.length), w.cell? ⟨b, off + 2 + i * 2, none⟩ = some (.int .i64 rest[i].num) ∧ w.cell? ⟨b, off + 2 + i * 2 + 1, none⟩ = some (.int .i64 (rest[i].den : Int))) := by
    intro i hi
    have := hr (i + 1) (by simp; omega)
    rw [show off + (i + 1) * 2 = off + 2 + i * 2 by omega] at this
    simpa [pr] using this
  have HF0 : Hid (rfit q0 = true) := hf q0 (List.mem_cons_self ..)
  have HFR : Hid (∀ i (h : i < rest.length), rfit rest[i] = true) := fun i h => hf _ (List.mem_cons_of_mem _ (List.getElem_mem h))
  have HK := Lib.hid hk
  obtain ⟨S0, hS0⟩ : ∃ t, t = sumE q0 rest := ⟨_, rfl⟩
  rw [← hS0]
  have HS0 := Lib.hid hS0
  clear hS hck hf hk hr hm hS0
  go_enter Tryd.func33, Tryd.ntmps33
  go_wp2_with fail
  refine (CK.out _ (below1 _ _)).mono ?_
  rintro e w1 ⟨rfl, hb1⟩
  have R1 := At2.of hb1
  have HB1 := Lib.hid (alloc_below hb1)
  clear hb1
  have x0 := (HB1.out.cell (p := ⟨b, off, none⟩) hb).trans r0.1
  have x1 := (HB1.out.cell (p := ⟨b, off + 1, none⟩) hb).trans r0.2
  have hb' : b < w1.heap.size := Nat.lt_of_lt_of_le hb HB1.out.size
  have hn1 : ¬ w.heap.size = w1.heap.size := by have := R1.lt; omega
  have hn2 : ¬ w1.heap.size = w.heap.size := by have := R1.lt; omega
  have Q1 := R1.alloc (.cells #[.int .i64 q0.num, .int .i64 (q0.den : Int)] 24)
  have P1 := At2.new w1 (.int .i64 q0.num) (.int .i64 (q0.den : Int)) 24
  have HB2 := Lib.hid (bstep HB1.out (below1 w1 (.cells #[.int .i64 q0.num, .int .i64 (q0.den : Int)] 24)))
  have hle : w.heap.size ≤ w1.heap.size := HB1.out.size
  go_wp2_with fail
  clear x0 x1 r0
  go_loopg [21] k (fun m v21 wr => ∃ i : Nat, m = k - i ∧ i ≤ k ∧ v21 = .int .i64 (i : Int) ∧ ∃ s : Rat, Hid (rfit s = true ∧ sumE q0 rest = sumE s (rest.drop i)) ∧ Hid (At2 wr w.heap.size (.int .i64 0) (.int .i64 0)) ∧ Hid (At2 wr w1.heap.size (.int .i64 s.num) (.int .i64 (s.den : Int))) ∧ Hid (Below w.heap.size w wr))
  case atStart => exact ⟨0, rfl, Nat.zero_le _, rfl, q0, And.intro HF0.out rfl, Lib.hid Q1, Lib.hid P1, HB2⟩
  case round =>
    obtain ⟨i, hgk, hi, rfl, s, HS, HQ, HP, HB⟩ := hrel
    have HGK := Lib.hid hgk
    clear hgk Q1 P1 HB2 R1 HB1
    by_cases hlt : i < k
    · have hik : i < rest.length := by have := HK.out; omega
      obtain ⟨x, hx⟩ : ∃ x, x = rest[i] := ⟨_, rfl⟩
      have y := HR.out i hik
      rw [← hx] at y
      have y0 := (HB.out.cell (p := ⟨b, off + 2 + i * 2, none⟩) hb).trans y.1
      have y1 := (HB.out.cell (p := ⟨b, off + 2 + i * 2 + 1, none⟩) hb).trans y.2
      have hx2 : rfit x = true := by rw [hx]; exact HFR.out i hik
      have hd : rest.drop i = x :: rest.drop (i + 1) := by rw [hx]; exact List.drop_eq_getElem_cons hik
      have CA := Lib.hid (fun wx => pAdd s x wx HS.out.1 hx2)
      have HS2 : Hid (sumE q0 rest = sumE s (x :: rest.drop (i + 1))) := by have := HS.out.2; rw [hd] at this; exact this
      obtain ⟨p0, p1, pf0, pf1, plt⟩ := HP.out
      obtain ⟨z0, z1, zf0, zf1, zlt⟩ := HQ.out
      have hbr : b < wr.heap.size := Nat.lt_of_lt_of_le hb HB.out.size
      have HI := Lib.hid hi
      clear y hx hx2 hd hik hi
      cases hfit : rfit (s + x)
      · have HE := Lib.hid (HS2.out.trans (sumE_big hfit))
        rw [rN_big hfit, rD_big hfit, rE_big hfit] at CA
        clear hfit HS HS2
        go_wp2_with fail
        refine (CA.out _).mono ?_
        rintro e w2 ⟨rfl, hb2⟩
        have HB3 := Lib.hid (bstep HB.out (alloc_below hb2))
        have P3 := ((HP.out.alloc (.cells #[.int .i64 x.num, .int .i64 (x.den : Int)] 24)).keep hb2)
        have Q3 := ((HQ.out.alloc (.cells #[.int .i64 x.num, .int .i64 (x.den : Int)] 24)).keep hb2)
        clear hb2 HB HP HQ p0 p1 pf0 pf1 plt z0 z1 zf0 zf1 zlt y0 y1
        have Q4 := Q3.far hn1 (.int .i64 0) (.int .i64 0)
        have B4 := Lib.hid (below_set2 HB3.out hle (.int .i64 0) (.int .i64 0))
        obtain ⟨p0, p1, pf0, pf1, plt⟩ := P3
        obtain ⟨z0, z1, zf0, zf1, zlt⟩ := Q4
        obtain ⟨s0, s1⟩ := set2 z0 z1 (.int .i64 0) (.int .i64 0)
        go_wp2_with fail
        refine bodyPost_ret (v := .tuple #[.agg #[.int .i64 0, .int .i64 0], .int .i64 5]) (by simp [results, Tryd.results33, go_sem, s0, s1]) rfl ⟨by rw [HS0.out, HE.out]; rfl, ?_⟩
        exact below_set2 B4.out (Nat.le_refl _) _ _
      · have HE := Lib.hid (HS2.out.trans (sumE_fit hfit))
        rw [rN_fit hfit, rD_fit hfit, rE_fit hfit] at CA
        have HFS := Lib.hid hfit
        clear hfit HS HS2
        obtain ⟨t, ht⟩ : ∃ t, t = s + x := ⟨_, rfl⟩
        rw [← ht] at CA HE HFS
        clear ht
        go_wp2_with fail
        refine (CA.out _).mono ?_
        rintro e w2 ⟨rfl, hb2⟩
        have HB3 := Lib.hid (bstep HB.out (alloc_below hb2))
        have P3 := ((HP.out.alloc (.cells #[.int .i64 x.num, .int .i64 (x.den : Int)] 24)).keep hb2)
        have Q3 := ((HQ.out.alloc (.cells #[.int .i64 x.num, .int .i64 (x.den : Int)] 24)).keep hb2)
        clear hb2 HB HP HQ p0 p1 pf0 pf1 plt z0 z1 zf0 zf1 zlt y0 y1
        have Q4 := Lib.hid (Q3.far hn1 (.int .i64 t.num) (.int .i64 (t.den : Int)))
        have P4 := Lib.hid (P3.put (.int .i64 t.num) (.int .i64 (t.den : Int)))
        have B4 := Lib.hid (below_set2 HB3.out hle (.int .i64 t.num) (.int .i64 (t.den : Int)))
        obtain ⟨p0, p1, pf0, pf1, plt⟩ := P3
        go_wp2_with fail
        go_roundg (k - (i + 1))
        case measure => have := HGK.out; have := HI.out; omega
        case rel => exact ⟨i + 1, rfl, by omega, by go_num, t, And.intro HFS.out HE.out, Q4, P4, B4⟩
    · have hik : i = k := by omega
      subst hik
      have HE : Hid (sumE q0 rest = some s) := by have := HS.out.2; rw [HK.out, List.drop_length] at this; exact this
      have fs := (rfit_iff s).1 HS.out.1
      have m1 := mul_bd (s.den : Int) ((i : Int) + 1) 1073741824 1000 (by have := rden_pos s; omega) (by omega) (by omega) (by omega)
      have nz : (s.den : Int) * ((i : Int) + 1) ≠ 0 := Int.mul_ne_zero (den_ne s) (by omega)
      simp only [Int.reduceMul] at m1
      have CM := Lib.hid (fun wx => Make_any s.num ((s.den : Int) * ((i : Int) + 1)) wx nz (by omega) (by omega) (by omega) (by omega))
      rw [show Rat.divInt s.num ((s.den : Int) * ((i : Int) + 1)) = mnQ s (i + 1) by rw [← mnQ_parts]; rfl] at CM
      obtain ⟨m11, m12⟩ := m1
      obtain ⟨x, hx⟩ : ∃ x, x = rN (mnQ s (i + 1)) := ⟨_, rfl⟩
      obtain ⟨y, hy⟩ : ∃ y, y = rD (mnQ s (i + 1)) := ⟨_, rfl⟩
      obtain ⟨z, hz⟩ : ∃ z, z = rE (mnQ s (i + 1)) := ⟨_, rfl⟩
      have HM : Hid (mnN S0 (i + 1) = x ∧ mnD S0 (i + 1) = y ∧ mnE S0 (i + 1) = z) := by
        show mnN S0 (i + 1) = x ∧ mnD S0 (i + 1) = y ∧ mnE S0 (i + 1) = z
        rw [HS0.out, HE.out, hx, hy, hz]; exact ⟨rfl, rfl, rfl⟩
      rw [← hx, ← hy, ← hz] at CM
      obtain ⟨p0, p1, pf0, pf1, plt⟩ := HP.out
      clear hx hy hz fs nz hlt hi
      go_wp2_with fail
      refine (CM.out _).mono ?_
      rintro e w2 ⟨rfl, hb2⟩
      have HB3 := Lib.hid (bstep HB.out hb2)
      have Q3 := HQ.out.keep hb2
      clear hb2 HB HP HQ p0 p1 pf0 pf1 plt
      obtain ⟨z0, z1, zf0, zf1, zlt⟩ := Q3
      obtain ⟨s0, s1⟩ := set2 z0 z1 (.int .i64 x) (.int .i64 y)
      go_wp2_with fail
      refine bodyPost_ret (v := .tuple #[.agg #[.int .i64 x, .int .i64 y], .int .i64 z]) (by simp [results, Tryd.results33, go_sem, s0, s1]) rfl ⟨by rw [HM.out.1, HM.out.2.1, HM.out.2.2], ?_⟩
      exact below_set2 HB3.out (Nat.le_refl _) _ _

set_option maxRecDepth 100000 in
set_option maxHeartbeats 4000000 in
theorem mean_in0 (b off c k : Nat) (q0 : Rat) (rest : List Rat) (w : World) (hf : FitAll (q0 :: rest)) (hk : k = rest.length) (hl : k < 1000) (hb : b < w.heap.size) (hr : RowP w b off ((q0 :: rest).map pr)) (hc : k + 1 ≤ c) (hm : c ≤ maxLen) (h1 : c = 1) :
    Calls Tryd.prog 33 #[.slice (some ⟨b, off, none⟩) (k + 1) c] w fun e w' => e = .returned (.tuple #[.agg #[.int .i64 (mnN (sumE q0 rest) (k + 1)), .int .i64 (mnD (sumE q0 rest) (k + 1))], .int .i64 (mnE (sumE q0 rest) (k + 1))]) ∧ Below w.heap.size w w' := by
  have hS : ∀ wx, Below w.heap.size w wx → SlP wx (some ⟨b, off, none⟩) (k + 1) ((q0 :: rest).map pr) := fun wx hx => ⟨by simp [hk], by omega, fun _ => ⟨b, off, rfl, Nat.lt_of_lt_of_le hb hx.size, hr.keep hx hb⟩⟩
  have hck : ckE ((q0 :: rest).map pr) = 0 := by
    unfold ckE
    rw [good_of hf]
    rw [if_neg (by decide), if_neg (by simp; omega), if_neg (by simp)]
  have CK : Hid (∀ wx, Below w.heap.size w wx → Calls Tryd.prog 49 #[.slice (some ⟨b, off, none⟩) (k + 1) c] wx fun e w' => e = .returned (.int .i64 0) ∧ Below wx.heap.size wx w') := by
    intro wx hx
    have := checkList_any _ _ c _ wx (hS wx hx)
    rw [hck] at this
    exact this
  have r0 : w.cell? ⟨b, off, none⟩ = some (.int .i64 q0.num) ∧ w.cell? ⟨b, off + 1, none⟩ = some (.int .i64 (q0.den : Int)) := hr 0 (by simp)
  have HR : Hid (∀ i (h : i < rest.length), w.cell? ⟨b, (off) + i * 2, none⟩ = some (.int .i64 rest[i].num) ∧ w.cell? ⟨b, (off) + i * 2 + 1, none⟩ = some (.int .i64 (rest[i].den : Int))) := by
    intro i hi
    omega
  have HF0 : Hid (rfit q0 = true) := hf q0 (List.mem_cons_self ..)
  have HFR : Hid (∀ i (h : i < rest.length), rfit rest[i] = true) := fun i h => hf _ (List.mem_cons_of_mem _ (List.getElem_mem h))
  have HK := Lib.hid hk
  obtain ⟨S0, hS0⟩ : ∃ t, t = sumE q0 rest := ⟨_, rfl⟩
  rw [← hS0]
  have HS0 := Lib.hid hS0
  clear hS hck hf hk hr hm hS0
  subst h1
  go_enter Tryd.func33, Tryd.ntmps33
  go_wp2_with fail
  refine (CK.out _ (below1 _ _)).mono ?_
  rintro e w1 ⟨rfl, hb1⟩
  have R1 := At2.of hb1
  have HB1 := Lib.hid (alloc_below hb1)
  clear hb1
  have x0 := (HB1.out.cell (p := ⟨b, off, none⟩) hb).trans r0.1
  have x1 := (HB1.out.cell (p := ⟨b, off + 1, none⟩) hb).trans r0.2
  have hb' : b < w1.heap.size := Nat.lt_of_lt_of_le hb HB1.out.size
  have hn1 : ¬ w.heap.size = w1.heap.size := by have := R1.lt; omega
  have hn2 : ¬ w1.heap.size = w.heap.size := by have := R1.lt; omega
  have Q1 := R1.alloc (.cells #[.int .i64 q0.num, .int .i64 (q0.den : Int)] 24)
  have P1 := At2.new w1 (.int .i64 q0.num) (.int .i64 (q0.den : Int)) 24
  have HB2 := Lib.hid (bstep HB1.out (below1 w1 (.cells #[.int .i64 q0.num, .int .i64 (q0.den : Int)] 24)))
  have hle : w.heap.size ≤ w1.heap.size := HB1.out.size
  go_wp2_with fail
  clear x0 x1 r0
  go_loopg [21] k (fun m v21 wr => ∃ i : Nat, m = k - i ∧ i ≤ k ∧ v21 = .int .i64 (i : Int) ∧ ∃ s : Rat, Hid (rfit s = true ∧ sumE q0 rest = sumE s (rest.drop i)) ∧ Hid (At2 wr w.heap.size (.int .i64 0) (.int .i64 0)) ∧ Hid (At2 wr w1.heap.size (.int .i64 s.num) (.int .i64 (s.den : Int))) ∧ Hid (Below w.heap.size w wr))
  case atStart => exact ⟨0, rfl, Nat.zero_le _, rfl, q0, And.intro HF0.out rfl, Lib.hid Q1, Lib.hid P1, HB2⟩
  case round =>
    obtain ⟨i, hgk, hi, rfl, s, HS, HQ, HP, HB⟩ := hrel
    have HGK := Lib.hid hgk
    clear hgk Q1 P1 HB2 R1 HB1
    by_cases hlt : i < k
    · exact absurd hlt (by omega)
    · have hik : i = k := by omega
      subst hik
      have HE : Hid (sumE q0 rest = some s) := by have := HS.out.2; rw [HK.out, List.drop_length] at this; exact this
      have fs := (rfit_iff s).1 HS.out.1
      have m1 := mul_bd (s.den : Int) ((i : Int) + 1) 1073741824 1000 (by have := rden_pos s; omega) (by omega) (by omega) (by omega)
      have nz : (s.den : Int) * ((i : Int) + 1) ≠ 0 := Int.mul_ne_zero (den_ne s) (by omega)
      simp only [Int.reduceMul] at m1
      have CM := Lib.hid (fun wx => Make_any s.num ((s.den : Int) * ((i : Int) + 1)) wx nz (by omega) (by omega) (by omega) (by omega))
      rw [show Rat.divInt s.num ((s.den : Int) * ((i : Int) + 1)) = mnQ s (i + 1) by rw [← mnQ_parts]; rfl] at CM
      obtain ⟨m11, m12⟩ := m1
      obtain ⟨x, hx⟩ : ∃ x, x = rN (mnQ s (i + 1)) := ⟨_, rfl⟩
      obtain ⟨y, hy⟩ : ∃ y, y = rD (mnQ s (i + 1)) := ⟨_, rfl⟩
      obtain ⟨z, hz⟩ : ∃ z, z = rE (mnQ s (i + 1)) := ⟨_, rfl⟩
      have HM : Hid (mnN S0 (i + 1) = x ∧ mnD S0 (i + 1) = y ∧ mnE S0 (i + 1) = z) := by
        show mnN S0 (i + 1) = x ∧ mnD S0 (i + 1) = y ∧ mnE S0 (i + 1) = z
        rw [HS0.out, HE.out, hx, hy, hz]; exact ⟨rfl, rfl, rfl⟩
      rw [← hx, ← hy, ← hz] at CM
      obtain ⟨p0, p1, pf0, pf1, plt⟩ := HP.out
      clear hx hy hz fs nz hlt hi
      go_wp2_with fail
      refine (CM.out _).mono ?_
      rintro e w2 ⟨rfl, hb2⟩
      have HB3 := Lib.hid (bstep HB.out hb2)
      have Q3 := HQ.out.keep hb2
      clear hb2 HB HP HQ p0 p1 pf0 pf1 plt
      obtain ⟨z0, z1, zf0, zf1, zlt⟩ := Q3
      obtain ⟨s0, s1⟩ := set2 z0 z1 (.int .i64 x) (.int .i64 y)
      go_wp2_with fail
      refine bodyPost_ret (v := .tuple #[.agg #[.int .i64 x, .int .i64 y], .int .i64 z]) (by simp [results, Tryd.results33, go_sem, s0, s1]) rfl ⟨by rw [HM.out.1, HM.out.2.1, HM.out.2.2], ?_⟩
      exact below_set2 HB3.out (Nat.le_refl _) _ _

theorem mean_ok (A : Option Addr) (n c : Nat) (qs : List Rat) (w : World) (hf : FitAll qs) (h1 : 1 ≤ n) (h2 : n ≤ 1000) (h : SlP w A n (qs.map pr)) (hc : n ≤ c) (hm : c ≤ maxLen) :
    Calls Tryd.prog 33 #[.slice A n c] w fun e w' => e = .returned (.tuple #[.agg #[.int .i64 (mnN (mean qs) n), .int .i64 (mnD (mean qs) n)], .int .i64 (mnE (mean qs) n)]) ∧ Below w.heap.size w w' := by
  obtain ⟨b, off, rfl, hb, hr⟩ := h.row (by omega)
  have hl : n = qs.length := by have := h.len; simpa using this
  match qs, hl with
  | [], hl => simp at hl; omega
  | q0 :: rest, hl =>
    obtain ⟨k, rfl⟩ : ∃ k, n = k + 1 := ⟨n - 1, by omega⟩
    have hk : k = rest.length := by simpa using hl
    by_cases h3 : c = 1
    · exact mean_in0 b off c k q0 rest w hf hk (by omega) hb hr hc hm h3
    · exact mean_in1 b off c k q0 rest w hf hk (by omega) hb hr hc hm h3
theorem mean_bad (A : Option Addr) (n c : Nat) (zs : List (Int × Int)) (w : World) (h : SlP w A n zs) (he : ckE zs ≠ 0) :
    Calls Tryd.prog 33 #[.slice A n c] w fun e w' => e = .returned (.tuple #[.agg #[.int .i64 0, .int .i64 0], .int .i64 (ckE zs)]) ∧ Below w.heap.size w w' := by
  have CK := Lib.hid (fun wx hx => checkList_any A n c zs wx (SlP.keep h hx))
  obtain ⟨r, hr⟩ : ∃ r, r = ckE zs := ⟨_, rfl⟩
  rw [← hr] at CK he ⊢
  have t1 : (r != 0) = true := by rw [bne_iff_ne]; exact he
  clear hr he h
  go_enter Tryd.func33, Tryd.ntmps33
  go_wp2_with fail
  refine (CK.out _ (below1 _ _)).mono ?_
  rintro e w1 ⟨rfl, hb1⟩
  obtain ⟨z0, z1, zf0, zf1, zlt⟩ := At2.of hb1
  have HB1 := Lib.hid (alloc_below hb1)
  clear hb1
  obtain ⟨s0, s1⟩ := set2 z0 z1 (.int .i64 0) (.int .i64 0)
  go_wp2_with fail
  refine bodyPost_ret (v := .tuple #[.agg #[.int .i64 0, .int .i64 0], .int .i64 r]) (by simp [results, Tryd.results33, go_sem, s0, s1]) rfl ⟨rfl, ?_⟩
  exact below_set2 HB1.out (Nat.le_refl _) _ _
end Go.Proofs.YtlcmnfhkicjclaaDoor
