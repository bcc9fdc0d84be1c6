/- Contract of the reference's Median. -/
import Derived.Test.YtlcmnfhkicjclaaDoorRsC
import Derived.Deep.CutRange
namespace Go.Proofs.YtlcmnfhkicjclaaDoor
open Go.RowKit
set_option linter.unusedVariables false

set_option maxRecDepth 100000 in
set_option maxHeartbeats 4000000 in
theorem rmedian_odd (A : Option Addr) (n c : Nat) (qs : List Rat) (w : World) (hf : FitAll qs) (h1 : 1 ≤ n) (h2 : n ≤ 1000) (h : SlP w A n (qs.map pr)) (ho : n % 2 = 1) (z : Rat) (hz : z = (sortQ qs).getD (n / 2) 0) :
    Calls Tryd.prog 34 #[.slice A n c] w fun e w' => e = .returned (.tuple #[.agg #[.int .i64 z.num, .int .i64 (z.den : Int)], .int .i64 0]) ∧ Below w.heap.size w w' := by
  have hl : n = qs.length := by have := h.len; simpa using this
  have hck : ckE (qs.map pr) = 0 := by
    unfold ckE
    rw [good_of hf]
    rw [if_neg (by decide), if_neg (by rw [List.length_map]; omega), if_neg (by rw [List.length_map]; omega)]
  have CK : Hid (∀ wx, Below w.heap.size w wx → Calls Tryd.prog 51 #[.slice A n c] wx fun e w' => e = .returned (.int .i64 0) ∧ Below wx.heap.size wx w') := by
    intro wx hx
    have := given_any _ _ c _ wx (h.keep hx)
    rw [hck] at this
    exact this
  have CS : Hid (∀ wx, Below w.heap.size w wx → Calls Tryd.prog 42 #[.slice A n c] wx fun e w' => ∃ g c', e = .returned (.slice (some ⟨g, 0, none⟩) n c') ∧ n ≤ c' ∧ c' ≤ maxLen ∧ Own wx w' g (sortQ qs)) :=
    fun wx hx => sorted_any A n c qs wx hf h1 (by omega) (h.keep hx)
  obtain ⟨m, hm⟩ : ∃ m, n / 2 = m := ⟨_, rfl⟩
  have hmn : m < n := by omega
  have d1 : Int.tdiv (n : Int) 2 = (m : Int) := by rw [← hm]; rfl
  have d2 : Int.tmod (n : Int) 2 = 1 := by show ((n % 2 : Nat) : Int) = 1; omega
  have d1' : (n : Int) / 2 = (m : Int) := by omega
  have d2' : (n : Int) % 2 = 1 := by omega
  have HZ : Hid (∀ wx g, RowP wx g 0 ((sortQ qs).map pr) → wx.cell? ⟨g, m * 2, none⟩ = some (.int .i64 z.num) ∧ wx.cell? ⟨g, m * 2 + 1, none⟩ = some (.int .i64 (z.den : Int))) := by
    intro wx g hr
    have hlt : m < (sortQ qs).length := by rw [sortQ_len]; omega
    have := hr m (by simpa using hlt)
    rw [hz, hm, List.getD_eq_getElem?_getD, List.getElem?_eq_getElem hlt]
    simpa [pr] using this
  have HB0 := Lib.hid (Below.refl w.heap.size w)
  have HO := Lib.hid ho
  clear hz hck hl hf h hm ho
  go_enter Tryd.func34, Tryd.ntmps34
  go_wp2_with fail
  refine (CK.out _ (below1 _ _)).mono ?_
  rintro e w1 ⟨rfl, hb1⟩
  have R1 := At2.of hb1
  have HB1 := Lib.hid (alloc_below hb1)
  clear hb1
  go_wp2_with fail
  refine (CS.out _ HB1.out).mono ?_
  rintro e w2 ⟨g, c', rfl, g1, g2, hO⟩
  have R2 := R1.keep hO.bel
  have HB2 := Lib.hid (bstep HB1.out hO.bel)
  obtain ⟨x0, x1⟩ := HZ.out w2 g hO.row
  clear hO
  obtain ⟨c0, c1, f0, f1, hz⟩ := R2
  obtain ⟨s0, s1⟩ := set2 c0 c1 (.int .i64 z.num) (.int .i64 (z.den : Int))
  go_wp2_with fail
  refine bodyPost_ret (v := .tuple #[.agg #[.int .i64 z.num, .int .i64 (z.den : Int)], .int .i64 0]) (by simp [results, Tryd.results34, go_sem, s0, s1]) rfl ⟨rfl, ?_⟩
  exact below_set2 HB2.out (Nat.le_refl _) _ _
set_option maxRecDepth 100000 in
set_option maxHeartbeats 4000000 in
theorem rmedian_even (A : Option Addr) (n c : Nat) (qs : List Rat) (w : World) (hf : FitAll qs) (h1 : 1 ≤ n) (h2 : n ≤ 1000) (h : SlP w A n (qs.map pr)) (ho : n % 2 = 0) :
    Calls Tryd.prog 34 #[.slice A n c] w fun e w' => e = .returned (.tuple #[.agg #[.int .i64 (medN (sortQ qs)), .int .i64 (medD (sortQ qs))], .int .i64 (medE (sortQ qs))]) ∧ Below w.heap.size w w' := by
  have hl : n = qs.length := by have := h.len; simpa using this
  have hck : ckE (qs.map pr) = 0 := by
    unfold ckE
    rw [good_of hf]
    rw [if_neg (by decide), if_neg (by rw [List.length_map]; omega), if_neg (by rw [List.length_map]; omega)]
  have CK : Hid (∀ wx, Below w.heap.size w wx → Calls Tryd.prog 51 #[.slice A n c] wx fun e w' => e = .returned (.int .i64 0) ∧ Below wx.heap.size wx w') := by
    intro wx hx
    have := given_any _ _ c _ wx (h.keep hx)
    rw [hck] at this
    exact this
  have CS : Hid (∀ wx, Below w.heap.size w wx → Calls Tryd.prog 42 #[.slice A n c] wx fun e w' => ∃ g c', e = .returned (.slice (some ⟨g, 0, none⟩) n c') ∧ n ≤ c' ∧ c' ≤ maxLen ∧ Own wx w' g (sortQ qs)) :=
    fun wx hx => sorted_any A n c qs wx hf h1 (by omega) (h.keep hx)
  obtain ⟨m, hm⟩ : ∃ m, n / 2 = m + 1 := ⟨n / 2 - 1, by omega⟩
  have hmn : m + 1 < n := by omega
  have d1 : Int.tdiv (n : Int) 2 = (m : Int) + 1 := by show ((n / 2 : Nat) : Int) = _; omega
  have d2 : Int.tmod (n : Int) 2 = 0 := by show ((n % 2 : Nat) : Int) = 0; omega
  have d1' : (n : Int) / 2 = (m : Int) + 1 := by omega
  have d2' : (n : Int) % 2 = 0 := by omega
  have hsl : (sortQ qs).length = n := by rw [sortQ_len]; exact hl.symm
  obtain ⟨u, hu⟩ : ∃ u, u = (sortQ qs).getD m 0 := ⟨_, rfl⟩
  obtain ⟨v, hv⟩ : ∃ v, v = (sortQ qs).getD (m + 1) 0 := ⟨_, rfl⟩
  have e1 : u = (sortQ qs)[m]'(by omega) := by rw [hu, List.getD_eq_getElem?_getD, List.getElem?_eq_getElem (by omega)]; rfl
  have e2 : v = (sortQ qs)[m + 1]'(by omega) := by rw [hv, List.getD_eq_getElem?_getD, List.getElem?_eq_getElem (by omega)]; rfl
  have fu : rfit u = true := by rw [e1]; exact sortQ_fit hf _ (List.getElem_mem _)
  have fv : rfit v = true := by rw [e2]; exact sortQ_fit hf _ (List.getElem_mem _)
  have HZ : Hid (∀ wx g, RowP wx g 0 ((sortQ qs).map pr) → (wx.cell? ⟨g, m * 2, none⟩ = some (.int .i64 u.num) ∧ wx.cell? ⟨g, m * 2 + 1, none⟩ = some (.int .i64 (u.den : Int))) ∧ (wx.cell? ⟨g, (m + 1) * 2, none⟩ = some (.int .i64 v.num) ∧ wx.cell? ⟨g, (m + 1) * 2 + 1, none⟩ = some (.int .i64 (v.den : Int)))) := by
    intro wx g hr
    have a := hr m (by simp; omega)
    have b := hr (m + 1) (by simp; omega)
    rw [e1, e2]
    exact ⟨by simpa [pr] using a, by simpa [pr] using b⟩
  have MD : medN (sortQ qs) = mnN (mean [u, v]) 2 ∧ medD (sortQ qs) = mnD (mean [u, v]) 2 ∧ medE (sortQ qs) = mnE (mean [u, v]) 2 := by
    unfold medN medD medE
    rw [hsl, if_neg (by omega), if_neg (by omega), if_neg (by omega), hm, Nat.add_sub_cancel, ← hu, ← hv]
    exact ⟨rfl, rfl, rfl⟩
  rw [MD.1, MD.2.1, MD.2.2]
  have CA := Lib.hid (fun wx => rAdd u v wx fu fv)
  have CO := Lib.hid (fun wx => rOf_any 2 wx)
  have uw : IntKind.i64.wrap ((m : Int)) = (m : Int) := IntWalk.i64_in _ (by omega)
  have mu1 : (m : Int) < (n : Int) := by omega
  have mu2 : (m : Int) + 1 < (n : Int) := by omega
  have mu3 : (0 : Int) ≤ (m : Int) + 1 := by omega
  have mu4 : (0 : Int) ≤ (m : Int) := by omega
  have unm : (n : Int) ≤ 1000 := by omega
  clear MD hu hv e1 e2 hsl fu fv
  clear hck hl hf h hm ho
  cases hfit : rfit (u + v)
  · have HM : Hid (mnN (mean [u, v]) 2 = 0 ∧ mnD (mean [u, v]) 2 = 0 ∧ mnE (mean [u, v]) 2 = 5) := by
      have e : mean [u, v] = none := sumE_big hfit
      show mnN (mean [u, v]) 2 = 0 ∧ mnD (mean [u, v]) 2 = 0 ∧ mnE (mean [u, v]) 2 = 5
      rw [e]
      exact ⟨rfl, rfl, rfl⟩
    rw [rN_big hfit, rD_big hfit, rE_big hfit] at CA
    clear hfit
    go_enter Tryd.func34, Tryd.ntmps34
    go_wp2_with fail
    refine (CK.out _ (below1 _ _)).mono ?_
    rintro e w1 ⟨rfl, hb1⟩
    have R1 := At2.of hb1
    have HB1 := Lib.hid (alloc_below hb1)
    clear hb1
    go_wp2_with fail
    refine (CS.out _ HB1.out).mono ?_
    rintro e w2 ⟨g, c', rfl, g1, g2, hO⟩
    have R2 := R1.keep hO.bel
    have HB2 := Lib.hid (bstep HB1.out hO.bel)
    have hO := hO.keep ((Below.refl _ w2).drew)
    have HQ := Lib.hid (R1.keep hO.bel)
    have HB := Lib.hid (bstep HB1.out hO.bel)
    obtain ⟨⟨x0, x1⟩, y0, y1⟩ := HZ.out w2.drew g hO.row
    have g3 : g < w2.heap.size := hO.lt
    have HP := Lib.hid ((At2.new w2 (.int .i64 0) (.int .i64 0) 24).keep ((Below.refl _ _).drew))
    have HQa := Lib.hid ((R2.alloc (.cells #[.int .i64 0, .int .i64 0] 24)).keep ((Below.refl _ _).drew))
    have HBa := Lib.hid (bstep (bstep HB2.out (below1 w2 (.cells #[.int .i64 0, .int .i64 0] 24))) ((Below.refl _ _).drew))
    obtain ⟨⟨x0', x1'⟩, y0', y1'⟩ := HZ.out w2 g hO.row
    clear hO
    have hn1 : ¬ w.heap.size = w2.heap.size := by have := R2.lt; omega
    have hn2 : ¬ w2.heap.size = w.heap.size := by have := R2.lt; omega
    have hle : w.heap.size ≤ w2.heap.size := HB2.out.size
    go_upto_region 8 with fail
    go_cut [4, 7] from 27 to 39 (fun v4 v7 wx => v4 = .int .i64 5 ∧ ∃ bx, v7 = .pointer (some ⟨bx, 0, none⟩) ∧ Hid (At2 wx bx (.int .i64 0) (.int .i64 0)) ∧ Hid (At2 wx w.heap.size (.int .i64 0) (.int .i64 0)) ∧ Hid (Below w.heap.size w wx))
    case first =>
      go_region_with
        (first
        | (go_at_call 21; refine (CA.out _).mono ?_; rintro e w3 ⟨rfl, hb3⟩; have HP := Lib.hid (HP.out.keep hb3); have HQ := Lib.hid (HQa.out.keep hb3); have HB := Lib.hid (bstep HBa.out hb3); clear hb3 x0 x1 y0 y1 x0' x1' y0' y1'; obtain ⟨p0, p1, pf0, pf1, plt⟩ := HP.out)
        | (go_at_call 21; refine (CA.out _).mono ?_; rintro e w3 ⟨rfl, hb3⟩; have HQ := Lib.hid (HQ.out.keep hb3); have HB := Lib.hid (bstep HB.out hb3); clear hb3 x0 x1 y0 y1 x0' x1' y0' y1'))
      all_goals
        go_wp2_with fail
        go_meet
      all_goals
        first
        | exact ⟨rfl, _, rfl, Lib.hid (At2.new _ _ _ 24), Lib.hid (HQ.out.alloc _), Lib.hid (bstep HB.out (below1 _ _))⟩
        | exact ⟨rfl, _, rfl, Lib.hid (HP.out.put (.int .i64 0) (.int .i64 0)), Lib.hid (HQ.out.far hn1 (.int .i64 0) (.int .i64 0)), Lib.hid (below_set2 HB.out hle (.int .i64 0) (.int .i64 0))⟩
    case rest =>
      obtain ⟨rfl, bx, rfl, HP2, HQ2, HB2⟩ := hcut
      obtain ⟨z0, z1, zf0, zf1, zlt⟩ := HQ2.out
      obtain ⟨s0, s1⟩ := set2 z0 z1 (.int .i64 0) (.int .i64 0)
      go_wp2_with fail
      refine bodyPost_ret (v := .tuple #[.agg #[.int .i64 0, .int .i64 0], .int .i64 5]) (by simp [results, Tryd.results34, go_sem, s0, s1]) rfl ⟨by rw [HM.out.1, HM.out.2.1, HM.out.2.2], ?_⟩
      exact below_set2 HB2.out (Nat.le_refl _) _ _
  · have hs : mean [u, v] = some (u + v) := (sumE_fit hfit).trans rfl
    rw [rN_fit hfit, rD_fit hfit, rE_fit hfit] at CA
    have CD : Hid (∀ wx, Calls Tryd.prog 24 #[.agg #[.int .i64 (u + v).num, .int .i64 ((u + v).den : Int)], .agg #[.int .i64 2, .int .i64 1]] wx fun e w' => e = .returned (.tuple #[.agg #[.int .i64 (rN (mnQ (u + v) 2)), .int .i64 (rD (mnQ (u + v) 2))], .int .i64 (rE (mnQ (u + v) 2))]) ∧ Below wx.heap.size wx w') := by
      intro wx
      exact rDiv (u + v) (((2 : Nat) : Int) : Rat) wx hfit (int_fit 2 (by omega)) (show ((2 : Nat) : Int) ≠ 0 by omega)
    obtain ⟨x, hx⟩ : ∃ x, x = rN (mnQ (u + v) 2) := ⟨_, rfl⟩
    obtain ⟨y, hy⟩ : ∃ y, y = rD (mnQ (u + v) 2) := ⟨_, rfl⟩
    obtain ⟨z, hz⟩ : ∃ z, z = rE (mnQ (u + v) 2) := ⟨_, rfl⟩
    have HM : Hid (mnN (mean [u, v]) 2 = x ∧ mnD (mean [u, v]) 2 = y ∧ mnE (mean [u, v]) 2 = z) := by
      show mnN (mean [u, v]) 2 = x ∧ mnD (mean [u, v]) 2 = y ∧ mnE (mean [u, v]) 2 = z
      rw [hs, hx, hy, hz]; exact ⟨rfl, rfl, rfl⟩
    rw [← hx, ← hy, ← hz] at CD
    obtain ⟨t, ht⟩ : ∃ t, t = u + v := ⟨_, rfl⟩
    rw [← ht] at CA CD
    clear hfit hs hx hy hz ht
    go_enter Tryd.func34, Tryd.ntmps34
    go_wp2_with fail
    refine (CK.out _ (below1 _ _)).mono ?_
    rintro e w1 ⟨rfl, hb1⟩
    have R1 := At2.of hb1
    have HB1 := Lib.hid (alloc_below hb1)
    clear hb1
    go_wp2_with fail
    refine (CS.out _ HB1.out).mono ?_
    rintro e w2 ⟨g, c', rfl, g1, g2, hO⟩
    have R2 := R1.keep hO.bel
    have HB2 := Lib.hid (bstep HB1.out hO.bel)
    have hO := hO.keep ((Below.refl _ w2).drew)
    have HQ := Lib.hid (R1.keep hO.bel)
    have HB := Lib.hid (bstep HB1.out hO.bel)
    obtain ⟨⟨x0, x1⟩, y0, y1⟩ := HZ.out w2.drew g hO.row
    have g3 : g < w2.heap.size := hO.lt
    have HP := Lib.hid ((At2.new w2 (.int .i64 0) (.int .i64 0) 24).keep ((Below.refl _ _).drew))
    have HQa := Lib.hid ((R2.alloc (.cells #[.int .i64 0, .int .i64 0] 24)).keep ((Below.refl _ _).drew))
    have HBa := Lib.hid (bstep (bstep HB2.out (below1 w2 (.cells #[.int .i64 0, .int .i64 0] 24))) ((Below.refl _ _).drew))
    obtain ⟨⟨x0', x1'⟩, y0', y1'⟩ := HZ.out w2 g hO.row
    clear hO
    have hn1 : ¬ w.heap.size = w2.heap.size := by have := R2.lt; omega
    have hn2 : ¬ w2.heap.size = w.heap.size := by have := R2.lt; omega
    have hle : w.heap.size ≤ w2.heap.size := HB2.out.size
    go_upto_region 8 with fail
    go_cut [4, 7] from 27 to 39 (fun v4 v7 wx => v4 = .int .i64 0 ∧ ∃ bx, v7 = .pointer (some ⟨bx, 0, none⟩) ∧ Hid (At2 wx bx (.int .i64 t.num) (.int .i64 (t.den : Int))) ∧ Hid (At2 wx w.heap.size (.int .i64 0) (.int .i64 0)) ∧ Hid (Below w.heap.size w wx))
    case first =>
      go_region_with
        (first
        | (go_at_call 21; refine (CA.out _).mono ?_; rintro e w3 ⟨rfl, hb3⟩; have HP := Lib.hid (HP.out.keep hb3); have HQ := Lib.hid (HQa.out.keep hb3); have HB := Lib.hid (bstep HBa.out hb3); clear hb3 x0 x1 y0 y1 x0' x1' y0' y1'; obtain ⟨p0, p1, pf0, pf1, plt⟩ := HP.out)
        | (go_at_call 21; refine (CA.out _).mono ?_; rintro e w3 ⟨rfl, hb3⟩; have HQ := Lib.hid (HQ.out.keep hb3); have HB := Lib.hid (bstep HB.out hb3); clear hb3 x0 x1 y0 y1 x0' x1' y0' y1'))
      all_goals
        go_wp2_with fail
        go_meet
      all_goals
        first
        | exact ⟨rfl, _, rfl, Lib.hid (At2.new _ _ _ 24), Lib.hid (HQ.out.alloc _), Lib.hid (bstep HB.out (below1 _ _))⟩
        | exact ⟨rfl, _, rfl, Lib.hid (HP.out.put (.int .i64 t.num) (.int .i64 (t.den : Int))), Lib.hid (HQ.out.far hn1 (.int .i64 t.num) (.int .i64 (t.den : Int))), Lib.hid (below_set2 HB.out hle (.int .i64 t.num) (.int .i64 (t.den : Int)))⟩
    case rest =>
      obtain ⟨rfl, bx, rfl, HP2, HQ2, HB2⟩ := hcut
      have HP := Lib.hid (HP2.out.keep ((Below.refl _ wc).drew))
      have HQ := Lib.hid (HQ2.out.keep ((Below.refl _ wc).drew))
      have HB := Lib.hid (bstep HB2.out ((Below.refl _ wc).drew))
      obtain ⟨p0, p1, pf0, pf1, plt⟩ := HP.out
      obtain ⟨q0, q1, qf0, qf1, qlt⟩ := HQ.out
      go_wp2_with fail
      go_region_with
        (first
        | (go_at_call 52; refine (CO.out _).mono ?_; rintro e w3 ⟨rfl, hb3⟩; have HP := Lib.hid (HP.out.keep hb3); have HQ := Lib.hid (HQ.out.keep hb3); have HB := Lib.hid (bstep HB.out hb3); clear hb3 p0 p1 pf0 pf1 plt q0 q1 qf0 qf1 qlt; obtain ⟨p0, p1, pf0, pf1, plt⟩ := HP.out; obtain ⟨q0, q1, qf0, qf1, qlt⟩ := HQ.out)
        | (go_at_call 24; refine (CD.out _).mono ?_; rintro e w4 ⟨rfl, hb3⟩; have HQ := Lib.hid (HQ.out.keep hb3); have HB := Lib.hid (bstep HB.out hb3); clear hb3 p0 p1 pf0 pf1 plt q0 q1 qf0 qf1 qlt; obtain ⟨q0, q1, qf0, qf1, qlt⟩ := HQ.out))
      all_goals
        obtain ⟨s0, s1⟩ := set2 q0 q1 (.int .i64 x) (.int .i64 y)
        go_wp2_with fail
        refine bodyPost_ret (v := .tuple #[.agg #[.int .i64 x, .int .i64 y], .int .i64 z]) (by simp [results, Tryd.results34, go_sem, s0, s1]) rfl ⟨by rw [HM.out.1, HM.out.2.1, HM.out.2.2], ?_⟩
        exact below_set2 HB.out (Nat.le_refl _) _ _
theorem rmedian_ok (A : Option Addr) (n c : Nat) (qs : List Rat) (w : World) (hf : FitAll qs) (h1 : 1 ≤ n) (h2 : n ≤ 1000) (h : SlP w A n (qs.map pr)) :
    Calls Tryd.prog 34 #[.slice A n c] w fun e w' => e = .returned (.tuple #[.agg #[.int .i64 (medN (sortQ qs)), .int .i64 (medD (sortQ qs))], .int .i64 (medE (sortQ qs))]) ∧ Below w.heap.size w w' := by
  have hl : n = qs.length := by have := h.len; simpa using this
  rcases (show n % 2 = 1 ∨ n % 2 = 0 by omega) with ho | ho
  · have := rmedian_odd A n c qs w hf h1 h2 h ho _ rfl
    unfold medN medD medE
    rw [sortQ_len, ← hl, if_pos ho, if_pos ho, if_pos ho]
    exact this
  · exact rmedian_even A n c qs w hf h1 h2 h ho
theorem rmean_ok (A : Option Addr) (n c : Nat) (qs : List Rat) (w : World) (hf : FitAll qs) (h1 : 1 ≤ n) (h2 : n ≤ 1000) (h : SlP w A n (qs.map pr)) :
    Calls Tryd.prog 35 #[.slice A n c] w fun e w' => e = .returned (.tuple #[.agg #[.int .i64 (mnN (mean qs) n), .int .i64 (mnD (mean qs) n)], .int .i64 (mnE (mean qs) n)]) ∧ Below w.heap.size w w' := by
  obtain ⟨b, off, rfl, hb, hr⟩ := h.row (by omega)
  have hl : n = qs.length := by have := h.len; simpa using this
  have e : sumE 0 qs = mean qs := by
    match qs, hl with
    | [], hl => simp at hl; omega
    | q :: r, hl => exact sumE_zero q r (hf q (List.mem_cons_self ..))
  rw [← e]
  exact rmean_in b off c n qs w hf hl h1 h2 hb hr
end Go.Proofs.YtlcmnfhkicjclaaDoor
