/- Contract of ratio.Median. -/
import Derived.Test.YtlcmnfhkicjclaaDoorRtO
namespace Go.Proofs.YtlcmnfhkicjclaaDoor
open Go.RowKit
set_option linter.unusedVariables false

/-- the median's answer, from the elements in ascending order -/
def medN (s : List Rat) : Int := if s.length % 2 = 1 then (s.getD (s.length / 2) 0).num else mnN (mean [s.getD (s.length / 2 - 1) 0, s.getD (s.length / 2) 0]) 2
def medD (s : List Rat) : Int := if s.length % 2 = 1 then ((s.getD (s.length / 2) 0).den : Int) else mnD (mean [s.getD (s.length / 2 - 1) 0, s.getD (s.length / 2) 0]) 2
def medE (s : List Rat) : Int := if s.length % 2 = 1 then 0 else mnE (mean [s.getD (s.length / 2 - 1) 0, s.getD (s.length / 2) 0]) 2

set_option maxRecDepth 100000 in
set_option maxHeartbeats 4000000 in
theorem median_odd (A : Option Addr) (n c : Nat) (qs : List Rat) (w : World) (hf : FitAll qs) (h1 : 1 ≤ n) (h2 : n ≤ 1000) (h : SlP w A n (qs.map pr)) (ho : n % 2 = 1) (z : Rat) (hz : z = (sortQ qs).getD (n / 2) 0) :
    Calls Tryd.prog 32 #[.slice A n c] w fun e w' => e = .returned (.tuple #[.agg #[.int .i64 z.num, .int .i64 (z.den : Int)], .int .i64 0]) ∧ Below w.heap.size w w' := by
  have hl : n = qs.length := by have := h.len; simpa using this
  have hck : ckE (qs.map pr) = 0 := by
    unfold ckE
    rw [good_of hf]
    rw [if_neg (by decide), if_neg (by rw [List.length_map]; omega), if_neg (by rw [List.length_map]; omega)]
  have CK : Hid (∀ wx, Below w.heap.size w wx → Calls Tryd.prog 49 #[.slice A n c] wx fun e w' => e = .returned (.int .i64 0) ∧ Below wx.heap.size wx w') := by
    intro wx hx
    have := checkList_any _ _ c _ wx (h.keep hx)
    rw [hck] at this
    exact this
  have CC : Hid (∀ wx, Below w.heap.size w wx → Calls Tryd.prog 31 #[.slice A n c] wx fun e w' => ∃ g c', e = .returned (.slice (some ⟨g, 0, none⟩) n c') ∧ wx.heap.size ≤ g ∧ g < w'.heap.size ∧ n ≤ c' ∧ c' ≤ maxLen ∧ RowP w' g 0 (qs.map pr) ∧ (∀ j, w'.frozen? ⟨g, j, none⟩ = false) ∧ Below wx.heap.size wx w') := fun wx hx => clone_any _ A n c wx (h.keep hx) (by omega) (by omega)
  have CS : Hid (∀ g c' wx B w0, RowP wx g 0 (qs.map pr) → (∀ j, wx.frozen? ⟨g, j, none⟩ = false) → g < wx.heap.size → Below B w0 wx → B ≤ g → Calls Tryd.prog 50 #[.slice (some ⟨g, 0, none⟩) n c', .func (.func 47) #[] #[]] wx fun e w' => e = .returned (.tuple #[]) ∧ RowP w' g 0 ((sortQ qs).map pr) ∧ g < w'.heap.size ∧ Below B w0 w') :=
    fun g c' wx B w0 a1 a2 a3 a4 a5 => sort_any qs g n c' wx hf hl (by omega) a1 a2 a3 B w0 a4 a5
  obtain ⟨m, hm⟩ : ∃ m, n / 2 = m := ⟨_, rfl⟩
  have hmn : m < n := by omega
  have d1 : Int.tdiv (n : Int) 2 = (m : Int) := by rw [← hm]; rfl
  have d2 : Int.tmod (n : Int) 2 = 1 := by show ((n % 2 : Nat) : Int) = 1; omega
  have d1' : (n : Int) / 2 = (m : Int) := by omega
  have d2' : (n : Int) % 2 = 1 := by omega
  have HZ : Hid (∀ wx g, RowP wx g 0 ((sortQ qs).map pr) → wx.cell? ⟨g, m * 2, none⟩ = some (.int .i64 z.num) ∧ wx.cell? ⟨g, m * 2 + 1, none⟩ = some (.int .i64 (z.den : Int))) := by
    intro wx g hr
    have hlt : m < (sortQ qs).length := by rw [sortQ_len]; omega
    have := hr m (by simpa using hlt)
    rw [hz, hm, List.getD_eq_getElem?_getD, List.getElem?_eq_getElem hlt]
    simpa [pr] using this
  have HB0 := Lib.hid (Below.refl w.heap.size w)
  have HO := Lib.hid ho
  clear hz hck hl hf h hm ho
  go_enter Tryd.func32, Tryd.ntmps32
  go_wp2_with fail
  refine (CK.out _ (below1 _ _)).mono ?_
  rintro e w1 ⟨rfl, hb1⟩
  have R1 := At2.of hb1
  have HB1 := Lib.hid (alloc_below hb1)
  clear hb1
  go_wp2_with fail
  refine (CC.out _ HB1.out).mono ?_
  rintro e w2 ⟨g, c', rfl, g1, g2, g3, g4, hr, hfz, hb2⟩
  have R2 := R1.keep hb2
  have HRow := Lib.hid hr
  have HFz := Lib.hid hfz
  have HB2 := Lib.hid hb2
  have hg : w.heap.size < g := by have := R1.lt; omega
  clear hr hfz hb2 g4
  go_wp2_with fail
  refine (CS.out g c' _ _ _ HRow.out HFz.out g2 HB2.out g1).mono ?_
  rintro e w3 ⟨rfl, hr3, g5, hb3⟩
  have R3 := R1.keep hb3
  have HB3 := Lib.hid (bstep HB1.out hb3)
  obtain ⟨x0, x1⟩ := HZ.out w3 g hr3
  clear hb3 hr3 R2 HRow HFz HB2
  obtain ⟨c0, c1, f0, f1, hz⟩ := R3
  obtain ⟨s0, s1⟩ := set2 c0 c1 (.int .i64 z.num) (.int .i64 (z.den : Int))
  go_wp2_with fail
  refine bodyPost_ret (v := .tuple #[.agg #[.int .i64 z.num, .int .i64 (z.den : Int)], .int .i64 0]) (by simp [results, Tryd.results32, go_sem, s0, s1]) rfl ⟨rfl, ?_⟩
  exact below_set2 HB3.out (Nat.le_refl _) _ _
set_option maxRecDepth 100000 in
set_option maxHeartbeats 4000000 in
theorem median_even (A : Option Addr) (n c : Nat) (qs : List Rat) (w : World) (hf : FitAll qs) (h1 : 1 ≤ n) (h2 : n ≤ 1000) (h : SlP w A n (qs.map pr)) (ho : n % 2 = 0) :
    Calls Tryd.prog 32 #[.slice A n c] w fun e w' => e = .returned (.tuple #[.agg #[.int .i64 (medN (sortQ qs)), .int .i64 (medD (sortQ qs))], .int .i64 (medE (sortQ qs))]) ∧ Below w.heap.size w w' := by
  have hl : n = qs.length := by have := h.len; simpa using this
  have hck : ckE (qs.map pr) = 0 := by
    unfold ckE
    rw [good_of hf]
    rw [if_neg (by decide), if_neg (by rw [List.length_map]; omega), if_neg (by rw [List.length_map]; omega)]
  have CK : Hid (∀ wx, Below w.heap.size w wx → Calls Tryd.prog 49 #[.slice A n c] wx fun e w' => e = .returned (.int .i64 0) ∧ Below wx.heap.size wx w') := by
    intro wx hx
    have := checkList_any _ _ c _ wx (h.keep hx)
    rw [hck] at this
    exact this
  have CC : Hid (∀ wx, Below w.heap.size w wx → Calls Tryd.prog 31 #[.slice A n c] wx fun e w' => ∃ g c', e = .returned (.slice (some ⟨g, 0, none⟩) n c') ∧ wx.heap.size ≤ g ∧ g < w'.heap.size ∧ n ≤ c' ∧ c' ≤ maxLen ∧ RowP w' g 0 (qs.map pr) ∧ (∀ j, w'.frozen? ⟨g, j, none⟩ = false) ∧ Below wx.heap.size wx w') := fun wx hx => clone_any _ A n c wx (h.keep hx) (by omega) (by omega)
  have CS : Hid (∀ g c' wx B w0, RowP wx g 0 (qs.map pr) → (∀ j, wx.frozen? ⟨g, j, none⟩ = false) → g < wx.heap.size → Below B w0 wx → B ≤ g → Calls Tryd.prog 50 #[.slice (some ⟨g, 0, none⟩) n c', .func (.func 47) #[] #[]] wx fun e w' => e = .returned (.tuple #[]) ∧ RowP w' g 0 ((sortQ qs).map pr) ∧ g < w'.heap.size ∧ Below B w0 w') :=
    fun g c' wx B w0 a1 a2 a3 a4 a5 => sort_any qs g n c' wx hf hl (by omega) a1 a2 a3 B w0 a4 a5
  obtain ⟨m, hm⟩ : ∃ m, n / 2 = m + 1 := ⟨n / 2 - 1, by omega⟩
  have hmn : m + 1 < n := by omega
  have d1 : Int.tdiv (n : Int) 2 = (m : Int) + 1 := by show ((n / 2 : Nat) : Int) = _; omega
  have d2 : Int.tmod (n : Int) 2 = 0 := by show ((n % 2 : Nat) : Int) = 0; omega
  have d1' : (n : Int) / 2 = (m : Int) + 1 := by omega
  have d2' : (n : Int) % 2 = 0 := by omega
  have hsl : (sortQ qs).length = n := by rw [sortQ_len]; exact hl.symm
  obtain ⟨u, hu⟩ : ∃ u, u = (sortQ qs).getD m 0 := ⟨_, rfl⟩
  obtain ⟨v, hv⟩ : ∃ v, v = (sortQ qs).getD (m + 1) 0 := ⟨_, rfl⟩
  have e1 : u = (sortQ qs)[m]'(by omega) := by rw [hu, List.getD_eq_getElem?_getD, List.getElem?_eq_getElem (by omega)]; rfl
  have e2 : v = (sortQ qs)[m + 1]'(by omega) := by rw [hv, List.getD_eq_getElem?_getD, List.getElem?_eq_getElem (by omega)]; rfl
  have fu : rfit u = true := by rw [e1]; exact sortQ_fit hf _ (List.getElem_mem _)
  have fv : rfit v = true := by rw [e2]; exact sortQ_fit hf _ (List.getElem_mem _)
  have CM : Hid (∀ wx g c', RowP wx g 0 ((sortQ qs).map pr) → g < wx.heap.size → n ≤ c' → c' ≤ maxLen → Calls Tryd.prog 33 #[.slice (some ⟨g, m * 2, none⟩) 2 (c' - m)] wx fun e w' => e = .returned (.tuple #[.agg #[.int .i64 (medN (sortQ qs)), .int .i64 (medD (sortQ qs))], .int .i64 (medE (sortQ qs))]) ∧ Below wx.heap.size wx w') := by
    intro wx g c' hr hg hc hm2
    have hp := hr.part m 2 (by simp; omega)
    have e3 : ((((sortQ qs).map pr).drop m).take 2) = [u, v].map pr := by
      rw [← List.map_drop, ← List.map_take]
      congr 1
      rw [List.drop_eq_getElem_cons (show m < (sortQ qs).length by omega), List.drop_eq_getElem_cons (show m + 1 < (sortQ qs).length by omega), ← e1, ← e2]
      rfl
    rw [e3, Nat.zero_add] at hp
    have hmean := mean_ok (some ⟨g, m * 2, none⟩) 2 (c' - m) [u, v] wx (fun q hq => by
      rcases List.mem_cons.1 hq with rfl | hq
      · exact fu
      · rcases List.mem_cons.1 hq with rfl | hq
        · exact fv
        · simp at hq) (by omega) (by omega) ⟨rfl, by unfold maxLen; omega, fun _ => ⟨g, m * 2, rfl, hg, hp⟩⟩ (by omega) (by omega)
    unfold medN medD medE
    rw [hsl, if_neg (by omega), if_neg (by omega), if_neg (by omega), hm, Nat.add_sub_cancel, ← hu, ← hv]
    exact hmean
  obtain ⟨x, hx⟩ : ∃ x, x = medN (sortQ qs) := ⟨_, rfl⟩
  obtain ⟨y, hy⟩ : ∃ y, y = medD (sortQ qs) := ⟨_, rfl⟩
  obtain ⟨z, hz⟩ : ∃ z, z = medE (sortQ qs) := ⟨_, rfl⟩
  rw [← hx, ← hy, ← hz] at CM ⊢
  clear hx hy hz hu hv e1 e2 fu fv hsl
  have HB0 := Lib.hid (Below.refl w.heap.size w)
  have HO := Lib.hid ho
  clear hck hl hf h hm ho
  go_enter Tryd.func32, Tryd.ntmps32
  go_wp2_with fail
  refine (CK.out _ (below1 _ _)).mono ?_
  rintro e w1 ⟨rfl, hb1⟩
  have R1 := At2.of hb1
  have HB1 := Lib.hid (alloc_below hb1)
  clear hb1
  go_wp2_with fail
  refine (CC.out _ HB1.out).mono ?_
  rintro e w2 ⟨g, c', rfl, g1, g2, g3, g4, hr, hfz, hb2⟩
  have R2 := R1.keep hb2
  have HRow := Lib.hid hr
  have HFz := Lib.hid hfz
  have HB2 := Lib.hid hb2
  have hg : w.heap.size < g := by have := R1.lt; omega
  have G4 := Lib.hid g4
  clear hr hfz hb2 g4
  go_wp2_with fail
  refine (CS.out g c' _ _ _ HRow.out HFz.out g2 HB2.out g1).mono ?_
  rintro e w3 ⟨rfl, hr3, g5, hb3⟩
  have R3 := R1.keep hb3
  have HB3 := Lib.hid (bstep HB1.out hb3)
  have HR3 := Lib.hid hr3
  clear hb3 hr3 R2 HRow HFz HB2
  go_wp2_with fail
  rw [show m + 1 + 1 - m = 2 by omega]
  refine (CM.out w3 g c' HR3.out g5 g3 G4.out).mono ?_
  rintro e w4 ⟨rfl, hb4⟩
  have R4 := R3.keep hb4
  have HB4 := Lib.hid (bstep HB3.out hb4)
  clear hb4 HR3
  obtain ⟨c0, c1, f0, f1, hz⟩ := R4
  obtain ⟨s0, s1⟩ := set2 c0 c1 (.int .i64 x) (.int .i64 y)
  go_wp2_with fail
  refine bodyPost_ret (v := .tuple #[.agg #[.int .i64 x, .int .i64 y], .int .i64 z]) (by simp [results, Tryd.results32, go_sem, s0, s1]) rfl ⟨rfl, ?_⟩
  exact below_set2 HB4.out (Nat.le_refl _) _ _

theorem median_ok (A : Option Addr) (n c : Nat) (qs : List Rat) (w : World) (hf : FitAll qs) (h1 : 1 ≤ n) (h2 : n ≤ 1000) (h : SlP w A n (qs.map pr)) :
    Calls Tryd.prog 32 #[.slice A n c] w fun e w' => e = .returned (.tuple #[.agg #[.int .i64 (medN (sortQ qs)), .int .i64 (medD (sortQ qs))], .int .i64 (medE (sortQ qs))]) ∧ Below w.heap.size w w' := by
  have hl : n = qs.length := by have := h.len; simpa using this
  rcases (show n % 2 = 1 ∨ n % 2 = 0 by omega) with ho | ho
  · have := median_odd A n c qs w hf h1 h2 h ho _ rfl
    unfold medN medD medE
    rw [sortQ_len, ← hl, if_pos ho, if_pos ho, if_pos ho]
    exact this
  · exact median_even A n c qs w hf h1 h2 h ho
theorem median_bad (A : Option Addr) (n c : Nat) (zs : List (Int × Int)) (w : World) (h : SlP w A n zs) (he : ckE zs ≠ 0) :
    Calls Tryd.prog 32 #[.slice A n c] w fun e w' => e = .returned (.tuple #[.agg #[.int .i64 0, .int .i64 0], .int .i64 (ckE zs)]) ∧ Below w.heap.size w w' := by
  have CK := Lib.hid (fun wx hx => checkList_any A n c zs wx (SlP.keep h hx))
  obtain ⟨r, hr⟩ : ∃ r, r = ckE zs := ⟨_, rfl⟩
  rw [← hr] at CK he ⊢
  have t1 : (r != 0) = true := by rw [bne_iff_ne]; exact he
  clear hr he h
  go_enter Tryd.func32, Tryd.ntmps32
  go_wp2_with fail
  refine (CK.out _ (below1 _ _)).mono ?_
  rintro e w1 ⟨rfl, hb1⟩
  obtain ⟨z0, z1, zf0, zf1, zlt⟩ := At2.of hb1
  have HB1 := Lib.hid (alloc_below hb1)
  clear hb1
  obtain ⟨s0, s1⟩ := set2 z0 z1 (.int .i64 0) (.int .i64 0)
  go_wp2_with fail
  refine bodyPost_ret (v := .tuple #[.agg #[.int .i64 0, .int .i64 0], .int .i64 r]) (by simp [results, Tryd.results32, go_sem, s0, s1]) rfl ⟨rfl, ?_⟩
  exact below_set2 HB1.out (Nat.le_refl _) _ _
end Go.Proofs.YtlcmnfhkicjclaaDoor
