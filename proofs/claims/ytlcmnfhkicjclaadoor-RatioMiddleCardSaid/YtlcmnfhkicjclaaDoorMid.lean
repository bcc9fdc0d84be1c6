/- The walk of almucantarlaw03.RatioMiddle, where the list is good. -/
import Derived.Test.YtlcmnfhkicjclaaDoorRdA
import Derived.Test.YtlcmnfhkicjclaaDoorRsE
import Derived.Test.YtlcmnfhkicjclaaDoorRtW
import Derived.Deep.CutRange
import Derived.Deep.QuietTactic
import Derived.BigQuiet
import Derived.BigRegion
namespace Go.Proofs.YtlcmnfhkicjclaaDoor
open Go.RowKit
set_option linter.unusedVariables false

/-- what the law's variables hold, in a world -/
structure Mb (w0 w : World) (b5 b7 b9 g c : Nat) (x y u v : Int) (s : List Rat) : Prop where
  m5 : At2 w b5 (.int .i64 x) (.int .i64 y)
  m7 : At2 w b7 (.int .i64 u) (.int .i64 v)
  m9 : w.cell? ⟨b9, 0, none⟩ = some (.slice (some ⟨g, 0, none⟩) s.length c)
  l9 : b9 < w.heap.size
  row : RowP w g 0 (s.map pr)
  lg : g < w.heap.size
  bel : Below w0.heap.size w0 w
theorem Mb.keep {w0 w w' : World} {b5 b7 b9 g c : Nat} {x y u v : Int} {s : List Rat} (h : Mb w0 w b5 b7 b9 g c x y u v s) (hb : Below w.heap.size w w') : Mb w0 w' b5 b7 b9 g c x y u v s :=
  ⟨h.m5.keep hb, h.m7.keep hb, (hb.cell (p := ⟨b9, 0, none⟩) h.l9).trans h.m9, Nat.lt_of_lt_of_le h.l9 hb.size, h.row.keep hb h.lg, Nat.lt_of_lt_of_le h.lg hb.size, bstep h.bel hb⟩
/-- what the closure reads: from the variables, behind its own parameter's block -/
theorem Mb.wi {w0 w : World} {b5 b7 b9 g c : Nat} {x y u v : Int} {s : List Rat} (h : Mb w0 w b5 b7 b9 g c x y u v s) (p : Nat) (hp : s.length = p + 1) (a : Rat) :
    Wi w ((w.alloc (.cells #[.int .i64 a.num, .int .i64 (a.den : Int)] 24)).drew) b9 g c p a (s.getD 0 0) (s.getD p 0) := by
  have hk := h.keep (bstep (below1 w (.cells #[.int .i64 a.num, .int .i64 (a.den : Int)] 24)) ((Below.refl _ _).drew))
  have e0 : s.getD 0 0 = s[0]'(by omega) := by rw [List.getD_eq_getElem?_getD, List.getElem?_eq_getElem (by omega)]; rfl
  have e1 : s.getD p 0 = s[p]'(by omega) := by rw [List.getD_eq_getElem?_getD, List.getElem?_eq_getElem (by omega)]; rfl
  have r0 := hk.row 0 (by simp; omega)
  have r1 := hk.row p (by simp; omega)
  rw [e0, e1]
  refine ⟨by rw [hk.m9, hp], (At2.new w _ _ 24).keep ((Below.refl _ _).drew), by simpa [pr] using r0.1, by simpa [pr] using r0.2, by simpa [pr] using r1.1, by simpa [pr] using r1.2, hk.l9, hk.lg, bstep (below1 _ _) ((Below.refl _ _).drew)⟩

/-- two elements exchanged, the same one perhaps -/
def sw2 (ys : List Rat) (a b : Nat) : List Rat := (ys.set a (ga ys b)).set b (ga ys a)
theorem sw2_perm (ys : List Rat) (a b : Nat) (ha : a < ys.length) (hb : b < ys.length) : (sw2 ys a b).Perm ys := by
  unfold sw2
  rw [ga_at ys a ha, ga_at ys b hb]
  exact List.set_set_perm ha hb
theorem Own.sw2 {w0 w : World} {g : Nat} {ys : List Rat} (h : Own w0 w g ys) (a b : Nat) (ha : a < ys.length) (hb : b < ys.length) :
    Own w0 ((((w.setCell ⟨g, a * 2, none⟩ (.int .i64 (ga ys b).num)).setCell ⟨g, a * 2 + 1, none⟩ (.int .i64 ((ga ys b).den : Int))).setCell ⟨g, b * 2, none⟩ (.int .i64 (ga ys a).num)).setCell ⟨g, b * 2 + 1, none⟩ (.int .i64 ((ga ys a).den : Int))) g (sw2 ys a b) :=
  (h.set a ha (ga ys b)).set b (by simpa using hb) (ga ys a)
theorem Own.from {w w0 wx : World} {g : Nat} {ys : List Rat} (h : Own w0 wx g ys) (hb : Below w.heap.size w w0) : Own w wx g ys :=
  ⟨h.row, h.frz, h.lt, Nat.le_trans hb.size h.base, bstep hb h.bel⟩
theorem count_step (P : Rat → Bool) (qs : List Rat) (i : Nat) (hi : i < qs.length) : (qs.take (i + 1)).countP P = (qs.take i).countP P + (if P qs[i] = true then 1 else 0) := by
  rw [List.take_succ_eq_append_getElem hi, List.countP_append, List.countP_singleton]

set_option maxRecDepth 100000 in
set_option maxHeartbeats 8000000 in
theorem mid_good (A OA : Option Addr) (n c mo oc p : Nat) (qs : List Rat) (w : World) (htab : Lib.TabIs Tryd.prog w "internal/strconv.uint64pow10" .u64 Lib.pow10Tab) (hf : FitAll qs) (h : SlP w A n (qs.map pr)) (hn : n = p + 1) (h40 : n ≤ 40) (hc : n ≤ c) (hcm : c ≤ maxLen) (hmo : mo ≤ 60)
    (hO : 0 < mo → ∃ ob oo, OA = some ⟨ob, oo, none⟩ ∧ ob < w.heap.size ∧ ∀ j, j < mo → ∃ k : Int, 0 ≤ k ∧ k ≤ 255 ∧ w.cell? ⟨ob, oo + j, none⟩ = some (.int .u8 k)) :
    Calls Tryd.prog 11 #[.slice A n c, .slice OA mo oc] w fun e w' => e = .returned (.bool true) ∧ Below w.heap.size w w' := by
  have CA := Lib.hid (fun wx (hb : Below w.heap.size w wx) => awake_any wx (Lib.tabBelow_of_tabIs htab wx hb))
  have hl : n = qs.length := by have := h.len; simpa using this
  have CV : Hid (∀ wx, Below w.heap.size w wx → Calls Tryd.prog 41 #[.slice A n c] wx fun e w' => e = .returned (.bool true) ∧ Below wx.heap.size wx w') := by
    intro wx hx
    have := rvall_any A n c _ wx (h.keep hx)
    rw [good_of hf] at this
    exact this
  have C1 : Hid (∀ wx, Below w.heap.size w wx → Calls Tryd.prog 32 #[.slice A n c] wx fun e w' => e = .returned (.tuple #[.agg #[.int .i64 (medN (sortQ qs)), .int .i64 (medD (sortQ qs))], .int .i64 (medE (sortQ qs))]) ∧ Below wx.heap.size wx w') := fun wx hx => median_ok A n c qs wx hf (by omega) (by omega) (h.keep hx)
  have C2 : Hid (∀ wx, Below w.heap.size w wx → Calls Tryd.prog 33 #[.slice A n c] wx fun e w' => e = .returned (.tuple #[.agg #[.int .i64 (mnN (mean qs) n), .int .i64 (mnD (mean qs) n)], .int .i64 (mnE (mean qs) n)]) ∧ Below wx.heap.size wx w') := fun wx hx => mean_ok A n c qs wx hf (by omega) (by omega) (h.keep hx) hc hcm
  have CS : Hid (∀ wx, Below w.heap.size w wx → Calls Tryd.prog 42 #[.slice A n c] wx fun e w' => ∃ g c', e = .returned (.slice (some ⟨g, 0, none⟩) n c') ∧ n ≤ c' ∧ c' ≤ maxLen ∧ Own wx w' g (sortQ qs)) := fun wx hx => sorted_any A n c qs wx hf (by omega) (by omega) (h.keep hx)
  have CC : Hid (∀ wx, Below w.heap.size w wx → Calls Tryd.prog 31 #[.slice A n c] wx fun e w' => ∃ g c', e = .returned (.slice (some ⟨g, 0, none⟩) n c') ∧ n ≤ c' ∧ c' ≤ maxLen ∧ Own wx w' g qs) := by
    intro wx hx
    refine (clone_any _ A n c wx (h.keep hx) (by omega) (by omega)).mono ?_
    rintro e w' ⟨g, c', rfl, g1, g2, g3, g4, hr, hz, hb⟩
    exact ⟨g, c', rfl, g3, g4, ⟨hr, hz, g2, g1, hb⟩⟩
  have CM : Hid (∀ wx g c' ys, List.Perm ys qs → Own w wx g ys → n ≤ c' → c' ≤ maxLen → Calls Tryd.prog 32 #[.slice (some ⟨g, 0, none⟩) n c'] wx fun e w' => e = .returned (.tuple #[.agg #[.int .i64 (medN (sortQ qs)), .int .i64 (medD (sortQ qs))], .int .i64 (medE (sortQ qs))]) ∧ Below wx.heap.size wx w') := by
    intro wx g c' ys hp hO h1 h2
    have hly : n = ys.length := by rw [hp.length_eq]; exact hl
    have := median_ok (some ⟨g, 0, none⟩) n c' ys wx (fun q hq => hf q (hp.mem_iff.1 hq)) (by omega) (by omega) ⟨by simp [← hly], by unfold maxLen; omega, fun _ => ⟨g, 0, rfl, hO.lt, hO.row⟩⟩
    rw [sortQ_congr hp] at this
    exact this
  have CW : Hid (∀ wx b5 b7 b9 g c' x y u v a, Mb w wx b5 b7 b9 g c' x y u v (sortQ qs) → rfit a = true → (sortQ qs).getD 0 0 ≤ a → a ≤ (sortQ qs).getD p 0 → Calls Tryd.prog 43 #[.agg #[.int .i64 a.num, .int .i64 (a.den : Int)], .pointer (some ⟨b9, 0, none⟩)] wx fun e w' => e = .returned (.bool true) ∧ Below wx.heap.size wx w') := by
    intro wx b5 b7 b9 g c' x y u v a hM fa h1 h2
    have hsl : (sortQ qs).length = p + 1 := by rw [sortQ_len]; omega
    have gf : ∀ k, k < (sortQ qs).length → rfit ((sortQ qs).getD k 0) = true := fun k hk => by
      rw [List.getD_eq_getElem?_getD, List.getElem?_eq_getElem hk]
      exact sortQ_fit hf _ (List.getElem_mem _)
    exact within_ok a _ _ b9 g c' p wx fa (gf 0 (by omega)) (gf p (by omega)) h1 h2 (by omega) (hM.wi p hsl a)
  have MN : Hid (mnE (mean qs) n = 0 → ∃ q : Rat, rfit q = true ∧ (sortQ qs).getD 0 0 ≤ q ∧ q ≤ (sortQ qs).getD p 0 ∧ mnN (mean qs) n = q.num ∧ mnD (mean qs) n = (q.den : Int)) := by
    intro he
    have hb := sortQ_bd qs n hl
    rw [show n - 1 = p by omega] at hb
    exact mean_in hf n hl (by omega) _ _ hb he
  have MD : Hid (medE (sortQ qs) = 0 → ∃ q : Rat, rfit q = true ∧ medN (sortQ qs) = q.num ∧ medD (sortQ qs) = (q.den : Int) ∧ (sortQ qs).getD 0 0 ≤ q ∧ q ≤ (sortQ qs).getD p 0 ∧ 2 * qs.countP (fun x => decide (x < q)) ≤ n ∧ 2 * qs.countP (fun x => decide (q < x)) ≤ n) := by
    intro he
    have := median_in hf n hl (by omega) he
    rw [show n - 1 = p by omega] at this
    exact this
  obtain ⟨lb, lo, rfl, hlb, hlr⟩ := h.row (by omega)
  have HR : Hid (lb < w.heap.size ∧ ∀ i (h : i < qs.length), w.cell? ⟨lb, lo + i * 2, none⟩ = some (.int .i64 qs[i].num) ∧ w.cell? ⟨lb, lo + i * 2 + 1, none⟩ = some (.int .i64 (qs[i].den : Int))) := by
    refine ⟨hlb, ?_⟩
    intro i hi
    have := hlr i (by simpa using hi)
    simpa [pr] using this
  clear hlr hlb
  have SL : Hid ((sortQ qs).length = n) := by show _ = _; rw [sortQ_len]; exact hl.symm
  obtain ⟨s, hs⟩ : ∃ s, s = sortQ qs := ⟨_, rfl⟩
  rw [← hs] at C1 CS CM CW MN MD SL
  obtain ⟨x, hx⟩ : ∃ t, t = medN s := ⟨_, rfl⟩
  obtain ⟨y, hy⟩ : ∃ t, t = medD s := ⟨_, rfl⟩
  obtain ⟨z, hz⟩ : ∃ t, t = medE s := ⟨_, rfl⟩
  obtain ⟨u, hu⟩ : ∃ t, t = mnN (mean qs) n := ⟨_, rfl⟩
  obtain ⟨v, hv⟩ : ∃ t, t = mnD (mean qs) n := ⟨_, rfl⟩
  obtain ⟨f, hff⟩ : ∃ t, t = mnE (mean qs) n := ⟨_, rfl⟩
  rw [← hx, ← hy, ← hz] at C1 CM MD
  rw [← hu, ← hv, ← hff] at C2 MN
  have kn : ((n : Int) == 0) = false := by rw [beq_eq_false_iff_ne]; omega
  have k1 : ¬ (40 : Int) < (n : Int) := by omega
  have k2 : ¬ (60 : Int) < (mo : Int) := by omega
  have k3 : (n : Int) ≤ 40 := by omega
  have HO := Lib.hid hO
  have HN := Lib.hid hn
  have HL := Lib.hid hl
  have HM := Lib.hid hmo
  have HF := Lib.hid hf
  have HS := Lib.hid h
  clear htab hs hx hy hz hu hv hff hO hn hl hmo hf h hc hcm h40
  go_enter Tryd.func11, Tryd.ntmps11
  have HB := Lib.hid (Below.refl w.heap.size w)
  go_wp2_with fail
  refine (CA.out _ HB.out).mono ?_
  rintro e w1 ⟨rfl, hb⟩
  have HB := Lib.hid (bstep HB.out hb)
  clear hb
  go_wp2_with fail
  refine (CV.out _ HB.out).mono ?_
  rintro e w2 ⟨rfl, hb⟩
  have HB := Lib.hid (bstep HB.out hb)
  clear hb
  go_wp2_with fail
  refine (C1.out _ HB.out).mono ?_
  rintro e w3 ⟨rfl, hb⟩
  have HB := Lib.hid (bstep (bstep HB.out hb) (below1 w3 (.cells #[.int .i64 x, .int .i64 y] 24)))
  have X := At2.new w3 (.int .i64 x) (.int .i64 y) 24
  clear hb
  go_wp2_with fail
  refine (C2.out _ HB.out).mono ?_
  rintro e w4 ⟨rfl, hb⟩
  have HB := Lib.hid (bstep (bstep HB.out hb) (below1 w4 (.cells #[.int .i64 u, .int .i64 v] 24)))
  have X := (X.keep hb).alloc (.cells #[.int .i64 u, .int .i64 v] 24)
  have Y := At2.new w4 (.int .i64 u) (.int .i64 v) 24
  clear hb
  go_wp2_with fail
  refine (CS.out _ HB.out).mono ?_
  rintro e w5 ⟨g, c', rfl, g1, g2, hO⟩
  have hb := hO.bel
  have HB := Lib.hid (bstep HB.out hb)
  have X := X.keep hb
  have Y := Y.keep hb
  have T : Hid (Mb w (w5.alloc (.cells #[.slice (some ⟨g, 0, none⟩) n c'] 40)) w3.heap.size w4.heap.size w5.heap.size g c' x y u v s) := by
    have hb2 := below1 w5 (.cells #[.slice (some ⟨g, 0, none⟩) n c'] 40)
    refine ⟨X.keep hb2, Y.keep hb2, ?_, by simp, hO.row.keep hb2 hO.lt, Nat.lt_of_lt_of_le hO.lt hb2.size, bstep HB.out hb2⟩
    rw [World.cell?_alloc_new, SL.out]; rfl
  clear hb hO X Y HB
  obtain ⟨⟨a0, a1, -, -, -⟩, ⟨b0, b1, -, -, -⟩, d0, -, -, -, -⟩ := id T.out
  go_upto_region 9 with fail
  go_cut [63] from 56 to 63 (fun tv wx => tv = .bool false ∧ Hid (Mb w wx w3.heap.size w4.heap.size w5.heap.size g c' x y u v s))
  case first =>
    by_cases hf0 : f = 0
    · obtain ⟨q, q1, q2, q3, q4, q5⟩ := MN.out hf0
      subst hf0
      have CQ := Lib.hid (CW.out _ _ _ _ _ _ _ _ _ _ q T.out q1 q2 q3)
      rw [← q4, ← q5] at CQ
      clear q1 q2 q3 q4 q5
      go_wp2_with fail
      refine (CQ.out).mono ?_
      rintro e w6 ⟨rfl, hb⟩
      have T := Lib.hid (T.out.keep hb)
      clear hb
      go_wp2_with fail
      go_meet
      case rel => exact ⟨rfl, T.out⟩
    · have hf1 : (f == 0) = false := by rw [beq_eq_false_iff_ne]; exact hf0
      go_wp2_with fail
      go_meet
      case rel => exact ⟨rfl, T.out⟩
  case rest =>
    obtain ⟨rfl, T2⟩ := hcut
    go_wp2_with fail
    refine (CC.out _ T2.out.bel).mono ?_
    rintro e w6 ⟨g6, c6, rfl, g3, g4, hO⟩
    have O6 := Lib.hid hO
    clear hO a0 a1 b0 b1 d0
    have kn0 : ¬ (n : Int) = 0 := by have := HN.out; omega
    go_wp2_with fail
    go_loopg [68] mo (fun m v68 wr => ∃ (i : Nat) (ys : List Rat), m = mo - i ∧ i ≤ mo ∧ v68 = .int .i64 (i : Int) ∧ Hid (List.Perm ys qs) ∧ Hid (Own wc wr g6 ys))
    case atStart => exact ⟨0, qs, rfl, Nat.zero_le _, rfl, Lib.hid (List.Perm.refl _), O6⟩
    case round =>
      obtain ⟨i, ys, hgk, hi, rfl, HP, HQ⟩ := hrel
      have HGK := Lib.hid hgk
      clear hgk O6
      have ki : (i : Int) ≤ 60 := by have := HM.out; omega
      by_cases hlt : i < mo
      · obtain ⟨ob, oo, rfl, hob, hoc⟩ := HO.out (by omega)
        obtain ⟨k, kk1, kk2, hk⟩ := hoc i hlt
        have hobw : ob < wc.heap.size := Nat.lt_of_lt_of_le hob T2.out.bel.size
        have o0 := (HQ.out.bel.cell (p := ⟨ob, oo + i, none⟩) hobw).trans ((T2.out.bel.cell (p := ⟨ob, oo + i, none⟩) hob).trans hk)
        have hny : n = ys.length := by rw [HP.out.length_eq]; exact HL.out
        obtain ⟨a, ha⟩ : ∃ a, a = i % n := ⟨_, rfl⟩
        obtain ⟨b, hb⟩ : ∃ b, b = k.toNat % n := ⟨_, rfl⟩
        have han : a < n := by rw [ha]; exact Nat.mod_lt _ (by omega)
        have hbn : b < n := by rw [hb]; exact Nat.mod_lt _ (by omega)
        have t1 : Int.tmod (i : Int) (n : Int) = (a : Int) := by rw [ha]; rfl
        have t2 : Int.tmod k (n : Int) = (b : Int) := by
          rw [hb]
          have : k = ((k.toNat : Nat) : Int) := by omega
          rw [this]; rfl
        have t1' : (i : Int) % (n : Int) = (a : Int) := by rw [ha]; rfl
        have t2' : k % (n : Int) = (b : Int) := by
          rw [hb]
          have : k = ((k.toNat : Nat) : Int) := by omega
          rw [this]; rfl
        have xa : (a : Int) < (n : Int) := by omega
        have xb : (b : Int) < (n : Int) := by omega
        have hI := Lib.hid hlt
        have HAB := Lib.hid (And.intro (show a < ys.length by omega) (show b < ys.length by omega))
        clear ha hb han hbn hob hoc hk hobw hny
        go_wp2_with fail
        go_quiet (fail)
        go_wp2_with fail
        obtain ⟨x, hx⟩ : ∃ x, x = ga ys a := ⟨_, rfl⟩
        by_cases hab : a = b
        · subst hab
          obtain ⟨wq, hwq⟩ : ∃ wq, wq = wr.drewN nq := ⟨_, rfl⟩
          rw [← hwq]
          have HQ := Lib.hid (show Own wc wq g6 ys from hwq ▸ HQ.out.keep (below_drewN _ _ _))
          clear hwq
          have HW : Hid (Own wc ((((wq.setCell ⟨g6, a * 2, none⟩ (.int .i64 x.num)).setCell ⟨g6, a * 2 + 1, none⟩ (.int .i64 (x.den : Int))).setCell ⟨g6, a * 2, none⟩ (.int .i64 x.num)).setCell ⟨g6, a * 2 + 1, none⟩ (.int .i64 (x.den : Int))) g6 (sw2 ys a a)) := by
            have := HQ.out.sw2 a a HAB.out.1 HAB.out.2
            rw [← hx] at this
            exact this
          have HP2 : Hid (List.Perm (sw2 ys a a) qs) := (sw2_perm ys a a HAB.out.1 HAB.out.2).trans HP.out
          obtain ⟨a0', a1'⟩ := HQ.out.at a HAB.out.1
          rw [← hx] at a0' a1'
          have a0 : wq.drew.cell? ⟨g6, a * 2, none⟩ = some (.int .i64 x.num) := a0'
          have a1 : wq.drew.cell? ⟨g6, a * 2 + 1, none⟩ = some (.int .i64 (x.den : Int)) := a1'
          have z0' := HQ.out.frz (a * 2)
          have z1' := HQ.out.frz (a * 2 + 1)
          have z0 : wq.drew.frozen? ⟨g6, a * 2, none⟩ = false := z0'
          have z1 : wq.drew.frozen? ⟨g6, a * 2 + 1, none⟩ = false := z1'
          clear hx
          go_wp2_with fail
          go_region
          all_goals
            go_wp2_with fail
            go_roundg (mo - (i + 1))
            case measure => have := HGK.out; have := hI.out; omega
            case rel => exact ⟨i + 1, sw2 ys a a, rfl, by have := hI.out; omega, by go_num, HP2.out, HW.out.keep ((Below.refl _ _).drew)⟩
        · obtain ⟨y, hy⟩ : ∃ y, y = ga ys b := ⟨_, rfl⟩
          have hba : ¬ b = a := fun e => hab e.symm
          obtain ⟨wq, hwq⟩ : ∃ wq, wq = wr.drewN nq := ⟨_, rfl⟩
          rw [← hwq]
          have HQ := Lib.hid (show Own wc wq g6 ys from hwq ▸ HQ.out.keep (below_drewN _ _ _))
          clear hwq
          have HW : Hid (Own wc ((((wq.setCell ⟨g6, a * 2, none⟩ (.int .i64 y.num)).setCell ⟨g6, a * 2 + 1, none⟩ (.int .i64 (y.den : Int))).setCell ⟨g6, b * 2, none⟩ (.int .i64 x.num)).setCell ⟨g6, b * 2 + 1, none⟩ (.int .i64 (x.den : Int))) g6 (sw2 ys a b)) := by
            have := HQ.out.sw2 a b HAB.out.1 HAB.out.2
            rw [← hx, ← hy] at this
            exact this
          have HP2 : Hid (List.Perm (sw2 ys a b) qs) := (sw2_perm ys a b HAB.out.1 HAB.out.2).trans HP.out
          obtain ⟨a0', a1'⟩ := HQ.out.at a HAB.out.1
          obtain ⟨b0', b1'⟩ := HQ.out.at b HAB.out.2
          rw [← hx] at a0' a1'
          rw [← hy] at b0' b1'
          have a0 : wq.drew.cell? ⟨g6, a * 2, none⟩ = some (.int .i64 x.num) := a0'
          have a1 : wq.drew.cell? ⟨g6, a * 2 + 1, none⟩ = some (.int .i64 (x.den : Int)) := a1'
          have b0 : wq.drew.cell? ⟨g6, b * 2, none⟩ = some (.int .i64 y.num) := b0'
          have b1 : wq.drew.cell? ⟨g6, b * 2 + 1, none⟩ = some (.int .i64 (y.den : Int)) := b1'
          have z0' := HQ.out.frz (a * 2)
          have z1' := HQ.out.frz (a * 2 + 1)
          have z2' := HQ.out.frz (b * 2)
          have z3' := HQ.out.frz (b * 2 + 1)
          have z0 : wq.drew.frozen? ⟨g6, a * 2, none⟩ = false := z0'
          have z1 : wq.drew.frozen? ⟨g6, a * 2 + 1, none⟩ = false := z1'
          have z2 : wq.drew.frozen? ⟨g6, b * 2, none⟩ = false := z2'
          have z3 : wq.drew.frozen? ⟨g6, b * 2 + 1, none⟩ = false := z3'
          clear hx hy
          go_wp2_with fail
          go_region
          all_goals
            go_wp2_with fail
            go_roundg (mo - (i + 1))
            case measure => have := HGK.out; have := hI.out; omega
            case rel => exact ⟨i + 1, sw2 ys a b, rfl, by have := hI.out; omega, by go_num, HP2.out, HW.out.keep ((Below.refl _ _).drew)⟩
      · have hi' : i = mo := by omega
        subst hi'
        have OW := HQ.out.from T2.out.bel
        have CMx := Lib.hid (CM.out _ g6 c6 ys HP.out OW g3 g4)
        have T := Lib.hid (T2.out.keep HQ.out.bel)
        clear OW HP HQ T2
        go_wp2_with fail
        refine (CMx.out).mono ?_
        rintro e w7 ⟨rfl, hb⟩
        have T := Lib.hid ((T.out.keep hb).keep (below1 w7 (.cells #[.int .i64 x, .int .i64 y] 24)))
        have Z := At2.new w7 (.int .i64 x) (.int .i64 y) 24
        obtain ⟨f0, f1, -, -, -⟩ := id Z
        obtain ⟨⟨a0, a1, -, -, -⟩, ⟨b0, b1, -, -, -⟩, d0, -, -, -, -⟩ := id T.out
        clear hb CMx Z
        by_cases hz : z = 0
        · obtain ⟨q, q1, q2, q3, q4, q5, q6, q7⟩ := MD.out hz
          subst hz
          have CQ : Hid (∀ wx, Mb w wx w3.heap.size w4.heap.size w5.heap.size g c' x y u v s → Calls Tryd.prog 43 #[.agg #[.int .i64 x, .int .i64 y], .pointer (some ⟨w5.heap.size, 0, none⟩)] wx fun e w' => e = .returned (.bool true) ∧ Below wx.heap.size wx w') := by
            intro wx hM
            rw [q2, q3]
            exact CW.out wx _ _ _ _ _ _ _ _ _ q hM q1 q4 q5
          have CC2 : Hid (∀ i (h : i < qs.length) wx, Calls Tryd.prog 30 #[.agg #[.int .i64 qs[i].num, .int .i64 (qs[i].den : Int)], .agg #[.int .i64 x, .int .i64 y]] wx fun e w' => e = .returned (.int .i64 (rcmp qs[i] q)) ∧ Below wx.heap.size wx w') := by
            intro i h wx
            rw [q2, q3]
            exact rCmp qs[i] q wx (HF.out _ (List.getElem_mem _)) q1
          have QQ := Lib.hid (And.intro q6 q7)
          clear q1 q2 q3 q4 q5 q6 q7
          go_wp2_with fail
          go_loopg [18, 19, 114] n (fun m v18 v19 v114 wr => ∃ (j L M : Nat), m = n - j ∧ j ≤ n ∧ v114 = .int .i64 (j : Int) ∧ v18 = .int .i64 (L : Int) ∧ v19 = .int .i64 (M : Int) ∧ Hid (L = (qs.take j).countP (fun x => decide (x < q)) ∧ M = (qs.take j).countP (fun x => decide (q < x))) ∧ Hid (Mb w wr w3.heap.size w4.heap.size w5.heap.size g c' x y u v s))
          case atStart => exact ⟨0, 0, 0, rfl, Nat.zero_le _, rfl, rfl, rfl, And.intro rfl rfl, T⟩
          case round =>
            obtain ⟨j, L, M, hgk, hj, rfl, rfl, rfl, HC, HT⟩ := hrel
            have HGK := Lib.hid hgk
            clear hgk T a0 a1 b0 b1 d0 f0 f1
            have hL : L ≤ j := by rw [HC.out.1]; exact Nat.le_trans List.countP_le_length (by simp; omega)
            have hM : M ≤ j := by rw [HC.out.2]; exact Nat.le_trans List.countP_le_length (by simp; omega)
            have kj : (j : Int) ≤ 40 := by omega
            have kL : (L : Int) ≤ 40 := by omega
            have kM : (M : Int) ≤ 40 := by omega
            by_cases hlt : j < n
            · have hjl : j < qs.length := by have := HL.out; omega
              obtain ⟨t, ht⟩ : ∃ t, t = qs[j] := ⟨_, rfl⟩
              have y0 := HR.out.2 j hjl
              have C5 := Lib.hid (CC2.out j hjl)
              have HE := Lib.hid (And.intro (count_step (fun x => decide (x < q)) qs j hjl) (count_step (fun x => decide (q < x)) qs j hjl))
              rw [← ht] at y0 C5 HE
              have l0 := (HT.out.bel.cell (p := ⟨lb, lo + j * 2, none⟩) HR.out.1).trans y0.1
              have l1 := (HT.out.bel.cell (p := ⟨lb, lo + j * 2 + 1, none⟩) HR.out.1).trans y0.2
              have hlb : lb < wr.heap.size := Nat.lt_of_lt_of_le HR.out.1 HT.out.bel.size
              have T := Lib.hid (HT.out.keep (below1 wr (.cells #[.int .i64 t.num, .int .i64 (t.den : Int)] 24)))
              have Z := At2.new wr (.int .i64 t.num) (.int .i64 (t.den : Int)) 24
              obtain ⟨f0, f1, -, -, -⟩ := id Z
              obtain ⟨⟨a0, a1, -, -, -⟩, -, -, -, -, -, -⟩ := id T.out
              have RL := rcmp_lt t q
              have RG : 0 < rcmp t q ↔ q < t := by rw [rcmp_anti, ← rcmp_lt q t]; constructor <;> intro h <;> omega
              obtain ⟨r, hr⟩ : ∃ r, r = rcmp t q := ⟨_, rfl⟩
              rw [← hr] at C5 RL RG
              have HI := Lib.hid hlt
              clear ht y0 hjl Z hr HT hj hL hM
              by_cases r1 : r < 0
              · have r2 : ¬ r > 0 := by omega
                have r2' : ¬ 0 < r := by omega
                have HD : Hid (L + 1 = (qs.take (j + 1)).countP (fun x => decide (x < q)) ∧ M = (qs.take (j + 1)).countP (fun x => decide (q < x))) := by
                  show L + 1 = _ ∧ M = _
                  rw [HE.out.1, HE.out.2, ← HC.out.1, ← HC.out.2, if_pos (by simpa using RL.1 r1), if_neg (by simpa using fun h => r2' (RG.2 h))]
                  exact ⟨rfl, rfl⟩
                clear RL RG
                go_wp2_with fail
                refine (C5.out _).mono ?_
                rintro e w8 ⟨rfl, hb⟩
                have T := Lib.hid (T.out.keep hb)
                clear hb a0 a1 f0 f1 l0 l1
                go_wp2_with fail
                go_roundg (n - (j + 1))
                case measure => have := HGK.out; have := HI.out; omega
                case rel => exact ⟨j + 1, L + 1, M, rfl, by have := HI.out; omega, by go_num, by go_num, rfl, HD, T⟩
              · by_cases r2 : 0 < r
                · have HD : Hid (L = (qs.take (j + 1)).countP (fun x => decide (x < q)) ∧ M + 1 = (qs.take (j + 1)).countP (fun x => decide (q < x))) := by
                    show L = _ ∧ M + 1 = _
                    rw [HE.out.1, HE.out.2, ← HC.out.1, ← HC.out.2, if_neg (by simpa using fun h => r1 (RL.2 h)), if_pos (by simpa using RG.1 r2)]
                    exact ⟨rfl, rfl⟩
                  clear RL RG
                  go_wp2_with fail
                  refine (C5.out _).mono ?_
                  rintro e w8 ⟨rfl, hb⟩
                  have T := Lib.hid (T.out.keep hb)
                  clear hb a0 a1 f0 f1 l0 l1
                  go_wp2_with fail
                  go_roundg (n - (j + 1))
                  case measure => have := HGK.out; have := HI.out; omega
                  case rel => exact ⟨j + 1, L, M + 1, rfl, by have := HI.out; omega, by go_num, rfl, by go_num, HD, T⟩
                · have HD : Hid (L = (qs.take (j + 1)).countP (fun x => decide (x < q)) ∧ M = (qs.take (j + 1)).countP (fun x => decide (q < x))) := by
                    show L = _ ∧ M = _
                    rw [HE.out.1, HE.out.2, ← HC.out.1, ← HC.out.2, if_neg (by simpa using fun h => r1 (RL.2 h)), if_neg (by simpa using fun h => r2 (RG.2 h))]
                    exact ⟨rfl, rfl⟩
                  clear RL RG
                  go_wp2_with fail
                  refine (C5.out _).mono ?_
                  rintro e w8 ⟨rfl, hb⟩
                  have T := Lib.hid (T.out.keep hb)
                  clear hb a0 a1 f0 f1 l0 l1
                  go_wp2_with fail
                  go_roundg (n - (j + 1))
                  case measure => have := HGK.out; have := HI.out; omega
                  case rel => exact ⟨j + 1, L, M, rfl, by have := HI.out; omega, by go_num, rfl, rfl, HD, T⟩
            · have hj' : j = n := by omega
              subst hj'
              have HD : Hid (2 * L ≤ j ∧ 2 * M ≤ j) := by
                have h1 := HC.out
                rw [HL.out, List.take_length] at h1
                show 2 * L ≤ j ∧ 2 * M ≤ j
                rw [h1.1, h1.2]
                exact QQ.out
              have m1 : 2 * (L : Int) ≤ (j : Int) := by have := HD.out.1; omega
              have m2 : 2 * (M : Int) ≤ (j : Int) := by have := HD.out.2; omega
              have C6 := Lib.hid (CQ.out _ HT.out)
              obtain ⟨⟨a0, a1, -, -, -⟩, -, -, -, -, -, -⟩ := id HT.out
              go_wp2_with fail
              refine (C6.out).mono ?_
              rintro e w8 ⟨rfl, hb⟩
              have HB := Lib.hid (bstep HT.out.bel hb)
              clear hb
              go_wp2_with fail
              go_ret
              exact ⟨rfl, HB.out⟩
        · have hz1 : (z != 0) = true := by rw [bne_iff_ne]; exact hz
          go_wp2_with fail
          go_ret
          exact ⟨rfl, T.out.bel⟩
end Go.Proofs.YtlcmnfhkicjclaaDoor
