/- The contract of Parse. -/
import Derived.Test.YtfknmceffkagaaaDoorDecI
import Derived.WalkSmall
namespace Go.Proofs.YtfknmceffkagaaaDoor.dc
open Go.RowKit
set_option linter.unusedVariables false

/-- the one package-level variable of the library that the program names: its cell holds a number -/
def HasMax (w : World) : Prop := ∃ m : Int, w.cell? ⟨1, 0, none⟩ = some (.int .i64 m)
theorem HasMax.pos {w : World} (h : HasMax w) : 1 < w.heap.size := by obtain ⟨m, hm⟩ := h; exact World.block_lt_of_cell? _ _ hm
theorem HasMax.below {w w' : World} (h : HasMax w) (hb : Below w.heap.size w w') : HasMax w' := by
  have hp := h.pos
  obtain ⟨m, hm⟩ := h
  exact ⟨m, (hb.cell (p := ⟨1, 0, none⟩) hp).trans hm⟩

/-- what Parse's callees say, with names for their results -/
structure PParts (s u wh fr ms all : ByteArray) (ng pt bw bf bm : Bool) (v : Int) (d : Nat) : Prop where
  c1 : ∀ wx, Calls Tryd.prog 59 #[.string s, .string ⟨#[45]⟩] wx fun e w' => e = .returned (.tuple #[.string u, .bool ng]) ∧ wx = w'
  c2 : ∀ wx, HasMax wx → Calls Tryd.prog 41 #[.string u, .string ⟨#[46]⟩] wx fun e w' => e = .returned (.tuple #[.string wh, .string fr, .bool pt]) ∧ ∃ n, wx.drewN n = w'
  c3 : ∀ wx, Calls Tryd.prog 60 #[.string wh] wx fun e w' => e = .returned (.bool bw) ∧ wx = w'
  c4 : ∀ wx, Calls Tryd.prog 61 #[.string fr, .int .i64 (d : Int)] wx fun e w' => e = .returned (.bool bf) ∧ wx = w'
  c5 : fr.size ≤ d → ∀ wx, Calls Tryd.prog 62 #[.string ⟨#[48]⟩, .int .i64 ((d : Int) - fr.size)] wx fun e w' => e = .returned (.string ms) ∧ Below wx.heap.size wx w'
  c6 : bw = true → (pt = true → bf = true) → ∀ wx, Calls Tryd.prog 63 #[.string (wh ++ fr ++ ms)] wx fun e w' => e = .returned (.tuple #[.int .i64 v, .bool bm]) ∧ wx = w'
  ptf : pt = false → fr.size = 0
  bff : bf = true → fr.size ≤ d
  szs : wh.size + fr.size ≤ s.size
  szm : ms.size ≤ 9

theorem pparts (s : ByteArray) (d : Nat) (hs : s.size < 4294967281) (hd : d ≤ 9) :
    ∃ u wh fr ms all, PParts s u wh fr ms all (Lib.hasPrefix s.data.toList [45]) (Lib.cut (pU s.data.toList) [46]).2.2 (whlB (Lib.cut (pU s.data.toList) [46]).1) (frcB (Lib.cut (pU s.data.toList) [46]).2.1 d) (magB (pAll s.data.toList d)) (magV (pAll s.data.toList d)) d := by
  have hl := pU_len s.data.toList
  have hcl := cut_len (pU s.data.toList)
  rw [← Lib.size_eq] at hl
  refine ⟨⟨(pU s.data.toList).toArray⟩, ⟨(Lib.cut (pU s.data.toList) [46]).1.toArray⟩, ⟨(Lib.cut (pU s.data.toList) [46]).2.1.toArray⟩, ⟨(List.replicate (d - (Lib.cut (pU s.data.toList) [46]).2.1.length) 48).toArray⟩, ⟨#[]⟩, ?_⟩
  have z1 : (⟨(Lib.cut (pU s.data.toList) [46]).1.toArray⟩ : ByteArray).size = (Lib.cut (pU s.data.toList) [46]).1.length := by rw [Lib.size_eq]
  have z2 : (⟨(Lib.cut (pU s.data.toList) [46]).2.1.toArray⟩ : ByteArray).size = (Lib.cut (pU s.data.toList) [46]).2.1.length := by rw [Lib.size_eq]
  have z3 : (⟨(List.replicate (d - (Lib.cut (pU s.data.toList) [46]).2.1.length) 48).toArray⟩ : ByteArray).size = d - (Lib.cut (pU s.data.toList) [46]).2.1.length := by rw [Lib.size_eq]; simp
  have zu : (⟨(pU s.data.toList).toArray⟩ : ByteArray).size = (pU s.data.toList).length := by rw [Lib.size_eq]
  constructor
  · intro wx
    exact (Tryd.strings_CutPrefix s ⟨#[45]⟩ wx).mono fun _ _ h => ⟨h.1, h.2.symm⟩
  · rintro wx ⟨m, hm⟩
    exact (Tryd.strings_Cut ⟨(pU s.data.toList).toArray⟩ ⟨#[46]⟩ m wx (by rw [zu]; omega) hm).mono fun _ _ h => ⟨h.1, by obtain ⟨n, hn⟩ := h.2; exact ⟨n, hn.symm⟩⟩
  · intro wx
    exact isWhole_any _ wx (by rw [z1]; omega)
  · intro wx
    exact isFraction_any _ d wx (by rw [z2]; omega)
  · intro hfd wx
    rw [z2] at hfd
    have e : ((d : Int) - ((⟨(Lib.cut (pU s.data.toList) [46]).2.1.toArray⟩ : ByteArray).size : Int)) = ((d - (Lib.cut (pU s.data.toList) [46]).2.1.length : Nat) : Int) := by rw [z2]; omega
    rw [e]
    have c := Tryd.strings_Repeat ⟨#[48]⟩ (d - (Lib.cut (pU s.data.toList) [46]).2.1.length) wx (by omega) (by show 1 * _ ≤ _; omega)
    refine c.mono fun _ _ h => ⟨?_, h.2⟩
    rw [h.1, show (ByteArray.mk #[48]).data.toList = [48] from rfl, rep48]
  · intro hbw hpf wx
    rw [ba_app, ba_app]
    have c := magnitude_any ⟨(pAll s.data.toList d).toArray⟩ wx (by
      rw [Lib.size_eq]; unfold pAll; simp; omega) (by
      have h1 := whlB_all hbw
      have h2 : (Lib.cut (pU s.data.toList) [46]).2.1.all isDig = true := by
        cases hp : (Lib.cut (pU s.data.toList) [46]).2.2
        · rw [cut_no _ hp]; rfl
        · exact (frcB_all (hpf hp)).1
      unfold pAll
      simp only [List.all_append, h1, h2, Bool.true_and]
      simp [isDig])
    exact c
  · intro hp
    rw [z2, cut_no _ hp]; rfl
  · intro hb
    rw [z2]; exact (frcB_all hb).2
  · rw [z1, z2]; omega
  · rw [z3]; omega

set_option maxRecDepth 100000 in
set_option maxHeartbeats 1000000 in
theorem parse_any (s : ByteArray) (d : Nat) (w : World) (hm : HasMax w) (hs : s.size < 4294967281) (hd : d ≤ 9) :
    Calls Tryd.prog 52 #[.string s, .int .i64 (d : Int)] w fun e w' => e = .returned (.tuple #[.int .i64 (pVal s.data.toList d), .int .i64 (pErr s.data.toList d)]) ∧ Below w.heap.size w w' := by
  have hv := vd_yes (d := (d : Int)) (by omega) (by omega)
  obtain ⟨u, wh, fr, ms, all, hP⟩ := pparts s d hs hd
  obtain ⟨pe, hpe⟩ : ∃ x, x = pErr s.data.toList d := ⟨_, rfl⟩
  obtain ⟨pv, hpv⟩ : ∃ x, x = pVal s.data.toList d := ⟨_, rfl⟩
  rw [← hpe, ← hpv]
  unfold pVal at hpv
  rw [← hpe] at hpv
  unfold pErr at hpe
  unfold magV at hP
  have hvb : magB (pAll s.data.toList d) = true → val (pAll s.data.toList d) ≤ 1152921504606846976 := by intro h; simpa [magB] using h
  generalize Lib.hasPrefix s.data.toList [45] = ng at *
  generalize (Lib.cut (pU s.data.toList) [46]).2.2 = pt at *
  generalize whlB (Lib.cut (pU s.data.toList) [46]).1 = bw at *
  generalize frcB (Lib.cut (pU s.data.toList) [46]).2.1 d = bf at *
  generalize magB (pAll s.data.toList d) = bm at *
  generalize val (pAll s.data.toList d) = vv at *
  have hsz := hP.szs
  have hszm := hP.szm
  have HP := Lib.hid hP
  have HM := Lib.hid hm
  clear hP hm
  cases bw
  · obtain rfl : pe = 7 := by rw [hpe]; simp
    obtain rfl : pv = 0 := by rw [hpv]; simp
    clear hpe hpv
    go_enter Tryd.func52, Tryd.ntmps52
    go_wp2_with (first | (go_at_call 54; refine (vd_any _ _).mono ?_; rintro e w' ⟨rfl, rfl⟩) | (go_at_call 59; refine (HP.out.c1 _).mono ?_; rintro e w' ⟨rfl, rfl⟩) | (go_at_call 41; refine (HP.out.c2 _ HM.out).mono ?_; rintro e w' ⟨rfl, n, rfl⟩) | (go_at_call 60; refine (HP.out.c3 _).mono ?_; rintro e w' ⟨rfl, rfl⟩))
    go_ret2
    exact ⟨rfl, below_drewN (Below.refl _ _) _⟩
  · cases pt
    · have hfd : fr.size ≤ d := by have := HP.out.ptf rfl; omega
      have hpb : false = true → bf = true := fun h => by cases h
      cases bm
      · obtain rfl : pe = 5 := by rw [hpe]; simp
        obtain rfl : pv = 0 := by rw [hpv]; simp
        clear hpe hpv
        go_enter Tryd.func52, Tryd.ntmps52
        go_wp2_with (first | (go_at_call 54; refine (vd_any _ _).mono ?_; rintro e w' ⟨rfl, rfl⟩) | (go_at_call 59; refine (HP.out.c1 _).mono ?_; rintro e w' ⟨rfl, rfl⟩) | (go_at_call 41; refine (HP.out.c2 _ HM.out).mono ?_; rintro e w' ⟨rfl, n, rfl⟩) | (go_at_call 60; refine (HP.out.c3 _).mono ?_; rintro e w' ⟨rfl, rfl⟩) | (go_at_call 61; refine (HP.out.c4 _).mono ?_; rintro e w' ⟨rfl, rfl⟩) | (go_at_call 62; refine (HP.out.c5 hfd _).mono ?_; rintro e w1 ⟨rfl, hb1⟩) | (go_at_call 63; refine (HP.out.c6 rfl hpb _).mono ?_; rintro e w' ⟨rfl, rfl⟩))
        go_ret2
        exact ⟨rfl, (below_drewN (Below.refl w.heap.size w) n).trans hb1⟩
      · obtain rfl : pe = 0 := by rw [hpe]; simp
        have hvv := hvb rfl
        cases ng
        · obtain rfl : pv = vv := by rw [hpv]; simp
          clear hpe hpv hvb
          go_enter Tryd.func52, Tryd.ntmps52
          go_wp2_with (first | (go_at_call 54; refine (vd_any _ _).mono ?_; rintro e w' ⟨rfl, rfl⟩) | (go_at_call 59; refine (HP.out.c1 _).mono ?_; rintro e w' ⟨rfl, rfl⟩) | (go_at_call 41; refine (HP.out.c2 _ HM.out).mono ?_; rintro e w' ⟨rfl, n, rfl⟩) | (go_at_call 60; refine (HP.out.c3 _).mono ?_; rintro e w' ⟨rfl, rfl⟩) | (go_at_call 61; refine (HP.out.c4 _).mono ?_; rintro e w' ⟨rfl, rfl⟩) | (go_at_call 62; refine (HP.out.c5 hfd _).mono ?_; rintro e w1 ⟨rfl, hb1⟩) | (go_at_call 63; refine (HP.out.c6 rfl hpb _).mono ?_; rintro e w' ⟨rfl, rfl⟩))
          go_ret2
          exact ⟨rfl, (below_drewN (Below.refl w.heap.size w) n).trans hb1⟩
        · obtain rfl : pv = -(vv : Int) := by rw [hpv]; simp
          clear hpe hpv hvb
          go_enter Tryd.func52, Tryd.ntmps52
          go_wp2_with (first | (go_at_call 54; refine (vd_any _ _).mono ?_; rintro e w' ⟨rfl, rfl⟩) | (go_at_call 59; refine (HP.out.c1 _).mono ?_; rintro e w' ⟨rfl, rfl⟩) | (go_at_call 41; refine (HP.out.c2 _ HM.out).mono ?_; rintro e w' ⟨rfl, n, rfl⟩) | (go_at_call 60; refine (HP.out.c3 _).mono ?_; rintro e w' ⟨rfl, rfl⟩) | (go_at_call 61; refine (HP.out.c4 _).mono ?_; rintro e w' ⟨rfl, rfl⟩) | (go_at_call 62; refine (HP.out.c5 hfd _).mono ?_; rintro e w1 ⟨rfl, hb1⟩) | (go_at_call 63; refine (HP.out.c6 rfl hpb _).mono ?_; rintro e w' ⟨rfl, rfl⟩))
          go_ret2
          exact ⟨rfl, (below_drewN (Below.refl w.heap.size w) n).trans hb1⟩
    · cases bf
      · obtain rfl : pe = 7 := by rw [hpe]; simp
        obtain rfl : pv = 0 := by rw [hpv]; simp
        clear hpe hpv
        go_enter Tryd.func52, Tryd.ntmps52
        go_wp2_with (first | (go_at_call 54; refine (vd_any _ _).mono ?_; rintro e w' ⟨rfl, rfl⟩) | (go_at_call 59; refine (HP.out.c1 _).mono ?_; rintro e w' ⟨rfl, rfl⟩) | (go_at_call 41; refine (HP.out.c2 _ HM.out).mono ?_; rintro e w' ⟨rfl, n, rfl⟩) | (go_at_call 60; refine (HP.out.c3 _).mono ?_; rintro e w' ⟨rfl, rfl⟩) | (go_at_call 61; refine (HP.out.c4 _).mono ?_; rintro e w' ⟨rfl, rfl⟩))
        go_ret2
        exact ⟨rfl, below_drewN (Below.refl _ _) _⟩
      · have hfd : fr.size ≤ d := HP.out.bff rfl
        cases bm
        · obtain rfl : pe = 5 := by rw [hpe]; simp
          obtain rfl : pv = 0 := by rw [hpv]; simp
          clear hpe hpv
          go_enter Tryd.func52, Tryd.ntmps52
          go_wp2_with (first | (go_at_call 54; refine (vd_any _ _).mono ?_; rintro e w' ⟨rfl, rfl⟩) | (go_at_call 59; refine (HP.out.c1 _).mono ?_; rintro e w' ⟨rfl, rfl⟩) | (go_at_call 41; refine (HP.out.c2 _ HM.out).mono ?_; rintro e w' ⟨rfl, n, rfl⟩) | (go_at_call 60; refine (HP.out.c3 _).mono ?_; rintro e w' ⟨rfl, rfl⟩) | (go_at_call 61; refine (HP.out.c4 _).mono ?_; rintro e w' ⟨rfl, rfl⟩) | (go_at_call 62; refine (HP.out.c5 hfd _).mono ?_; rintro e w1 ⟨rfl, hb1⟩) | (go_at_call 63; refine (HP.out.c6 rfl (fun _ => rfl) _).mono ?_; rintro e w' ⟨rfl, rfl⟩))
          go_ret2
          exact ⟨rfl, (below_drewN (Below.refl w.heap.size w) n).trans hb1⟩
        · obtain rfl : pe = 0 := by rw [hpe]; simp
          have hvv := hvb rfl
          cases ng
          · obtain rfl : pv = vv := by rw [hpv]; simp
            clear hpe hpv hvb
            go_enter Tryd.func52, Tryd.ntmps52
            go_wp2_with (first | (go_at_call 54; refine (vd_any _ _).mono ?_; rintro e w' ⟨rfl, rfl⟩) | (go_at_call 59; refine (HP.out.c1 _).mono ?_; rintro e w' ⟨rfl, rfl⟩) | (go_at_call 41; refine (HP.out.c2 _ HM.out).mono ?_; rintro e w' ⟨rfl, n, rfl⟩) | (go_at_call 60; refine (HP.out.c3 _).mono ?_; rintro e w' ⟨rfl, rfl⟩) | (go_at_call 61; refine (HP.out.c4 _).mono ?_; rintro e w' ⟨rfl, rfl⟩) | (go_at_call 62; refine (HP.out.c5 hfd _).mono ?_; rintro e w1 ⟨rfl, hb1⟩) | (go_at_call 63; refine (HP.out.c6 rfl (fun _ => rfl) _).mono ?_; rintro e w' ⟨rfl, rfl⟩))
            go_ret2
            exact ⟨rfl, (below_drewN (Below.refl w.heap.size w) n).trans hb1⟩
          · obtain rfl : pv = -(vv : Int) := by rw [hpv]; simp
            clear hpe hpv hvb
            go_enter Tryd.func52, Tryd.ntmps52
            go_wp2_with (first | (go_at_call 54; refine (vd_any _ _).mono ?_; rintro e w' ⟨rfl, rfl⟩) | (go_at_call 59; refine (HP.out.c1 _).mono ?_; rintro e w' ⟨rfl, rfl⟩) | (go_at_call 41; refine (HP.out.c2 _ HM.out).mono ?_; rintro e w' ⟨rfl, n, rfl⟩) | (go_at_call 60; refine (HP.out.c3 _).mono ?_; rintro e w' ⟨rfl, rfl⟩) | (go_at_call 61; refine (HP.out.c4 _).mono ?_; rintro e w' ⟨rfl, rfl⟩) | (go_at_call 62; refine (HP.out.c5 hfd _).mono ?_; rintro e w1 ⟨rfl, hb1⟩) | (go_at_call 63; refine (HP.out.c6 rfl (fun _ => rfl) _).mono ?_; rintro e w' ⟨rfl, rfl⟩))
            go_ret2
            exact ⟨rfl, (below_drewN (Below.refl w.heap.size w) n).trans hb1⟩

end Go.Proofs.YtfknmceffkagaaaDoor.dc
