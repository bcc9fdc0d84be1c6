/- Angle: contract of the program's Text. -/
import Derived.Test.YtndcjldnnfhedaaDoorAnW
namespace Go.Proofs.YtndcjldnnfhedaaDoor
open Go.RowKit
set_option linter.unusedVariables false
set_option maxRecDepth 100000

theorem pText_no (n : Int) (w : World) (h : inA n = false) :
    Calls Tryd.prog 55 #[.int .i64 n] w fun e w' => e = .returned (.tuple #[.string ⟨#[]⟩, .int .i64 5]) ∧ Below w.heap.size w w' := by
  have CF := Lib.hid (fun wx => pFits n wx)
  rw [h] at CF
  clear h
  go_enter Tryd.func55, Tryd.ntmps55
  go_wp2_with fail
  refine (CF.out _).mono ?_
  rintro e w1 ⟨rfl, rfl⟩
  go_wp2_with fail
  go_ret2
  exact ⟨rfl, Below.refl _ _⟩
theorem body_parts (N a m f : Nat) (ha : N / 60000 = a) (hm : N % 60000 / 1000 = m) (hf : N % 1000 = f) (h : N ≤ 1099511627776) :
    bodyT N = Lib.decDigits a ++ 45 :: (digs 2 m ++ 46 :: fracT f) := by
  have e := rcnt_digits a (by omega)
  have d := (dec_digs 19 a (by omega)).1
  unfold bodyT
  rw [ha, hm, hf, e, ← d]

set_option maxHeartbeats 4000000 in
theorem pText_p (N : Nat) (w : World) (h : N ≤ 1099511627776) (htab : Tab w) :
    Calls Tryd.prog 55 #[.int .i64 (N : Int)] w fun e w' => e = .returned (.tuple #[.string (ba ([] ++ bodyT N)), .int .i64 0]) ∧ Below w.heap.size w w' := by
  have CF := Lib.hid (fun wx => pFits (N : Int) wx)
  rw [show inA (N : Int) = true from (inA_iff _).2 (by omega)] at CF
  obtain ⟨a, ha⟩ : ∃ a, N / 60000 = a := ⟨_, rfl⟩
  obtain ⟨r, hr⟩ : ∃ r, N % 60000 = r := ⟨_, rfl⟩
  obtain ⟨m, hm⟩ : ∃ m, r / 1000 = m := ⟨_, rfl⟩
  obtain ⟨f, hf⟩ : ∃ f, N % 1000 = f := ⟨_, rfl⟩
  have E := body_parts N a m f ha (by rw [hr]; exact hm) hf h
  have i1 : (N : Int) / 60000 = (a : Int) := by omega
  have i2 : (N : Int) % 60000 = (r : Int) := by omega
  have i3 : (r : Int) / 1000 = (m : Int) := by omega
  have i4 : (N : Int) % 1000 = (f : Int) := by omega
  have j1 : a ≤ 18325194 := by omega
  have j2 : r < 60000 := by omega
  have j3 : m < 60 := by omega
  have j4 : f < 1000 := by omega
  have CI := Lib.hid (fun wx (hb : Below w.heap.size w wx) => itoa_nat a wx (by omega) (Lib.tabBelow_of_tabIs htab wx hb))
  have CP := Lib.hid (fun wx (hb : Below w.heap.size w wx) => pPadded2 m wx (by omega) (Lib.tabBelow_of_tabIs htab wx hb))
  have CR := Lib.hid (fun wx (hb : Below w.heap.size w wx) => pFraction f wx (by omega) (Lib.tabBelow_of_tabIs htab wx hb))
  have lD : (Lib.decDigits a).length ≤ 20 := by
    obtain ⟨d1, d2⟩ := dec_digs 19 a (by omega)
    rw [Lib.decDigits_length]; omega
  have lF : (fracT f).length ≤ 3 := by
    unfold fracT
    split <;> rw [digs_length] <;> omega
  have lM : (digs 2 m).length = 2 := digs_length 2 m
  rw [E]
  obtain ⟨D, hD⟩ : ∃ D, Lib.decDigits a = D := ⟨_, rfl⟩
  obtain ⟨M, hM⟩ : ∃ M, digs 2 m = M := ⟨_, rfl⟩
  obtain ⟨G, hG⟩ : ∃ G, fracT f = G := ⟨_, rfl⟩
  rw [hD, hM, hG]
  rw [hD] at CI lD
  rw [hM] at CP lM
  rw [hG] at CR lF
  clear hD hM hG E ha hr hm hf
  obtain ⟨b, hb0⟩ : ∃ b, w.heap.size = b := ⟨_, rfl⟩
  have K1 := Lib.hid (fun wx (hB : Bd b [] wx) (hs : b ≤ wx.heap.size) => wrS b [] D wx hB (by simp; omega) hs)
  have K2 := Lib.hid (fun wx (hB : Bd b ([] ++ D) wx) (hs : b ≤ wx.heap.size) => wrB b ([] ++ D) 45 45 rfl wx hB (by simp; omega) hs)
  have K3 := Lib.hid (fun wx (hB : Bd b ([] ++ D ++ [45]) wx) (hs : b ≤ wx.heap.size) => wrS b ([] ++ D ++ [45]) M wx hB (by simp; omega) hs)
  have K4 := Lib.hid (fun wx (hB : Bd b ([] ++ D ++ [45] ++ M) wx) (hs : b ≤ wx.heap.size) => wrB b ([] ++ D ++ [45] ++ M) 46 46 rfl wx hB (by simp; omega) hs)
  have K5 := Lib.hid (fun wx (hB : Bd b ([] ++ D ++ [45] ++ M ++ [46]) wx) (hs : b ≤ wx.heap.size) => wrS b ([] ++ D ++ [45] ++ M ++ [46]) G wx hB (by simp; omega) hs)
  have K6 := Lib.hid (fun wx (hB : Bd b ([] ++ D ++ [45] ++ M ++ [46] ++ G) wx) (hs : b ≤ wx.heap.size) => bdS b ([] ++ D ++ [45] ++ M ++ [46] ++ G) wx hB hs)
  have EL : Hid (ba ([] ++ (D ++ 45 :: (M ++ 46 :: G))) = ba ([] ++ D ++ [45] ++ M ++ [46] ++ G)) := by show _ = _; simp
  obtain ⟨Z, hZ⟩ : ∃ Z, ba ([] ++ D ++ [45] ++ M ++ [46] ++ G) = Z := ⟨_, rfl⟩
  rw [hZ] at EL K6
  rw [EL.out]
  obtain ⟨sD, hsD⟩ : ∃ s, ba D = s := ⟨_, rfl⟩
  obtain ⟨sM, hsM⟩ : ∃ s, ba M = s := ⟨_, rfl⟩
  obtain ⟨sG, hsG⟩ : ∃ s, ba G = s := ⟨_, rfl⟩
  rw [hsD] at K1 CI
  rw [hsM] at K3 CP
  rw [hsG] at K5 CR
  clear hZ EL hsD hsM hsG lD lF lM htab j4
  have HB := Lib.hid (Below.refl w.heap.size w)
  have k : ¬ (N : Int) < 0 := by omega
  clear h
  go_enter Tryd.func55, Tryd.ntmps55
  go_wp2_with fail
  refine (CF.out _).mono ?_
  rintro e w1 ⟨rfl, rfl⟩
  have HD := Lib.hid (Lib.fresh_isBuilder 116 5 w1)
  have HB := Lib.hid (below1 w1 (.cells #[.pointer none, .slice none 0 0] 116))
  rw [hb0] at HD
  have hs := Lib.hid (show b ≤ (w1.alloc (.cells #[.pointer none, .slice none 0 0] 116)).heap.size by rw [← hb0]; simp)
  go_wp2_with fail
  refine (CI.out _ HB.out).mono ?_
  rintro e v1 ⟨rfl, hb⟩
  have HD := Lib.hid (isB_below HD.out hb)
  have HB := Lib.hid (bstep HB.out hb)
  have hs := Lib.hid (show b ≤ v1.heap.size from hb0 ▸ HB.out.size)
  clear hb
  go_wp2_with fail
  refine (K1.out _ HD.out hs.out).mono ?_
  rintro e v2 ⟨rfl, hD', hb⟩
  have HD := Lib.hid hD'
  rw [← hb0] at hb
  have HB := Lib.hid (HB.out.trans hb)
  have hs := Lib.hid (show b ≤ v2.heap.size from hb0 ▸ HB.out.size)
  clear hb hD'
  go_wp2_with fail
  refine (K2.out _ HD.out hs.out).mono ?_
  rintro e v3 ⟨rfl, hD', hb⟩
  have HD := Lib.hid hD'
  rw [← hb0] at hb
  have HB := Lib.hid (HB.out.trans hb)
  have hs := Lib.hid (show b ≤ v3.heap.size from hb0 ▸ HB.out.size)
  clear hb hD'
  go_wp2_with fail
  refine (CP.out _ HB.out).mono ?_
  rintro e v4 ⟨rfl, hb⟩
  have HD := Lib.hid (isB_below HD.out hb)
  have HB := Lib.hid (bstep HB.out hb)
  have hs := Lib.hid (show b ≤ v4.heap.size from hb0 ▸ HB.out.size)
  clear hb
  go_wp2_with fail
  refine (K3.out _ HD.out hs.out).mono ?_
  rintro e v5 ⟨rfl, hD', hb⟩
  have HD := Lib.hid hD'
  rw [← hb0] at hb
  have HB := Lib.hid (HB.out.trans hb)
  have hs := Lib.hid (show b ≤ v5.heap.size from hb0 ▸ HB.out.size)
  clear hb hD'
  go_wp2_with fail
  refine (K4.out _ HD.out hs.out).mono ?_
  rintro e v6 ⟨rfl, hD', hb⟩
  have HD := Lib.hid hD'
  rw [← hb0] at hb
  have HB := Lib.hid (HB.out.trans hb)
  have hs := Lib.hid (show b ≤ v6.heap.size from hb0 ▸ HB.out.size)
  clear hb hD'
  go_wp2_with fail
  refine (CR.out _ HB.out).mono ?_
  rintro e v7 ⟨rfl, hb⟩
  have HD := Lib.hid (isB_below HD.out hb)
  have HB := Lib.hid (bstep HB.out hb)
  have hs := Lib.hid (show b ≤ v7.heap.size from hb0 ▸ HB.out.size)
  clear hb
  go_wp2_with fail
  refine (K5.out _ HD.out hs.out).mono ?_
  rintro e v8 ⟨rfl, hD', hb⟩
  have HD := Lib.hid hD'
  rw [← hb0] at hb
  have HB := Lib.hid (HB.out.trans hb)
  have hs := Lib.hid (show b ≤ v8.heap.size from hb0 ▸ HB.out.size)
  clear hb hD'
  go_wp2_with fail
  refine (K6.out _ HD.out hs.out).mono ?_
  rintro e v0 ⟨rfl, hb⟩
  rw [← hb0] at hb
  have HB := Lib.hid (HB.out.trans hb)
  clear hb
  go_wp2_with fail
  go_ret2
  exact ⟨rfl, HB.out⟩

set_option maxHeartbeats 4000000 in
theorem pText_m (N : Nat) (w : World) (h0 : 0 < N) (h : N ≤ 1099511627776) (htab : Tab w) :
    Calls Tryd.prog 55 #[.int .i64 (-(N : Int))] w fun e w' => e = .returned (.tuple #[.string (ba ([45] ++ bodyT N)), .int .i64 0]) ∧ Below w.heap.size w w' := by
  have CF := Lib.hid (fun wx => pFits (-(N : Int)) wx)
  rw [show inA (-(N : Int)) = true from (inA_iff _).2 (by omega)] at CF
  obtain ⟨a, ha⟩ : ∃ a, N / 60000 = a := ⟨_, rfl⟩
  obtain ⟨r, hr⟩ : ∃ r, N % 60000 = r := ⟨_, rfl⟩
  obtain ⟨m, hm⟩ : ∃ m, r / 1000 = m := ⟨_, rfl⟩
  obtain ⟨f, hf⟩ : ∃ f, N % 1000 = f := ⟨_, rfl⟩
  have E := body_parts N a m f ha (by rw [hr]; exact hm) hf h
  have i1 : (N : Int) / 60000 = (a : Int) := by omega
  have i2 : (N : Int) % 60000 = (r : Int) := by omega
  have i3 : (r : Int) / 1000 = (m : Int) := by omega
  have i4 : (N : Int) % 1000 = (f : Int) := by omega
  have j1 : a ≤ 18325194 := by omega
  have j2 : r < 60000 := by omega
  have j3 : m < 60 := by omega
  have j4 : f < 1000 := by omega
  have CI := Lib.hid (fun wx (hb : Below w.heap.size w wx) => itoa_nat a wx (by omega) (Lib.tabBelow_of_tabIs htab wx hb))
  have CP := Lib.hid (fun wx (hb : Below w.heap.size w wx) => pPadded2 m wx (by omega) (Lib.tabBelow_of_tabIs htab wx hb))
  have CR := Lib.hid (fun wx (hb : Below w.heap.size w wx) => pFraction f wx (by omega) (Lib.tabBelow_of_tabIs htab wx hb))
  have lD : (Lib.decDigits a).length ≤ 20 := by
    obtain ⟨d1, d2⟩ := dec_digs 19 a (by omega)
    rw [Lib.decDigits_length]; omega
  have lF : (fracT f).length ≤ 3 := by
    unfold fracT
    split <;> rw [digs_length] <;> omega
  have lM : (digs 2 m).length = 2 := digs_length 2 m
  rw [E]
  obtain ⟨D, hD⟩ : ∃ D, Lib.decDigits a = D := ⟨_, rfl⟩
  obtain ⟨M, hM⟩ : ∃ M, digs 2 m = M := ⟨_, rfl⟩
  obtain ⟨G, hG⟩ : ∃ G, fracT f = G := ⟨_, rfl⟩
  rw [hD, hM, hG]
  rw [hD] at CI lD
  rw [hM] at CP lM
  rw [hG] at CR lF
  clear hD hM hG E ha hr hm hf
  obtain ⟨b, hb0⟩ : ∃ b, w.heap.size = b := ⟨_, rfl⟩
  have K0 := Lib.hid (fun wx (hB : Bd b [] wx) (hs : b ≤ wx.heap.size) => wrB b [] 45 45 rfl wx hB (by simp) hs)
  have K1 := Lib.hid (fun wx (hB : Bd b [45] wx) (hs : b ≤ wx.heap.size) => wrS b [45] D wx hB (by simp; omega) hs)
  have K2 := Lib.hid (fun wx (hB : Bd b ([45] ++ D) wx) (hs : b ≤ wx.heap.size) => wrB b ([45] ++ D) 45 45 rfl wx hB (by simp; omega) hs)
  have K3 := Lib.hid (fun wx (hB : Bd b ([45] ++ D ++ [45]) wx) (hs : b ≤ wx.heap.size) => wrS b ([45] ++ D ++ [45]) M wx hB (by simp; omega) hs)
  have K4 := Lib.hid (fun wx (hB : Bd b ([45] ++ D ++ [45] ++ M) wx) (hs : b ≤ wx.heap.size) => wrB b ([45] ++ D ++ [45] ++ M) 46 46 rfl wx hB (by simp; omega) hs)
  have K5 := Lib.hid (fun wx (hB : Bd b ([45] ++ D ++ [45] ++ M ++ [46]) wx) (hs : b ≤ wx.heap.size) => wrS b ([45] ++ D ++ [45] ++ M ++ [46]) G wx hB (by simp; omega) hs)
  have K6 := Lib.hid (fun wx (hB : Bd b ([45] ++ D ++ [45] ++ M ++ [46] ++ G) wx) (hs : b ≤ wx.heap.size) => bdS b ([45] ++ D ++ [45] ++ M ++ [46] ++ G) wx hB hs)
  have EL : Hid (ba ([45] ++ (D ++ 45 :: (M ++ 46 :: G))) = ba ([45] ++ D ++ [45] ++ M ++ [46] ++ G)) := by show _ = _; simp
  obtain ⟨Z, hZ⟩ : ∃ Z, ba ([45] ++ D ++ [45] ++ M ++ [46] ++ G) = Z := ⟨_, rfl⟩
  rw [hZ] at EL K6
  rw [EL.out]
  obtain ⟨sD, hsD⟩ : ∃ s, ba D = s := ⟨_, rfl⟩
  obtain ⟨sM, hsM⟩ : ∃ s, ba M = s := ⟨_, rfl⟩
  obtain ⟨sG, hsG⟩ : ∃ s, ba G = s := ⟨_, rfl⟩
  rw [hsD] at K1 CI
  rw [hsM] at K3 CP
  rw [hsG] at K5 CR
  clear hZ EL hsD hsM hsG lD lF lM htab j4
  have HB := Lib.hid (Below.refl w.heap.size w)
  have k : (-(N : Int)) < 0 := by omega
  have kn : -(-(N : Int)) = (N : Int) := by omega
  clear h h0
  go_enter Tryd.func55, Tryd.ntmps55
  go_wp2_with fail
  refine (CF.out _).mono ?_
  rintro e w1 ⟨rfl, rfl⟩
  have HD := Lib.hid (Lib.fresh_isBuilder 116 5 w1)
  have HB := Lib.hid (below1 w1 (.cells #[.pointer none, .slice none 0 0] 116))
  rw [hb0] at HD
  have hs := Lib.hid (show b ≤ (w1.alloc (.cells #[.pointer none, .slice none 0 0] 116)).heap.size by rw [← hb0]; simp)
  go_wp2_with fail
  refine (K0.out _ HD.out hs.out).mono ?_
  rintro e v1 ⟨rfl, hD', hb⟩
  have HD := Lib.hid hD'
  rw [← hb0] at hb
  have HB := Lib.hid (HB.out.trans hb)
  have hs := Lib.hid (show b ≤ v1.heap.size from hb0 ▸ HB.out.size)
  clear hb hD'
  go_wp2_with fail
  refine (CI.out _ HB.out).mono ?_
  rintro e v2 ⟨rfl, hb⟩
  have HD := Lib.hid (isB_below HD.out hb)
  have HB := Lib.hid (bstep HB.out hb)
  have hs := Lib.hid (show b ≤ v2.heap.size from hb0 ▸ HB.out.size)
  clear hb
  go_wp2_with fail
  refine (K1.out _ HD.out hs.out).mono ?_
  rintro e v3 ⟨rfl, hD', hb⟩
  have HD := Lib.hid hD'
  rw [← hb0] at hb
  have HB := Lib.hid (HB.out.trans hb)
  have hs := Lib.hid (show b ≤ v3.heap.size from hb0 ▸ HB.out.size)
  clear hb hD'
  go_wp2_with fail
  refine (K2.out _ HD.out hs.out).mono ?_
  rintro e v4 ⟨rfl, hD', hb⟩
  have HD := Lib.hid hD'
  rw [← hb0] at hb
  have HB := Lib.hid (HB.out.trans hb)
  have hs := Lib.hid (show b ≤ v4.heap.size from hb0 ▸ HB.out.size)
  clear hb hD'
  go_wp2_with fail
  refine (CP.out _ HB.out).mono ?_
  rintro e v5 ⟨rfl, hb⟩
  have HD := Lib.hid (isB_below HD.out hb)
  have HB := Lib.hid (bstep HB.out hb)
  have hs := Lib.hid (show b ≤ v5.heap.size from hb0 ▸ HB.out.size)
  clear hb
  go_wp2_with fail
  refine (K3.out _ HD.out hs.out).mono ?_
  rintro e v6 ⟨rfl, hD', hb⟩
  have HD := Lib.hid hD'
  rw [← hb0] at hb
  have HB := Lib.hid (HB.out.trans hb)
  have hs := Lib.hid (show b ≤ v6.heap.size from hb0 ▸ HB.out.size)
  clear hb hD'
  go_wp2_with fail
  refine (K4.out _ HD.out hs.out).mono ?_
  rintro e v7 ⟨rfl, hD', hb⟩
  have HD := Lib.hid hD'
  rw [← hb0] at hb
  have HB := Lib.hid (HB.out.trans hb)
  have hs := Lib.hid (show b ≤ v7.heap.size from hb0 ▸ HB.out.size)
  clear hb hD'
  go_wp2_with fail
  refine (CR.out _ HB.out).mono ?_
  rintro e v8 ⟨rfl, hb⟩
  have HD := Lib.hid (isB_below HD.out hb)
  have HB := Lib.hid (bstep HB.out hb)
  have hs := Lib.hid (show b ≤ v8.heap.size from hb0 ▸ HB.out.size)
  clear hb
  go_wp2_with fail
  refine (K5.out _ HD.out hs.out).mono ?_
  rintro e v9 ⟨rfl, hD', hb⟩
  have HD := Lib.hid hD'
  rw [← hb0] at hb
  have HB := Lib.hid (HB.out.trans hb)
  have hs := Lib.hid (show b ≤ v9.heap.size from hb0 ▸ HB.out.size)
  clear hb hD'
  go_wp2_with fail
  refine (K6.out _ HD.out hs.out).mono ?_
  rintro e v0 ⟨rfl, hb⟩
  rw [← hb0] at hb
  have HB := Lib.hid (HB.out.trans hb)
  clear hb
  go_wp2_with fail
  go_ret2
  exact ⟨rfl, HB.out⟩

theorem pText (n : Int) (w : World) (htab : Tab w) :
    Calls Tryd.prog 55 #[.int .i64 n] w fun e w' => e = .returned (.tuple #[.string (txS n), .int .i64 (txE n)]) ∧ Below w.heap.size w w' := by
  unfold txS txE
  cases h : inA n
  · exact pText_no n w h
  · have k := (inA_iff _).1 h
    show Calls Tryd.prog 55 #[.int .i64 n] w fun e w' => e = .returned (.tuple #[.string (ba (textT n)), .int .i64 0]) ∧ Below w.heap.size w w'
    unfold textT
    by_cases h0 : n < 0
    · rw [if_pos h0]
      have C := pText_m n.natAbs w (by omega) (by omega) htab
      rw [show -((n.natAbs : Nat) : Int) = n by omega] at C
      exact C
    · rw [if_neg h0]
      have C := pText_p n.natAbs w (by omega) htab
      rw [show ((n.natAbs : Nat) : Int) = n by omega] at C
      exact C
end Go.Proofs.YtndcjldnnfhedaaDoor
