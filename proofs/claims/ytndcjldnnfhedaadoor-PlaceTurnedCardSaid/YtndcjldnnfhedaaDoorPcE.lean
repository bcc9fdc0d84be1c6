/- Place: contracts of the program's reach, around, isPart. -/
import Derived.Test.YtndcjldnnfhedaaDoorPcC
import Derived.Test.YtndcjldnnfhedaaDoorAnQ
import Derived.LoopTactic
namespace Go.Proofs.YtndcjldnnfhedaaDoor
open Go.RowKit
set_option linter.unusedVariables false
set_option maxRecDepth 100000

/-- arcs that may be the longitudes of pieces -/
def GoodL (zs : List Ar) : Prop := ∀ p ∈ zs, -10800000 ≤ p.1 ∧ p.1 ≤ p.2 ∧ p.2 ≤ 100000000
theorem far_in {zs : List Ar} (h : GoodL zs) (x : Int) : 0 ≤ far x zs 0 ∧ far x zs 0 ≤ 140000000 := by
  have := far_le x 110800000 zs (fun p hp => by have := h p hp; omega) 0 (by omega) (by omega)
  have := far_ge x zs 0
  omega
theorem row_at {w wr : World} {b off : Nat} {zs : List Ar} (hr : RowP w b off zs) (hb : Below w.heap.size w wr) (hl : b < w.heap.size) (i : Nat) (hi : i < zs.length) :
    wr.cell? ⟨b, off + i * 2, none⟩ = some (.int .i64 zs[i].1) ∧ wr.cell? ⟨b, off + i * 2 + 1, none⟩ = some (.int .i64 zs[i].2) := (hr.keep hb hl) i hi
set_option maxHeartbeats 2000000 in
theorem pReach (x : Int) (b off n c : Nat) (zs : List Ar) (w : World) (hn : n = zs.length) (hm : n ≤ 1000) (hg : GoodL zs) (h1 : -10800000 ≤ x) (h2 : x < 10800000) (hb : b < w.heap.size) (hr : RowP w b off zs) :
    Calls Tryd.prog 45 #[.int .i64 x, .slice (some ⟨b, off, none⟩) n c] w fun e w' => e = .returned (.int .i64 (far x zs 0)) ∧ Below w.heap.size w w' := by
  obtain ⟨R, hR⟩ : ∃ R, far x zs 0 = R := ⟨_, rfl⟩
  have HR0 : Hid (far x (zs.drop 0) 0 = R) := hR
  rw [hR]
  have HW := Lib.hid hr
  have HL := Lib.hid hn
  have HG := Lib.hid hg
  clear hr hR hn hg
  go_enter Tryd.func45, Tryd.ntmps45
  go_wp2_with fail
  go_loopg [5, 11] n (fun m v5 v11 wr => ∃ (i : Nat) (f : Int), m = n - i ∧ i ≤ n ∧ v5 = .int .i64 f ∧ v11 = .int .i64 (i : Int) ∧ Hid (far x (zs.drop i) f = R) ∧ Hid (0 ≤ f ∧ f ≤ 140000000) ∧ Hid (Below w.heap.size w wr))
  case atStart => exact ⟨0, 0, rfl, Nat.zero_le _, rfl, rfl, HR0, Lib.hid ⟨by omega, by omega⟩, Lib.hid (Below.refl _ _)⟩
  case round =>
    obtain ⟨i, f, hgk, hi, rfl, rfl, HE, HF, HB⟩ := hrel
    have HGK := Lib.hid hgk
    clear hgk
    by_cases hlt : i < n
    · have hil : i < zs.length := by have := HL.out; omega
      obtain ⟨y0, y1⟩ := row_at HW.out HB.out hb i hil
      have q := HG.out zs[i] (List.getElem_mem _)
      have HE2 := HE.out
      rw [List.drop_eq_getElem_cons hil] at HE2
      obtain ⟨⟨p1, p2⟩, hp⟩ : ∃ p, p = zs[i] := ⟨_, rfl⟩
      rw [← hp] at y0 y1 q HE2
      simp only at y0 y1 q
      obtain ⟨u, hu⟩ : ∃ u, (p1 - x) % 21600000 = u := ⟨_, rfl⟩
      have hmod : Int.tmod (p1 - x + 21600000) 21600000 = u := by
        rw [Int.tmod_eq_emod_of_nonneg (by omega)]; omega
      have HE3 : Hid (far x (zs.drop (i + 1)) (max f (u + (p2 - p1))) = R) := by rw [← hu]; exact HE2
      have u0 : 0 ≤ u := by omega
      have u1 : u < 21600000 := by omega
      obtain ⟨q1, q2, q3⟩ := q
      have f0 := HF.out.1
      have f1 := HF.out.2
      have CW := Lib.hid (fun wx => pWidth p1 p2 wx ⟨by omega, by omega⟩ ⟨by omega, by omega⟩)
      obtain ⟨d, hd⟩ : ∃ d, p2 - p1 = d := ⟨_, rfl⟩
      rw [hd] at HE3 CW
      have d0 : 0 ≤ d := by omega
      have d1 : d ≤ 110800000 := by omega
      have HZ : Hid (0 ≤ max f (u + d) ∧ max f (u + d) ≤ 140000000) := ⟨by omega, by omega⟩
      have hbr : b < wr.heap.size := Nat.lt_of_lt_of_le hb HB.out.size
      have HI := Lib.hid (show i < n from hlt)
      have A := At2.new wr (.int .i64 p1) (.int .i64 p2) 25
      obtain ⟨A0, A1, -, -, -⟩ := id A
      have HB := Lib.hid (bstep HB.out (below1 wr (.cells #[.int .i64 p1, .int .i64 p2] 25)))
      clear hp hu HE2 HE hd hil hi
      go_wp2_with fail
      refine (CW.out _).mono ?_
      rintro e w2 ⟨rfl, hb2⟩
      have HB := Lib.hid (bstep HB.out hb2)
      clear hb2
      by_cases hmx : f < u + d
      · rw [show max f (u + d) = u + d by omega] at HE3 HZ
        go_wp2_with fail
        go_roundg (n - (i + 1))
        case measure => have := HGK.out; have := HI.out; omega
        case rel => exact ⟨i + 1, u + d, rfl, by have := HI.out; omega, by go_num, by go_num, HE3, HZ, HB⟩
      · rw [show max f (u + d) = f by omega] at HE3 HZ
        go_wp2_with fail
        go_roundg (n - (i + 1))
        case measure => have := HGK.out; have := HI.out; omega
        case rel => exact ⟨i + 1, f, rfl, by have := HI.out; omega, by go_num, by go_num, HE3, HZ, HB⟩
    · have HF2 : Hid (f = R) := by
        have := HE.out
        rw [List.drop_of_length_le (by have := HL.out; omega)] at this
        exact this
      go_wp2_with fail
      go_ret
      exact ⟨ret_int HF2.out, HB.out⟩
set_option maxHeartbeats 4000000 in
theorem pAround (g off n c : Nat) (zs : List Ar) (w : World) (H : HasAll w) (hn : n = zs.length) (hm : n ≤ 1000) (hg : GoodL zs) (hb : g < w.heap.size) (hr : RowP w g off zs) :
    Calls Tryd.prog 34 #[.slice (some ⟨g, off, none⟩) n c] w fun e w' => e = .returned (.agg #[.int .i64 (arnd zs).1, .int .i64 (arnd zs).2]) ∧ Below w.heap.size w w' := by
  obtain ⟨R, hR⟩ : ∃ R, arnd zs = R := ⟨_, rfl⟩
  have HR0 : Hid (arndG zs (zs.drop 0) (-10800000, 10800000) = R) := hR
  rw [hR]
  have HW := Lib.hid hr
  have HL := Lib.hid hn
  have HG := Lib.hid hg
  have hab : g < w.heap.size := hb
  have Z := (At2.new w (.int .i64 0) (.int .i64 0) 25).alloc (.cells #[.int .i64 (-10800000), .int .i64 10800000] 25)
  have B := At2.new (w.alloc (.cells #[.int .i64 0, .int .i64 0] 25)) (.int .i64 (-10800000)) (.int .i64 10800000) 25
  simp at B
  obtain ⟨g0, g1⟩ := id (H.below (below1 w (.cells #[.int .i64 0, .int .i64 0] 25)))
  have HB0 := Lib.hid (below2 w (.cells #[.int .i64 0, .int .i64 0] 25) (.cells #[.int .i64 (-10800000), .int .i64 10800000] 25))
  have HRe : ∀ (y : Int) (wx : World), Below w.heap.size w wx → -10800000 ≤ y → y < 10800000 → Calls Tryd.prog 45 #[.int .i64 y, .slice (some ⟨g, off, none⟩) n c] wx fun e w' => e = .returned (.int .i64 (far y zs 0)) ∧ Below wx.heap.size wx w' := fun y wx hx y1 y2 =>
    pReach y g off n c zs wx hn hm hg y1 y2 (Nat.lt_of_lt_of_le hb hx.size) (hr.keep hx hb)
  have HRe := Lib.hid HRe
  clear hr hR hn hg H
  go_enter Tryd.func34, Tryd.ntmps34
  go_wp2_with fail
  clear g0 g1
  go_loopg [11] n (fun m v11 wr => ∃ (i : Nat) (u v : Int), m = n - i ∧ i ≤ n ∧ v11 = .int .i64 (i : Int) ∧ Hid (arndG zs (zs.drop i) (u, v) = R) ∧ Hid (-10800000 ≤ u ∧ u < 10800000 ∧ u ≤ v ∧ v ≤ u + 21600000) ∧ Hid (At2 wr (w.heap.size + 1) (.int .i64 u) (.int .i64 v)) ∧ Hid (At2 wr w.heap.size (.int .i64 0) (.int .i64 0)) ∧ Hid (Below w.heap.size w wr))
  case atStart => exact ⟨0, -10800000, 10800000, rfl, Nat.zero_le _, rfl, HR0, Lib.hid ⟨by omega, by omega, by omega, by omega⟩, Lib.hid B, Lib.hid Z, HB0⟩
  case round =>
    clear B Z
    obtain ⟨i, u, v, hgk, hi, rfl, HE, HF, HBk, HZk, HB⟩ := hrel
    have B := HBk.out
    have Z := HZk.out
    have HGK := Lib.hid hgk
    clear hgk HBk HZk
    by_cases hlt : i < n
    · have hil : i < zs.length := by have := HL.out; omega
      obtain ⟨y0, y1⟩ := row_at HW.out HB.out hab i hil
      have HE2 := HE.out
      rw [List.drop_eq_getElem_cons hil] at HE2
      obtain ⟨⟨p1, p2⟩, hp⟩ : ∃ p, p = zs[i] := ⟨_, rfl⟩
      have q := HG.out zs[i] (List.getElem_mem _)
      rw [← hp] at y0 y1 HE2 q
      simp only at y0 y1 q
      obtain ⟨q1, q2, q3⟩ := q
      obtain ⟨F, hF⟩ : ∃ F, far p1 zs 0 = F := ⟨_, rfl⟩
      have sg := signN_in p1
      have eF : far (signN p1) zs 0 = F := by rw [far_x (signN_mod p1), hF]
      have hFb := far_in HG.out p1
      rw [hF] at hFb
      obtain ⟨F0, F1⟩ := hFb
      have HE3 : Hid (arndG zs (zs.drop (i + 1)) (if F < v - u ∨ (F = v - u ∧ signN p1 < u) then (signN p1, signN p1 + F) else (u, v)) = R) := by rw [← hF]; exact HE2
      obtain ⟨b1, b2, b3, b4⟩ := HF.out
      have CS := Lib.hid (fun wx => pSigned p1 wx)
      obtain ⟨s, hs⟩ : ∃ s, signN p1 = s := ⟨_, rfl⟩
      rw [hs] at sg eF HE3 CS
      obtain ⟨s1, s2⟩ := sg
      have CR := Lib.hid (fun wx (hx : Below w.heap.size w wx) => HRe.out s wx hx s1 s2)
      rw [eF] at CR
      have CL := Lib.hid (fun wx => pIsLess s (s + F) u v wx ⟨by omega, by omega⟩ ⟨by omega, by omega⟩ ⟨by omega, by omega⟩ ⟨by omega, by omega⟩)
      have eL : lessB s (s + F) u v = decide (F < v - u ∨ (F = v - u ∧ s < u)) := by unfold lessB; rw [show s + F - s = F by omega]
      rw [eL] at CL
      have hgr : g < wr.heap.size := Nat.lt_of_lt_of_le hab HB.out.size
      have HI := Lib.hid (show i < n from hlt)
      obtain ⟨T, hT⟩ : ∃ T, s + F = T := ⟨_, rfl⟩
      rw [hT] at CL HE3
      have hT1 : IntKind.i64.wrap T = T := by rw [IntKind.wrap_i64]; omega
      have hsm : w.heap.size + 1 < wr.heap.size := B.lt
      have ne1 : ¬ w.heap.size = w.heap.size + 1 := by omega
      have A := At2.new wr (.int .i64 p1) (.int .i64 p2) 25
      have B := B.alloc (.cells #[.int .i64 p1, .int .i64 p2] 25)
      have Z := Z.alloc (.cells #[.int .i64 p1, .int .i64 p2] 25)
      have HB := Lib.hid (bstep HB.out (below1 wr (.cells #[.int .i64 p1, .int .i64 p2] 25)))
      obtain ⟨A0, A1, -, -, -⟩ := id A
      clear hp hF HE2 HE hi eF eL hil hs
      go_wp2_with fail
      refine (CS.out _).mono ?_
      rintro e w2 ⟨rfl, rfl⟩
      go_wp2_with fail
      refine (CR.out _ HB.out).mono ?_
      rintro e w3 ⟨rfl, hb3⟩
      have B := B.keep hb3
      have Z := Z.keep hb3
      have HB := Lib.hid (bstep HB.out hb3)
      clear hb3 A0 A1 A
      have N := At2.new w3 (.int .i64 s) (.int .i64 T) 25
      have B := B.alloc (.cells #[.int .i64 s, .int .i64 T] 25)
      have Z := Z.alloc (.cells #[.int .i64 s, .int .i64 T] 25)
      have HB := Lib.hid (bstep HB.out (below1 w3 (.cells #[.int .i64 s, .int .i64 T] 25)))
      obtain ⟨N0, N1, -, -, -⟩ := id N
      obtain ⟨B0, B1, B2, B3, -⟩ := id B
      go_wp2_with fail
      refine (CL.out _).mono ?_
      rintro e w4 ⟨rfl, hb4⟩
      have N := N.keep hb4
      have B := B.keep hb4
      have Z := Z.keep hb4
      have HB := Lib.hid (bstep HB.out hb4)
      clear hb4 N0 N1 B0 B1 B2 B3
      obtain ⟨N0, N1, -, -, -⟩ := id N
      obtain ⟨B0, B1, B2, B3, -⟩ := id B
      by_cases hc : F < v - u ∨ (F = v - u ∧ s < u)
      · rw [if_pos hc] at HE3
        have HF : Hid (-10800000 ≤ s ∧ s < 10800000 ∧ s ≤ T ∧ T ≤ s + 21600000) := ⟨s1, s2, by omega, by omega⟩
        have hdc : decide (F < v - u ∨ (F = v - u ∧ s < u)) = true := decide_eq_true hc
        clear hc
        go_wp2_with fail
        go_roundg (n - (i + 1))
        case measure => have := HGK.out; have := HI.out; omega
        case rel => exact ⟨i + 1, s, T, rfl, by have := HI.out; omega, by go_num, HE3, HF, Lib.hid (B.put _ _), Lib.hid (Z.far ne1 _ _), Lib.hid (below_set2 HB.out (by omega) _ _)⟩
      · rw [if_neg hc] at HE3
        have hdc : decide (F < v - u ∨ (F = v - u ∧ s < u)) = false := decide_eq_false hc
        clear hc
        go_wp2_with fail
        go_roundg (n - (i + 1))
        case measure => have := HGK.out; have := HI.out; omega
        case rel => exact ⟨i + 1, u, v, rfl, by have := HI.out; omega, by go_num, HE3, HF, Lib.hid B, Lib.hid Z, HB⟩
    · have HF2 : Hid ((u, v) = R) := by
        have := HE.out
        rw [List.drop_of_length_le (by have := HL.out; omega)] at this
        exact this
      obtain ⟨B0, B1, B2, B3, -⟩ := id B
      obtain ⟨Z0, Z1, Z2, Z3, -⟩ := id Z
      obtain ⟨z0, z1⟩ := set2 Z0 Z1 (.int .i64 u) (.int .i64 v)
      go_wp2_with fail
      refine bodyPost_ret (v := .agg #[.int .i64 u, .int .i64 v]) (by simp [results, Tryd.results34, go_sem, z0, z1]) rfl ⟨by rw [← HF2.out], ?_⟩
      exact below_set2 HB.out (Nat.le_refl _) _ _
end Go.Proofs.YtndcjldnnfhedaaDoor
