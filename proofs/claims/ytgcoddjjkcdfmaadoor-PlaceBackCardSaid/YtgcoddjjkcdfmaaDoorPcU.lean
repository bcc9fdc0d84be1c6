/- Place: contracts of the reference's Around and parts. -/
import Derived.Test.YtgcoddjjkcdfmaaDoorPcS
import Derived.Test.YtgcoddjjkcdfmaaDoorPcG
import Derived.LoopTactic
namespace Go.Proofs.YtgcoddjjkcdfmaaDoor
open Go.RowKit
set_option linter.unusedVariables false
set_option maxRecDepth 100000

theorem row_bel {wr : World} {b off : Nat} {x : Value} {zs : List Ar} (hl : b < wr.heap.size) (h : wr.cell? ⟨b, off, none⟩ = some x) : ∀ p : Bel wr, p.w.cell? ⟨b, off, none⟩ = some x := fun p => (p.h.cell (p := ⟨b, off, none⟩) hl).trans h
set_option maxHeartbeats 4000000 in
theorem rpAround (g off n c : Nat) (zs : List Ar) (w : World) (hn : n = zs.length) (hm : n ≤ 1000) (hg : GoodL zs) (hb : g < w.heap.size) (hr : RowP w g off zs) :
    Calls Tryd.prog 42 #[.slice (some ⟨g, off, none⟩) n c] w fun e w' => e = .returned (.agg #[.int .i64 (arnd zs).1, .int .i64 (arnd zs).2]) ∧ Below w.heap.size w w' := by
  obtain ⟨R, hR⟩ : ∃ R, arnd zs = R := ⟨_, rfl⟩
  have HR0 : Hid (arndG zs (zs.drop 0) (-10800000, 10800000) = R) := hR
  rw [hR]
  have HW := Lib.hid hr
  have HL := Lib.hid hn
  have HG := Lib.hid hg
  have hab : g < w.heap.size := hb
  have Z := At2.new w (.int .i64 0) (.int .i64 0) 23
  have HB := Lib.hid (below1 w (.cells #[.int .i64 0, .int .i64 0] 23))
  have CA := Lib.hid (fun wx => rpAll wx)
  clear hr hR hn hg hb
  go_enter Tryd.func42, Tryd.ntmps42
  go_wp2_with fail
  refine (CA.out _).mono ?_
  rintro e w1 ⟨rfl, hb1⟩
  have B := At2.new w1 (.int .i64 (-10800000)) (.int .i64 10800000) 23
  have Z := (Z.keep hb1).alloc (.cells #[.int .i64 (-10800000), .int .i64 10800000] 23)
  have HB := Lib.hid (bstep (bstep HB.out hb1) (below1 w1 (.cells #[.int .i64 (-10800000), .int .i64 10800000] 23)))
  have hbl : w.heap.size < w1.heap.size := by have := hb1.size; simp at this; omega
  obtain ⟨bB, hB⟩ : ∃ bB, bB = w1.heap.size := ⟨_, rfl⟩
  rw [← hB] at B hbl
  clear hb1 CA
  go_wp2_with fail
  rw [← hB]
  clear hB
  go_loopg [4] n (fun m v4 wr => ∃ (i : Nat) (u v : Int), m = n - i ∧ i ≤ n ∧ v4 = .int .i64 (i : Int) ∧ Hid (arndG zs (zs.drop i) (u, v) = R) ∧ Hid ((-10800000 ≤ u ∧ u < 10800000) ∧ (u ≤ v ∧ v ≤ u + 21600000) ∧ (v < u + 21600000 ∨ u = -10800000)) ∧ Hid (At2 wr bB (.int .i64 u) (.int .i64 v)) ∧ Hid (At2 wr w.heap.size (.int .i64 0) (.int .i64 0)) ∧ Hid (Below w.heap.size w wr))
  case atStart => exact ⟨0, -10800000, 10800000, rfl, Nat.zero_le _, rfl, HR0, Lib.hid ⟨by omega, by omega, by omega⟩, Lib.hid B, Lib.hid Z, HB⟩
  case round =>
    clear B Z HB
    obtain ⟨i, u, v, hgk, hi, rfl, HE, HF, HBk, HZk, HB⟩ := hrel
    have HGK := Lib.hid hgk
    clear hgk
    by_cases hlt : i < n
    · have hil : i < zs.length := by have := HL.out; omega
      have HE2 := HE.out
      rw [List.drop_eq_getElem_cons hil] at HE2
      obtain ⟨⟨p1, p2⟩, hp⟩ : ∃ p, p = zs[i] := ⟨_, rfl⟩
      have q := HG.out zs[i] (List.getElem_mem _)
      have HX := Lib.hid (fun wx (hx : Below w.heap.size w wx) => (row_at HW.out hx hab i hil).1)
      rw [← hp] at HX HE2 q
      simp only at HX q
      obtain ⟨q1, q2, q3⟩ := q
      obtain ⟨F, hF⟩ : ∃ F, far p1 zs 0 = F := ⟨_, rfl⟩
      have HF0 : Hid (far p1 (zs.drop 0) 0 = F) := hF
      have hFb := far_in HG.out p1
      rw [hF] at hFb
      obtain ⟨F0, F1⟩ := hFb
      have HE3 : Hid (arndG zs (zs.drop (i + 1)) (if F < v - u ∨ (F = v - u ∧ signN p1 < u) then (signN p1, signN p1 + F) else (u, v)) = R) := by rw [← hF]; exact HE2
      have sg := signN_in p1
      have CS := Lib.hid (fun wx => rSigned p1 wx)
      obtain ⟨s, hs⟩ : ∃ s, signN p1 = s := ⟨_, rfl⟩
      rw [hs] at sg HE3 CS
      obtain ⟨s1, s2⟩ := sg
      obtain ⟨⟨b1, b2⟩, ⟨b3, b4⟩, b5⟩ := HF.out
      have HI := Lib.hid (show i < n from hlt)
      have hin : (i : Int) < (n : Int) := by omega
      clear hp hF HE2 HE hi hs hil hlt
      go_wp2_with fail
      go_loopg [5, 6] n (fun m v5 v6 wr => ∃ (k : Nat) (f : Int), m = n - k ∧ k ≤ n ∧ v5 = .int .i64 f ∧ v6 = .int .i64 (k : Int) ∧ Hid (far p1 (zs.drop k) f = F) ∧ Hid (0 ≤ f ∧ f ≤ 140000000) ∧ Hid (At2 wr bB (.int .i64 u) (.int .i64 v)) ∧ Hid (At2 wr w.heap.size (.int .i64 0) (.int .i64 0)) ∧ Hid (Below w.heap.size w wr))
      case atStart => exact ⟨0, 0, rfl, Nat.zero_le _, rfl, rfl, HF0, Lib.hid ⟨by omega, by omega⟩, HBk, HZk, HB⟩
      case round =>
        clear HBk HZk HB
        obtain ⟨k, f, hgk, hk, rfl, rfl, HE, HF2, HBk, HZk, HB⟩ := hrel
        have HGK2 := Lib.hid hgk
        clear hgk
        have x0 := HX.out _ HB.out
        by_cases hlk : k < n
        · have hkl : k < zs.length := by have := HL.out; omega
          obtain ⟨y0, y1⟩ := row_at HW.out HB.out hab k hkl
          have q := HG.out zs[k] (List.getElem_mem _)
          have HE2 := HE.out
          rw [List.drop_eq_getElem_cons hkl] at HE2
          obtain ⟨⟨t1, t2⟩, hp⟩ : ∃ p, p = zs[k] := ⟨_, rfl⟩
          rw [← hp] at y0 y1 q HE2
          simp only at y0 y1 q
          obtain ⟨r1, r2, r3⟩ := q
          have CO := Lib.hid (fun wx => rpOff (t1 - p1) wx)
          obtain ⟨z, hz⟩ : ∃ z, (t1 - p1) % 21600000 = z := ⟨_, rfl⟩
          have z0 : 0 ≤ z := by omega
          have z1 : z < 21600000 := by omega
          have HE3 : Hid (far p1 (zs.drop (k + 1)) (max f (z + (t2 - t1))) = F) := by rw [← hz]; exact HE2
          rw [hz] at CO
          have f0 := HF2.out.1
          have f1 := HF2.out.2
          have hkn : (k : Int) < (n : Int) := by omega
          have HK := Lib.hid (show k < n from hlk)
          have hgr : g < wr.heap.size := Nat.lt_of_lt_of_le hab HB.out.size
          have Y0 := row_bel (zs := zs) hgr y0
          have Y1 := row_bel (zs := zs) hgr y1
          have X0 := row_bel (zs := zs) hgr x0
          obtain ⟨d, hd⟩ : ∃ d, z + (t2 - t1) = d := ⟨_, rfl⟩
          rw [hd] at HE3
          have d0 : 0 ≤ d := by omega
          have d1 : d ≤ 132400000 := by omega
          have hd' : z + t2 - t1 = d := by omega
          clear hp hz HE2 HE hk y0 y1 x0 hkl hlk hgr hd
          go_upto_region 9 with fail
          refine wp_region_bel (by kernel_rfl) (by kernel_rfl) ?_
          repeat (go_big_quiet_step (first | (go_at_call 33; with_reducible refine bel_of (still8 (CO.out _)))))
          refine wpQuiet_nil ?_
          intro _ hw'
          obtain ⟨pq, hw''⟩ := hw'
          subst hw''
          have HB := Lib.hid (bstep HB.out pq.h)
          have HBk := Lib.hid (HBk.out.keep pq.h)
          have HZk := Lib.hid (HZk.out.keep pq.h)
          clear Y0 Y1 X0
          by_cases hmx : d > f
          · rw [show max f d = d by omega] at HE3
            have HZ : Hid (0 ≤ d ∧ d ≤ 140000000) := ⟨by omega, by omega⟩
            go_wp2_with fail
            go_roundg (n - (k + 1))
            case measure => have := HGK2.out; have := HK.out; omega
            case rel => exact ⟨k + 1, d, rfl, by have := HK.out; omega, by go_num, by go_num, HE3, HZ, HBk, HZk, HB⟩
          · rw [show max f d = f by omega] at HE3
            go_wp2_with fail
            go_roundg (n - (k + 1))
            case measure => have := HGK2.out; have := HK.out; omega
            case rel => exact ⟨k + 1, f, rfl, by have := HK.out; omega, by go_num, by go_num, HE3, HF2, HBk, HZk, HB⟩
        · have hff : f = F := by
            have := HE.out
            rw [List.drop_of_length_le (by have := HL.out; omega)] at this
            exact this
          subst hff
          have B := HBk.out
          have Z := HZk.out
          have ne1 : ¬ w.heap.size = bB := by omega
          obtain ⟨B0, B1, B2, B3, -⟩ := id B
          clear HE HBk HZk
          go_wp2_with fail
          refine (CS.out _).mono ?_
          rintro e wz ⟨rfl, rfl⟩
          obtain ⟨T, hT⟩ : ∃ T, s + f = T := ⟨_, rfl⟩
          have hT1 : IntKind.i64.wrap T = T := by rw [IntKind.wrap_i64]; omega
          obtain ⟨D, hD⟩ : ∃ D, v - u = D := ⟨_, rfl⟩
          have D0 : 0 ≤ D := by omega
          have D1 : D ≤ 21600000 := by omega
          rw [hT, hD] at HE3
          by_cases hc : f < D ∨ (f = D ∧ s < u)
          · rw [if_pos hc] at HE3
            have HF : Hid ((-10800000 ≤ s ∧ s < 10800000) ∧ (s ≤ T ∧ T ≤ s + 21600000) ∧ (T < s + 21600000 ∨ s = -10800000)) := ⟨⟨s1, s2⟩, ⟨by omega, by omega⟩, by omega⟩
            by_cases hc1 : f < D
            · clear hc
              go_wp2_with fail
              go_roundg (n - (i + 1))
              case measure => have := HGK.out; have := HI.out; omega
              case rel => exact ⟨i + 1, s, T, rfl, by have := HI.out; omega, by go_num, HE3, HF, Lib.hid (B.put _ _), Lib.hid (Z.far ne1 _ _), Lib.hid (below_set2 HB.out (by omega) _ _)⟩
            · have e1 : f = D := by omega
              have e2 : s < u := by omega
              have e3 : f < 21600000 := by omega
              have e4 : (f == D) = true := beq_iff_eq.2 e1
              subst e1
              clear hc
              go_wp2_with fail
              go_roundg (n - (i + 1))
              case measure => have := HGK.out; have := HI.out; omega
              case rel => exact ⟨i + 1, s, T, rfl, by have := HI.out; omega, by go_num, HE3, HF, Lib.hid (B.put _ _), Lib.hid (Z.far ne1 _ _), Lib.hid (below_set2 HB.out (by omega) _ _)⟩
          · rw [if_neg hc] at HE3
            have hc1 : ¬ f < D := by omega
            by_cases e1 : f = D
            · have e2 : ¬ s < u := by omega
              have e4 : (f == D) = true := beq_iff_eq.2 e1
              subst e1
              clear hc
              by_cases e3 : f < 21600000
              · go_wp2_with fail
                go_roundg (n - (i + 1))
                case measure => have := HGK.out; have := HI.out; omega
                case rel => exact ⟨i + 1, u, v, rfl, by have := HI.out; omega, by go_num, HE3, HF, Lib.hid B, Lib.hid Z, HB⟩
              · go_wp2_with fail
                go_roundg (n - (i + 1))
                case measure => have := HGK.out; have := HI.out; omega
                case rel => exact ⟨i + 1, u, v, rfl, by have := HI.out; omega, by go_num, HE3, HF, Lib.hid B, Lib.hid Z, HB⟩
            · have e4 : (f == D) = false := beq_eq_false_iff_ne.2 e1
              clear hc
              go_wp2_with fail
              go_roundg (n - (i + 1))
              case measure => have := HGK.out; have := HI.out; omega
              case rel => exact ⟨i + 1, u, v, rfl, by have := HI.out; omega, by go_num, HE3, HF, Lib.hid B, Lib.hid Z, HB⟩
    · have HF2 : Hid ((u, v) = R) := by
        have := HE.out
        rw [List.drop_of_length_le (by have := HL.out; omega)] at this
        exact this
      have B := HBk.out
      have Z := HZk.out
      obtain ⟨B0, B1, B2, B3, -⟩ := id B
      obtain ⟨Z0, Z1, Z2, Z3, -⟩ := id Z
      obtain ⟨z0, z1⟩ := set2 Z0 Z1 (.int .i64 u) (.int .i64 v)
      go_wp2_with fail
      refine bodyPost_ret (v := .agg #[.int .i64 u, .int .i64 v]) (by simp [results, Tryd.results42, go_sem, z0, z1]) rfl ⟨by rw [← HF2.out], ?_⟩
      exact below_set2 HB.out (Nat.le_refl _) _ _
end Go.Proofs.YtgcoddjjkcdfmaaDoor
