/- Fixed: contracts of the reference's Scale, Quotient. -/
import Derived.Test.YtdkigfcglfgpoaaFxI
import Derived.Deep.CutRange
namespace Go.Proofs.Ytdkigfcglfgpoaa
open Go.RowKit
set_option linter.unusedVariables false

/-- a range as values -/
def vS (R : Fx) : Value := .tuple #[.int .i64 R.l, .int .i64 R.h, .int .i64 R.e]
theorem rReach_is (n : Int) (r : Bool) (h : reach n = r) (w : World) :
    Calls Try.prog 61 #[.int .i64 n] w fun e w' => e = .returned (.bool r) ∧ w' = w := h ▸ rReach n w
theorem rBig_is (x n y : Int) (r : Bool) (h : bigB x n y = r) (w : World) (h1 : -2147483648 ≤ x) (h2 : x ≤ 2147483648) (hn : reach n = true) (hy : 0 < y) :
    Calls Try.prog 63 #[.int .i64 x, .int .i64 n, .int .i64 y] w fun e w' => e = .returned (.bool r) ∧ w' = w := h ▸ rBig x n y w h1 h2 hn hy
theorem small_one {x n : Int} (h1 : -2147483648 ≤ x) (h2 : x ≤ 2147483648) (hn : reach n = true) : Small x n 1073741824 := by
  obtain ⟨e0, l1, l2, g1, g2, e1⟩ := split20 n hn
  have := mul_abs (a := x) (b := n.tdiv 1048576) (A := 2147483648) (B := 1048576) (by omega) (by omega) (by omega) (by omega)
  unfold Small; omega
theorem scaleR_eq {a b n : Int} (h : reach n = true) : scaleR a b n = ⟨loQ a b 1073741824 1073741824 n, hiQ a b 1073741824 1073741824 n, 0⟩ := by
  unfold scaleR
  rw [if_pos h, show loQ a b 1073741824 1073741824 n = min (a * n / 1073741824) (b * n / 1073741824) by unfold loQ min4; omega, show hiQ a b 1073741824 1073741824 n = max (cdiv (a * n) 1073741824) (cdiv (b * n) 1073741824) by unfold hiQ max4; omega]

set_option maxHeartbeats 1000000 in
theorem rScale (a b n : Int) (w : World) (h : fok a b = true) :
    Calls Try.prog 39 #[.agg #[.int .i64 a, .int .i64 b], .int .i64 n] w fun e w' => e = .returned (vS (scaleR a b n)) ∧ Below w.heap.size w w' := by
  have A := At2.new w (.int .i64 a) (.int .i64 b) 23
  have p := (fok_iff _ _).1 h
  unfold vS
  cases hn : reach n
  · have C := Lib.hid (fun wx => rReach_is n false hn wx)
    rw [show scaleR a b n = ⟨0, 0, 2⟩ from if_neg (by rw [hn]; simp)]
    clear hn h p
    go_enter Try.func39, Try.ntmps39
    go_wp2_with fail
    refine (C.out _).mono ?_
    rintro e w1 ⟨rfl, rfl⟩
    go_wp2_with fail
    refine bodyPost_ret (v := .tuple #[.int .i64 0, .int .i64 0, .int .i64 2]) (by simp [results, Try.results39, go_sem]) rfl ⟨rfl, ?_⟩
    exact below1 _ _
  · have C := Lib.hid (fun wx => rReach_is n true hn wx)
    rw [scaleR_eq hn]
    have CC := Lib.hid (fun wx => rCorners a b 1073741824 1073741824 n wx h (by omega) (by omega) (by omega) hn (small_one (by omega) (by omega) hn) (small_one (by omega) (by omega) hn))
    generalize loQ a b 1073741824 1073741824 n = l at *
    generalize hiQ a b 1073741824 1073741824 n = u at *
    obtain ⟨a0, a1, af0, af1, alt⟩ := id A
    clear hn h p
    go_enter Try.func39, Try.ntmps39
    go_wp2_with fail
    refine (C.out _).mono ?_
    rintro e w1 ⟨rfl, rfl⟩
    go_wp2_with fail
    refine (CC.out _).mono ?_
    rintro e w1 ⟨rfl, hb⟩
    have HW := Lib.hid (bel1 hb)
    clear hb
    go_wp2_with fail
    refine bodyPost_ret (v := .tuple #[.int .i64 l, .int .i64 u, .int .i64 0]) (by simp [results, Try.results39, go_sem]) rfl ⟨rfl, ?_⟩
    exact HW.out

/-- what Quotient answers, with the turned ends -/
theorem quot_big {a b c d n : Int} (hc : 0 < c) (h : bigB a n c = true ∨ bigB b n c = true) : ¬ (reach (loQ a b c d n) = true ∧ reach (hiQ a b c d n) = true) := by
  rintro ⟨h1, h2⟩
  have k1 := (reach_iff _).1 h1
  have k2 := (reach_iff _).1 h2
  have m := min4_le (a * n / c) (a * n / d) (b * n / c) (b * n / d)
  have m' := le_max4 (cdiv (a * n) c) (cdiv (a * n) d) (cdiv (b * n) c) (cdiv (b * n) d)
  unfold loQ hiQ at *
  rcases h with h | h
  · rcases big_far hc h with f | f
    · have := (lt_ce (H := 1099511627776) hc).2 f; omega
    · have := (fl_lt (L := -1099511627776) hc).2 f; omega
  · rcases big_far hc h with f | f
    · have := (lt_ce (H := 1099511627776) hc).2 f; omega
    · have := (fl_lt (L := -1099511627776) hc).2 f; omega
theorem rQuot_range (a b c d n : Int) (w : World) (hn : reach n = false) :
    Calls Try.prog 40 #[.agg #[.int .i64 a, .int .i64 b], .agg #[.int .i64 c, .int .i64 d], .int .i64 n] w fun e w' => e = .returned (vS (quotR a b c d n)) ∧ Below w.heap.size w w' := by
  have C := Lib.hid (fun wx => rReach_is n false hn wx)
  unfold vS
  rw [show quotR a b c d n = ⟨0, 0, 2⟩ from if_neg (by rw [hn]; simp)]
  clear hn
  go_enter Try.func40, Try.ntmps40
  go_wp2_with fail
  refine (C.out _).mono ?_
  rintro e w1 ⟨rfl, rfl⟩
  go_wp2_with fail
  refine bodyPost_ret (v := .tuple #[.int .i64 0, .int .i64 0, .int .i64 2]) (by simp [results, Try.results40, go_sem]) rfl ⟨rfl, ?_⟩
  exact below2 _ _ _
theorem rQuot_zero (a b c d n : Int) (w : World) (hn : reach n = true) (hz : zin c d = true) :
    Calls Try.prog 40 #[.agg #[.int .i64 a, .int .i64 b], .agg #[.int .i64 c, .int .i64 d], .int .i64 n] w fun e w' => e = .returned (vS (quotR a b c d n)) ∧ Below w.heap.size w w' := by
  have C := Lib.hid (fun wx => rReach_is n true hn wx)
  have CZ := Lib.hid (fun wx => rZero_is c d true hz wx)
  obtain ⟨A, B⟩ := At2.two w (.int .i64 a) (.int .i64 b) (.int .i64 c) (.int .i64 d) 23 23
  obtain ⟨b0, b1, bf0, bf1, blt⟩ := id B
  unfold vS
  rw [show quotR a b c d n = ⟨0, 0, 16⟩ from (if_pos hn).trans (if_pos ((zin_iff _ _).1 hz))]
  clear hn hz
  go_enter Try.func40, Try.ntmps40
  go_wp2_with fail
  refine (C.out _).mono ?_
  rintro e w1 ⟨rfl, rfl⟩
  go_wp2_with fail
  refine (CZ.out _).mono ?_
  rintro e w1 ⟨rfl, hb⟩
  have HW := Lib.hid (bel2 hb)
  clear hb
  go_wp2_with fail
  refine bodyPost_ret (v := .tuple #[.int .i64 0, .int .i64 0, .int .i64 16]) (by simp [results, Try.results40, go_sem]) rfl ⟨rfl, ?_⟩
  exact HW.out
set_option maxHeartbeats 2000000 in
theorem rQuot_some (a b c d n : Int) (w : World) (h : fok a b = true) (k : fok c d = true) (hn : reach n = true) (hz : zin c d = false) :
    Calls Try.prog 40 #[.agg #[.int .i64 a, .int .i64 b], .agg #[.int .i64 c, .int .i64 d], .int .i64 n] w fun e w' => e = .returned (vS (quotR a b c d n)) ∧ Below w.heap.size w w' := by
  have C := Lib.hid (fun wx => rReach_is n true hn wx)
  have CZ := Lib.hid (fun wx => rZero_is c d false hz wx)
  have CT := Lib.hid (fun wx => rTurned a b c d wx h k)
  obtain ⟨A, B⟩ := At2.two w (.int .i64 a) (.int .i64 b) (.int .i64 c) (.int .i64 d) 23 23
  obtain ⟨b0, b1, bf0, bf1, blt⟩ := id B
  have hz' := (zin_not _ _).1 hz
  obtain ⟨t1, t2, t3⟩ := turn_ok h k hz'
  rw [show quotR a b c d n = _ from (if_pos hn).trans (if_neg hz')]
  unfold vI at CT
  generalize tA a b c = p at *
  generalize tB a b c = q at *
  generalize tC c d = u at *
  generalize tD c d = v at *
  have p1 := (fok_iff _ _).1 t1
  have p2 := (fok_iff _ _).1 t2
  have CB1 := Lib.hid (fun wx r e => rBig_is p n u r e wx (by omega) (by omega) hn t3)
  have CB2 := Lib.hid (fun wx r e => rBig_is q n u r e wx (by omega) (by omega) hn t3)
  have CC := Lib.hid (fun wx (k1 : bigB p n u = false) (k2 : bigB q n u = false) => rCorners p q u v n wx t1 t3 p2.2.2 (by omega) hn (small_of t3 (Int.le_refl _) hn k1) (small_of t3 (Int.le_refl _) hn k2))
  have HBG := Lib.hid (fun hb => quot_big (a := p) (b := q) (d := v) (n := n) t3 hb)
  obtain ⟨F, hF⟩ : ∃ F, F = (if reach (loQ p q u v n) = true ∧ reach (hiQ p q u v n) = true then (⟨loQ p q u v n, hiQ p q u v n, 0⟩ : Fx) else ⟨0, 0, 5⟩) := ⟨_, rfl⟩
  rw [← hF]
  have HF := Lib.hid hF
  clear hF h k hn hz hz' p1 p2 t1 t2 t3
  obtain ⟨g1, hg1⟩ : ∃ g, bigB p n u = g := ⟨_, rfl⟩
  obtain ⟨g2, hg2⟩ : ∃ g, bigB q n u = g := ⟨_, rfl⟩
  have G1 := Lib.hid hg1
  have G2 := Lib.hid hg2
  clear hg1 hg2
  generalize loQ p q u v n = l at *
  generalize hiQ p q u v n = m at *
  have R1 := Lib.hid (fun wx r e => rReach_is l r e wx)
  have R2 := Lib.hid (fun wx r e => rReach_is m r e wx)
  unfold vS
  cases g1
  · cases g2
    · cases r1 : reach l
      · have EF : Hid (F = ⟨0, 0, 5⟩) := HF.out.trans (if_neg (by rw [r1]; simp))
        have HR1 := Lib.hid r1
        clear r1
        go_enter Try.func40, Try.ntmps40
        go_wp2_with fail
        refine (C.out _).mono ?_
        rintro e w1 ⟨rfl, rfl⟩
        go_wp2_with fail
        refine (CZ.out _).mono ?_
        rintro e w1 ⟨rfl, hb⟩
        have A := A.keep hb
        have B := B.keep hb
        have HW := Lib.hid (bel2 hb)
        clear hb b0 b1 bf0 bf1 blt
        obtain ⟨a0, a1, af0, af1, alt⟩ := id A
        obtain ⟨b0, b1, bf0, bf1, blt⟩ := id B
        go_wp2_with fail
        refine (CT.out _).mono ?_
        rintro e w2 ⟨rfl, hb⟩
        have A := A.keep hb
        have B := B.keep hb
        have HW := Lib.hid (bstep HW.out hb)
        clear hb a0 a1 af0 af1 alt b0 b1 bf0 bf1 blt
        obtain ⟨a0, a1, af0, af1, alt⟩ := id A
        obtain ⟨b0, b1, bf0, bf1, blt⟩ := id B
        have HW := Lib.hid (below_set2 (below_set2 HW.out (Nat.le_refl _) (.int .i64 p) (.int .i64 q)) (show w.heap.size ≤ w.heap.size + 1 by omega) (.int .i64 u) (.int .i64 v))
        have A := (A.put (.int .i64 p) (.int .i64 q)).far (c := w.heap.size + 1) (by omega) (.int .i64 u) (.int .i64 v)
        have B := (B.far (c := w.heap.size) (by omega) (.int .i64 p) (.int .i64 q)).put (.int .i64 u) (.int .i64 v)
        go_upto_region 6 with fail
        clear a0 a1 af0 af1 alt b0 b1 bf0 bf1 blt
        generalize (((w2.setCell ⟨w.heap.size, 0, none⟩ (.int .i64 p)).setCell ⟨w.heap.size, 1, none⟩ (.int .i64 q)).setCell ⟨w.heap.size + 1, 0, none⟩ (.int .i64 u)).setCell ⟨w.heap.size + 1, 1, none⟩ (.int .i64 v) = W at *
        obtain ⟨a0, a1, af0, af1, alt⟩ := id A
        obtain ⟨b0, b1, bf0, bf1, blt⟩ := id B
        go_wp2_with fail
        refine (CB1.out _ false G1.out).mono ?_
        rintro e w3 ⟨rfl, rfl⟩
        go_wp2_with fail
        refine (CB2.out _ false G2.out).mono ?_
        rintro e w3 ⟨rfl, rfl⟩
        go_wp2_with fail
        refine (CC.out _ G1.out G2.out).mono ?_
        rintro e w4 ⟨rfl, hb⟩
        have HW := Lib.hid (HW.out.trans (hb.mono (by have := alt; omega)))
        clear hb
        go_wp2_with fail
        refine (R1.out _ false HR1.out).mono ?_
        rintro e w3 ⟨rfl, rfl⟩
        go_wp2_with fail
        refine bodyPost_ret (v := .tuple #[.int .i64 0, .int .i64 0, .int .i64 5]) (by simp [results, Try.results40, go_sem]) rfl ⟨by rw [EF.out], ?_⟩
        exact HW.out
      · cases r2 : reach m
        · have EF : Hid (F = ⟨0, 0, 5⟩) := HF.out.trans (if_neg (by rw [r2]; simp))
          have HR1 := Lib.hid r1
          have HR2 := Lib.hid r2
          clear r1 r2
          go_enter Try.func40, Try.ntmps40
          go_wp2_with fail
          refine (C.out _).mono ?_
          rintro e w1 ⟨rfl, rfl⟩
          go_wp2_with fail
          refine (CZ.out _).mono ?_
          rintro e w1 ⟨rfl, hb⟩
          have A := A.keep hb
          have B := B.keep hb
          have HW := Lib.hid (bel2 hb)
          clear hb b0 b1 bf0 bf1 blt
          obtain ⟨a0, a1, af0, af1, alt⟩ := id A
          obtain ⟨b0, b1, bf0, bf1, blt⟩ := id B
          go_wp2_with fail
          refine (CT.out _).mono ?_
          rintro e w2 ⟨rfl, hb⟩
          have A := A.keep hb
          have B := B.keep hb
          have HW := Lib.hid (bstep HW.out hb)
          clear hb a0 a1 af0 af1 alt b0 b1 bf0 bf1 blt
          obtain ⟨a0, a1, af0, af1, alt⟩ := id A
          obtain ⟨b0, b1, bf0, bf1, blt⟩ := id B
          have HW := Lib.hid (below_set2 (below_set2 HW.out (Nat.le_refl _) (.int .i64 p) (.int .i64 q)) (show w.heap.size ≤ w.heap.size + 1 by omega) (.int .i64 u) (.int .i64 v))
          have A := (A.put (.int .i64 p) (.int .i64 q)).far (c := w.heap.size + 1) (by omega) (.int .i64 u) (.int .i64 v)
          have B := (B.far (c := w.heap.size) (by omega) (.int .i64 p) (.int .i64 q)).put (.int .i64 u) (.int .i64 v)
          go_upto_region 6 with fail
          clear a0 a1 af0 af1 alt b0 b1 bf0 bf1 blt
          generalize (((w2.setCell ⟨w.heap.size, 0, none⟩ (.int .i64 p)).setCell ⟨w.heap.size, 1, none⟩ (.int .i64 q)).setCell ⟨w.heap.size + 1, 0, none⟩ (.int .i64 u)).setCell ⟨w.heap.size + 1, 1, none⟩ (.int .i64 v) = W at *
          obtain ⟨a0, a1, af0, af1, alt⟩ := id A
          obtain ⟨b0, b1, bf0, bf1, blt⟩ := id B
          go_wp2_with fail
          refine (CB1.out _ false G1.out).mono ?_
          rintro e w3 ⟨rfl, rfl⟩
          go_wp2_with fail
          refine (CB2.out _ false G2.out).mono ?_
          rintro e w3 ⟨rfl, rfl⟩
          go_wp2_with fail
          refine (CC.out _ G1.out G2.out).mono ?_
          rintro e w4 ⟨rfl, hb⟩
          have HW := Lib.hid (HW.out.trans (hb.mono (by have := alt; omega)))
          clear hb
          go_wp2_with fail
          refine (R1.out _ true HR1.out).mono ?_
          rintro e w3 ⟨rfl, rfl⟩
          go_wp2_with fail
          refine (R2.out _ false HR2.out).mono ?_
          rintro e w3 ⟨rfl, rfl⟩
          go_wp2_with fail
          refine bodyPost_ret (v := .tuple #[.int .i64 0, .int .i64 0, .int .i64 5]) (by simp [results, Try.results40, go_sem]) rfl ⟨by rw [EF.out], ?_⟩
          exact HW.out
        · have EF : Hid (F = ⟨l, m, 0⟩) := HF.out.trans (if_pos ⟨r1, r2⟩)
          have HR1 := Lib.hid r1
          have HR2 := Lib.hid r2
          clear r1 r2
          go_enter Try.func40, Try.ntmps40
          go_wp2_with fail
          refine (C.out _).mono ?_
          rintro e w1 ⟨rfl, rfl⟩
          go_wp2_with fail
          refine (CZ.out _).mono ?_
          rintro e w1 ⟨rfl, hb⟩
          have A := A.keep hb
          have B := B.keep hb
          have HW := Lib.hid (bel2 hb)
          clear hb b0 b1 bf0 bf1 blt
          obtain ⟨a0, a1, af0, af1, alt⟩ := id A
          obtain ⟨b0, b1, bf0, bf1, blt⟩ := id B
          go_wp2_with fail
          refine (CT.out _).mono ?_
          rintro e w2 ⟨rfl, hb⟩
          have A := A.keep hb
          have B := B.keep hb
          have HW := Lib.hid (bstep HW.out hb)
          clear hb a0 a1 af0 af1 alt b0 b1 bf0 bf1 blt
          obtain ⟨a0, a1, af0, af1, alt⟩ := id A
          obtain ⟨b0, b1, bf0, bf1, blt⟩ := id B
          have HW := Lib.hid (below_set2 (below_set2 HW.out (Nat.le_refl _) (.int .i64 p) (.int .i64 q)) (show w.heap.size ≤ w.heap.size + 1 by omega) (.int .i64 u) (.int .i64 v))
          have A := (A.put (.int .i64 p) (.int .i64 q)).far (c := w.heap.size + 1) (by omega) (.int .i64 u) (.int .i64 v)
          have B := (B.far (c := w.heap.size) (by omega) (.int .i64 p) (.int .i64 q)).put (.int .i64 u) (.int .i64 v)
          go_upto_region 6 with fail
          clear a0 a1 af0 af1 alt b0 b1 bf0 bf1 blt
          generalize (((w2.setCell ⟨w.heap.size, 0, none⟩ (.int .i64 p)).setCell ⟨w.heap.size, 1, none⟩ (.int .i64 q)).setCell ⟨w.heap.size + 1, 0, none⟩ (.int .i64 u)).setCell ⟨w.heap.size + 1, 1, none⟩ (.int .i64 v) = W at *
          obtain ⟨a0, a1, af0, af1, alt⟩ := id A
          obtain ⟨b0, b1, bf0, bf1, blt⟩ := id B
          go_wp2_with fail
          refine (CB1.out _ false G1.out).mono ?_
          rintro e w3 ⟨rfl, rfl⟩
          go_wp2_with fail
          refine (CB2.out _ false G2.out).mono ?_
          rintro e w3 ⟨rfl, rfl⟩
          go_wp2_with fail
          refine (CC.out _ G1.out G2.out).mono ?_
          rintro e w4 ⟨rfl, hb⟩
          have HW := Lib.hid (HW.out.trans (hb.mono (by have := alt; omega)))
          clear hb
          go_wp2_with fail
          refine (R1.out _ true HR1.out).mono ?_
          rintro e w3 ⟨rfl, rfl⟩
          go_wp2_with fail
          refine (R2.out _ true HR2.out).mono ?_
          rintro e w3 ⟨rfl, rfl⟩
          go_wp2_with fail
          refine bodyPost_ret (v := .tuple #[.int .i64 l, .int .i64 m, .int .i64 0]) (by simp [results, Try.results40, go_sem]) rfl ⟨by rw [EF.out], ?_⟩
          exact HW.out
    · have EF : Hid (F = ⟨0, 0, 5⟩) := HF.out.trans (if_neg (HBG.out (.inr G2.out)))
      go_enter Try.func40, Try.ntmps40
      go_wp2_with fail
      refine (C.out _).mono ?_
      rintro e w1 ⟨rfl, rfl⟩
      go_wp2_with fail
      refine (CZ.out _).mono ?_
      rintro e w1 ⟨rfl, hb⟩
      have A := A.keep hb
      have B := B.keep hb
      have HW := Lib.hid (bel2 hb)
      clear hb b0 b1 bf0 bf1 blt
      obtain ⟨a0, a1, af0, af1, alt⟩ := id A
      obtain ⟨b0, b1, bf0, bf1, blt⟩ := id B
      go_wp2_with fail
      refine (CT.out _).mono ?_
      rintro e w2 ⟨rfl, hb⟩
      have A := A.keep hb
      have B := B.keep hb
      have HW := Lib.hid (bstep HW.out hb)
      clear hb a0 a1 af0 af1 alt b0 b1 bf0 bf1 blt
      obtain ⟨a0, a1, af0, af1, alt⟩ := id A
      obtain ⟨b0, b1, bf0, bf1, blt⟩ := id B
      have HW := Lib.hid (below_set2 (below_set2 HW.out (Nat.le_refl _) (.int .i64 p) (.int .i64 q)) (show w.heap.size ≤ w.heap.size + 1 by omega) (.int .i64 u) (.int .i64 v))
      have A := (A.put (.int .i64 p) (.int .i64 q)).far (c := w.heap.size + 1) (by omega) (.int .i64 u) (.int .i64 v)
      have B := (B.far (c := w.heap.size) (by omega) (.int .i64 p) (.int .i64 q)).put (.int .i64 u) (.int .i64 v)
      go_upto_region 6 with fail
      clear a0 a1 af0 af1 alt b0 b1 bf0 bf1 blt
      generalize (((w2.setCell ⟨w.heap.size, 0, none⟩ (.int .i64 p)).setCell ⟨w.heap.size, 1, none⟩ (.int .i64 q)).setCell ⟨w.heap.size + 1, 0, none⟩ (.int .i64 u)).setCell ⟨w.heap.size + 1, 1, none⟩ (.int .i64 v) = W at *
      obtain ⟨a0, a1, af0, af1, alt⟩ := id A
      obtain ⟨b0, b1, bf0, bf1, blt⟩ := id B
      go_wp2_with fail
      refine (CB1.out _ false G1.out).mono ?_
      rintro e w3 ⟨rfl, rfl⟩
      go_wp2_with fail
      refine (CB2.out _ true G2.out).mono ?_
      rintro e w3 ⟨rfl, rfl⟩
      go_wp2_with fail
      refine bodyPost_ret (v := .tuple #[.int .i64 0, .int .i64 0, .int .i64 5]) (by simp [results, Try.results40, go_sem]) rfl ⟨by rw [EF.out], ?_⟩
      exact HW.out
  · have EF : Hid (F = ⟨0, 0, 5⟩) := HF.out.trans (if_neg (HBG.out (.inl G1.out)))
    go_enter Try.func40, Try.ntmps40
    go_wp2_with fail
    refine (C.out _).mono ?_
    rintro e w1 ⟨rfl, rfl⟩
    go_wp2_with fail
    refine (CZ.out _).mono ?_
    rintro e w1 ⟨rfl, hb⟩
    have A := A.keep hb
    have B := B.keep hb
    have HW := Lib.hid (bel2 hb)
    clear hb b0 b1 bf0 bf1 blt
    obtain ⟨a0, a1, af0, af1, alt⟩ := id A
    obtain ⟨b0, b1, bf0, bf1, blt⟩ := id B
    go_wp2_with fail
    refine (CT.out _).mono ?_
    rintro e w2 ⟨rfl, hb⟩
    have A := A.keep hb
    have B := B.keep hb
    have HW := Lib.hid (bstep HW.out hb)
    clear hb a0 a1 af0 af1 alt b0 b1 bf0 bf1 blt
    obtain ⟨a0, a1, af0, af1, alt⟩ := id A
    obtain ⟨b0, b1, bf0, bf1, blt⟩ := id B
    have HW := Lib.hid (below_set2 (below_set2 HW.out (Nat.le_refl _) (.int .i64 p) (.int .i64 q)) (show w.heap.size ≤ w.heap.size + 1 by omega) (.int .i64 u) (.int .i64 v))
    have A := (A.put (.int .i64 p) (.int .i64 q)).far (c := w.heap.size + 1) (by omega) (.int .i64 u) (.int .i64 v)
    have B := (B.far (c := w.heap.size) (by omega) (.int .i64 p) (.int .i64 q)).put (.int .i64 u) (.int .i64 v)
    go_upto_region 6 with fail
    clear a0 a1 af0 af1 alt b0 b1 bf0 bf1 blt
    generalize (((w2.setCell ⟨w.heap.size, 0, none⟩ (.int .i64 p)).setCell ⟨w.heap.size, 1, none⟩ (.int .i64 q)).setCell ⟨w.heap.size + 1, 0, none⟩ (.int .i64 u)).setCell ⟨w.heap.size + 1, 1, none⟩ (.int .i64 v) = W at *
    obtain ⟨a0, a1, af0, af1, alt⟩ := id A
    obtain ⟨b0, b1, bf0, bf1, blt⟩ := id B
    go_wp2_with fail
    refine (CB1.out _ true G1.out).mono ?_
    rintro e w3 ⟨rfl, rfl⟩
    go_wp2_with fail
    refine bodyPost_ret (v := .tuple #[.int .i64 0, .int .i64 0, .int .i64 5]) (by simp [results, Try.results40, go_sem]) rfl ⟨by rw [EF.out], ?_⟩
    exact HW.out
theorem rQuotient (a b c d n : Int) (w : World) (h : fok a b = true) (k : fok c d = true) :
    Calls Try.prog 40 #[.agg #[.int .i64 a, .int .i64 b], .agg #[.int .i64 c, .int .i64 d], .int .i64 n] w fun e w' => e = .returned (vS (quotR a b c d n)) ∧ Below w.heap.size w w' := by
  cases hn : reach n
  · exact rQuot_range a b c d n w hn
  · cases hz : zin c d
    · exact rQuot_some a b c d n w h k hn hz
    · exact rQuot_zero a b c d n w hn hz
end Go.Proofs.Ytdkigfcglfgpoaa
