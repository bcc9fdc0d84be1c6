/- fixed: contract of the program's Mul. -/
import Derived.Test.YtdkigfcglfgpoaaFrB
import Derived.Test.YtdkigfcglfgpoaaFrE
namespace Go.Proofs.Ytdkigfcglfgpoaa
open Go.RowKit
set_option linter.unusedVariables false

/-- four cells lie in block b -/
structure At4 (w : World) (b : Nat) (x y z v : Value) : Prop where
  c0 : w.cell? ⟨b, 0, none⟩ = some x
  c1 : w.cell? ⟨b, 1, none⟩ = some y
  c2 : w.cell? ⟨b, 2, none⟩ = some z
  c3 : w.cell? ⟨b, 3, none⟩ = some v
  lt : b < w.heap.size
theorem At4.new (w : World) (x y z v : Value) (T : Nat) : At4 (w.alloc (.cells #[x, y, z, v] T)) w.heap.size x y z v := by
  refine ⟨?_, ?_, ?_, ?_, by simp⟩
  · rw [World.cell?_alloc_new]; rfl
  · rw [World.cell?_alloc_new]; rfl
  · rw [World.cell?_alloc_new]; rfl
  · rw [World.cell?_alloc_new]; rfl
theorem At4.keep {w w1 : World} {b : Nat} {x y z v : Value} (h : At4 w b x y z v) (hb : Below w.heap.size w w1) : At4 w1 b x y z v :=
  ⟨(hb.cell (p := ⟨b, 0, none⟩) h.lt).trans h.c0, (hb.cell (p := ⟨b, 1, none⟩) h.lt).trans h.c1, (hb.cell (p := ⟨b, 2, none⟩) h.lt).trans h.c2, (hb.cell (p := ⟨b, 3, none⟩) h.lt).trans h.c3, Nat.lt_of_lt_of_le h.lt hb.size⟩


theorem pMul_bad1 (a b c d : Int) (w : World) (h : fok a b = false) :
    Calls Try.prog 29 #[.agg #[.int .i64 a, .int .i64 b], .agg #[.int .i64 c, .int .i64 d]] w fun e w' => e = .returned (vR ⟨0, 0, 1⟩) ∧ Below w.heap.size w w' := by
  obtain ⟨A, B, R⟩ := At2.three w (.int .i64 a) (.int .i64 b) (.int .i64 c) (.int .i64 d) (.int .i64 0) (.int .i64 0) 23 23 23
  have C1 := Lib.hid (fun wx => pValid_is a b false h wx)
  obtain ⟨a0, a1, af0, af1, alt⟩ := id A
  clear h
  unfold vR
  go_enter Try.func29, Try.ntmps29
  go_wp2_with fail
  refine (C1.out _).mono ?_
  rintro e w1 ⟨rfl, hb⟩
  clear a0 a1 af0 af1 alt
  obtain ⟨r0, r1, rf0, rf1, rlt⟩ := R.keep hb
  obtain ⟨s0, s1⟩ := set2 r0 r1 (.int .i64 0) (.int .i64 0)
  go_wp2_with fail
  refine bodyPost_ret (v := .tuple #[.agg #[.int .i64 (0), .int .i64 (0)], .int .i64 (1)]) (by simp [results, Try.results29, go_sem, s0, s1]) rfl ⟨rfl, ?_⟩
  exact below_set2 (bel3 hb) (by omega) _ _
theorem pMul_bad2 (a b c d : Int) (w : World) (h : fok a b = true) (k : fok c d = false) :
    Calls Try.prog 29 #[.agg #[.int .i64 a, .int .i64 b], .agg #[.int .i64 c, .int .i64 d]] w fun e w' => e = .returned (vR ⟨0, 0, 1⟩) ∧ Below w.heap.size w w' := by
  obtain ⟨A, B, R⟩ := At2.three w (.int .i64 a) (.int .i64 b) (.int .i64 c) (.int .i64 d) (.int .i64 0) (.int .i64 0) 23 23 23
  have C1 := Lib.hid (fun wx => pValid_is a b true h wx)
  have C2 := Lib.hid (fun wx => pValid_is c d false k wx)
  obtain ⟨a0, a1, af0, af1, alt⟩ := id A
  clear h k
  unfold vR
  go_enter Try.func29, Try.ntmps29
  go_wp2_with fail
  refine (C1.out _).mono ?_
  rintro e w1 ⟨rfl, hb⟩
  have B := B.keep hb
  have R := R.keep hb
  have HB := Lib.hid (bel3 hb)
  clear hb a0 a1 af0 af1 alt
  obtain ⟨b0, b1, bf0, bf1, blt⟩ := id B
  go_wp2_with fail
  refine (C2.out _).mono ?_
  rintro e w2 ⟨rfl, hb⟩
  clear b0 b1 bf0 bf1 blt
  have R := R.keep hb
  have HB := Lib.hid (bstep HB.out hb)
  clear hb
  obtain ⟨r0, r1, rf0, rf1, rlt⟩ := id R
  obtain ⟨s0, s1⟩ := set2 r0 r1 (.int .i64 0) (.int .i64 0)
  go_wp2_with fail
  refine bodyPost_ret (v := .tuple #[.agg #[.int .i64 (0), .int .i64 (0)], .int .i64 (1)]) (by simp [results, Try.results29, go_sem, s0, s1]) rfl ⟨rfl, ?_⟩
  exact below_set2 HB.out (by omega) _ _

set_option maxHeartbeats 1000000 in
theorem pMul_ok (a b c d : Int) (w : World) (h : fok a b = true) (k : fok c d = true) :
    Calls Try.prog 29 #[.agg #[.int .i64 a, .int .i64 b], .agg #[.int .i64 c, .int .i64 d]] w fun e w' => e = .returned (vR (mulR a b c d)) ∧ Below w.heap.size w w' := by
  obtain ⟨A, B, R⟩ := At2.three w (.int .i64 a) (.int .i64 b) (.int .i64 c) (.int .i64 d) (.int .i64 0) (.int .i64 0) 23 23 23
  have C1 := Lib.hid (fun wx => pValid_is a b true h wx)
  have C2 := Lib.hid (fun wx => pValid_is c d true k wx)
  have p := (fok_iff _ _).1 h
  have q := (fok_iff _ _).1 k
  have x1 := prod_fit h k (x := a) (y := c) (by omega) (by omega) (by omega) (by omega)
  have x2 := prod_fit h k (x := a) (y := d) (by omega) (by omega) (by omega) (by omega)
  have x3 := prod_fit h k (x := b) (y := c) (by omega) (by omega) (by omega) (by omega)
  have x4 := prod_fit h k (x := b) (y := d) (by omega) (by omega) (by omega) (by omega)
  unfold mulR
  obtain ⟨x, hx⟩ : ∃ x, a * c = x := ⟨_, rfl⟩
  obtain ⟨y, hy⟩ : ∃ y, a * d = y := ⟨_, rfl⟩
  obtain ⟨z, hz⟩ : ∃ z, b * c = z := ⟨_, rfl⟩
  obtain ⟨v, hv⟩ : ∃ v, b * d = v := ⟨_, rfl⟩
  rw [hx] at x1 ⊢
  rw [hy] at x2 ⊢
  rw [hz] at x3 ⊢
  rw [hv] at x4 ⊢
  have w1 := w64_is hx (by omega) (by omega)
  have w2 := w64_is hy (by omega) (by omega)
  have w3 := w64_is hz (by omega) (by omega)
  have w4 := w64_is hv (by omega) (by omega)
  have el : min4 x y z v = min (min (min x y) z) v := by unfold min4; omega
  have eh : max4 x y z v = max (max (max x y) z) v := by unfold max4; omega
  have CS := Lib.hid (fun wx => pShift (min (min (min x y) z) v) (max (max (max x y) z) v) wx (by omega) (by omega) (by omega))
  rw [el, eh]
  clear h k p q x1 x2 x3 x4 hx hy hz hv el eh
  obtain ⟨l1, hl1⟩ : ∃ l, min x y = l := ⟨_, rfl⟩
  obtain ⟨u1, hu1⟩ : ∃ l, max x y = l := ⟨_, rfl⟩
  rw [hl1, hu1] at CS ⊢
  obtain ⟨l2, hl2⟩ : ∃ l, min l1 z = l := ⟨_, rfl⟩
  obtain ⟨u2, hu2⟩ : ∃ l, max u1 z = l := ⟨_, rfl⟩
  rw [hl2, hu2] at CS ⊢
  obtain ⟨l3, hl3⟩ : ∃ l, min l2 v = l := ⟨_, rfl⟩
  obtain ⟨u3, hu3⟩ : ∃ l, max u2 v = l := ⟨_, rfl⟩
  rw [hl3, hu3] at CS ⊢
  have LL := Lib.hid (And.intro hl1 (And.intro hl2 hl3))
  have UU := Lib.hid (And.intro hu1 (And.intro hu2 hu3))
  clear hl1 hu1 hl2 hu2 hl3 hu3
  obtain ⟨F, hF⟩ : ∃ F, fit (l3 / 1073741824) (cdiv u3 1073741824) = F := ⟨_, rfl⟩
  rw [hF] at CS ⊢
  clear hF
  unfold vR at *
  obtain ⟨a0, a1, af0, af1, alt⟩ := id A
  go_enter Try.func29, Try.ntmps29
  go_wp2_with fail
  refine (C1.out _).mono ?_
  rintro e v1 ⟨rfl, hb⟩
  have A := A.keep hb
  have B := B.keep hb
  have R := R.keep hb
  have HB := Lib.hid (bel3 hb)
  clear hb a0 a1 af0 af1 alt
  obtain ⟨b0, b1, bf0, bf1, blt⟩ := id B
  go_wp2_with fail
  refine (C2.out _).mono ?_
  rintro e v2 ⟨rfl, hb⟩
  clear b0 b1 bf0 bf1 blt
  obtain ⟨a0, a1, af0, af1, alt⟩ := A.keep hb
  obtain ⟨b0, b1, bf0, bf1, blt⟩ := B.keep hb
  have R := Lib.hid ((R.keep hb).alloc (.cells #[.int .i64 x, .int .i64 y, .int .i64 z, .int .i64 v] 56))
  have HB := Lib.hid ((bstep HB.out hb).alloc (Nat.le_trans HB.out.size hb.size) (.cells #[.int .i64 x, .int .i64 y, .int .i64 z, .int .i64 v] 56))
  have Q := Lib.hid (At4.new v2 (.int .i64 x) (.int .i64 y) (.int .i64 z) (.int .i64 v) 56)
  clear hb A B
  obtain ⟨q0, q1, q2, q3, ql⟩ := id Q.out
  go_upto_region 4 with fail
  clear a0 a1 af0 af1 alt b0 b1 bf0 bf1 blt
  generalize hW : v2.alloc (.cells #[.int .i64 x, .int .i64 y, .int .i64 z, .int .i64 v] 56) = W at *
  clear hW
  go_quiet (fail)
  have R := Lib.hid (R.out.keep (below_drewN _ _ nq))
  have Q := Lib.hid (Q.out.keep (below_drewN _ _ nq))
  have HB := Lib.hid (HB.out.trans (below_drewN w.heap.size W nq))
  clear q0 q1 q2 q3 ql
  generalize W.drewN nq = W2 at *
  go_wp2_with fail
  go_loopg [7, 8, 47] 3 (fun m v7 v8 v47 wr => ∃ j : Nat, m = 3 - j ∧ v47 = .int .i64 (j : Int) ∧ v7 = .int .i64 (pk4 x l1 l2 l3 j) ∧ v8 = .int .i64 (pk4 x u1 u2 u3 j) ∧ Hid (j ≤ 3) ∧ W2 = wr)
  case atStart => exact ⟨0, rfl, rfl, rfl, rfl, Nat.zero_le _, rfl⟩
  case round =>
    obtain ⟨j, hm, rfl, rfl, rfl, HJ, rfl⟩ := hrel
    have HM := Lib.hid hm
    clear hm
    obtain ⟨q0, q1, q2, q3, ql⟩ := id Q.out
    by_cases hj : j < 3
    · rcases (show j = 0 ∨ j = 1 ∨ j = 2 by omega) with rfl | rfl | rfl
      · clear hj
        unfold pk4
        go_wp2_with fail
        go_roundg 2
        case measure => have := HM.out; omega
        case rel => exact ⟨1, rfl, by go_num, by rw [LL.out.1]; rfl, by rw [UU.out.1]; rfl, by show _ ≤ _; omega, rfl⟩
      · clear hj
        unfold pk4
        go_wp2_with fail
        go_roundg 1
        case measure => have := HM.out; omega
        case rel => exact ⟨2, rfl, by go_num, by rw [LL.out.2.1]; rfl, by rw [UU.out.2.1]; rfl, by show _ ≤ _; omega, rfl⟩
      · clear hj
        unfold pk4
        go_wp2_with fail
        go_roundg 0
        case measure => have := HM.out; omega
        case rel => exact ⟨3, rfl, by go_num, by rw [LL.out.2.2]; rfl, by rw [UU.out.2.2]; rfl, by show _ ≤ _; omega, rfl⟩
    · obtain rfl : j = 3 := by have := HJ.out; omega
      clear hj
      unfold pk4
      go_wp2_with fail
      refine (CS.out _).mono ?_
      rintro e v3 ⟨rfl, hb⟩
      have HB := Lib.hid (bstep HB.out hb)
      obtain ⟨r0, r1, rf0, rf1, rlt⟩ := R.out.keep hb
      obtain ⟨s0, s1⟩ := set2 r0 r1 (.int .i64 F.l) (.int .i64 F.h)
      clear hb
      go_wp2_with fail
      refine bodyPost_ret (v := .tuple #[.agg #[.int .i64 (F.l), .int .i64 (F.h)], .int .i64 (F.e)]) (by simp [results, Try.results29, go_sem, s0, s1]) rfl ⟨rfl, ?_⟩
      exact below_set2 HB.out (by omega) _ _

theorem pMul (a b c d : Int) (w : World) : Calls Try.prog 29 #[.agg #[.int .i64 a, .int .i64 b], .agg #[.int .i64 c, .int .i64 d]] w fun e w' => e = .returned (vR (vF (fok a b && fok c d) (mulR a b c d))) ∧ Below w.heap.size w w' := by
  cases h : fok a b
  · rw [Bool.false_and, vF_no _ rfl]; exact pMul_bad1 a b c d w h
  · cases k : fok c d
    · rw [Bool.true_and, vF_no _ rfl]; exact pMul_bad2 a b c d w h k
    · rw [Bool.true_and, vF_yes _ rfl]; exact pMul_ok a b c d w h k
end Go.Proofs.Ytdkigfcglfgpoaa
