/- Fixed: contracts of the reference's Square, turned. -/
import Derived.Test.YtdkigfcglfgpoaaFxC
namespace Go.Proofs.Ytdkigfcglfgpoaa
open Go.RowKit
set_option linter.unusedVariables false

set_option maxHeartbeats 1000000 in
theorem rSquare (a b : Int) (w : World) (h : fok a b = true) :
    Calls Try.prog 32 #[.agg #[.int .i64 a, .int .i64 b]] w fun e w' => e = .returned (vR (squareR a b)) ∧ Below w.heap.size w w' := by
  obtain ⟨A, R⟩ := At2.two w (.int .i64 a) (.int .i64 b) (.int .i64 0) (.int .i64 0) 23 23
  have HB := Lib.hid (below2 w (.cells #[.int .i64 a, .int .i64 b] 23) (.cells #[.int .i64 0, .int .i64 0] 23))
  have p := (fok_iff _ _).1 h
  have x1 := prod_fit h h (x := a) (y := a) (by omega) (by omega) (by omega) (by omega)
  have x4 := prod_fit h h (x := b) (y := b) (by omega) (by omega) (by omega) (by omega)
  unfold squareR
  obtain ⟨x, hx⟩ : ∃ x, a * a = x := ⟨_, rfl⟩
  obtain ⟨v, hv⟩ : ∃ v, b * b = v := ⟨_, rfl⟩
  rw [hx] at x1 ⊢
  rw [hv] at x4 ⊢
  have w1 := w64_is hx (by omega) (by omega)
  have w4 := w64_is hv (by omega) (by omega)
  have L1 := Lib.hid (fun wx => rLe x v wx)
  have M1 := Lib.hid (fun wx => rMo x v wx)
  obtain ⟨m, hm⟩ : ∃ m, m = (if a ≤ 0 ∧ 0 ≤ b then 0 else min x v) := ⟨_, rfl⟩
  rw [← hm]
  have mb : -4611686018427387904 ≤ m ∧ m ≤ 4611686018427387904 := by rw [hm]; split <;> omega
  have F1 := Lib.hid (fun wx => rFl m 1073741824 wx (by omega) (by omega) (by omega))
  have F2 := Lib.hid (fun wx => rCe (max x v) 1073741824 wx (by omega) (by omega) (by omega))
  clear h p x1 x4 hx hv mb
  generalize max x v = u at *
  generalize min x v = l at *
  obtain ⟨f, hf⟩ : ∃ f, m / 1073741824 = f := ⟨_, rfl⟩
  rw [hf] at F1 ⊢
  clear hf
  generalize cdiv u 1073741824 = g at *
  have FF := Lib.hid (fun wx => rFit f g wx)
  generalize fit f g = F at *
  unfold vR at *
  obtain ⟨a0, a1, af0, af1, alt⟩ := id A
  by_cases c1 : a ≤ 0
  · by_cases c2 : b ≥ 0
    · rw [if_pos ⟨c1, by omega⟩] at hm
      subst hm
      go_enter Try.func32, Try.ntmps32
      go_wp2_with fail
      generalize (w.alloc (.cells #[.int .i64 a, .int .i64 b] 23)).alloc (.cells #[.int .i64 0, .int .i64 0] 23) = W at *
      go_quiet (fail)
      go_wp2_with fail
      refine (L1.out _).mono ?_
      rintro e w1 ⟨rfl, rfl⟩
      go_wp2_with fail
      refine (F1.out _).mono ?_
      rintro e w1 ⟨rfl, rfl⟩
      go_wp2_with fail
      refine (M1.out _).mono ?_
      rintro e w1 ⟨rfl, rfl⟩
      go_wp2_with fail
      refine (F2.out _).mono ?_
      rintro e w1 ⟨rfl, rfl⟩
      go_wp2_with fail
      refine (FF.out _).mono ?_
      rintro e w1 ⟨rfl, hb⟩
      have HW := Lib.hid (HB.out.trans ((below_drewN w.heap.size W nq).trans (hb.mono (by have := HB.out.size; simpa using this))))
      obtain ⟨r0, r1, rf0, rf1, rlt⟩ := (R.keep (below_drewN _ _ nq)).keep hb
      obtain ⟨s0, s1⟩ := set2 r0 r1 (.int .i64 F.l) (.int .i64 F.h)
      clear hb
      go_wp2_with fail
      refine bodyPost_ret (v := .tuple #[.agg #[.int .i64 F.l, .int .i64 F.h], .int .i64 F.e]) (by simp [results, Try.results32, go_sem, s0, s1]) rfl ⟨rfl, ?_⟩
      exact below_set2 HW.out (by omega) _ _
    · rw [if_neg (by omega)] at hm
      subst hm
      go_enter Try.func32, Try.ntmps32
      go_wp2_with fail
      generalize (w.alloc (.cells #[.int .i64 a, .int .i64 b] 23)).alloc (.cells #[.int .i64 0, .int .i64 0] 23) = W at *
      go_quiet (fail)
      go_wp2_with fail
      refine (L1.out _).mono ?_
      rintro e w1 ⟨rfl, rfl⟩
      go_wp2_with fail
      refine (F1.out _).mono ?_
      rintro e w1 ⟨rfl, rfl⟩
      go_wp2_with fail
      refine (M1.out _).mono ?_
      rintro e w1 ⟨rfl, rfl⟩
      go_wp2_with fail
      refine (F2.out _).mono ?_
      rintro e w1 ⟨rfl, rfl⟩
      go_wp2_with fail
      refine (FF.out _).mono ?_
      rintro e w1 ⟨rfl, hb⟩
      have HW := Lib.hid (HB.out.trans ((below_drewN w.heap.size W nq).trans (hb.mono (by have := HB.out.size; simpa using this))))
      obtain ⟨r0, r1, rf0, rf1, rlt⟩ := (R.keep (below_drewN _ _ nq)).keep hb
      obtain ⟨s0, s1⟩ := set2 r0 r1 (.int .i64 F.l) (.int .i64 F.h)
      clear hb
      go_wp2_with fail
      refine bodyPost_ret (v := .tuple #[.agg #[.int .i64 F.l, .int .i64 F.h], .int .i64 F.e]) (by simp [results, Try.results32, go_sem, s0, s1]) rfl ⟨rfl, ?_⟩
      exact below_set2 HW.out (by omega) _ _
  · rw [if_neg (by omega)] at hm
    subst hm
    go_enter Try.func32, Try.ntmps32
    go_wp2_with fail
    generalize (w.alloc (.cells #[.int .i64 a, .int .i64 b] 23)).alloc (.cells #[.int .i64 0, .int .i64 0] 23) = W at *
    go_quiet (fail)
    go_wp2_with fail
    refine (L1.out _).mono ?_
    rintro e w1 ⟨rfl, rfl⟩
    go_wp2_with fail
    refine (F1.out _).mono ?_
    rintro e w1 ⟨rfl, rfl⟩
    go_wp2_with fail
    refine (M1.out _).mono ?_
    rintro e w1 ⟨rfl, rfl⟩
    go_wp2_with fail
    refine (F2.out _).mono ?_
    rintro e w1 ⟨rfl, rfl⟩
    go_wp2_with fail
    refine (FF.out _).mono ?_
    rintro e w1 ⟨rfl, hb⟩
    have HW := Lib.hid (HB.out.trans ((below_drewN w.heap.size W nq).trans (hb.mono (by have := HB.out.size; simpa using this))))
    obtain ⟨r0, r1, rf0, rf1, rlt⟩ := (R.keep (below_drewN _ _ nq)).keep hb
    obtain ⟨s0, s1⟩ := set2 r0 r1 (.int .i64 F.l) (.int .i64 F.h)
    clear hb
    go_wp2_with fail
    refine bodyPost_ret (v := .tuple #[.agg #[.int .i64 F.l, .int .i64 F.h], .int .i64 F.e]) (by simp [results, Try.results32, go_sem, s0, s1]) rfl ⟨rfl, ?_⟩
    exact below_set2 HW.out (by omega) _ _

/-- a struct behind two stores elsewhere -/
theorem At2.after {w1 : World} {b b' : Nat} {x y : Value} (q : At2 w1 b' x y) (u v : Value) (h : b ≠ b') :
    ((w1.setCell ⟨b, 0, none⟩ u).setCell ⟨b, 1, none⟩ v).cell? ⟨b', 0, none⟩ = some x ∧ ((w1.setCell ⟨b, 0, none⟩ u).setCell ⟨b, 1, none⟩ v).cell? ⟨b', 1, none⟩ = some y := by
  have e : ∀ o o', (⟨b', o, none⟩ : Addr) ≠ ⟨b, o', none⟩ := fun o o' he => h (by injection he with h1; exact h1.symm)
  have e' : ∀ o o', (⟨b, o, none⟩ : Addr) ≠ ⟨b', o', none⟩ := fun o o' he => h (by injection he)
  exact ⟨(World.cell?_setCell_other _ _ _ _ (by first | exact e _ _ | exact e' _ _)).trans ((World.cell?_setCell_other _ _ _ _ (by first | exact e _ _ | exact e' _ _)).trans q.c0), (World.cell?_setCell_other _ _ _ _ (by first | exact e _ _ | exact e' _ _)).trans ((World.cell?_setCell_other _ _ _ _ (by first | exact e _ _ | exact e' _ _)).trans q.c1)⟩
/-- four structs of two fields lie one behind the other -/
structure Four (w w1 : World) (n : Nat) (a b c d e f g h : Value) : Prop where
  A : At2 w1 n a b
  B : At2 w1 (n + 1) c d
  R : At2 w1 (n + 1 + 1) e f
  S : At2 w1 (n + 1 + 1 + 1) g h
  le : Below n w w1
theorem Four.keep {w w1 w2 : World} {n : Nat} {a b c d e f g h : Value} (q : Four w w1 n a b c d e f g h) (hb : Below w1.heap.size w1 w2) : Four w w2 n a b c d e f g h :=
  ⟨q.A.keep hb, q.B.keep hb, q.R.keep hb, q.S.keep hb, q.le.trans (hb.mono (by have := q.A.lt; omega))⟩
theorem Four.new (w : World) (a b c d e f g h : Value) (T : Nat) :
    Four w ((((w.alloc (.cells #[a, b] T)).alloc (.cells #[c, d] T)).alloc (.cells #[e, f] T)).alloc (.cells #[g, h] T)) w.heap.size a b c d e f g h := by
  obtain ⟨A, B, R⟩ := At2.three w a b c d e f T T T
  have S := At2.new (((w.alloc (.cells #[a, b] T)).alloc (.cells #[c, d] T)).alloc (.cells #[e, f] T)) g h T
  rw [show (((w.alloc (.cells #[a, b] T)).alloc (.cells #[c, d] T)).alloc (.cells #[e, f] T)).heap.size = w.heap.size + 1 + 1 + 1 by simp] at S
  exact ⟨A.alloc _, B.alloc _, R.alloc _, S, (below3 _ _ _ _).alloc (by simp; omega) _⟩
set_option maxHeartbeats 2000000 in
theorem rTurned (a b c d : Int) (w : World) (h : fok a b = true) (k : fok c d = true) :
    Calls Try.prog 57 #[.agg #[.int .i64 a, .int .i64 b], .agg #[.int .i64 c, .int .i64 d]] w fun e w' => e = .returned (.tuple #[vI (tA a b c) (tB a b c), vI (tC c d) (tD c d)]) ∧ Below w.heap.size w w' := by
  have C1 := Lib.hid (fun wx => rNeg a b wx h)
  have C2 := Lib.hid (fun wx => rNeg c d wx k)
  have Q := Lib.hid (Four.new w (.int .i64 a) (.int .i64 b) (.int .i64 c) (.int .i64 d) (.int .i64 0) (.int .i64 0) (.int .i64 0) (.int .i64 0) 23)
  clear h k
  obtain ⟨⟨a0, a1, af0, af1, alt⟩, ⟨b0, b1, bf0, bf1, blt⟩, ⟨r0, r1, rf0, rf1, rlt⟩, ⟨s0, s1, sf0, sf1, slt⟩, -⟩ := id Q.out
  unfold vI tA tB tC tD
  by_cases hc : c < 0
  · rw [if_pos hc, if_pos hc, if_pos hc, if_pos hc]
    go_enter Try.func57, Try.ntmps57
    go_wp2_with fail
    generalize (((w.alloc (.cells #[.int .i64 a, .int .i64 b] 23)).alloc (.cells #[.int .i64 c, .int .i64 d] 23)).alloc (.cells #[.int .i64 0, .int .i64 0] 23)).alloc (.cells #[.int .i64 0, .int .i64 0] 23) = W at *
    have Q := Lib.hid (Q.out.keep (Below.refl _ W).drew)
    go_region_with
      (go_at_call 26; (first | (with_reducible refine (C1.out _).mono ?_) | (with_reducible refine (C2.out _).mono ?_)); rintro e w3 ⟨rfl, hb3⟩; have Q := Lib.hid (Q.out.keep hb3); clear hb3 a0 a1 af0 af1 alt b0 b1 bf0 bf1 blt r0 r1 rf0 rf1 rlt s0 s1 sf0 sf1 slt; obtain ⟨⟨a0, a1, af0, af1, alt⟩, ⟨b0, b1, bf0, bf1, blt⟩, ⟨r0, r1, rf0, rf1, rlt⟩, ⟨s0, s1, sf0, sf1, slt⟩, -⟩ := id Q.out)
    all_goals
      go_wp2_with fail
      obtain ⟨u0, u1⟩ := set2 r0 r1 (.int .i64 (-b)) (.int .i64 (-a))
      obtain ⟨v0, v1⟩ := Q.out.S.after (.int .i64 (-b)) (.int .i64 (-a)) (b := w.heap.size + 1 + 1) (by omega)
      obtain ⟨v0, v1⟩ := set2 v0 v1 (.int .i64 (-d)) (.int .i64 (-c))
      refine bodyPost_ret (v := .tuple #[.agg #[.int .i64 (-b), .int .i64 (-a)], .agg #[.int .i64 (-d), .int .i64 (-c)]]) (by simp [results, Try.results57, go_sem, u0, u1, v0, v1]) rfl ⟨rfl, ?_⟩
      exact below_set2 (below_set2 Q.out.le (by omega) _ _) (by omega) _ _
  · rw [if_neg hc, if_neg hc, if_neg hc, if_neg hc]
    go_enter Try.func57, Try.ntmps57
    go_wp2_with fail
    generalize (((w.alloc (.cells #[.int .i64 a, .int .i64 b] 23)).alloc (.cells #[.int .i64 c, .int .i64 d] 23)).alloc (.cells #[.int .i64 0, .int .i64 0] 23)).alloc (.cells #[.int .i64 0, .int .i64 0] 23) = W at *
    go_region
    go_wp2_with fail
    obtain ⟨u0, u1⟩ := set2 r0 r1 (.int .i64 a) (.int .i64 b)
    obtain ⟨v0, v1⟩ := Q.out.S.after (.int .i64 a) (.int .i64 b) (b := w.heap.size + 1 + 1) (by omega)
    obtain ⟨v0, v1⟩ := set2 v0 v1 (.int .i64 c) (.int .i64 d)
    refine bodyPost_ret (v := .tuple #[.agg #[.int .i64 a, .int .i64 b], .agg #[.int .i64 c, .int .i64 d]]) (by simp [results, Try.results57, go_sem, u0, u1, v0, v1]) rfl ⟨rfl, ?_⟩
    exact (below_set2 (below_set2 Q.out.le (by omega) _ _) (by omega) _ _).drew
end Go.Proofs.Ytdkigfcglfgpoaa
