/- Fixed: contracts of the reference's Root, Sqrt. -/
import Derived.Test.YtdkigfcglfgpoaaFxC
namespace Go.Proofs.Ytdkigfcglfgpoaa
open Go.RowKit
set_option linter.unusedVariables false

/-- the root of an integer that is not negative, searched by halves -/
theorem rRoot (n r : Int) (w : World) (h0 : 0 ≤ n) (hn : n ≤ 4611686018427387903) (hr : isRt n r) :
    Calls Try.prog 59 #[.int .i64 n] w fun e w' => e = .returned (.int .i64 r) ∧ w' = w := by
  have HR := Lib.hid hr
  have HN := Lib.hid hn
  have H0 := Lib.hid h0
  clear hr hn h0
  go_enter Try.func59, Try.ntmps59
  go_wp2_with fail
  go_loopg [3, 4] 2147483648 (fun m v3 v4 wr => ∃ x y : Int, m = (y - x).toNat ∧ v3 = .int .i64 x ∧ v4 = .int .i64 y ∧ Hid (0 ≤ x ∧ x < y ∧ y ≤ 2147483648 ∧ x * x ≤ n ∧ n < y * y) ∧ wr = w)
  case atStart => exact ⟨0, 2147483648, rfl, rfl, rfl, And.intro (by omega) (And.intro (by omega) (And.intro (by omega) (And.intro (by have := H0.out; omega) (by have := HN.out; omega)))), rfl⟩
  case round =>
    obtain ⟨x, y, hm, rfl, rfl, HI, rfl⟩ := hrel
    obtain ⟨i1, i2, i3, i4, i5⟩ := id HI.out
    clear i4 i5
    have HM := Lib.hid hm
    clear hm
    by_cases hl : y - x > 1
    · obtain ⟨s, hs⟩ : ∃ s, (x + y) / 2 = s := ⟨_, rfl⟩
      have s1 : x < s := by omega
      have s2 : s < y := by omega
      have e0 : (x + y).tdiv 2 = s := by rw [Int.tdiv_eq_ediv_of_nonneg (by omega)]; exact hs
      have q1 := mul_abs (a := s) (b := s) (A := 2147483648) (B := 2147483648) (by omega) (by omega) (by omega) (by omega)
      obtain ⟨p, hp⟩ : ∃ p, s * s = p := ⟨_, rfl⟩
      rw [hp] at q1
      have e1 := w64_is hp (by omega) (by omega)
      have HP := Lib.hid hp
      clear hp hs q1
      by_cases c : p ≤ n
      · go_wp2_with fail
        go_roundg (y - s).toNat
        case measure => have := HM.out; omega
        case rel => exact ⟨s, y, rfl, rfl, rfl, And.intro (by omega) (And.intro (by omega) (And.intro (by omega) (And.intro (by rw [HP.out]; exact c) HI.out.2.2.2.2))), rfl⟩
      · go_wp2_with fail
        go_roundg (s - x).toNat
        case measure => have := HM.out; omega
        case rel => exact ⟨x, s, rfl, rfl, rfl, And.intro (by omega) (And.intro (by omega) (And.intro (by omega) (And.intro HI.out.2.2.2.1 (by rw [HP.out]; omega)))), rfl⟩
    · have e : x = r := isRt_one (n := n) ⟨i1, HI.out.2.2.2.1, by have := HI.out.2.2.2.2; rw [show y = x + 1 by omega] at this; exact this⟩ HR.out
      subst e
      go_wp2_with fail
      go_ret
      exact ⟨rfl, rfl⟩

theorem rSqrt_neg (a b : Int) (w : World) (h : fok a b = true) (hb : b < 0) :
    Calls Try.prog 36 #[.agg #[.int .i64 a, .int .i64 b]] w fun e w' => e = .returned (vR (sqrtR a b)) ∧ Below w.heap.size w w' := by
  obtain ⟨A, R⟩ := At2.two w (.int .i64 a) (.int .i64 b) (.int .i64 0) (.int .i64 0) 23 23
  have p := (fok_iff _ _).1 h
  rw [← sqrtR_of (R := ⟨0, 0, 2⟩) (by omega) ⟨.inl ⟨hb, rfl⟩⟩]
  unfold vR
  obtain ⟨a0, a1, af0, af1, alt⟩ := A
  obtain ⟨b0, b1, bf0, bf1, blt⟩ := R
  clear h p
  go_enter Try.func36, Try.ntmps36
  go_wp2_with fail
  refine bodyPost_ret (v := .tuple #[.agg #[.int .i64 0, .int .i64 0], .int .i64 2]) (by simp [results, Try.results36, go_sem]) rfl ⟨rfl, ?_⟩
  exact below2 _ _ _

set_option maxHeartbeats 1000000 in
theorem rSqrt_some (a b : Int) (w : World) (h : fok a b = true) (hb : ¬ b < 0) :
    Calls Try.prog 36 #[.agg #[.int .i64 a, .int .i64 b]] w fun e w' => e = .returned (vR (sqrtR a b)) ∧ Below w.heap.size w w' := by
  obtain ⟨A, R⟩ := At2.two w (.int .i64 a) (.int .i64 b) (.int .i64 0) (.int .i64 0) 23 23
  have p := (fok_iff _ _).1 h
  obtain ⟨r, hr⟩ := isRt_ex (n := max a 0 * 1073741824) (by omega)
  obtain ⟨s, hs⟩ := isRt_ex (n := b * 1073741824) (by omega)
  have F := sqrtR_of (a := a) (b := b) (R := ⟨r, upR (b * 1073741824) s, 0⟩) (by omega) ⟨.inr ⟨by omega, r, s, hr, hs, rfl⟩⟩
  rw [← F]
  clear F
  have CM := Lib.hid (fun wx => rMo a 0 wx)
  obtain ⟨m, hm⟩ : ∃ m, max a 0 = m := ⟨_, rfl⟩
  have m1 : 0 ≤ m ∧ m ≤ 2147483648 := by omega
  rw [hm] at hr CM
  have C1 := Lib.hid (fun wx => rRoot (m * 1073741824) r wx (by omega) (by omega) hr)
  have C2 := Lib.hid (fun wx => rRoot (b * 1073741824) s wx (by omega) (by omega) hs)
  have s0 := hs.1
  have ub := upR_bound (by omega) (by omega) hs
  have ub1 := (upR_le hs).1
  obtain ⟨q, hq⟩ : ∃ q, s * s = q := ⟨_, rfl⟩
  have q1 := mul_abs (a := s) (b := s) (A := 2147483648) (B := 2147483648) (by omega) (by omega) (by omega) (by omega)
  rw [hq] at q1
  have e1 := w64_is hq (by omega) (by omega)
  unfold upR at *
  rw [hq] at ub ub1 ⊢
  unfold vR
  clear h hr hs hm hq
  obtain ⟨m1, m2⟩ := m1
  obtain ⟨p1, p2, p3⟩ := p
  obtain ⟨a0, a1, af0, af1, alt⟩ := id A
  by_cases c : q < b * 1073741824
  · simp only [if_pos c] at ub ub1 ⊢
    go_enter Try.func36, Try.ntmps36
    go_wp2_with fail
    refine (CM.out _).mono ?_
    rintro e w1 ⟨rfl, rfl⟩
    go_wp2_with fail
    refine (C1.out _).mono ?_
    rintro e w1 ⟨rfl, rfl⟩
    go_wp2_with fail
    refine (C2.out _).mono ?_
    rintro e w1 ⟨rfl, rfl⟩
    go_wp2_with fail
    refine bodyPost_ret (v := .tuple #[.agg #[.int .i64 r, .int .i64 (s + 1)], .int .i64 0]) (by simp [results, Try.results36, go_sem]) rfl ⟨rfl, ?_⟩
    exact below2 _ _ _
  · simp only [if_neg c] at ub ub1 ⊢
    go_enter Try.func36, Try.ntmps36
    go_wp2_with fail
    refine (CM.out _).mono ?_
    rintro e w1 ⟨rfl, rfl⟩
    go_wp2_with fail
    refine (C1.out _).mono ?_
    rintro e w1 ⟨rfl, rfl⟩
    go_wp2_with fail
    refine (C2.out _).mono ?_
    rintro e w1 ⟨rfl, rfl⟩
    go_wp2_with fail
    refine bodyPost_ret (v := .tuple #[.agg #[.int .i64 r, .int .i64 s], .int .i64 0]) (by simp [results, Try.results36, go_sem]) rfl ⟨rfl, ?_⟩
    exact below2 _ _ _
theorem rSqrt (a b : Int) (w : World) (h : fok a b = true) :
    Calls Try.prog 36 #[.agg #[.int .i64 a, .int .i64 b]] w fun e w' => e = .returned (vR (sqrtR a b)) ∧ Below w.heap.size w w' := by
  by_cases hb : b < 0
  · exact rSqrt_neg a b w h hb
  · exact rSqrt_some a b w h hb
end Go.Proofs.Ytdkigfcglfgpoaa
