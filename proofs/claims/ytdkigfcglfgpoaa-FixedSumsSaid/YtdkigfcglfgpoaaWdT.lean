/- Contracts of wide.root and Root. -/
import Derived.Test.YtdkigfcglfgpoaaWdS
namespace Go.Proofs.Ytdkigfcglfgpoaa.wd
open Go.RowKit
set_option linter.unusedVariables false

theorem root_zero (w : World) :
    Calls Try.prog 76 #[.int .u64 0, .int .u64 0] w fun e w' => e = .returned (.int .u64 0) ∧ Below w.heap.size w w' := by
  go_enter Try.func76, Try.ntmps76
  go_wp2_with fail
  go_ret
  exact ⟨rfl, Below.refl _ _⟩

/-- the loop of root: from any guess that is not less than the root -/
structure RtN (N r G : Nat) : Prop where
  h1 : r * r ≤ N
  h2 : N < (r + 1) * (r + 1)
  r1 : 1 ≤ r
  rG : r ≤ G
  G2 : G ≤ 1152921504606846976

set_option maxRecDepth 100000 in
set_option maxHeartbeats 2000000 in
theorem root_hi (N r G M : Nat) (l0 L : Int) (w : World) (R : RtN N r G) (h0 : 0 < (N : Int) / 18446744073709551616) (h9 : (N : Int) / 18446744073709551616 < 72057594037927936)
    (hL : 1 ≤ L) (hL2 : L ≤ 56) (hM : (64 + L + 1) / 2 = (M : Int)) (hG : (2 : Int) ^ M = (G : Int))
    (C0 : ∀ wx, Calls Try.prog 81 #[.int .u64 ((N : Int) % 18446744073709551616)] wx fun e w' => e = .returned (.int .i64 l0) ∧ wx = w')
    (C1 : ∀ wx, Calls Try.prog 81 #[.int .u64 ((N : Int) / 18446744073709551616)] wx fun e w' => e = .returned (.int .i64 L) ∧ wx = w')
    (CD : ∀ (g : Nat) wx, r ≤ g → g < 18446744073709551616 → Calls Try.prog 79 #[.int .u64 ((N : Int) / 18446744073709551616), .int .u64 ((N : Int) % 18446744073709551616), .int .u64 (g : Int)] wx fun e w' => e = .returned (.tuple #[.int .u64 ((N / g : Nat) : Int), .int .u64 ((N % g : Nat) : Int)]) ∧ Below wx.heap.size wx w') :
    Calls Try.prog 76 #[.int .u64 ((N : Int) / 18446744073709551616), .int .u64 ((N : Int) % 18446744073709551616)] w fun e w' => e = .returned (.int .u64 (r : Int)) ∧ Below w.heap.size w w' := by
  have t1 : ((N : Int) / 18446744073709551616 == 0) = false := by rw [beq_eq_false_iff_ne]; omega
  have H0 := Lib.hid C0
  have H1 := Lib.hid C1
  have HD := Lib.hid CD
  have HR := Lib.hid R
  have g1 : (1 : Int) ≤ (G : Int) := by have := R.rG; have := R.r1; omega
  have g2 : (G : Int) ≤ 1152921504606846976 := by have := R.G2; omega
  have r2 : (1 : Int) ≤ (r : Int) := by have := R.r1; omega
  clear C0 C1 CD R
  go_enter Try.func76, Try.ntmps76
  go_wp2_with fail
  refine (H0.out _).mono ?_
  rintro e w' ⟨rfl, rfl⟩
  go_wp2_with fail
  refine (H1.out _).mono ?_
  rintro e w' ⟨rfl, rfl⟩
  go_wp2_with fail
  go_loopg [6] G (fun m v wr => ∃ g : Nat, m = g ∧ v = .int .u64 (g : Int) ∧ Hid ((r : Int) ≤ (g : Int) ∧ (g : Int) ≤ 1152921504606846976) ∧ Below w.heap.size w wr)
  case atStart => exact ⟨G, rfl, rfl, And.intro (by have := HR.out.rG; omega) g2, Below.refl _ _⟩
  case round =>
    obtain ⟨g, hgk, rfl, HG, hb⟩ := hrel
    have HGK := Lib.hid hgk
    clear hgk
    have hg1 := HG.out.1
    have hg2 := HG.out.2
    have HB := Lib.hid hb
    have hd := HD.out g wr (by omega) (by omega)
    have hq := nw_quo N r g HR.out.h2 HR.out.r1 (by omega)
    have hge := nw_ge N r g HR.out.h1 (by omega)
    have hst := nw_stop N r g HR.out.h2 (by omega)
    obtain ⟨q, hq'⟩ : ∃ q, q = N / g := ⟨_, rfl⟩
    obtain ⟨t, ht⟩ : ∃ t, t = N % g := ⟨_, rfl⟩
    rw [← hq'] at hd hq hge hst
    rw [← ht] at hd
    have hq2 : (q : Int) ≤ 1152921504606846978 := by omega
    have hge2 : (r : Int) ≤ ((g : Int) + (q : Int)) / 2 := by omega
    obtain ⟨n, hn⟩ : ∃ n : Nat, ((g : Int) + (q : Int)) / 2 = (n : Int) := ⟨(g + q) / 2, by omega⟩
    rw [hn] at hge2
    have HST : Hid ((n : Int) ≥ (g : Int) → g ≤ r) := fun h => hst (by omega)
    have hn2 : (n : Int) ≤ 1152921504606846977 := by omega
    have HDD := Lib.hid hd
    clear hb hd hst hge hq hq' ht
    by_cases hc : (g : Int) ≤ (n : Int)
    · go_wp2_with fail
      refine (HDD.out).mono ?_
      rintro e w1 ⟨rfl, hb1⟩
      have HB1 := Lib.hid (bstep HB.out hb1)
      clear hb1
      go_wp2_with fail
      go_ret
      exact ⟨ret_int (by have := HST.out (by omega); omega), HB1.out⟩
    · have hc' := Lib.hid (show (n : Int) < (g : Int) by omega)
      have hcN : decide (g ≤ n) = false := decide_eq_false (by omega)
      have hge3 := Lib.hid hge2
      clear hc hM hG hL hL2 g1 g2 hge2 HST
      go_wp2_with fail
      refine (HDD.out).mono ?_
      rintro e w1 ⟨rfl, hb1⟩
      have HB1 := Lib.hid (bstep HB.out hb1)
      clear hb1
      go_wp2_with fail
      go_roundg n
      case rel => exact ⟨n, rfl, by go_num, And.intro hge3.out (by have := hc'.out; omega), HB1.out⟩
      case measure => have := HGK.out; have := hc'.out; omega
set_option maxRecDepth 100000 in
set_option maxHeartbeats 2000000 in
theorem root_lo (N r G M : Nat) (L : Int) (w : World) (R : RtN N r G) (h0 : 0 < (N : Int)) (h9 : (N : Int) < 18446744073709551616)
    (hL : 1 ≤ L) (hL2 : L ≤ 64) (hM : (L + 1) / 2 = (M : Int)) (hG : (2 : Int) ^ M = (G : Int))
    (C0 : ∀ wx, Calls Try.prog 81 #[.int .u64 (N : Int)] wx fun e w' => e = .returned (.int .i64 L) ∧ wx = w')
    (CD : ∀ (g : Nat) wx, r ≤ g → g < 18446744073709551616 → Calls Try.prog 79 #[.int .u64 0, .int .u64 (N : Int), .int .u64 (g : Int)] wx fun e w' => e = .returned (.tuple #[.int .u64 ((N / g : Nat) : Int), .int .u64 ((N % g : Nat) : Int)]) ∧ Below wx.heap.size wx w') :
    Calls Try.prog 76 #[.int .u64 0, .int .u64 (N : Int)] w fun e w' => e = .returned (.int .u64 (r : Int)) ∧ Below w.heap.size w w' := by
  have t1 : ((N : Int) == 0) = false := by rw [beq_eq_false_iff_ne]; omega
  have H0 := Lib.hid C0
  have HD := Lib.hid CD
  have HR := Lib.hid R
  have g1 : (1 : Int) ≤ (G : Int) := by have := R.rG; have := R.r1; omega
  have g2 : (G : Int) ≤ 1152921504606846976 := by have := R.G2; omega
  have r2 : (1 : Int) ≤ (r : Int) := by have := R.r1; omega
  clear C0 CD R
  go_enter Try.func76, Try.ntmps76
  go_wp2_with fail
  refine (H0.out _).mono ?_
  rintro e w' ⟨rfl, rfl⟩
  go_wp2_with fail
  go_loopg [6] G (fun m v wr => ∃ g : Nat, m = g ∧ v = .int .u64 (g : Int) ∧ Hid ((r : Int) ≤ (g : Int) ∧ (g : Int) ≤ 1152921504606846976) ∧ Below w.heap.size w wr)
  case atStart => exact ⟨G, rfl, rfl, And.intro (by have := HR.out.rG; omega) g2, Below.refl _ _⟩
  case round =>
    obtain ⟨g, hgk, rfl, HG, hb⟩ := hrel
    have HGK := Lib.hid hgk
    clear hgk
    have hg1 := HG.out.1
    have hg2 := HG.out.2
    have HB := Lib.hid hb
    have hd := HD.out g wr (by omega) (by omega)
    have hq := nw_quo N r g HR.out.h2 HR.out.r1 (by omega)
    have hge := nw_ge N r g HR.out.h1 (by omega)
    have hst := nw_stop N r g HR.out.h2 (by omega)
    obtain ⟨q, hq'⟩ : ∃ q, q = N / g := ⟨_, rfl⟩
    obtain ⟨t, ht⟩ : ∃ t, t = N % g := ⟨_, rfl⟩
    rw [← hq'] at hd hq hge hst
    rw [← ht] at hd
    have hq2 : (q : Int) ≤ 1152921504606846978 := by omega
    have hge2 : (r : Int) ≤ ((g : Int) + (q : Int)) / 2 := by omega
    obtain ⟨n, hn⟩ : ∃ n : Nat, ((g : Int) + (q : Int)) / 2 = (n : Int) := ⟨(g + q) / 2, by omega⟩
    rw [hn] at hge2
    have HST : Hid ((n : Int) ≥ (g : Int) → g ≤ r) := fun h => hst (by omega)
    have hn2 : (n : Int) ≤ 1152921504606846977 := by omega
    have HDD := Lib.hid hd
    clear hb hd hst hge hq hq' ht
    by_cases hc : (g : Int) ≤ (n : Int)
    · go_wp2_with fail
      refine (HDD.out).mono ?_
      rintro e w1 ⟨rfl, hb1⟩
      have HB1 := Lib.hid (bstep HB.out hb1)
      clear hb1
      go_wp2_with fail
      go_ret
      exact ⟨ret_int (by have := HST.out (by omega); omega), HB1.out⟩
    · have hc' := Lib.hid (show (n : Int) < (g : Int) by omega)
      have hcN : decide (g ≤ n) = false := decide_eq_false (by omega)
      have hge3 := Lib.hid hge2
      clear hc hM hG hL hL2 g1 g2 hge2 HST
      go_wp2_with fail
      refine (HDD.out).mono ?_
      rintro e w1 ⟨rfl, hb1⟩
      have HB1 := Lib.hid (bstep HB.out hb1)
      clear hb1
      go_wp2_with fail
      go_roundg n
      case rel => exact ⟨n, rfl, by go_num, And.intro hge3.out (by have := hc'.out; omega), HB1.out⟩
      case measure => have := HGK.out; have := hc'.out; omega

theorem root_any (N r : Nat) (w : World) (hN : N < 1329227995784915872903807060280344576) (h1 : r * r ≤ N) (h2 : N < (r + 1) * (r + 1)) :
    Calls Try.prog 76 #[.int .u64 ((N : Int) / 18446744073709551616), .int .u64 ((N : Int) % 18446744073709551616)] w fun e w' => e = .returned (.int .u64 (r : Int)) ∧ Below w.heap.size w w' := by
  by_cases hz : N = 0
  · subst hz
    have : r = 0 := by
      rcases Nat.eq_zero_or_pos r with h | h
      · exact h
      · have := Nat.mul_le_mul h h; omega
    subst this
    exact root_zero w
  have hr1 : 1 ≤ r := by
    rcases Nat.eq_zero_or_pos r with h | h
    · subst h; omega
    · exact h
  have hquo : ∀ g, r ≤ g → N / 18446744073709551616 < g := by
    intro g hg
    have hlt : r < 1152921504606846976 := root_le N r _ h1 (by omega)
    have : N / 18446744073709551616 < r := by
      rw [Nat.div_lt_iff_lt_mul (by omega)]
      have e1 : (r + 1) * (r + 1) = r * r + 2 * r + 1 := by rw [Nat.add_mul, Nat.mul_add]; omega
      have e2 : r * r ≤ r * 1152921504606846976 := Nat.mul_le_mul_left r (by omega)
      omega
    omega
  have hmk : ∀ (L M : Nat), N < 2 ^ L → L ≤ 120 → (L + 1) / 2 = M → RtN N r (2 ^ M) := by
    intro L M hL hL2 hM
    refine ⟨h1, h2, hr1, ?_, ?_⟩
    · refine Nat.le_of_lt (root_le N r _ h1 ?_)
      rw [← Nat.pow_add]
      exact Nat.lt_of_lt_of_le hL (Nat.pow_le_pow_right (by omega) (by omega))
    · have : 2 ^ M ≤ 2 ^ 60 := Nat.pow_le_pow_right (by omega) (by omega)
      exact this
  have hlen : ∀ x : Nat, 0 < x → x < 18446744073709551616 → 1 ≤ Lib.bitLen x ∧ Lib.bitLen x ≤ 64 ∧ x < 2 ^ Lib.bitLen x := by
    intro x h0 hx
    have hb := Lib.bitLenAux_bounds 64 x hx (by omega)
    exact ⟨hb.1, Lib.bitLen_le x 64 (by omega) hx, hb.2.2⟩
  have CL : ∀ (x : Nat), x < 18446744073709551616 → ∀ wx, Calls Try.prog 81 #[.int .u64 (x : Int)] wx fun e w' => e = .returned (.int .i64 (Lib.bitLen x : Int)) ∧ wx = w' := by
    intro x hx wx
    refine (Try.bits_Len64 (x : Int) wx (by omega) (by omega)).mono ?_
    rintro e w' ⟨rfl, rfl⟩
    exact ⟨rfl, rfl⟩
  by_cases hs : N < 18446744073709551616
  · rw [show (N : Int) / 18446744073709551616 = 0 by omega, show (N : Int) % 18446744073709551616 = (N : Int) by omega]
    obtain ⟨L, hL⟩ : ∃ L, L = Lib.bitLen N := ⟨_, rfl⟩
    have hl := hlen N (by omega) hs
    have cl := CL N hs
    rw [← hL] at hl cl
    refine root_lo N r (2 ^ ((L + 1) / 2)) ((L + 1) / 2) (L : Int) w (hmk L _ hl.2.2 (by omega) rfl) (by omega) (by omega) (by omega) (by omega) (by omega) (by rw [Int.natCast_pow]; rfl) cl ?_
    intro g wx hg hg2
    have := div64_any 0 N g wx hs hg2 (by omega)
    rw [Nat.zero_mul, Nat.zero_add] at this
    exact this
  · have hh : N / 18446744073709551616 < 72057594037927936 := by omega
    obtain ⟨L, hL⟩ : ∃ L, L = Lib.bitLen (N / 18446744073709551616) := ⟨_, rfl⟩
    have hl := hlen (N / 18446744073709551616) (by omega) (by omega)
    have hl56 : Lib.bitLen (N / 18446744073709551616) ≤ 56 := Lib.bitLen_le _ 56 (by omega) hh
    have cl := CL (N / 18446744073709551616) (by omega)
    have c0 := CL (N % 18446744073709551616) (by omega)
    rw [← hL] at hl cl hl56
    have hlN : N < 2 ^ (64 + L) := by
      rw [Nat.pow_add, Nat.mul_comm]
      rw [Nat.div_lt_iff_lt_mul (by omega)] at hl
      exact hl.2.2
    rw [Int.natCast_ediv] at cl
    rw [Int.natCast_emod] at c0
    refine root_hi N r (2 ^ ((64 + L + 1) / 2)) ((64 + L + 1) / 2) _ (L : Int) w (hmk (64 + L) _ hlN (by omega) rfl) (by omega) (by omega) (by omega) (by omega) (by omega) (by rw [Int.natCast_pow]; rfl) c0 cl ?_
    intro g wx hg hg2
    have := div64_any (N / 18446744073709551616) (N % 18446744073709551616) g wx (Nat.mod_lt _ (by omega)) hg2 (hquo g hg)
    rw [Nat.div_add_mod' N 18446744073709551616, Int.natCast_ediv N 18446744073709551616, Int.natCast_emod N 18446744073709551616] at this
    exact this

theorem Root_ok (h l : Int) (r : Nat) (w : World) (hk : wok h l = true) (hp : 0 ≤ h) (h1 : ((r * r : Nat) : Int) ≤ wv h l) (h2 : wv h l < (((r + 1) * (r + 1) : Nat) : Int)) :
    Calls Try.prog 68 #[.agg #[.int .i64 h, .int .i64 l]] w fun e w' => e = .returned (.tuple #[.int .i64 (r : Int), .int .i64 0]) ∧ Below w.heap.size w w' := by
  have C1 := Lib.hid (fun wx => valid_is h l true hk wx)
  have hv0 : 0 ≤ wv h l ∧ wv h l < 1329227995784915872903807060280344576 := by rw [wok_iff] at hk; unfold wv; omega
  have C2 : Hid (∀ wx, Calls Try.prog 77 #[.agg #[.int .i64 h, .int .i64 l]] wx fun e w' => e = .returned (.tuple #[.int .u64 (((wv h l).natAbs : Int) / 18446744073709551616), .int .u64 (((wv h l).natAbs : Int) % 18446744073709551616)]) ∧ Below wx.heap.size wx w') := by
    intro wx
    have := halves_any h l wx hk
    rw [Int.natCast_ediv, Int.natCast_emod] at this
    exact this
  obtain ⟨N, hN⟩ : ∃ N, N = (wv h l).natAbs := ⟨_, rfl⟩
  rw [← hN] at C2
  have C3 := Lib.hid (fun wx => root_any N r wx (by omega) (by omega) (by omega))
  have hr : r < 1152921504606846976 := root_le N r _ (by omega) (by omega)
  have hri : wrap64 (r : Int) = (r : Int) := IntWalk.wrap64_in _ (by omega)
  clear hk h1 h2 hv0 hN hr
  go_enter Try.func68, Try.ntmps68
  go_wp2_with fail
  refine (C1.out _).mono ?_
  rintro e w1 ⟨rfl, hb1⟩
  have A := (At2.new w (.int .i64 h) (.int .i64 l) 67).keep hb1
  have HB := Lib.hid (bstep (below1 w _) hb1)
  clear hb1
  obtain ⟨p0, p1, _, _, _⟩ := id A
  go_wp2_with fail
  refine (C2.out _).mono ?_
  rintro e w2 ⟨rfl, hb2⟩
  have HB2 := Lib.hid (bstep HB.out hb2)
  clear hb2 p0 p1
  go_wp2_with fail
  refine (C3.out _).mono ?_
  rintro e w3 ⟨rfl, hb3⟩
  have HB3 := Lib.hid (bstep HB2.out hb3)
  clear hb3
  have HRI := Lib.hid hri
  clear hri
  go_wp2_with fail
  go_ret2
  exact ⟨by rw [HRI.out]; rfl, HB3.out⟩
theorem Root_bad (h l : Int) (w : World) (hk : wok h l = false) :
    Calls Try.prog 68 #[.agg #[.int .i64 h, .int .i64 l]] w fun e w' => e = .returned (.tuple #[.int .i64 0, .int .i64 1]) ∧ Below w.heap.size w w' := by
  have C1 := Lib.hid (fun wx => valid_is h l false hk wx)
  clear hk
  go_enter Try.func68, Try.ntmps68
  go_wp2_with fail
  refine (C1.out _).mono ?_
  rintro e w1 ⟨rfl, hb1⟩
  have HB := Lib.hid (bstep (below1 w _) hb1)
  clear hb1
  go_wp2_with fail
  go_ret2
  exact ⟨rfl, HB.out⟩
theorem Root_neg (h l : Int) (w : World) (hk : wok h l = true) (hp : h < 0) :
    Calls Try.prog 68 #[.agg #[.int .i64 h, .int .i64 l]] w fun e w' => e = .returned (.tuple #[.int .i64 0, .int .i64 2]) ∧ Below w.heap.size w w' := by
  have C1 := Lib.hid (fun wx => valid_is h l true hk wx)
  clear hk
  go_enter Try.func68, Try.ntmps68
  go_wp2_with fail
  refine (C1.out _).mono ?_
  rintro e w1 ⟨rfl, hb1⟩
  obtain ⟨p0, p1, _, _, _⟩ := (At2.new w (.int .i64 h) (.int .i64 l) 67).keep hb1
  have HB := Lib.hid (bstep (below1 w _) hb1)
  clear hb1
  go_wp2_with fail
  go_ret2
  exact ⟨rfl, HB.out⟩
end Go.Proofs.Ytdkigfcglfgpoaa.wd
