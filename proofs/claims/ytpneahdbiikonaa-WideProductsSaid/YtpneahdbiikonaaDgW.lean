/- Contracts of the reference's OfInt (any int) and IsInt. -/
import Derived.Test.YtpneahdbiikonaaDgX
namespace Go.Proofs.Ytpneahdbiikonaa
open Go.RowKit
set_option linter.unusedVariables false
attribute [local go_sem ↓] Go.wp_at_zero Go.wp_at_succ

theorem ofint_any (z : Int) (w : World) (h1 : -9223372036854775808 ≤ z) (h2 : z ≤ 9223372036854775807) :
    Calls Try.prog 16 #[.int .i64 z] w (RetZ w z) := by
  by_cases hz : z < 0
  · obtain ⟨N, rfl⟩ : ∃ N : Nat, z = -(N : Int) := ⟨z.natAbs, by omega⟩
    refine (ofint_neg N w (by omega) (by omega)).mono ?_
    rintro e w' ⟨A, n, c, he, hd, hf, hb⟩
    exact ⟨A, n, c, true, he, ⟨by rw [Int.natAbs_neg, Int.natAbs_natCast]; exact hd, (decide_eq_true hz).symm⟩, hf, hb⟩
  · obtain ⟨N, rfl⟩ : ∃ N : Nat, z = (N : Int) := ⟨z.natAbs, by omega⟩
    refine (ofint_pos N w (by omega)).mono ?_
    rintro e w' ⟨A, n, c, he, hd, hf, hb⟩
    exact ⟨A, n, c, false, he, ⟨by rw [Int.natAbs_natCast]; exact hd, (decide_eq_false hz).symm⟩, hf, hb⟩

theorem sm_i64 {z : Int} (h1 : -9223372036854775808 ≤ z) (h2 : z ≤ 9223372036854775808) : Sm z := by
  unfold Sm
  have := dgs_len_ten (n := z.natAbs) (by omega)
  omega
theorem sgn_lt (z : Int) : (sgn z < 0) ↔ z < 0 := by unfold sgn; split; omega; split <;> omega
theorem sgn_gt (z : Int) : (0 < sgn z) ↔ 0 < z := by unfold sgn; split; omega; split <;> omega

/-- one struct of the call's own, and what lay before is as it was -/
structure One (w : World) (a0 a1 : Value) (wr : World) : Prop where
  l : Bl2 wr w.heap.size a0 a1
  bel : Below w.heap.size w wr
theorem One.new (w : World) (a0 a1 : Value) (T : Nat) : One w a0 a1 (w.alloc (.cells #[a0, a1] T)) := ⟨Bl2.new w a0 a1 T, (Below.refl _ _).alloc (Nat.le_refl _) _⟩
theorem One.keep {w wr w2 : World} {a0 a1 : Value} (h : One w a0 a1 wr) (hb : Below wr.heap.size wr w2) : One w a0 a1 w2 := ⟨h.l.keep hb, h.bel.trans (hb.mono h.bel.size)⟩
theorem One.drew {w wr : World} {a0 a1 : Value} (h : One w a0 a1 wr) : One w a0 a1 wr.drew := h.keep (Below.refl _ _).drew
theorem One.alloc {w wr : World} {a0 a1 : Value} (h : One w a0 a1 wr) (o : Obj) : One w a0 a1 (wr.alloc o) := h.keep ((Below.refl _ _).alloc (Nat.le_refl _) o)

/-- what IsInt's walk asks of its callees -/
structure IsC (w : World) (A : Option Addr) (n c : Nat) (g : Bool) (r1 r2 : Int) : Prop where
  c1 : ∀ wx, Calls Try.prog 16 #[.int .i64 (-9223372036854775808)] wx (RetZ wx (-9223372036854775808))
  c2 : ∀ wx, Calls Try.prog 16 #[.int .i64 9223372036854775807] wx (RetZ wx 9223372036854775807)
  k1 : ∀ wx A' n' c' g', Below w.heap.size w wx → NZ wx A' n' c' g' (-9223372036854775808) → Calls Try.prog 26 #[.agg #[.slice A n c, .bool g], .agg #[.slice A' n' c', .bool g']] wx fun e w' => e = .returned (.int .i64 r1) ∧ Below wx.heap.size wx w'
  k2 : ∀ wx A' n' c' g', Below w.heap.size w wx → NZ wx A' n' c' g' 9223372036854775807 → Calls Try.prog 26 #[.agg #[.slice A n c, .bool g], .agg #[.slice A' n' c', .bool g']] wx fun e w' => e = .returned (.int .i64 r2) ∧ Below wx.heap.size wx w'

theorem ofint_min (wx : World) : Calls Try.prog 16 #[.int .i64 (-9223372036854775808)] wx (RetZ wx (-9223372036854775808)) := by
  obtain ⟨M, hM⟩ : ∃ M : Int, M = -9223372036854775808 := ⟨_, rfl⟩
  rw [← hM]
  exact ofint_any M wx (by omega) (by omega)
theorem ofint_max (wx : World) : Calls Try.prog 16 #[.int .i64 9223372036854775807] wx (RetZ wx 9223372036854775807) := by
  obtain ⟨M, hM⟩ : ∃ M : Int, M = 9223372036854775807 := ⟨_, rfl⟩
  rw [← hM]
  exact ofint_any M wx (by omega) (by omega)
theorem isC (w : World) (A : Option Addr) (n c : Nat) (g : Bool) (x a b : Int) (ha : a = -9223372036854775808) (hb : b = 9223372036854775807) (hx : NZ w A n c g x) (sx : Sm x) : IsC w A n c g (sgn (x - a)) (sgn (x - b)) := by
  have s1 : Sm a := sm_i64 (by omega) (by omega)
  have s2 : Sm b := sm_i64 (by omega) (by omega)
  refine ⟨ofint_min, ofint_max, ?_, ?_⟩
  · rw [← ha]
    intro wx A' n' c' g' hb hz
    exact compare_num A A' n c n' c' g g' x a wx (hx.keep hb) hz sx s1
  · rw [← hb]
    intro wx A' n' c' g' hb hz
    exact compare_num A A' n c n' c' g g' x b wx (hx.keep hb) hz sx s2

set_option maxHeartbeats 4000000 in
theorem isint_low (A : Option Addr) (n c : Nat) (g : Bool) (r1 r2 : Int) (w : World) (C : IsC w A n c g r1 r2) (hr : r1 < 0) :
    Calls Try.prog 19 #[.agg #[.slice A n c, .bool g]] w fun e w' => e = .returned (.tuple #[.int .i64 0, .bool false]) ∧ Below w.heap.size w w' := by
  have HC := Lib.hid C
  have t1 : decide (r1 < 0) = true := decide_eq_true hr
  clear C
  have T0 := Lib.hid (One.new w (.slice A n c) (.bool g) 30).drew
  go_enter Try.func19, Try.ntmps19
  go_wp2_with fail
  go_region_with
    (first
    | (go_at_call 16; refine (HC.out.c1 _).mono ?_; rintro e w2 ⟨A2, n2, c2, g2, rfl, hz2, hf2, hb2⟩; have T2 := Lib.hid (T0.out.keep hb2); have Z2 := Lib.hid hz2; obtain ⟨⟨i0, i1, _, _, _⟩, _⟩ := id T2.out; clear hb2 hz2 hf2)
    | (go_at_call 26; refine (HC.out.k1 _ _ _ _ _ T2.out.bel Z2.out).mono ?_; rintro e w3 ⟨rfl, hb3⟩; have T3 := Lib.hid (T2.out.keep hb3); obtain ⟨⟨i0, i1, _, _, _⟩, _⟩ := id T3.out; clear hb3))
  all_goals
    go_wp2_with fail
    go_ret2
    exact ⟨rfl, T3.out.bel⟩

set_option maxHeartbeats 4000000 in
theorem isint_high (A : Option Addr) (n c : Nat) (g : Bool) (r1 r2 : Int) (w : World) (C : IsC w A n c g r1 r2) (hr : ¬ r1 < 0) (hs : 0 < r2) :
    Calls Try.prog 19 #[.agg #[.slice A n c, .bool g]] w fun e w' => e = .returned (.tuple #[.int .i64 0, .bool false]) ∧ Below w.heap.size w w' := by
  have HC := Lib.hid C
  have t1 : decide (r1 < 0) = false := decide_eq_false hr
  have t2 : decide (0 < r2) = true := decide_eq_true hs
  clear C
  have T0 := Lib.hid (One.new w (.slice A n c) (.bool g) 30).drew
  go_enter Try.func19, Try.ntmps19
  go_wp2_with fail
  go_region_with
    (first
    | (go_at_call 16; ((with_reducible refine (HC.out.c1 _).mono ?_); rintro e w2 ⟨A2, n2, c2, g2, rfl, hz2, hf2, hb2⟩; have T2 := Lib.hid (T0.out.keep hb2); have Z2 := Lib.hid hz2; obtain ⟨⟨i0, i1, _, _, _⟩, _⟩ := id T2.out; clear hb2 hz2 hf2))
    | (go_at_call 16; ((with_reducible refine (HC.out.c2 _).mono ?_); rintro e w4 ⟨A4, n4, c4, g4, rfl, hz4, hf4, hb4⟩; have T4 := Lib.hid (T3.out.keep hb4); have Z4 := Lib.hid hz4; obtain ⟨⟨i0, i1, _, _, _⟩, _⟩ := id T4.out; clear hb4 hz4 hf4))
    | (go_at_call 26; (refine (HC.out.k2 _ _ _ _ _ T4.out.bel Z4.out).mono ?_; rintro e w5 ⟨rfl, hb5⟩; have T5 := Lib.hid (T4.out.keep hb5); obtain ⟨⟨i0, i1, _, _, _⟩, _⟩ := id T5.out; clear hb5))
    | (go_at_call 26; (refine (HC.out.k1 _ _ _ _ _ T2.out.bel Z2.out).mono ?_; rintro e w3 ⟨rfl, hb3⟩; have T3 := Lib.hid (T2.out.keep hb3); obtain ⟨⟨i0, i1, _, _, _⟩, _⟩ := id T3.out; clear hb3)))
  all_goals
    go_wp2_with fail
    go_ret2
    exact ⟨rfl, T5.out.bel⟩

set_option maxHeartbeats 8000000 in
theorem isint_yes (A : Option Addr) (n c N : Nat) (g : Bool) (r1 r2 : Int) (w : World) (C : IsC w A n c g r1 r2) (hd : Dig w A n c (dgs N)) (hN : N ≤ 9223372036854775808) (hg : g = false → N ≤ 9223372036854775807) (hr : ¬ r1 < 0) (hs : ¬ 0 < r2) :
    Calls Try.prog 19 #[.agg #[.slice A n c, .bool g]] w fun e w' => e = .returned (.tuple #[.int .i64 (sv g N), .bool true]) ∧ Below w.heap.size w w' := by
  have HC := Lib.hid C
  have HD := Lib.hid hd
  have t1 : decide (r1 < 0) = false := decide_eq_false hr
  have t2 : decide (0 < r2) = false := decide_eq_false hs
  have hl := hd.len
  have hn4 : n ≤ 10 := by rw [hl]; exact dgs_len_ten (by omega)
  have HL := Lib.hid hl
  have HG := Lib.hid hg
  clear C hd hl hg
  have T0 := Lib.hid (One.new w (.slice A n c) (.bool g) 30).drew
  go_enter Try.func19, Try.ntmps19
  go_wp2_with fail
  go_region_with
    (first
    | (go_at_call 16; ((with_reducible refine (HC.out.c1 _).mono ?_); rintro e w2 ⟨A2, n2, c2, g2, rfl, hz2, hf2, hb2⟩; have T2 := Lib.hid (T0.out.keep hb2); have Z2 := Lib.hid hz2; obtain ⟨⟨i0, i1, _, _, _⟩, _⟩ := id T2.out; clear hb2 hz2 hf2))
    | (go_at_call 16; ((with_reducible refine (HC.out.c2 _).mono ?_); rintro e w4 ⟨A4, n4, c4, g4, rfl, hz4, hf4, hb4⟩; have T4 := Lib.hid (T3.out.keep hb4); have Z4 := Lib.hid hz4; obtain ⟨⟨i0, i1, _, _, _⟩, _⟩ := id T4.out; clear hb4 hz4 hf4))
    | (go_at_call 26; (refine (HC.out.k2 _ _ _ _ _ T4.out.bel Z4.out).mono ?_; rintro e w5 ⟨rfl, hb5⟩; have T5 := Lib.hid (T4.out.keep hb5); obtain ⟨⟨i0, i1, _, _, _⟩, _⟩ := id T5.out; clear hb5))
    | (go_at_call 26; (refine (HC.out.k1 _ _ _ _ _ T2.out.bel Z2.out).mono ?_; rintro e w3 ⟨rfl, hb3⟩; have T3 := Lib.hid (T2.out.keep hb3); obtain ⟨⟨i0, i1, _, _, _⟩, _⟩ := id T3.out; clear hb3)))
  all_goals
    have HD5 := Lib.hid (HD.out.keep T5.out.bel)
    go_wp2_with fail
    go_loop [4, 5] (fun nv iv => ∃ k : Nat, k ≤ n ∧ iv = .int .i64 ((k : Int) - 1) ∧ nv = .int .i64 (sv g (val ((dgs N).drop k)))) (fun _ iv => (intOf iv + 1).toNat)
    case atStart => exact ⟨n, Nat.le_refl _, by first | rfl | go_num, by rw [List.drop_of_length_le (by rw [← HL.out]; exact Nat.le_refl _)]; cases g <;> rfl⟩
    case round =>
      obtain ⟨k, hk, rfl, rfl⟩ := hrel
      by_cases hk0 : k = 0
      · subst hk0
        have E : Hid (sv g (val ((dgs N).drop 0)) = sv g N) := by show _ = _; rw [List.drop_zero, val_dgs]
        obtain ⟨q, hq⟩ : ∃ q, q = sv g (val ((dgs N).drop 0)) := ⟨_, rfl⟩
        rw [← hq] at E ⊢
        clear hq
        go_wp2_with fail
        go_ret2
        exact ⟨by rw [E.out]; rfl, T5.out.bel⟩
      · obtain ⟨j, rfl⟩ : ∃ j, k = j + 1 := ⟨k - 1, by omega⟩
        have hjl : j < (dgs N).length := by rw [← HL.out]; omega
        obtain ⟨ga, rfl, hga, hca⟩ := HD5.out.cell hjl
        have hvd := val_drop_succ (dgs N) j hjl
        have hvt := val_take_drop (dgs N) j (by omega)
        rw [val_dgs] at hvt
        have hpj := pw_pos j
        have hle : val ((dgs N).drop j) ≤ N := by
          have : 1 * val ((dgs N).drop j) ≤ pw j * val ((dgs N).drop j) := Nat.mul_le_mul_right _ hpj
          omega
        obtain ⟨x, hx⟩ : ∃ x, x = (dgs N).getD j 0 := ⟨_, rfl⟩
        obtain ⟨V, hV⟩ : ∃ V, V = val ((dgs N).drop (j + 1)) := ⟨_, rfl⟩
        obtain ⟨W, hW⟩ : ∃ W, W = val ((dgs N).drop j) := ⟨_, rfl⟩
        rw [← hx] at hca hvd
        rw [← hV, ← hW] at hvd
        rw [← hW] at hle
        have en : ((j + 1 : Nat) : Int) - 1 = (j : Int) := by omega
        rw [en, ← hV]
        have HWe := Lib.hid hW
        have b0 : x ≤ W := by omega
        have b1 : 268435456 * V ≤ W := by omega
        have hjn : (j : Int) < (n : Int) := by omega
        clear hvt hx hV hW en hpj hjl
        cases g
        · have hm : W ≤ 9223372036854775807 := Nat.le_trans hle (HG.out rfl)
          show Code.wp _ _ _ _ _
          rw [show sv false V = (V : Int) from rfl]
          have RL : Hid ((V : Int) * 268435456 + (x : Int) = sv false (val ((dgs N).drop j))) := by show _ = _; rw [← HWe.out]; show _ = (W : Int); omega
          have b2 : (V : Int) * 268435456 + (x : Int) ≤ 9223372036854775807 := by omega
          clear hvd
          go_wp2_with fail
          go_round
          case rel => exact ⟨j, by omega, by first | rfl | go_num, by rw [RL.out]⟩
          case measure => simp [intOf]
        · have hm : W ≤ 9223372036854775808 := Nat.le_trans hle hN
          rw [show sv true V = -(V : Int) from rfl]
          have RL : Hid (-(V : Int) * 268435456 + -(x : Int) = sv true (val ((dgs N).drop j))) := by show _ = _; rw [← HWe.out]; show _ = -(W : Int); omega
          have b2 : -9223372036854775808 ≤ -(V : Int) * 268435456 + -(x : Int) := by omega
          clear hvd
          go_wp2_with fail
          go_round
          case rel => exact ⟨j, by omega, by first | rfl | go_num, by rw [RL.out]⟩
          case measure => simp [intOf]
end Go.Proofs.Ytpneahdbiikonaa
