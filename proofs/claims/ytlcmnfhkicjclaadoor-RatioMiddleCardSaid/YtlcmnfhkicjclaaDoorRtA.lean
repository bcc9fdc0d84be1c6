/- Contracts of absolute, commonDivisor, quotient. -/
import Derived.Test.YtlcmnfhkicjclaaDoorRtU
namespace Go.Proofs.YtlcmnfhkicjclaaDoor
open Go.RowKit
set_option linter.unusedVariables false

theorem absolute_any (n : Int) (w : World) (h1 : -9223372036854775808 ≤ n) (h2 : n ≤ 9223372036854775807) :
    Calls Tryd.prog 44 #[.int .i64 n] w fun e w' => e = .returned (.int .u64 ((n.natAbs : Nat) : Int)) ∧ w = w' := by
  by_cases h : n < 0
  · go_enter Tryd.func44, Tryd.ntmps44
    go_wp2
    go_ret
    exact ⟨ret_int (by rw [IntKind.wrap_u64, IntKind.wrap_u64]; omega), rfl⟩
  · go_enter Tryd.func44, Tryd.ntmps44
    go_wp2
    go_ret
    exact ⟨ret_int (by omega), rfl⟩

set_option maxHeartbeats 1000000 in
theorem cd_q (a b : Nat) (w : World) (ha : a < 18446744073709551616) (hb : b < 18446744073709551616) :
    Calls Tryd.prog 45 #[.int .u64 (a : Int), .int .u64 (b : Int)] w fun e w' => e = .returned (.int .u64 ((a.gcd b : Nat) : Int)) ∧ ∃ m, w' = w.drewN m := by
  obtain ⟨g, hg⟩ : ∃ g, g = a.gcd b := ⟨_, rfl⟩
  rw [← hg]
  have HG0 : Hid (g = a.gcd b) := hg
  have HA := Lib.hid ha
  have HB := Lib.hid hb
  clear hg ha hb
  go_enter Tryd.func45, Tryd.ntmps45
  go_wp2_with fail
  go_loopg [0, 1] b (fun m va vb wr => ∃ x y : Nat, m = y ∧ va = .int .u64 (x : Int) ∧ vb = .int .u64 (y : Int) ∧ Hid (g = x.gcd y ∧ x < 18446744073709551616 ∧ y < 18446744073709551616) ∧ ∃ q : Nat, wr = w.drewN q)
  case atStart => exact ⟨a, b, rfl, rfl, rfl, And.intro HG0.out (And.intro HA.out HB.out), 0, rfl⟩
  case round =>
    obtain ⟨x, y, hgk, rfl, rfl, HG, q, rfl⟩ := hrel
    have HGK := Lib.hid hgk
    clear hgk
    by_cases hz : y = 0
    · subst hz
      go_wp2_with fail
      go_ret
      exact ⟨ret_int (by rw [HG.out.1, Nat.gcd_zero_right]), q, rfl⟩
    · have t1 : ((y : Int) != 0) = true := by rw [bne_iff_ne]; omega
      have t2 : ¬ (y : Int) = 0 := by omega
      obtain ⟨r, hr⟩ : ∃ r, r = x % y := ⟨_, rfl⟩
      have t3 : Int.tmod (x : Int) (y : Int) = (r : Int) := by rw [hr]; rfl
      have t4 : r < y := by rw [hr]; exact Nat.mod_lt _ (by omega)
      have HS := Lib.hid (gcd_step x y)
      have HR := Lib.hid hr
      have HT4 := Lib.hid t4
      have w1 : IntKind.u64.wrap (r : Int) = (r : Int) := by rw [IntKind.wrap_u64]; have := HG.out; omega
      clear hr t4
      go_wp2_with fail
      go_quiet (fail)
      go_wp2
      go_roundg r
      case measure => have := HGK.out; have := HT4.out; omega
      case rel => exact ⟨y, r, rfl, by go_num, by go_num, And.intro (by rw [HG.out.1, HS.out, HR.out]) (by have := HG.out; have := HT4.out; omega), q + nq, by rw [World.drewN_drewN]⟩

theorem cd_any (a b : Nat) (w : World) (ha : a < 18446744073709551616) (hb : b < 18446744073709551616) :
    Calls Tryd.prog 45 #[.int .u64 (a : Int), .int .u64 (b : Int)] w fun e w' => e = .returned (.int .u64 ((a.gcd b : Nat) : Int)) ∧ Below w.heap.size w w' :=
  (cd_q a b w ha hb).mono fun _ _ ⟨h, m, hm⟩ => ⟨h, hm ▸ below_drewN _ _ _⟩
theorem absolute_q (n : Int) (w : World) (h1 : -9223372036854775808 ≤ n) (h2 : n ≤ 9223372036854775807) :
    Calls Tryd.prog 44 #[.int .i64 n] w fun e w' => e = .returned (.int .u64 ((n.natAbs : Nat) : Int)) ∧ w' = w :=
  (absolute_any n w h1 h2).mono fun _ _ ⟨h, m⟩ => ⟨h, m.symm⟩

theorem quotient_any (a b : Int) (w : World) (hb : 0 < b) (h1 : -4611686018427387904 ≤ a) (h2 : a ≤ 4611686018427387904) :
    Calls Tryd.prog 48 #[.int .i64 a, .int .i64 b] w fun e w' => e = .returned (.int .i64 (a / b)) ∧ w = w' := by
  obtain ⟨f1, f2⟩ := tfloor a b hb
  have b0 : ¬ b = 0 := by omega
  have q1 : a.tdiv b ≤ 4611686018427387904 ∧ -4611686018427387904 ≤ a.tdiv b := by
    have e : (a.tdiv b).natAbs ≤ a.natAbs := by rw [Int.natAbs_tdiv]; exact Nat.div_le_self _ _
    omega
  by_cases h : a.tmod b < 0
  · have E := Lib.hid (f1 h)
    obtain ⟨q, hq⟩ : ∃ q, a.tdiv b = q := ⟨_, rfl⟩
    rw [hq] at q1 E
    obtain ⟨q1, q2⟩ := q1
    clear f1 f2
    go_enter Tryd.func48, Tryd.ntmps48
    go_wp2
    go_ret
    exact ⟨ret_int (by have := E.out; go_num), rfl⟩
  · have E := Lib.hid (f2 h)
    obtain ⟨q, hq⟩ : ∃ q, a.tdiv b = q := ⟨_, rfl⟩
    rw [hq] at q1 E
    obtain ⟨q1, q2⟩ := q1
    clear f1 f2
    go_enter Tryd.func48, Tryd.ntmps48
    go_wp2
    go_ret
    exact ⟨ret_int (by have := E.out; go_num), rfl⟩
end Go.Proofs.YtlcmnfhkicjclaaDoor
