/- WideProducts: the walk of the law. -/
import Derived.Test.YtpneahdbiikonaaAwk
import Derived.Test.YtpneahdbiikonaaDgR
namespace Go.Proofs.Ytpneahdbiikonaa
open Go.RowKit
set_option linter.unusedVariables false

/-- what the law's walk asks of its callees -/
structure PdC (a b p H L E : Int) : Prop where
  c1 : ∀ wx, Calls Try.prog 27 #[.int .i64 a, .int .i64 b] wx fun e w' => e = .returned (.tuple #[.agg #[.int .i64 H, .int .i64 L], .int .i64 E]) ∧ Below wx.heap.size wx w'
  i1 : ∀ wx, Calls Try.prog 16 #[.int .i64 a] wx (RetZ wx a)
  i2 : ∀ wx, Calls Try.prog 16 #[.int .i64 b] wx (RetZ wx b)
  m : ∀ wx A1 n1 c1 g1 A2 n2 c2 g2, NZ wx A1 n1 c1 g1 a → NZ wx A2 n2 c2 g2 b → Calls Try.prog 28 #[.agg #[.slice A1 n1 c1, .bool g1], .agg #[.slice A2 n2 c2, .bool g2]] wx (RetZ wx p)
  t : ∀ wx A1 n1 c1 g1, NZ wx A1 n1 c1 g1 p → Calls Try.prog 15 #[.agg #[.slice A1 n1 c1, .bool g1]] wx fun e w' => e = .returned (.tuple #[.agg #[.int .i64 H, .int .i64 L], .int .i64 E]) ∧ Below wx.heap.size wx w'

theorem pdC (a b : Int) (a1 : -9223372036854775808 ≤ a) (a2 : a ≤ 9223372036854775807) (b1 : -9223372036854775808 ≤ b) (b2 : b ≤ 9223372036854775807) : PdC a b (a * b) (fitH (a * b)) (fitL (a * b)) (fitE (a * b)) := by
  refine ⟨fun wx => product_any a b wx a1 a2 b1 b2, fun wx => ofint_any a wx a1 a2, fun wx => ofint_any b wx b1 b2, ?_, ?_⟩
  · intro wx A1 n1 c1 g1 A2 n2 c2 g2 q1 q2
    exact mul_any A1 A2 n1 c1 n2 c2 g1 g2 a b wx q1 q2 (sm_i64 a1 (by omega)) (sm_i64 b1 (by omega))
  · intro wx A1 n1 c1 g1 q
    refine towide_any A1 n1 c1 g1 (a * b) wx q ?_
    rw [Int.natAbs_mul]
    have := Nat.mul_le_mul (show a.natAbs ≤ 9223372036854775808 by omega) (show b.natAbs ≤ 9223372036854775808 by omega)
    omega

set_option maxRecDepth 100000 in
set_option maxHeartbeats 4000000 in
theorem pdt_walk (a b p H L E : Int) (w : World) (C : PdC a b p H L E) :
    Calls Try.prog 5 #[.int .i64 a, .int .i64 b] w fun e w' => e = .returned (.bool true) ∧ Below w.heap.size w w' := by
  have HC := Lib.hid C
  clear C
  go_enter Try.func5, Try.ntmps5
  go_wp2_with fail
  refine (awake_any _).mono ?_
  rintro e w1 ⟨rfl, hb1⟩
  have B := Lib.hid hb1
  clear hb1
  go_wp2_with fail
  refine (HC.out.c1 _).mono ?_
  rintro e w2 ⟨rfl, hb2⟩
  have B := Lib.hid (B.out.trans (hb2.mono B.out.size))
  clear hb2
  go_wp2_with fail
  refine (HC.out.i1 _).mono ?_
  rintro e w3 ⟨A3, n3, c3, g3, rfl, hz3, hf3, hb3⟩
  have B := Lib.hid ((B.out.alloc B.out.size _).trans (hb3.mono (by have := B.out.size; simp; omega)))
  have N := Lib.hid ((Bl2.new w2 (.int .i64 H) (.int .i64 L) 23).keep hb3)
  have Z3 := Lib.hid hz3
  clear hz3 hf3 hb3
  go_wp2_with fail
  refine (HC.out.i2 _).mono ?_
  rintro e w4 ⟨A4, n4, c4, g4, rfl, hz4, hf4, hb4⟩
  have B := Lib.hid (B.out.trans (hb4.mono B.out.size))
  have N := Lib.hid (N.out.keep hb4)
  have Z3 := Lib.hid (Z3.out.keep hb4)
  have Z4 := Lib.hid hz4
  clear hz4 hf4 hb4
  go_wp2_with fail
  refine (HC.out.m _ _ _ _ _ _ _ _ _ Z3.out Z4.out).mono ?_
  rintro e w5 ⟨A5, n5, c5, g5, rfl, hz5, hf5, hb5⟩
  have B := Lib.hid (B.out.trans (hb5.mono B.out.size))
  have N := Lib.hid (N.out.keep hb5)
  have Z5 := Lib.hid hz5
  clear hz5 hf5 hb5 Z3 Z4
  go_wp2_with fail
  refine (HC.out.t _ _ _ _ _ Z5.out).mono ?_
  rintro e w6 ⟨rfl, hb6⟩
  have B := Lib.hid (B.out.trans (hb6.mono B.out.size))
  obtain ⟨k0, k1, _, _, kl⟩ := N.out.keep hb6
  clear hb6 Z5 N
  go_wp2_with fail
  go_ret
  exact ⟨rfl, B.out.alloc B.out.size _⟩

theorem pdt_any (a b : Int) (w : World) (a1 : -9223372036854775808 ≤ a) (a2 : a ≤ 9223372036854775807) (b1 : -9223372036854775808 ≤ b) (b2 : b ≤ 9223372036854775807) :
    Calls Try.prog 5 #[.int .i64 a, .int .i64 b] w fun e w' => e = .returned (.bool true) ∧ Below w.heap.size w w' := pdt_walk a b _ _ _ _ w (pdC a b a1 a2 b1 b2)
end Go.Proofs.Ytpneahdbiikonaa
