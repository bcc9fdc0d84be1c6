/- Trig: contracts of the reference's high, quick. -/
import Derived.Test.YtglmkpnnbgkndaaDoorTg15
import Derived.Test.YtglmkpnnbgkndaaDoorAnU
import Derived.Deep.LoopGhost
namespace Go.Proofs.YtglmkpnnbgkndaaDoor
open Go.RowKit
set_option linter.unusedVariables false
set_option maxRecDepth 100000

theorem mask31 (l : Int) : bits .and .i64 l 2147483647 = l % 2147483648 := by
  have h2 : (BitVec.ofInt 64 (2147483647 : Int)).toNat = 2147483647 := by decide
  have h1 : (BitVec.ofInt 64 l).toNat = (l % 18446744073709551616).toNat := by rw [BitVec.toNat_ofInt]; rfl
  show IntKind.i64.wrap ((BitVec.ofInt 64 l &&& BitVec.ofInt 64 2147483647).toNat : Int) = _
  rw [BitVec.toNat_and, h1, h2, show (2147483647 : Nat) = 2 ^ 31 - 1 by rfl, Nat.and_two_pow_sub_one_eq_mod, IntKind.wrap_i64]
  omega
theorem hiN_le (a b : Nat) (ha : a ≤ 4611686018427387904) (hb : b ≤ 4611686018427387904) : L6.hiN a b ≤ 4611686018427387904 := by
  have h := (L6.hiN_in a b).1
  have m := Nat.mul_le_mul ha hb
  omega
theorem hiN_le_left (a b : Nat) (hb : b ≤ 4611686018427387904) : L6.hiN a b ≤ a := by
  have h := (L6.hiN_in a b).1
  have m := Nat.mul_le_mul (Nat.le_refl a) hb
  omega
set_option maxHeartbeats 1000000 in
theorem rHigh (a b : Nat) (w : World) (ha : a ≤ 4611686018427387904) (hb : b ≤ 4611686018427387904) :
    Calls Tryd.prog 73 #[.int .i64 (a : Int), .int .i64 (b : Int)] w fun e w' => e = .returned (.int .i64 (L6.hiN a b : Int)) ∧ w' = w := by
  unfold L6.hiN
  have a1 : a / 2147483648 ≤ 2147483648 := by omega
  have a0 : a % 2147483648 ≤ 2147483648 := by omega
  have b1 : b / 2147483648 ≤ 2147483648 := by omega
  have b0 : b % 2147483648 ≤ 2147483648 := by omega
  have f1 : (a : Int) / 2147483648 = ((a / 2147483648 : Nat) : Int) := by omega
  have f2 : bits .and .i64 (a : Int) 2147483647 = ((a % 2147483648 : Nat) : Int) := by rw [mask31]; omega
  have f3 : (b : Int) / 2147483648 = ((b / 2147483648 : Nat) : Int) := by omega
  have f4 : bits .and .i64 (b : Int) 2147483647 = ((b % 2147483648 : Nat) : Int) := by rw [mask31]; omega
  generalize a / 2147483648 = p at *
  generalize a % 2147483648 = q at *
  generalize b / 2147483648 = r at *
  generalize b % 2147483648 = s at *
  have m1 := Nat.mul_le_mul a1 b1
  have m2 := Nat.mul_le_mul a1 b0
  have m3 := Nat.mul_le_mul a0 b1
  have g1 : (p : Int) * (r : Int) = ((p * r : Nat) : Int) := by rw [Int.natCast_mul]
  have g2 : (p : Int) * (s : Int) = ((p * s : Nat) : Int) := by rw [Int.natCast_mul]
  have g3 : (q : Int) * (r : Int) = ((q * r : Nat) : Int) := by rw [Int.natCast_mul]
  generalize p * r = x at *
  generalize p * s = y at *
  generalize q * r = z at *
  have h1 : (y : Int) / 2147483648 = ((y / 2147483648 : Nat) : Int) := by omega
  have h2 : (z : Int) / 2147483648 = ((z / 2147483648 : Nat) : Int) := by omega
  have k1 : y / 2147483648 ≤ 2147483648 := by omega
  have k2 : z / 2147483648 ≤ 2147483648 := by omega
  have x1 : x ≤ 4611686018427387904 := by omega
  have y1 : y ≤ 4611686018427387904 := by omega
  have z1 : z ≤ 4611686018427387904 := by omega
  generalize y / 2147483648 = y' at *
  generalize z / 2147483648 = z' at *
  clear m1 m2 m3 a1 a0 b1 b0 ha hb
  go_enter Tryd.func73, Tryd.ntmps73
  go_wp2
  go_ret
  exact ⟨ret_int (by omega), rfl⟩
end Go.Proofs.YtglmkpnnbgkndaaDoor
