/- Arctrig: the reference's Side: what its limbs decide. -/
import Derived.Test.YtndcjldnnfhedaaDoorArYg
import Derived.Test.YtndcjldnnfhedaaDoorArYb
import Derived.RegionTactic
import Derived.Deep.RegionHeld3
namespace Go.Proofs.YtndcjldnnfhedaaDoor.wd2
open Go.RowKit
set_option linter.unusedVariables false
set_option maxRecDepth 100000

theorem ne_len {k P A : Nat} (K : Kk k P A) (n : Int) : (dgs (L6.neL P A n).natAbs).length ≤ 13 := by
  have e : (L6.neL P A n).natAbs = (L6.nvL P A n).natAbs := by unfold L6.neL; split <;> simp
  have b : (L6.nvL P A n).natAbs < pw (k + 1) := by
    have h := L6.rr_in n
    have x := K.xle _ h
    have f : L6.flP P (L6.xL A (L6.rr n)) (L6.xL A (L6.rr n)) ≤ P := Nat.le_trans (L6.flP_le x) x
    have s := nv_pos k P A K n
    unfold L6.nvL at *
    split
    · have a := (pl_len (d := 1) K.pw f (Nat.le_refl P) 16 (Nat.le_refl _)).1
      have t := L6.al_split P P (L6.flP P (L6.xL A (L6.rr n)) (L6.xL A (L6.rr n))) 1 16
      unfold L6.cosL
      rename_i c
      rw [if_pos c] at s
      unfold L6.cosL at s
      omega
    · have a := (pl_len (d := 2) K.pw f x 16 (Nat.le_refl _)).1
      have t := L6.al_split P (L6.xL A (L6.rr n)) (L6.flP P (L6.xL A (L6.rr n)) (L6.xL A (L6.rr n))) 2 16
      unfold L6.sinL
      rename_i c
      rw [if_neg c] at s
      unfold L6.sinL at s
      omega
  rw [e]
  exact dgs_short K.hk b
theorem mul_len {a b : Int} (ha : (dgs a.natAbs).length ≤ 13) (hb : (dgs b.natAbs).length ≤ 13) : (dgs (a * b).natAbs).length ≤ 26 := by
  rw [Int.natAbs_mul]
  have := dgs_len_mul a.natAbs b.natAbs
  omega
theorem sub_len {a b : Int} (ha : (dgs a.natAbs).length ≤ 26) (hb : (dgs b.natAbs).length ≤ 26) : (dgs (a + -b).natAbs).length ≤ 27 := by
  have h : (a + -b).natAbs ≤ a.natAbs + b.natAbs := by omega
  have m := dgs_len_mono h
  have := dgs_len_add a.natAbs b.natAbs
  omega
theorem x_len {x : Int} (h0 : 0 ≤ x) (h1 : x ≤ 4398046511104) : (dgs x.natAbs).length ≤ 13 := by
  have := dgs_len_ten (n := x.natAbs) (by omega)
  omega
/-- what a number of limbs decides -/
structure Dec (k P A : Nat) (n X Y : Int) : Prop where
  up : 4398046511104 < L6.dL P A n X Y → L6.sd n X Y = 1
  dn : L6.dL P A n X Y < -4398046511104 → L6.sd n X Y = -1
  last : k = 4 → 4398046511104 < (L6.dL P A n X Y).natAbs
theorem sd_sign {n X Y : Int} (h0 : 0 ≤ n) (h1 : n ≤ 5400000) (hn : n % 2700000 ≠ 0) (x0 : 0 < X) : (0 < L6.tS n X Y → L6.sd n X Y = 1) ∧ (L6.tS n X Y < 0 → L6.sd n X Y = -1) := by
  have e := L6.sd_other (X := X) (Y := Y) h0 h1 hn (by omega)
  rw [e]
  constructor
  · intro h; rw [if_pos h]
  · intro h; rw [if_neg (by grind)]
theorem dec3 {n X Y : Int} (h0 : 0 ≤ n) (h1 : n ≤ 5400000) (hn : n % 2700000 ≠ 0) (x0 : 0 < X) (x1 : X ≤ 2147483648) (y0 : 0 ≤ Y) (y1 : Y ≤ 2147483648) : Dec 3 L6.P3 L6.A3 n X Y := by
  obtain ⟨a, b⟩ := L6.side3 n X Y (by omega) (by omega)
  obtain ⟨c, d⟩ := sd_sign (Y := Y) h0 h1 hn x0
  exact ⟨fun h => c (a h), fun h => d (b h), fun h => by omega⟩
theorem dec4 {n X Y : Int} (h0 : 0 ≤ n) (h1 : n ≤ 5400000) (hn : n % 2700000 ≠ 0) (x0 : 0 < X) (x1 : X ≤ 2147483648) (y0 : 0 ≤ Y) (y1 : Y ≤ 2147483648) : Dec 4 L6.P4 L6.A4 n X Y := by
  have hm : L6.mT n % 2700000 ≠ 0 := by unfold L6.mT; rw [show n % 21600000 = n by omega]; exact hn
  obtain ⟨c, d⟩ := sd_sign (Y := Y) h0 h1 hn x0
  rcases L6.side4 n X Y hm (by omega) (by omega) (by omega) with ⟨a, b⟩ | ⟨a, b⟩
  · exact ⟨fun _ => c b, fun h => by omega, fun _ => by omega⟩
  · exact ⟨fun h => by omega, fun _ => d b, fun _ => by omega⟩
end Go.Proofs.YtndcjldnnfhedaaDoor.wd2
