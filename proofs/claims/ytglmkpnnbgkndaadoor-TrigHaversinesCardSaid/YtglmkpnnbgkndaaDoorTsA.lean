/- Trig: the program's numbers of two limbs: differences, products, arcs. -/
import Derived.Test.YtglmkpnnbgkndaaDoorTrA
import Derived.Test.YtglmkpnnbgkndaaDoorTg18
import Derived.Test.YtglmkpnnbgkndaaDoorShelf
import Derived.Shelf.Spec.BitsCarry
namespace Go.Proofs.YtglmkpnnbgkndaaDoor
open Go.RowKit
set_option linter.unusedVariables false
set_option maxRecDepth 100000

/-- a number of two limbs -/
def hb (n : Nat) : Int := ((n / 18446744073709551616 : Nat) : Int)
def lb (n : Nat) : Int := ((n % 18446744073709551616 : Nat) : Int)
theorem sub_run (x y b : Nat) (hb : b ≤ 1) (w : World) :
    (callFunc 80 #[.int .u64 x, .int .u64 y, .int .u64 b]).run Tryd.prog w =
      .ok (.value (.tuple #[.int .u64 (((x + 18446744073709551616 - y - b) % 18446744073709551616 : Nat) : Int), .int .u64 ((if x < y + b then 1 else 0 : Nat) : Int)])) w := by
  rw [run_callFunc_extern Tryd.func80 (by kernel_rfl) (by kernel_rfl) (by kernel_rfl) (e := sub64Entry) (by kernel_rfl), run_sub64 x y b hb]
  rfl
theorem add_run (x y : Nat) (w : World) :
    (callFunc 79 #[.int .u64 x, .int .u64 y, .int .u64 0]).run Tryd.prog w =
      .ok (.value (.tuple #[.int .u64 (((x + y) % 18446744073709551616 : Nat) : Int), .int .u64 (((x + y) / 18446744073709551616 : Nat) : Int)])) w := by
  rw [run_callFunc_extern Tryd.func79 (by kernel_rfl) (by kernel_rfl) (by kernel_rfl) (e := add64Entry) (by kernel_rfl), run_add64 x y 0 (by omega) (by omega) (by omega) (by omega)]
  simp only [Result.andThen]
  congr 5 <;> omega

theorem minus_any (a b : Nat) (ha : a < 340282366920938463463374607431768211456) (hb' : b < 340282366920938463463374607431768211456) (w : World) :
    Calls Tryd.prog 71 #[.agg #[.int .u64 (hb a), .int .u64 (lb a)], .agg #[.int .u64 (hb b), .int .u64 (lb b)]] w fun e w' => e = .returned (.agg #[.int .u64 (hb ((a + 340282366920938463463374607431768211456 - b) % 340282366920938463463374607431768211456)), .int .u64 (lb ((a + 340282366920938463463374607431768211456 - b) % 340282366920938463463374607431768211456))]) ∧ Below w.heap.size w w' := by
  obtain ⟨A, B⟩ := At2.two w (.int .u64 (hb a)) (.int .u64 (lb a)) (.int .u64 (hb b)) (.int .u64 (lb b)) 74 74
  unfold hb lb at *
  obtain ⟨c, hc⟩ : ∃ c, c = (a + 340282366920938463463374607431768211456 - b) % 340282366920938463463374607431768211456 := ⟨_, rfl⟩
  rw [← hc]
  obtain ⟨a1, ha1⟩ : ∃ x, x = a / 18446744073709551616 := ⟨_, rfl⟩
  obtain ⟨a0, ha0⟩ : ∃ x, x = a % 18446744073709551616 := ⟨_, rfl⟩
  obtain ⟨b1, hb1⟩ : ∃ x, x = b / 18446744073709551616 := ⟨_, rfl⟩
  obtain ⟨b0, hb0⟩ : ∃ x, x = b % 18446744073709551616 := ⟨_, rfl⟩
  rw [← ha1, ← ha0] at A
  rw [← hb1, ← hb0] at B
  rw [← ha1, ← ha0, ← hb1, ← hb0]
  have S1 := fun wx => sub_run a0 b0 0 (by omega) wx
  obtain ⟨l, hl⟩ : ∃ l : Nat, l = (a0 + 18446744073709551616 - b0 - 0) % 18446744073709551616 := ⟨_, rfl⟩
  obtain ⟨k, hk⟩ : ∃ k : Nat, k = if a0 < b0 + 0 then 1 else 0 := ⟨_, rfl⟩
  rw [← hl, ← hk] at S1
  have hk1 : k ≤ 1 := by rw [hk]; split <;> omega
  have S2 := fun wx => sub_run a1 b1 k hk1 wx
  obtain ⟨h, hh⟩ : ∃ h : Nat, h = (a1 + 18446744073709551616 - b1 - k) % 18446744073709551616 := ⟨_, rfl⟩
  obtain ⟨j, hj⟩ : ∃ k' : Nat, k' = if a1 < b1 + k then 1 else 0 := ⟨_, rfl⟩
  rw [← hh, ← hj] at S2
  simp only [Int.cast_ofNat_Int] at S1 S2
  have e1 : c / 18446744073709551616 = h := by rw [hc, hh, hk, ha1, ha0, hb1, hb0]; split <;> omega
  have e2 : c % 18446744073709551616 = l := by rw [hc, hl, ha0, hb0]; omega
  rw [e1, e2]
  clear e1 e2 hc hh hk hl hj ha1 ha0 hb1 hb0 ha hb' hk1
  obtain ⟨A0, A1, -, -, -⟩ := id A
  obtain ⟨B0, B1, -, -, -⟩ := id B
  have HB := Lib.hid (below3 w (.cells #[.int .u64 a1, .int .u64 a0] 74) (.cells #[.int .u64 b1, .int .u64 b0] 74) (.cells #[.int .u64 0, .int .u64 0] 74))
  have A' := A.alloc (.cells #[.int .u64 0, .int .u64 0] 74)
  have B' := B.alloc (.cells #[.int .u64 0, .int .u64 0] 74)
  go_enter Tryd.func71, Tryd.ntmps71
  go_wp2_with fail
  refine bodyPost_ret (v := .agg #[.int .u64 h, .int .u64 l]) (by simp [results, Tryd.results71, go_sem]) rfl ⟨rfl, ?_⟩
  exact below3 _ _ _ _

theorem times_any (a b : Nat) (ha : a < 340282366920938463463374607431768211456) (hb' : b < 340282366920938463463374607431768211456) (w : World) :
    Calls Tryd.prog 70 #[.agg #[.int .u64 (hb a), .int .u64 (lb a)], .agg #[.int .u64 (hb b), .int .u64 (lb b)]] w fun e w' => e = .returned (.agg #[.int .u64 (hb (L6.pm a b)), .int .u64 (lb (L6.pm a b))]) ∧ Below w.heap.size w w' := by
  obtain ⟨A, B⟩ := At2.two w (.int .u64 (hb a)) (.int .u64 (lb a)) (.int .u64 (hb b)) (.int .u64 (lb b)) 74 74
  unfold hb lb at *
  obtain ⟨c, hc⟩ : ∃ c, c = L6.pm a b := ⟨_, rfl⟩
  rw [← hc]
  unfold L6.pm at hc
  have pb : c ≤ b := by rw [hc]; exact L6.pm_le a b (by omega)
  obtain ⟨a1, ha1⟩ : ∃ x, x = a / 18446744073709551616 := ⟨_, rfl⟩
  obtain ⟨a0, ha0⟩ : ∃ x, x = a % 18446744073709551616 := ⟨_, rfl⟩
  obtain ⟨b1, hb1⟩ : ∃ x, x = b / 18446744073709551616 := ⟨_, rfl⟩
  obtain ⟨b0, hb0⟩ : ∃ x, x = b % 18446744073709551616 := ⟨_, rfl⟩
  have la1 : a1 < 18446744073709551616 := by omega
  have la0 : a0 < 18446744073709551616 := by omega
  have lb1 : b1 < 18446744073709551616 := by omega
  have lb0 : b0 < 18446744073709551616 := by omega
  have lc : c < 340282366920938463463374607431768211456 := by omega
  rw [← ha1, ← ha0] at A
  rw [← hb1, ← hb0] at B
  rw [← ha1, ← ha0, ← hb1, ← hb0] at hc
  rw [← ha1, ← ha0, ← hb1, ← hb0]
  clear ha1 ha0 hb1 hb0 pb ha hb'
  have C1 := Lib.hid (fun (wx : World) => Tryd.bits_Mul64 a1 b1 la1 lb1 wx)
  have C2 := Lib.hid (fun (wx : World) => Tryd.bits_Mul64 a1 b0 la1 lb0 wx)
  have C3 := Lib.hid (fun (wx : World) => Tryd.bits_Mul64 a0 b1 la0 lb1 wx)
  obtain ⟨P, hP⟩ : ∃ P, P = a1 * b1 := ⟨_, rfl⟩
  rw [← hP] at C1 hc
  obtain ⟨h, hh⟩ : ∃ x, x = P / 18446744073709551616 := ⟨_, rfl⟩
  obtain ⟨l, hl⟩ : ∃ x, x = P % 18446744073709551616 := ⟨_, rfl⟩
  rw [← hh, ← hl] at C1
  obtain ⟨q, hq⟩ : ∃ x, x = a1 * b0 / 18446744073709551616 := ⟨_, rfl⟩
  obtain ⟨q', hq'⟩ : ∃ x, x = a1 * b0 % 18446744073709551616 := ⟨_, rfl⟩
  rw [← hq, ← hq'] at C2
  rw [← hq] at hc
  obtain ⟨r, hr⟩ : ∃ x, x = a0 * b1 / 18446744073709551616 := ⟨_, rfl⟩
  obtain ⟨r', hr'⟩ : ∃ x, x = a0 * b1 % 18446744073709551616 := ⟨_, rfl⟩
  rw [← hr, ← hr'] at C3
  rw [← hr] at hc
  clear hq hq' hr hr' hP la1 la0 lb1 lb0
  have S1 := fun wx => add_run l q wx
  obtain ⟨m, hm⟩ : ∃ x, x = (l + q) % 18446744073709551616 := ⟨_, rfl⟩
  obtain ⟨k, hk⟩ : ∃ x, x = (l + q) / 18446744073709551616 := ⟨_, rfl⟩
  rw [← hm, ← hk] at S1
  have S2 := fun wx => add_run m r wx
  obtain ⟨n, hn⟩ : ∃ x, x = (m + r) % 18446744073709551616 := ⟨_, rfl⟩
  obtain ⟨j, hj⟩ : ∃ x, x = (m + r) / 18446744073709551616 := ⟨_, rfl⟩
  rw [← hn, ← hj] at S2
  have e1 : c / 18446744073709551616 = h + k + j := by omega
  have e2 : c % 18446744073709551616 = n := by omega
  have u1 : h + k + j < 18446744073709551616 := by omega
  rw [e1, e2]
  clear e1 e2 hc hh hl hm hk hn hj lc
  have w1 : IntKind.u64.wrap ((h : Int) + (k : Int)) = ((h + k : Nat) : Int) := by rw [IntKind.wrap_u64]; omega
  have w2 : IntKind.u64.wrap (((h + k : Nat) : Int) + (j : Int)) = ((h + k + j : Nat) : Int) := by rw [IntKind.wrap_u64]; omega
  obtain ⟨x, hx⟩ : ∃ x, x = h + k := ⟨_, rfl⟩
  obtain ⟨y, hy⟩ : ∃ y, y = h + k + j := ⟨_, rfl⟩
  rw [← hy] at w2 ⊢
  rw [← hx] at w1 w2
  clear hx hy u1
  have A' := A.alloc (.cells #[.int .u64 0, .int .u64 0] 74)
  have B' := B.alloc (.cells #[.int .u64 0, .int .u64 0] 74)
  obtain ⟨A0, A1, -, -, -⟩ := id A'
  obtain ⟨B0, B1, -, -, -⟩ := id B'
  go_enter Tryd.func70, Tryd.ntmps70
  go_wp2_with fail
  refine (C1.out _).mono ?_
  rintro e w1 ⟨rfl, rfl⟩
  go_wp2_with fail
  refine (C2.out _).mono ?_
  rintro e w2 ⟨rfl, rfl⟩
  go_wp2_with fail
  refine (C3.out _).mono ?_
  rintro e w3 ⟨rfl, rfl⟩
  go_wp2_with fail
  refine bodyPost_ret (v := .agg #[.int .u64 y, .int .u64 n]) (by simp [results, Tryd.results70, go_sem]) rfl ⟨rfl, ?_⟩
  exact below3 _ _ _ _
end Go.Proofs.YtglmkpnnbgkndaaDoor
