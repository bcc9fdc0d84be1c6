/- The program of layer 6: limbs. -/
import Derived.Test.YtndcjldnnfhedaaDoorTra
import Derived.Test.YtndcjldnnfhedaaDoorPld
import Derived.Test.YtndcjldnnfhedaaDoorShelf
import Derived.Shelf.Spec.BitsCarry
import Derived.Test.YtndcjldnnfhedaaDoorPlf
/- Trig: the program's numbers of two limbs: differences, products, arcs. -/
namespace Go.Proofs.YtndcjldnnfhedaaDoor
open Go.RowKit
set_option linter.unusedVariables false
set_option maxRecDepth 100000

/-- a number of two limbs -/
def hb (n : Nat) : Int := ((n / 18446744073709551616 : Nat) : Int)
def lb (n : Nat) : Int := ((n % 18446744073709551616 : Nat) : Int)
theorem sub_run (x y b : Nat) (hb : b ≤ 1) (w : World) :
    (callFunc 108 #[.int .u64 x, .int .u64 y, .int .u64 b]).run Tryd.prog w =
      .ok (.value (.tuple #[.int .u64 (((x + 18446744073709551616 - y - b) % 18446744073709551616 : Nat) : Int), .int .u64 ((if x < y + b then 1 else 0 : Nat) : Int)])) w := by
  rw [run_callFunc_extern Tryd.func108 (by kernel_rfl) (by kernel_rfl) (by kernel_rfl) (e := sub64Entry) (by kernel_rfl), run_sub64 x y b hb]
  rfl
theorem add_run (x y : Nat) (w : World) :
    (callFunc 96 #[.int .u64 x, .int .u64 y, .int .u64 0]).run Tryd.prog w =
      .ok (.value (.tuple #[.int .u64 (((x + y) % 18446744073709551616 : Nat) : Int), .int .u64 (((x + y) / 18446744073709551616 : Nat) : Int)])) w := by
  rw [run_callFunc_extern Tryd.func96 (by kernel_rfl) (by kernel_rfl) (by kernel_rfl) (e := add64Entry) (by kernel_rfl), run_add64 x y 0 (by omega) (by omega) (by omega) (by omega)]
  simp only [Result.andThen]
  congr 5 <;> omega

theorem minus_any (a b : Nat) (ha : a < 340282366920938463463374607431768211456) (hb' : b < 340282366920938463463374607431768211456) (w : World) :
    Calls Tryd.prog 93 #[.agg #[.int .u64 (hb a), .int .u64 (lb a)], .agg #[.int .u64 (hb b), .int .u64 (lb b)]] w fun e w' => e = .returned (.agg #[.int .u64 (hb ((a + 340282366920938463463374607431768211456 - b) % 340282366920938463463374607431768211456)), .int .u64 (lb ((a + 340282366920938463463374607431768211456 - b) % 340282366920938463463374607431768211456))]) ∧ Below w.heap.size w w' := by
  obtain ⟨A, B⟩ := At2.two w (.int .u64 (hb a)) (.int .u64 (lb a)) (.int .u64 (hb b)) (.int .u64 (lb b)) 100 100
  unfold hb lb at *
  obtain ⟨c, hc⟩ : ∃ c, c = (a + 340282366920938463463374607431768211456 - b) % 340282366920938463463374607431768211456 := ⟨_, rfl⟩
  rw [← hc]
  obtain ⟨a1, ha1⟩ : ∃ x, x = a / 18446744073709551616 := ⟨_, rfl⟩
  obtain ⟨a0, ha0⟩ : ∃ x, x = a % 18446744073709551616 := ⟨_, rfl⟩
  obtain ⟨b1, hb1⟩ : ∃ x, x = b / 18446744073709551616 := ⟨_, rfl⟩
  obtain ⟨b0, hb0⟩ : ∃ x, x = b % 18446744073709551616 := ⟨_, rfl⟩
  rw [← ha1, ← ha0] at A
  rw [← hb1, ← hb0] at B
  rw [← ha1, ← ha0, ← hb1, ← hb0]
  have S1 := fun wx => sub_run a0 b0 0 (by omega) wx
  obtain ⟨l, hl⟩ : ∃ l : Nat, l = (a0 + 18446744073709551616 - b0 - 0) % 18446744073709551616 := ⟨_, rfl⟩
  obtain ⟨k, hk⟩ : ∃ k : Nat, k = if a0 < b0 + 0 then 1 else 0 := ⟨_, rfl⟩
  rw [← hl, ← hk] at S1
  have hk1 : k ≤ 1 := by rw [hk]; split <;> omega
  have S2 := fun wx => sub_run a1 b1 k hk1 wx
  obtain ⟨h, hh⟩ : ∃ h : Nat, h = (a1 + 18446744073709551616 - b1 - k) % 18446744073709551616 := ⟨_, rfl⟩
  obtain ⟨j, hj⟩ : ∃ k' : Nat, k' = if a1 < b1 + k then 1 else 0 := ⟨_, rfl⟩
  rw [← hh, ← hj] at S2
  simp only [Int.cast_ofNat_Int] at S1 S2
  have e1 : c / 18446744073709551616 = h := by rw [hc, hh, hk, ha1, ha0, hb1, hb0]; split <;> omega
  have e2 : c % 18446744073709551616 = l := by rw [hc, hl, ha0, hb0]; omega
  rw [e1, e2]
  clear e1 e2 hc hh hk hl hj ha1 ha0 hb1 hb0 ha hb' hk1
  obtain ⟨A0, A1, -, -, -⟩ := id A
  obtain ⟨B0, B1, -, -, -⟩ := id B
  have HB := Lib.hid (below3 w (.cells #[.int .u64 a1, .int .u64 a0] 100) (.cells #[.int .u64 b1, .int .u64 b0] 100) (.cells #[.int .u64 0, .int .u64 0] 100))
  have A' := A.alloc (.cells #[.int .u64 0, .int .u64 0] 100)
  have B' := B.alloc (.cells #[.int .u64 0, .int .u64 0] 100)
  go_enter Tryd.func93, Tryd.ntmps93
  go_wp2_with fail
  refine bodyPost_ret (v := .agg #[.int .u64 h, .int .u64 l]) (by simp [results, Tryd.results93, go_sem]) rfl ⟨rfl, ?_⟩
  exact below3 _ _ _ _

theorem times_any (a b : Nat) (ha : a < 340282366920938463463374607431768211456) (hb' : b < 340282366920938463463374607431768211456) (w : World) :
    Calls Tryd.prog 92 #[.agg #[.int .u64 (hb a), .int .u64 (lb a)], .agg #[.int .u64 (hb b), .int .u64 (lb b)]] w fun e w' => e = .returned (.agg #[.int .u64 (hb (L6.pm a b)), .int .u64 (lb (L6.pm a b))]) ∧ Below w.heap.size w w' := by
  obtain ⟨A, B⟩ := At2.two w (.int .u64 (hb a)) (.int .u64 (lb a)) (.int .u64 (hb b)) (.int .u64 (lb b)) 100 100
  unfold hb lb at *
  obtain ⟨c, hc⟩ : ∃ c, c = L6.pm a b := ⟨_, rfl⟩
  rw [← hc]
  unfold L6.pm at hc
  have pb : c ≤ b := by rw [hc]; exact L6.pm_le a b (by omega)
  obtain ⟨a1, ha1⟩ : ∃ x, x = a / 18446744073709551616 := ⟨_, rfl⟩
  obtain ⟨a0, ha0⟩ : ∃ x, x = a % 18446744073709551616 := ⟨_, rfl⟩
  obtain ⟨b1, hb1⟩ : ∃ x, x = b / 18446744073709551616 := ⟨_, rfl⟩
  obtain ⟨b0, hb0⟩ : ∃ x, x = b % 18446744073709551616 := ⟨_, rfl⟩
  have la1 : a1 < 18446744073709551616 := by omega
  have la0 : a0 < 18446744073709551616 := by omega
  have lb1 : b1 < 18446744073709551616 := by omega
  have lb0 : b0 < 18446744073709551616 := by omega
  have lc : c < 340282366920938463463374607431768211456 := by omega
  rw [← ha1, ← ha0] at A
  rw [← hb1, ← hb0] at B
  rw [← ha1, ← ha0, ← hb1, ← hb0] at hc
  rw [← ha1, ← ha0, ← hb1, ← hb0]
  clear ha1 ha0 hb1 hb0 pb ha hb'
  have C1 := Lib.hid (fun (wx : World) => Tryd.bits_Mul64 a1 b1 la1 lb1 wx)
  have C2 := Lib.hid (fun (wx : World) => Tryd.bits_Mul64 a1 b0 la1 lb0 wx)
  have C3 := Lib.hid (fun (wx : World) => Tryd.bits_Mul64 a0 b1 la0 lb1 wx)
  obtain ⟨P, hP⟩ : ∃ P, P = a1 * b1 := ⟨_, rfl⟩
  rw [← hP] at C1 hc
  obtain ⟨h, hh⟩ : ∃ x, x = P / 18446744073709551616 := ⟨_, rfl⟩
  obtain ⟨l, hl⟩ : ∃ x, x = P % 18446744073709551616 := ⟨_, rfl⟩
  rw [← hh, ← hl] at C1
  obtain ⟨q, hq⟩ : ∃ x, x = a1 * b0 / 18446744073709551616 := ⟨_, rfl⟩
  obtain ⟨q', hq'⟩ : ∃ x, x = a1 * b0 % 18446744073709551616 := ⟨_, rfl⟩
  rw [← hq, ← hq'] at C2
  rw [← hq] at hc
  obtain ⟨r, hr⟩ : ∃ x, x = a0 * b1 / 18446744073709551616 := ⟨_, rfl⟩
  obtain ⟨r', hr'⟩ : ∃ x, x = a0 * b1 % 18446744073709551616 := ⟨_, rfl⟩
  rw [← hr, ← hr'] at C3
  rw [← hr] at hc
  clear hq hq' hr hr' hP la1 la0 lb1 lb0
  have S1 := fun wx => add_run l q wx
  obtain ⟨m, hm⟩ : ∃ x, x = (l + q) % 18446744073709551616 := ⟨_, rfl⟩
  obtain ⟨k, hk⟩ : ∃ x, x = (l + q) / 18446744073709551616 := ⟨_, rfl⟩
  rw [← hm, ← hk] at S1
  have S2 := fun wx => add_run m r wx
  obtain ⟨n, hn⟩ : ∃ x, x = (m + r) % 18446744073709551616 := ⟨_, rfl⟩
  obtain ⟨j, hj⟩ : ∃ x, x = (m + r) / 18446744073709551616 := ⟨_, rfl⟩
  rw [← hn, ← hj] at S2
  have e1 : c / 18446744073709551616 = h + k + j := by omega
  have e2 : c % 18446744073709551616 = n := by omega
  have u1 : h + k + j < 18446744073709551616 := by omega
  rw [e1, e2]
  clear e1 e2 hc hh hl hm hk hn hj lc
  have w1 : IntKind.u64.wrap ((h : Int) + (k : Int)) = ((h + k : Nat) : Int) := by rw [IntKind.wrap_u64]; omega
  have w2 : IntKind.u64.wrap (((h + k : Nat) : Int) + (j : Int)) = ((h + k + j : Nat) : Int) := by rw [IntKind.wrap_u64]; omega
  obtain ⟨x, hx⟩ : ∃ x, x = h + k := ⟨_, rfl⟩
  obtain ⟨y, hy⟩ : ∃ y, y = h + k + j := ⟨_, rfl⟩
  rw [← hy] at w2 ⊢
  rw [← hx] at w1 w2
  clear hx hy u1
  have A' := A.alloc (.cells #[.int .u64 0, .int .u64 0] 100)
  have B' := B.alloc (.cells #[.int .u64 0, .int .u64 0] 100)
  obtain ⟨A0, A1, -, -, -⟩ := id A'
  obtain ⟨B0, B1, -, -, -⟩ := id B'
  go_enter Tryd.func92, Tryd.ntmps92
  go_wp2_with fail
  refine (C1.out _).mono ?_
  rintro e w1 ⟨rfl, rfl⟩
  go_wp2_with fail
  refine (C2.out _).mono ?_
  rintro e w2 ⟨rfl, rfl⟩
  go_wp2_with fail
  refine (C3.out _).mono ?_
  rintro e w3 ⟨rfl, rfl⟩
  go_wp2_with fail
  refine bodyPost_ret (v := .agg #[.int .u64 y, .int .u64 n]) (by simp [results, Tryd.results92, go_sem]) rfl ⟨rfl, ?_⟩
  exact below3 _ _ _ _
end Go.Proofs.YtndcjldnnfhedaaDoor

/- Trig: the program's tables, and the arcs and limbs that are read from them. -/
namespace Go.Proofs.YtndcjldnnfhedaaDoor
open Go.RowKit
set_option linter.unusedVariables false
set_option maxRecDepth 100000

/-- the tables hold what the program's text lays -/
structure Held (w : World) : Prop where
  r0 : w.cell? ⟨3, 0, none⟩ = some (.int .u64 5365940339316)
  r1 : w.cell? ⟨3, 1, none⟩ = some (.int .u64 7144251595963602554)
  i0 : ∀ i : Nat, i < 28 → w.cell? ⟨4, i * 2, none⟩ = some (.int .u64 (hb (L6.cf i)))
  i1 : ∀ i : Nat, i < 28 → w.cell? ⟨4, i * 2 + 1, none⟩ = some (.int .u64 (lb (L6.cf i)))
theorem Held.keep {w w1 : World} (h : Held w) (b : Below w.heap.size w w1) : Held w1 := by
  have l0 := World.block_lt_of_cell? _ _ h.r0
  have l1 := World.block_lt_of_cell? _ _ (h.i0 0 (by omega))
  exact ⟨(b.cell (p := ⟨3, 0, none⟩) l0).trans h.r0, (b.cell (p := ⟨3, 1, none⟩) l0).trans h.r1,
    fun i hi => (b.cell (p := ⟨4, i * 2, none⟩) l1).trans (h.i0 i hi), fun i hi => (b.cell (p := ⟨4, i * 2 + 1, none⟩) l1).trans (h.i1 i hi)⟩

theorem radians_any (n : Nat) (hn : n ≤ 2700000) (w : World) (H : Held w) :
    Calls Tryd.prog 91 #[.int .i64 n] w fun e w' => e = .returned (.agg #[.int .u64 (hb (L6.rad * n)), .int .u64 (lb (L6.rad * n))]) ∧ Below w.heap.size w w' := by
  unfold hb lb L6.rad
  have C1 := Lib.hid (fun (wx : World) => Tryd.bits_Mul64 7144251595963602554 n (by omega) (by omega) wx)
  obtain ⟨l, hl⟩ : ∃ x, x = 7144251595963602554 * n % 18446744073709551616 := ⟨_, rfl⟩
  obtain ⟨c, hc⟩ : ∃ x, x = 7144251595963602554 * n / 18446744073709551616 := ⟨_, rfl⟩
  obtain ⟨p, hp⟩ : ∃ x, x = 5365940339316 * n := ⟨_, rfl⟩
  obtain ⟨h, hh⟩ : ∃ x, x = p + c := ⟨_, rfl⟩
  rw [← hl, ← hc] at C1
  have e1 : 98984128154163587764785219737210 * n / 18446744073709551616 = h := by omega
  have e2 : 98984128154163587764785219737210 * n % 18446744073709551616 = l := by omega
  rw [e1, e2]
  have w0 : IntKind.u64.wrap (n : Int) = (n : Int) := by rw [IntKind.wrap_u64]; omega
  have w1 : IntKind.u64.wrap (5365940339316 * (n : Int)) = (p : Int) := by rw [IntKind.wrap_u64]; omega
  have w2 : IntKind.u64.wrap ((p : Int) + (c : Int)) = (h : Int) := by rw [IntKind.wrap_u64]; omega
  have n1 : (n : Int) ≤ 2700000 := by omega
  have n0 : (0 : Int) ≤ (n : Int) := by omega
  clear e1 e2 hl hc hp hh hn
  have K := H.keep (below1 w (.cells #[.int .u64 0, .int .u64 0] 100))
  obtain ⟨r0, r1, -, -⟩ := K
  obtain ⟨q0, q1, -, -⟩ := H
  simp only [Int.cast_ofNat_Int] at C1
  go_enter Tryd.func91, Tryd.ntmps91
  go_wp2_with fail
  refine (C1.out _).mono ?_
  rintro e w1 ⟨rfl, rfl⟩
  go_wp2_with fail
  refine bodyPost_ret (v := .agg #[.int .u64 h, .int .u64 l]) (by simp [results, Tryd.results91, go_sem]) rfl ⟨rfl, ?_⟩
  exact below1 _ _
end Go.Proofs.YtndcjldnnfhedaaDoor

/- Trig: the program's series. -/
namespace Go.Proofs.YtndcjldnnfhedaaDoor
open Go.RowKit
set_option linter.unusedVariables false
set_option maxRecDepth 100000

theorem cf_lt (i : Nat) : L6.cf i < 340282366920938463463374607431768211456 := by
  have e : L6.cf i ≤ 170141183460469231731687303715884105728 := by
    show 340282366920938463463374607431768211456 / L6.fct (i + 2) ≤ _
    have p := L6.fct_pos (i + 1)
    have h : 2 ≤ L6.fct (i + 2) := by
      show 2 ≤ L6.fct (i + 1) * (i + 1 + 1)
      exact Nat.mul_le_mul p (show 2 ≤ i + 1 + 1 by omega)
    exact Nat.le_trans (Nat.div_le_div_left h (by decide)) (by decide)
  omega
theorem ser_lt (f S j : Nat) : L6.ser f S j < 340282366920938463463374607431768211456 := Nat.lt_of_le_of_lt (L6.ser_le f S j) (cf_lt _)
theorem serF_lt (f S j : Nat) : L6.serF f S j < 340282366920938463463374607431768211456 := Nat.lt_of_le_of_lt (L6.serF_le f S j) (cf_lt _)
structure Cell2 (w : World) (b k : Nat) (x y : Value) : Prop where
  c0 : w.cell? ⟨b, k, none⟩ = some x
  c1 : w.cell? ⟨b, k + 1, none⟩ = some y
theorem Cell2.keep {w w1 : World} {b k : Nat} {x y : Value} (h : Cell2 w b k x y) (hb : Below w.heap.size w w1) : Cell2 w1 b k x y := by
  have l := World.block_lt_of_cell? _ _ h.c0
  exact ⟨(hb.cell (p := ⟨b, k, none⟩) l).trans h.c0, (hb.cell (p := ⟨b, k + 1, none⟩) l).trans h.c1⟩
theorem minus_le (a b : Nat) (ha : a < 340282366920938463463374607431768211456) (h : b ≤ a) (w : World) :
    Calls Tryd.prog 93 #[.agg #[.int .u64 (hb a), .int .u64 (lb a)], .agg #[.int .u64 (hb b), .int .u64 (lb b)]] w fun e w' => e = .returned (.agg #[.int .u64 (hb (a - b)), .int .u64 (lb (a - b))]) ∧ Below w.heap.size w w' := by
  have M := minus_any a b ha (by omega) w
  rwa [show (a + 340282366920938463463374607431768211456 - b) % 340282366920938463463374607431768211456 = a - b by omega] at M
set_option maxHeartbeats 1000000 in
theorem series_0_18 (X : Nat) (hX : X < 340282366920938463463374607431768211456) (w : World) (H : Held w) :
    Calls Tryd.prog 94 #[.int .i64 2, .int .i64 18, .agg #[.int .u64 (hb X), .int .u64 (lb X)]] w fun e w' => e = .returned (.agg #[.int .u64 (hb (L6.ser 0 X 9)), .int .u64 (lb (L6.ser 0 X 9))]) ∧ Below w.heap.size w w' := by
  obtain ⟨x, hx⟩ : ∃ x, x = hb X := ⟨_, rfl⟩
  obtain ⟨y, hy⟩ : ∃ y, y = lb X := ⟨_, rfl⟩
  obtain ⟨p, hp⟩ : ∃ p : Nat → Int, ∀ j, p j = hb (L6.ser 0 X j) := ⟨_, fun _ => rfl⟩
  obtain ⟨q, hq⟩ : ∃ q : Nat → Int, ∀ j, q j = lb (L6.ser 0 X j) := ⟨_, fun _ => rfl⟩
  have KT : Hid (∀ j wx, Calls Tryd.prog 92 #[.agg #[.int .u64 x, .int .u64 y], .agg #[.int .u64 (p j), .int .u64 (q j)]] wx fun e w' => e = .returned (.agg #[.int .u64 (hb (L6.pm X (L6.ser 0 X j))), .int .u64 (lb (L6.pm X (L6.ser 0 X j)))]) ∧ Below wx.heap.size wx w') := Lib.hid (fun j wx => by rw [hx, hy, hp, hq]; exact times_any X _ hX (ser_lt _ _ _) wx)
  have KM : Hid (∀ j, j ≤ 8 → ∀ wx, Calls Tryd.prog 93 #[.agg #[.int .u64 (hb (L6.cf (16 - 2 * j))), .int .u64 (lb (L6.cf (16 - 2 * j)))], .agg #[.int .u64 (hb (L6.pm X (L6.ser 0 X j))), .int .u64 (lb (L6.pm X (L6.ser 0 X j)))]] wx fun e w' => e = .returned (.agg #[.int .u64 (p (j + 1)), .int .u64 (q (j + 1))]) ∧ Below wx.heap.size wx w') := Lib.hid (fun j hj wx => by rw [hp, hq]; exact minus_le _ _ (cf_lt _) (L6.ser_fit 0 X (by omega) j hj) wx)
  have z0 := hp 0
  have z1 := hq 0
  have s0 : w.cell? ⟨4, 36, none⟩ = some (.int .u64 (p 0)) := by rw [z0]; exact H.i0 18 (by omega)
  have s1 : w.cell? ⟨4, 37, none⟩ = some (.int .u64 (q 0)) := by rw [z1]; exact H.i1 18 (by omega)
  rw [← hx, ← hy, ← hp, ← hq]
  clear hx hy hp hq z0 z1
  have l0 := World.block_lt_of_cell? _ _ s0
  have l1 := l0
  have W2 := below2 w (.cells #[.int .u64 x, .int .u64 y] 100) (.cells #[.int .u64 0, .int .u64 0] 100)
  have s0' := (W2.cell (p := ⟨4, 36, none⟩) l0).trans s0
  have s1' := (W2.cell (p := ⟨4, 37, none⟩) l0).trans s1
  have A := ((At2.new w (.int .u64 x) (.int .u64 y) 100).alloc (.cells #[.int .u64 0, .int .u64 0] 100)).alloc (.cells #[.int .u64 (p 0), .int .u64 (q 0)] 100)
  have R := (At2.new (w.alloc (.cells #[.int .u64 x, .int .u64 y] 100)) (.int .u64 0) (.int .u64 0) 100).alloc (.cells #[.int .u64 (p 0), .int .u64 (q 0)] 100)
  have N := At2.new ((w.alloc (.cells #[.int .u64 x, .int .u64 y] 100)).alloc (.cells #[.int .u64 0, .int .u64 0] 100)) (.int .u64 (p 0)) (.int .u64 (q 0)) 100
  have HB := Lib.hid (below3 w (.cells #[.int .u64 x, .int .u64 y] 100) (.cells #[.int .u64 0, .int .u64 0] 100) (.cells #[.int .u64 (p 0), .int .u64 (q 0)] 100))
  simp at N R
  have HH := Lib.hid H
  clear s0 s1 l1 W2 H
  go_enter Tryd.func94, Tryd.ntmps94
  go_wp2_with fail
  go_loopg [9] 9 (fun m v9 wr => ∃ j : Nat, m = 9 - j ∧ v9 = .int .i64 (16 - 2 * (j : Int)) ∧ Hid (j ≤ 9) ∧ Hid (At2 wr w.heap.size (.int .u64 x) (.int .u64 y)) ∧ Hid (At2 wr (w.heap.size + 1) (.int .u64 0) (.int .u64 0)) ∧ Hid (At2 wr (w.heap.size + 1 + 1) (.int .u64 (p j)) (.int .u64 (q j))) ∧ Hid (Below w.heap.size w wr))
  case atStart => exact ⟨0, rfl, rfl, Nat.zero_le _, A, R, N, HB⟩
  case round =>
    obtain ⟨j, hm, rfl, HJ, HA, HR, HN, HB⟩ := hrel
    clear s0' s1' l0 A R N
    have HM := Lib.hid hm
    clear hm
    have A := HA.out
    have R := HR.out
    have N := HN.out
    clear HA HR HN
    obtain ⟨A0, A1, -, -, -⟩ := id A
    obtain ⟨N0, N1, F0, F1, -⟩ := id N
    by_cases hj : j < 9
    · have KT := Lib.hid (KT.out j)
      have KM := Lib.hid (KM.out j (by omega))
      obtain ⟨i, hi⟩ : ∃ i : Nat, (16 : Int) - 2 * (j : Int) = (i : Int) := ⟨16 - 2 * j, by omega⟩
      have ei : 16 - 2 * j = i := by omega
      have i2 : (i : Int) < 28 := by omega
      have i3 : 0 ≤ (i : Int) := by omega
      have i4 : i < 28 := by omega
      have i5 : (0 : Int) ≤ (i : Int) := by omega
      rw [ei] at KM
      have HK := HH.out.keep HB.out
      have s0 := HK.i0 i (by omega)
      have s1 := HK.i1 i (by omega)
      have T0 : Cell2 wr 4 (i * 2) (.int .u64 (hb (L6.cf i))) (.int .u64 (lb (L6.cf i))) := ⟨s0, s1⟩
      clear HK ei
      generalize hb (L6.cf i) = u at *
      generalize lb (L6.cf i) = v at *
      generalize hb (L6.pm X (L6.ser 0 X j)) = h at *
      generalize lb (L6.pm X (L6.ser 0 X j)) = l at *
      rw [hi]
      go_wp2_with fail
      go_region_with (first
        | (go_at_call 92; refine (KT.out _).mono ?_; rintro e v1 ⟨rfl, hb⟩; (try (replace hb := bdrew hb)); have A := A.keep hb; have R := R.keep hb; have N := N.keep hb; have HB := Lib.hid (bstep HB.out hb); have T0 := T0.keep hb; clear hb A0 A1 N0 N1 F0 F1 s0 s1; obtain ⟨A0, A1, -, -, -⟩ := id A; obtain ⟨N0, N1, F0, F1, -⟩ := id N; obtain ⟨s0, s1⟩ := id T0)
        | (go_at_call 93; refine (KM.out _).mono ?_; rintro e v1 ⟨rfl, hb⟩; (try (replace hb := bdrew hb)); have A := A.keep hb; have R := R.keep hb; have N := N.keep hb; have HB := Lib.hid (bstep HB.out hb); have T0 := T0.keep hb; clear hb A0 A1 N0 N1 F0 F1 s0 s1; obtain ⟨A0, A1, -, -, -⟩ := id A; obtain ⟨N0, N1, F0, F1, -⟩ := id N; obtain ⟨s0, s1⟩ := id T0))
      all_goals
        have A := A.far (show w.heap.size ≠ w.heap.size + 1 + 1 by omega) (.int .u64 (p (j + 1))) (.int .u64 (q (j + 1)))
        have R := R.far (show w.heap.size + 1 ≠ w.heap.size + 1 + 1 by omega) (.int .u64 (p (j + 1))) (.int .u64 (q (j + 1)))
        have N := N.put (.int .u64 (p (j + 1))) (.int .u64 (q (j + 1)))
        have HB := Lib.hid (below_set2 HB.out (show w.heap.size ≤ w.heap.size + 1 + 1 by omega) (.int .u64 (p (j + 1))) (.int .u64 (q (j + 1))))
        clear A0 A1 N0 N1 F0 F1 s0 s1 T0 KT KM
        have j9 := Lib.hid hj
        have hi9 := Lib.hid hi
        clear hj hi
        go_wp2_with fail
        go_roundg (9 - (j + 1))
        case measure => have := HM.out; have := j9.out; omega
        case rel => exact ⟨j + 1, rfl, congrArg (Value.int .i64) (by have := hi9.out; omega), by have := j9.out; show _ ≤ _; omega, A, R, N, HB⟩
    · obtain rfl : j = 9 := by have := HJ.out; omega
      clear KT KM
      rw [show (16 : Int) - 2 * ((9 : Nat) : Int) = -2 by decide]
      obtain ⟨R0, R1, F2, F3, -⟩ := id R
      obtain ⟨s0, s1⟩ := set2 R0 R1 (.int .u64 (p 9)) (.int .u64 (q 9))
      go_wp2_with fail
      refine bodyPost_ret (v := .agg #[.int .u64 (p 9), .int .u64 (q 9)]) (by simp [results, Tryd.results94, go_sem, s0, s1]) rfl ⟨rfl, ?_⟩
      exact below_set2 HB.out (show w.heap.size ≤ w.heap.size + 1 by omega) _ _
set_option maxHeartbeats 1000000 in
theorem series_1_18 (X : Nat) (hX : X < 340282366920938463463374607431768211456) (w : World) (H : Held w) :
    Calls Tryd.prog 94 #[.int .i64 3, .int .i64 18, .agg #[.int .u64 (hb X), .int .u64 (lb X)]] w fun e w' => e = .returned (.agg #[.int .u64 (hb (L6.ser 1 X 9)), .int .u64 (lb (L6.ser 1 X 9))]) ∧ Below w.heap.size w w' := by
  obtain ⟨x, hx⟩ : ∃ x, x = hb X := ⟨_, rfl⟩
  obtain ⟨y, hy⟩ : ∃ y, y = lb X := ⟨_, rfl⟩
  obtain ⟨p, hp⟩ : ∃ p : Nat → Int, ∀ j, p j = hb (L6.ser 1 X j) := ⟨_, fun _ => rfl⟩
  obtain ⟨q, hq⟩ : ∃ q : Nat → Int, ∀ j, q j = lb (L6.ser 1 X j) := ⟨_, fun _ => rfl⟩
  have KT : Hid (∀ j wx, Calls Tryd.prog 92 #[.agg #[.int .u64 x, .int .u64 y], .agg #[.int .u64 (p j), .int .u64 (q j)]] wx fun e w' => e = .returned (.agg #[.int .u64 (hb (L6.pm X (L6.ser 1 X j))), .int .u64 (lb (L6.pm X (L6.ser 1 X j)))]) ∧ Below wx.heap.size wx w') := Lib.hid (fun j wx => by rw [hx, hy, hp, hq]; exact times_any X _ hX (ser_lt _ _ _) wx)
  have KM : Hid (∀ j, j ≤ 8 → ∀ wx, Calls Tryd.prog 93 #[.agg #[.int .u64 (hb (L6.cf (17 - 2 * j))), .int .u64 (lb (L6.cf (17 - 2 * j)))], .agg #[.int .u64 (hb (L6.pm X (L6.ser 1 X j))), .int .u64 (lb (L6.pm X (L6.ser 1 X j)))]] wx fun e w' => e = .returned (.agg #[.int .u64 (p (j + 1)), .int .u64 (q (j + 1))]) ∧ Below wx.heap.size wx w') := Lib.hid (fun j hj wx => by rw [hp, hq]; exact minus_le _ _ (cf_lt _) (L6.ser_fit 1 X (by omega) j hj) wx)
  have z0 := hp 0
  have z1 := hq 0
  have s0 : w.cell? ⟨4, 38, none⟩ = some (.int .u64 (p 0)) := by rw [z0]; exact H.i0 19 (by omega)
  have s1 : w.cell? ⟨4, 39, none⟩ = some (.int .u64 (q 0)) := by rw [z1]; exact H.i1 19 (by omega)
  rw [← hx, ← hy, ← hp, ← hq]
  clear hx hy hp hq z0 z1
  have l0 := World.block_lt_of_cell? _ _ s0
  have l1 := l0
  have W2 := below2 w (.cells #[.int .u64 x, .int .u64 y] 100) (.cells #[.int .u64 0, .int .u64 0] 100)
  have s0' := (W2.cell (p := ⟨4, 38, none⟩) l0).trans s0
  have s1' := (W2.cell (p := ⟨4, 39, none⟩) l0).trans s1
  have A := ((At2.new w (.int .u64 x) (.int .u64 y) 100).alloc (.cells #[.int .u64 0, .int .u64 0] 100)).alloc (.cells #[.int .u64 (p 0), .int .u64 (q 0)] 100)
  have R := (At2.new (w.alloc (.cells #[.int .u64 x, .int .u64 y] 100)) (.int .u64 0) (.int .u64 0) 100).alloc (.cells #[.int .u64 (p 0), .int .u64 (q 0)] 100)
  have N := At2.new ((w.alloc (.cells #[.int .u64 x, .int .u64 y] 100)).alloc (.cells #[.int .u64 0, .int .u64 0] 100)) (.int .u64 (p 0)) (.int .u64 (q 0)) 100
  have HB := Lib.hid (below3 w (.cells #[.int .u64 x, .int .u64 y] 100) (.cells #[.int .u64 0, .int .u64 0] 100) (.cells #[.int .u64 (p 0), .int .u64 (q 0)] 100))
  simp at N R
  have HH := Lib.hid H
  clear s0 s1 l1 W2 H
  go_enter Tryd.func94, Tryd.ntmps94
  go_wp2_with fail
  go_loopg [9] 9 (fun m v9 wr => ∃ j : Nat, m = 9 - j ∧ v9 = .int .i64 (17 - 2 * (j : Int)) ∧ Hid (j ≤ 9) ∧ Hid (At2 wr w.heap.size (.int .u64 x) (.int .u64 y)) ∧ Hid (At2 wr (w.heap.size + 1) (.int .u64 0) (.int .u64 0)) ∧ Hid (At2 wr (w.heap.size + 1 + 1) (.int .u64 (p j)) (.int .u64 (q j))) ∧ Hid (Below w.heap.size w wr))
  case atStart => exact ⟨0, rfl, rfl, Nat.zero_le _, A, R, N, HB⟩
  case round =>
    obtain ⟨j, hm, rfl, HJ, HA, HR, HN, HB⟩ := hrel
    clear s0' s1' l0 A R N
    have HM := Lib.hid hm
    clear hm
    have A := HA.out
    have R := HR.out
    have N := HN.out
    clear HA HR HN
    obtain ⟨A0, A1, -, -, -⟩ := id A
    obtain ⟨N0, N1, F0, F1, -⟩ := id N
    by_cases hj : j < 9
    · have KT := Lib.hid (KT.out j)
      have KM := Lib.hid (KM.out j (by omega))
      obtain ⟨i, hi⟩ : ∃ i : Nat, (17 : Int) - 2 * (j : Int) = (i : Int) := ⟨17 - 2 * j, by omega⟩
      have ei : 17 - 2 * j = i := by omega
      have i2 : (i : Int) < 28 := by omega
      have i3 : 1 ≤ (i : Int) := by omega
      have i4 : i < 28 := by omega
      have i5 : (0 : Int) ≤ (i : Int) := by omega
      rw [ei] at KM
      have HK := HH.out.keep HB.out
      have s0 := HK.i0 i (by omega)
      have s1 := HK.i1 i (by omega)
      have T0 : Cell2 wr 4 (i * 2) (.int .u64 (hb (L6.cf i))) (.int .u64 (lb (L6.cf i))) := ⟨s0, s1⟩
      clear HK ei
      generalize hb (L6.cf i) = u at *
      generalize lb (L6.cf i) = v at *
      generalize hb (L6.pm X (L6.ser 1 X j)) = h at *
      generalize lb (L6.pm X (L6.ser 1 X j)) = l at *
      rw [hi]
      go_wp2_with fail
      go_region_with (first
        | (go_at_call 92; refine (KT.out _).mono ?_; rintro e v1 ⟨rfl, hb⟩; (try (replace hb := bdrew hb)); have A := A.keep hb; have R := R.keep hb; have N := N.keep hb; have HB := Lib.hid (bstep HB.out hb); have T0 := T0.keep hb; clear hb A0 A1 N0 N1 F0 F1 s0 s1; obtain ⟨A0, A1, -, -, -⟩ := id A; obtain ⟨N0, N1, F0, F1, -⟩ := id N; obtain ⟨s0, s1⟩ := id T0)
        | (go_at_call 93; refine (KM.out _).mono ?_; rintro e v1 ⟨rfl, hb⟩; (try (replace hb := bdrew hb)); have A := A.keep hb; have R := R.keep hb; have N := N.keep hb; have HB := Lib.hid (bstep HB.out hb); have T0 := T0.keep hb; clear hb A0 A1 N0 N1 F0 F1 s0 s1; obtain ⟨A0, A1, -, -, -⟩ := id A; obtain ⟨N0, N1, F0, F1, -⟩ := id N; obtain ⟨s0, s1⟩ := id T0))
      all_goals
        have A := A.far (show w.heap.size ≠ w.heap.size + 1 + 1 by omega) (.int .u64 (p (j + 1))) (.int .u64 (q (j + 1)))
        have R := R.far (show w.heap.size + 1 ≠ w.heap.size + 1 + 1 by omega) (.int .u64 (p (j + 1))) (.int .u64 (q (j + 1)))
        have N := N.put (.int .u64 (p (j + 1))) (.int .u64 (q (j + 1)))
        have HB := Lib.hid (below_set2 HB.out (show w.heap.size ≤ w.heap.size + 1 + 1 by omega) (.int .u64 (p (j + 1))) (.int .u64 (q (j + 1))))
        clear A0 A1 N0 N1 F0 F1 s0 s1 T0 KT KM
        have j9 := Lib.hid hj
        have hi9 := Lib.hid hi
        clear hj hi
        go_wp2_with fail
        go_roundg (9 - (j + 1))
        case measure => have := HM.out; have := j9.out; omega
        case rel => exact ⟨j + 1, rfl, congrArg (Value.int .i64) (by have := hi9.out; omega), by have := j9.out; show _ ≤ _; omega, A, R, N, HB⟩
    · obtain rfl : j = 9 := by have := HJ.out; omega
      clear KT KM
      rw [show (17 : Int) - 2 * ((9 : Nat) : Int) = -1 by decide]
      obtain ⟨R0, R1, F2, F3, -⟩ := id R
      obtain ⟨s0, s1⟩ := set2 R0 R1 (.int .u64 (p 9)) (.int .u64 (q 9))
      go_wp2_with fail
      refine bodyPost_ret (v := .agg #[.int .u64 (p 9), .int .u64 (q 9)]) (by simp [results, Tryd.results94, go_sem, s0, s1]) rfl ⟨rfl, ?_⟩
      exact below_set2 HB.out (show w.heap.size ≤ w.heap.size + 1 by omega) _ _
set_option maxHeartbeats 1000000 in
theorem series_0_26 (X : Nat) (hX : X < 340282366920938463463374607431768211456) (w : World) (H : Held w) :
    Calls Tryd.prog 94 #[.int .i64 2, .int .i64 26, .agg #[.int .u64 (hb X), .int .u64 (lb X)]] w fun e w' => e = .returned (.agg #[.int .u64 (hb (L6.serF 0 X 13)), .int .u64 (lb (L6.serF 0 X 13))]) ∧ Below w.heap.size w w' := by
  obtain ⟨x, hx⟩ : ∃ x, x = hb X := ⟨_, rfl⟩
  obtain ⟨y, hy⟩ : ∃ y, y = lb X := ⟨_, rfl⟩
  obtain ⟨p, hp⟩ : ∃ p : Nat → Int, ∀ j, p j = hb (L6.serF 0 X j) := ⟨_, fun _ => rfl⟩
  obtain ⟨q, hq⟩ : ∃ q : Nat → Int, ∀ j, q j = lb (L6.serF 0 X j) := ⟨_, fun _ => rfl⟩
  have KT : Hid (∀ j wx, Calls Tryd.prog 92 #[.agg #[.int .u64 x, .int .u64 y], .agg #[.int .u64 (p j), .int .u64 (q j)]] wx fun e w' => e = .returned (.agg #[.int .u64 (hb (L6.pm X (L6.serF 0 X j))), .int .u64 (lb (L6.pm X (L6.serF 0 X j)))]) ∧ Below wx.heap.size wx w') := Lib.hid (fun j wx => by rw [hx, hy, hp, hq]; exact times_any X _ hX (serF_lt _ _ _) wx)
  have KM : Hid (∀ j, j ≤ 12 → ∀ wx, Calls Tryd.prog 93 #[.agg #[.int .u64 (hb (L6.cf (24 - 2 * j))), .int .u64 (lb (L6.cf (24 - 2 * j)))], .agg #[.int .u64 (hb (L6.pm X (L6.serF 0 X j))), .int .u64 (lb (L6.pm X (L6.serF 0 X j)))]] wx fun e w' => e = .returned (.agg #[.int .u64 (p (j + 1)), .int .u64 (q (j + 1))]) ∧ Below wx.heap.size wx w') := Lib.hid (fun j hj wx => by rw [hp, hq]; exact minus_le _ _ (cf_lt _) (L6.serF_fit 0 X (by omega) j hj) wx)
  have z0 := hp 0
  have z1 := hq 0
  have s0 : w.cell? ⟨4, 52, none⟩ = some (.int .u64 (p 0)) := by rw [z0]; exact H.i0 26 (by omega)
  have s1 : w.cell? ⟨4, 53, none⟩ = some (.int .u64 (q 0)) := by rw [z1]; exact H.i1 26 (by omega)
  rw [← hx, ← hy, ← hp, ← hq]
  clear hx hy hp hq z0 z1
  have l0 := World.block_lt_of_cell? _ _ s0
  have l1 := l0
  have W2 := below2 w (.cells #[.int .u64 x, .int .u64 y] 100) (.cells #[.int .u64 0, .int .u64 0] 100)
  have s0' := (W2.cell (p := ⟨4, 52, none⟩) l0).trans s0
  have s1' := (W2.cell (p := ⟨4, 53, none⟩) l0).trans s1
  have A := ((At2.new w (.int .u64 x) (.int .u64 y) 100).alloc (.cells #[.int .u64 0, .int .u64 0] 100)).alloc (.cells #[.int .u64 (p 0), .int .u64 (q 0)] 100)
  have R := (At2.new (w.alloc (.cells #[.int .u64 x, .int .u64 y] 100)) (.int .u64 0) (.int .u64 0) 100).alloc (.cells #[.int .u64 (p 0), .int .u64 (q 0)] 100)
  have N := At2.new ((w.alloc (.cells #[.int .u64 x, .int .u64 y] 100)).alloc (.cells #[.int .u64 0, .int .u64 0] 100)) (.int .u64 (p 0)) (.int .u64 (q 0)) 100
  have HB := Lib.hid (below3 w (.cells #[.int .u64 x, .int .u64 y] 100) (.cells #[.int .u64 0, .int .u64 0] 100) (.cells #[.int .u64 (p 0), .int .u64 (q 0)] 100))
  simp at N R
  have HH := Lib.hid H
  clear s0 s1 l1 W2 H
  go_enter Tryd.func94, Tryd.ntmps94
  go_wp2_with fail
  go_loopg [9] 13 (fun m v9 wr => ∃ j : Nat, m = 13 - j ∧ v9 = .int .i64 (24 - 2 * (j : Int)) ∧ Hid (j ≤ 13) ∧ Hid (At2 wr w.heap.size (.int .u64 x) (.int .u64 y)) ∧ Hid (At2 wr (w.heap.size + 1) (.int .u64 0) (.int .u64 0)) ∧ Hid (At2 wr (w.heap.size + 1 + 1) (.int .u64 (p j)) (.int .u64 (q j))) ∧ Hid (Below w.heap.size w wr))
  case atStart => exact ⟨0, rfl, rfl, Nat.zero_le _, A, R, N, HB⟩
  case round =>
    obtain ⟨j, hm, rfl, HJ, HA, HR, HN, HB⟩ := hrel
    clear s0' s1' l0 A R N
    have HM := Lib.hid hm
    clear hm
    have A := HA.out
    have R := HR.out
    have N := HN.out
    clear HA HR HN
    obtain ⟨A0, A1, -, -, -⟩ := id A
    obtain ⟨N0, N1, F0, F1, -⟩ := id N
    by_cases hj : j < 13
    · have KT := Lib.hid (KT.out j)
      have KM := Lib.hid (KM.out j (by omega))
      obtain ⟨i, hi⟩ : ∃ i : Nat, (24 : Int) - 2 * (j : Int) = (i : Int) := ⟨24 - 2 * j, by omega⟩
      have ei : 24 - 2 * j = i := by omega
      have i2 : (i : Int) < 28 := by omega
      have i3 : 0 ≤ (i : Int) := by omega
      have i4 : i < 28 := by omega
      have i5 : (0 : Int) ≤ (i : Int) := by omega
      rw [ei] at KM
      have HK := HH.out.keep HB.out
      have s0 := HK.i0 i (by omega)
      have s1 := HK.i1 i (by omega)
      have T0 : Cell2 wr 4 (i * 2) (.int .u64 (hb (L6.cf i))) (.int .u64 (lb (L6.cf i))) := ⟨s0, s1⟩
      clear HK ei
      generalize hb (L6.cf i) = u at *
      generalize lb (L6.cf i) = v at *
      generalize hb (L6.pm X (L6.serF 0 X j)) = h at *
      generalize lb (L6.pm X (L6.serF 0 X j)) = l at *
      rw [hi]
      go_wp2_with fail
      go_region_with (first
        | (go_at_call 92; refine (KT.out _).mono ?_; rintro e v1 ⟨rfl, hb⟩; (try (replace hb := bdrew hb)); have A := A.keep hb; have R := R.keep hb; have N := N.keep hb; have HB := Lib.hid (bstep HB.out hb); have T0 := T0.keep hb; clear hb A0 A1 N0 N1 F0 F1 s0 s1; obtain ⟨A0, A1, -, -, -⟩ := id A; obtain ⟨N0, N1, F0, F1, -⟩ := id N; obtain ⟨s0, s1⟩ := id T0)
        | (go_at_call 93; refine (KM.out _).mono ?_; rintro e v1 ⟨rfl, hb⟩; (try (replace hb := bdrew hb)); have A := A.keep hb; have R := R.keep hb; have N := N.keep hb; have HB := Lib.hid (bstep HB.out hb); have T0 := T0.keep hb; clear hb A0 A1 N0 N1 F0 F1 s0 s1; obtain ⟨A0, A1, -, -, -⟩ := id A; obtain ⟨N0, N1, F0, F1, -⟩ := id N; obtain ⟨s0, s1⟩ := id T0))
      all_goals
        have A := A.far (show w.heap.size ≠ w.heap.size + 1 + 1 by omega) (.int .u64 (p (j + 1))) (.int .u64 (q (j + 1)))
        have R := R.far (show w.heap.size + 1 ≠ w.heap.size + 1 + 1 by omega) (.int .u64 (p (j + 1))) (.int .u64 (q (j + 1)))
        have N := N.put (.int .u64 (p (j + 1))) (.int .u64 (q (j + 1)))
        have HB := Lib.hid (below_set2 HB.out (show w.heap.size ≤ w.heap.size + 1 + 1 by omega) (.int .u64 (p (j + 1))) (.int .u64 (q (j + 1))))
        clear A0 A1 N0 N1 F0 F1 s0 s1 T0 KT KM
        have j9 := Lib.hid hj
        have hi9 := Lib.hid hi
        clear hj hi
        go_wp2_with fail
        go_roundg (13 - (j + 1))
        case measure => have := HM.out; have := j9.out; omega
        case rel => exact ⟨j + 1, rfl, congrArg (Value.int .i64) (by have := hi9.out; omega), by have := j9.out; show _ ≤ _; omega, A, R, N, HB⟩
    · obtain rfl : j = 13 := by have := HJ.out; omega
      clear KT KM
      rw [show (24 : Int) - 2 * ((13 : Nat) : Int) = -2 by decide]
      obtain ⟨R0, R1, F2, F3, -⟩ := id R
      obtain ⟨s0, s1⟩ := set2 R0 R1 (.int .u64 (p 13)) (.int .u64 (q 13))
      go_wp2_with fail
      refine bodyPost_ret (v := .agg #[.int .u64 (p 13), .int .u64 (q 13)]) (by simp [results, Tryd.results94, go_sem, s0, s1]) rfl ⟨rfl, ?_⟩
      exact below_set2 HB.out (show w.heap.size ≤ w.heap.size + 1 by omega) _ _
set_option maxHeartbeats 1000000 in
theorem series_1_26 (X : Nat) (hX : X < 340282366920938463463374607431768211456) (w : World) (H : Held w) :
    Calls Tryd.prog 94 #[.int .i64 3, .int .i64 26, .agg #[.int .u64 (hb X), .int .u64 (lb X)]] w fun e w' => e = .returned (.agg #[.int .u64 (hb (L6.serF 1 X 13)), .int .u64 (lb (L6.serF 1 X 13))]) ∧ Below w.heap.size w w' := by
  obtain ⟨x, hx⟩ : ∃ x, x = hb X := ⟨_, rfl⟩
  obtain ⟨y, hy⟩ : ∃ y, y = lb X := ⟨_, rfl⟩
  obtain ⟨p, hp⟩ : ∃ p : Nat → Int, ∀ j, p j = hb (L6.serF 1 X j) := ⟨_, fun _ => rfl⟩
  obtain ⟨q, hq⟩ : ∃ q : Nat → Int, ∀ j, q j = lb (L6.serF 1 X j) := ⟨_, fun _ => rfl⟩
  have KT : Hid (∀ j wx, Calls Tryd.prog 92 #[.agg #[.int .u64 x, .int .u64 y], .agg #[.int .u64 (p j), .int .u64 (q j)]] wx fun e w' => e = .returned (.agg #[.int .u64 (hb (L6.pm X (L6.serF 1 X j))), .int .u64 (lb (L6.pm X (L6.serF 1 X j)))]) ∧ Below wx.heap.size wx w') := Lib.hid (fun j wx => by rw [hx, hy, hp, hq]; exact times_any X _ hX (serF_lt _ _ _) wx)
  have KM : Hid (∀ j, j ≤ 12 → ∀ wx, Calls Tryd.prog 93 #[.agg #[.int .u64 (hb (L6.cf (25 - 2 * j))), .int .u64 (lb (L6.cf (25 - 2 * j)))], .agg #[.int .u64 (hb (L6.pm X (L6.serF 1 X j))), .int .u64 (lb (L6.pm X (L6.serF 1 X j)))]] wx fun e w' => e = .returned (.agg #[.int .u64 (p (j + 1)), .int .u64 (q (j + 1))]) ∧ Below wx.heap.size wx w') := Lib.hid (fun j hj wx => by rw [hp, hq]; exact minus_le _ _ (cf_lt _) (L6.serF_fit 1 X (by omega) j hj) wx)
  have z0 := hp 0
  have z1 := hq 0
  have s0 : w.cell? ⟨4, 54, none⟩ = some (.int .u64 (p 0)) := by rw [z0]; exact H.i0 27 (by omega)
  have s1 : w.cell? ⟨4, 55, none⟩ = some (.int .u64 (q 0)) := by rw [z1]; exact H.i1 27 (by omega)
  rw [← hx, ← hy, ← hp, ← hq]
  clear hx hy hp hq z0 z1
  have l0 := World.block_lt_of_cell? _ _ s0
  have l1 := l0
  have W2 := below2 w (.cells #[.int .u64 x, .int .u64 y] 100) (.cells #[.int .u64 0, .int .u64 0] 100)
  have s0' := (W2.cell (p := ⟨4, 54, none⟩) l0).trans s0
  have s1' := (W2.cell (p := ⟨4, 55, none⟩) l0).trans s1
  have A := ((At2.new w (.int .u64 x) (.int .u64 y) 100).alloc (.cells #[.int .u64 0, .int .u64 0] 100)).alloc (.cells #[.int .u64 (p 0), .int .u64 (q 0)] 100)
  have R := (At2.new (w.alloc (.cells #[.int .u64 x, .int .u64 y] 100)) (.int .u64 0) (.int .u64 0) 100).alloc (.cells #[.int .u64 (p 0), .int .u64 (q 0)] 100)
  have N := At2.new ((w.alloc (.cells #[.int .u64 x, .int .u64 y] 100)).alloc (.cells #[.int .u64 0, .int .u64 0] 100)) (.int .u64 (p 0)) (.int .u64 (q 0)) 100
  have HB := Lib.hid (below3 w (.cells #[.int .u64 x, .int .u64 y] 100) (.cells #[.int .u64 0, .int .u64 0] 100) (.cells #[.int .u64 (p 0), .int .u64 (q 0)] 100))
  simp at N R
  have HH := Lib.hid H
  clear s0 s1 l1 W2 H
  go_enter Tryd.func94, Tryd.ntmps94
  go_wp2_with fail
  go_loopg [9] 13 (fun m v9 wr => ∃ j : Nat, m = 13 - j ∧ v9 = .int .i64 (25 - 2 * (j : Int)) ∧ Hid (j ≤ 13) ∧ Hid (At2 wr w.heap.size (.int .u64 x) (.int .u64 y)) ∧ Hid (At2 wr (w.heap.size + 1) (.int .u64 0) (.int .u64 0)) ∧ Hid (At2 wr (w.heap.size + 1 + 1) (.int .u64 (p j)) (.int .u64 (q j))) ∧ Hid (Below w.heap.size w wr))
  case atStart => exact ⟨0, rfl, rfl, Nat.zero_le _, A, R, N, HB⟩
  case round =>
    obtain ⟨j, hm, rfl, HJ, HA, HR, HN, HB⟩ := hrel
    clear s0' s1' l0 A R N
    have HM := Lib.hid hm
    clear hm
    have A := HA.out
    have R := HR.out
    have N := HN.out
    clear HA HR HN
    obtain ⟨A0, A1, -, -, -⟩ := id A
    obtain ⟨N0, N1, F0, F1, -⟩ := id N
    by_cases hj : j < 13
    · have KT := Lib.hid (KT.out j)
      have KM := Lib.hid (KM.out j (by omega))
      obtain ⟨i, hi⟩ : ∃ i : Nat, (25 : Int) - 2 * (j : Int) = (i : Int) := ⟨25 - 2 * j, by omega⟩
      have ei : 25 - 2 * j = i := by omega
      have i2 : (i : Int) < 28 := by omega
      have i3 : 1 ≤ (i : Int) := by omega
      have i4 : i < 28 := by omega
      have i5 : (0 : Int) ≤ (i : Int) := by omega
      rw [ei] at KM
      have HK := HH.out.keep HB.out
      have s0 := HK.i0 i (by omega)
      have s1 := HK.i1 i (by omega)
      have T0 : Cell2 wr 4 (i * 2) (.int .u64 (hb (L6.cf i))) (.int .u64 (lb (L6.cf i))) := ⟨s0, s1⟩
      clear HK ei
      generalize hb (L6.cf i) = u at *
      generalize lb (L6.cf i) = v at *
      generalize hb (L6.pm X (L6.serF 1 X j)) = h at *
      generalize lb (L6.pm X (L6.serF 1 X j)) = l at *
      rw [hi]
      go_wp2_with fail
      go_region_with (first
        | (go_at_call 92; refine (KT.out _).mono ?_; rintro e v1 ⟨rfl, hb⟩; (try (replace hb := bdrew hb)); have A := A.keep hb; have R := R.keep hb; have N := N.keep hb; have HB := Lib.hid (bstep HB.out hb); have T0 := T0.keep hb; clear hb A0 A1 N0 N1 F0 F1 s0 s1; obtain ⟨A0, A1, -, -, -⟩ := id A; obtain ⟨N0, N1, F0, F1, -⟩ := id N; obtain ⟨s0, s1⟩ := id T0)
        | (go_at_call 93; refine (KM.out _).mono ?_; rintro e v1 ⟨rfl, hb⟩; (try (replace hb := bdrew hb)); have A := A.keep hb; have R := R.keep hb; have N := N.keep hb; have HB := Lib.hid (bstep HB.out hb); have T0 := T0.keep hb; clear hb A0 A1 N0 N1 F0 F1 s0 s1; obtain ⟨A0, A1, -, -, -⟩ := id A; obtain ⟨N0, N1, F0, F1, -⟩ := id N; obtain ⟨s0, s1⟩ := id T0))
      all_goals
        have A := A.far (show w.heap.size ≠ w.heap.size + 1 + 1 by omega) (.int .u64 (p (j + 1))) (.int .u64 (q (j + 1)))
        have R := R.far (show w.heap.size + 1 ≠ w.heap.size + 1 + 1 by omega) (.int .u64 (p (j + 1))) (.int .u64 (q (j + 1)))
        have N := N.put (.int .u64 (p (j + 1))) (.int .u64 (q (j + 1)))
        have HB := Lib.hid (below_set2 HB.out (show w.heap.size ≤ w.heap.size + 1 + 1 by omega) (.int .u64 (p (j + 1))) (.int .u64 (q (j + 1))))
        clear A0 A1 N0 N1 F0 F1 s0 s1 T0 KT KM
        have j9 := Lib.hid hj
        have hi9 := Lib.hid hi
        clear hj hi
        go_wp2_with fail
        go_roundg (13 - (j + 1))
        case measure => have := HM.out; have := j9.out; omega
        case rel => exact ⟨j + 1, rfl, congrArg (Value.int .i64) (by have := hi9.out; omega), by have := j9.out; show _ ≤ _; omega, A, R, N, HB⟩
    · obtain rfl : j = 13 := by have := HJ.out; omega
      clear KT KM
      rw [show (25 : Int) - 2 * ((13 : Nat) : Int) = -1 by decide]
      obtain ⟨R0, R1, F2, F3, -⟩ := id R
      obtain ⟨s0, s1⟩ := set2 R0 R1 (.int .u64 (p 13)) (.int .u64 (q 13))
      go_wp2_with fail
      refine bodyPost_ret (v := .agg #[.int .u64 (p 13), .int .u64 (q 13)]) (by simp [results, Tryd.results94, go_sem, s0, s1]) rfl ⟨rfl, ?_⟩
      exact below_set2 HB.out (show w.heap.size ≤ w.heap.size + 1 by omega) _ _
end Go.Proofs.YtndcjldnnfhedaaDoor

/- Trig: the program's irrational sine. -/
namespace Go.Proofs.YtndcjldnnfhedaaDoor
open Go.RowKit
set_option linter.unusedVariables false
set_option maxRecDepth 100000

theorem X_lt (r : Nat) (h : r ≤ 2700000) : L6.rad * r < 340282366920938463463374607431768211456 := by have := L6.X_le r h; omega
theorem pm_lt {a b : Nat} (ha : a < 340282366920938463463374607431768211456) (hb : b < 340282366920938463463374607431768211456) : L6.pm a b < 340282366920938463463374607431768211456 := Nat.lt_of_le_of_lt (L6.pm_le a b (by omega)) hb
theorem pm_ge (a b : Nat) : a / 18446744073709551616 * (b / 18446744073709551616) ≤ L6.pm a b := by unfold L6.pm; omega
theorem cos_pos (r : Nat) (h1 : 1 ≤ r) (h2 : r ≤ 2700000) : 0 < L6.pm (L6.pm (L6.rad * r) (L6.rad * r)) (L6.ser 0 (L6.pm (L6.rad * r) (L6.rad * r)) 9) := by
  have hX := L6.X_le r h2
  have a : L6.rad ≤ L6.rad * r := Nat.le_mul_of_pos_right _ h1
  obtain ⟨X, hx⟩ : ∃ X, X = L6.rad * r := ⟨_, rfl⟩
  rw [← hx] at a hX ⊢
  have a1 : L6.rad / 18446744073709551616 ≤ X / 18446744073709551616 := Nat.div_le_div_right a
  have a2 : L6.rad / 18446744073709551616 = 5365940339316 := by decide
  rw [a2] at a1
  have g := pm_ge X X
  have m := Nat.mul_le_mul a1 a1
  have S1 : 18446744073709551616 ≤ L6.pm X X := Nat.le_trans (Nat.le_trans (by decide) m) g
  have hS := L6.S_le X hX
  obtain ⟨S, hs⟩ : ∃ S, S = L6.pm X X := ⟨_, rfl⟩
  rw [← hs] at S1 hS ⊢
  have q : 18446744073709551616 ≤ L6.ser 0 S 9 := by
    have f := L6.pm_le S (L6.ser 0 S 8) (by omega)
    have l := L6.ser_le 0 S 8
    have e : L6.ser 0 S 9 = L6.cf 0 - L6.pm S (L6.ser 0 S 8) := rfl
    have c : L6.cf (0 + 18 - 2 * 8) + 18446744073709551616 ≤ L6.cf 0 := by decide +kernel
    rw [e]; omega
  have k := pm_ge S (L6.ser 0 S 9)
  have s1 : 1 ≤ S / 18446744073709551616 := by omega
  have q1 : 1 ≤ L6.ser 0 S 9 / 18446744073709551616 := by omega
  have := Nat.mul_le_mul s1 q1
  omega
theorem cosF_pos (r : Nat) (h1 : 1 ≤ r) (h2 : r ≤ 2700000) : 0 < L6.pm (L6.pm (L6.rad * r) (L6.rad * r)) (L6.serF 0 (L6.pm (L6.rad * r) (L6.rad * r)) 13) := by
  have hX := L6.X_le r h2
  have a : L6.rad ≤ L6.rad * r := Nat.le_mul_of_pos_right _ h1
  obtain ⟨X, hx⟩ : ∃ X, X = L6.rad * r := ⟨_, rfl⟩
  rw [← hx] at a hX ⊢
  have a1 : L6.rad / 18446744073709551616 ≤ X / 18446744073709551616 := Nat.div_le_div_right a
  have a2 : L6.rad / 18446744073709551616 = 5365940339316 := by decide
  rw [a2] at a1
  have g := pm_ge X X
  have m := Nat.mul_le_mul a1 a1
  have S1 : 18446744073709551616 ≤ L6.pm X X := Nat.le_trans (Nat.le_trans (by decide) m) g
  have hS := L6.S_le X hX
  obtain ⟨S, hs⟩ : ∃ S, S = L6.pm X X := ⟨_, rfl⟩
  rw [← hs] at S1 hS ⊢
  have q : 18446744073709551616 ≤ L6.serF 0 S 13 := by
    have f := L6.pm_le S (L6.serF 0 S 12) (by omega)
    have l := L6.serF_le 0 S 12
    have e : L6.serF 0 S 13 = L6.cf 0 - L6.pm S (L6.serF 0 S 12) := rfl
    have c : L6.cf (0 + 26 - 2 * 12) + 18446744073709551616 ≤ L6.cf 0 := by decide +kernel
    rw [e]; omega
  have k := pm_ge S (L6.serF 0 S 13)
  have s1 : 1 ≤ S / 18446744073709551616 := by omega
  have q1 : 1 ≤ L6.serF 0 S 13 / 18446744073709551616 := by omega
  have := Nat.mul_le_mul s1 q1
  omega
theorem minus_zero (b : Nat) (h0 : 0 < b) (h : b < 340282366920938463463374607431768211456) (w : World) :
    Calls Tryd.prog 93 #[.agg #[.int .u64 0, .int .u64 0], .agg #[.int .u64 (hb b), .int .u64 (lb b)]] w fun e w' => e = .returned (.agg #[.int .u64 (hb (340282366920938463463374607431768211456 - b)), .int .u64 (lb (340282366920938463463374607431768211456 - b))]) ∧ Below w.heap.size w w' := by
  have M := minus_any 0 b (by omega) h w
  rw [show (0 + 340282366920938463463374607431768211456 - b) % 340282366920938463463374607431768211456 = 340282366920938463463374607431768211456 - b by omega] at M
  exact M

set_option maxHeartbeats 2000000 in
theorem irr_sin (n r : Nat) (hn : n = r) (h2 : r ≤ 2700000) (w : World) (H : Held w) :
    Calls Tryd.prog 65 #[.int .i64 n, .int .i64 18] w fun e w' => e = .returned (.agg #[.int .u64 (hb (L6.sinP (L6.rad * r))), .int .u64 (lb (L6.sinP (L6.rad * r)))]) ∧ Below w.heap.size w w' := by
  subst hn
  have XL := X_lt n h2
  have K0 := Lib.hid (fun (wx : World) (hb : Below w.heap.size w wx) => radians_any n h2 wx (H.keep hb))
  have K1 := Lib.hid (fun (wx : World) => times_any (L6.rad * n) (L6.rad * n) XL XL wx)
  have SL := pm_lt XL XL
  have K2 := Lib.hid (fun (wx : World) (hb : Below w.heap.size w wx) => series_1_18 (L6.pm (L6.rad * n) (L6.rad * n)) SL wx (H.keep hb))
  have PL := ser_lt 1 (L6.pm (L6.rad * n) (L6.rad * n)) 9
  have K3 := Lib.hid (fun (wx : World) => times_any (L6.pm (L6.rad * n) (L6.rad * n)) (L6.ser 1 (L6.pm (L6.rad * n) (L6.rad * n)) 9) SL PL wx)
  have TL := pm_lt SL PL
  have K4 := Lib.hid (fun (wx : World) => times_any (L6.rad * n) (L6.pm (L6.pm (L6.rad * n) (L6.rad * n)) (L6.ser 1 (L6.pm (L6.rad * n) (L6.rad * n)) 9)) XL TL wx)
  have K5 := Lib.hid (fun (wx : World) => minus_le (L6.rad * n) (L6.pm (L6.rad * n) (L6.pm (L6.pm (L6.rad * n) (L6.rad * n)) (L6.ser 1 (L6.pm (L6.rad * n) (L6.rad * n)) 9))) XL (L6.sinP_fit _ (by omega)) wx)
  change Hid (∀ wx, Calls _ _ _ wx fun e w' => e = .returned (.agg #[.int .u64 (hb (L6.sinP (L6.rad * n))), .int .u64 (lb (L6.sinP (L6.rad * n)))]) ∧ _) at K5
  generalize hb (L6.sinP (L6.rad * n)) = r0 at *
  generalize lb (L6.sinP (L6.rad * n)) = r1 at *
  generalize hb (L6.pm (L6.rad * n) (L6.pm (L6.pm (L6.rad * n) (L6.rad * n)) (L6.ser 1 (L6.pm (L6.rad * n) (L6.rad * n)) 9))) = u0 at *
  generalize lb (L6.pm (L6.rad * n) (L6.pm (L6.pm (L6.rad * n) (L6.rad * n)) (L6.ser 1 (L6.pm (L6.rad * n) (L6.rad * n)) 9))) = u1 at *
  generalize hb (L6.pm (L6.pm (L6.rad * n) (L6.rad * n)) (L6.ser 1 (L6.pm (L6.rad * n) (L6.rad * n)) 9)) = t0 at *
  generalize lb (L6.pm (L6.pm (L6.rad * n) (L6.rad * n)) (L6.ser 1 (L6.pm (L6.rad * n) (L6.rad * n)) 9)) = t1 at *
  generalize hb (L6.ser 1 (L6.pm (L6.rad * n) (L6.rad * n)) 9) = p0 at *
  generalize lb (L6.ser 1 (L6.pm (L6.rad * n) (L6.rad * n)) 9) = p1 at *
  generalize hb (L6.pm (L6.rad * n) (L6.rad * n)) = s0 at *
  generalize lb (L6.pm (L6.rad * n) (L6.rad * n)) = s1 at *
  generalize hb (L6.rad * n) = x0 at *
  generalize lb (L6.rad * n) = x1 at *
  clear XL SL PL TL H
  have n1 : (n : Int) ≤ 2700000 := by omega
  have n0 : (0 : Int) ≤ (n : Int) := by omega
  have R := At2.new w (.int .u64 0) (.int .u64 0) 100
  have HB := Lib.hid (below1 w (.cells #[.int .u64 0, .int .u64 0] 100))
  go_enter Tryd.func65, Tryd.ntmps65
  go_wp2_with fail
  refine (K0.out _ HB.out).mono ?_
  rintro e w1 ⟨rfl, hb⟩
  have R := R.keep hb
  have HB := Lib.hid (bstep HB.out hb)
  clear hb
  have gX := R.lt
  have R := R.alloc (.cells #[.int .u64 x0, .int .u64 x1] 100)
  have X := At2.new w1 (.int .u64 x0) (.int .u64 x1) 100
  have HB := Lib.hid (bstep HB.out (below1 w1 (.cells #[.int .u64 x0, .int .u64 x1] 100)))
  obtain ⟨X0, X1, -, -, -⟩ := id X
  go_wp2_with fail
  refine (K1.out _).mono ?_
  rintro e w2 ⟨rfl, hb⟩
  have R := R.keep hb
  have X := X.keep hb
  have HB := Lib.hid (bstep HB.out hb)
  clear hb X0 X1
  have gS := R.lt
  have R := R.alloc (.cells #[.int .u64 s0, .int .u64 s1] 100)
  have X := X.alloc (.cells #[.int .u64 s0, .int .u64 s1] 100)
  have S := At2.new w2 (.int .u64 s0) (.int .u64 s1) 100
  have HB := Lib.hid (bstep HB.out (below1 w2 (.cells #[.int .u64 s0, .int .u64 s1] 100)))
  have X' := X
  have S' := S
  obtain ⟨X0, X1, -, -, -⟩ := id X
  obtain ⟨S0, S1, -, -, -⟩ := id S
  obtain ⟨R0, R1, R2, R3, -⟩ := id R
  have zX : ¬ w.heap.size = w1.heap.size := by omega
  have yX : ¬ w1.heap.size = w.heap.size := by omega
  have zS : ¬ w.heap.size = w2.heap.size := by omega
  have yS : ¬ w2.heap.size = w.heap.size := by omega
  clear X' S' gX gS
  go_upto_region 7 with fail
  generalize w1.heap.size = bx at *
  generalize w2.heap.size = bs at *
  go_region_held3 (fun w' => w'.cell? ⟨bx, 0, none⟩ = some (.int .u64 x0) ∧ w'.cell? ⟨bx, 1, none⟩ = some (.int .u64 x1) ∧ w'.cell? ⟨bs, 0, none⟩ = some (.int .u64 s0) ∧ w'.cell? ⟨bs, 1, none⟩ = some (.int .u64 s1)) (go_keep)
    (first
    | (go_at_call 94; ((with_reducible refine (K2.out _ (by first | exact HB.out | exact HB.out.drew)).mono ?_)); rintro e v ⟨rfl, hb⟩; (try (replace hb := bdrew hb)); clear R0 R1 R2 R3 X0 X1 S0 S1; have R := R.keep hb; have X := X.keep hb; have S := S.keep hb; have HB := Lib.hid (bstep HB.out hb); obtain ⟨R0, R1, R2, R3, -⟩ := id R; obtain ⟨X0, X1, -, -, -⟩ := id X; obtain ⟨S0, S1, -, -, -⟩ := id S; clear hb)
    | (go_at_call 92; ((with_reducible refine (K3.out _).mono ?_)); rintro e v ⟨rfl, hb⟩; (try (replace hb := bdrew hb)); clear R0 R1 R2 R3 X0 X1 S0 S1; have R := R.keep hb; have X := X.keep hb; have S := S.keep hb; have HB := Lib.hid (bstep HB.out hb); obtain ⟨R0, R1, R2, R3, -⟩ := id R; obtain ⟨X0, X1, -, -, -⟩ := id X; obtain ⟨S0, S1, -, -, -⟩ := id S; clear hb)
    | (go_at_call 92; ((with_reducible refine (K4.out _).mono ?_)); rintro e v ⟨rfl, hb⟩; (try (replace hb := bdrew hb)); clear R0 R1 R2 R3 X0 X1 S0 S1; have R := R.keep hb; have X := X.keep hb; have S := S.keep hb; have HB := Lib.hid (bstep HB.out hb); obtain ⟨R0, R1, R2, R3, -⟩ := id R; obtain ⟨X0, X1, -, -, -⟩ := id X; obtain ⟨S0, S1, -, -, -⟩ := id S; clear hb)
    | (go_at_call 93; ((with_reducible refine (K5.out _).mono ?_)); rintro e v ⟨rfl, hb⟩; (try (replace hb := bdrew hb)); clear R0 R1 R2 R3 X0 X1 S0 S1; have R := R.keep hb; have X := X.keep hb; have S := S.keep hb; have HB := Lib.hid (bstep HB.out hb); obtain ⟨R0, R1, R2, R3, -⟩ := id R; obtain ⟨X0, X1, -, -, -⟩ := id X; obtain ⟨S0, S1, -, -, -⟩ := id S; clear hb))
  obtain ⟨z0, z1⟩ := set2 R0 R1 (.int .u64 r0) (.int .u64 r1)
  go_wp2_with fail
  refine bodyPost_ret (v := .agg #[.int .u64 r0, .int .u64 r1]) (by simp [results, Tryd.results65, go_sem, z0, z1]) rfl ⟨rfl, ?_⟩
  exact below_set2 HB.out (Nat.le_refl _) _ _

set_option maxHeartbeats 2000000 in
theorem irr_cos (n : Int) (r : Nat) (hn : 5400000 - n = (r : Int)) (h1 : 1 ≤ r) (h2 : r < 2700000) (w : World) (H : Held w) :
    Calls Tryd.prog 65 #[.int .i64 n, .int .i64 18] w fun e w' => e = .returned (.agg #[.int .u64 (hb (L6.cosP (L6.rad * r))), .int .u64 (lb (L6.cosP (L6.rad * r)))]) ∧ Below w.heap.size w w' := by
  have XL := X_lt r (by omega)
  have K0 := Lib.hid (fun (wx : World) (hb : Below w.heap.size w wx) => radians_any r (by omega) wx (H.keep hb))
  have K1 := Lib.hid (fun (wx : World) => times_any (L6.rad * r) (L6.rad * r) XL XL wx)
  have SL := pm_lt XL XL
  have K2 := Lib.hid (fun (wx : World) (hb : Below w.heap.size w wx) => series_0_18 (L6.pm (L6.rad * r) (L6.rad * r)) SL wx (H.keep hb))
  have PL := ser_lt 0 (L6.pm (L6.rad * r) (L6.rad * r)) 9
  have K3 := Lib.hid (fun (wx : World) => times_any (L6.pm (L6.rad * r) (L6.rad * r)) (L6.ser 0 (L6.pm (L6.rad * r) (L6.rad * r)) 9) SL PL wx)
  have TL := pm_lt SL PL
  have TP := cos_pos r h1 (by omega)
  have K5 := Lib.hid (fun (wx : World) => minus_zero (L6.pm (L6.pm (L6.rad * r) (L6.rad * r)) (L6.ser 0 (L6.pm (L6.rad * r) (L6.rad * r)) 9)) TP TL wx)
  change Hid (∀ wx, Calls _ _ _ wx fun e w' => e = .returned (.agg #[.int .u64 (hb (L6.cosP (L6.rad * r))), .int .u64 (lb (L6.cosP (L6.rad * r)))]) ∧ _) at K5
  generalize hb (L6.cosP (L6.rad * r)) = r0 at *
  generalize lb (L6.cosP (L6.rad * r)) = r1 at *
  generalize hb (L6.pm (L6.pm (L6.rad * r) (L6.rad * r)) (L6.ser 0 (L6.pm (L6.rad * r) (L6.rad * r)) 9)) = t0 at *
  generalize lb (L6.pm (L6.pm (L6.rad * r) (L6.rad * r)) (L6.ser 0 (L6.pm (L6.rad * r) (L6.rad * r)) 9)) = t1 at *
  generalize hb (L6.ser 0 (L6.pm (L6.rad * r) (L6.rad * r)) 9) = p0 at *
  generalize lb (L6.ser 0 (L6.pm (L6.rad * r) (L6.rad * r)) 9) = p1 at *
  generalize hb (L6.pm (L6.rad * r) (L6.rad * r)) = s0 at *
  generalize lb (L6.pm (L6.rad * r) (L6.rad * r)) = s1 at *
  generalize hb (L6.rad * r) = x0 at *
  generalize lb (L6.rad * r) = x1 at *
  clear XL SL PL TL TP H
  have n1 : (2700000 : Int) < n := by omega
  have n0 : n ≤ 5400000 := by omega
  have R := At2.new w (.int .u64 0) (.int .u64 0) 100
  have HB := Lib.hid (below1 w (.cells #[.int .u64 0, .int .u64 0] 100))
  go_enter Tryd.func65, Tryd.ntmps65
  go_wp2_with fail
  refine (K0.out _ HB.out).mono ?_
  rintro e w1 ⟨rfl, hb⟩
  have R := R.keep hb
  have HB := Lib.hid (bstep HB.out hb)
  clear hb
  have gX := R.lt
  have R := R.alloc (.cells #[.int .u64 x0, .int .u64 x1] 100)
  have X := At2.new w1 (.int .u64 x0) (.int .u64 x1) 100
  have HB := Lib.hid (bstep HB.out (below1 w1 (.cells #[.int .u64 x0, .int .u64 x1] 100)))
  obtain ⟨X0, X1, -, -, -⟩ := id X
  go_wp2_with fail
  refine (K1.out _).mono ?_
  rintro e w2 ⟨rfl, hb⟩
  have R := R.keep hb
  have X := X.keep hb
  have HB := Lib.hid (bstep HB.out hb)
  clear hb X0 X1
  have gS := R.lt
  have R := R.alloc (.cells #[.int .u64 s0, .int .u64 s1] 100)
  have X := X.alloc (.cells #[.int .u64 s0, .int .u64 s1] 100)
  have S := At2.new w2 (.int .u64 s0) (.int .u64 s1) 100
  have HB := Lib.hid (bstep HB.out (below1 w2 (.cells #[.int .u64 s0, .int .u64 s1] 100)))
  obtain ⟨X0, X1, -, -, -⟩ := id X
  obtain ⟨S0, S1, -, -, -⟩ := id S
  obtain ⟨R0, R1, R2, R3, -⟩ := id R
  have zS : ¬ w.heap.size = w2.heap.size := by omega
  have yS : ¬ w2.heap.size = w.heap.size := by omega
  clear gX gS
  go_upto_region 4 with fail
  generalize w1.heap.size = bx at *
  generalize w2.heap.size = bs at *
  go_region_held3 (fun w' => w'.cell? ⟨bs, 0, none⟩ = some (.int .u64 s0) ∧ w'.cell? ⟨bs, 1, none⟩ = some (.int .u64 s1)) (go_keep)
    (first
    | (go_at_call 94; ((with_reducible refine (K2.out _ (by first | exact HB.out | exact HB.out.drew)).mono ?_)); rintro e v ⟨rfl, hb⟩; (try (replace hb := bdrew hb)); clear R0 R1 R2 R3 X0 X1 S0 S1; have R := R.keep hb; have X := X.keep hb; have S := S.keep hb; have HB := Lib.hid (bstep HB.out hb); obtain ⟨R0, R1, R2, R3, -⟩ := id R; obtain ⟨X0, X1, -, -, -⟩ := id X; obtain ⟨S0, S1, -, -, -⟩ := id S; clear hb)
    | (go_at_call 92; ((with_reducible refine (K3.out _).mono ?_)); rintro e v ⟨rfl, hb⟩; (try (replace hb := bdrew hb)); clear R0 R1 R2 R3 X0 X1 S0 S1; have R := R.keep hb; have X := X.keep hb; have S := S.keep hb; have HB := Lib.hid (bstep HB.out hb); obtain ⟨R0, R1, R2, R3, -⟩ := id R; obtain ⟨X0, X1, -, -, -⟩ := id X; obtain ⟨S0, S1, -, -, -⟩ := id S; clear hb)
    | (go_at_call 93; ((with_reducible refine (K5.out _).mono ?_)); rintro e v ⟨rfl, hb⟩; (try (replace hb := bdrew hb)); clear R0 R1 R2 R3 X0 X1 S0 S1; have R := R.keep hb; have X := X.keep hb; have S := S.keep hb; have HB := Lib.hid (bstep HB.out hb); obtain ⟨R0, R1, R2, R3, -⟩ := id R; obtain ⟨X0, X1, -, -, -⟩ := id X; obtain ⟨S0, S1, -, -, -⟩ := id S; clear hb))
  obtain ⟨z0, z1⟩ := set2 R0 R1 (.int .u64 r0) (.int .u64 r1)
  go_wp2_with fail
  refine bodyPost_ret (v := .agg #[.int .u64 r0, .int .u64 r1]) (by simp [results, Tryd.results65, go_sem, z0, z1]) rfl ⟨rfl, ?_⟩
  exact below_set2 HB.out (Nat.le_refl _) _ _

theorem irr_any (m : Int) (h0 : 0 < m) (h1 : m < 5400000) (w : World) (H : Held w) :
    Calls Tryd.prog 65 #[.int .i64 m, .int .i64 18] w fun e w' => e = .returned (.agg #[.int .u64 (hb (L6.irr m.toNat)), .int .u64 (lb (L6.irr m.toNat))]) ∧ Below w.heap.size w w' := by
  unfold L6.irr
  by_cases c : 2700000 < m.toNat
  · rw [if_pos c]
    exact irr_cos m (5400000 - m.toNat) (by omega) (by omega) (by omega) w H
  · rw [if_neg c]
    have k := irr_sin m.toNat m.toNat rfl (by omega) w H
    rwa [show ((m.toNat : Nat) : Int) = m by omega] at k
theorem irr_lt (m : Nat) (h : m ≤ 5400000) : L6.irr m < 340282366920938463463374607431768211456 ∨ 5400000 ≤ m := by
  unfold L6.irr
  by_cases c : 2700000 < m
  · rw [if_pos c]
    by_cases k : 5400000 ≤ m
    · exact .inr k
    · have := cos_pos (5400000 - m) (by omega) (by omega)
      refine .inl ?_
      unfold L6.cosP
      omega
  · rw [if_neg c]
    refine .inl ?_
    have := X_lt m (by omega)
    unfold L6.sinP
    omega
set_option maxHeartbeats 2000000 in
theorem irF_sin (n r : Nat) (hn : n = r) (h2 : r ≤ 2700000) (w : World) (H : Held w) :
    Calls Tryd.prog 65 #[.int .i64 n, .int .i64 26] w fun e w' => e = .returned (.agg #[.int .u64 (hb (L6.sinF (L6.rad * r))), .int .u64 (lb (L6.sinF (L6.rad * r)))]) ∧ Below w.heap.size w w' := by
  subst hn
  have XL := X_lt n h2
  have K0 := Lib.hid (fun (wx : World) (hb : Below w.heap.size w wx) => radians_any n h2 wx (H.keep hb))
  have K1 := Lib.hid (fun (wx : World) => times_any (L6.rad * n) (L6.rad * n) XL XL wx)
  have SL := pm_lt XL XL
  have K2 := Lib.hid (fun (wx : World) (hb : Below w.heap.size w wx) => series_1_26 (L6.pm (L6.rad * n) (L6.rad * n)) SL wx (H.keep hb))
  have PL := serF_lt 1 (L6.pm (L6.rad * n) (L6.rad * n)) 13
  have K3 := Lib.hid (fun (wx : World) => times_any (L6.pm (L6.rad * n) (L6.rad * n)) (L6.serF 1 (L6.pm (L6.rad * n) (L6.rad * n)) 13) SL PL wx)
  have TL := pm_lt SL PL
  have K4 := Lib.hid (fun (wx : World) => times_any (L6.rad * n) (L6.pm (L6.pm (L6.rad * n) (L6.rad * n)) (L6.serF 1 (L6.pm (L6.rad * n) (L6.rad * n)) 13)) XL TL wx)
  have K5 := Lib.hid (fun (wx : World) => minus_le (L6.rad * n) (L6.pm (L6.rad * n) (L6.pm (L6.pm (L6.rad * n) (L6.rad * n)) (L6.serF 1 (L6.pm (L6.rad * n) (L6.rad * n)) 13))) XL (L6.sinF_fit _ (by omega)) wx)
  change Hid (∀ wx, Calls _ _ _ wx fun e w' => e = .returned (.agg #[.int .u64 (hb (L6.sinF (L6.rad * n))), .int .u64 (lb (L6.sinF (L6.rad * n)))]) ∧ _) at K5
  generalize hb (L6.sinF (L6.rad * n)) = r0 at *
  generalize lb (L6.sinF (L6.rad * n)) = r1 at *
  generalize hb (L6.pm (L6.rad * n) (L6.pm (L6.pm (L6.rad * n) (L6.rad * n)) (L6.serF 1 (L6.pm (L6.rad * n) (L6.rad * n)) 13))) = u0 at *
  generalize lb (L6.pm (L6.rad * n) (L6.pm (L6.pm (L6.rad * n) (L6.rad * n)) (L6.serF 1 (L6.pm (L6.rad * n) (L6.rad * n)) 13))) = u1 at *
  generalize hb (L6.pm (L6.pm (L6.rad * n) (L6.rad * n)) (L6.serF 1 (L6.pm (L6.rad * n) (L6.rad * n)) 13)) = t0 at *
  generalize lb (L6.pm (L6.pm (L6.rad * n) (L6.rad * n)) (L6.serF 1 (L6.pm (L6.rad * n) (L6.rad * n)) 13)) = t1 at *
  generalize hb (L6.serF 1 (L6.pm (L6.rad * n) (L6.rad * n)) 13) = p0 at *
  generalize lb (L6.serF 1 (L6.pm (L6.rad * n) (L6.rad * n)) 13) = p1 at *
  generalize hb (L6.pm (L6.rad * n) (L6.rad * n)) = s0 at *
  generalize lb (L6.pm (L6.rad * n) (L6.rad * n)) = s1 at *
  generalize hb (L6.rad * n) = x0 at *
  generalize lb (L6.rad * n) = x1 at *
  clear XL SL PL TL H
  have n1 : (n : Int) ≤ 2700000 := by omega
  have n0 : (0 : Int) ≤ (n : Int) := by omega
  have R := At2.new w (.int .u64 0) (.int .u64 0) 100
  have HB := Lib.hid (below1 w (.cells #[.int .u64 0, .int .u64 0] 100))
  go_enter Tryd.func65, Tryd.ntmps65
  go_wp2_with fail
  refine (K0.out _ HB.out).mono ?_
  rintro e w1 ⟨rfl, hb⟩
  have R := R.keep hb
  have HB := Lib.hid (bstep HB.out hb)
  clear hb
  have gX := R.lt
  have R := R.alloc (.cells #[.int .u64 x0, .int .u64 x1] 100)
  have X := At2.new w1 (.int .u64 x0) (.int .u64 x1) 100
  have HB := Lib.hid (bstep HB.out (below1 w1 (.cells #[.int .u64 x0, .int .u64 x1] 100)))
  obtain ⟨X0, X1, -, -, -⟩ := id X
  go_wp2_with fail
  refine (K1.out _).mono ?_
  rintro e w2 ⟨rfl, hb⟩
  have R := R.keep hb
  have X := X.keep hb
  have HB := Lib.hid (bstep HB.out hb)
  clear hb X0 X1
  have gS := R.lt
  have R := R.alloc (.cells #[.int .u64 s0, .int .u64 s1] 100)
  have X := X.alloc (.cells #[.int .u64 s0, .int .u64 s1] 100)
  have S := At2.new w2 (.int .u64 s0) (.int .u64 s1) 100
  have HB := Lib.hid (bstep HB.out (below1 w2 (.cells #[.int .u64 s0, .int .u64 s1] 100)))
  have X' := X
  have S' := S
  obtain ⟨X0, X1, -, -, -⟩ := id X
  obtain ⟨S0, S1, -, -, -⟩ := id S
  obtain ⟨R0, R1, R2, R3, -⟩ := id R
  have zX : ¬ w.heap.size = w1.heap.size := by omega
  have yX : ¬ w1.heap.size = w.heap.size := by omega
  have zS : ¬ w.heap.size = w2.heap.size := by omega
  have yS : ¬ w2.heap.size = w.heap.size := by omega
  clear X' S' gX gS
  go_upto_region 7 with fail
  generalize w1.heap.size = bx at *
  generalize w2.heap.size = bs at *
  go_region_held3 (fun w' => w'.cell? ⟨bx, 0, none⟩ = some (.int .u64 x0) ∧ w'.cell? ⟨bx, 1, none⟩ = some (.int .u64 x1) ∧ w'.cell? ⟨bs, 0, none⟩ = some (.int .u64 s0) ∧ w'.cell? ⟨bs, 1, none⟩ = some (.int .u64 s1)) (go_keep)
    (first
    | (go_at_call 94; ((with_reducible refine (K2.out _ (by first | exact HB.out | exact HB.out.drew)).mono ?_)); rintro e v ⟨rfl, hb⟩; (try (replace hb := bdrew hb)); clear R0 R1 R2 R3 X0 X1 S0 S1; have R := R.keep hb; have X := X.keep hb; have S := S.keep hb; have HB := Lib.hid (bstep HB.out hb); obtain ⟨R0, R1, R2, R3, -⟩ := id R; obtain ⟨X0, X1, -, -, -⟩ := id X; obtain ⟨S0, S1, -, -, -⟩ := id S; clear hb)
    | (go_at_call 92; ((with_reducible refine (K3.out _).mono ?_)); rintro e v ⟨rfl, hb⟩; (try (replace hb := bdrew hb)); clear R0 R1 R2 R3 X0 X1 S0 S1; have R := R.keep hb; have X := X.keep hb; have S := S.keep hb; have HB := Lib.hid (bstep HB.out hb); obtain ⟨R0, R1, R2, R3, -⟩ := id R; obtain ⟨X0, X1, -, -, -⟩ := id X; obtain ⟨S0, S1, -, -, -⟩ := id S; clear hb)
    | (go_at_call 92; ((with_reducible refine (K4.out _).mono ?_)); rintro e v ⟨rfl, hb⟩; (try (replace hb := bdrew hb)); clear R0 R1 R2 R3 X0 X1 S0 S1; have R := R.keep hb; have X := X.keep hb; have S := S.keep hb; have HB := Lib.hid (bstep HB.out hb); obtain ⟨R0, R1, R2, R3, -⟩ := id R; obtain ⟨X0, X1, -, -, -⟩ := id X; obtain ⟨S0, S1, -, -, -⟩ := id S; clear hb)
    | (go_at_call 93; ((with_reducible refine (K5.out _).mono ?_)); rintro e v ⟨rfl, hb⟩; (try (replace hb := bdrew hb)); clear R0 R1 R2 R3 X0 X1 S0 S1; have R := R.keep hb; have X := X.keep hb; have S := S.keep hb; have HB := Lib.hid (bstep HB.out hb); obtain ⟨R0, R1, R2, R3, -⟩ := id R; obtain ⟨X0, X1, -, -, -⟩ := id X; obtain ⟨S0, S1, -, -, -⟩ := id S; clear hb))
  obtain ⟨z0, z1⟩ := set2 R0 R1 (.int .u64 r0) (.int .u64 r1)
  go_wp2_with fail
  refine bodyPost_ret (v := .agg #[.int .u64 r0, .int .u64 r1]) (by simp [results, Tryd.results65, go_sem, z0, z1]) rfl ⟨rfl, ?_⟩
  exact below_set2 HB.out (Nat.le_refl _) _ _

set_option maxHeartbeats 2000000 in
theorem irF_cos (n : Int) (r : Nat) (hn : 5400000 - n = (r : Int)) (h1 : 1 ≤ r) (h2 : r < 2700000) (w : World) (H : Held w) :
    Calls Tryd.prog 65 #[.int .i64 n, .int .i64 26] w fun e w' => e = .returned (.agg #[.int .u64 (hb (L6.cosF (L6.rad * r))), .int .u64 (lb (L6.cosF (L6.rad * r)))]) ∧ Below w.heap.size w w' := by
  have XL := X_lt r (by omega)
  have K0 := Lib.hid (fun (wx : World) (hb : Below w.heap.size w wx) => radians_any r (by omega) wx (H.keep hb))
  have K1 := Lib.hid (fun (wx : World) => times_any (L6.rad * r) (L6.rad * r) XL XL wx)
  have SL := pm_lt XL XL
  have K2 := Lib.hid (fun (wx : World) (hb : Below w.heap.size w wx) => series_0_26 (L6.pm (L6.rad * r) (L6.rad * r)) SL wx (H.keep hb))
  have PL := serF_lt 0 (L6.pm (L6.rad * r) (L6.rad * r)) 13
  have K3 := Lib.hid (fun (wx : World) => times_any (L6.pm (L6.rad * r) (L6.rad * r)) (L6.serF 0 (L6.pm (L6.rad * r) (L6.rad * r)) 13) SL PL wx)
  have TL := pm_lt SL PL
  have TP := cosF_pos r h1 (by omega)
  have K5 := Lib.hid (fun (wx : World) => minus_zero (L6.pm (L6.pm (L6.rad * r) (L6.rad * r)) (L6.serF 0 (L6.pm (L6.rad * r) (L6.rad * r)) 13)) TP TL wx)
  change Hid (∀ wx, Calls _ _ _ wx fun e w' => e = .returned (.agg #[.int .u64 (hb (L6.cosF (L6.rad * r))), .int .u64 (lb (L6.cosF (L6.rad * r)))]) ∧ _) at K5
  generalize hb (L6.cosF (L6.rad * r)) = r0 at *
  generalize lb (L6.cosF (L6.rad * r)) = r1 at *
  generalize hb (L6.pm (L6.pm (L6.rad * r) (L6.rad * r)) (L6.serF 0 (L6.pm (L6.rad * r) (L6.rad * r)) 13)) = t0 at *
  generalize lb (L6.pm (L6.pm (L6.rad * r) (L6.rad * r)) (L6.serF 0 (L6.pm (L6.rad * r) (L6.rad * r)) 13)) = t1 at *
  generalize hb (L6.serF 0 (L6.pm (L6.rad * r) (L6.rad * r)) 13) = p0 at *
  generalize lb (L6.serF 0 (L6.pm (L6.rad * r) (L6.rad * r)) 13) = p1 at *
  generalize hb (L6.pm (L6.rad * r) (L6.rad * r)) = s0 at *
  generalize lb (L6.pm (L6.rad * r) (L6.rad * r)) = s1 at *
  generalize hb (L6.rad * r) = x0 at *
  generalize lb (L6.rad * r) = x1 at *
  clear XL SL PL TL TP H
  have n1 : (2700000 : Int) < n := by omega
  have n0 : n ≤ 5400000 := by omega
  have R := At2.new w (.int .u64 0) (.int .u64 0) 100
  have HB := Lib.hid (below1 w (.cells #[.int .u64 0, .int .u64 0] 100))
  go_enter Tryd.func65, Tryd.ntmps65
  go_wp2_with fail
  refine (K0.out _ HB.out).mono ?_
  rintro e w1 ⟨rfl, hb⟩
  have R := R.keep hb
  have HB := Lib.hid (bstep HB.out hb)
  clear hb
  have gX := R.lt
  have R := R.alloc (.cells #[.int .u64 x0, .int .u64 x1] 100)
  have X := At2.new w1 (.int .u64 x0) (.int .u64 x1) 100
  have HB := Lib.hid (bstep HB.out (below1 w1 (.cells #[.int .u64 x0, .int .u64 x1] 100)))
  obtain ⟨X0, X1, -, -, -⟩ := id X
  go_wp2_with fail
  refine (K1.out _).mono ?_
  rintro e w2 ⟨rfl, hb⟩
  have R := R.keep hb
  have X := X.keep hb
  have HB := Lib.hid (bstep HB.out hb)
  clear hb X0 X1
  have gS := R.lt
  have R := R.alloc (.cells #[.int .u64 s0, .int .u64 s1] 100)
  have X := X.alloc (.cells #[.int .u64 s0, .int .u64 s1] 100)
  have S := At2.new w2 (.int .u64 s0) (.int .u64 s1) 100
  have HB := Lib.hid (bstep HB.out (below1 w2 (.cells #[.int .u64 s0, .int .u64 s1] 100)))
  obtain ⟨X0, X1, -, -, -⟩ := id X
  obtain ⟨S0, S1, -, -, -⟩ := id S
  obtain ⟨R0, R1, R2, R3, -⟩ := id R
  have zS : ¬ w.heap.size = w2.heap.size := by omega
  have yS : ¬ w2.heap.size = w.heap.size := by omega
  clear gX gS
  go_upto_region 4 with fail
  generalize w1.heap.size = bx at *
  generalize w2.heap.size = bs at *
  go_region_held3 (fun w' => w'.cell? ⟨bs, 0, none⟩ = some (.int .u64 s0) ∧ w'.cell? ⟨bs, 1, none⟩ = some (.int .u64 s1)) (go_keep)
    (first
    | (go_at_call 94; ((with_reducible refine (K2.out _ (by first | exact HB.out | exact HB.out.drew)).mono ?_)); rintro e v ⟨rfl, hb⟩; (try (replace hb := bdrew hb)); clear R0 R1 R2 R3 X0 X1 S0 S1; have R := R.keep hb; have X := X.keep hb; have S := S.keep hb; have HB := Lib.hid (bstep HB.out hb); obtain ⟨R0, R1, R2, R3, -⟩ := id R; obtain ⟨X0, X1, -, -, -⟩ := id X; obtain ⟨S0, S1, -, -, -⟩ := id S; clear hb)
    | (go_at_call 92; ((with_reducible refine (K3.out _).mono ?_)); rintro e v ⟨rfl, hb⟩; (try (replace hb := bdrew hb)); clear R0 R1 R2 R3 X0 X1 S0 S1; have R := R.keep hb; have X := X.keep hb; have S := S.keep hb; have HB := Lib.hid (bstep HB.out hb); obtain ⟨R0, R1, R2, R3, -⟩ := id R; obtain ⟨X0, X1, -, -, -⟩ := id X; obtain ⟨S0, S1, -, -, -⟩ := id S; clear hb)
    | (go_at_call 93; ((with_reducible refine (K5.out _).mono ?_)); rintro e v ⟨rfl, hb⟩; (try (replace hb := bdrew hb)); clear R0 R1 R2 R3 X0 X1 S0 S1; have R := R.keep hb; have X := X.keep hb; have S := S.keep hb; have HB := Lib.hid (bstep HB.out hb); obtain ⟨R0, R1, R2, R3, -⟩ := id R; obtain ⟨X0, X1, -, -, -⟩ := id X; obtain ⟨S0, S1, -, -, -⟩ := id S; clear hb))
  obtain ⟨z0, z1⟩ := set2 R0 R1 (.int .u64 r0) (.int .u64 r1)
  go_wp2_with fail
  refine bodyPost_ret (v := .agg #[.int .u64 r0, .int .u64 r1]) (by simp [results, Tryd.results65, go_sem, z0, z1]) rfl ⟨rfl, ?_⟩
  exact below_set2 HB.out (Nat.le_refl _) _ _

theorem irF_any (m : Int) (h0 : 0 < m) (h1 : m < 5400000) (w : World) (H : Held w) :
    Calls Tryd.prog 65 #[.int .i64 m, .int .i64 26] w fun e w' => e = .returned (.agg #[.int .u64 (hb (L6.irF m.toNat)), .int .u64 (lb (L6.irF m.toNat))]) ∧ Below w.heap.size w w' := by
  unfold L6.irF
  by_cases c : 2700000 < m.toNat
  · rw [if_pos c]
    exact irF_cos m (5400000 - m.toNat) (by omega) (by omega) (by omega) w H
  · rw [if_neg c]
    have k := irF_sin m.toNat m.toNat rfl (by omega) w H
    rwa [show ((m.toNat : Nat) : Int) = m by omega] at k
theorem irF_lt (m : Nat) (h : m ≤ 5400000) : L6.irF m < 340282366920938463463374607431768211456 ∨ 5400000 ≤ m := by
  unfold L6.irF
  by_cases c : 2700000 < m
  · rw [if_pos c]
    by_cases k : 5400000 ≤ m
    · exact .inr k
    · have := cosF_pos (5400000 - m) (by omega) (by omega)
      refine .inl ?_
      unfold L6.cosF
      omega
  · rw [if_neg c]
    refine .inl ?_
    have := X_lt m (by omega)
    unfold L6.sinF
    omega
end Go.Proofs.YtndcjldnnfhedaaDoor
