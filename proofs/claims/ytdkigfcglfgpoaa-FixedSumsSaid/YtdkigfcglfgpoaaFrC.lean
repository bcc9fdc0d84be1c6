/- fixed: contracts of the program's divided: a product by a divisor, rounded down and up. -/
import Derived.Test.YtdkigfcglfgpoaaFrA
import Derived.Test.YtdkigfcglfgpoaaWdP
namespace Go.Proofs.Ytdkigfcglfgpoaa
open Go.RowKit
set_option linter.unusedVariables false

/-- three cells lie in block b -/
structure At3 (w : World) (b : Nat) (x y z : Value) : Prop where
  c0 : w.cell? ⟨b, 0, none⟩ = some x
  c1 : w.cell? ⟨b, 1, none⟩ = some y
  c2 : w.cell? ⟨b, 2, none⟩ = some z
theorem At3.new (w : World) (x y z : Value) (T : Nat) : At3 (w.alloc (.cells #[x, y, z] T)) w.heap.size x y z := by
  refine ⟨?_, ?_, ?_⟩
  · rw [World.cell?_alloc_new]; rfl
  · rw [World.cell?_alloc_new]; rfl
  · rw [World.cell?_alloc_new]; rfl
/-- the first number other than 0 -/
def orE (x y : Int) : Int := if x = 0 then y else x

/-- cmp.Or of three numbers, of which the first is 0 -/
theorem pOr (b : Nat) (x y : Int) (w : World) (A : At3 w b (.int .i64 0) (.int .i64 x) (.int .i64 y)) :
    Calls Try.prog 67 #[.slice (some ⟨b, 0, none⟩) 3 3] w fun e w' => e = .returned (.int .i64 (orE x y)) ∧ Below w.heap.size w w' := by
  obtain ⟨c0, c1, c2⟩ := A
  by_cases h : x = 0
  · subst h
    have R : Hid (orE 0 y = y) := by show orE 0 y = y; rfl
    by_cases h2 : y = 0
    · subst h2
      go_enter Try.func67, Try.ntmps67
      go_wp2_with fail
      go_loop [8] (fun i => ∃ k : Nat, k ≤ 3 ∧ i = .int .i64 (k : Int)) (fun i => 3 - (intOf i).toNat)
      case atStart => exact ⟨0, by omega, rfl⟩
      case round =>
        obtain ⟨k, hk, rfl⟩ := hrel
        rcases (show k = 0 ∨ k = 1 ∨ k = 2 ∨ k = 3 by omega) with rfl | rfl | rfl | rfl
        · go_wp2_with fail
          go_round
          case rel => exact ⟨1, by omega, by go_num⟩
          case measure => simp [intOf]
        · go_wp2_with fail
          go_round
          case rel => exact ⟨2, by omega, by go_num⟩
          case measure => simp [intOf]
        · go_wp2_with fail
          go_round
          case rel => exact ⟨3, by omega, by go_num⟩
          case measure => simp [intOf]
        · go_wp2_with fail
          go_ret
          exact ⟨ret_int (by rw [R.out]), Below.refl _ _⟩
    · have t1 : (y != 0) = true := by simp [h2]
      clear h2
      go_enter Try.func67, Try.ntmps67
      go_wp2_with fail
      go_loop [8] (fun i => ∃ k : Nat, k ≤ 2 ∧ i = .int .i64 (k : Int)) (fun i => 3 - (intOf i).toNat)
      case atStart => exact ⟨0, by omega, rfl⟩
      case round =>
        obtain ⟨k, hk, rfl⟩ := hrel
        rcases (show k = 0 ∨ k = 1 ∨ k = 2 by omega) with rfl | rfl | rfl
        · go_wp2_with fail
          go_round
          case rel => exact ⟨1, by omega, by go_num⟩
          case measure => simp [intOf]
        · go_wp2_with fail
          go_round
          case rel => exact ⟨2, by omega, by go_num⟩
          case measure => simp [intOf]
        · go_wp2_with fail
          go_ret
          exact ⟨ret_int (by rw [R.out]), Below.refl _ _⟩
  · have t1 : (x != 0) = true := by simp [h]
    have R : Hid (orE x y = x) := by show orE x y = x; unfold orE; rw [if_neg h]
    clear h
    go_enter Try.func67, Try.ntmps67
    go_wp2_with fail
    go_loop [8] (fun i => ∃ k : Nat, k ≤ 1 ∧ i = .int .i64 (k : Int)) (fun i => 3 - (intOf i).toNat)
    case atStart => exact ⟨0, by omega, rfl⟩
    case round =>
      obtain ⟨k, hk, rfl⟩ := hrel
      rcases (show k = 0 ∨ k = 1 by omega) with rfl | rfl
      · go_wp2_with fail
        go_round
        case rel => exact ⟨1, by omega, by go_num⟩
        case measure => simp [intOf]
      · go_wp2_with fail
        go_ret
        exact ⟨ret_int (by rw [R.out]), Below.refl _ _⟩

/-- divided, given what its callees answer -/
theorem pDivG (a b d H L x ex y ey : Int) (w : World)
    (P : ∀ wx, Calls Try.prog 64 #[.int .i64 a, .int .i64 b] wx fun e w' => e = .returned (.tuple #[.agg #[.int .i64 H, .int .i64 L], .int .i64 0]) ∧ Below wx.heap.size wx w')
    (F : ∀ wx, Calls Try.prog 65 #[.agg #[.int .i64 H, .int .i64 L], .int .i64 d] wx fun e w' => e = .returned (.tuple #[.int .i64 x, .int .i64 ex]) ∧ Below wx.heap.size wx w')
    (C : ∀ wx, Calls Try.prog 66 #[.agg #[.int .i64 H, .int .i64 L], .int .i64 d] wx fun e w' => e = .returned (.tuple #[.int .i64 y, .int .i64 ey]) ∧ Below wx.heap.size wx w') :
    Calls Try.prog 45 #[.int .i64 a, .int .i64 b, .int .i64 d] w fun e w' => e = .returned (.tuple #[.int .i64 (if orE ex ey = 0 then x else 0), .int .i64 (if orE ex ey = 0 then y else 0), .int .i64 (orE ex ey)]) ∧ Below w.heap.size w w' := by
  have P := Lib.hid P
  have F := Lib.hid F
  have C := Lib.hid C
  have O := Lib.hid (fun (wx : World) (bx : Nat) (hx : At3 wx bx (.int .i64 0) (.int .i64 ex) (.int .i64 ey)) => pOr bx ex ey wx hx)
  generalize orE ex ey = r at *
  obtain ⟨u1, e1⟩ : ∃ u, u = (if r = 0 then x else 0) := ⟨_, rfl⟩
  obtain ⟨u2, e2⟩ : ∃ u, u = (if r = 0 then y else 0) := ⟨_, rfl⟩
  rw [← e1, ← e2]
  have E1 := Lib.hid e1
  have E2 := Lib.hid e2
  clear e1 e2
  go_enter Try.func45, Try.ntmps45
  go_wp2_with fail
  refine (P.out _).mono ?_
  rintro e w1 ⟨rfl, hb⟩
  have A := At2.new w1 (.int .i64 H) (.int .i64 L) 67
  have HB := Lib.hid (hb.alloc hb.size (.cells #[.int .i64 H, .int .i64 L] 67))
  clear hb
  obtain ⟨a0, a1, af0, af1, alt⟩ := id A
  go_wp2_with fail
  refine (F.out _).mono ?_
  rintro e w2 ⟨rfl, hb⟩
  clear a0 a1 af0 af1 alt
  have A := A.keep hb
  have HB := Lib.hid (bstep HB.out hb)
  clear hb
  obtain ⟨a0, a1, af0, af1, alt⟩ := id A
  go_wp2_with fail
  refine (C.out _).mono ?_
  rintro e w3 ⟨rfl, hb⟩
  have HB := Lib.hid (bstep HB.out hb)
  clear hb A a0 a1 af0 af1 alt
  go_wp2_with fail
  refine (O.out _ _ (At3.new _ _ _ _ _)).mono ?_
  rintro e w4 ⟨rfl, hb⟩
  have HB := Lib.hid (bstep (HB.out.alloc HB.out.size _) hb)
  clear hb
  by_cases hr : r = 0
  · have e1 := Lib.hid (E1.out.trans (if_pos hr))
    have e2 := Lib.hid (E2.out.trans (if_pos hr))
    clear E1 E2
    subst hr
    go_wp2_with fail
    refine bodyPost_ret (v := .tuple #[.int .i64 x, .int .i64 y, .int .i64 0]) (by simp [results, Try.results45, go_sem]) rfl ⟨by rw [e1.out, e2.out], HB.out⟩
  · have t0 : (r != 0) = true := by simp [hr]
    have e1 := Lib.hid (E1.out.trans (if_neg hr))
    have e2 := Lib.hid (E2.out.trans (if_neg hr))
    clear E1 E2
    clear hr
    go_wp2_with fail
    refine bodyPost_ret (v := .tuple #[.int .i64 0, .int .i64 0, .int .i64 r]) (by simp [results, Try.results45, go_sem]) rfl ⟨by rw [e1.out, e2.out], HB.out⟩

/-- what divided answers: the quotients, if they are ints -/
def dvO (N d : Int) : Prop := (-9223372036854775808 ≤ wd.qdn N d ∧ wd.qdn N d ≤ 9223372036854775807) ∧ (-9223372036854775808 ≤ wd.qup N d ∧ wd.qup N d ≤ 9223372036854775807)
open Classical in
noncomputable def dvE (N d : Int) : Int := if dvO N d then 0 else 5
open Classical in
noncomputable def dvL (N d : Int) : Int := if dvO N d then wd.qdn N d else 0
open Classical in
noncomputable def dvH (N d : Int) : Int := if dvO N d then wd.qup N d else 0
theorem pDvd (a b d : Int) (w : World) (a1 : -9223372036854775808 ≤ a) (a2 : a ≤ 9223372036854775807) (b1 : -1099511627776 ≤ b) (b2 : b ≤ 1099511627776) (d1 : -9223372036854775808 ≤ d) (d2 : d ≤ 9223372036854775807) (d0 : d ≠ 0) :
    Calls Try.prog 45 #[.int .i64 a, .int .i64 b, .int .i64 d] w fun e w' => e = .returned (.tuple #[.int .i64 (dvL (a * b) d), .int .i64 (dvH (a * b) d), .int .i64 (dvE (a * b) d)]) ∧ Below w.heap.size w w' := by
  have pb := mul_abs (a := a) (b := b) (A := 9223372036854775808) (B := 1099511627776) (by omega) (by omega) (by omega) (by omega)
  have P := fun wx => wd.product_any a b wx a1 a2 (by omega) (by omega)
  obtain ⟨N, hN⟩ : ∃ N, a * b = N := ⟨_, rfl⟩
  rw [hN] at P pb ⊢
  have hf : wd.wfit N = true := (wd.wfit_iff _).2 (by unfold wd.wh; omega)
  have e0 : wd.fitE N = 0 := if_pos hf
  have e1 : wd.fitH N = wd.wh N := if_pos hf
  have e2 : wd.fitL N = wd.wl N := if_pos hf
  have hk : wd.wok (wd.wh N) (wd.wl N) = true := (wd.wok_parts N).trans hf
  have hv : wd.wv (wd.wh N) (wd.wl N) = N := wd.wv_parts N
  have f1 : wd.rqV (wd.wh N) (wd.wl N) d true = wd.qV (wd.qdn N d) := by unfold wd.rqV; rw [if_pos ⟨hk, d0⟩, hv]; rfl
  have f2 : wd.rqE (wd.wh N) (wd.wl N) d true = wd.qE (wd.qdn N d) := by unfold wd.rqE; rw [if_pos hk, if_neg d0, hv]; rfl
  have g1 : wd.rqV (wd.wh N) (wd.wl N) d false = wd.qV (wd.qup N d) := by unfold wd.rqV; rw [if_pos ⟨hk, d0⟩, hv]; rfl
  have g2 : wd.rqE (wd.wh N) (wd.wl N) d false = wd.qE (wd.qup N d) := by unfold wd.rqE; rw [if_pos hk, if_neg d0, hv]; rfl
  have F := fun wx => wd.floor_any (wd.wh N) (wd.wl N) d wx d1 d2
  have C := fun wx => wd.ceil_any (wd.wh N) (wd.wl N) d wx d1 d2
  rw [e0, e1, e2] at P
  rw [f1, f2] at F
  rw [g1, g2] at C
  have G := pDivG a b d _ _ _ _ _ _ w P F C
  have r0 : orE (wd.qE (wd.qdn N d)) (wd.qE (wd.qup N d)) = dvE N d := by
    unfold dvE dvO orE wd.qE
    rw [← wd.isI_iff, ← wd.isI_iff]
    cases wd.isI (wd.qdn N d) <;> cases wd.isI (wd.qup N d) <;> simp
  rw [r0] at G
  have r1 : (if dvE N d = 0 then wd.qV (wd.qdn N d) else 0) = dvL N d := by
    unfold dvE dvL dvO wd.qV
    rw [← wd.isI_iff, ← wd.isI_iff]
    cases wd.isI (wd.qdn N d) <;> cases wd.isI (wd.qup N d) <;> simp
  have r2 : (if dvE N d = 0 then wd.qV (wd.qup N d) else 0) = dvH N d := by
    unfold dvE dvH dvO wd.qV
    rw [← wd.isI_iff, ← wd.isI_iff]
    cases wd.isI (wd.qdn N d) <;> cases wd.isI (wd.qup N d) <;> simp
  rw [r1, r2] at G
  exact G
end Go.Proofs.Ytdkigfcglfgpoaa
