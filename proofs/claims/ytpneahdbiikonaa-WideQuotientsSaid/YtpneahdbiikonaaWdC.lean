/- Contracts of wide.Int and Cmp. -/
import Derived.Test.YtpneahdbiikonaaWdB
import Derived.Deep.RegionHeld3
namespace Go.Proofs.Ytpneahdbiikonaa
open Go.RowKit
set_option linter.unusedVariables false

/-- an equality of two wide integers, as the walk asks it -/
theorem int_ok (h l : Int) (w : World) (hk : wok h l = true) (hi : isI (wv h l) = true) :
    Calls Try.prog 18 #[.agg #[.int .i64 h, .int .i64 l]] w fun e w' => e = .returned (.tuple #[.int .i64 (wv h l), .int .i64 0]) ∧ Below w.heap.size w w' := by
  have C1 := Lib.hid (fun wx => valid_is h l true hk wx)
  obtain ⟨p1, p2⟩ := parts_wv h l hk
  have hi := (isI_iff _).1 hi
  have C2 := Lib.hid (fun wx => of_any (wv h l) wx hi.1 hi.2)
  rw [p1, p2] at C2
  have hk := (wok_iff _ _).1 hk
  have O := or60 h l hk.2.2.1 hk.2.2.2
  rw [show wrap64 (wv h l) = wv h l from IntWalk.wrap64_in _ hi] at O
  obtain ⟨n, hn⟩ : ∃ n, n = wv h l := ⟨_, rfl⟩
  rw [← hn] at C2 O ⊢
  clear hn p1 p2 hi hk
  go_enter Try.func18, Try.ntmps18
  go_wp2_with fail
  refine (C1.out _).mono ?_
  rintro e w1 ⟨rfl, hb1⟩
  have A1 := (At2.new w (.int .i64 h) (.int .i64 l) 23).keep hb1
  have HB := Lib.hid (bstep (below1 w _) hb1)
  clear hb1
  obtain ⟨c0, c1, f0, f1, hz⟩ := id A1
  go_wp2_with fail
  go_region_held3 (fun w' => w'.cell? ⟨w.heap.size, 0, none⟩ = some (.int .i64 h) ∧ w'.cell? ⟨w.heap.size, 1, none⟩ = some (.int .i64 l)) (first | go_keep | exact ⟨(A1.keep (bdrew hb2)).c0, (A1.keep (bdrew hb2)).c1⟩) (first | (go_at_call 17; refine (C2.out _).mono ?_; rintro e w2 ⟨rfl, hb2⟩))
  have HB2 := Lib.hid (bstep HB.out (bdrew hb2))
  clear hb2
  go_wp2_with fail
  go_ret2
  exact ⟨rfl, HB2.out⟩

theorem int_big (h l : Int) (w : World) (hk : wok h l = true) (hi : isI (wv h l) = false) :
    Calls Try.prog 18 #[.agg #[.int .i64 h, .int .i64 l]] w fun e w' => e = .returned (.tuple #[.int .i64 0, .int .i64 5]) ∧ Below w.heap.size w w' := by
  have C1 := Lib.hid (fun wx => valid_is h l true hk wx)
  obtain ⟨p1, p2⟩ := parts_wv h l hk
  have hi := (isI_not _).1 hi
  have hk2 := (wok_iff _ _).1 hk
  have O := or60 h l hk2.2.2.1 hk2.2.2.2
  obtain ⟨n, hn⟩ : ∃ n, n = wrap64 (wv h l) := ⟨_, rfl⟩
  have hn1 : -9223372036854775808 ≤ n ∧ n ≤ 9223372036854775807 := by rw [hn]; unfold wrap64; omega
  have C2 := Lib.hid (fun wx => of_any n wx hn1.1 hn1.2)
  have hne : ¬ (wh n = h ∧ wl n = l) := by
    intro ⟨e1, e2⟩
    have : wv h l = n := by rw [← e1, ← e2, wv_parts]
    omega
  rw [← hn] at O
  obtain ⟨x, hx⟩ : ∃ x, x = wh n := ⟨_, rfl⟩
  obtain ⟨y, hy⟩ : ∃ y, y = wl n := ⟨_, rfl⟩
  rw [← hx, ← hy] at C2 hne
  clear hn p1 p2 hi hk2 hn1 hx hy
  by_cases e1 : x = h
  · obtain rfl : x = h := e1
    have e2 : ¬ y = l := fun e => hne ⟨rfl, e⟩
    have t1 : (y == l) = false := beq_eq_false_iff_ne.2 e2
    have t2 : (y != l) = true := by simp [e2]
    clear e2 hne
    go_enter Try.func18, Try.ntmps18
    go_wp2_with fail
    refine (C1.out _).mono ?_
    rintro e w1 ⟨rfl, hb1⟩
    have A1 := (At2.new w (.int .i64 x) (.int .i64 l) 23).keep hb1
    have HB := Lib.hid (bstep (below1 w _) hb1)
    clear hb1
    obtain ⟨c0, c1, f0, f1, hz⟩ := id A1
    go_wp2_with fail
    go_region_held3 (fun w' => w'.cell? ⟨w.heap.size, 0, none⟩ = some (.int .i64 x) ∧ w'.cell? ⟨w.heap.size, 1, none⟩ = some (.int .i64 l)) (first | go_keep | exact ⟨(A1.keep (bdrew hb2)).c0, (A1.keep (bdrew hb2)).c1⟩) (first | (go_at_call 17; refine (C2.out _).mono ?_; rintro e w2 ⟨rfl, hb2⟩))
    have HB2 := Lib.hid (bstep HB.out (bdrew hb2))
    clear hb2
    go_wp2_with fail
    go_ret2
    exact ⟨rfl, HB2.out⟩
  · have t1 : (x == h) = false := beq_eq_false_iff_ne.2 e1
    have t2 : (x != h) = true := by simp [e1]
    clear e1 hne
    go_enter Try.func18, Try.ntmps18
    go_wp2_with fail
    refine (C1.out _).mono ?_
    rintro e w1 ⟨rfl, hb1⟩
    have A1 := (At2.new w (.int .i64 h) (.int .i64 l) 23).keep hb1
    have HB := Lib.hid (bstep (below1 w _) hb1)
    clear hb1
    obtain ⟨c0, c1, f0, f1, hz⟩ := id A1
    go_wp2_with fail
    go_region_held3 (fun w' => w'.cell? ⟨w.heap.size, 0, none⟩ = some (.int .i64 h) ∧ w'.cell? ⟨w.heap.size, 1, none⟩ = some (.int .i64 l)) (first | go_keep | exact ⟨(A1.keep (bdrew hb2)).c0, (A1.keep (bdrew hb2)).c1⟩) (first | (go_at_call 17; refine (C2.out _).mono ?_; rintro e w2 ⟨rfl, hb2⟩))
    have HB2 := Lib.hid (bstep HB.out (bdrew hb2))
    clear hb2
    go_wp2_with fail
    go_ret2
    exact ⟨rfl, HB2.out⟩

theorem int_bad (h l : Int) (w : World) (hk : wok h l = false) :
    Calls Try.prog 18 #[.agg #[.int .i64 h, .int .i64 l]] w fun e w' => e = .returned (.tuple #[.int .i64 0, .int .i64 1]) ∧ Below w.heap.size w w' := by
  have C1 := Lib.hid (fun wx => valid_is h l false hk wx)
  go_enter Try.func18, Try.ntmps18
  go_wp2_with fail
  refine (C1.out _).mono ?_
  rintro e w1 ⟨rfl, hb1⟩
  have HB := Lib.hid (bstep (below1 w _) hb1)
  clear hb1
  go_wp2_with fail
  go_ret2
  exact ⟨rfl, HB.out⟩

/-- what cmp.Compare and cmp.Or answer -/
def cmpI (a b : Int) : Int := if a < b then -1 else if b < a then 1 else 0
def orV (x y : Int) : Int := if x = 0 then y else x

theorem compare_any (a b : Int) (w : World) :
    Calls Try.prog 39 #[.int .i64 a, .int .i64 b] w fun e w' => e = .returned (.int .i64 (cmpI a b)) ∧ w = w' := by
  have R : Hid (cmpI a b = if a < b then -1 else if b < a then 1 else 0) := by show cmpI a b = _; rfl
  have CN : Hid (∀ (n : Int) (wx : World), Calls Try.prog 53 #[.int .i64 n] wx fun e w' => e = .returned (.bool false) ∧ wx = w') := by
    intro n wx
    have t : (n != n) = false := by simp
    go_enter Try.func53, Try.ntmps53
    go_wp2
    go_ret
    exact ⟨by simp, rfl⟩
  by_cases h : a < b
  · go_enter Try.func39, Try.ntmps39
    go_wp2_with (go_at_call 53; refine (CN.out _ _).mono ?_; rintro e w' ⟨rfl, rfl⟩)
    go_ret
    exact ⟨ret_int (by rw [R.out]; split <;> first | rfl | omega | (split <;> first | rfl | omega)), rfl⟩
  · by_cases h2 : b < a
    · go_enter Try.func39, Try.ntmps39
      go_wp2_with (go_at_call 53; refine (CN.out _ _).mono ?_; rintro e w' ⟨rfl, rfl⟩)
      go_ret
      exact ⟨ret_int (by rw [R.out]; split <;> first | rfl | omega | (split <;> first | rfl | omega)), rfl⟩
    · go_enter Try.func39, Try.ntmps39
      go_wp2_with (go_at_call 53; refine (CN.out _ _).mono ?_; rintro e w' ⟨rfl, rfl⟩)
      go_ret
      exact ⟨ret_int (by rw [R.out]; split <;> first | rfl | omega | (split <;> first | rfl | omega)), rfl⟩

/-- cmp.Or of two numbers -/
theorem or_any (b : Nat) (x y : Int) (w : World) (A : At2 w b (.int .i64 x) (.int .i64 y)) :
    Calls Try.prog 38 #[.slice (some ⟨b, 0, none⟩) 2 2] w fun e w' => e = .returned (.int .i64 (orV x y)) ∧ Below w.heap.size w w' := by
  obtain ⟨c0, c1, f0, f1, hz⟩ := A
  by_cases h : x = 0
  · subst h
    have R : Hid (orV 0 y = y) := by show orV 0 y = y; rfl
    by_cases h2 : y = 0
    · subst h2
      go_enter Try.func38, Try.ntmps38
      go_wp2_with fail
      go_loop [8] (fun i => ∃ k : Nat, k ≤ 2 ∧ i = .int .i64 (k : Int)) (fun i => 2 - (intOf i).toNat)
      case atStart => exact ⟨0, by omega, rfl⟩
      case round =>
        obtain ⟨k, hk, rfl⟩ := hrel
        rcases (show k = 0 ∨ k = 1 ∨ k = 2 by omega) with rfl | rfl | rfl
        · go_wp2_with fail
          go_round
          case rel => exact ⟨1, by omega, by go_num⟩
          case measure => simp [intOf]
        · go_wp2_with fail
          go_round
          case rel => exact ⟨2, by omega, by go_num⟩
          case measure => simp [intOf]
        · go_wp2_with fail
          go_ret
          exact ⟨ret_int (by rw [R.out]), Below.refl _ _⟩
    · have t1 : (y != 0) = true := by simp [h2]
      clear h2
      go_enter Try.func38, Try.ntmps38
      go_wp2_with fail
      go_loop [8] (fun i => ∃ k : Nat, k ≤ 1 ∧ i = .int .i64 (k : Int)) (fun i => 2 - (intOf i).toNat)
      case atStart => exact ⟨0, by omega, rfl⟩
      case round =>
        obtain ⟨k, hk, rfl⟩ := hrel
        rcases (show k = 0 ∨ k = 1 by omega) with rfl | rfl
        · go_wp2_with fail
          go_round
          case rel => exact ⟨1, by omega, by go_num⟩
          case measure => simp [intOf]
        · go_wp2_with fail
          go_ret
          exact ⟨ret_int (by rw [R.out]), Below.refl _ _⟩
  · have t1 : (x != 0) = true := by simp [h]
    have R : Hid (orV x y = x) := by show orV x y = x; unfold orV; rw [if_neg h]
    clear h
    go_enter Try.func38, Try.ntmps38
    go_wp2_with fail
    go_loop [8] (fun i => i = .int .i64 0) (fun i => 2 - (intOf i).toNat)
    case atStart => rfl
    case round =>
      obtain rfl := hrel
      go_wp2_with fail
      go_ret
      exact ⟨ret_int (by rw [R.out]), Below.refl _ _⟩

theorem At2.newdrew (w : World) (x y : Value) (T : Nat) : At2 (w.alloc (.cells #[x, y] T)).drew w.heap.size x y := (At2.new w x y T).keep (Below.refl _ _).drew

theorem cmp_ok (h l h' l' : Int) (w : World) (hk : wok h l = true) (hk' : wok h' l' = true) :
    Calls Try.prog 23 #[.agg #[.int .i64 h, .int .i64 l], .agg #[.int .i64 h', .int .i64 l']] w fun e w' => e = .returned (.tuple #[.int .i64 (wcmp h l h' l'), .int .i64 0]) ∧ Below w.heap.size w w' := by
  have C1 := Lib.hid (fun wx => valid_is h l true hk wx)
  have C2 := Lib.hid (fun wx => valid_is h' l' true hk' wx)
  have D : Hid (wcmp h l h' l' = orV (cmpI h h') (cmpI l l')) := by
    show _ = _
    unfold wcmp orV cmpI
    by_cases a : h < h'
    · simp [a]
    · by_cases b : h' < h
      · simp [a, b]
      · simp [a, b]
  rw [D.out]
  clear hk hk' D
  go_enter Try.func23, Try.ntmps23
  go_wp2_with fail
  refine (C1.out _).mono ?_
  rintro e w1 ⟨rfl, hb1⟩
  obtain ⟨A0, B0⟩ := At2.two w (.int .i64 h) (.int .i64 l) (.int .i64 h') (.int .i64 l') 23 23
  have A1 := A0.keep hb1
  have B1 := B0.keep hb1
  have HB := Lib.hid (bstep (below2 w _ _) hb1)
  clear hb1 A0 B0
  obtain ⟨p0, p1, _, _, _⟩ := id B1
  go_wp2_with fail
  refine (C2.out _).mono ?_
  rintro e w2 ⟨rfl, hb2⟩
  clear p0 p1
  have A2 := A1.keep hb2
  have B2 := B1.keep hb2
  have HB2 := Lib.hid (bstep HB.out hb2)
  clear hb2 A1 B1 HB
  obtain ⟨p0, p1, _, _, _⟩ := id A2
  obtain ⟨q0, q1, _, _, _⟩ := id B2
  go_wp2_with fail
  go_region_held3 (fun w' => w'.cell? ⟨w.heap.size, 0, none⟩ = some (.int .i64 h) ∧ w'.cell? ⟨w.heap.size, 1, none⟩ = some (.int .i64 l) ∧ w'.cell? ⟨w.heap.size + 1, 0, none⟩ = some (.int .i64 h') ∧ w'.cell? ⟨w.heap.size + 1, 1, none⟩ = some (.int .i64 l')) (first | go_keep | exact ⟨(A2.keep (bstep (below1 w2 _).drew hb3)).c0, (A2.keep (bstep (below1 w2 _).drew hb3)).c1, (B2.keep (bstep (below1 w2 _).drew hb3)).c0, (B2.keep (bstep (below1 w2 _).drew hb3)).c1⟩) (first | (go_at_call 39; refine (compare_any _ _ _).mono ?_; rintro e w' ⟨rfl, rfl⟩) | (go_at_call 38; refine (or_any _ _ _ _ (At2.newdrew _ _ _ _)).mono ?_; rintro e w3 ⟨rfl, hb3⟩))
  have HB3 := Lib.hid (bstep HB2.out (bstep (below1 w2 _).drew hb3))
  clear hb3
  go_wp2_with fail
  go_ret2
  exact ⟨rfl, HB3.out⟩

theorem cmp_bad1 (h l h' l' : Int) (w : World) (hk : wok h l = false) :
    Calls Try.prog 23 #[.agg #[.int .i64 h, .int .i64 l], .agg #[.int .i64 h', .int .i64 l']] w fun e w' => e = .returned (.tuple #[.int .i64 0, .int .i64 1]) ∧ Below w.heap.size w w' := by
  have C1 := Lib.hid (fun wx => valid_is h l false hk wx)
  clear hk
  go_enter Try.func23, Try.ntmps23
  go_wp2_with fail
  refine (C1.out _).mono ?_
  rintro e w1 ⟨rfl, hb1⟩
  have HB := Lib.hid (bstep (below2 w _ _) hb1)
  clear hb1
  go_wp2_with fail
  go_ret2
  exact ⟨rfl, HB.out⟩

theorem cmp_bad2 (h l h' l' : Int) (w : World) (hk : wok h l = true) (hk' : wok h' l' = false) :
    Calls Try.prog 23 #[.agg #[.int .i64 h, .int .i64 l], .agg #[.int .i64 h', .int .i64 l']] w fun e w' => e = .returned (.tuple #[.int .i64 0, .int .i64 1]) ∧ Below w.heap.size w w' := by
  have C1 := Lib.hid (fun wx => valid_is h l true hk wx)
  have C2 := Lib.hid (fun wx => valid_is h' l' false hk' wx)
  clear hk hk'
  go_enter Try.func23, Try.ntmps23
  go_wp2_with fail
  refine (C1.out _).mono ?_
  rintro e w1 ⟨rfl, hb1⟩
  obtain ⟨A0, B0⟩ := At2.two w (.int .i64 h) (.int .i64 l) (.int .i64 h') (.int .i64 l') 23 23
  have B1 := B0.keep hb1
  have HB := Lib.hid (bstep (below2 w _ _) hb1)
  clear hb1 A0 B0
  obtain ⟨p0, p1, _, _, _⟩ := B1
  go_wp2_with fail
  refine (C2.out _).mono ?_
  rintro e w2 ⟨rfl, hb2⟩
  have HB2 := Lib.hid (bstep HB.out hb2)
  clear hb2 HB
  go_wp2_with fail
  go_ret2
  exact ⟨rfl, HB2.out⟩
end Go.Proofs.Ytpneahdbiikonaa
