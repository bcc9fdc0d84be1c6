/- Calendar: blocks of three cells; the table of lengths; leap years, days of months, days before years, on both sides. -/
import Derived.Test.YtfknmceffkagaaaDoorAnU
import Derived.Test.YtfknmceffkagaaaDoorCaP
namespace Go.Proofs.YtfknmceffkagaaaDoor
open Go.RowKit
set_option linter.unusedVariables false
set_option maxRecDepth 100000

/-- a struct of three cells lies in block b -/
structure At3 (w : World) (b : Nat) (x y z : Value) : Prop where
  c0 : w.cell? ⟨b, 0, none⟩ = some x
  c1 : w.cell? ⟨b, 1, none⟩ = some y
  c2 : w.cell? ⟨b, 2, none⟩ = some z
  f0 : w.frozen? ⟨b, 0, none⟩ = false
  f1 : w.frozen? ⟨b, 1, none⟩ = false
  f2 : w.frozen? ⟨b, 2, none⟩ = false
  lt : b < w.heap.size
theorem At3.keep {w w1 : World} {b : Nat} {x y z : Value} (h : At3 w b x y z) (hb : Below w.heap.size w w1) : At3 w1 b x y z :=
  ⟨(hb.cell (p := ⟨b, 0, none⟩) h.lt).trans h.c0, (hb.cell (p := ⟨b, 1, none⟩) h.lt).trans h.c1, (hb.cell (p := ⟨b, 2, none⟩) h.lt).trans h.c2,
   (hb.frozen (p := ⟨b, 0, none⟩) h.lt).trans h.f0, (hb.frozen (p := ⟨b, 1, none⟩) h.lt).trans h.f1, (hb.frozen (p := ⟨b, 2, none⟩) h.lt).trans h.f2, Nat.lt_of_lt_of_le h.lt hb.size⟩
theorem At3.new (w : World) (x y z : Value) (T : Nat) : At3 (w.alloc (.cells #[x, y, z] T)) w.heap.size x y z := by
  refine ⟨?_, ?_, ?_, ?_, ?_, ?_, by simp⟩
  · rw [World.cell?_alloc_new]; rfl
  · rw [World.cell?_alloc_new]; rfl
  · rw [World.cell?_alloc_new]; rfl
  · go_simp
  · go_simp
  · go_simp
theorem At3.alloc {w : World} {b : Nat} {x y z : Value} (h : At3 w b x y z) (o : Obj) : At3 (w.alloc o) b x y z := h.keep ((Below.refl _ _).alloc (Nat.le_refl _) o)
theorem At3.drp {w : World} {b : Nat} {x y z : Value} (h : At3 w b x y z) : At3 w.drew b x y z := h.keep (Below.refl _ _).drew
theorem At3.bel {W : World} {b : Nat} {x y z : Value} (q : At3 W b x y z) : (∀ p : Bel W, p.w.cell? ⟨b, 0, none⟩ = some x) ∧ (∀ p : Bel W, p.w.cell? ⟨b, 1, none⟩ = some y) ∧ (∀ p : Bel W, p.w.cell? ⟨b, 2, none⟩ = some z) :=
  ⟨fun p => (q.keep p.h).c0, fun p => (q.keep p.h).c1, fun p => (q.keep p.h).c2⟩
/-- a block of three cells behind three stores -/
theorem At3.put {w : World} {b : Nat} {x y z : Value} (h : At3 w b x y z) (x' y' z' : Value) : At3 (((w.setCell ⟨b, 0, none⟩ x').setCell ⟨b, 1, none⟩ y').setCell ⟨b, 2, none⟩ z') b x' y' z' := by
  have o : ∀ (i j : Nat) (wx : World) (s : Value), i ≠ j → (wx.setCell ⟨b, j, none⟩ s).cell? ⟨b, i, none⟩ = wx.cell? ⟨b, i, none⟩ := fun i j wx s hij => World.cell?_setCell_other _ _ _ s (by simp; try omega)
  have f : ∀ (p q : Addr) (wx : World) (s : Value), (wx.setCell p s).frozen? q = wx.frozen? q := fun p q wx s => World.frozen?_setCell _ _ _ _
  have s0 := World.cell?_setCell_same w ⟨b, 0, none⟩ x' h.c0
  have s1 := World.cell?_setCell_same (w.setCell ⟨b, 0, none⟩ x') ⟨b, 1, none⟩ y' ((o 1 0 _ _ (by omega)).trans h.c1)
  have s2 := World.cell?_setCell_same ((w.setCell ⟨b, 0, none⟩ x').setCell ⟨b, 1, none⟩ y') ⟨b, 2, none⟩ z' ((o 2 1 _ _ (by omega)).trans ((o 2 0 _ _ (by omega)).trans h.c2))
  exact ⟨(o 0 2 _ _ (by omega)).trans ((o 0 1 _ _ (by omega)).trans s0), (o 1 2 _ _ (by omega)).trans s1, s2,
    by rw [f, f, f]; exact h.f0, by rw [f, f, f]; exact h.f1, by rw [f, f, f]; exact h.f2, by simpa [World.setCell] using h.lt⟩
theorem below_set3 {w w' : World} {n b : Nat} (h : Below n w w') (hn : n ≤ b) (x y z : Value) : Below n w (((w'.setCell ⟨b, 0, none⟩ x).setCell ⟨b, 1, none⟩ y).setCell ⟨b, 2, none⟩ z) := ((h.setCell hn x).setCell hn y).setCell hn z

/-- the table of the lengths of the months -/
structure HasLen (w : World) : Prop where
  row : ∀ i : Nat, i < 12 → w.cell? ⟨0, i, none⟩ = some (.int .i64 (dim false ((i : Int) + 1)))
theorem HasLen.below {w w' : World} (h : HasLen w) (hb : Below w.heap.size w w') : HasLen w' :=
  ⟨fun i hi => (hb.cell (p := ⟨0, i, none⟩) (World.block_lt_of_cell? _ _ (h.row i hi))).trans (h.row i hi)⟩

theorem toldS {f : Nat} {args : Array Value} {w : World} {r s : Int} (C : Calls Tryd.prog f args w fun e w' => e = .returned (.int .i64 r) ∧ w' = w) (h : r = s) :
    Calls Tryd.prog f args w fun e w' => e = .returned (.int .i64 s) ∧ w' = w := h ▸ C
theorem leap_any (y : Int) (w : World) :
    Calls Tryd.prog 13 #[.int .i64 y] w fun e w' => e = .returned (.bool (leapB y)) ∧ w' = w := by
  unfold leapB
  obtain ⟨p, hp⟩ : ∃ p, y.tmod 4 = p := ⟨_, rfl⟩
  obtain ⟨q, hq⟩ : ∃ p, y.tmod 100 = p := ⟨_, rfl⟩
  obtain ⟨r, hr⟩ : ∃ p, y.tmod 400 = p := ⟨_, rfl⟩
  rw [hp, hq, hr]
  rcases Bool.eq_false_or_eq_true (p == 0) with ha | ha <;> rcases Bool.eq_false_or_eq_true (q != 0) with hb | hb <;> rcases Bool.eq_false_or_eq_true (r == 0) with hc | hc
  all_goals
    rw [ha, hb, hc]
    go_enter Tryd.func13, Tryd.ntmps13
    go_wp2_with fail
    go_ret
    exact ⟨by first | rfl | exact ret_bool (by simp), rfl⟩
theorem rleap_any (y : Int) (w : World) :
    Calls Tryd.prog 14 #[.int .i64 y] w fun e w' => e = .returned (.bool (leapB y)) ∧ w' = w := by
  unfold leapB
  obtain ⟨p, hp⟩ : ∃ p, y.tmod 4 = p := ⟨_, rfl⟩
  obtain ⟨q, hq⟩ : ∃ p, y.tmod 100 = p := ⟨_, rfl⟩
  obtain ⟨r, hr⟩ : ∃ p, y.tmod 400 = p := ⟨_, rfl⟩
  rw [hp, hq, hr]
  rcases Bool.eq_false_or_eq_true (p == 0) with ha | ha <;> rcases Bool.eq_false_or_eq_true (q != 0) with hb | hb <;> rcases Bool.eq_false_or_eq_true (r == 0) with hc | hc
  all_goals
    rw [ha, hb, hc]
    go_enter Tryd.func14, Tryd.ntmps14
    go_wp2_with fail
    go_ret
    exact ⟨by first | rfl | exact ret_bool (by simp), rfl⟩
theorem dim_leap {l : Bool} {m : Int} (h : m = 2 ∧ l = true) : dim l m = dim false m + 1 := by obtain ⟨rfl, rfl⟩ := h; rfl
theorem dim_no {l : Bool} {m : Int} (h : ¬ (m = 2 ∧ l = true)) : dim l m = dim false m := by
  unfold dim
  by_cases h2 : m = 2
  · have : l = false := by cases l with
      | false => rfl
      | true => exact absurd ⟨h2, rfl⟩ h
    rw [this]
  · rw [if_neg h2, if_neg h2]
theorem length_any (y m : Int) (w : World) (H : HasLen w) (h1 : 1 ≤ m) (h2 : m ≤ 12) :
    Calls Tryd.prog 33 #[.int .i64 y, .int .i64 m] w fun e w' => e = .returned (.int .i64 (dim (leapB y) m)) ∧ w' = w := by
  obtain ⟨i, rfl⟩ : ∃ i : Nat, m = (i : Int) + 1 := ⟨(m - 1).toNat, by omega⟩
  have hc := H.row i (by omega)
  have C1 := Lib.hid (fun wx => leap_any y wx)
  have hi : (i : Int) < 12 := by omega
  have hn : i < 12 := by omega
  have e0 : wrap64 ((i : Int) + 1 - 1) = (i : Int) := w64_is (by omega) (by omega) (by omega)
  have hd := dim_in false ((i : Int) + 1)
  by_cases hm : (i : Int) + 1 = 2
  · have hb : ((i : Int) + 1 == 2) = true := beq_iff_eq.2 hm
    rcases Bool.eq_false_or_eq_true (leapB y) with hl | hl
    · rw [dim_leap ⟨hm, hl⟩]
      rw [hl] at C1
      generalize dim false ((i : Int) + 1) = v at *
      clear hm
      go_enter Tryd.func33, Tryd.ntmps33
      go_wp2_with fail
      refine (C1.out _).mono ?_
      rintro e w1 ⟨rfl, rfl⟩
      go_wp2_with fail
      go_ret
      exact ⟨rfl, rfl⟩
    · rw [dim_no (l := leapB y) (by rw [hl]; simp)]
      rw [hl] at C1
      generalize dim false ((i : Int) + 1) = v at *
      clear hm
      go_enter Tryd.func33, Tryd.ntmps33
      go_wp2_with fail
      refine (C1.out _).mono ?_
      rintro e w1 ⟨rfl, rfl⟩
      go_wp2_with fail
      go_ret
      exact ⟨rfl, rfl⟩
  · rw [dim_no (l := leapB y) (fun k => hm k.1)]
    have hb : ((i : Int) + 1 == 2) = false := beq_eq_false_iff_ne.2 hm
    generalize dim false ((i : Int) + 1) = v at *
    clear hm
    go_enter Tryd.func33, Tryd.ntmps33
    go_wp2_with fail
    go_ret
    exact ⟨rfl, rfl⟩
theorem bef_in {y : Int} (h1 : 1 ≤ y) (h2 : y ≤ 10000) : 0 ≤ bef y ∧ bef y ≤ 3652059 := by
  have a := bef_le h1
  have b := bef_le h2
  rw [bef_one] at a
  rw [bef_last] at b
  exact ⟨a, b⟩
theorem before_any (y : Int) (w : World) (h1 : 1 ≤ y) (h2 : y ≤ 10000) :
    Calls Tryd.prog 45 #[.int .i64 y] w fun e w' => e = .returned (.int .i64 (bef y)) ∧ w' = w := by
  obtain ⟨k, hk⟩ : ∃ k, y - 1 = k := ⟨_, rfl⟩
  have k1 : 0 ≤ k := by omega
  have k2 : k ≤ 9999 := by omega
  have q4 : k.tdiv 4 = k / 4 := Int.tdiv_eq_ediv_of_nonneg k1
  have q100 : k.tdiv 100 = k / 100 := Int.tdiv_eq_ediv_of_nonneg k1
  have q400 : k.tdiv 400 = k / 400 := Int.tdiv_eq_ediv_of_nonneg k1
  unfold bef
  rw [hk]
  obtain ⟨a, ha⟩ : ∃ a, k / 4 = a := ⟨_, rfl⟩
  obtain ⟨b, hb⟩ : ∃ a, k / 100 = a := ⟨_, rfl⟩
  obtain ⟨c, hc⟩ : ∃ a, k / 400 = a := ⟨_, rfl⟩
  rw [ha] at q4
  rw [hb] at q100
  rw [hc] at q400
  have a1 : 0 ≤ a := by omega
  have a2 : a ≤ 2499 := by omega
  have b1 : 0 ≤ b := by omega
  have b2 : b ≤ 99 := by omega
  have c1 : 0 ≤ c := by omega
  have c2 : c ≤ 24 := by omega
  rw [ha, hb, hc]
  have e0 : wrap64 (y - 1) = k := w64_is hk (by omega) (by omega)
  clear ha hb hc h1 h2
  go_enter Tryd.func45, Tryd.ntmps45
  go_wp2_with fail
  go_ret
  exact ⟨by first | rfl | exact ret_int (by omega), rfl⟩
theorem rbefore_any (y : Int) (w : World) (h1 : 1 ≤ y) (h2 : y ≤ 10000) :
    Calls Tryd.prog 36 #[.int .i64 y] w fun e w' => e = .returned (.int .i64 (bef y)) ∧ w' = w := by
  obtain ⟨k, hk⟩ : ∃ k, y - 1 = k := ⟨_, rfl⟩
  have k1 : 0 ≤ k := by omega
  have k2 : k ≤ 9999 := by omega
  have q4 : k.tdiv 4 = k / 4 := Int.tdiv_eq_ediv_of_nonneg k1
  have q100 : k.tdiv 100 = k / 100 := Int.tdiv_eq_ediv_of_nonneg k1
  have q400 : k.tdiv 400 = k / 400 := Int.tdiv_eq_ediv_of_nonneg k1
  unfold bef
  rw [hk]
  obtain ⟨a, ha⟩ : ∃ a, k / 4 = a := ⟨_, rfl⟩
  obtain ⟨b, hb⟩ : ∃ a, k / 100 = a := ⟨_, rfl⟩
  obtain ⟨c, hc⟩ : ∃ a, k / 400 = a := ⟨_, rfl⟩
  rw [ha] at q4
  rw [hb] at q100
  rw [hc] at q400
  have a1 : 0 ≤ a := by omega
  have a2 : a ≤ 2499 := by omega
  have b1 : 0 ≤ b := by omega
  have b2 : b ≤ 99 := by omega
  have c1 : 0 ≤ c := by omega
  have c2 : c ≤ 24 := by omega
  rw [ha, hb, hc]
  have e0 : wrap64 (y - 1) = k := w64_is hk (by omega) (by omega)
  clear ha hb hc h1 h2
  go_enter Tryd.func36, Tryd.ntmps36
  go_wp2_with fail
  go_ret
  exact ⟨by first | rfl | exact ret_int (by omega), rfl⟩
theorem newYear_any (y : Int) (w : World) (h1 : 1 ≤ y) (h2 : y ≤ 10000) :
    Calls Tryd.prog 34 #[.int .i64 y] w fun e w' => e = .returned (.int .i64 (bef y - 730119)) ∧ w' = w := by
  have C1 := Lib.hid (fun wx => before_any y wx h1 h2)
  have C2 := Lib.hid (fun wx => toldS (before_any 2000 wx (by omega) (by omega)) (show bef 2000 = 730119 by decide))
  have hb := bef_in h1 h2
  generalize bef y = v at *
  go_enter Tryd.func34, Tryd.ntmps34
  go_wp2_with fail
  refine (C1.out _).mono ?_
  rintro e w1 ⟨rfl, rfl⟩
  go_wp2_with fail
  refine (C2.out _).mono ?_
  rintro e w1 ⟨rfl, rfl⟩
  go_wp2_with fail
  go_ret
  exact ⟨rfl, rfl⟩
theorem rdays_any (y m : Int) (w : World) :
    Calls Tryd.prog 15 #[.int .i64 y, .int .i64 m] w fun e w' => e = .returned (.int .i64 (dim (leapB y) m)) ∧ w' = w := by
  have C1 := Lib.hid (fun wx => rleap_any y wx)
  generalize leapB y = l at *
  unfold dim
  by_cases h2 : m = 2
  · have hb : (m == 2) = true := beq_iff_eq.2 h2
    rw [if_pos h2]
    clear h2
    cases l
    · go_enter Tryd.func15, Tryd.ntmps15
      go_wp2_with fail
      refine (C1.out _).mono ?_
      rintro e w1 ⟨rfl, rfl⟩
      go_wp2_with fail
      go_ret
      exact ⟨rfl, rfl⟩
    · go_enter Tryd.func15, Tryd.ntmps15
      go_wp2_with fail
      refine (C1.out _).mono ?_
      rintro e w1 ⟨rfl, rfl⟩
      go_wp2_with fail
      go_ret
      exact ⟨rfl, rfl⟩
  · rw [if_neg h2]
    have hb : (m == 2) = false := beq_eq_false_iff_ne.2 h2
    clear h2
    rcases Bool.eq_false_or_eq_true (m == 4) with h4 | h4
    · rw [if_pos (Or.inl (beq_iff_eq.1 h4))]
      go_enter Tryd.func15, Tryd.ntmps15
      go_wp2_with fail
      go_ret
      exact ⟨rfl, rfl⟩
    · rcases Bool.eq_false_or_eq_true (m == 6) with h6 | h6
      · rw [if_pos (Or.inr (Or.inl (beq_iff_eq.1 h6)))]
        go_enter Tryd.func15, Tryd.ntmps15
        go_wp2_with fail
        go_ret
        exact ⟨rfl, rfl⟩
      · rcases Bool.eq_false_or_eq_true (m == 9) with h9 | h9
        · rw [if_pos (Or.inr (Or.inr (Or.inl (beq_iff_eq.1 h9))))]
          go_enter Tryd.func15, Tryd.ntmps15
          go_wp2_with fail
          go_ret
          exact ⟨rfl, rfl⟩
        · rcases Bool.eq_false_or_eq_true (m == 11) with h11 | h11
          · rw [if_pos (Or.inr (Or.inr (Or.inr (beq_iff_eq.1 h11))))]
            go_enter Tryd.func15, Tryd.ntmps15
            go_wp2_with fail
            go_ret
            exact ⟨rfl, rfl⟩
          · rw [if_neg (by
              have a := beq_eq_false_iff_ne.1 h4
              have b := beq_eq_false_iff_ne.1 h6
              have c := beq_eq_false_iff_ne.1 h9
              have d := beq_eq_false_iff_ne.1 h11
              omega)]
            go_enter Tryd.func15, Tryd.ntmps15
            go_wp2_with fail
            go_ret
            exact ⟨rfl, rfl⟩
end Go.Proofs.YtfknmceffkagaaaDoor
