/- Calendar: the date of a number, on both sides; sums of dates and days. -/
import Derived.Test.YtfknmceffkagaaaDoorCaD
namespace Go.Proofs.YtfknmceffkagaaaDoor
open Go.RowKit
set_option linter.unusedVariables false
set_option maxRecDepth 100000

theorem closure_any (n i : Int) (b : Nat) (w : World) (i1 : 0 ≤ i) (i2 : i ≤ 9997) (hc : w.cell? ⟨b, 0, none⟩ = some (.int .i64 n)) :
    Calls Tryd.prog 46 #[.int .i64 i, .pointer (some ⟨b, 0, none⟩)] w fun e w' => e = .returned (.bool (decide (n < bef (i + 2) - 730119))) ∧ Below w.heap.size w w' := by
  rw [show i + 2 = 1 + i + 1 by omega]
  have CN := Lib.hid (fun (wx : World) => newYear_any (1 + i + 1) wx (by omega) (by omega))
  have hb := World.block_lt_of_cell? _ _ hc
  have A : ∀ p : Bel w, p.w.cell? ⟨b, 0, none⟩ = some (.int .i64 n) := fun p => (p.h.cell (p := ⟨b, 0, none⟩) hb).trans hc
  have bi := bef_in (y := 1 + i + 1) (by omega) (by omega)
  obtain ⟨v, hv⟩ : ∃ v, bef (1 + i + 1) - 730119 = v := ⟨_, rfl⟩
  rw [hv] at CN ⊢
  have v1 : -730119 ≤ v := by omega
  have v2 : v ≤ 2921940 := by omega
  clear hv bi hb hc
  go_enter Tryd.func46, Tryd.ntmps46
  go_wp2_with fail
  refine wp_region_bel (by kernel_rfl) (by kernel_rfl) ?_
  repeat (go_big_quiet_step (first | (go_at_call 34; with_reducible refine bel_same (CN.out _))))
  refine wpQuiet_nil ?_
  intro _ hw'
  obtain ⟨pq, hw''⟩ := hw'
  subst hw''
  go_wp2_with fail
  go_ret
  exact ⟨by first | rfl | exact ret_bool (by first | rfl | (simp; done)), pq.h⟩
set_option maxHeartbeats 1000000 in
theorem search_any (n y : Int) (b N : Nat) (w : World) (hN : N = 9998) (y1 : 1 ≤ y) (y2 : y ≤ 9999) (k1 : bef y - 730119 ≤ n) (k2 : n < bef (y + 1) - 730119) (hc : w.cell? ⟨b, 0, none⟩ = some (.int .i64 n)) :
    Calls Tryd.prog 47 #[.int .i64 (N : Int), .func (.func 46) #[] #[.pointer (some ⟨b, 0, none⟩)]] w fun e w' => e = .returned (.int .i64 (y - 1)) ∧ Below w.heap.size w w' := by
  have CC := Lib.hid (fun (i : Int) (wx : World) (i1 : 0 ≤ i) (i2 : i ≤ 9997) (h : wx.cell? ⟨b, 0, none⟩ = some (.int .i64 n)) => closure_any n i b wx i1 i2 h)
  have Y := Lib.hid (show (1 ≤ y ∧ y ≤ 9999) ∧ bef y - 730119 ≤ n ∧ n < bef (y + 1) - 730119 from ⟨⟨y1, y2⟩, k1, k2⟩)
  have HL := Lib.hid (World.block_lt_of_cell? _ _ hc)
  have HC := Lib.hid hc
  have HN := Lib.hid hN
  have n1 : N < 4611686018427387904 := by omega
  clear y1 y2 k1 k2 hc hN
  go_enter Tryd.func47, Tryd.ntmps47
  go_wp2
  go_loopg [5, 6] N (fun kx s5 s6 wr => ∃ (lo hi : Nat), s5 = .int .i64 lo ∧ s6 = .int .i64 hi ∧ lo ≤ hi ∧ hi ≤ N ∧ hi - lo ≤ kx ∧ Hid ((lo : Int) + 1 ≤ y ∧ y ≤ (hi : Int) + 1) ∧ Hid (Below w.heap.size w wr))
  case atStart => exact ⟨0, N, rfl, rfl, Nat.zero_le _, Nat.le_refl _, by omega, (by show ((0 : Nat) : Int) + 1 ≤ y ∧ y ≤ (N : Int) + 1; have := HN.out; have := Y.out.1; omega), Below.refl _ _⟩
  case round =>
    obtain ⟨lo, hi, rfl, rfl, hlh, hin, hg, I, HB⟩ := hrel
    by_cases hlt : lo < hi
    · have c := CC.out (((lo + hi) / 2 : Nat) : Int) wr (by omega) (by have := HN.out; omega) ((HB.out.cell (p := ⟨b, 0, none⟩) HL.out).trans HC.out)
      rw [show (((lo + hi) / 2 : Nat) : Int) = ((lo : Int) + (hi : Int)) / 2 by omega] at c
      by_cases hp : n < bef (((lo : Int) + (hi : Int)) / 2 + 2) - 730119
      · rw [decide_eq_true hp] at c
        have J := Lib.hid (show y ≤ (((lo + hi) / 2 : Nat) : Int) + 1 from by
          refine Int.not_lt.1 fun h => ?_
          have := bef_le (show ((lo : Int) + (hi : Int)) / 2 + 2 ≤ y by omega)
          have := Y.out.2.1
          omega)
        clear hp
        go_wp2_with fail
        refine c.mono ?_
        rintro e w' ⟨rfl, hb⟩
        go_wp2_with fail
        go_roundg ((lo + hi) / 2 - lo)
        case measure => omega
        case rel => exact ⟨lo, (lo + hi) / 2, rfl, by rw [show ((lo : Int) + (hi : Int)) / 2 = (((lo + hi) / 2 : Nat) : Int) by omega], by omega, by omega, Nat.le_refl _, ⟨I.out.1, J.out⟩, bstep HB.out hb⟩
      · rw [decide_eq_false hp] at c
        have J := Lib.hid (show (((lo + hi) / 2 + 1 : Nat) : Int) + 1 ≤ y from by
          refine Int.not_lt.1 fun h => ?_
          have := bef_le (show y + 1 ≤ ((lo : Int) + (hi : Int)) / 2 + 2 by omega)
          have := Y.out.2.2
          omega)
        clear hp
        go_wp2_with fail
        refine c.mono ?_
        rintro e w' ⟨rfl, hb⟩
        go_wp2_with fail
        go_roundg (hi - ((lo + hi) / 2 + 1))
        case measure => omega
        case rel => exact ⟨(lo + hi) / 2 + 1, hi, by rw [show ((lo : Int) + (hi : Int)) / 2 + 1 = (((lo + hi) / 2 + 1 : Nat) : Int) by omega], rfl, by omega, hin, Nat.le_refl _, ⟨J.out, I.out.2⟩, bstep HB.out hb⟩
    · obtain rfl : hi = lo := by omega
      have e := Lib.hid (show (hi : Int) = y - 1 by have := I.out; omega)
      go_wp2
      go_ret
      exact ⟨ret_int e.out, HB.out⟩
theorem yearOf_any (n y : Int) (w : World) (y1 : 1 ≤ y) (y2 : y ≤ 9999) (k1 : bef y - 730119 ≤ n) (k2 : n < bef (y + 1) - 730119) :
    Calls Tryd.prog 37 #[.int .i64 n] w fun e w' => e = .returned (.int .i64 y) ∧ Below w.heap.size w w' := by
  have CS := Lib.hid (search_any n y w.heap.size 9998 (w.alloc (.cells #[.int .i64 n] 3)) rfl y1 y2 k1 k2 (by rw [World.cell?_alloc_new]; rfl))
  have HB := Lib.hid (below1 w (.cells #[.int .i64 n] 3))
  obtain ⟨k, hk⟩ : ∃ k, y - 1 = k := ⟨_, rfl⟩
  rw [hk] at CS
  obtain rfl : y = 1 + k := by omega
  have q1 : 0 ≤ k := by omega
  have q2 : k ≤ 9998 := by omega
  clear k1 k2 hk y1 y2
  go_enter Tryd.func37, Tryd.ntmps37
  go_wp2_with fail
  refine (CS.out).mono ?_
  rintro e w1 ⟨rfl, hb⟩
  go_wp2_with fail
  go_ret
  exact ⟨rfl, bstep HB.out hb⟩
end Go.Proofs.YtfknmceffkagaaaDoor
