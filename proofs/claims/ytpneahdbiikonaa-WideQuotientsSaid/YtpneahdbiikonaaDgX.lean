/- Contracts of the reference's Up and Sqrt. -/
import Derived.Test.YtpneahdbiikonaaDgY
import Derived.Deep.LoopGhost
namespace Go.Proofs.Ytpneahdbiikonaa
open Go.RowKit
set_option linter.unusedVariables false
attribute [local go_sem ↓] Go.wp_at_zero Go.wp_at_succ

set_option maxHeartbeats 4000000 in
theorem up_any (A B : Option Addr) (n c m d : Nat) (g h : Bool) (x y : Int) (w : World) (hx : NZ w A n c g x) (hy : NZ w B m d h y) (h0 : y ≠ 0) (sx : Sm x) (sy : Sm y) :
    Calls Try.prog 48 #[.agg #[.slice A n c, .bool g], .agg #[.slice B m d, .bool h]] w (RetZ w (qup x y)) := by
  have n1 : ¬ (w.heap.size = w.heap.size + 1 + 1) := by omega
  have n2 : ¬ (w.heap.size + 1 + 1 = w.heap.size) := by omega
  obtain ⟨h', hh'⟩ : ∃ h', h' = decide (-x < 0) := ⟨_, rfl⟩
  have CM : Hid (∀ wx, Below w.heap.size w wx → Calls Try.prog 25 #[.agg #[.slice A n c, .bool g]] wx fun e w' => e = .returned (.agg #[.slice A n c, .bool h']) ∧ Below wx.heap.size wx w') :=
    fun wx hb => minus_any A n c g h' x wx (hx.keep hb) hh'
  have CD : Hid (∀ wx, Below w.heap.size w wx → Calls Try.prog 35 #[.agg #[.slice A n c, .bool h'], .agg #[.slice B m d, .bool h]] wx (RetZ wx (qdn (-x) y))) := by
    intro wx hb
    exact down_any A B n c m d h' h (-x) y wx ⟨by rw [Int.natAbs_neg]; exact hx.dig.keep hb, hh'⟩ (hy.keep hb) h0 sx.neg sy
  clear hx hy hh'
  obtain ⟨z, hz⟩ : ∃ z, z = qdn (-x) y := ⟨_, rfl⟩
  have e : qup x y = -z := by rw [hz]; rfl
  rw [← hz] at CD
  rw [e]
  clear hz e
  obtain ⟨g', hg'⟩ : ∃ g', g' = decide (-z < 0) := ⟨_, rfl⟩
  have CN : Hid (∀ wx A3 n3 c3 g3, NZ wx A3 n3 c3 g3 z → Calls Try.prog 25 #[.agg #[.slice A3 n3 c3, .bool g3]] wx fun e w' => e = .returned (.agg #[.slice A3 n3 c3, .bool g']) ∧ Below wx.heap.size wx w') :=
    fun wx A3 n3 c3 g3 hd => minus_any A3 n3 c3 g3 g' z wx hd hg'
  have F : Hid (∀ w' A' n' c' g3, NZ w' A' n' c' g3 z → NZ w' A' n' c' g' (-z)) := fun w' A' n' c' g3 hd => ⟨by rw [Int.natAbs_neg]; exact hd.dig, hg'⟩
  clear hg'
  go_enter Try.func48, Try.ntmps48
  go_wp2_with fail
  go_region_held3 (fun w' => w'.cell? ⟨w.heap.size, 0, none⟩ = some (.slice A n c) ∧ w'.cell? ⟨w.heap.size, 1, none⟩ = some (.bool g) ∧ w'.cell? ⟨w.heap.size + 1, 0, none⟩ = some (.slice B m d) ∧ w'.cell? ⟨w.heap.size + 1, 1, none⟩ = some (.bool h)) (go_keep)
    (first
    | (go_at_call 25; refine (CN.out _ _ _ _ _ HD.out).mono ?_; rintro e w4 ⟨rfl, hb4⟩; have R0 := R0.keep hb4; have R1 := R1.keep hb4; have R2 := R2.keep hb4; have HW4 := Lib.hid (HW3.out.trans (hb4.mono HW3.out.size)); have HD := Lib.hid (HD.out.keep hb4); obtain ⟨p0, p1, _, _, _⟩ := id R0; obtain ⟨q0, q1, _, _, _⟩ := id R1; obtain ⟨k0, k1, l0, l1, _⟩ := id R2; clear hb4)
    | (go_at_call 25; refine (CM.out _ (b3d _ _ _ _)).mono ?_; rintro e w2 ⟨rfl, hb2⟩; obtain ⟨R0, R1, R2, hbw⟩ := bl3 hb2; have HW2 := Lib.hid hbw; obtain ⟨p0, p1, _, _, _⟩ := id R0; obtain ⟨q0, q1, _, _, _⟩ := id R1; clear hb2 hbw)
    | (go_at_call 35; refine (CD.out _ HW2.out).mono ?_; rintro e w3 ⟨A3, n3, c3, g3, rfl, hz3, hf3, hb3⟩; have HL : Hid (w.heap.size + 1 + 1 < w2.heap.size) := R2.lt; have R0 := R0.keep hb3; have R1 := R1.keep hb3; have R2 := R2.keep hb3; have HW3 := Lib.hid (HW2.out.trans (hb3.mono HW2.out.size)); have HD := Lib.hid hz3; obtain ⟨p0, p1, _, _, _⟩ := id R0; obtain ⟨q0, q1, _, _, _⟩ := id R1; have HF : Hid (∀ ad, A3 = some ad → w.heap.size + 1 + 1 < ad.block) := (fun ad e => Nat.lt_of_lt_of_le HL.out (hf3 ad e)); clear hb3 hz3 hf3))
  go_wp2_with fail
  obtain ⟨s0, s1⟩ := store2 k0 k1 (.slice A3 n3 c3) (.bool g')
  refine bodyPost_ret (v := .agg #[.slice A3 n3 c3, .bool g']) (by simp [results, Try.results48, go_sem, s0, s1]) rfl ?_
  exact retz_fin (F.out _ _ _ _ _ HD.out) HF.out HW4.out (by omega)

-- Sqrt
theorem can_snoc_one {a : List Nat} (h : Dok a) : Can (a ++ [1]) := by
  refine ⟨Dok.append.2 ⟨h, dok_single (by omega)⟩, .inr ?_⟩
  rw [val_snoc, List.length_append]
  show pw (a.length + 1 - 1) ≤ _
  rw [Nat.add_sub_cancel]; omega

theorem sq_unique {N r l : Nat} (h1 : r * r ≤ N) (h2 : N < (r + 1) * (r + 1)) (h3 : l * l ≤ N) (h4 : N < (l + 1) * (l + 1)) : l = r := by
  rcases Nat.lt_trichotomy l r with h | h | h
  · have := Nat.mul_le_mul (show l + 1 ≤ r by omega) (show l + 1 ≤ r by omega); omega
  · exact h
  · have := Nat.mul_le_mul (show r + 1 ≤ l by omega) (show r + 1 ≤ l by omega); omega
theorem sq_lt {N l h : Nat} (h1 : l * l ≤ N) (h2 : N < h * h) : l < h := by
  rcases Nat.lt_or_ge l h with q | q
  · exact q
  · have := Nat.mul_le_mul q q; omega
/-- what Sqrt's loop knows of its two bounds -/
structure SqI (w : World) (N lo hh : Nat) (A1 : Option Addr) (n1 c1 : Nat) (A2 : Option Addr) (n2 c2 : Nat) (wr : World) : Prop where
  d1 : Dig wr A1 n1 c1 (dgs lo)
  d2 : Dig wr A2 n2 c2 (dgs hh)
  low : lo * lo ≤ N
  high : N < hh * hh
  len : (dgs hh).length ≤ 400001
  fr : Fr w A1
  bel : Below w.heap.size w wr
theorem can_one : Can [1] := by rw [can_single (m := 1) (by omega) (by omega)]; exact can_dgs 1
theorem can_two : Can [2] := by rw [can_single (m := 2) (by omega) (by omega)]; exact can_dgs 2

set_option maxHeartbeats 4000000 in
theorem sqrt_any (A : Option Addr) (n c N r : Nat) (w : World) (ha : Dig w A n c (dgs N)) (sN : (dgs N).length ≤ 400000) (h1 : r * r ≤ N) (h2 : N < (r + 1) * (r + 1)) :
    Calls Try.prog 51 #[.slice A n c] w (Ret w (dgs r)) := by
  obtain ⟨i0, hi, hz0, hz1, hz2⟩ := info_parts Try.infoI
  have hla := ha.len
  have n1 : n ≤ 400000 := by omega
  have HA := Lib.hid ha
  have LA := Lib.hid hla
  have S1 := Lib.hid h1
  have S2 := Lib.hid h2
  clear ha hla sN h1 h2
  have H63 : Hid (0 + n ≤ maxLen) := by show _ ≤ _; unfold maxLen; omega
  go_enter Try.func51, Try.ntmps51
  go_wp2_with (at_builtin; refine wpList_append_dig _ rfl (.tmp 7) (.tmp 8) _ rfl w.heap.size 3 i0 (.int .i64 0) Try.underlying28 hi hz0 hz1 hz2 rfl _ 0 [] rfl (World.ownsRow_lit w #[] 0 (Nat.le_refl _) (Nat.zero_le _) rfl) A n c (dgs N) rfl (HA.out.alloc _) H63.out (by omega) (by simp) ?_)
  intro v1 w1 hown1 hgrow1
  obtain ⟨Av, cv, rfl⟩ := own_shape hown1
  have B1 : Hid (Below w.heap.size w w1) := ((Below.refl _ _).alloc (Nat.le_refl _) _).grown hgrow1 (by simp) (by intro k hk; simp [Value.ownBlock] at hk; omega)
  have O1 := Lib.hid hown1
  clear hown1 hgrow1
  go_wp2_with (at_builtin; refine wpList_append_own _ rfl (.tmp 9) (.tmp 10) _ rfl w.heap.size 3 i0 (.int .i64 0) 1 8 Try.underlying28 hi hz0 hz1 hz2 rfl (by omega) _ _ _ rfl (O1.out.alloc _) ⟨w1.heap.size, 0, none⟩ 1 1 [.int .i64 1] rfl rfl (World.news_of_block (heap_alloc_new w1 _)) (by simp [Value.oneCell']) (by unfold maxLen; omega) (by omega) (B1.out.alloc B1.out.size _).size ?_)
  intro v2 w2 hown2 hgrow2 hnil
  obtain ⟨Aw, cw, rfl⟩ := own_shape hown2
  have B2 : Hid (Below w.heap.size w w2) := (B1.out.alloc B1.out.size _).grown hgrow2 (B1.out.alloc B1.out.size _).size (fun k hk => (O1.out.lt k hk).1)
  have D2 : Hid (Dig w2 Aw (0 + n + 1) cw (dgs N ++ [1])) := dig_of_own (by simpa [dv] using hown2)
  have F2 : Hid (Fr w Aw) := fr_of_own hown2 (Nat.le_refl _)
  clear hown2 hgrow2 hnil
  go_wp2_with fail
  have VH : Hid (val (dgs N ++ [1]) = N + pw (dgs N).length) := by show _ = _; rw [val_snoc, val_dgs, Nat.mul_one]
  have NP : Hid (N < pw (dgs N).length) := dgs_lt N
  have HH : Hid (dgs N ++ [1] = dgs (N + pw (dgs N).length)) := by have := can_unique _ (can_snoc_one (can_dgs N).ok); rw [VH.out] at this; exact this
  obtain ⟨h0, hh0⟩ : ∃ h0, h0 = N + pw (dgs N).length := ⟨_, rfl⟩
  have HH0 := Lib.hid hh0
  clear hh0
  go_loopg [3, 4] h0 (fun q lv hv wr => ∃ (lo hh : Nat) (A1 : Option Addr) (n1 c1 : Nat) (A2 : Option Addr) (n2 c2 : Nat), q = hh - lo ∧ lv = .slice A1 n1 c1 ∧ hv = .slice A2 n2 c2 ∧ Hid (SqI w N lo hh A1 n1 c1 A2 n2 c2 wr))
  case atStart =>
    refine ⟨0, h0, none, 0, 0, Aw, n + 1, cw, by omega, rfl, rfl, ⟨by rw [dgs_zero]; exact Dig.nil _, ?_, by omega, ?_, ?_, Fr.none_ _, B2.out⟩⟩
    · have := D2.out; rw [HH.out, ← HH0.out, Nat.zero_add] at this; exact this
    · have h1 := NP.out
      have h2 := pw_pos (dgs N).length
      have h3 : h0 * 1 ≤ h0 * h0 := Nat.mul_le_mul_left _ (by rw [HH0.out]; omega)
      have h4 := HH0.out
      omega
    · rw [HH0.out, ← HH.out, List.length_append]; have := LA.out; simp; omega
  case round =>
    obtain ⟨lo, hh, A1, n1, c1, A2, n2, c2, hq, rfl, rfl, hI⟩ := hrel
    have HQ := Lib.hid hq
    clear hq
    have hlt := sq_lt hI.out.low hI.out.high
    have SU1 : Hid (∀ wx B1, Dig wx A1 n1 c1 (dgs lo) → Dig wx B1 1 1 [1] → Calls Try.prog 40 #[.slice A1 n1 c1, .slice B1 1 1] wx (Ret wx (dgs (lo + 1)))) := by
      intro wx B1 h1 h2
      have := sum_any A1 B1 n1 1 c1 1 (dgs lo) [1] wx h1 h2 (can_dgs _) can_one (by have := dgs_len_mono (Nat.le_of_lt hlt); have := hI.out.len; omega) (by simp)
      rw [val_dgs, val_single] at this
      exact this
    have OR1 : Hid (∀ wx A3 n3 c3, Dig wx A3 n3 c3 (dgs (lo + 1)) → Dig wx A2 n2 c2 (dgs hh) → Calls Try.prog 41 #[.slice A3 n3 c3, .slice A2 n2 c2] wx fun e w' => e = .returned (.int .i64 (ord (lo + 1) hh)) ∧ Below wx.heap.size wx w') := by
      intro wx A3 n3 c3 h1 h2
      have := order_any A3 A2 n3 n2 c3 c2 _ _ wx h1 h2 (can_dgs _) (can_dgs _) (by have := dgs_len_mono (show lo + 1 ≤ hh by omega); have := hI.out.len; omega) (by have := hI.out.len; omega)
      rw [val_dgs, val_dgs] at this
      exact this
    by_cases hc : lo + 1 < hh
    · have ho := ord_neg.2 hc
      obtain ⟨ov, hov⟩ : ∃ ov, ov = ord (lo + 1) hh := ⟨_, rfl⟩
      rw [← hov] at ho OR1
      clear hov
      obtain ⟨mm, hmm⟩ : ∃ mm, mm = (lo + hh) / 2 := ⟨_, rfl⟩
      have m1 : lo < mm := by omega
      have m2 : mm < hh := by omega
      have SU2 : Hid (∀ wx, Dig wx A1 n1 c1 (dgs lo) → Dig wx A2 n2 c2 (dgs hh) → Calls Try.prog 40 #[.slice A1 n1 c1, .slice A2 n2 c2] wx (Ret wx (dgs (lo + hh)))) := by
        intro wx h1 h2
        have := sum_any A1 A2 n1 n2 c1 c2 (dgs lo) (dgs hh) wx h1 h2 (can_dgs _) (can_dgs _) (by have := dgs_len_mono (Nat.le_of_lt hlt); have := hI.out.len; omega) (by have := hI.out.len; omega)
        rw [val_dgs, val_dgs] at this
        exact this
      have OV : Hid (∀ wx A3 n3 c3 B3, Dig wx A3 n3 c3 (dgs (lo + hh)) → Dig wx B3 1 1 [2] → Calls Try.prog 52 #[.slice A3 n3 c3, .slice B3 1 1] wx (Ret2 wx (dgs mm) (dgs ((lo + hh) % 2)))) := by
        intro wx A3 n3 c3 B3 h1 h2
        have hl : (dgs (lo + hh)).length ≤ 1000000 := by have h3 := dgs_len_add lo hh; have h4 := dgs_len_mono (Nat.le_of_lt hlt); have h5 := hI.out.len; omega
        have := over_any A3 B3 n3 1 c3 1 (dgs (lo + hh)) [2] wx h1 (can_dgs _).ok ⟨h2, can_two, by rw [val_single]; omega, by simp⟩ hl
        rw [val_dgs, val_single, ← hmm] at this
        exact this
      have ML : Hid ((dgs mm).length ≤ 400001) := Nat.le_trans (dgs_len_mono (Nat.le_of_lt m2)) hI.out.len
      have TI : Hid (∀ wx A3 n3 c3, Dig wx A3 n3 c3 (dgs mm) → Calls Try.prog 46 #[.slice A3 n3 c3, .slice A3 n3 c3] wx (Ret wx (dgs (mm * mm)))) := by
        intro wx A3 n3 c3 h1
        have := times_any A3 A3 n3 n3 c3 c3 (dgs mm) (dgs mm) wx h1 h1 (can_dgs _).ok (can_dgs _).ok (by have := ML.out; omega) (by have := ML.out; omega)
        rw [val_dgs] at this
        exact this
      have OR2 : Hid (∀ wx A3 n3 c3, Dig wx A3 n3 c3 (dgs (mm * mm)) → Dig wx A n c (dgs N) → Calls Try.prog 41 #[.slice A3 n3 c3, .slice A n c] wx fun e w' => e = .returned (.int .i64 (ord (mm * mm) N)) ∧ Below wx.heap.size wx w') := by
        intro wx A3 n3 c3 h1 h2
        have := order_any A3 A n3 n c3 c _ _ wx h1 h2 (can_dgs _) (can_dgs _) (by have := dgs_len_mul mm mm; have := ML.out; omega) (by have := LA.out; omega)
        rw [val_dgs, val_dgs] at this
        exact this
      by_cases hs : mm * mm ≤ N
      · have hp := ord_le.2 hs
        obtain ⟨pv, hpv⟩ : ∃ pv, pv = ord (mm * mm) N := ⟨_, rfl⟩
        rw [← hpv] at hp OR2
        have HS := Lib.hid hs
        clear hpv hs hmm hc
        go_wp2_with fail
        refine (SU1.out _ _ (hI.out.d1.alloc _) (Dig.single _ _ _)).mono ?_
        rintro e w3 ⟨A3, n3, c3, rfl, hd3, hf3, hb3⟩
        have I3 : Hid (SqI w N lo hh A1 n1 c1 A2 n2 c2 w3) := ⟨(hI.out.d1.alloc _).keep hb3, (hI.out.d2.alloc _).keep hb3, hI.out.low, hI.out.high, hI.out.len, hI.out.fr, (hI.out.bel.alloc hI.out.bel.size _).trans (hb3.mono (by have := hI.out.bel.size; simp; omega))⟩
        have D3 := Lib.hid hd3
        clear hd3 hf3 hb3 hI
        go_wp2_with fail
        refine (OR1.out _ _ _ _ D3.out I3.out.d2).mono ?_
        rintro e w4 ⟨rfl, hb4⟩
        have I4 : Hid (SqI w N lo hh A1 n1 c1 A2 n2 c2 w4) := ⟨I3.out.d1.keep hb4, I3.out.d2.keep hb4, I3.out.low, I3.out.high, I3.out.len, I3.out.fr, I3.out.bel.trans (hb4.mono I3.out.bel.size)⟩
        clear hb4 I3 D3
        go_wp2_with fail
        refine (SU2.out _ I4.out.d1 I4.out.d2).mono ?_
        rintro e w5 ⟨A5, n5, c5, rfl, hd5, hf5, hb5⟩
        have I5 : Hid (SqI w N lo hh A1 n1 c1 A2 n2 c2 w5) := ⟨I4.out.d1.keep hb5, I4.out.d2.keep hb5, I4.out.low, I4.out.high, I4.out.len, I4.out.fr, I4.out.bel.trans (hb5.mono I4.out.bel.size)⟩
        have D5 := Lib.hid hd5
        clear hd5 hf5 hb5 I4
        go_wp2_with fail
        refine (OV.out _ _ _ _ _ (D5.out.alloc _) (Dig.single _ _ _)).mono ?_
        rintro e w6 ⟨A6, n6, c6, A7, n7, c7, rfl, hd6, hf6, hd7, hf7, hb6⟩
        have B6 : Hid (Below w.heap.size w w6) := (I5.out.bel.alloc I5.out.bel.size _).trans (hb6.mono (by have := I5.out.bel.size; simp; omega))
        have E6 : Hid (Dig w6 A2 n2 c2 (dgs hh)) := (I5.out.d2.alloc _).keep hb6
        have F6 : Hid (Fr w A6) := hf6.under (by have := I5.out.bel.size; simp; omega)
        have D6 := Lib.hid hd6
        clear hd6 hf6 hd7 hf7 hb6 D5
        go_wp2_with fail
        refine (TI.out _ _ _ _ D6.out).mono ?_
        rintro e w7 ⟨A8, n8, c8, rfl, hd8, hf8, hb7⟩
        have B7 : Hid (Below w.heap.size w w7) := B6.out.trans (hb7.mono B6.out.size)
        have E7 := Lib.hid (E6.out.keep hb7)
        have G7 := Lib.hid (D6.out.keep hb7)
        have D8 := Lib.hid hd8
        clear hd8 hf8 hb7 E6 D6 B6
        go_wp2_with fail
        refine (OR2.out _ _ _ _ D8.out (HA.out.keep B7.out)).mono ?_
        rintro e w8 ⟨rfl, hb8⟩
        have B8 : Hid (Below w.heap.size w w8) := B7.out.trans (hb8.mono B7.out.size)
        have E8 := Lib.hid (E7.out.keep hb8)
        have G8 := Lib.hid (G7.out.keep hb8)
        clear hb8 E7 G7 B7 D8
        go_wp2_with fail
        go_roundg (hh - mm)
        case rel => exact ⟨mm, hh, A6, n6, c6, A2, n2, c2, rfl, rfl, rfl, ⟨G8.out, E8.out, HS.out, I5.out.high, I5.out.len, F6.out, B8.out⟩⟩
        case measure => have := HQ.out; omega
      · have hp : ¬ ord (mm * mm) N ≤ 0 := fun h => hs (ord_le.1 h)
        obtain ⟨pv, hpv⟩ : ∃ pv, pv = ord (mm * mm) N := ⟨_, rfl⟩
        rw [← hpv] at hp OR2
        have HS : Hid (N < mm * mm) := by show _ < _; omega
        clear hpv hs hmm hc
        go_wp2_with fail
        refine (SU1.out _ _ (hI.out.d1.alloc _) (Dig.single _ _ _)).mono ?_
        rintro e w3 ⟨A3, n3, c3, rfl, hd3, hf3, hb3⟩
        have I3 : Hid (SqI w N lo hh A1 n1 c1 A2 n2 c2 w3) := ⟨(hI.out.d1.alloc _).keep hb3, (hI.out.d2.alloc _).keep hb3, hI.out.low, hI.out.high, hI.out.len, hI.out.fr, (hI.out.bel.alloc hI.out.bel.size _).trans (hb3.mono (by have := hI.out.bel.size; simp; omega))⟩
        have D3 := Lib.hid hd3
        clear hd3 hf3 hb3 hI
        go_wp2_with fail
        refine (OR1.out _ _ _ _ D3.out I3.out.d2).mono ?_
        rintro e w4 ⟨rfl, hb4⟩
        have I4 : Hid (SqI w N lo hh A1 n1 c1 A2 n2 c2 w4) := ⟨I3.out.d1.keep hb4, I3.out.d2.keep hb4, I3.out.low, I3.out.high, I3.out.len, I3.out.fr, I3.out.bel.trans (hb4.mono I3.out.bel.size)⟩
        clear hb4 I3 D3
        go_wp2_with fail
        refine (SU2.out _ I4.out.d1 I4.out.d2).mono ?_
        rintro e w5 ⟨A5, n5, c5, rfl, hd5, hf5, hb5⟩
        have I5 : Hid (SqI w N lo hh A1 n1 c1 A2 n2 c2 w5) := ⟨I4.out.d1.keep hb5, I4.out.d2.keep hb5, I4.out.low, I4.out.high, I4.out.len, I4.out.fr, I4.out.bel.trans (hb5.mono I4.out.bel.size)⟩
        have D5 := Lib.hid hd5
        clear hd5 hf5 hb5 I4
        go_wp2_with fail
        refine (OV.out _ _ _ _ _ (D5.out.alloc _) (Dig.single _ _ _)).mono ?_
        rintro e w6 ⟨A6, n6, c6, A7, n7, c7, rfl, hd6, hf6, hd7, hf7, hb6⟩
        have B6 : Hid (Below w.heap.size w w6) := (I5.out.bel.alloc I5.out.bel.size _).trans (hb6.mono (by have := I5.out.bel.size; simp; omega))
        have E6 : Hid (Dig w6 A1 n1 c1 (dgs lo)) := (I5.out.d1.alloc _).keep hb6
        have D6 := Lib.hid hd6
        clear hd6 hf6 hd7 hf7 hb6 D5
        go_wp2_with fail
        refine (TI.out _ _ _ _ D6.out).mono ?_
        rintro e w7 ⟨A8, n8, c8, rfl, hd8, hf8, hb7⟩
        have B7 : Hid (Below w.heap.size w w7) := B6.out.trans (hb7.mono B6.out.size)
        have E7 := Lib.hid (E6.out.keep hb7)
        have G7 := Lib.hid (D6.out.keep hb7)
        have D8 := Lib.hid hd8
        clear hd8 hf8 hb7 E6 D6 B6
        go_wp2_with fail
        refine (OR2.out _ _ _ _ D8.out (HA.out.keep B7.out)).mono ?_
        rintro e w8 ⟨rfl, hb8⟩
        have B8 : Hid (Below w.heap.size w w8) := B7.out.trans (hb8.mono B7.out.size)
        have E8 := Lib.hid (E7.out.keep hb8)
        have G8 := Lib.hid (G7.out.keep hb8)
        clear hb8 E7 G7 B7 D8
        go_wp2_with fail
        go_roundg (mm - lo)
        case rel => exact ⟨lo, mm, A1, n1, c1, A6, n6, c6, rfl, rfl, rfl, ⟨E8.out, G8.out, I5.out.low, HS.out, ML.out, I5.out.fr, B8.out⟩⟩
        case measure => have := HQ.out; omega
    · have ho : ¬ ord (lo + 1) hh < 0 := fun h => hc (ord_neg.1 h)
      obtain ⟨ov, hov⟩ : ∃ ov, ov = ord (lo + 1) hh := ⟨_, rfl⟩
      rw [← hov] at ho OR1
      have E : Hid (lo = r) := sq_unique S1.out S2.out hI.out.low (by have := hI.out.high; rw [show hh = lo + 1 by omega] at this; exact this)
      clear hov hc
      go_wp2_with fail
      refine (SU1.out _ _ (hI.out.d1.alloc _) (Dig.single _ _ _)).mono ?_
      rintro e w3 ⟨A3, n3, c3, rfl, hd3, hf3, hb3⟩
      have I3 : Hid (SqI w N lo hh A1 n1 c1 A2 n2 c2 w3) := ⟨(hI.out.d1.alloc _).keep hb3, (hI.out.d2.alloc _).keep hb3, hI.out.low, hI.out.high, hI.out.len, hI.out.fr, (hI.out.bel.alloc hI.out.bel.size _).trans (hb3.mono (by have := hI.out.bel.size; simp; omega))⟩
      have D3 := Lib.hid hd3
      clear hd3 hf3 hb3 hI
      go_wp2_with fail
      refine (OR1.out _ _ _ _ D3.out I3.out.d2).mono ?_
      rintro e w4 ⟨rfl, hb4⟩
      have I4 : Hid (SqI w N lo hh A1 n1 c1 A2 n2 c2 w4) := ⟨I3.out.d1.keep hb4, I3.out.d2.keep hb4, I3.out.low, I3.out.high, I3.out.len, I3.out.fr, I3.out.bel.trans (hb4.mono I3.out.bel.size)⟩
      clear hb4 I3 D3
      go_wp2_with fail
      go_ret
      have h1 := I4.out.d1
      rw [E.out] at h1
      exact ⟨_, _, _, rfl, h1, I4.out.fr, I4.out.bel⟩
end Go.Proofs.Ytpneahdbiikonaa
