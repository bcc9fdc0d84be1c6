/- Place: the reference's Parse and Print, the program's Print; PlaceTexts: the walk. -/
import Derived.Test.YtgcoddjjkcdfmaaGreatDoorPcR
import Derived.Test.YtgcoddjjkcdfmaaGreatDoorPcAw
import Derived.LoopTactic
namespace Go.Proofs.YtgcoddjjkcdfmaaGreatDoor
open Go.RowKit
set_option linter.unusedVariables false
set_option maxRecDepth 100000

/-- the reference's reading, over its calls -/
theorem rparse_walk (s X Y : ByteArray) (N : Nat) (x y e1 e2 rx ry re : Int) (vb : Bool) (w : World) (hs : s.size ≤ 900) (hN : N ≤ s.size)
    (hlow : Hid (∀ (i : Nat) (h : i < s.size), i < N → ((s[i]'h).toNat : Int) ≠ 32)) (hat : N < s.size → ∀ h : N < s.size, ((s[N]'h).toNat : Int) = 32)
    (hX : s.extract 0 N = X) (hY : s.extract (N + 1) s.size = Y)
    (C1 : Hid (∀ wx, Calls Tryz.prog 21 #[.string X, .int .u8 78, .int .u8 83] wx fun e w' => e = .returned (.tuple #[.int .i64 x, .int .i64 e1]) ∧ Below wx.heap.size wx w'))
    (C2 : Hid (∀ wx, Calls Tryz.prog 21 #[.string Y, .int .u8 69, .int .u8 87] wx fun e w' => e = .returned (.tuple #[.int .i64 y, .int .i64 e2]) ∧ Below wx.heap.size wx w'))
    (CV : Hid (∀ wx, Calls Tryz.prog 6 #[.agg #[.int .i64 x, .int .i64 y]] wx fun e w' => e = .returned (.bool vb) ∧ Below wx.heap.size wx w'))
    (K : (N = s.size ∧ rx = 0 ∧ ry = 0 ∧ re = 7) ∨ (N < s.size ∧ e1 = 7 ∧ rx = 0 ∧ ry = 0 ∧ re = 7) ∨ (N < s.size ∧ e1 = 0 ∧ e2 = 7 ∧ rx = 0 ∧ ry = 0 ∧ re = 7) ∨ (N < s.size ∧ e1 = 0 ∧ e2 = 0 ∧ vb = false ∧ rx = 0 ∧ ry = 0 ∧ re = 2) ∨ (N < s.size ∧ e1 = 0 ∧ e2 = 0 ∧ vb = true ∧ rx = x ∧ ry = y ∧ re = 0)) :
    Calls Tryz.prog 9 #[.string s] w fun e w' => e = .returned (.tuple #[.agg #[.int .i64 rx, .int .i64 ry], .int .i64 re]) ∧ Below w.heap.size w w' := by
  have R := At2.new w (.int .i64 0) (.int .i64 0) 23
  have HB := Lib.hid (below1 w (.cells #[.int .i64 0, .int .i64 0] 23))
  generalize hW : w.alloc (.cells #[.int .i64 0, .int .i64 0] 23) = W at R HB
  go_enter Tryz.func9, Tryz.ntmps9
  go_wp2_with fail
  (first | rw [hW] | skip)
  clear hW
  go_loopg [4] N (fun m v4 wr => ∃ i : Nat, m = N - i ∧ i ≤ N ∧ v4 = .int .i64 (i : Int) ∧ W = wr)
  case atStart => exact ⟨0, rfl, Nat.zero_le _, rfl, rfl⟩
  case round =>
    obtain ⟨i, hgk, hi, rfl, rfl⟩ := hrel
    have HGK := Lib.hid hgk
    clear hgk
    by_cases hlt : i < N
    · have his : i < s.size := by omega
      have hz : (i : Int) < (s.size : Int) := by omega
      have hne := hlow.out i his hlt
      have hnb : (((s[i]'his).toNat : Int) == 32) = false := beq_eq_false_iff_ne.2 hne
      have HI := Lib.hid hlt
      clear hlt
      go_wp2_with fail
      go_roundg (N - (i + 1))
      case measure => have := HGK.out; have := HI.out; omega
      case rel => exact ⟨i + 1, rfl, by have := HI.out; omega, by go_num, rfl⟩
    · have e : i = N := by omega
      subst e
      rcases K with ⟨hk, rfl, rfl, rfl⟩ | ⟨hk, rfl, rfl, rfl, rfl⟩ | ⟨hk, rfl, rfl, rfl, rfl, rfl⟩ | ⟨hk, rfl, rfl, rfl, rfl, rfl, rfl⟩ | ⟨hk, rfl, rfl, rfl, rfl, rfl, rfl⟩
      · have hz : ¬ (i : Int) < (s.size : Int) := by omega
        have hq : ((i : Int) == (s.size : Int)) = true := beq_iff_eq.2 (by omega)
        clear hlow hat hlt
        obtain ⟨R0, R1, Rf0, Rf1, -⟩ := id R
        obtain ⟨z0, z1⟩ := set2 R0 R1 (.int .i64 (0)) (.int .i64 (0))
        go_wp2_with fail
        refine bodyPost_ret (v := .tuple #[.agg #[.int .i64 (0), .int .i64 (0)], .int .i64 7]) (by simp [results, Tryz.results9, go_sem, z0, z1]) rfl ⟨rfl, ?_⟩
        exact below_set2 HB.out (by omega) _ _
      · have hz : (i : Int) < (s.size : Int) := by omega
        have h32 := hat hk hk
        have hb : (((s[i]'hk).toNat : Int) == 32) = true := beq_iff_eq.2 h32
        have hq : ((i : Int) == (s.size : Int)) = false := beq_eq_false_iff_ne.2 (by omega)
        have ht : ((i : Int) + 1).toNat = i + 1 := by omega
        have hle : (i : Int) + 1 ≤ (s.size : Int) := by omega
        clear hlow hat h32 hlt
        obtain ⟨R0, R1, Rf0, Rf1, -⟩ := id R
        go_wp2_with fail
        refine ((C1).out _).mono ?_
        rintro e w1 ⟨rfl, hb⟩
        clear R0 R1 Rf0 Rf1
        have R := R.keep hb
        have HB := Lib.hid (bstep HB.out hb)
        clear hb
        obtain ⟨R0, R1, Rf0, Rf1, -⟩ := id R
        go_wp2_with fail
        refine ((C2).out _).mono ?_
        rintro e w2 ⟨rfl, hb⟩
        clear R0 R1 Rf0 Rf1
        have R := R.keep hb
        have HB := Lib.hid (bstep HB.out hb)
        clear hb
        obtain ⟨R0, R1, Rf0, Rf1, -⟩ := id R
        obtain ⟨z0, z1⟩ := set2 R0 R1 (.int .i64 (0)) (.int .i64 (0))
        go_wp2_with fail
        refine bodyPost_ret (v := .tuple #[.agg #[.int .i64 (0), .int .i64 (0)], .int .i64 7]) (by simp [results, Tryz.results9, go_sem, z0, z1]) rfl ⟨rfl, ?_⟩
        exact below_set2 HB.out (by omega) _ _
      · have hz : (i : Int) < (s.size : Int) := by omega
        have h32 := hat hk hk
        have hb : (((s[i]'hk).toNat : Int) == 32) = true := beq_iff_eq.2 h32
        have hq : ((i : Int) == (s.size : Int)) = false := beq_eq_false_iff_ne.2 (by omega)
        have ht : ((i : Int) + 1).toNat = i + 1 := by omega
        have hle : (i : Int) + 1 ≤ (s.size : Int) := by omega
        clear hlow hat h32 hlt
        obtain ⟨R0, R1, Rf0, Rf1, -⟩ := id R
        go_wp2_with fail
        refine ((C1).out _).mono ?_
        rintro e w1 ⟨rfl, hb⟩
        clear R0 R1 Rf0 Rf1
        have R := R.keep hb
        have HB := Lib.hid (bstep HB.out hb)
        clear hb
        obtain ⟨R0, R1, Rf0, Rf1, -⟩ := id R
        go_wp2_with fail
        refine ((C2).out _).mono ?_
        rintro e w2 ⟨rfl, hb⟩
        clear R0 R1 Rf0 Rf1
        have R := R.keep hb
        have HB := Lib.hid (bstep HB.out hb)
        clear hb
        obtain ⟨R0, R1, Rf0, Rf1, -⟩ := id R
        obtain ⟨z0, z1⟩ := set2 R0 R1 (.int .i64 (0)) (.int .i64 (0))
        go_wp2_with fail
        refine bodyPost_ret (v := .tuple #[.agg #[.int .i64 (0), .int .i64 (0)], .int .i64 7]) (by simp [results, Tryz.results9, go_sem, z0, z1]) rfl ⟨rfl, ?_⟩
        exact below_set2 HB.out (by omega) _ _
      · have hz : (i : Int) < (s.size : Int) := by omega
        have h32 := hat hk hk
        have hb : (((s[i]'hk).toNat : Int) == 32) = true := beq_iff_eq.2 h32
        have hq : ((i : Int) == (s.size : Int)) = false := beq_eq_false_iff_ne.2 (by omega)
        have ht : ((i : Int) + 1).toNat = i + 1 := by omega
        have hle : (i : Int) + 1 ≤ (s.size : Int) := by omega
        clear hlow hat h32 hlt
        obtain ⟨R0, R1, Rf0, Rf1, -⟩ := id R
        go_wp2_with fail
        refine ((C1).out _).mono ?_
        rintro e w1 ⟨rfl, hb⟩
        clear R0 R1 Rf0 Rf1
        have R := R.keep hb
        have HB := Lib.hid (bstep HB.out hb)
        clear hb
        obtain ⟨R0, R1, Rf0, Rf1, -⟩ := id R
        go_wp2_with fail
        refine ((C2).out _).mono ?_
        rintro e w2 ⟨rfl, hb⟩
        clear R0 R1 Rf0 Rf1
        have R := R.keep hb
        have HB := Lib.hid (bstep HB.out hb)
        clear hb
        obtain ⟨R0, R1, Rf0, Rf1, -⟩ := id R
        clear R0 R1 Rf0 Rf1
        have R := R.alloc (.cells #[.int .i64 x, .int .i64 y] 23)
        have P := At2.new w2 (.int .i64 x) (.int .i64 y) 23
        have HB := Lib.hid (bstep HB.out (below1 w2 (.cells #[.int .i64 x, .int .i64 y] 23)))
        obtain ⟨R0, R1, Rf0, Rf1, -⟩ := id R
        obtain ⟨P0, P1, -, -, -⟩ := id P
        go_wp2_with fail
        refine ((CV).out _).mono ?_
        rintro e w3 ⟨rfl, hb⟩
        clear R0 R1 Rf0 Rf1 P0 P1
        have R := R.keep hb
        have P := P.keep hb
        have HB := Lib.hid (bstep HB.out hb)
        clear hb
        obtain ⟨R0, R1, Rf0, Rf1, -⟩ := id R
        obtain ⟨P0, P1, -, -, -⟩ := id P
        obtain ⟨z0, z1⟩ := set2 R0 R1 (.int .i64 (0)) (.int .i64 (0))
        go_wp2_with fail
        refine bodyPost_ret (v := .tuple #[.agg #[.int .i64 (0), .int .i64 (0)], .int .i64 2]) (by simp [results, Tryz.results9, go_sem, z0, z1]) rfl ⟨rfl, ?_⟩
        exact below_set2 HB.out (by omega) _ _
      · have hz : (i : Int) < (s.size : Int) := by omega
        have h32 := hat hk hk
        have hb : (((s[i]'hk).toNat : Int) == 32) = true := beq_iff_eq.2 h32
        have hq : ((i : Int) == (s.size : Int)) = false := beq_eq_false_iff_ne.2 (by omega)
        have ht : ((i : Int) + 1).toNat = i + 1 := by omega
        have hle : (i : Int) + 1 ≤ (s.size : Int) := by omega
        clear hlow hat h32 hlt
        obtain ⟨R0, R1, Rf0, Rf1, -⟩ := id R
        go_wp2_with fail
        refine ((C1).out _).mono ?_
        rintro e w1 ⟨rfl, hb⟩
        clear R0 R1 Rf0 Rf1
        have R := R.keep hb
        have HB := Lib.hid (bstep HB.out hb)
        clear hb
        obtain ⟨R0, R1, Rf0, Rf1, -⟩ := id R
        go_wp2_with fail
        refine ((C2).out _).mono ?_
        rintro e w2 ⟨rfl, hb⟩
        clear R0 R1 Rf0 Rf1
        have R := R.keep hb
        have HB := Lib.hid (bstep HB.out hb)
        clear hb
        obtain ⟨R0, R1, Rf0, Rf1, -⟩ := id R
        clear R0 R1 Rf0 Rf1
        have R := R.alloc (.cells #[.int .i64 rx, .int .i64 ry] 23)
        have P := At2.new w2 (.int .i64 rx) (.int .i64 ry) 23
        have HB := Lib.hid (bstep HB.out (below1 w2 (.cells #[.int .i64 rx, .int .i64 ry] 23)))
        obtain ⟨R0, R1, Rf0, Rf1, -⟩ := id R
        obtain ⟨P0, P1, -, -, -⟩ := id P
        go_wp2_with fail
        refine ((CV).out _).mono ?_
        rintro e w3 ⟨rfl, hb⟩
        clear R0 R1 Rf0 Rf1 P0 P1
        have R := R.keep hb
        have P := P.keep hb
        have HB := Lib.hid (bstep HB.out hb)
        clear hb
        obtain ⟨R0, R1, Rf0, Rf1, -⟩ := id R
        obtain ⟨P0, P1, -, -, -⟩ := id P
        obtain ⟨z0, z1⟩ := set2 R0 R1 (.int .i64 (rx)) (.int .i64 (ry))
        go_wp2_with fail
        refine bodyPost_ret (v := .tuple #[.agg #[.int .i64 (rx), .int .i64 (ry)], .int .i64 0]) (by simp [results, Tryz.results9, go_sem, z0, z1]) rfl ⟨rfl, ?_⟩
        exact below_set2 HB.out (by omega) _ _
theorem rpParse (l : List UInt8) (w : World) (hl : l.length ≤ 900) :
    Calls Tryz.prog 9 #[.string (ba l)] w fun e w' => e = .returned (.tuple #[.agg #[.int .i64 (rdX l), .int .i64 (rdY l)], .int .i64 (rdE l)]) ∧ Below w.heap.size w w' := by
  obtain ⟨X, Y, N, f, hc, hN, hlow, hat, hX, hY, hXl, hYl⟩ : ∃ (X Y : List UInt8) (N : Nat) (f : Bool), Lib.cut l [32] = (X, Y, f) ∧ N ≤ (ba l).size ∧ (∀ (i : Nat) (h : i < (ba l).size), i < N → (((ba l)[i]'h).toNat : Int) ≠ 32) ∧ (N < (ba l).size → ∀ h : N < (ba l).size, (((ba l)[N]'h).toNat : Int) = 32) ∧ (ba l).extract 0 N = ba X ∧ (ba l).extract (N + 1) (ba l).size = ba Y ∧ (X.length ≤ 900 ∧ (N = (ba l).size → Y = [])) ∧ Y.length ≤ 900 := by
    rcases cut_cases 32 l with ⟨X, Y, e, hX, hc⟩ | ⟨hX, hc⟩
    · subst e
      have hsz : (ba (X ++ 32 :: Y)).size = X.length + (Y.length + 1) := by rw [ba_size]; simp
      refine ⟨X, Y, X.length, true, hc, by omega, ?_, ?_, ?_, ?_, ⟨by simp at hl; omega, fun q => by omega⟩, by simp at hl; omega⟩
      · intro i h hi
        have e : (ba (X ++ 32 :: Y))[i]'h = X[i] := by rw [← at_toList]; simp [ba, List.getElem_append_left hi]
        rw [e]
        intro q
        exact hX X[i] (List.getElem_mem _) (UInt8.toNat_inj.1 (by rw [show (32 : UInt8).toNat = 32 from rfl]; omega))
      · intro _ h
        have e : (ba (X ++ 32 :: Y))[X.length]'h = 32 := by rw [← at_toList]; simp [ba]
        rw [e]; rfl
      · apply ByteArray.ext; simp [ba]
      · apply ByteArray.ext; rw [hsz]; simp [ba]; exact List.take_of_length_le (by omega)
    · have hsz : (ba l).size = l.length := ba_size l
      refine ⟨l, [], l.length, false, hc, by omega, ?_, fun q => by omega, ?_, ?_, ⟨hl, fun _ => rfl⟩, by simp⟩
      · intro i h hi
        have e : (ba l)[i]'h = l[i] := by rw [← at_toList]; simp [ba]
        rw [e]
        intro q
        exact hX l[i] (List.getElem_mem _) (UInt8.toNat_inj.1 (by rw [show (32 : UInt8).toNat = 32 from rfl]; omega))
      · apply ByteArray.ext; rw [← hsz]; simp [ba]
      · apply ByteArray.ext; rw [hsz]; simp [ba]
  have e1 := coE_or X 78 83
  have e2 := coE_or Y 69 87
  have b1 := coV_bd X 78 83
  have b2 := coV_bd Y 69 87
  refine rparse_walk (ba l) (ba X) (ba Y) N (reV X 78 83) (reV Y 69 87) (reE X 78 83) (reE Y 69 87) (rdX l) (rdY l) (rdE l) (ptOk (reV X 78 83) (reV Y 69 87)) w (by rw [ba_size]; exact hl) hN (Lib.hid hlow) hat hX hY (Lib.hid fun wx => rpParsed X 78 83 (by decide) (by decide) (by decide) wx hXl.1) (Lib.hid fun wx => rpParsed Y 69 87 (by decide) (by decide) (by decide) wx hYl) (Lib.hid fun wx => rpPoint _ _ wx) ?_
  have hE : rdE l = if coE X 78 83 = 7 ∨ coE Y 69 87 = 7 then 7 else if coE X 78 83 = 0 ∧ coE Y 69 87 = 0 ∧ ptOk (coV X 78 83) (coV Y 69 87) = true then 0 else 2 := by unfold rdE; rw [hc]
  have hXv : rdX l = if rdE l = 0 then coV X 78 83 else 0 := by unfold rdX; rw [hc]
  have hYv : rdY l = if rdE l = 0 then coV Y 69 87 else 0 := by unfold rdY; rw [hc]
  rw [hXv, hYv]
  by_cases hk : N = (ba l).size
  · have hy : coE Y 69 87 = 7 := by rw [hXl.2 hk]; rfl
    rw [if_pos (Or.inr hy)] at hE
    rw [hE, if_neg (by decide), if_neg (by decide)]
    exact .inl ⟨hk, rfl, rfl, rfl⟩
  · have hk : N < (ba l).size := by omega
    have V1 : reV X 78 83 = if coE X 78 83 = 0 then coV X 78 83 else if coE X 78 83 = 5 then 1099511627776 else 0 := rfl
    have V2 : reV Y 69 87 = if coE Y 69 87 = 0 then coV Y 69 87 else if coE Y 69 87 = 5 then 1099511627776 else 0 := rfl
    have E1 : reE X 78 83 = if coE X 78 83 = 7 then 7 else 0 := rfl
    have E2 : reE Y 69 87 = if coE Y 69 87 = 7 then 7 else 0 := rfl
    rw [V1, V2, E1, E2]
    generalize coE X 78 83 = a at *
    generalize coE Y 69 87 = b at *
    generalize coV X 78 83 = p at *
    generalize coV Y 69 87 = q at *
    clear V1 V2 E1 E2 hXv hYv hc hlow hat hX hY hXl hYl
    by_cases ha : a = 7
    · rw [if_pos (Or.inl ha)] at hE
      rw [hE, if_neg (by decide), if_neg (by decide), if_pos ha]
      exact .inr (.inl ⟨hk, rfl, rfl, rfl, rfl⟩)
    · by_cases hb : b = 7
      · rw [if_pos (Or.inr hb)] at hE
        rw [hE, if_neg (by decide), if_neg (by decide), if_neg ha, if_pos hb]
        exact .inr (.inr (.inl ⟨hk, rfl, rfl, rfl, rfl, rfl⟩))
      · rw [if_neg (fun z => z.elim ha hb)] at hE
        rw [if_neg ha, if_neg hb]
        by_cases h0 : a = 0 ∧ b = 0 ∧ ptOk p q = true
        · rw [if_pos h0] at hE
          rw [hE, if_pos rfl, if_pos rfl, if_pos h0.1, if_pos h0.2.1]
          exact .inr (.inr (.inr (.inr ⟨hk, rfl, rfl, h0.2.2, rfl, rfl, rfl⟩)))
        · rw [if_neg h0] at hE
          rw [hE, if_neg (by decide), if_neg (by decide)]
          refine .inr (.inr (.inr (.inl ⟨hk, rfl, rfl, ?_, rfl, rfl, rfl⟩)))
          by_cases a0 : a = 0
          · rw [if_pos a0]
            by_cases b0 : b = 0
            · rw [if_pos b0]
              cases hv : ptOk p q
              · rfl
              · exact absurd ⟨a0, b0, hv⟩ h0
            · rw [if_neg b0, if_pos (by omega), ptOk_not]
              omega
          · rw [if_neg a0, if_pos (by omega), ptOk_not]
            omega
/-- the printed place -/
def prP (a b c d : Int) : ByteArray := (prS a b ++ ⟨#[59, 32]⟩) ++ prS c d
theorem prS_size (a b : Int) : (prS a b).size ≤ 80 := by
  have t1 := textT_len (rndT a)
  have t2 := textT_len (rndT b)
  unfold prS
  split
  · rw [ba_size]
    unfold prT
    split
    · omega
    · simp only [List.length_append, List.length_cons, List.length_nil]; omega
  · rw [ba_size]; simp
theorem lon_aok {c d : Int} (h : lonOk c d = true) : aok c d = true := by have := lon_bd h; exact aok_mk (by omega) (by omega) (by omega)
theorem pPlPrint (a b c d : Int) (w : World) (H : HasAll w) (htab : Tab w) :
    Calls Tryz.prog 10 #[.agg #[.int .i64 a, .int .i64 b, .int .i64 c, .int .i64 d]] w fun e w' => e = .returned (.tuple #[.string (if plOk a b c d = true then prP a b c d else ⟨#[]⟩), .int .i64 (if plOk a b c d = true then 0 else 1)]) ∧ Below w.heap.size w w' := by
  have CV := Lib.hid (fun wx (Hx : HasAll wx) => pPlValid a b c d wx Hx)
  have P1 := Lib.hid (fun wx (hb : Below w.heap.size w wx) => pPrint a b wx (Lib.tabBelow_of_tabIs htab wx hb))
  have P2 := Lib.hid (fun wx (hb : Below w.heap.size w wx) => pPrint c d wx (Lib.tabBelow_of_tabIs htab wx hb))
  have z1 := prS_size a b
  have z2 := prS_size c d
  have E : Hid (prP a b c d = (prS a b ++ ⟨#[59, 32]⟩) ++ prS c d) := rfl
  have A := At4.new w (.int .i64 a) (.int .i64 b) (.int .i64 c) (.int .i64 d) 27
  have HB := Lib.hid (below1 w (.cells #[.int .i64 a, .int .i64 b, .int .i64 c, .int .i64 d] 27))
  have G := H.below HB.out
  generalize prP a b c d = R at *
  generalize prS a b = T at *
  generalize prS c d = U at *
  generalize prE a b = e1 at *
  generalize prE c d = e2 at *
  obtain ⟨A0, A1, A2, A3, -, -, -, -, -⟩ := id A
  cases hv : plOk a b c d
  · rw [hv] at CV
    clear hv
    go_enter Tryz.func10, Tryz.ntmps10
    go_wp2_with fail
    refine ((CV).out _ G).mono ?_
    rintro e w1 ⟨rfl, hb⟩
    clear A0 A1 A2 A3
    have A := A.keep hb
    have G := G.below hb
    have HB := Lib.hid (bstep HB.out hb)
    clear hb
    obtain ⟨A0, A1, A2, A3, -, -, -, -, -⟩ := id A
    go_wp2_with fail
    go_ret2
    exact ⟨rfl, HB.out⟩
  · rw [hv] at CV
    clear hv
    go_enter Tryz.func10, Tryz.ntmps10
    go_wp2_with fail
    refine ((CV).out _ G).mono ?_
    rintro e w1 ⟨rfl, hb⟩
    clear A0 A1 A2 A3
    have A := A.keep hb
    have G := G.below hb
    have HB := Lib.hid (bstep HB.out hb)
    clear hb
    obtain ⟨A0, A1, A2, A3, -, -, -, -, -⟩ := id A
    go_wp2_with fail
    refine ((P1).out _ HB.out).mono ?_
    rintro e w2 ⟨rfl, hb⟩
    clear A0 A1 A2 A3
    have A := A.keep hb
    have G := G.below hb
    have HB := Lib.hid (bstep HB.out hb)
    clear hb
    obtain ⟨A0, A1, A2, A3, -, -, -, -, -⟩ := id A
    go_wp2_with fail
    refine ((P2).out _ HB.out).mono ?_
    rintro e w3 ⟨rfl, hb⟩
    clear A0 A1 A2 A3
    have A := A.keep hb
    have G := G.below hb
    have HB := Lib.hid (bstep HB.out hb)
    clear hb
    obtain ⟨A0, A1, A2, A3, -, -, -, -, -⟩ := id A
    go_wp2_with fail
    go_ret2
    exact ⟨congrArg (fun r => Ending.returned (Value.tuple #[Value.string r, Value.int .i64 0])) E.out.symm, HB.out⟩
theorem rpPrint (a b c d : Int) (w : World) (h : plOk a b c d = true) :
    Calls Tryz.prog 12 #[.agg #[.int .i64 a, .int .i64 b, .int .i64 c, .int .i64 d]] w fun e w' => e = .returned (.string (prP a b c d)) ∧ Below w.heap.size w w' := by
  obtain ⟨l1, n1⟩ := (plOk_iff _ _ _ _).1 h
  have P1 := Lib.hid (fun wx => rPrint a b wx (lat_aok l1))
  have P2 := Lib.hid (fun wx => rPrint c d wx (lon_aok n1))
  have z1 := prS_size a b
  have z2 := prS_size c d
  have E : Hid (prP a b c d = (prS a b ++ ⟨#[59, 32]⟩) ++ prS c d) := rfl
  have A := At4.new w (.int .i64 a) (.int .i64 b) (.int .i64 c) (.int .i64 d) 27
  have HB := Lib.hid (below1 w (.cells #[.int .i64 a, .int .i64 b, .int .i64 c, .int .i64 d] 27))
  generalize prP a b c d = R at *
  generalize prS a b = T at *
  generalize prS c d = U at *
  generalize prE a b = e1 at *
  generalize prE c d = e2 at *
  clear l1 n1 h
  obtain ⟨A0, A1, A2, A3, -, -, -, -, -⟩ := id A
  go_enter Tryz.func12, Tryz.ntmps12
  go_wp2_with fail
  refine ((P1).out _).mono ?_
  rintro e w1 ⟨rfl, hb⟩
  clear A0 A1 A2 A3
  have A := A.keep hb
  have HB := Lib.hid (bstep HB.out hb)
  clear hb
  obtain ⟨A0, A1, A2, A3, -, -, -, -, -⟩ := id A
  go_wp2_with fail
  refine ((P2).out _).mono ?_
  rintro e w2 ⟨rfl, hb⟩
  clear A0 A1 A2 A3
  have A := A.keep hb
  have HB := Lib.hid (bstep HB.out hb)
  clear hb
  obtain ⟨A0, A1, A2, A3, -, -, -, -, -⟩ := id A
  go_wp2_with fail
  go_ret
  exact ⟨ret_s8 E.out.symm, HB.out⟩
set_option maxHeartbeats 4000000 in
theorem texts8 (x y a b c d : Int) (s : ByteArray) (w : World) (H : Pc8 w) (hm : HasMax w) (he : HasErr w) :
    Calls Tryz.prog 3 #[.agg #[.int .i64 x, .int .i64 y], .agg #[.int .i64 a, .int .i64 b, .int .i64 c, .int .i64 d], .string s] w fun r w' => r = .returned (.bool true) ∧ Below w.heap.size w w' := by
  have CW := Lib.hid (fun wx (Hx : Pc8 wx) => awake8 wx Hx)
  have T1 := Lib.hid (fun wx (Hx : Tab wx) => pPtText x y wx Hx)
  have V1 := Lib.hid (fun wx => rpPoint x y wx)
  have R1 := Lib.hid (fun wx (hp : ptOk x y = true) => rpText x y wx hp)
  have PP := Lib.hid (fun wx (Hx : Pc8 wx) => pPlPrint a b c d wx Hx.all Hx.tab)
  have V2 := Lib.hid (fun wx => rpValid a b c d wx)
  have RP := Lib.hid (fun wx (hp : plOk a b c d = true) => rpPrint a b c d wx hp)
  have es : s = ba s.data.toList := by apply ByteArray.ext; simp [ba]
  generalize prP a b c d = U at *
  have Q := (At2.new w (.int .i64 x) (.int .i64 y) 23).alloc (.cells #[.int .i64 a, .int .i64 b, .int .i64 c, .int .i64 d] 27)
  have A := At4.new (w.alloc (.cells #[.int .i64 x, .int .i64 y] 23)) (.int .i64 a) (.int .i64 b) (.int .i64 c) (.int .i64 d) 27
  have HB := Lib.hid (below2 w (.cells #[.int .i64 x, .int .i64 y] 23) (.cells #[.int .i64 a, .int .i64 b, .int .i64 c, .int .i64 d] 27))
  simp at A
  have G := H.below HB.out
  obtain ⟨Q0, Q1, -, -, -⟩ := id Q
  obtain ⟨A0, A1, A2, A3, -, -, -, -, -⟩ := id A
  by_cases hs : s.size > 60
  · have hsz : (s.size : Int) > 60 := by omega
    clear es T1 V1 R1 PP V2 RP
    go_enter Tryz.func3, Tryz.ntmps3
    go_wp2_with fail
    refine ((CW).out _ G).mono ?_
    rintro e w1 ⟨rfl, hb⟩
    clear Q0 Q1 A0 A1 A2 A3
    have Q := Q.keep hb
    have A := A.keep hb
    have G := G.below hb
    have HB := Lib.hid (bstep HB.out hb)
    clear hb
    obtain ⟨Q0, Q1, -, -, -⟩ := id Q
    obtain ⟨A0, A1, A2, A3, -, -, -, -, -⟩ := id A
    go_wp2_with fail
    go_ret
    exact ⟨by first | rfl | exact ret_bool (by simp), HB.out⟩
  · have hsz : ¬ (s.size : Int) > 60 := by omega
    have hl : s.data.toList.length ≤ 900 := by have : s.data.toList.length = s.size := by simp
                                               omega
    have C1 := Lib.hid (fun wx (hb : Below w.heap.size w wx) => pPtParse s.data.toList wx hl (hm.below hb) (he.below hb))
    have C2 := Lib.hid (fun wx => rpParse s.data.toList wx hl)
    rw [← es] at C1 C2
    generalize rdX s.data.toList = u at *
    generalize rdY s.data.toList = v at *
    generalize rdE s.data.toList = k at *
    clear es hl hs
    cases h1 : ptOk x y
    · cases h2 : plOk a b c d
      · rw [show ptS x y = ⟨#[]⟩ from if_neg (by rw [h1]; simp), show ptE x y = 1 from if_neg (by rw [h1]; simp)] at T1
        rw [h1] at V1
        rw [h2, if_neg (by decide), if_neg (by decide)] at PP
        rw [h2] at V2
        clear R1 RP h1 h2
        go_enter Tryz.func3, Tryz.ntmps3
        go_wp2_with fail
        refine ((CW).out _ G).mono ?_
        rintro e w1 ⟨rfl, hb⟩
        clear Q0 Q1 A0 A1 A2 A3
        have Q := Q.keep hb
        have A := A.keep hb
        have G := G.below hb
        have HB := Lib.hid (bstep HB.out hb)
        clear hb
        obtain ⟨Q0, Q1, -, -, -⟩ := id Q
        obtain ⟨A0, A1, A2, A3, -, -, -, -, -⟩ := id A
        go_wp2_with fail
        refine ((T1).out _ G.tab).mono ?_
        rintro e w2 ⟨rfl, hb⟩
        clear Q0 Q1 A0 A1 A2 A3
        have Q := Q.keep hb
        have A := A.keep hb
        have G := G.below hb
        have HB := Lib.hid (bstep HB.out hb)
        clear hb
        obtain ⟨Q0, Q1, -, -, -⟩ := id Q
        obtain ⟨A0, A1, A2, A3, -, -, -, -, -⟩ := id A
        go_wp2_with fail
        refine ((V1).out _).mono ?_
        rintro e w3 ⟨rfl, hb⟩
        clear Q0 Q1 A0 A1 A2 A3
        have Q := Q.keep hb
        have A := A.keep hb
        have G := G.below hb
        have HB := Lib.hid (bstep HB.out hb)
        clear hb
        obtain ⟨Q0, Q1, -, -, -⟩ := id Q
        obtain ⟨A0, A1, A2, A3, -, -, -, -, -⟩ := id A
        go_wp2_with fail
        refine ((C1).out _ HB.out).mono ?_
        rintro e w4 ⟨rfl, hb⟩
        clear Q0 Q1 A0 A1 A2 A3
        have Q := Q.keep hb
        have A := A.keep hb
        have G := G.below hb
        have HB := Lib.hid (bstep HB.out hb)
        clear hb
        obtain ⟨Q0, Q1, -, -, -⟩ := id Q
        obtain ⟨A0, A1, A2, A3, -, -, -, -, -⟩ := id A
        clear Q0 Q1 A0 A1 A2 A3
        have Q := Q.alloc (.cells #[.int .i64 u, .int .i64 v] 23)
        have A := A.alloc (.cells #[.int .i64 u, .int .i64 v] 23)
        have G := G.below (below1 w4 (.cells #[.int .i64 u, .int .i64 v] 23))
        have X := At2.new w4 (.int .i64 u) (.int .i64 v) 23
        have HB := Lib.hid (bstep HB.out (below1 w4 (.cells #[.int .i64 u, .int .i64 v] 23)))
        obtain ⟨Q0, Q1, -, -, -⟩ := id Q
        obtain ⟨A0, A1, A2, A3, -, -, -, -, -⟩ := id A
        obtain ⟨X0, X1, -, -, -⟩ := id X
        go_wp2_with fail
        refine ((C2).out _).mono ?_
        rintro e w5 ⟨rfl, hb⟩
        clear Q0 Q1 A0 A1 A2 A3 X0 X1
        have Q := Q.keep hb
        have A := A.keep hb
        have X := X.keep hb
        have G := G.below hb
        have HB := Lib.hid (bstep HB.out hb)
        clear hb
        obtain ⟨Q0, Q1, -, -, -⟩ := id Q
        obtain ⟨A0, A1, A2, A3, -, -, -, -, -⟩ := id A
        obtain ⟨X0, X1, -, -, -⟩ := id X
        clear Q0 Q1 A0 A1 A2 A3 X0 X1
        have Q := Q.alloc (.cells #[.int .i64 u, .int .i64 v] 23)
        have A := A.alloc (.cells #[.int .i64 u, .int .i64 v] 23)
        have X := X.alloc (.cells #[.int .i64 u, .int .i64 v] 23)
        have G := G.below (below1 w5 (.cells #[.int .i64 u, .int .i64 v] 23))
        have Y := At2.new w5 (.int .i64 u) (.int .i64 v) 23
        have HB := Lib.hid (bstep HB.out (below1 w5 (.cells #[.int .i64 u, .int .i64 v] 23)))
        obtain ⟨Q0, Q1, -, -, -⟩ := id Q
        obtain ⟨A0, A1, A2, A3, -, -, -, -, -⟩ := id A
        obtain ⟨X0, X1, -, -, -⟩ := id X
        obtain ⟨Y0, Y1, -, -, -⟩ := id Y
        go_wp2_with fail
        refine ((PP).out _ G).mono ?_
        rintro e w6 ⟨rfl, hb⟩
        clear Q0 Q1 A0 A1 A2 A3 X0 X1 Y0 Y1
        have Q := Q.keep hb
        have A := A.keep hb
        have X := X.keep hb
        have Y := Y.keep hb
        have G := G.below hb
        have HB := Lib.hid (bstep HB.out hb)
        clear hb
        obtain ⟨Q0, Q1, -, -, -⟩ := id Q
        obtain ⟨A0, A1, A2, A3, -, -, -, -, -⟩ := id A
        obtain ⟨X0, X1, -, -, -⟩ := id X
        obtain ⟨Y0, Y1, -, -, -⟩ := id Y
        go_wp2_with fail
        refine ((V2).out _).mono ?_
        rintro e w7 ⟨rfl, hb⟩
        clear Q0 Q1 A0 A1 A2 A3 X0 X1 Y0 Y1
        have Q := Q.keep hb
        have A := A.keep hb
        have X := X.keep hb
        have Y := Y.keep hb
        have G := G.below hb
        have HB := Lib.hid (bstep HB.out hb)
        clear hb
        obtain ⟨Q0, Q1, -, -, -⟩ := id Q
        obtain ⟨A0, A1, A2, A3, -, -, -, -, -⟩ := id A
        obtain ⟨X0, X1, -, -, -⟩ := id X
        obtain ⟨Y0, Y1, -, -, -⟩ := id Y
        go_wp2_with fail
        go_ret
        exact ⟨by first | rfl | exact ret_bool (by simp), HB.out⟩
      · rw [show ptS x y = ⟨#[]⟩ from if_neg (by rw [h1]; simp), show ptE x y = 1 from if_neg (by rw [h1]; simp)] at T1
        rw [h1] at V1
        have RP2 := Lib.hid (fun wx => RP.out wx h2)
        rw [h2, if_pos rfl, if_pos rfl] at PP
        rw [h2] at V2
        clear R1 RP h1 h2
        go_enter Tryz.func3, Tryz.ntmps3
        go_wp2_with fail
        refine ((CW).out _ G).mono ?_
        rintro e w1 ⟨rfl, hb⟩
        clear Q0 Q1 A0 A1 A2 A3
        have Q := Q.keep hb
        have A := A.keep hb
        have G := G.below hb
        have HB := Lib.hid (bstep HB.out hb)
        clear hb
        obtain ⟨Q0, Q1, -, -, -⟩ := id Q
        obtain ⟨A0, A1, A2, A3, -, -, -, -, -⟩ := id A
        go_wp2_with fail
        refine ((T1).out _ G.tab).mono ?_
        rintro e w2 ⟨rfl, hb⟩
        clear Q0 Q1 A0 A1 A2 A3
        have Q := Q.keep hb
        have A := A.keep hb
        have G := G.below hb
        have HB := Lib.hid (bstep HB.out hb)
        clear hb
        obtain ⟨Q0, Q1, -, -, -⟩ := id Q
        obtain ⟨A0, A1, A2, A3, -, -, -, -, -⟩ := id A
        go_wp2_with fail
        refine ((V1).out _).mono ?_
        rintro e w3 ⟨rfl, hb⟩
        clear Q0 Q1 A0 A1 A2 A3
        have Q := Q.keep hb
        have A := A.keep hb
        have G := G.below hb
        have HB := Lib.hid (bstep HB.out hb)
        clear hb
        obtain ⟨Q0, Q1, -, -, -⟩ := id Q
        obtain ⟨A0, A1, A2, A3, -, -, -, -, -⟩ := id A
        go_wp2_with fail
        refine ((C1).out _ HB.out).mono ?_
        rintro e w4 ⟨rfl, hb⟩
        clear Q0 Q1 A0 A1 A2 A3
        have Q := Q.keep hb
        have A := A.keep hb
        have G := G.below hb
        have HB := Lib.hid (bstep HB.out hb)
        clear hb
        obtain ⟨Q0, Q1, -, -, -⟩ := id Q
        obtain ⟨A0, A1, A2, A3, -, -, -, -, -⟩ := id A
        clear Q0 Q1 A0 A1 A2 A3
        have Q := Q.alloc (.cells #[.int .i64 u, .int .i64 v] 23)
        have A := A.alloc (.cells #[.int .i64 u, .int .i64 v] 23)
        have G := G.below (below1 w4 (.cells #[.int .i64 u, .int .i64 v] 23))
        have X := At2.new w4 (.int .i64 u) (.int .i64 v) 23
        have HB := Lib.hid (bstep HB.out (below1 w4 (.cells #[.int .i64 u, .int .i64 v] 23)))
        obtain ⟨Q0, Q1, -, -, -⟩ := id Q
        obtain ⟨A0, A1, A2, A3, -, -, -, -, -⟩ := id A
        obtain ⟨X0, X1, -, -, -⟩ := id X
        go_wp2_with fail
        refine ((C2).out _).mono ?_
        rintro e w5 ⟨rfl, hb⟩
        clear Q0 Q1 A0 A1 A2 A3 X0 X1
        have Q := Q.keep hb
        have A := A.keep hb
        have X := X.keep hb
        have G := G.below hb
        have HB := Lib.hid (bstep HB.out hb)
        clear hb
        obtain ⟨Q0, Q1, -, -, -⟩ := id Q
        obtain ⟨A0, A1, A2, A3, -, -, -, -, -⟩ := id A
        obtain ⟨X0, X1, -, -, -⟩ := id X
        clear Q0 Q1 A0 A1 A2 A3 X0 X1
        have Q := Q.alloc (.cells #[.int .i64 u, .int .i64 v] 23)
        have A := A.alloc (.cells #[.int .i64 u, .int .i64 v] 23)
        have X := X.alloc (.cells #[.int .i64 u, .int .i64 v] 23)
        have G := G.below (below1 w5 (.cells #[.int .i64 u, .int .i64 v] 23))
        have Y := At2.new w5 (.int .i64 u) (.int .i64 v) 23
        have HB := Lib.hid (bstep HB.out (below1 w5 (.cells #[.int .i64 u, .int .i64 v] 23)))
        obtain ⟨Q0, Q1, -, -, -⟩ := id Q
        obtain ⟨A0, A1, A2, A3, -, -, -, -, -⟩ := id A
        obtain ⟨X0, X1, -, -, -⟩ := id X
        obtain ⟨Y0, Y1, -, -, -⟩ := id Y
        go_wp2_with fail
        refine ((PP).out _ G).mono ?_
        rintro e w6 ⟨rfl, hb⟩
        clear Q0 Q1 A0 A1 A2 A3 X0 X1 Y0 Y1
        have Q := Q.keep hb
        have A := A.keep hb
        have X := X.keep hb
        have Y := Y.keep hb
        have G := G.below hb
        have HB := Lib.hid (bstep HB.out hb)
        clear hb
        obtain ⟨Q0, Q1, -, -, -⟩ := id Q
        obtain ⟨A0, A1, A2, A3, -, -, -, -, -⟩ := id A
        obtain ⟨X0, X1, -, -, -⟩ := id X
        obtain ⟨Y0, Y1, -, -, -⟩ := id Y
        go_wp2_with fail
        refine ((V2).out _).mono ?_
        rintro e w7 ⟨rfl, hb⟩
        clear Q0 Q1 A0 A1 A2 A3 X0 X1 Y0 Y1
        have Q := Q.keep hb
        have A := A.keep hb
        have X := X.keep hb
        have Y := Y.keep hb
        have G := G.below hb
        have HB := Lib.hid (bstep HB.out hb)
        clear hb
        obtain ⟨Q0, Q1, -, -, -⟩ := id Q
        obtain ⟨A0, A1, A2, A3, -, -, -, -, -⟩ := id A
        obtain ⟨X0, X1, -, -, -⟩ := id X
        obtain ⟨Y0, Y1, -, -, -⟩ := id Y
        go_wp2_with fail
        refine ((RP2).out _).mono ?_
        rintro e w8 ⟨rfl, hb⟩
        clear Q0 Q1 A0 A1 A2 A3 X0 X1 Y0 Y1
        have Q := Q.keep hb
        have A := A.keep hb
        have X := X.keep hb
        have Y := Y.keep hb
        have G := G.below hb
        have HB := Lib.hid (bstep HB.out hb)
        clear hb
        obtain ⟨Q0, Q1, -, -, -⟩ := id Q
        obtain ⟨A0, A1, A2, A3, -, -, -, -, -⟩ := id A
        obtain ⟨X0, X1, -, -, -⟩ := id X
        obtain ⟨Y0, Y1, -, -, -⟩ := id Y
        go_wp2_with fail
        go_ret
        exact ⟨by first | rfl | exact ret_bool (by simp), HB.out⟩
    · cases h2 : plOk a b c d
      · have R2 := Lib.hid (fun wx => R1.out wx h1)
        rw [show ptS x y = ba (ptT x y) from if_pos h1, show ptE x y = 0 from if_pos h1] at T1
        rw [h1] at V1
        generalize ba (ptT x y) = T at *
        rw [h2, if_neg (by decide), if_neg (by decide)] at PP
        rw [h2] at V2
        clear R1 RP h1 h2
        go_enter Tryz.func3, Tryz.ntmps3
        go_wp2_with fail
        refine ((CW).out _ G).mono ?_
        rintro e w1 ⟨rfl, hb⟩
        clear Q0 Q1 A0 A1 A2 A3
        have Q := Q.keep hb
        have A := A.keep hb
        have G := G.below hb
        have HB := Lib.hid (bstep HB.out hb)
        clear hb
        obtain ⟨Q0, Q1, -, -, -⟩ := id Q
        obtain ⟨A0, A1, A2, A3, -, -, -, -, -⟩ := id A
        go_wp2_with fail
        refine ((T1).out _ G.tab).mono ?_
        rintro e w2 ⟨rfl, hb⟩
        clear Q0 Q1 A0 A1 A2 A3
        have Q := Q.keep hb
        have A := A.keep hb
        have G := G.below hb
        have HB := Lib.hid (bstep HB.out hb)
        clear hb
        obtain ⟨Q0, Q1, -, -, -⟩ := id Q
        obtain ⟨A0, A1, A2, A3, -, -, -, -, -⟩ := id A
        go_wp2_with fail
        refine ((V1).out _).mono ?_
        rintro e w3 ⟨rfl, hb⟩
        clear Q0 Q1 A0 A1 A2 A3
        have Q := Q.keep hb
        have A := A.keep hb
        have G := G.below hb
        have HB := Lib.hid (bstep HB.out hb)
        clear hb
        obtain ⟨Q0, Q1, -, -, -⟩ := id Q
        obtain ⟨A0, A1, A2, A3, -, -, -, -, -⟩ := id A
        go_wp2_with fail
        refine ((R2).out _).mono ?_
        rintro e w4 ⟨rfl, hb⟩
        clear Q0 Q1 A0 A1 A2 A3
        have Q := Q.keep hb
        have A := A.keep hb
        have G := G.below hb
        have HB := Lib.hid (bstep HB.out hb)
        clear hb
        obtain ⟨Q0, Q1, -, -, -⟩ := id Q
        obtain ⟨A0, A1, A2, A3, -, -, -, -, -⟩ := id A
        go_wp2_with fail
        refine ((C1).out _ HB.out).mono ?_
        rintro e w5 ⟨rfl, hb⟩
        clear Q0 Q1 A0 A1 A2 A3
        have Q := Q.keep hb
        have A := A.keep hb
        have G := G.below hb
        have HB := Lib.hid (bstep HB.out hb)
        clear hb
        obtain ⟨Q0, Q1, -, -, -⟩ := id Q
        obtain ⟨A0, A1, A2, A3, -, -, -, -, -⟩ := id A
        clear Q0 Q1 A0 A1 A2 A3
        have Q := Q.alloc (.cells #[.int .i64 u, .int .i64 v] 23)
        have A := A.alloc (.cells #[.int .i64 u, .int .i64 v] 23)
        have G := G.below (below1 w5 (.cells #[.int .i64 u, .int .i64 v] 23))
        have X := At2.new w5 (.int .i64 u) (.int .i64 v) 23
        have HB := Lib.hid (bstep HB.out (below1 w5 (.cells #[.int .i64 u, .int .i64 v] 23)))
        obtain ⟨Q0, Q1, -, -, -⟩ := id Q
        obtain ⟨A0, A1, A2, A3, -, -, -, -, -⟩ := id A
        obtain ⟨X0, X1, -, -, -⟩ := id X
        go_wp2_with fail
        refine ((C2).out _).mono ?_
        rintro e w6 ⟨rfl, hb⟩
        clear Q0 Q1 A0 A1 A2 A3 X0 X1
        have Q := Q.keep hb
        have A := A.keep hb
        have X := X.keep hb
        have G := G.below hb
        have HB := Lib.hid (bstep HB.out hb)
        clear hb
        obtain ⟨Q0, Q1, -, -, -⟩ := id Q
        obtain ⟨A0, A1, A2, A3, -, -, -, -, -⟩ := id A
        obtain ⟨X0, X1, -, -, -⟩ := id X
        clear Q0 Q1 A0 A1 A2 A3 X0 X1
        have Q := Q.alloc (.cells #[.int .i64 u, .int .i64 v] 23)
        have A := A.alloc (.cells #[.int .i64 u, .int .i64 v] 23)
        have X := X.alloc (.cells #[.int .i64 u, .int .i64 v] 23)
        have G := G.below (below1 w6 (.cells #[.int .i64 u, .int .i64 v] 23))
        have Y := At2.new w6 (.int .i64 u) (.int .i64 v) 23
        have HB := Lib.hid (bstep HB.out (below1 w6 (.cells #[.int .i64 u, .int .i64 v] 23)))
        obtain ⟨Q0, Q1, -, -, -⟩ := id Q
        obtain ⟨A0, A1, A2, A3, -, -, -, -, -⟩ := id A
        obtain ⟨X0, X1, -, -, -⟩ := id X
        obtain ⟨Y0, Y1, -, -, -⟩ := id Y
        go_wp2_with fail
        refine ((PP).out _ G).mono ?_
        rintro e w7 ⟨rfl, hb⟩
        clear Q0 Q1 A0 A1 A2 A3 X0 X1 Y0 Y1
        have Q := Q.keep hb
        have A := A.keep hb
        have X := X.keep hb
        have Y := Y.keep hb
        have G := G.below hb
        have HB := Lib.hid (bstep HB.out hb)
        clear hb
        obtain ⟨Q0, Q1, -, -, -⟩ := id Q
        obtain ⟨A0, A1, A2, A3, -, -, -, -, -⟩ := id A
        obtain ⟨X0, X1, -, -, -⟩ := id X
        obtain ⟨Y0, Y1, -, -, -⟩ := id Y
        go_wp2_with fail
        refine ((V2).out _).mono ?_
        rintro e w8 ⟨rfl, hb⟩
        clear Q0 Q1 A0 A1 A2 A3 X0 X1 Y0 Y1
        have Q := Q.keep hb
        have A := A.keep hb
        have X := X.keep hb
        have Y := Y.keep hb
        have G := G.below hb
        have HB := Lib.hid (bstep HB.out hb)
        clear hb
        obtain ⟨Q0, Q1, -, -, -⟩ := id Q
        obtain ⟨A0, A1, A2, A3, -, -, -, -, -⟩ := id A
        obtain ⟨X0, X1, -, -, -⟩ := id X
        obtain ⟨Y0, Y1, -, -, -⟩ := id Y
        go_wp2_with fail
        go_ret
        exact ⟨by first | rfl | exact ret_bool (by simp), HB.out⟩
      · have R2 := Lib.hid (fun wx => R1.out wx h1)
        rw [show ptS x y = ba (ptT x y) from if_pos h1, show ptE x y = 0 from if_pos h1] at T1
        rw [h1] at V1
        generalize ba (ptT x y) = T at *
        have RP2 := Lib.hid (fun wx => RP.out wx h2)
        rw [h2, if_pos rfl, if_pos rfl] at PP
        rw [h2] at V2
        clear R1 RP h1 h2
        go_enter Tryz.func3, Tryz.ntmps3
        go_wp2_with fail
        refine ((CW).out _ G).mono ?_
        rintro e w1 ⟨rfl, hb⟩
        clear Q0 Q1 A0 A1 A2 A3
        have Q := Q.keep hb
        have A := A.keep hb
        have G := G.below hb
        have HB := Lib.hid (bstep HB.out hb)
        clear hb
        obtain ⟨Q0, Q1, -, -, -⟩ := id Q
        obtain ⟨A0, A1, A2, A3, -, -, -, -, -⟩ := id A
        go_wp2_with fail
        refine ((T1).out _ G.tab).mono ?_
        rintro e w2 ⟨rfl, hb⟩
        clear Q0 Q1 A0 A1 A2 A3
        have Q := Q.keep hb
        have A := A.keep hb
        have G := G.below hb
        have HB := Lib.hid (bstep HB.out hb)
        clear hb
        obtain ⟨Q0, Q1, -, -, -⟩ := id Q
        obtain ⟨A0, A1, A2, A3, -, -, -, -, -⟩ := id A
        go_wp2_with fail
        refine ((V1).out _).mono ?_
        rintro e w3 ⟨rfl, hb⟩
        clear Q0 Q1 A0 A1 A2 A3
        have Q := Q.keep hb
        have A := A.keep hb
        have G := G.below hb
        have HB := Lib.hid (bstep HB.out hb)
        clear hb
        obtain ⟨Q0, Q1, -, -, -⟩ := id Q
        obtain ⟨A0, A1, A2, A3, -, -, -, -, -⟩ := id A
        go_wp2_with fail
        refine ((R2).out _).mono ?_
        rintro e w4 ⟨rfl, hb⟩
        clear Q0 Q1 A0 A1 A2 A3
        have Q := Q.keep hb
        have A := A.keep hb
        have G := G.below hb
        have HB := Lib.hid (bstep HB.out hb)
        clear hb
        obtain ⟨Q0, Q1, -, -, -⟩ := id Q
        obtain ⟨A0, A1, A2, A3, -, -, -, -, -⟩ := id A
        go_wp2_with fail
        refine ((C1).out _ HB.out).mono ?_
        rintro e w5 ⟨rfl, hb⟩
        clear Q0 Q1 A0 A1 A2 A3
        have Q := Q.keep hb
        have A := A.keep hb
        have G := G.below hb
        have HB := Lib.hid (bstep HB.out hb)
        clear hb
        obtain ⟨Q0, Q1, -, -, -⟩ := id Q
        obtain ⟨A0, A1, A2, A3, -, -, -, -, -⟩ := id A
        clear Q0 Q1 A0 A1 A2 A3
        have Q := Q.alloc (.cells #[.int .i64 u, .int .i64 v] 23)
        have A := A.alloc (.cells #[.int .i64 u, .int .i64 v] 23)
        have G := G.below (below1 w5 (.cells #[.int .i64 u, .int .i64 v] 23))
        have X := At2.new w5 (.int .i64 u) (.int .i64 v) 23
        have HB := Lib.hid (bstep HB.out (below1 w5 (.cells #[.int .i64 u, .int .i64 v] 23)))
        obtain ⟨Q0, Q1, -, -, -⟩ := id Q
        obtain ⟨A0, A1, A2, A3, -, -, -, -, -⟩ := id A
        obtain ⟨X0, X1, -, -, -⟩ := id X
        go_wp2_with fail
        refine ((C2).out _).mono ?_
        rintro e w6 ⟨rfl, hb⟩
        clear Q0 Q1 A0 A1 A2 A3 X0 X1
        have Q := Q.keep hb
        have A := A.keep hb
        have X := X.keep hb
        have G := G.below hb
        have HB := Lib.hid (bstep HB.out hb)
        clear hb
        obtain ⟨Q0, Q1, -, -, -⟩ := id Q
        obtain ⟨A0, A1, A2, A3, -, -, -, -, -⟩ := id A
        obtain ⟨X0, X1, -, -, -⟩ := id X
        clear Q0 Q1 A0 A1 A2 A3 X0 X1
        have Q := Q.alloc (.cells #[.int .i64 u, .int .i64 v] 23)
        have A := A.alloc (.cells #[.int .i64 u, .int .i64 v] 23)
        have X := X.alloc (.cells #[.int .i64 u, .int .i64 v] 23)
        have G := G.below (below1 w6 (.cells #[.int .i64 u, .int .i64 v] 23))
        have Y := At2.new w6 (.int .i64 u) (.int .i64 v) 23
        have HB := Lib.hid (bstep HB.out (below1 w6 (.cells #[.int .i64 u, .int .i64 v] 23)))
        obtain ⟨Q0, Q1, -, -, -⟩ := id Q
        obtain ⟨A0, A1, A2, A3, -, -, -, -, -⟩ := id A
        obtain ⟨X0, X1, -, -, -⟩ := id X
        obtain ⟨Y0, Y1, -, -, -⟩ := id Y
        go_wp2_with fail
        refine ((PP).out _ G).mono ?_
        rintro e w7 ⟨rfl, hb⟩
        clear Q0 Q1 A0 A1 A2 A3 X0 X1 Y0 Y1
        have Q := Q.keep hb
        have A := A.keep hb
        have X := X.keep hb
        have Y := Y.keep hb
        have G := G.below hb
        have HB := Lib.hid (bstep HB.out hb)
        clear hb
        obtain ⟨Q0, Q1, -, -, -⟩ := id Q
        obtain ⟨A0, A1, A2, A3, -, -, -, -, -⟩ := id A
        obtain ⟨X0, X1, -, -, -⟩ := id X
        obtain ⟨Y0, Y1, -, -, -⟩ := id Y
        go_wp2_with fail
        refine ((V2).out _).mono ?_
        rintro e w8 ⟨rfl, hb⟩
        clear Q0 Q1 A0 A1 A2 A3 X0 X1 Y0 Y1
        have Q := Q.keep hb
        have A := A.keep hb
        have X := X.keep hb
        have Y := Y.keep hb
        have G := G.below hb
        have HB := Lib.hid (bstep HB.out hb)
        clear hb
        obtain ⟨Q0, Q1, -, -, -⟩ := id Q
        obtain ⟨A0, A1, A2, A3, -, -, -, -, -⟩ := id A
        obtain ⟨X0, X1, -, -, -⟩ := id X
        obtain ⟨Y0, Y1, -, -, -⟩ := id Y
        go_wp2_with fail
        refine ((RP2).out _).mono ?_
        rintro e w9 ⟨rfl, hb⟩
        clear Q0 Q1 A0 A1 A2 A3 X0 X1 Y0 Y1
        have Q := Q.keep hb
        have A := A.keep hb
        have X := X.keep hb
        have Y := Y.keep hb
        have G := G.below hb
        have HB := Lib.hid (bstep HB.out hb)
        clear hb
        obtain ⟨Q0, Q1, -, -, -⟩ := id Q
        obtain ⟨A0, A1, A2, A3, -, -, -, -, -⟩ := id A
        obtain ⟨X0, X1, -, -, -⟩ := id X
        obtain ⟨Y0, Y1, -, -, -⟩ := id Y
        go_wp2_with fail
        go_ret
        exact ⟨by first | rfl | exact ret_bool (by simp), HB.out⟩
end Go.Proofs.YtgcoddjjkcdfmaaGreatDoor
