/- (door seat) the walk of DecimalJoins where the text has tokens. -/
import Derived.Test.YtjpjgohomajlpaaDoorJnH
namespace Go.Proofs.YtjpjgohomajlpaaDoor
open Go.RowKit
set_option linter.unusedVariables false

set_option maxRecDepth 100000 in
set_option maxHeartbeats 20000000 in
theorem walk_main (a0 : ByteArray) (w : World) (hm : HasMax w) (hl : a0.size ≤ 400) (he : tokErr a0.data.toList = 0) :
    Calls Tryd.prog 3 #[.string a0] w fun e w' => e = .returned (.bool true) ∧ Below w.heap.size w w' := by
  have HM := Lib.hid hm
  have C1 := Lib.hid (fun wx => tokens_any a0 wx (by omega))
  unfold TokPost at C1
  have hat := Lib.hid (tokens_at a0.data.toList)
  have hlast := tokTs_last _ he
  have hlen := tokTs_lenD a0.data.toList
  have hjl := joinT_len a0.data.toList
  rw [← Lib.size_eq] at hlen hjl
  obtain ⟨ts, hts⟩ : ∃ b, b = tokTs a0.data.toList := ⟨_, rfl⟩
  obtain ⟨tl, htl⟩ : ∃ b, b = tokLine a0.data.toList := ⟨_, rfl⟩
  obtain ⟨tc, htc⟩ : ∃ b, b = tokCol a0.data.toList := ⟨_, rfl⟩
  rw [← htl, ← htc, ← hts, he] at C1
  rw [← hts] at hlast hlen hjl hat
  have HTS := Lib.hid hts
  have HJL := Lib.hid hjl
  have HE := Lib.hid he
  obtain ⟨us, t5, hus, h5⟩ := hlast
  have hpos : 0 < ts.length := by rw [hus]; simp
  have h5' : ts[ts.length - 1].kind = 5 := by
    have e : ts[ts.length - 1] = t5 := by
      have h1 := List.getLast_eq_getElem (l := ts) (by intro h; rw [h] at hpos; cases hpos)
      rw [← h1]; simp [hus]
    rw [e]; exact h5
  have H5 := Lib.hid h5'
  have HUS := Lib.hid hus
  clear hm htl htc hts he hjl hus h5 h5'
  go_enter Tryd.func3, Tryd.ntmps3
  go_wp2_with fail
  refine (awake_any _ HM.out).mono ?_
  rintro e w1 ⟨rfl, hb1⟩
  have HB1 := Lib.hid hb1
  clear hb1
  go_wp2_with fail
  refine (C1.out _).mono ?_
  rintro e w2 ⟨v1, rfl, ho1, hb2⟩
  have HB2 := Lib.hid (HB1.out.trans (hb2.mono HB1.out.size))
  obtain ⟨g, cap, rfl, -, hg⟩ := ho1.form hpos
  have HO1 := Lib.hid ho1
  have r0 := (row_atD ho1 (ts.length - 1) (by omega)).1
  rw [H5.out] at r0
  have hc5 : (((ts.length : Nat) : Int) - 1) = ((ts.length - 1 : Nat) : Int) := by omega
  clear hb2 ho1
  obtain ⟨m0, hm0⟩ := HM.out.below HB2.out
  have HM0 := Lib.hid hm0
  have CS : Hid (∀ o, Calls Tryd.prog 6 #[.string a0, .string ⟨#[10]⟩] (w2.alloc o) fun e w' => e = .returned (.slice (some ⟨w2.heap.size + 1, 0, none⟩) (linesF a0.data.toList).length (linesF a0.data.toList).length) ∧ (∃ ls : List ByteArray, ls.map (fun x => x.data.toList) = linesF a0.data.toList ∧ w'.heap[w2.heap.size + 1]? = some (.cells (ls.map Value.string).toArray 9 (0, 0))) ∧ Hid (w'.heap.size = w2.heap.size + 2) ∧ Below w2.heap.size w2 w') := by
    intro o
    refine (Tryd.strings_Split a0 ⟨#[10]⟩ m0 (w2.alloc o) (by omega) (by rw [alloc_cell w2 o 0 0 (World.block_lt_of_cell? _ _ HM0.out)]; exact HM0.out) (by decide)).mono ?_
    rintro e w' ⟨rfl, rfl⟩
    have e1 : (w2.alloc o).heap.size = w2.heap.size + 1 := by simp
    have e2 : Lib.countB a0 ⟨#[10]⟩ + 1 = (linesF a0.data.toList).length := by
      rw [← split_lines, List.length_map, Lib.splitB_all ⟨#[10]⟩ (by decide) 0 _ a0 rfl]
    refine ⟨by rw [e1, e2], ⟨_, split_lines a0, ?_⟩, Lib.hid (by simp), ((Below.refl _ _).alloc (Nat.le_refl _) _).alloc (by simp) _⟩
    rw [← e1]; exact heap_alloc_new _ _
  have CS := CS
  obtain ⟨N, hN⟩ : ∃ N, N = (linesF a0.data.toList).length := ⟨_, rfl⟩
  rw [← hN] at CS
  have HN := Lib.hid hN
  clear hN
  have hp0 : ¬ ((ts.length : Nat) : Int) = 0 := by omega
  have hne : ts ≠ [] := by intro h; rw [h] at hpos; cases hpos
  go_wp2_with (go_at_call 6; refine (CS.out _).mono ?_; rintro e w3 ⟨rfl, hls, hs3, hb3⟩)
  all_goals first | (exfalso; omega) | (exfalso; exact hne (by assumption)) | skip
  have hs3' : w3.heap.size = w2.heap.size + 2 := hs3.out
  have HJ : Hid (J1 a0 ts g cap (w2.heap.size + 1) w3.heap.size (w3.alloc (.cells #[.pointer none, .slice none 0 0] 36))) := by
    have h1 := own_belowD HO1.out hb3
    exact (J1.mk ⟨_, h1.alloc _⟩ (by obtain ⟨ls, e1, e2⟩ := hls; exact ⟨ls, e1, (Below.heap_alloc w3 _ _ (by omega)).trans e2⟩) (by omega) (by omega))
  have HBU : Hid (Lib.IsBuilder 36 5 w3.heap.size w3.heap.size (Lib.byteCells (joinT (ts.take 0))) (w3.alloc (.cells #[.pointer none, .slice none 0 0] 36))) :=
    .inl ⟨Nat.le_refl _, .slice none 0 0, heap_alloc_new w3 _, World.ownsRow_nil _ _ _ _, by intro h; cases h⟩
  have HB3 := Lib.hid (HB2.out.trans (hb3.mono HB2.out.size))
  have hlt3 : w2.heap.size + 1 < w3.heap.size := by omega
  have hg3 : g < w3.heap.size := by omega
  have hsx : w2.heap.size + 2 ≤ w3.heap.size := by omega
  clear hls hb3 hs3 hs3'
  go_wp2_with fail
  go_loopg [47] ts.length (fun m v wr => ∃ k : Nat, m = ts.length - k ∧ k ≤ ts.length ∧ v = .int .i64 (k : Int) ∧ Hid (Lib.IsBuilder 36 5 w3.heap.size w3.heap.size (Lib.byteCells (joinT (ts.take k))) wr) ∧ Hid (Below w3.heap.size (w3.alloc (.cells #[.pointer none, .slice none 0 0] 36)) wr))
  case atStart => exact ⟨0, rfl, Nat.zero_le _, rfl, HBU, Lib.hid (Below.refl _ _)⟩
  case round =>
    obtain ⟨k, hgk, hk, rfl, hbu, hbw⟩ := hrel
    have HGK := Lib.hid hgk
    clear hgk
    have hwr := hbw.out.size
    simp at hwr
    have hlw : w3.heap.size < wr.heap.size := by omega
    clear hwr
    by_cases hlt : k < ts.length
    · obtain ⟨kind, tx, y, n, c, N', f1, f2, x1, x2, x3, x4, y1, f3, f4, f5, f6⟩ := (HJ.out.below (by simp) hbw.out).at hat.out k hlt
      have txle : tx.size ≤ y.size := by
        have h1 := Lib.hasPrefix_le f6
        have h2 : (y.extract c y.size).data.toList.length ≤ y.size := by rw [← Lib.size_eq, ByteArray.size_extract]; omega
        rw [← Lib.size_eq] at h1
        exact Nat.le_trans h1 h2
      obtain rfl : N' = N := f4.trans HN.out.symm
      have F1 := Lib.hid f1
      have F2 := Lib.hid f2
      have CP : Hid (∀ wx, Calls Tryd.prog 7 #[.string (y.extract c y.size), .string tx] wx fun e w' => e = .returned (.bool true) ∧ w' = wx) := fun wx => by have := Tryd.strings_HasPrefix (y.extract c y.size) tx wx; rw [f6] at this; exact this
      clear f1 f2 f4 f6
      have hNle : N' ≤ 401 := by have := HN.out; have h2 := linesF_len a0.data.toList; rw [← Lib.size_eq] at h2; omega
      have hyle : y.size ≤ 400 := by have := lines_size (HJ.out.below (by simp) hbw.out) n y y1; omega
      have hq : w2.heap.size + 1 < wr.heap.size := by omega
      have m1 : (1 : Int) ≤ (n : Int) + 1 := by omega
      have m2 : (1 : Int) ≤ (c : Int) + 1 := by omega
      have m3 : (n : Int) + 1 ≤ (N' : Int) := by omega
      have m4 : (c : Int) + 1 ≤ (y.size : Int) + 1 := by omega
      have m5 : (c : Int) ≤ (y.size : Int) := by omega
      have m6 : (n : Int) < (N' : Int) := by omega
      have d1 : decide ((n : Int) + 1 < 1) = false := decide_eq_false (by omega)
      have d2 : decide ((c : Int) + 1 < 1) = false := decide_eq_false (by omega)
      have d3 : decide ((N' : Int) < (n : Int) + 1) = false := decide_eq_false (by omega)
      have d4 : decide ((y.size : Int) + 1 < (c : Int) + 1) = false := decide_eq_false (by omega)
      have d5 : ¬ ((n : Int) + 1 < 1) := by omega
      have d6 : ¬ ((c : Int) + 1 < 1) := by omega
      have d7 : ¬ ((N' : Int) < (n : Int) + 1) := by omega
      have d8 : ¬ ((y.size : Int) < (c : Int)) := by omega
      have u1 : IntKind.i64.wrap (n : Int) = (n : Int) := IntWalk.i64_in _ (by omega)
      have u2 : IntKind.i64.wrap (c : Int) = (c : Int) := IntWalk.i64_in _ (by omega)
      have u3 : IntKind.i64.wrap ((y.size : Int) + 1) = (y.size : Int) + 1 := IntWalk.i64_in _ (by omega)
      have hgw : g < wr.heap.size := by omega
      have txl : tx.size ≤ 400 := by omega
      obtain ⟨bs', hbs⟩ : ∃ x, x = Lib.byteCells (joinT (ts.take (k + 1))) := ⟨_, rfl⟩
      have hbl : (bs'.length : Int) ≤ 2000 := by rw [hbs, Lib.byteCells_length]; have h1 := joinT_take_len ts (k + 1); have h2 := HJL.out; omega
      have hbd : decide ((2000 : Int) < (bs'.length : Int)) = false := decide_eq_false (by omega)
      have CW : Hid (∀ (o : Obj) (n : Nat) (s : ByteArray), s.size ≤ 401 → s.data.toList = (if ts[k].kind = 4 then [10] else ts[k].text ++ [32]) → Calls Tryd.prog 8 #[.pointer (some ⟨w3.heap.size, 0, none⟩), .string s] ((wr.alloc o).drewN n) fun e w' => e = .returned (.tuple #[.int .i64 s.size, .nilIface]) ∧ Hid (Lib.IsBuilder 36 5 w3.heap.size w3.heap.size bs' w') ∧ Hid (Below w3.heap.size wr w')) := by
        intro o n s hs he
        refine (writeString_any w3.heap.size w3.heap.size _ s _ (isBuilder_drewN (isBuilder_alloc hbu.out o) n) (by rw [Lib.byteCells_length]; have h1 := joinT_take_len ts k; have h2 := HJL.out; omega) (by simp; omega)).mono ?_
        rintro e w' ⟨rfl, h1, h2⟩
        refine ⟨rfl, Lib.hid (.inr ?_), Lib.hid (((Below.refl _ wr).alloc (by omega) o).trans ((below_drewN _ _ n).trans h2))⟩
        rw [hbs, joinT_take ts k hlt, Lib.byteCells_append, ← he]
        exact h1
      have CL : Hid (∀ wx, Lib.IsBuilder 36 5 w3.heap.size w3.heap.size bs' wx → Calls Tryd.prog 9 #[.pointer (some ⟨w3.heap.size, 0, none⟩)] wx fun e w' => e = .returned (.int .i64 bs'.length) ∧ w' = wx) := fun wx h => Tryd.Builder_Len _ _ _ wx h
      have HBS := Lib.hid hbs
      clear hbs
      go_wp2_with fail
      go_quiet (first | (go_at_call 7; refine Calls.quiet_of_same (CP.out _)))
      by_cases hk4 : kind = 4
      · subst hk4
        go_wp2_with (first | (go_at_call 9; refine (CL.out _ h5.out).mono ?_; rintro e w6 ⟨rfl, rfl⟩) | (go_at_call 8; refine (CW.out _ _ ⟨#[10]⟩ (by decide) (by rw [F1.out]; rfl)).mono ?_; rintro e w5 ⟨rfl, h5, b5⟩))
        go_roundg (ts.length - (k + 1))
        case measure => have := HGK.out; omega
        case rel => exact ⟨k + 1, rfl, by omega, by go_num, by have h := h5.out; rw [HBS.out] at h; exact Lib.hid h, Lib.hid (hbw.out.trans b5.out)⟩
      · have hkb : (kind == 4) = false := by simp [hk4]
        have CX : Hid (∀ (o : Obj) (n : Nat), Calls Tryd.prog 8 #[.pointer (some ⟨w3.heap.size, 0, none⟩), .string (tx ++ ⟨#[32]⟩)] ((wr.alloc o).drewN n) fun e w' => (∃ m : Int, e = .returned (.tuple #[.int .i64 m, .nilIface])) ∧ Hid (Lib.IsBuilder 36 5 w3.heap.size w3.heap.size bs' w') ∧ Hid (Below w3.heap.size wr w')) := by
          intro o n
          have q1 : (tx ++ (⟨#[32]⟩ : ByteArray)).size ≤ 401 := by rw [ByteArray.size_append]; show tx.size + 1 ≤ 401; omega
          have q2 : (tx ++ (⟨#[32]⟩ : ByteArray)).data.toList = (if ts[k].kind = 4 then [10] else ts[k].text ++ [32]) := by
            rw [F1.out, if_neg hk4, ← F2.out, ByteArray.data_append, Array.toList_append]
          exact (CW.out o n _ q1 q2).mono fun e w' ⟨h1, h2⟩ => ⟨⟨_, h1⟩, h2⟩
        clear CW
        go_wp2_with (first | (go_at_call 9; refine (CL.out _ h5.out).mono ?_; rintro e w6 ⟨rfl, rfl⟩) | (go_at_call 8; refine (CX.out _ _).mono ?_; rintro e w5 ⟨⟨m5, rfl⟩, h5, b5⟩))
        go_roundg (ts.length - (k + 1))
        case measure => have := HGK.out; omega
        case rel => exact ⟨k + 1, rfl, by omega, by go_num, by have h := h5.out; rw [HBS.out] at h; exact Lib.hid h, Lib.hid (hbw.out.trans b5.out)⟩
    · obtain rfl : k = ts.length := by omega
      obtain ⟨jt, hjt⟩ : ∃ x : ByteArray, x = ⟨(joinT ts).toArray⟩ := ⟨_, rfl⟩
      have hjd : jt.data.toList = joinT ts := by rw [hjt]
      have hjs : jt.size ≤ 65536 := by have h2 := HJL.out; rw [Lib.size_eq, hjd]; omega
      have hj := joins a0.data.toList HE.out
      rw [← HTS.out] at hj
      obtain ⟨hj1, hj2⟩ := hj
      obtain ⟨ts2, hts2⟩ : ∃ x, x = tokTs (joinT ts) := ⟨_, rfl⟩
      rw [← hts2] at hj2
      have hlen2 : ts2.length = ts.length := by have h := congrArg List.length hj2; rwa [List.length_map, List.length_map] at h
      have CSt : Hid (Calls Tryd.prog 10 #[.pointer (some ⟨w3.heap.size, 0, none⟩)] wr fun e w' => e = .returned (.string jt) ∧ Hid (Below w3.heap.size wr w')) := by
        have h := hbu.out
        rw [List.take_length] at h
        exact (Tryd.Builder_String_any _ _ _ wr h (by omega)).mono fun e w' ⟨h1, h2⟩ => ⟨by rw [h1, hjt], Lib.hid h2⟩
      have CT : Hid (∀ wx, Calls Tryd.prog 5 #[.string jt] wx fun e w' => (∃ (g2 cap2 : Nat) (l2 c2 : Int), e = .returned (.tuple #[.slice (some ⟨g2, 0, none⟩) ts.length cap2, .agg #[.int .i64 l2, .int .i64 c2], .int .i64 0]) ∧ g2 < w'.heap.size ∧ Hid (∀ (k : Nat) (hk : k < ts.length), w'.cell? ⟨g2, k * 4, none⟩ = some (.int .i64 ts[k].kind) ∧ w'.cell? ⟨g2, k * 4 + 1, none⟩ = some (.string ⟨ts[k].text.toArray⟩))) ∧ Hid (Below wx.heap.size wx w')) := by
        intro wx
        refine (tokens_any jt wx hjs).mono ?_
        rintro e w' ⟨v, he, ho, hb⟩
        rw [hjd] at he ho
        rw [← hts2] at ho
        rw [hj1] at he
        obtain ⟨g2, cap2, rfl, -, hg2⟩ := ho.form (by omega)
        have R := fun k hk => row_atD ho k hk
        rw [hlen2] at he
        refine ⟨⟨g2, cap2, _, _, he, hg2, Lib.hid fun k hk => ?_⟩, Lib.hid hb⟩
        have hk2 : k < ts2.length := by omega
        obtain ⟨r1, r2, -, -⟩ := R k hk2
        have e1 : ts2[k].k = ts[k].k := by
          have h := congrArg (fun l => l[k]?) hj2
          simp only [List.getElem?_map, List.getElem?_eq_getElem hk2, List.getElem?_eq_getElem hk] at h
          exact Option.some.inj h
        have e2 : ts2[k].kind = ts[k].kind := congrArg Prod.fst e1
        have e3 : ts2[k].text = ts[k].text := congrArg Prod.snd e1
        rw [e2] at r1
        rw [e3] at r2
        exact ⟨r1, r2⟩
      clear hjt hjd hjs hj1 hj2 hts2 hlen2
      go_wp2_with (first | (go_at_call 5; refine (CT.out _).mono ?_; rintro e w6 ⟨⟨g2, cap2, l2, c2, rfl, hg2, R2⟩, b6⟩) | (go_at_call 10; refine CSt.out.mono ?_; rintro e w5 ⟨rfl, b5⟩))
      have h55 := b5.out.size
      have h66 := b6.out.size
      have HJ6 := ((HJ.out.below (by simp) hbw.out).below (by omega) b5.out).below (by omega) (b6.out.mono (by omega))
      have HBF : Hid (Below w.heap.size w w6) := by
        have h0 := HB3.out.alloc HB3.out.size (.cells #[.pointer none, .slice none 0 0] 36)
        have hle := HB3.out.size
        exact Lib.hid (((h0.trans (hbw.out.mono hle)).trans (b5.out.mono hle)).trans (b6.out.mono (by omega)))
      obtain ⟨B1, hr1⟩ := HJ6.row
      have R1 := Lib.hid fun k hk => row_atD hr1 k hk
      have hg6 : g < w6.heap.size := by omega
      clear HJ6 hr1 h55 h66 CT CSt
      go_loopg [130] ts.length (fun m v wz => ∃ k : Nat, k ≤ ts.length ∧ m = ts.length - k ∧ v = .int .i64 (k : Int) ∧ Hid (Below w6.heap.size w6 wz))
      case atStart => exact ⟨0, Nat.zero_le _, rfl, rfl, Lib.hid ((Below.refl _ _).alloc (Nat.le_refl _) _)⟩
      case round =>
        obtain ⟨k, hk2, hgk2, rfl, hbz⟩ := hrel
        have HGK2 := Lib.hid hgk2
        clear hgk2
        by_cases hlt2 : k < ts.length
        · obtain ⟨x1, x2, -, -⟩ := R1.out k hlt2
          obtain ⟨y1, y2⟩ := R2.out k hlt2
          obtain ⟨kd, hkd⟩ : ∃ x, x = ts[k].kind := ⟨_, rfl⟩
          obtain ⟨tx, htx⟩ : ∃ x : ByteArray, x = ⟨ts[k].text.toArray⟩ := ⟨_, rfl⟩
          rw [← hkd] at x1 y1
          rw [← htx] at x2 y2
          rw [← hbz.out.cell (by exact hg6)] at x1 x2
          rw [← hbz.out.cell (by exact hg2)] at y1 y2
          clear hkd htx
          have i1 : (0 : Int) ≤ (k : Int) := by omega
          have i2 : (k : Int) < (ts.length : Int) := by omega
          go_wp2_with fail
          go_quiet (fail)
          go_wp2
          go_roundg (ts.length - (k + 1))
          case measure => have := HGK2.out; omega
          case rel => exact ⟨k + 1, by omega, rfl, by go_num, Lib.hid (hbz.out.trans (below_drewN _ _ _))⟩
        · go_wp2_with fail
          go_ret
          exact ⟨rfl, HBF.out.trans (hbz.out.mono HBF.out.size)⟩

end Go.Proofs.YtjpjgohomajlpaaDoor
