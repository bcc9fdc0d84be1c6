/- The contract of the reference's Tokens. -/
import Derived.Test.YtijgaenfhmgcoaaTokG
namespace Go.Proofs.Ytijgaenfhmgcoaa
open Go.RowKit
set_option linter.unusedVariables false

/-- the state of the loop of the reference's Tokens -/
structure RT (w0 : World) (s : ByteArray) (st : St) (v : Value) (wr : World) : Prop where
  inv : Inv s.data.toList st
  own : wr.ownsRow (w0.heap.size + 1) 53 4 v st.ts.length (st.ts.flatMap Tok.cells)
  run : runF s.data.toList.length s.data.toList st = runF s.data.toList.length s.data.toList st0
  below : Below w0.heap.size w0 wr
  pos : ∃ x y, wr.heap[w0.heap.size]? = some (.cells #[.int .i64 x, .int .i64 y] 46 (0, 0))

theorem RT.lt {w0 : World} {s : ByteArray} {st : St} {v : Value} {wr : World} (h : RT w0 s st v wr) : w0.heap.size < wr.heap.size := by
  obtain ⟨x, y, hx⟩ := h.pos
  exact (Array.getElem?_eq_some_iff.1 hx).1

theorem RT.alloc {w0 : World} {s : ByteArray} {st : St} {v : Value} {wr : World} (h : RT w0 s st v wr) (o : Obj) : RT w0 s st v (wr.alloc o) :=
  ⟨h.inv, h.own.alloc o, h.run, h.below.alloc (Nat.le_of_lt h.lt) o, by obtain ⟨x, y, hx⟩ := h.pos; exact ⟨x, y, (Below.heap_alloc wr o _ h.lt).trans hx⟩⟩

theorem RT.quiet {w0 : World} {s : ByteArray} {st st' : St} {v : Value} {wr : World} (h : RT w0 s st v wr) (hl : st.pos < s.data.toList.length) (hs : stepF s.data.toList st = some st') (ht : st'.ts = st.ts) : RT w0 s st' v wr :=
  ⟨(stepF_inv h.inv hl hs).1, by rw [ht]; exact h.own, (runF_step h.inv hl hs).symm.trans h.run, h.below, h.pos⟩

theorem RT.grown {w0 : World} {s : ByteArray} {st st' : St} {u v : Value} {wr w2 w3 : World} {news : List Value} (h : RT w0 s st u wr) (hl : st.pos < s.data.toList.length) (hs : stepF s.data.toList st = some st')
    (hb : Below wr.heap.size wr w2) (hgrow : w2.grownBy w3 u.ownBlock) (hown : w3.ownsRow (w0.heap.size + 1) 53 4 v (st.ts.length + 1) (st.ts.flatMap Tok.cells ++ news))
    (hn : st'.ts.length = st.ts.length + 1) (ht : st'.ts.flatMap Tok.cells = st.ts.flatMap Tok.cells ++ news) : RT w0 s st' v w3 := by
  have hlt := h.lt
  have hsz := hb.size
  have hne : some w0.heap.size ≠ u.ownBlock := fun e => by have := (h.own.lt _ e.symm).1; omega
  refine ⟨(stepF_inv h.inv hl hs).1, by rw [hn, ht]; exact hown, (runF_step h.inv hl hs).symm.trans h.run, ?_, ?_⟩
  · exact (h.below.trans (hb.mono (Nat.le_of_lt hlt))).grown hgrow (by omega) (fun k hk => by have := (h.own.lt k hk).1; omega)
  · obtain ⟨x, y, hx⟩ := h.pos
    exact ⟨x, y, (hgrow.block _ (by omega) hne).trans ((hb.block _ hlt).trans hx)⟩

theorem res_cells (wr : World) (H : Nat) (o : Obj) (a b x y : Value) (hlt : H < wr.heap.size) (d0 : wr.cell? ⟨H, 0, none⟩ = some x) (d1 : wr.cell? ⟨H, 1, none⟩ = some y) :
    (((wr.setCell ⟨H, 0, none⟩ a).setCell ⟨H, 1, none⟩ b).alloc o).cell? ⟨H, 0, none⟩ = some a ∧ (((wr.setCell ⟨H, 0, none⟩ a).setCell ⟨H, 1, none⟩ b).alloc o).cell? ⟨H, 1, none⟩ = some b := by
  constructor
  · rw [alloc_cell _ _ _ _ (by simpa using hlt), cell_set_ne _ _ _ _ _ (by omega)]; exact World.cell?_setCell_same _ _ _ d0
  · rw [alloc_cell _ _ _ _ (by simpa using hlt)]; exact World.cell?_setCell_same _ _ _ ((cell_set_ne _ _ _ _ _ (by omega)).trans d1)

theorem cells_add (s : ByteArray) (st : St) (k : Nat) (kind : Int) : (st.add kind (slc s.data.toList st.pos k) k).ts.flatMap Tok.cells = st.ts.flatMap Tok.cells ++ [.int .i64 kind, .string (s.extract st.pos k), .int .i64 (st.line : Int), .int .i64 ((st.pos : Int) - st.ls + 1)] := by
  have ex : slc s.data.toList st.pos k = (s.extract st.pos k).data.toList := by unfold slc; rw [Lib.extract_data]
  rw [ex]
  show (st.ts ++ [_]).flatMap Tok.cells = _
  rw [List.flatMap_append]; rfl

theorem stepF_blank {l : List UInt8} {st : St} (k1 : (l.getD st.pos 0).toNat = 32 ∨ (l.getD st.pos 0).toNat = 9) : stepF l st = some ⟨st.pos + 1, st.line, st.ls, st.ts⟩ := by
  unfold stepF; exact if_pos k1
theorem stepF_hash {l : List UInt8} {st : St} (k3 : (l.getD st.pos 0).toNat = 35) : stepF l st = some ⟨eor notNl l st.pos, st.line, st.ls, st.ts⟩ := by
  unfold stepF; rw [if_neg (by omega), if_neg (by omega), if_pos k3]

set_option maxRecDepth 100000 in
set_option maxHeartbeats 2000000 in
theorem rtokens_any (s : ByteArray) (w : World) (hs : s.size ≤ 65536) :
    Calls Try.prog 19 #[.string s] w (TokPost w s.data.toList) := by
  go_enter Try.func19, Try.ntmps19
  go_wp2_with fail
  go_loopg [5, 6, 7, 8] s.size (fun n v5 v6 v7 v8 wr => ∃ st, n = s.size - st.pos ∧ v6 = .int .i64 (st.line : Int) ∧ v7 = .int .i64 (st.ls : Int) ∧ v8 = .int .i64 (st.pos : Int) ∧ RT w s st v5 wr)
  case atStart =>
    refine ⟨st0, rfl, rfl, rfl, rfl, ⟨⟨Nat.le_refl _, Nat.zero_le _, Nat.le_refl _, Nat.le_refl _⟩, World.ownsRow_nil _ _ _ _, rfl, (Below.refl _ _).alloc (Nat.le_refl _) _, ⟨0, 0, heap_alloc_new w _⟩⟩⟩
  case round =>
    obtain ⟨st, hn, rfl, rfl, rfl, hr⟩ := hrel
    have hi := hr.inv
    have hsz := Lib.size_eq s
    have hls := hi.ls
    have hln := hi.line
    have hpl := hi.pos
    have htl := hi.ts
    have hlt0 := hr.lt
    rw [← hsz] at hpl
    have HR := Lib.hid hr
    have HN := Lib.hid hn
    clear hr hi hn
    by_cases hlt : st.pos < s.size
    · have hg := Lib.hid (show s.data.toList.getD st.pos 0 = s[st.pos] from getD_get _ _ (by rw [← hsz]; exact hlt))
      have HL := Lib.hid (show st.pos < s.data.toList.length by rw [← hsz]; exact hlt)
      have b1 : (st.pos : Int) ≤ 65536 := by omega
      have b2 : (st.ls : Int) ≤ (st.pos : Int) := by omega
      have b3 : (st.line : Int) ≤ 65537 := by omega
      by_cases k1 : s[st.pos].toNat = 32 ∨ s[st.pos].toNat = 9
      · have HS := Lib.hid (stepF_blank (l := s.data.toList) (st := st) (by rw [hg.out]; exact k1))
        clear hsz
        by_cases k2 : s[st.pos].toNat = 32
        · have t32 : ((s[st.pos].toNat : Int) == 32) = true := beq_iff_eq.2 (by omega)
          have p32 : (s[st.pos].toNat : Int) = 32 := by omega
          clear k1 k2
          go_wp2_with fail
          go_roundg (s.size - (st.pos + 1))
          case measure => have h0 := HN.out; omega
          case rel => exact ⟨⟨st.pos + 1, st.line, st.ls, st.ts⟩, rfl, rfl, rfl, by first | rfl | go_num, (HR.out.quiet HL.out HS.out rfl).alloc _⟩
        · have t32 : ((s[st.pos].toNat : Int) == 32) = false := beq_eq_false_iff_ne.2 (by omega)
          have p32 : ¬ (s[st.pos].toNat : Int) = 32 := by omega
          have t9 : ((s[st.pos].toNat : Int) == 9) = true := beq_iff_eq.2 (by omega)
          have p9 : (s[st.pos].toNat : Int) = 9 := by omega
          clear k1 k2
          go_wp2_with (exfalso; have q : ((s[st.pos].toNat : Int) == 32) = false ∧ ((s[st.pos].toNat : Int) == 9) = false := (by assumption); rw [t9] at q; exact Bool.noConfusion q.2)
          go_roundg (s.size - (st.pos + 1))
          case measure => have h0 := HN.out; omega
          case rel => exact ⟨⟨st.pos + 1, st.line, st.ls, st.ts⟩, rfl, rfl, rfl, by first | rfl | go_num, (HR.out.quiet HL.out HS.out rfl).alloc _⟩
      have t32 : ((s[st.pos].toNat : Int) == 32) = false := beq_eq_false_iff_ne.2 (by omega)
      have p32 : ¬ (s[st.pos].toNat : Int) = 32 := by omega
      have t9 : ((s[st.pos].toNat : Int) == 9) = false := beq_eq_false_iff_ne.2 (by omega)
      have p9 : ¬ (s[st.pos].toNat : Int) = 9 := by omega
      by_cases k3 : s[st.pos].toNat = 35
      · have HS := Lib.hid (stepF_hash (l := s.data.toList) (st := st) (by rw [hg.out]; exact k3))
        have t35 : ((s[st.pos].toNat : Int) == 35) = true := beq_iff_eq.2 (by omega)
        have p35 : (s[st.pos].toNat : Int) = 35 := by omega
        have hv := (stepF_inv HR.out.inv HL.out HS.out).2
        obtain ⟨en, hen⟩ : ∃ en, en = eor notNl s.data.toList st.pos := ⟨_, rfl⟩
        rw [← hen] at HS hv
        have HEN := Lib.hid hen.symm
        clear hen k1 k3 hsz hg
        have HV := Lib.hid hv
        clear hv
        go_wp2_with fail
        all_goals (first | (exfalso; have q : ((s[st.pos].toNat : Int) == 32) = true ∨ ((s[st.pos].toNat : Int) == 9) = true := (by assumption); rw [t32, t9] at q; rcases q with q | q <;> exact Bool.noConfusion q) | skip)
        go_loopg [8] (s.size - st.pos) (fun m v wq => wq = (wr.alloc (Obj.cells #[.int .i64 (st.line : Int), .int .i64 ((st.pos : Int) - st.ls + 1)] 46)) ∧ ∃ k : Nat, m = s.size - k ∧ st.pos ≤ k ∧ k ≤ s.size ∧ v = .int .i64 (k : Int) ∧ Hid (eor notNl s.data.toList k = en))
        case atStart => exact ⟨rfl, st.pos, rfl, Nat.le_refl _, by omega, rfl, HEN⟩
        case round =>
          obtain ⟨rfl, k, hgk, hk0, hk1, rfl, HE⟩ := hrel
          have HGK := Lib.hid hgk
          clear hgk
          by_cases hlk : k < s.size
          · have hlk' := Lib.hid (show k < s.data.toList.length by rw [← Lib.size_eq]; exact hlk)
            by_cases kw : (s[k]'hlk).toNat = 10
            · have hke : Hid (k = en) := by show _ = _; rw [← HE.out]; exact (eor_no notNl _ k hlk'.out (by unfold notNl; rw [decide_eq_false_iff_not]; exact not_not_intro kw)).symm
              have tn : (((s[k]'hlk).toNat : Int) != 10) = false := by rw [kw]; rfl
              have pn : ((s[k]'hlk).toNat : Int) = 10 := by omega
              clear kw
              obtain rfl := hke.out
              go_wp2_with fail
              go_roundg (s.size - k)
              case measure => have h0 := HN.out; have := HV.out; omega
              case rel => exact ⟨⟨k, st.line, st.ls, st.ts⟩, rfl, rfl, rfl, by first | rfl | go_num, (HR.out.quiet HL.out HS.out rfl).alloc _⟩
            · have HE2 : Hid (eor notNl s.data.toList (k + 1) = en) := by show _ = _; rw [← HE.out]; exact (eor_yes notNl _ k hlk'.out (by unfold notNl; rw [decide_eq_true_eq]; exact kw)).symm
              have tn : (((s[k]'hlk).toNat : Int) != 10) = true := bne_iff_ne.2 (by omega)
              have pn : ¬ ((s[k]'hlk).toNat : Int) = 10 := by omega
              clear kw
              go_wp2_with fail
              go_roundg (s.size - (k + 1))
              case rel => exact ⟨rfl, k + 1, rfl, by omega, by omega, by first | rfl | go_num, HE2⟩
              case measure => have := HGK.out; omega
          · obtain rfl : k = s.size := by omega
            have hke : Hid (s.size = en) := by show _ = _; rw [← HE.out]; exact (eor_end notNl _ _ (by rw [← Lib.size_eq]; exact Nat.le_refl _)).symm
            obtain rfl := hke.out
            go_wp2_with fail
            go_roundg (s.size - s.size)
            case measure => have h0 := HN.out; have := HV.out; omega
            case rel => exact ⟨⟨s.size, st.line, st.ls, st.ts⟩, rfl, rfl, rfl, by first | rfl | go_num, (HR.out.quiet HL.out HS.out rfl).alloc _⟩
      have t35 : ((s[st.pos].toNat : Int) == 35) = false := beq_eq_false_iff_ne.2 (by omega)
      have p35 : ¬ (s[st.pos].toNat : Int) = 35 := by omega
      obtain ⟨x, y, hx⟩ := HR.out.pos
      have d0 : wr.cell? ⟨w.heap.size, 0, none⟩ = some (.int .i64 x) := by rw [cell_of_row _ w.heap.size 0 _ _ _ hx]; rfl
      have d1 : wr.cell? ⟨w.heap.size, 1, none⟩ = some (.int .i64 y) := by rw [cell_of_row _ w.heap.size 1 _ _ _ hx]; rfl
      have e0 : wr.frozen? ⟨w.heap.size, 0, none⟩ = false := frozen_of_row _ w.heap.size 0 _ _ hx
      have e1 : wr.frozen? ⟨w.heap.size, 1, none⟩ = false := frozen_of_row _ w.heap.size 1 _ _ hx
      have HX := Lib.hid hx
      clear hx
      cases step3 s st HR.out.inv hlt hs k1 k3 with
      | bad hsf hend =>
        have hrs := (runF_stuck HR.out.inv HL.out hsf).symm.trans HR.out.run
        have C := Lib.hid hend
        have HRS := Lib.hid hrs
        have HBE := Lib.hid (HR.out.below.alloc (Nat.le_of_lt hlt0) (Obj.cells #[.int .i64 (st.line : Int), .int .i64 ((st.pos : Int) - st.ls + 1)] 46))
        clear hg hsf hend hrs hsz k1 k3
        go_wp2_with (go_at_call 40; refine (C.out _).mono ?_; rintro e w1 ⟨rfl, rfl⟩)
        all_goals (first | (exfalso; have q : ((s[st.pos].toNat : Int) == 32) = true ∨ ((s[st.pos].toNat : Int) == 9) = true := (by assumption); rw [t32, t9] at q; rcases q with q | q <;> exact Bool.noConfusion q) | skip)
        have r := res_cells wr w.heap.size (Obj.cells #[.int .i64 (st.line : Int), .int .i64 ((st.pos : Int) - st.ls + 1)] 46) (.int .i64 (st.line : Int)) (.int .i64 ((st.pos : Int) - st.ls + 1)) _ _ hlt0 d0 d1
        go_region
        all_goals go_wp2
        all_goals refine bodyPost_ret (v := .tuple #[.slice none 0 0, .agg #[.int .i64 st.line, .int .i64 ((st.pos : Int) - st.ls + 1)], .int .i64 7]) (by simp [results, Try.results19, go_sem, r.1, r.2]) rfl ⟨.slice none 0 0, ?_, ?_, ?_⟩
        all_goals first
          | (unfold tokLine tokCol tokErr; rw [← HRS.out]; rfl)
          | (have hnil : tokTs s.data.toList = [] := (by unfold tokTs; rw [← HRS.out]; rfl)
             rw [hnil]; exact World.ownsRow_nil _ _ _ _)
          | exact (((HR.out.below.setCell (Nat.le_refl _) _).setCell (Nat.le_refl _) _).alloc (by simp; omega) _).drew
          | exact ((HBE.out.drew.setCell (Nat.le_refl _) _).setCell (Nat.le_refl _) _)
      | nl hsf hend =>
        have C := Lib.hid hend
        have HS := Lib.hid hsf
        have HO := Lib.hid HR.out.own
        clear hg hsf hend hsz k1 k3
        obtain ⟨i0, hi, hz0, hz1, hz2⟩ := info_parts Try.infoTok
        have HB3 : Hid ((((wr.alloc (Obj.cells #[.int .i64 (st.line : Int), .int .i64 ((st.pos : Int) - st.ls + 1)] 46)).alloc (Obj.cells #[.int .i64 4, .string ⟨#[]⟩, .int .i64 (st.line : Int), .int .i64 ((st.pos : Int) - st.ls + 1)] 53)).alloc (Obj.cells #[.int .i64 4, .string ⟨#[]⟩, .int .i64 (st.line : Int), .int .i64 ((st.pos : Int) - st.ls + 1)] 53)).heap[wr.heap.size + 2]? = some (Obj.cells #[.int .i64 4, .string ⟨#[]⟩, .int .i64 (st.line : Int), .int .i64 ((st.pos : Int) - st.ls + 1)] 53)) := by
          show _ = _
          have e : ((wr.alloc (Obj.cells #[.int .i64 (st.line : Int), .int .i64 ((st.pos : Int) - st.ls + 1)] 46)).alloc (Obj.cells #[.int .i64 4, .string ⟨#[]⟩, .int .i64 (st.line : Int), .int .i64 ((st.pos : Int) - st.ls + 1)] 53)).heap.size = wr.heap.size + 2 := by simp
          rw [← e]; exact heap_alloc_new _ _
        go_wp2_with (first | (go_at_call 40; refine (C.out _).mono ?_; rintro e w1 ⟨rfl, rfl⟩) | (at_builtin; go_loud (refine wpList_append_lies _ rfl _ _ 44 rfl (w.heap.size + 1) 53 i0 _ 4 40 Try.underlying44 hi hz0 hz1 hz2 rfl (by omega) u5 st.ts.length (st.ts.flatMap Tok.cells) rfl (((HO.out.alloc _).alloc _).alloc _) ⟨wr.heap.size + 2, 0, none⟩ 1 1 [.int .i64 4, .string ⟨#[]⟩, .int .i64 (st.line : Int), .int .i64 ((st.pos : Int) - st.ls + 1)] rfl rfl (World.news_of_block HB3.out) (by intro u hu; simp at hu; rcases hu with rfl | rfl | rfl | rfl <;> rfl) (by omega) (by unfold maxLen; omega) (by omega) (by simp; omega) (wr.heap.size + 3) (by simp) ?_; intro g cap w3 hown3 hgrow hat hlt3)))
        all_goals (first | (exfalso; have q : ((s[st.pos].toNat : Int) == 32) = true ∨ ((s[st.pos].toNat : Int) == 9) = true := (by assumption); rw [t32, t9] at q; rcases q with q | q <;> exact Bool.noConfusion q) | skip)
        have hrt := HR.out.grown HL.out HS.out ((((Below.refl _ _).alloc (Nat.le_refl _) _).alloc (by simp) _).alloc (by simp; omega) _) hgrow hown3 (by simp) (by simp [Tok.cells, St.col])
        have HRT := Lib.hid hrt
        clear hrt hgrow hown3
        go_roundg (s.size - (st.pos + 1))
        case measure => have h0 := HN.out; omega
        case rel => exact ⟨⟨st.pos + 1, st.line + 1, st.pos + 1, st.ts ++ [⟨4, [], st.line, st.col⟩]⟩, rfl, by first | rfl | go_num, by first | rfl | go_num, by first | rfl | go_num, HRT.out⟩
      | tok k kind g1 g2 g3 g4 hsf hend =>
        have C := Lib.hid hend
        have HS := Lib.hid hsf
        have HO := Lib.hid HR.out.own
        have c1 : (st.pos : Int) ≤ (k : Int) := by omega
        have c2 : (k : Int) ≤ (s.size : Int) := by omega
        have c3 : (kind == 0) = false := beq_eq_false_iff_ne.2 g3
        have c4 : (kind == 4) = false := beq_eq_false_iff_ne.2 g4
        have c5 : (0 : Int) ≤ (st.pos : Int) := by omega
        clear hg hsf hend hsz k1 k3
        obtain ⟨i0, hi, hz0, hz1, hz2⟩ := info_parts Try.infoTok
        have HB3 : Hid ((((wr.alloc (Obj.cells #[.int .i64 (st.line : Int), .int .i64 ((st.pos : Int) - st.ls + 1)] 46)).alloc (Obj.cells #[.int .i64 kind, .string (s.extract st.pos k), .int .i64 (st.line : Int), .int .i64 ((st.pos : Int) - st.ls + 1)] 53)).alloc (Obj.cells #[.int .i64 kind, .string (s.extract st.pos k), .int .i64 (st.line : Int), .int .i64 ((st.pos : Int) - st.ls + 1)] 53)).heap[wr.heap.size + 2]? = some (Obj.cells #[.int .i64 kind, .string (s.extract st.pos k), .int .i64 (st.line : Int), .int .i64 ((st.pos : Int) - st.ls + 1)] 53)) := by
          show _ = _
          have e : ((wr.alloc (Obj.cells #[.int .i64 (st.line : Int), .int .i64 ((st.pos : Int) - st.ls + 1)] 46)).alloc (Obj.cells #[.int .i64 kind, .string (s.extract st.pos k), .int .i64 (st.line : Int), .int .i64 ((st.pos : Int) - st.ls + 1)] 53)).heap.size = wr.heap.size + 2 := by simp
          rw [← e]; exact heap_alloc_new _ _
        go_wp2_with (first | (go_at_call 40; refine (C.out _).mono ?_; rintro e w1 ⟨rfl, rfl⟩) | (at_builtin; go_loud (refine wpList_append_lies _ rfl _ _ 44 rfl (w.heap.size + 1) 53 i0 _ 4 40 Try.underlying44 hi hz0 hz1 hz2 rfl (by omega) u5 st.ts.length (st.ts.flatMap Tok.cells) rfl (((HO.out.alloc _).alloc _).alloc _) ⟨wr.heap.size + 2, 0, none⟩ 1 1 [.int .i64 kind, .string (s.extract st.pos k), .int .i64 (st.line : Int), .int .i64 ((st.pos : Int) - st.ls + 1)] rfl rfl (World.news_of_block HB3.out) (by intro u hu; simp at hu; rcases hu with rfl | rfl | rfl | rfl <;> rfl) (by omega) (by unfold maxLen; omega) (by omega) (by simp; omega) (wr.heap.size + 3) (by simp) ?_; intro g cap w3 hown3 hgrow hat hlt3)))
        all_goals (first | (exfalso; have q : ((s[st.pos].toNat : Int) == 32) = true ∨ ((s[st.pos].toNat : Int) == 9) = true := (by assumption); rw [t32, t9] at q; rcases q with q | q <;> exact Bool.noConfusion q) | skip)
        have hrt := HR.out.grown HL.out HS.out ((((Below.refl _ _).alloc (Nat.le_refl _) _).alloc (by simp) _).alloc (by simp; omega) _) hgrow hown3 (by simp [St.add]) (cells_add s st k kind)
        have HRT := Lib.hid hrt
        clear hrt hgrow hown3
        have HG := Lib.hid (stepF_inv HR.out.inv HL.out HS.out).2
        go_roundg (s.size - k)
        case measure => have h0 := HN.out; have h1 : st.pos < k := HG.out; omega
        case rel => exact ⟨st.add kind (slc s.data.toList st.pos k) k, rfl, rfl, rfl, rfl, HRT.out⟩
    · have hge : st.pos = s.size := by omega
      have HRS := Lib.hid ((runF_end HR.out.inv (by rw [← hsz]; omega)).symm.trans HR.out.run)
      have HO := Lib.hid HR.out.own
      obtain ⟨x, y, hx⟩ := HR.out.pos
      have HX := Lib.hid hx
      have b2 : (st.ls : Int) ≤ (s.size : Int) := by omega
      have b3 : (st.line : Int) ≤ 65537 := by omega
      have HP := Lib.hid hge
      clear hx hsz hge
      obtain ⟨i0, hi, hz0, hz1, hz2⟩ := info_parts Try.infoTok
      go_wp2_with ((at_builtin; go_loud (refine wpList_append_lies _ rfl _ _ 44 rfl (w.heap.size + 1) 53 i0 _ 4 40 Try.underlying44 hi hz0 hz1 hz2 rfl (by omega) u5 st.ts.length (st.ts.flatMap Tok.cells) rfl (HO.out.alloc _) ⟨wr.heap.size, 0, none⟩ 1 1 [.int .i64 5, .string ⟨#[]⟩, .int .i64 (st.line : Int), .int .i64 ((s.size : Int) - st.ls + 1)] rfl rfl (World.news_of_block (heap_alloc_new wr _)) (by intro u hu; simp at hu; rcases hu with rfl | rfl | rfl | rfl <;> rfl) (by omega) (by unfold maxLen; omega) (by omega) (by simp; omega) (wr.heap.size + 1) (by simp) ?_; intro g cap w3 hown3 hgrow hat hlt3)); have hne : some w.heap.size ≠ u5.ownBlock := (fun e => by have := (HO.out.lt _ e.symm).1; omega); have hx2 := (hgrow.block _ (by simp; omega) hne).trans ((Below.heap_alloc wr _ _ hlt0).trans HX.out); have hlt2 := (Array.getElem?_eq_some_iff.1 hx2).1; have d0 : w3.cell? ⟨w.heap.size, 0, none⟩ = some (.int .i64 x) := (by rw [cell_of_row _ w.heap.size 0 _ _ _ hx2]; rfl); have d1 : w3.cell? ⟨w.heap.size, 1, none⟩ = some (.int .i64 y) := (by rw [cell_of_row _ w.heap.size 1 _ _ _ hx2]; rfl); have e0 : w3.frozen? ⟨w.heap.size, 0, none⟩ = false := frozen_of_row _ w.heap.size 0 _ _ hx2; have e1 : w3.frozen? ⟨w.heap.size, 1, none⟩ = false := frozen_of_row _ w.heap.size 1 _ _ hx2)
      have hbe := Lib.hid ((HR.out.below.alloc (Nat.le_of_lt hlt0) (.cells #[.int .i64 5, .string ⟨#[]⟩, .int .i64 (st.line : Int), .int .i64 ((s.size : Int) - st.ls + 1)] 53)).grown hgrow (by simp; omega) (fun k hk => by have := (HO.out.lt k hk).1; omega))
      refine bodyPost_ret (v := .tuple #[.slice (some ⟨g, 0, none⟩) (st.ts.length + 1) cap, .agg #[.int .i64 0, .int .i64 0], .int .i64 0]) (by simp [results, Try.results19, go_sem, d0, d1]) rfl ⟨.slice (some ⟨g, 0, none⟩) (st.ts.length + 1) cap, ?_, ?_, (hbe.out.setCell (Nat.le_refl _) _).setCell (Nat.le_refl _) _⟩
      · unfold tokLine tokCol tokErr; rw [← HRS.out]; rfl
      · have e : tokTs s.data.toList = st.ts ++ [⟨5, [], st.line, (st.pos : Int) - st.ls + 1⟩] := by unfold tokTs; rw [← HRS.out]; rfl
        rw [e, List.length_append, List.flatMap_append, HP.out]
        exact (ownsRow_setCell_below (ownsRow_setCell_below hown3 (by show w.heap.size < w.heap.size + 1; omega) _) (by show w.heap.size < w.heap.size + 1; omega) _).mono (by omega)

end Go.Proofs.Ytijgaenfhmgcoaa
