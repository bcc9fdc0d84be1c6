/- Contract of the reference's Text. -/
import Derived.Test.YtpneahdbiikonaaDoorTxM
import Derived.Test.YtpneahdbiikonaaDoorDgV
import Derived.Deep.LoopGhost
namespace Go.Proofs.YtpneahdbiikonaaDoor
open Go.RowKit
set_option linter.unusedVariables false

/-- the state of the reference's loop -/
structure TxW (w : World) (b N M : Nat) (out : List UInt8) (g0 : Option Addr) (m0 d0 : Nat) (s : Bool) (A : Option Addr) (n c : Nat) (wr : World) : Prop where
  inv : TxI N M out
  dig : Dig wr A n c (dgs M)
  blk : Bl2 wr b (.slice g0 m0 d0) (.bool s)
  bel : Below w.heap.size w wr
theorem TxW.keep {w wr w2 : World} {b N M : Nat} {out : List UInt8} {g0 : Option Addr} {m0 d0 : Nat} {s : Bool} {A : Option Addr} {n c : Nat} (h : TxW w b N M out g0 m0 d0 s A n c wr) (hb : Below wr.heap.size wr w2) : TxW w b N M out g0 m0 d0 s A n c w2 :=
  ⟨h.inv, h.dig.keep hb, h.blk.keep hb, h.bel.trans (hb.mono h.bel.size)⟩

theorem txI_len {N M : Nat} {out : List UInt8} (h : TxI N M out) : out.length ≤ (Lib.decDigits N).length := by
  rcases Nat.eq_zero_or_pos M with z | z
  · rw [h.2 z]; exact Nat.le_refl _
  · rw [h.1 z, List.length_append]; omega
theorem dec_of_dgs {N : Nat} (h : (dgs N).length ≤ 10) : (Lib.decDigits N).length ≤ 100 := by
  refine Nat.le_trans (dec_len N 84 ?_) (by omega)
  have h1 := dgs_lt N
  have h2 := pw_mono h
  have h3 : pw 10 ≤ 10 ^ (84 + 1) := by decide +kernel
  omega
theorem can_ten : Can [10] := by rw [can_single (m := 10) (by omega) (by omega)]; exact can_dgs 10
theorem byteOf (r : Nat) (h : r < 10) : (((UInt8.ofNat (48 + r)).toNat : Nat) : Int) = 48 + (r : Int) := by
  rw [UInt8.toNat_ofNat']
  omega
theorem conv_byte (w : World) (b : Nat) (r : Nat) (h : r < 10) (hc : w.cell? ⟨b, 0, none⟩ = some (.int .u8 (48 + (r : Int)))) :
    (convert 48 9 (.slice (some ⟨b, 0, none⟩) 1 1)).run Tryd.prog w = .ok (.string (ba [UInt8.ofNat (48 + r)])) w := by
  refine run_convert_bytes_back w 48 9 5 ⟨b, 0, none⟩ 1 [UInt8.ofNat (48 + r)] Tryd.underlying48 Tryd.underlying5 Tryd.underlying9 fun j hj => ?_
  have : j = 0 := by simpa using hj
  subst this
  show w.cell? ⟨b, 0, none⟩ = _
  rw [hc]
  simp only [List.getElem_cons_zero]
  rw [byteOf r h]

set_option maxRecDepth 100000 in
set_option maxHeartbeats 4000000 in
theorem rtext_walk (h l : Int) (w : World) (C : ∀ wx, Calls Tryd.prog 18 #[.agg #[.int .i64 h, .int .i64 l]] wx (RetZ wx (wv h l))) (hs : (dgs (wv h l).natAbs).length ≤ 10) :
    Calls Tryd.prog 7 #[.agg #[.int .i64 h, .int .i64 l]] w fun e w' => e = .returned (.string (ba (txt (wv h l)))) ∧ Below w.heap.size w w' := by
  have HC := Lib.hid C
  clear C
  obtain ⟨z, hz⟩ : ∃ z, z = wv h l := ⟨_, rfl⟩
  rw [← hz] at HC hs ⊢
  clear hz
  have HS := Lib.hid hs
  clear hs
  by_cases h0 : z = 0
  · have E : Hid (ba (txt z) = ⟨#[48]⟩) := by show _ = _; rw [h0]; decide +kernel
    subst h0
    go_enter Tryd.func7, Tryd.ntmps7
    go_wp2_with fail
    refine (HC.out _).mono ?_
    rintro e w1 ⟨A1, n1, c1, g1, rfl, hz1, hf1, hb1⟩
    have B := Lib.hid (((Below.refl w.heap.size w).alloc (Nat.le_refl _) _).trans (hb1.mono (by simp)))
    have hn : n1 = 0 := by have := hz1.dig.len; rw [this]; simp [dgs_zero]
    subst hn
    clear hz1 hf1 hb1
    go_wp2_with fail
    go_ret
    rw [E.out]
    exact ⟨rfl, B.out.alloc B.out.size _⟩
  · have hN : 0 < z.natAbs := by omega
    go_enter Tryd.func7, Tryd.ntmps7
    go_wp2_with fail
    refine (HC.out _).mono ?_
    rintro e w1 ⟨A1, n1, c1, g1, rfl, hz1, hf1, hb1⟩
    have B := Lib.hid (((Below.refl w.heap.size w).alloc (Nat.le_refl _) _).trans (hb1.mono (by simp)))
    have hn : 0 < n1 := by have := hz1.dig.len; have := (dgs_len_pos z.natAbs).2 (by omega); omega
    have t0 : ((n1 : Int) == 0) = false := beq_eq_false_iff_ne.2 (by omega)
    have hg := hz1.sgn
    have HG := Lib.hid hg
    have S0 : Hid (TxW w w1.heap.size z.natAbs z.natAbs [] A1 n1 c1 g1 A1 n1 c1 (w1.alloc (.cells #[.slice A1 n1 c1, .bool g1] 44))) :=
      ⟨txI_start _ hN, hz1.dig.alloc _, Bl2.new _ _ _ _, B.out.alloc B.out.size _⟩
    clear hz1 hf1 hb1 hg
    go_wp2_with fail
    obtain ⟨N, hNe⟩ : ∃ N, N = z.natAbs := ⟨_, rfl⟩
    rw [← hNe] at S0 HS
    have HN := Lib.hid hNe
    clear hNe hN hn B
    go_loopg [4, 5] N (fun q ov lv wr => ∃ (M : Nat) (out : List UInt8) (A : Option Addr) (n c : Nat), q = M ∧ ov = .string (ba out) ∧ lv = .slice A n c ∧ Hid (M ≤ N) ∧ Hid (TxW w w1.heap.size N M out A1 n1 c1 g1 A n c wr))
    case atStart => exact ⟨N, [], A1, n1, c1, rfl, rfl, rfl, Nat.le_refl N, S0.out⟩
    case round =>
      clear S0
      obtain ⟨M, out, A, n, c, hq, rfl, rfl, hM, hW⟩ := hrel
      have HQ := Lib.hid hq
      clear hq
      obtain ⟨k0, k1, _, _, _⟩ := id hW.out.blk
      have so : (ba out).size ≤ 100 := by rw [ba_size]; exact Nat.le_trans (txI_len hW.out.inv) (dec_of_dgs HS.out)
      by_cases hM0 : M = 0
      · have hn0 : n = 0 := by have := hW.out.dig.len; rw [this, hM0, dgs_zero]; rfl
        have hin := hW.out.inv.2 hM0
        subst hn0
        cases g1
        · have E : Hid (ba out = ba (txt z)) := by
            show _ = _
            have hz : ¬ z < 0 := of_decide_eq_false HG.out.symm
            unfold txt
            rw [if_neg hz, ← HN.out, hin]
          clear hin
          go_wp2_with fail
          go_ret
          exact ⟨by rw [← E.out]; rfl, hW.out.bel⟩
        · have E : Hid ((⟨#[45]⟩ : ByteArray) ++ ba out = ba (txt z)) := by
            show _ = _
            have hz : z < 0 := of_decide_eq_true HG.out.symm
            unfold txt
            rw [if_pos hz, ← HN.out, hin]
            exact ba_app [45] out
          clear hin
          go_wp2_with fail
          go_ret
          exact ⟨by rw [← E.out]; rfl, hW.out.bel⟩
      · have hn : 0 < n := by have h1 := hW.out.dig.len; have h2 := (dgs_len_pos M).2 hM0; omega
        have hn' : (0 : Int) < (n : Int) := by omega
        obtain ⟨r, hr⟩ : ∃ r, r = M % 10 := ⟨_, rfl⟩
        have hr10 : r < 10 := by omega
        have TS : Hid (TxI N (M / 10) (UInt8.ofNat (48 + r) :: out)) := by rw [hr]; exact txI_step hW.out.inv (by omega)
        have OV : Hid (∀ wx B1, Dig wx A n c (dgs M) → Dig wx B1 1 1 [10] → Calls Tryd.prog 19 #[.slice A n c, .slice B1 1 1] wx (Ret2 wx (dgs (M / 10)) (dgs r))) := by
          intro wx B1 h1 h2
          have := over_any A B1 n 1 c 1 (dgs M) [10] wx h1 (can_dgs _).ok ⟨h2, can_ten, by rw [val_single]; omega, by simp⟩ (by have h3 := dgs_len_mono hM.out; have h4 := HS.out; omega)
          rw [val_dgs, val_single, ← hr] at this
          exact this
        have AP : Hid (ba [UInt8.ofNat (48 + r)] ++ ba out = ba (UInt8.ofNat (48 + r) :: out)) := ba_app _ _
        have CB : Hid (∀ W b, W.cell? ⟨b, 0, none⟩ = some (.int .u8 (48 + (r : Int))) → (convert 48 9 (.slice (some ⟨b, 0, none⟩) 1 1)).run Tryd.prog W = .ok (.string (ba [UInt8.ofNat (48 + r)])) W) := fun W b hc => conv_byte W b r hr10 hc
        obtain ⟨x, hx⟩ : ∃ x, x = UInt8.ofNat (48 + r) := ⟨_, rfl⟩
        rw [← hx] at TS AP CB
        clear hx
        have s1 : (ba [x]).size ≤ 1 := by rw [ba_size]; exact Nat.le_refl _
        have LT : Hid (M / 10 < M) := by show _ < _; omega
        have LE : Hid (M / 10 ≤ N) := by have := hM.out; show _ ≤ _; omega
        clear hr hM0
        by_cases hr0 : r = 0
        · have L0 : Hid ((dgs r).length = 0) := by show _ = _; rw [hr0, dgs_zero]; rfl
          go_wp2_with fail
          refine (OV.out _ _ (hW.out.dig.alloc _) (Dig.single _ _ _)).mono ?_
          rintro e w2 ⟨A2, n2, c2, A3, n3, c3, rfl, hd2, hf2, hd3, hf3, hb2⟩
          have W2 := Lib.hid ((TxW.keep (w2 := _) hW.out ((Below.refl _ _).alloc (Nat.le_refl _) (.cells #[.int .i64 10] 3))).keep hb2)
          have hn3 : n3 = 0 := hd3.len.trans L0.out
          have D2 := Lib.hid hd2
          subst hn3
          clear hd2 hf2 hd3 hf3 hb2 k0 k1
          have cv := CB.out (w2.alloc (.cells #[.int .u8 48] 5)) w2.heap.size (by rw [World.cell?_alloc_new, hr0]; rfl)
          go_wp2_with fail
          go_roundg (M / 10)
          case rel => exact ⟨M / 10, _, A2, n2, c2, rfl, by rw [← AP.out], rfl, LE.out, ⟨TS.out, D2.out.alloc _, (W2.out.keep ((Below.refl _ _).alloc (Nat.le_refl _) _)).blk, (W2.out.keep ((Below.refl _ _).alloc (Nat.le_refl _) _)).bel⟩⟩
          case measure => have h1 := LT.out; have h2 := HQ.out; omega
        · have L0 : Hid (0 < (dgs r).length) := by show 0 < _; rw [dgs_len_pos]; exact hr0
          have G0 : Hid ((dgs r).getD 0 0 = r) := by show _ = _; rw [← can_single hr0 (by omega)]; rfl
          go_wp2_with fail
          refine (OV.out _ _ (hW.out.dig.alloc _) (Dig.single _ _ _)).mono ?_
          rintro e w2 ⟨A2, n2, c2, A3, n3, c3, rfl, hd2, hf2, hd3, hf3, hb2⟩
          have W2 := Lib.hid ((TxW.keep (w2 := _) hW.out ((Below.refl _ _).alloc (Nat.le_refl _) (.cells #[.int .i64 10] 3))).keep hb2)
          have hn3 : (0 : Int) < (n3 : Int) := by have h1 := hd3.len; have h2 := L0.out; omega
          obtain ⟨g3, rfl, hg3, hc3⟩ := hd3.cell L0.out
          rw [G0.out] at hc3
          have D2 := Lib.hid hd2
          clear hd2 hf2 hd3 hf3 hb2 k0 k1
          have cv := CB.out (w2.alloc (.cells #[.int .u8 (48 + (r : Int))] 5)) w2.heap.size (by rw [World.cell?_alloc_new]; rfl)
          go_wp2_with fail
          go_roundg (M / 10)
          case rel => exact ⟨M / 10, _, A2, n2, c2, rfl, by rw [← AP.out], rfl, LE.out, ⟨TS.out, D2.out.alloc _, (W2.out.keep ((Below.refl _ _).alloc (Nat.le_refl _) _)).blk, (W2.out.keep ((Below.refl _ _).alloc (Nat.le_refl _) _)).bel⟩⟩
          case measure => have h1 := LT.out; have h2 := HQ.out; omega
end Go.Proofs.YtpneahdbiikonaaDoor
