/- Angle: the program's Parse, together. -/
import Derived.Test.YtgcoddjjkcdfmaaGreatDoorAnZ
namespace Go.Proofs.YtgcoddjjkcdfmaaGreatDoor
open Go.RowKit
set_option linter.unusedVariables false
set_option maxRecDepth 100000

theorem cut_facts (b : UInt8) (u X Y : List UInt8) (f : Bool) (h : Lib.cut u [b] = (X, Y, f)) : X.length + Y.length ≤ u.length ∧ (f = false → Y = []) := by
  rcases cut_cases b u with ⟨X', Y', e, -, hc⟩ | ⟨-, hc⟩
  · rw [hc] at h
    injection h with h1 h2
    injection h2 with h2 h3
    subst h1 h2 h3 e
    exact ⟨by simp, by simp⟩
  · rw [hc] at h
    injection h with h1 h2
    injection h2 with h2 h3
    subst h1 h2 h3
    exact ⟨by simp, fun _ => rfl⟩
theorem unP_len (l : List UInt8) : (unP l).length ≤ l.length := by
  unfold unP
  split
  · simp
  · exact Nat.le_refl _
theorem zs_len (F : List UInt8) : (zs F).length = 3 - F.length := by unfold zs; rw [List.length_replicate]
theorem zs_dig (F : List UInt8) : (zs F).all isDig = true := by
  unfold zs
  rw [List.all_eq_true]
  intro x hx
  rw [(List.mem_replicate.1 hx).2]
  decide
theorem dgB_all {l : List UInt8} (h : dgB l = true) : l.all isDig = true := by unfold dgB at h; rw [Bool.and_eq_true] at h; exact h.2
theorem dgrB_dgB {l : List UInt8} (h : dgrB l = true) : dgB l = true := by unfold dgrB at h; rw [Bool.and_eq_true] at h; exact h.1
theorem mnB_dgB {l : List UInt8} (h : mnB l = true) : dgB l = true := by unfold mnB at h; rw [Bool.and_eq_true, Bool.and_eq_true] at h; exact h.1.1
theorem frcB_dgB {l : List UInt8} (h : frcB l = true) : dgB l = true ∧ l.length ≤ 3 := by unfold frcB at h; rw [Bool.and_eq_true, decide_eq_true_eq] at h; exact h

theorem pParse (s : ByteArray) (w : World) (hs : s.size ≤ 1000) (hm : HasMax w) (he : HasErr w) :
    Calls Tryz.prog 35 #[.string s] w fun e w' => e = .returned (.tuple #[.int .i64 (paV s.data.toList), .int .i64 (paE s.data.toList)]) ∧ Below w.heap.size w w' := by
  have hl : s.data.toList.length = s.size := by simp
  unfold paV paE
  have hpre := fun wx => prefix_any s wx
  have hul := unP_len s.data.toList
  obtain ⟨U, hU⟩ : ∃ U, unP s.data.toList = U := ⟨_, rfl⟩
  obtain ⟨neg, hneg⟩ : ∃ n, sgP s.data.toList = n := ⟨_, rfl⟩
  rw [hU] at hpre hul ⊢
  rw [hneg] at hpre ⊢
  obtain ⟨⟨D, M, q⟩, h1⟩ : ∃ r, Lib.cut U [45] = r := ⟨_, rfl⟩
  obtain ⟨⟨W, F, p⟩, h2⟩ : ∃ r, Lib.cut M [46] = r := ⟨_, rfl⟩
  obtain ⟨l1, -⟩ := cut_facts 45 U D M q h1
  obtain ⟨l2, l3⟩ := cut_facts 46 M W F p h2
  have B := bo_parts U
  rw [h1] at B
  have hbd : bdF U = (dgrB D && (mnB W && (!p || frcB F))) := by
    unfold bdF
    rw [h1]
    show (dgrB D && mnF M) = _
    unfold mnF
    rw [h2]
  rw [hbd] at B
  have B : boP U = if (dgrB D && (mnB W && (!p || frcB F))) = true then some (val D, val W, val (F ++ zs F)) else none := by
    rw [B]
    show (if _ then some (val D, val (Lib.cut M [46]).1, val ((Lib.cut M [46]).2.1 ++ zs (Lib.cut M [46]).2.1)) else none) = _
    rw [h2]
  have C : PpC w s (ba U) (ba D) (ba M) (ba W) (ba F) neg q p := ⟨hpre, fun wx hb => cut_any U 45 D M q h1 (by omega) wx (hm.below hb), fun wx hb => cut_any M 46 W F p h2 (by omega) wx (hm.below hb)⟩
  have dg : ∀ v, dgrB D = v → ∀ wx, Calls Tryz.prog 57 #[.string (ba D)] wx fun e w' => e = .returned (.bool v) ∧ w' = wx := fun v hv wx => by
    have := pDegrees (ba D) wx (by rw [ba_size]; omega)
    rw [show (ba D).data.toList = D from rfl, hv] at this
    exact this
  have mn : ∀ v, mnB W = v → ∀ wx, Calls Tryz.prog 58 #[.string (ba W)] wx fun e w' => e = .returned (.bool v) ∧ w' = wx := fun v hv wx => by
    have := pMinutes (ba W) wx (by rw [ba_size]; omega)
    rw [show (ba W).data.toList = W from rfl, hv] at this
    exact this
  have fr : ∀ v, frcB F = v → ∀ wx, Calls Tryz.prog 59 #[.string (ba F)] wx fun e w' => e = .returned (.bool v) ∧ w' = wx := fun v hv wx => by
    have := pFractionB (ba F) wx (by rw [ba_size]; omega)
    rw [show (ba F).data.toList = F from rfl, hv] at this
    exact this
  cases hd : dgrB D
  · rw [B, hd, Bool.false_and, if_neg (by simp)]
    exact pp_bad1 _ _ _ _ _ _ _ _ _ w C (dg _ hd)
  · cases hmn : mnB W
    · rw [B, hmn, Bool.false_and, Bool.and_false, if_neg (by simp)]
      exact pp_bad2 _ _ _ _ _ _ _ _ _ w C (dg _ hd) (mn _ hmn)
    · by_cases hp : p = true ∧ frcB F = false
      · obtain ⟨hp, hf⟩ := hp
        subst hp
        rw [B, hf, Bool.not_true, Bool.or_false, Bool.and_false, Bool.and_false, if_neg (by simp)]
        exact pp_bad3 _ _ _ _ _ _ _ _ w C (dg _ hd) (mn _ hmn) (fr _ hf)
      · have hok : (!p || frcB F) = true := by
          cases p <;> cases h : frcB F <;> simp_all
        rw [B, hd, hmn, hok, Bool.true_and, Bool.true_and, if_pos rfl]
        show Calls Tryz.prog 35 #[.string s] w fun e w' => e = .returned (.tuple #[.int .i64 (if 18325193 < val D ∨ 1099511627776 < val D * 60000 + val W * 1000 + val (F ++ zs F) then 0 else if neg = true then -((val D * 60000 + val W * 1000 + val (F ++ zs F) : Nat) : Int) else ((val D * 60000 + val W * 1000 + val (F ++ zs F) : Nat) : Int)), .int .i64 (if 18325193 < val D ∨ 1099511627776 < val D * 60000 + val W * 1000 + val (F ++ zs F) then 5 else 0)]) ∧ Below w.heap.size w w'
        have hF3 : F.length ≤ 3 ∧ F.all isDig = true ∧ (p = true → frcB F = true) := by
          cases hpp : p
          · rw [l3 hpp]; exact ⟨by simp, by simp, by simp⟩
          · rw [hpp] at hok
            have hf : frcB F = true := by simpa using hok
            exact ⟨(frcB_dgB hf).2, dgB_all (frcB_dgB hf).1, fun _ => hf⟩
        obtain ⟨f1, f2, f3⟩ := hF3
        have hWl := mnB_len hmn
        have hat := atoi_digs D (dgrB_dgB hd)
        have hall : (W ++ F ++ zs F).all isDig = true := by
          rw [List.all_append, List.all_append, dgB_all (mnB_dgB hmn), f2, zs_dig]; rfl
        have hlen : (W ++ F ++ zs F).length = 5 := by rw [List.length_append, List.length_append, zs_len]; omega
        have hT : val (W ++ F ++ zs F) = val W * 1000 + val (F ++ zs F) := by
          rw [List.append_assoc, val_app]
          have : (F ++ zs F).length = 3 := by rw [List.length_append, zs_len]; omega
          rw [this]
        have hTlt := val_lt _ hall
        rw [hlen] at hTlt
        have hdT : dgB (W ++ F ++ zs F) = true := by
          unfold dgB
          rw [hall, Bool.and_true, decide_eq_true_eq]
          intro k
          rw [k] at hlen
          simp at hlen
        have hat2 := atoi_digs _ hdT
        rw [if_pos (by omega)] at hat2
        have e2 : ba W ++ ba F ++ ba (zs F) = ba (W ++ F ++ zs F) := by rw [ba_app, ba_app]
        generalize hTT : val (W ++ F ++ zs F) = T at *
        have szD : (ba D).size ≤ 1000000 := by rw [ba_size]; omega
        by_cases hbig : val D < 9223372036854775808
        · rw [if_pos hbig] at hat
          have at1 := fun wx => atoi_ok (ba D) szD (val D : Int) hat wx
          have hmid : val D * 60000 + val W * 1000 + val (F ++ zs F) = val D * 60000 + T := by omega
          rw [hmid]
          generalize val D = d at *
          by_cases h18 : 18325193 < d
          · rw [if_pos (.inl h18), if_pos (.inl h18)]
            cases p
            · exact pp_bigf _ _ _ _ _ _ _ _ w C d h18 (dg _ hd) (mn _ hmn) at1
            · exact pp_bigt _ _ _ _ _ _ _ _ w C d h18 (dg _ hd) (mn _ hmn) (fr _ (f3 rfl)) at1
          · obtain ⟨N, hN⟩ : ∃ N, d * 60000 + T = N := ⟨_, rfl⟩
            rw [hN]
            have rp := fun wx => repeat_zeros (3 - F.length) wx (by omega)
            have at2 := fun wx => atoi_ok (ba W ++ ba F ++ ba (zs F)) (by rw [e2, ba_size, hlen]; omega) (T : Int) (by rw [e2]; exact hat2) wx
            have zF : (ba F).size + (3 - F.length) = 3 := by rw [ba_size]; omega
            have zZ : (ba (zs F)).size ≤ 3 := by rw [ba_size, zs_len]; omega
            have zW : (ba W).size ≤ 3 := by rw [ba_size]; omega
            by_cases h40 : 1099511627776 < N
            · rw [if_pos (.inr h40), if_pos (.inr h40)]
              have n1 : inA (N : Int) = false := (inA_not _).2 (by omega)
              have n2 : inA (-(N : Int)) = false := (inA_not _).2 (by omega)
              cases p
              · cases neg
                · exact pp_fff _ _ _ _ _ _ _ w C d T N _ _ (by omega) (by omega) hN zF zZ zW (dg _ hd) (mn _ hmn) at1 rp at2 n1
                · exact pp_ftf _ _ _ _ _ _ _ w C d T N _ _ (by omega) (by omega) hN zF zZ zW (dg _ hd) (mn _ hmn) at1 rp at2 n2
              · cases neg
                · exact pp_tff _ _ _ _ _ _ _ w C d T N _ _ (by omega) (by omega) hN zF zZ zW (dg _ hd) (mn _ hmn) (fr _ (f3 rfl)) at1 rp at2 n1
                · exact pp_ttf _ _ _ _ _ _ _ w C d T N _ _ (by omega) (by omega) hN zF zZ zW (dg _ hd) (mn _ hmn) (fr _ (f3 rfl)) at1 rp at2 n2
            · have hno : ¬ (18325193 < d ∨ 1099511627776 < N) := by omega
              rw [if_neg hno, if_neg hno]
              have n1 : inA (N : Int) = true := (inA_iff _).2 (by omega)
              have n2 : inA (-(N : Int)) = true := (inA_iff _).2 (by omega)
              cases p
              · cases neg
                · exact pp_fft _ _ _ _ _ _ _ w C d T N _ _ (by omega) (by omega) hN zF zZ zW (dg _ hd) (mn _ hmn) at1 rp at2 n1
                · exact pp_ftt _ _ _ _ _ _ _ w C d T N _ _ (by omega) (by omega) hN zF zZ zW (dg _ hd) (mn _ hmn) at1 rp at2 n2
              · cases neg
                · exact pp_tft _ _ _ _ _ _ _ w C d T N _ _ (by omega) (by omega) hN zF zZ zW (dg _ hd) (mn _ hmn) (fr _ (f3 rfl)) at1 rp at2 n1
                · exact pp_ttt _ _ _ _ _ _ _ w C d T N _ _ (by omega) (by omega) hN zF zZ zW (dg _ hd) (mn _ hmn) (fr _ (f3 rfl)) at1 rp at2 n2
        · rw [if_neg hbig] at hat
          rw [if_pos (.inl (by omega)), if_pos (.inl (by omega))]
          have at' := fun wx (hb : Below w.heap.size w wx) => atoi_err (ba D) szD hat wx (he.below hb)
          cases p
          · exact pp_errf _ _ _ _ _ _ _ _ w C (dg _ hd) (mn _ hmn) at'
          · exact pp_errt _ _ _ _ _ _ _ _ w C (dg _ hd) (mn _ hmn) (fr _ (f3 rfl)) at'
end Go.Proofs.YtgcoddjjkcdfmaaGreatDoor
