/- Contract of the reference's Parse. -/
import Derived.Test.YtlcmnfhkicjclaaDoorTtE
import Derived.Test.YtlcmnfhkicjclaaDoorRtI
namespace Go.Proofs.YtlcmnfhkicjclaaDoor
open Go.RowKit
set_option linter.unusedVariables false

theorem str_ne {R s : ByteArray} (h : R ≠ s) : (R.toList == s.toList) = false := by
  rw [beq_eq_false_iff_ne]
  intro e
  refine h (ByteArray.ext (Array.ext' ?_))
  rw [← Go.ByteArray.toList_eq R, ← Go.ByteArray.toList_eq s]
  exact e
theorem rtx_len (n d : Int) (h1 : -1073741824 ≤ n) (h2 : n ≤ 1073741824) (h3 : 1 ≤ d) (h4 : d ≤ 1073741824) : (rtx n d).length ≤ 100 := by
  have a := itoa_len n h1 h2
  have b := itoa_len d (by omega) h4
  unfold rtx
  split
  · omega
  · rw [List.length_append, List.length_cons]; omega

set_option maxRecDepth 100000 in
set_option maxHeartbeats 8000000 in
theorem rp_1 (s : ByteArray) (w : World) (hs : s.size ≤ 4294967000) (hp : 0 < s.size) (h0 : (s[0]'hp).toNat ≠ 45) (n D2 x y : Int) (N1 K1 N2 K2 K : Nat) (b : Bool) (d1 : (run 11 (s.data.toList.drop 0) 0).1 = N1) (d2 : 0 + (run 11 (s.data.toList.drop 0) 0).2 = K1) (hn : n = (N1 : Int))
    (hsl : (D2 = 1 ∧ K = K1 ∧ (s.size ≤ K1 ∨ ∃ h : K1 < s.size, (s[K1]'h).toNat ≠ 47)) ∨ (D2 = (N2 : Int) ∧ K = K2 ∧ (run 11 (s.data.toList.drop (K1 + 1)) 0).1 = N2 ∧ (K1 + 1) + (run 11 (s.data.toList.drop (K1 + 1)) 0).2 = K2 ∧ ∃ h : K1 < s.size, (s[K1]'h).toNat = 47))
    (hout : (K ≠ s.size ∧ x = 0 ∧ y = 0 ∧ b = false) ∨ (K = s.size ∧ rok n D2 = false ∧ x = 0 ∧ y = 0 ∧ b = false) ∨ (K = s.size ∧ rok n D2 = true ∧ ba (rtx n D2) ≠ s ∧ x = 0 ∧ y = 0 ∧ b = false) ∨ (K = s.size ∧ rok n D2 = true ∧ ba (rtx n D2) = s ∧ x = n ∧ y = D2 ∧ b = true)) :
    Calls Tryd.prog 38 #[.string s] w fun e w' => e = .returned (.tuple #[.agg #[.int .i64 x, .int .i64 y], .bool b]) ∧ Below w.heap.size w w' := by
  have bN1 : (N1 : Int) ≤ 100000000000 := by
    have := run_val 11 (s.data.toList.drop 0) 0
    rw [d1] at this
    have h3 : (0 + 1) * (10 : Nat) ^ 11 = 100000000000 := by decide
    omega
  have bK1 : K1 ≤ s.size := by
    have := (run_bd 11 (s.data.toList.drop 0) 0).2
    have h : (s.data.toList.drop 0).length = s.size - 0 := by simp
    omega
  have C1 := Lib.hid (fun wx => digits_any s 0 wx (by omega) (by omega) N1 K1 d1 d2)
  have Q := Lib.hid (At2.new w (.int .i64 0) (.int .i64 0) 24)
  have HO := Lib.hid hout
  have HS := Lib.hid hs
  have HSL := Lib.hid hsl
  have HN := Lib.hid hn
  have n1 : -100000000000 ≤ n := by omega
  have n2 : n ≤ 100000000000 := by omega
  have z2 : (((s[0]'hp).toNat : Int) == 45) = false := by rw [beq_eq_false_iff_ne]; exact fun e => h0 (by exact_mod_cast e)
  clear d1 d2 hout hsl h0
  go_enter Tryd.func38, Tryd.ntmps38
  go_wp2_with fail
  refine (C1.out _).mono ?_
  rintro e w1 ⟨rfl, rfl⟩
  rcases HSL.out with ⟨e1, e2, hk | ⟨hk, h47⟩⟩ | ⟨e1, e2, r1, r2, hk, h47⟩
  · have u1 : ¬ (K1 : Int) < (s.size : Int) := by omega
    clear hk
    subst e1 e2
    have hn' := HN.out
    subst hn'
    clear HN HSL
    rcases HO.out with ⟨o1, o2, o3, o4⟩ | ⟨o1, o2, o3, o4, o5⟩ | ⟨o1, o2, o3, o4, o5, o6⟩ | ⟨o1, o2, o3, o4, o5, o6⟩
    · subst o2 o3 o4
      have uk : ((K : Int) != (s.size : Int)) = true := by rw [bne_iff_ne]; omega
      clear o1 HO
      go_wp2_with fail
      refine bodyPost_ret (v := .tuple #[.agg #[.int .i64 0, .int .i64 0], .bool false]) (by simp [results, Tryd.results38, go_sem]) rfl ⟨rfl, ?_⟩
      exact below2 _ _ _
    · subst o3 o4 o5
      have uk : ((K : Int) != (s.size : Int)) = false := by rw [bne_eq_false_iff_eq]; omega
      have CV := Lib.hid (fun wx => rvalid_is _ _ false o2 wx)
      clear o1 o2 HO
      go_wp2_with fail
      refine (CV.out _).mono ?_
      rintro e v1 ⟨rfl, hb⟩
      obtain ⟨Q, A⟩ := At2.two w (.int .i64 0) (.int .i64 0) (.int .i64 ((N1 : Int))) (.int .i64 1) 24 24
      have Q := Q.keep hb
      have A := A.keep hb
      have HB := Lib.hid (bstep (below2 w _ _) hb)
      clear hb
      obtain ⟨c0, c1, f0, f1, hz⟩ := Q
      obtain ⟨s0, s1⟩ := set2 c0 c1 (.int .i64 0) (.int .i64 0)
      go_wp2_with fail
      refine bodyPost_ret (v := .tuple #[.agg #[.int .i64 (0), .int .i64 (0)], .bool false]) (by simp [results, Tryd.results38, go_sem, s0, s1]) rfl ⟨rfl, ?_⟩
      exact below_set2 HB.out (Nat.le_refl _) _ _
    · subst o4 o5 o6
      have uk : ((K : Int) != (s.size : Int)) = false := by rw [bne_eq_false_iff_eq]; omega
      have CV := Lib.hid (fun wx => rvalid_is _ _ true o2 wx)
      have hk2 := (rok_iff _ _).1 o2
      have CT := Lib.hid (fun wx => rtext_ok ((N1 : Int)) (1) wx hk2.1 hk2.2.1 hk2.2.2.1 hk2.2.2.2.1)
      have sz : (ba (rtx ((N1 : Int)) (1))).size ≤ 100 := by rw [ba_size]; exact rtx_len _ _ hk2.1 hk2.2.1 hk2.2.2.1 hk2.2.2.2.1
      have m1 := hk2.1
      have m2 := hk2.2.1
      obtain ⟨R, hR⟩ : ∃ R, R = ba (rtx ((N1 : Int)) (1)) := ⟨_, rfl⟩
      rw [← hR] at CT o3 sz
      clear o1 o2 HO hR hk2
      go_wp2_with fail
      refine (CV.out _).mono ?_
      rintro e v1 ⟨rfl, hb⟩
      obtain ⟨Q, A⟩ := At2.two w (.int .i64 0) (.int .i64 0) (.int .i64 ((N1 : Int))) (.int .i64 1) 24 24
      have Q := Q.keep hb
      have A := A.keep hb
      have HB := Lib.hid (bstep (below2 w _ _) hb)
      clear hb
      obtain ⟨a0, a1, _, _, _⟩ := id A
      go_wp2_with fail
      refine (CT.out _).mono ?_
      rintro e v2 ⟨rfl, hb⟩
      have Q := Q.keep hb
      have A := A.keep hb
      have HB := Lib.hid (bstep HB.out hb)
      clear hb a0 a1
      obtain ⟨a0, a1, _, _, _⟩ := id A
      obtain ⟨c0, c1, f0, f1, hz⟩ := Q
      obtain ⟨s0, s1⟩ := set2 c0 c1 (.int .i64 0) (.int .i64 0)
      have tne := str_ne o3
      go_wp2_with fail
      refine bodyPost_ret (v := .tuple #[.agg #[.int .i64 (0), .int .i64 (0)], .bool false]) (by simp [results, Tryd.results38, go_sem, s0, s1]) rfl ⟨rfl, ?_⟩
      exact below_set2 HB.out (Nat.le_refl _) _ _
    · subst o4 o5 o6
      have uk : ((K : Int) != (s.size : Int)) = false := by rw [bne_eq_false_iff_eq]; omega
      have CV := Lib.hid (fun wx => rvalid_is _ _ true o2 wx)
      have hk2 := (rok_iff _ _).1 o2
      have CT := Lib.hid (fun wx => rtext_ok ((N1 : Int)) (1) wx hk2.1 hk2.2.1 hk2.2.2.1 hk2.2.2.2.1)
      have sz : (ba (rtx ((N1 : Int)) (1))).size ≤ 100 := by rw [ba_size]; exact rtx_len _ _ hk2.1 hk2.2.1 hk2.2.2.1 hk2.2.2.2.1
      have m1 := hk2.1
      have m2 := hk2.2.1
      obtain ⟨R, hR⟩ : ∃ R, R = ba (rtx ((N1 : Int)) (1)) := ⟨_, rfl⟩
      rw [← hR] at CT o3 sz
      subst o3
      clear o1 o2 HO hR hk2
      go_wp2_with fail
      refine (CV.out _).mono ?_
      rintro e v1 ⟨rfl, hb⟩
      obtain ⟨Q, A⟩ := At2.two w (.int .i64 0) (.int .i64 0) (.int .i64 ((N1 : Int))) (.int .i64 1) 24 24
      have Q := Q.keep hb
      have A := A.keep hb
      have HB := Lib.hid (bstep (below2 w _ _) hb)
      clear hb
      obtain ⟨a0, a1, _, _, _⟩ := id A
      go_wp2_with fail
      refine (CT.out _).mono ?_
      rintro e v2 ⟨rfl, hb⟩
      have Q := Q.keep hb
      have A := A.keep hb
      have HB := Lib.hid (bstep HB.out hb)
      clear hb a0 a1
      obtain ⟨a0, a1, _, _, _⟩ := id A
      obtain ⟨c0, c1, f0, f1, hz⟩ := Q
      obtain ⟨s0, s1⟩ := set2 c0 c1 (.int .i64 ((N1 : Int))) (.int .i64 1)
      go_wp2_with fail
      refine bodyPost_ret (v := .tuple #[.agg #[.int .i64 ((N1 : Int)), .int .i64 (1)], .bool true]) (by simp [results, Tryd.results38, go_sem, s0, s1]) rfl ⟨rfl, ?_⟩
      exact below_set2 HB.out (Nat.le_refl _) _ _
  · have u1 : (K1 : Int) < (s.size : Int) := by omega
    have u2 : (((s[K1]'hk).toNat : Int) == 47) = false := by rw [beq_eq_false_iff_ne]; exact fun e => h47 (by exact_mod_cast e)
    clear h47
    subst e1 e2
    have hn' := HN.out
    subst hn'
    clear HN HSL
    rcases HO.out with ⟨o1, o2, o3, o4⟩ | ⟨o1, o2, o3, o4, o5⟩ | ⟨o1, o2, o3, o4, o5, o6⟩ | ⟨o1, o2, o3, o4, o5, o6⟩
    · subst o2 o3 o4
      have uk : ((K : Int) != (s.size : Int)) = true := by rw [bne_iff_ne]; omega
      clear o1 HO
      go_wp2_with fail
      refine bodyPost_ret (v := .tuple #[.agg #[.int .i64 0, .int .i64 0], .bool false]) (by simp [results, Tryd.results38, go_sem]) rfl ⟨rfl, ?_⟩
      exact below2 _ _ _
    · subst o3 o4 o5
      have uk : ((K : Int) != (s.size : Int)) = false := by rw [bne_eq_false_iff_eq]; omega
      have CV := Lib.hid (fun wx => rvalid_is _ _ false o2 wx)
      clear o1 o2 HO
      go_wp2_with fail
      refine (CV.out _).mono ?_
      rintro e v1 ⟨rfl, hb⟩
      obtain ⟨Q, A⟩ := At2.two w (.int .i64 0) (.int .i64 0) (.int .i64 ((N1 : Int))) (.int .i64 1) 24 24
      have Q := Q.keep hb
      have A := A.keep hb
      have HB := Lib.hid (bstep (below2 w _ _) hb)
      clear hb
      obtain ⟨c0, c1, f0, f1, hz⟩ := Q
      obtain ⟨s0, s1⟩ := set2 c0 c1 (.int .i64 0) (.int .i64 0)
      go_wp2_with fail
      refine bodyPost_ret (v := .tuple #[.agg #[.int .i64 (0), .int .i64 (0)], .bool false]) (by simp [results, Tryd.results38, go_sem, s0, s1]) rfl ⟨rfl, ?_⟩
      exact below_set2 HB.out (Nat.le_refl _) _ _
    · subst o4 o5 o6
      have uk : ((K : Int) != (s.size : Int)) = false := by rw [bne_eq_false_iff_eq]; omega
      have CV := Lib.hid (fun wx => rvalid_is _ _ true o2 wx)
      have hk2 := (rok_iff _ _).1 o2
      have CT := Lib.hid (fun wx => rtext_ok ((N1 : Int)) (1) wx hk2.1 hk2.2.1 hk2.2.2.1 hk2.2.2.2.1)
      have sz : (ba (rtx ((N1 : Int)) (1))).size ≤ 100 := by rw [ba_size]; exact rtx_len _ _ hk2.1 hk2.2.1 hk2.2.2.1 hk2.2.2.2.1
      have m1 := hk2.1
      have m2 := hk2.2.1
      obtain ⟨R, hR⟩ : ∃ R, R = ba (rtx ((N1 : Int)) (1)) := ⟨_, rfl⟩
      rw [← hR] at CT o3 sz
      clear o1 o2 HO hR hk2
      go_wp2_with fail
      refine (CV.out _).mono ?_
      rintro e v1 ⟨rfl, hb⟩
      obtain ⟨Q, A⟩ := At2.two w (.int .i64 0) (.int .i64 0) (.int .i64 ((N1 : Int))) (.int .i64 1) 24 24
      have Q := Q.keep hb
      have A := A.keep hb
      have HB := Lib.hid (bstep (below2 w _ _) hb)
      clear hb
      obtain ⟨a0, a1, _, _, _⟩ := id A
      go_wp2_with fail
      refine (CT.out _).mono ?_
      rintro e v2 ⟨rfl, hb⟩
      have Q := Q.keep hb
      have A := A.keep hb
      have HB := Lib.hid (bstep HB.out hb)
      clear hb a0 a1
      obtain ⟨a0, a1, _, _, _⟩ := id A
      obtain ⟨c0, c1, f0, f1, hz⟩ := Q
      obtain ⟨s0, s1⟩ := set2 c0 c1 (.int .i64 0) (.int .i64 0)
      have tne := str_ne o3
      go_wp2_with fail
      refine bodyPost_ret (v := .tuple #[.agg #[.int .i64 (0), .int .i64 (0)], .bool false]) (by simp [results, Tryd.results38, go_sem, s0, s1]) rfl ⟨rfl, ?_⟩
      exact below_set2 HB.out (Nat.le_refl _) _ _
    · subst o4 o5 o6
      have uk : ((K : Int) != (s.size : Int)) = false := by rw [bne_eq_false_iff_eq]; omega
      have CV := Lib.hid (fun wx => rvalid_is _ _ true o2 wx)
      have hk2 := (rok_iff _ _).1 o2
      have CT := Lib.hid (fun wx => rtext_ok ((N1 : Int)) (1) wx hk2.1 hk2.2.1 hk2.2.2.1 hk2.2.2.2.1)
      have sz : (ba (rtx ((N1 : Int)) (1))).size ≤ 100 := by rw [ba_size]; exact rtx_len _ _ hk2.1 hk2.2.1 hk2.2.2.1 hk2.2.2.2.1
      have m1 := hk2.1
      have m2 := hk2.2.1
      obtain ⟨R, hR⟩ : ∃ R, R = ba (rtx ((N1 : Int)) (1)) := ⟨_, rfl⟩
      rw [← hR] at CT o3 sz
      subst o3
      clear o1 o2 HO hR hk2
      go_wp2_with fail
      refine (CV.out _).mono ?_
      rintro e v1 ⟨rfl, hb⟩
      obtain ⟨Q, A⟩ := At2.two w (.int .i64 0) (.int .i64 0) (.int .i64 ((N1 : Int))) (.int .i64 1) 24 24
      have Q := Q.keep hb
      have A := A.keep hb
      have HB := Lib.hid (bstep (below2 w _ _) hb)
      clear hb
      obtain ⟨a0, a1, _, _, _⟩ := id A
      go_wp2_with fail
      refine (CT.out _).mono ?_
      rintro e v2 ⟨rfl, hb⟩
      have Q := Q.keep hb
      have A := A.keep hb
      have HB := Lib.hid (bstep HB.out hb)
      clear hb a0 a1
      obtain ⟨a0, a1, _, _, _⟩ := id A
      obtain ⟨c0, c1, f0, f1, hz⟩ := Q
      obtain ⟨s0, s1⟩ := set2 c0 c1 (.int .i64 ((N1 : Int))) (.int .i64 1)
      go_wp2_with fail
      refine bodyPost_ret (v := .tuple #[.agg #[.int .i64 ((N1 : Int)), .int .i64 (1)], .bool true]) (by simp [results, Tryd.results38, go_sem, s0, s1]) rfl ⟨rfl, ?_⟩
      exact below_set2 HB.out (Nat.le_refl _) _ _
  · have u1 : (K1 : Int) < (s.size : Int) := by omega
    have u2 : (((s[K1]'hk).toNat : Int) == 47) = true := by rw [beq_iff_eq]; exact_mod_cast h47
    have C2 := Lib.hid (fun wx => digits_any s (K1 + 1) wx (by omega) (by have := HS.out; omega) N2 K2 r1 r2)
    have bN2 : (N2 : Int) ≤ 100000000000 := by
      have := run_val 11 (s.data.toList.drop (K1 + 1)) 0
      rw [r1] at this
      have h3 : (0 + 1) * (10 : Nat) ^ 11 = 100000000000 := by decide
      omega
    clear h47 r1 r2
    subst e1 e2
    have hn' := HN.out
    subst hn'
    clear HN HSL
    go_wp2_with fail
    refine (C2.out _).mono ?_
    rintro e w1 ⟨rfl, rfl⟩
    rcases HO.out with ⟨o1, o2, o3, o4⟩ | ⟨o1, o2, o3, o4, o5⟩ | ⟨o1, o2, o3, o4, o5, o6⟩ | ⟨o1, o2, o3, o4, o5, o6⟩
    · subst o2 o3 o4
      have uk : ((K : Int) != (s.size : Int)) = true := by rw [bne_iff_ne]; omega
      clear o1 HO
      go_wp2_with fail
      refine bodyPost_ret (v := .tuple #[.agg #[.int .i64 0, .int .i64 0], .bool false]) (by simp [results, Tryd.results38, go_sem]) rfl ⟨rfl, ?_⟩
      exact below2 _ _ _
    · subst o3 o4 o5
      have uk : ((K : Int) != (s.size : Int)) = false := by rw [bne_eq_false_iff_eq]; omega
      have CV := Lib.hid (fun wx => rvalid_is _ _ false o2 wx)
      clear o1 o2 HO
      go_wp2_with fail
      refine (CV.out _).mono ?_
      rintro e v1 ⟨rfl, hb⟩
      obtain ⟨Q, A⟩ := At2.two w (.int .i64 0) (.int .i64 0) (.int .i64 ((N1 : Int))) (.int .i64 (N2 : Int)) 24 24
      have Q := Q.keep hb
      have A := A.keep hb
      have HB := Lib.hid (bstep (below2 w _ _) hb)
      clear hb
      obtain ⟨c0, c1, f0, f1, hz⟩ := Q
      obtain ⟨s0, s1⟩ := set2 c0 c1 (.int .i64 0) (.int .i64 0)
      go_wp2_with fail
      refine bodyPost_ret (v := .tuple #[.agg #[.int .i64 (0), .int .i64 (0)], .bool false]) (by simp [results, Tryd.results38, go_sem, s0, s1]) rfl ⟨rfl, ?_⟩
      exact below_set2 HB.out (Nat.le_refl _) _ _
    · subst o4 o5 o6
      have uk : ((K : Int) != (s.size : Int)) = false := by rw [bne_eq_false_iff_eq]; omega
      have CV := Lib.hid (fun wx => rvalid_is _ _ true o2 wx)
      have hk2 := (rok_iff _ _).1 o2
      have CT := Lib.hid (fun wx => rtext_ok ((N1 : Int)) ((N2 : Int)) wx hk2.1 hk2.2.1 hk2.2.2.1 hk2.2.2.2.1)
      have sz : (ba (rtx ((N1 : Int)) ((N2 : Int)))).size ≤ 100 := by rw [ba_size]; exact rtx_len _ _ hk2.1 hk2.2.1 hk2.2.2.1 hk2.2.2.2.1
      have m1 := hk2.1
      have m2 := hk2.2.1
      obtain ⟨R, hR⟩ : ∃ R, R = ba (rtx ((N1 : Int)) ((N2 : Int))) := ⟨_, rfl⟩
      rw [← hR] at CT o3 sz
      clear o1 o2 HO hR hk2
      go_wp2_with fail
      refine (CV.out _).mono ?_
      rintro e v1 ⟨rfl, hb⟩
      obtain ⟨Q, A⟩ := At2.two w (.int .i64 0) (.int .i64 0) (.int .i64 ((N1 : Int))) (.int .i64 (N2 : Int)) 24 24
      have Q := Q.keep hb
      have A := A.keep hb
      have HB := Lib.hid (bstep (below2 w _ _) hb)
      clear hb
      obtain ⟨a0, a1, _, _, _⟩ := id A
      go_wp2_with fail
      refine (CT.out _).mono ?_
      rintro e v2 ⟨rfl, hb⟩
      have Q := Q.keep hb
      have A := A.keep hb
      have HB := Lib.hid (bstep HB.out hb)
      clear hb a0 a1
      obtain ⟨a0, a1, _, _, _⟩ := id A
      obtain ⟨c0, c1, f0, f1, hz⟩ := Q
      obtain ⟨s0, s1⟩ := set2 c0 c1 (.int .i64 0) (.int .i64 0)
      have tne := str_ne o3
      go_wp2_with fail
      refine bodyPost_ret (v := .tuple #[.agg #[.int .i64 (0), .int .i64 (0)], .bool false]) (by simp [results, Tryd.results38, go_sem, s0, s1]) rfl ⟨rfl, ?_⟩
      exact below_set2 HB.out (Nat.le_refl _) _ _
    · subst o4 o5 o6
      have uk : ((K : Int) != (s.size : Int)) = false := by rw [bne_eq_false_iff_eq]; omega
      have CV := Lib.hid (fun wx => rvalid_is _ _ true o2 wx)
      have hk2 := (rok_iff _ _).1 o2
      have CT := Lib.hid (fun wx => rtext_ok ((N1 : Int)) ((N2 : Int)) wx hk2.1 hk2.2.1 hk2.2.2.1 hk2.2.2.2.1)
      have sz : (ba (rtx ((N1 : Int)) ((N2 : Int)))).size ≤ 100 := by rw [ba_size]; exact rtx_len _ _ hk2.1 hk2.2.1 hk2.2.2.1 hk2.2.2.2.1
      have m1 := hk2.1
      have m2 := hk2.2.1
      obtain ⟨R, hR⟩ : ∃ R, R = ba (rtx ((N1 : Int)) ((N2 : Int))) := ⟨_, rfl⟩
      rw [← hR] at CT o3 sz
      subst o3
      clear o1 o2 HO hR hk2
      go_wp2_with fail
      refine (CV.out _).mono ?_
      rintro e v1 ⟨rfl, hb⟩
      obtain ⟨Q, A⟩ := At2.two w (.int .i64 0) (.int .i64 0) (.int .i64 ((N1 : Int))) (.int .i64 (N2 : Int)) 24 24
      have Q := Q.keep hb
      have A := A.keep hb
      have HB := Lib.hid (bstep (below2 w _ _) hb)
      clear hb
      obtain ⟨a0, a1, _, _, _⟩ := id A
      go_wp2_with fail
      refine (CT.out _).mono ?_
      rintro e v2 ⟨rfl, hb⟩
      have Q := Q.keep hb
      have A := A.keep hb
      have HB := Lib.hid (bstep HB.out hb)
      clear hb a0 a1
      obtain ⟨a0, a1, _, _, _⟩ := id A
      obtain ⟨c0, c1, f0, f1, hz⟩ := Q
      obtain ⟨s0, s1⟩ := set2 c0 c1 (.int .i64 ((N1 : Int))) (.int .i64 (N2 : Int))
      go_wp2_with fail
      refine bodyPost_ret (v := .tuple #[.agg #[.int .i64 ((N1 : Int)), .int .i64 ((N2 : Int))], .bool true]) (by simp [results, Tryd.results38, go_sem, s0, s1]) rfl ⟨rfl, ?_⟩
      exact below_set2 HB.out (Nat.le_refl _) _ _

set_option maxRecDepth 100000 in
set_option maxHeartbeats 8000000 in
theorem rp_2 (s : ByteArray) (w : World) (hs : s.size ≤ 4294967000) (hp : 0 < s.size) (h0 : (s[0]'hp).toNat = 45) (n D2 x y : Int) (N1 K1 N2 K2 K : Nat) (b : Bool) (d1 : (run 11 (s.data.toList.drop 1) 0).1 = N1) (d2 : 1 + (run 11 (s.data.toList.drop 1) 0).2 = K1) (hn : n = -(N1 : Int))
    (hsl : (D2 = 1 ∧ K = K1 ∧ (s.size ≤ K1 ∨ ∃ h : K1 < s.size, (s[K1]'h).toNat ≠ 47)) ∨ (D2 = (N2 : Int) ∧ K = K2 ∧ (run 11 (s.data.toList.drop (K1 + 1)) 0).1 = N2 ∧ (K1 + 1) + (run 11 (s.data.toList.drop (K1 + 1)) 0).2 = K2 ∧ ∃ h : K1 < s.size, (s[K1]'h).toNat = 47))
    (hout : (K ≠ s.size ∧ x = 0 ∧ y = 0 ∧ b = false) ∨ (K = s.size ∧ rok n D2 = false ∧ x = 0 ∧ y = 0 ∧ b = false) ∨ (K = s.size ∧ rok n D2 = true ∧ ba (rtx n D2) ≠ s ∧ x = 0 ∧ y = 0 ∧ b = false) ∨ (K = s.size ∧ rok n D2 = true ∧ ba (rtx n D2) = s ∧ x = n ∧ y = D2 ∧ b = true)) :
    Calls Tryd.prog 38 #[.string s] w fun e w' => e = .returned (.tuple #[.agg #[.int .i64 x, .int .i64 y], .bool b]) ∧ Below w.heap.size w w' := by
  have bN1 : (N1 : Int) ≤ 100000000000 := by
    have := run_val 11 (s.data.toList.drop 1) 0
    rw [d1] at this
    have h3 : (0 + 1) * (10 : Nat) ^ 11 = 100000000000 := by decide
    omega
  have bK1 : K1 ≤ s.size := by
    have := (run_bd 11 (s.data.toList.drop 1) 0).2
    have h : (s.data.toList.drop 1).length = s.size - 1 := by simp
    omega
  have C1 := Lib.hid (fun wx => digits_any s 1 wx (by omega) (by omega) N1 K1 d1 d2)
  have Q := Lib.hid (At2.new w (.int .i64 0) (.int .i64 0) 24)
  have HO := Lib.hid hout
  have HS := Lib.hid hs
  have HSL := Lib.hid hsl
  have HN := Lib.hid hn
  have n1 : -100000000000 ≤ n := by omega
  have n2 : n ≤ 100000000000 := by omega
  have z2 : (((s[0]'hp).toNat : Int) == 45) = true := by rw [beq_iff_eq]; exact_mod_cast h0
  clear d1 d2 hout hsl h0
  go_enter Tryd.func38, Tryd.ntmps38
  go_wp2_with fail
  refine (C1.out _).mono ?_
  rintro e w1 ⟨rfl, rfl⟩
  rcases HSL.out with ⟨e1, e2, hk | ⟨hk, h47⟩⟩ | ⟨e1, e2, r1, r2, hk, h47⟩
  · have u1 : ¬ (K1 : Int) < (s.size : Int) := by omega
    clear hk
    subst e1 e2
    have hn' := HN.out
    subst hn'
    clear HN HSL
    rcases HO.out with ⟨o1, o2, o3, o4⟩ | ⟨o1, o2, o3, o4, o5⟩ | ⟨o1, o2, o3, o4, o5, o6⟩ | ⟨o1, o2, o3, o4, o5, o6⟩
    · subst o2 o3 o4
      have uk : ((K : Int) != (s.size : Int)) = true := by rw [bne_iff_ne]; omega
      clear o1 HO
      go_wp2_with fail
      refine bodyPost_ret (v := .tuple #[.agg #[.int .i64 0, .int .i64 0], .bool false]) (by simp [results, Tryd.results38, go_sem]) rfl ⟨rfl, ?_⟩
      exact below2 _ _ _
    · subst o3 o4 o5
      have uk : ((K : Int) != (s.size : Int)) = false := by rw [bne_eq_false_iff_eq]; omega
      have CV := Lib.hid (fun wx => rvalid_is _ _ false o2 wx)
      clear o1 o2 HO
      go_wp2_with fail
      refine (CV.out _).mono ?_
      rintro e v1 ⟨rfl, hb⟩
      obtain ⟨Q, A⟩ := At2.two w (.int .i64 0) (.int .i64 0) (.int .i64 (-(N1 : Int))) (.int .i64 1) 24 24
      have Q := Q.keep hb
      have A := A.keep hb
      have HB := Lib.hid (bstep (below2 w _ _) hb)
      clear hb
      obtain ⟨c0, c1, f0, f1, hz⟩ := Q
      obtain ⟨s0, s1⟩ := set2 c0 c1 (.int .i64 0) (.int .i64 0)
      go_wp2_with fail
      refine bodyPost_ret (v := .tuple #[.agg #[.int .i64 (0), .int .i64 (0)], .bool false]) (by simp [results, Tryd.results38, go_sem, s0, s1]) rfl ⟨rfl, ?_⟩
      exact below_set2 HB.out (Nat.le_refl _) _ _
    · subst o4 o5 o6
      have uk : ((K : Int) != (s.size : Int)) = false := by rw [bne_eq_false_iff_eq]; omega
      have CV := Lib.hid (fun wx => rvalid_is _ _ true o2 wx)
      have hk2 := (rok_iff _ _).1 o2
      have CT := Lib.hid (fun wx => rtext_ok (-(N1 : Int)) (1) wx hk2.1 hk2.2.1 hk2.2.2.1 hk2.2.2.2.1)
      have sz : (ba (rtx (-(N1 : Int)) (1))).size ≤ 100 := by rw [ba_size]; exact rtx_len _ _ hk2.1 hk2.2.1 hk2.2.2.1 hk2.2.2.2.1
      have m1 := hk2.1
      have m2 := hk2.2.1
      obtain ⟨R, hR⟩ : ∃ R, R = ba (rtx (-(N1 : Int)) (1)) := ⟨_, rfl⟩
      rw [← hR] at CT o3 sz
      clear o1 o2 HO hR hk2
      go_wp2_with fail
      refine (CV.out _).mono ?_
      rintro e v1 ⟨rfl, hb⟩
      obtain ⟨Q, A⟩ := At2.two w (.int .i64 0) (.int .i64 0) (.int .i64 (-(N1 : Int))) (.int .i64 1) 24 24
      have Q := Q.keep hb
      have A := A.keep hb
      have HB := Lib.hid (bstep (below2 w _ _) hb)
      clear hb
      obtain ⟨a0, a1, _, _, _⟩ := id A
      go_wp2_with fail
      refine (CT.out _).mono ?_
      rintro e v2 ⟨rfl, hb⟩
      have Q := Q.keep hb
      have A := A.keep hb
      have HB := Lib.hid (bstep HB.out hb)
      clear hb a0 a1
      obtain ⟨a0, a1, _, _, _⟩ := id A
      obtain ⟨c0, c1, f0, f1, hz⟩ := Q
      obtain ⟨s0, s1⟩ := set2 c0 c1 (.int .i64 0) (.int .i64 0)
      have tne := str_ne o3
      go_wp2_with fail
      refine bodyPost_ret (v := .tuple #[.agg #[.int .i64 (0), .int .i64 (0)], .bool false]) (by simp [results, Tryd.results38, go_sem, s0, s1]) rfl ⟨rfl, ?_⟩
      exact below_set2 HB.out (Nat.le_refl _) _ _
    · subst o4 o5 o6
      have uk : ((K : Int) != (s.size : Int)) = false := by rw [bne_eq_false_iff_eq]; omega
      have CV := Lib.hid (fun wx => rvalid_is _ _ true o2 wx)
      have hk2 := (rok_iff _ _).1 o2
      have CT := Lib.hid (fun wx => rtext_ok (-(N1 : Int)) (1) wx hk2.1 hk2.2.1 hk2.2.2.1 hk2.2.2.2.1)
      have sz : (ba (rtx (-(N1 : Int)) (1))).size ≤ 100 := by rw [ba_size]; exact rtx_len _ _ hk2.1 hk2.2.1 hk2.2.2.1 hk2.2.2.2.1
      have m1 := hk2.1
      have m2 := hk2.2.1
      obtain ⟨R, hR⟩ : ∃ R, R = ba (rtx (-(N1 : Int)) (1)) := ⟨_, rfl⟩
      rw [← hR] at CT o3 sz
      subst o3
      clear o1 o2 HO hR hk2
      go_wp2_with fail
      refine (CV.out _).mono ?_
      rintro e v1 ⟨rfl, hb⟩
      obtain ⟨Q, A⟩ := At2.two w (.int .i64 0) (.int .i64 0) (.int .i64 (-(N1 : Int))) (.int .i64 1) 24 24
      have Q := Q.keep hb
      have A := A.keep hb
      have HB := Lib.hid (bstep (below2 w _ _) hb)
      clear hb
      obtain ⟨a0, a1, _, _, _⟩ := id A
      go_wp2_with fail
      refine (CT.out _).mono ?_
      rintro e v2 ⟨rfl, hb⟩
      have Q := Q.keep hb
      have A := A.keep hb
      have HB := Lib.hid (bstep HB.out hb)
      clear hb a0 a1
      obtain ⟨a0, a1, _, _, _⟩ := id A
      obtain ⟨c0, c1, f0, f1, hz⟩ := Q
      obtain ⟨s0, s1⟩ := set2 c0 c1 (.int .i64 (-(N1 : Int))) (.int .i64 1)
      go_wp2_with fail
      refine bodyPost_ret (v := .tuple #[.agg #[.int .i64 (-(N1 : Int)), .int .i64 (1)], .bool true]) (by simp [results, Tryd.results38, go_sem, s0, s1]) rfl ⟨rfl, ?_⟩
      exact below_set2 HB.out (Nat.le_refl _) _ _
  · have u1 : (K1 : Int) < (s.size : Int) := by omega
    have u2 : (((s[K1]'hk).toNat : Int) == 47) = false := by rw [beq_eq_false_iff_ne]; exact fun e => h47 (by exact_mod_cast e)
    clear h47
    subst e1 e2
    have hn' := HN.out
    subst hn'
    clear HN HSL
    rcases HO.out with ⟨o1, o2, o3, o4⟩ | ⟨o1, o2, o3, o4, o5⟩ | ⟨o1, o2, o3, o4, o5, o6⟩ | ⟨o1, o2, o3, o4, o5, o6⟩
    · subst o2 o3 o4
      have uk : ((K : Int) != (s.size : Int)) = true := by rw [bne_iff_ne]; omega
      clear o1 HO
      go_wp2_with fail
      refine bodyPost_ret (v := .tuple #[.agg #[.int .i64 0, .int .i64 0], .bool false]) (by simp [results, Tryd.results38, go_sem]) rfl ⟨rfl, ?_⟩
      exact below2 _ _ _
    · subst o3 o4 o5
      have uk : ((K : Int) != (s.size : Int)) = false := by rw [bne_eq_false_iff_eq]; omega
      have CV := Lib.hid (fun wx => rvalid_is _ _ false o2 wx)
      clear o1 o2 HO
      go_wp2_with fail
      refine (CV.out _).mono ?_
      rintro e v1 ⟨rfl, hb⟩
      obtain ⟨Q, A⟩ := At2.two w (.int .i64 0) (.int .i64 0) (.int .i64 (-(N1 : Int))) (.int .i64 1) 24 24
      have Q := Q.keep hb
      have A := A.keep hb
      have HB := Lib.hid (bstep (below2 w _ _) hb)
      clear hb
      obtain ⟨c0, c1, f0, f1, hz⟩ := Q
      obtain ⟨s0, s1⟩ := set2 c0 c1 (.int .i64 0) (.int .i64 0)
      go_wp2_with fail
      refine bodyPost_ret (v := .tuple #[.agg #[.int .i64 (0), .int .i64 (0)], .bool false]) (by simp [results, Tryd.results38, go_sem, s0, s1]) rfl ⟨rfl, ?_⟩
      exact below_set2 HB.out (Nat.le_refl _) _ _
    · subst o4 o5 o6
      have uk : ((K : Int) != (s.size : Int)) = false := by rw [bne_eq_false_iff_eq]; omega
      have CV := Lib.hid (fun wx => rvalid_is _ _ true o2 wx)
      have hk2 := (rok_iff _ _).1 o2
      have CT := Lib.hid (fun wx => rtext_ok (-(N1 : Int)) (1) wx hk2.1 hk2.2.1 hk2.2.2.1 hk2.2.2.2.1)
      have sz : (ba (rtx (-(N1 : Int)) (1))).size ≤ 100 := by rw [ba_size]; exact rtx_len _ _ hk2.1 hk2.2.1 hk2.2.2.1 hk2.2.2.2.1
      have m1 := hk2.1
      have m2 := hk2.2.1
      obtain ⟨R, hR⟩ : ∃ R, R = ba (rtx (-(N1 : Int)) (1)) := ⟨_, rfl⟩
      rw [← hR] at CT o3 sz
      clear o1 o2 HO hR hk2
      go_wp2_with fail
      refine (CV.out _).mono ?_
      rintro e v1 ⟨rfl, hb⟩
      obtain ⟨Q, A⟩ := At2.two w (.int .i64 0) (.int .i64 0) (.int .i64 (-(N1 : Int))) (.int .i64 1) 24 24
      have Q := Q.keep hb
      have A := A.keep hb
      have HB := Lib.hid (bstep (below2 w _ _) hb)
      clear hb
      obtain ⟨a0, a1, _, _, _⟩ := id A
      go_wp2_with fail
      refine (CT.out _).mono ?_
      rintro e v2 ⟨rfl, hb⟩
      have Q := Q.keep hb
      have A := A.keep hb
      have HB := Lib.hid (bstep HB.out hb)
      clear hb a0 a1
      obtain ⟨a0, a1, _, _, _⟩ := id A
      obtain ⟨c0, c1, f0, f1, hz⟩ := Q
      obtain ⟨s0, s1⟩ := set2 c0 c1 (.int .i64 0) (.int .i64 0)
      have tne := str_ne o3
      go_wp2_with fail
      refine bodyPost_ret (v := .tuple #[.agg #[.int .i64 (0), .int .i64 (0)], .bool false]) (by simp [results, Tryd.results38, go_sem, s0, s1]) rfl ⟨rfl, ?_⟩
      exact below_set2 HB.out (Nat.le_refl _) _ _
    · subst o4 o5 o6
      have uk : ((K : Int) != (s.size : Int)) = false := by rw [bne_eq_false_iff_eq]; omega
      have CV := Lib.hid (fun wx => rvalid_is _ _ true o2 wx)
      have hk2 := (rok_iff _ _).1 o2
      have CT := Lib.hid (fun wx => rtext_ok (-(N1 : Int)) (1) wx hk2.1 hk2.2.1 hk2.2.2.1 hk2.2.2.2.1)
      have sz : (ba (rtx (-(N1 : Int)) (1))).size ≤ 100 := by rw [ba_size]; exact rtx_len _ _ hk2.1 hk2.2.1 hk2.2.2.1 hk2.2.2.2.1
      have m1 := hk2.1
      have m2 := hk2.2.1
      obtain ⟨R, hR⟩ : ∃ R, R = ba (rtx (-(N1 : Int)) (1)) := ⟨_, rfl⟩
      rw [← hR] at CT o3 sz
      subst o3
      clear o1 o2 HO hR hk2
      go_wp2_with fail
      refine (CV.out _).mono ?_
      rintro e v1 ⟨rfl, hb⟩
      obtain ⟨Q, A⟩ := At2.two w (.int .i64 0) (.int .i64 0) (.int .i64 (-(N1 : Int))) (.int .i64 1) 24 24
      have Q := Q.keep hb
      have A := A.keep hb
      have HB := Lib.hid (bstep (below2 w _ _) hb)
      clear hb
      obtain ⟨a0, a1, _, _, _⟩ := id A
      go_wp2_with fail
      refine (CT.out _).mono ?_
      rintro e v2 ⟨rfl, hb⟩
      have Q := Q.keep hb
      have A := A.keep hb
      have HB := Lib.hid (bstep HB.out hb)
      clear hb a0 a1
      obtain ⟨a0, a1, _, _, _⟩ := id A
      obtain ⟨c0, c1, f0, f1, hz⟩ := Q
      obtain ⟨s0, s1⟩ := set2 c0 c1 (.int .i64 (-(N1 : Int))) (.int .i64 1)
      go_wp2_with fail
      refine bodyPost_ret (v := .tuple #[.agg #[.int .i64 (-(N1 : Int)), .int .i64 (1)], .bool true]) (by simp [results, Tryd.results38, go_sem, s0, s1]) rfl ⟨rfl, ?_⟩
      exact below_set2 HB.out (Nat.le_refl _) _ _
  · have u1 : (K1 : Int) < (s.size : Int) := by omega
    have u2 : (((s[K1]'hk).toNat : Int) == 47) = true := by rw [beq_iff_eq]; exact_mod_cast h47
    have C2 := Lib.hid (fun wx => digits_any s (K1 + 1) wx (by omega) (by have := HS.out; omega) N2 K2 r1 r2)
    have bN2 : (N2 : Int) ≤ 100000000000 := by
      have := run_val 11 (s.data.toList.drop (K1 + 1)) 0
      rw [r1] at this
      have h3 : (0 + 1) * (10 : Nat) ^ 11 = 100000000000 := by decide
      omega
    clear h47 r1 r2
    subst e1 e2
    have hn' := HN.out
    subst hn'
    clear HN HSL
    go_wp2_with fail
    refine (C2.out _).mono ?_
    rintro e w1 ⟨rfl, rfl⟩
    rcases HO.out with ⟨o1, o2, o3, o4⟩ | ⟨o1, o2, o3, o4, o5⟩ | ⟨o1, o2, o3, o4, o5, o6⟩ | ⟨o1, o2, o3, o4, o5, o6⟩
    · subst o2 o3 o4
      have uk : ((K : Int) != (s.size : Int)) = true := by rw [bne_iff_ne]; omega
      clear o1 HO
      go_wp2_with fail
      refine bodyPost_ret (v := .tuple #[.agg #[.int .i64 0, .int .i64 0], .bool false]) (by simp [results, Tryd.results38, go_sem]) rfl ⟨rfl, ?_⟩
      exact below2 _ _ _
    · subst o3 o4 o5
      have uk : ((K : Int) != (s.size : Int)) = false := by rw [bne_eq_false_iff_eq]; omega
      have CV := Lib.hid (fun wx => rvalid_is _ _ false o2 wx)
      clear o1 o2 HO
      go_wp2_with fail
      refine (CV.out _).mono ?_
      rintro e v1 ⟨rfl, hb⟩
      obtain ⟨Q, A⟩ := At2.two w (.int .i64 0) (.int .i64 0) (.int .i64 (-(N1 : Int))) (.int .i64 (N2 : Int)) 24 24
      have Q := Q.keep hb
      have A := A.keep hb
      have HB := Lib.hid (bstep (below2 w _ _) hb)
      clear hb
      obtain ⟨c0, c1, f0, f1, hz⟩ := Q
      obtain ⟨s0, s1⟩ := set2 c0 c1 (.int .i64 0) (.int .i64 0)
      go_wp2_with fail
      refine bodyPost_ret (v := .tuple #[.agg #[.int .i64 (0), .int .i64 (0)], .bool false]) (by simp [results, Tryd.results38, go_sem, s0, s1]) rfl ⟨rfl, ?_⟩
      exact below_set2 HB.out (Nat.le_refl _) _ _
    · subst o4 o5 o6
      have uk : ((K : Int) != (s.size : Int)) = false := by rw [bne_eq_false_iff_eq]; omega
      have CV := Lib.hid (fun wx => rvalid_is _ _ true o2 wx)
      have hk2 := (rok_iff _ _).1 o2
      have CT := Lib.hid (fun wx => rtext_ok (-(N1 : Int)) ((N2 : Int)) wx hk2.1 hk2.2.1 hk2.2.2.1 hk2.2.2.2.1)
      have sz : (ba (rtx (-(N1 : Int)) ((N2 : Int)))).size ≤ 100 := by rw [ba_size]; exact rtx_len _ _ hk2.1 hk2.2.1 hk2.2.2.1 hk2.2.2.2.1
      have m1 := hk2.1
      have m2 := hk2.2.1
      obtain ⟨R, hR⟩ : ∃ R, R = ba (rtx (-(N1 : Int)) ((N2 : Int))) := ⟨_, rfl⟩
      rw [← hR] at CT o3 sz
      clear o1 o2 HO hR hk2
      go_wp2_with fail
      refine (CV.out _).mono ?_
      rintro e v1 ⟨rfl, hb⟩
      obtain ⟨Q, A⟩ := At2.two w (.int .i64 0) (.int .i64 0) (.int .i64 (-(N1 : Int))) (.int .i64 (N2 : Int)) 24 24
      have Q := Q.keep hb
      have A := A.keep hb
      have HB := Lib.hid (bstep (below2 w _ _) hb)
      clear hb
      obtain ⟨a0, a1, _, _, _⟩ := id A
      go_wp2_with fail
      refine (CT.out _).mono ?_
      rintro e v2 ⟨rfl, hb⟩
      have Q := Q.keep hb
      have A := A.keep hb
      have HB := Lib.hid (bstep HB.out hb)
      clear hb a0 a1
      obtain ⟨a0, a1, _, _, _⟩ := id A
      obtain ⟨c0, c1, f0, f1, hz⟩ := Q
      obtain ⟨s0, s1⟩ := set2 c0 c1 (.int .i64 0) (.int .i64 0)
      have tne := str_ne o3
      go_wp2_with fail
      refine bodyPost_ret (v := .tuple #[.agg #[.int .i64 (0), .int .i64 (0)], .bool false]) (by simp [results, Tryd.results38, go_sem, s0, s1]) rfl ⟨rfl, ?_⟩
      exact below_set2 HB.out (Nat.le_refl _) _ _
    · subst o4 o5 o6
      have uk : ((K : Int) != (s.size : Int)) = false := by rw [bne_eq_false_iff_eq]; omega
      have CV := Lib.hid (fun wx => rvalid_is _ _ true o2 wx)
      have hk2 := (rok_iff _ _).1 o2
      have CT := Lib.hid (fun wx => rtext_ok (-(N1 : Int)) ((N2 : Int)) wx hk2.1 hk2.2.1 hk2.2.2.1 hk2.2.2.2.1)
      have sz : (ba (rtx (-(N1 : Int)) ((N2 : Int)))).size ≤ 100 := by rw [ba_size]; exact rtx_len _ _ hk2.1 hk2.2.1 hk2.2.2.1 hk2.2.2.2.1
      have m1 := hk2.1
      have m2 := hk2.2.1
      obtain ⟨R, hR⟩ : ∃ R, R = ba (rtx (-(N1 : Int)) ((N2 : Int))) := ⟨_, rfl⟩
      rw [← hR] at CT o3 sz
      subst o3
      clear o1 o2 HO hR hk2
      go_wp2_with fail
      refine (CV.out _).mono ?_
      rintro e v1 ⟨rfl, hb⟩
      obtain ⟨Q, A⟩ := At2.two w (.int .i64 0) (.int .i64 0) (.int .i64 (-(N1 : Int))) (.int .i64 (N2 : Int)) 24 24
      have Q := Q.keep hb
      have A := A.keep hb
      have HB := Lib.hid (bstep (below2 w _ _) hb)
      clear hb
      obtain ⟨a0, a1, _, _, _⟩ := id A
      go_wp2_with fail
      refine (CT.out _).mono ?_
      rintro e v2 ⟨rfl, hb⟩
      have Q := Q.keep hb
      have A := A.keep hb
      have HB := Lib.hid (bstep HB.out hb)
      clear hb a0 a1
      obtain ⟨a0, a1, _, _, _⟩ := id A
      obtain ⟨c0, c1, f0, f1, hz⟩ := Q
      obtain ⟨s0, s1⟩ := set2 c0 c1 (.int .i64 (-(N1 : Int))) (.int .i64 (N2 : Int))
      go_wp2_with fail
      refine bodyPost_ret (v := .tuple #[.agg #[.int .i64 (-(N1 : Int)), .int .i64 ((N2 : Int))], .bool true]) (by simp [results, Tryd.results38, go_sem, s0, s1]) rfl ⟨rfl, ?_⟩
      exact below_set2 HB.out (Nat.le_refl _) _ _

set_option maxRecDepth 100000 in
theorem rp_0 (w : World) : Calls Tryd.prog 38 #[.string ⟨#[]⟩] w fun e w' => e = .returned (.tuple #[.agg #[.int .i64 0, .int .i64 0], .bool false]) ∧ Below w.heap.size w w' := by
  have C1 : Hid (∀ wx, Calls Tryd.prog 55 #[.string ⟨#[]⟩, .int .i64 0] wx fun e w' => e = .returned (.tuple #[.int .i64 0, .int .i64 0]) ∧ w' = wx) := fun wx => digits_any ⟨#[]⟩ 0 wx (by decide) (by decide) 0 0 rfl rfl
  have CV := Lib.hid (fun wx => rvalid_is 0 1 true (by decide) wx)
  have CT : Hid (∀ wx, Calls Tryd.prog 40 #[.agg #[.int .i64 0, .int .i64 1]] wx fun e w' => e = .returned (.string ⟨#[48]⟩) ∧ Below wx.heap.size wx w') := by
    intro wx
    have := rtext_ok 0 1 wx (by decide) (by decide) (by decide) (by decide)
    have e : ba (rtx 0 1) = ⟨#[48]⟩ := by
      unfold rtx Lib.itoa
      rw [if_pos rfl, if_neg (by decide), dec_small (by decide)]
      rfl
    rw [e] at this
    exact this
  go_enter Tryd.func38, Tryd.ntmps38
  go_wp2_with fail
  refine (C1.out _).mono ?_
  rintro e w1 ⟨rfl, rfl⟩
  go_wp2_with fail
  refine (CV.out _).mono ?_
  rintro e v1 ⟨rfl, hb⟩
  obtain ⟨Q, A⟩ := At2.two w (.int .i64 0) (.int .i64 0) (.int .i64 0) (.int .i64 1) 24 24
  have Q := Q.keep hb
  have A := A.keep hb
  have HB := Lib.hid (bstep (below2 w _ _) hb)
  clear hb
  obtain ⟨a0, a1, _, _, _⟩ := id A
  go_wp2_with fail
  refine (CT.out _).mono ?_
  rintro e v2 ⟨rfl, hb⟩
  have Q := Q.keep hb
  have HB := Lib.hid (bstep HB.out hb)
  clear hb a0 a1
  obtain ⟨c0, c1, f0, f1, hz⟩ := Q
  obtain ⟨s0, s1⟩ := set2 c0 c1 (.int .i64 0) (.int .i64 0)
  go_wp2_with fail
  refine bodyPost_ret (v := .tuple #[.agg #[.int .i64 0, .int .i64 0], .bool false]) (by simp [results, Tryd.results38, go_sem, s0, s1]) rfl ⟨rfl, ?_⟩
  exact below_set2 HB.out (Nat.le_refl _) _ _
end Go.Proofs.YtlcmnfhkicjclaaDoor
