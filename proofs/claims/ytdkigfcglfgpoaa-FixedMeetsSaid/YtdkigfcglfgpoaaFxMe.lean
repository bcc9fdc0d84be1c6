/- FixedMeets: the walk of the law. -/
import Derived.Test.YtdkigfcglfgpoaaFxL
namespace Go.Proofs.Ytdkigfcglfgpoaa
open Go.RowKit
set_option linter.unusedVariables false

set_option maxHeartbeats 8000000 in
theorem meets_bad (P : FxProg) (a b c d u v : Int) (w : World) (ha : fok a b = false) :
    Calls Try.prog 10 #[.agg #[.int .i64 a, .int .i64 b], .agg #[.int .i64 c, .int .i64 d], .agg #[.int .i64 u, .int .i64 v]] w fun e w' => e = .returned (.bool true) ∧ Below w.heap.size w w' := by
  have CA := Lib.hid (fun wx => awake_any P wx)
  have V1 := Lib.hid (fun wx => rValid_is a b false ha wx)
  have CI := Lib.hid (fun wx => told1 false (by unfold insideR; rw [ha]; rfl) (P.inside a b c d wx))
  clear ha
  have A := At2.new w (.int .i64 a) (.int .i64 b) 23
  have A := A.alloc (.cells #[.int .i64 c, .int .i64 d] 23)
  have B := At2.new (w.alloc (.cells #[.int .i64 a, .int .i64 b] 23)) (.int .i64 c) (.int .i64 d) 23
  simp at B
  have A := A.alloc (.cells #[.int .i64 u, .int .i64 v] 23)
  have B := B.alloc (.cells #[.int .i64 u, .int .i64 v] 23)
  have E := At2.new ((w.alloc (.cells #[.int .i64 a, .int .i64 b] 23)).alloc (.cells #[.int .i64 c, .int .i64 d] 23)) (.int .i64 u) (.int .i64 v) 23
  simp at E
  have HB := Lib.hid (bstep (bstep (bstep (Below.refl w.heap.size w) (below1 w (.cells #[.int .i64 a, .int .i64 b] 23))) (below1 (w.alloc (.cells #[.int .i64 a, .int .i64 b] 23)) (.cells #[.int .i64 c, .int .i64 d] 23))) (below1 ((w.alloc (.cells #[.int .i64 a, .int .i64 b] 23)).alloc (.cells #[.int .i64 c, .int .i64 d] 23)) (.cells #[.int .i64 u, .int .i64 v] 23)))
  go_enter Try.func10, Try.ntmps10
  obtain ⟨A0, A1, -, -, -⟩ := id A
  obtain ⟨B0, B1, -, -, -⟩ := id B
  obtain ⟨E0, E1, -, -, -⟩ := id E
  go_wp2_with fail
  refine (CA.out _).mono ?_
  rintro e w1 ⟨rfl, hb⟩
  have A := (A.keep hb)
  have B := (B.keep hb)
  have E := (E.keep hb)
  have HB := Lib.hid (bstep HB.out hb)
  clear hb
  clear A0 A1 B0 B1 E0 E1
  obtain ⟨A0, A1, -, -, -⟩ := id A
  obtain ⟨B0, B1, -, -, -⟩ := id B
  obtain ⟨E0, E1, -, -, -⟩ := id E
  go_wp2_with fail
  refine (V1.out _).mono ?_
  rintro e w2 ⟨rfl, hb⟩
  have A := (A.keep hb)
  have B := (B.keep hb)
  have E := (E.keep hb)
  have HB := Lib.hid (bstep HB.out hb)
  clear hb
  clear A0 A1 B0 B1 E0 E1
  obtain ⟨A0, A1, -, -, -⟩ := id A
  obtain ⟨B0, B1, -, -, -⟩ := id B
  obtain ⟨E0, E1, -, -, -⟩ := id E
  go_wp2_with fail
  refine (CI.out _).mono ?_
  rintro e w3 ⟨rfl, hb⟩
  have A := (A.keep hb)
  have B := (B.keep hb)
  have E := (E.keep hb)
  have HB := Lib.hid (bstep HB.out hb)
  clear hb
  clear A0 A1 B0 B1 E0 E1
  obtain ⟨A0, A1, -, -, -⟩ := id A
  obtain ⟨B0, B1, -, -, -⟩ := id B
  obtain ⟨E0, E1, -, -, -⟩ := id E
  go_wp2_with fail
  go_ret
  exact ⟨rfl, HB.out⟩

set_option maxHeartbeats 8000000 in
theorem meets_mid (P : FxProg) (a b c d u v : Int) (w : World) (ha : fok a b = true) (hc : fok c d = false) :
    Calls Try.prog 10 #[.agg #[.int .i64 a, .int .i64 b], .agg #[.int .i64 c, .int .i64 d], .agg #[.int .i64 u, .int .i64 v]] w fun e w' => e = .returned (.bool true) ∧ Below w.heap.size w w' := by
  have CA := Lib.hid (fun wx => awake_any P wx)
  have V1 := Lib.hid (fun wx => rValid_is a b true ha wx)
  have V2 := Lib.hid (fun wx => rValid_is c d false hc wx)
  have CI := Lib.hid (fun wx => told1 false (by unfold insideR; rw [ha, hc]; rfl) (P.inside a b c d wx))
  clear ha hc
  have A := At2.new w (.int .i64 a) (.int .i64 b) 23
  have A := A.alloc (.cells #[.int .i64 c, .int .i64 d] 23)
  have B := At2.new (w.alloc (.cells #[.int .i64 a, .int .i64 b] 23)) (.int .i64 c) (.int .i64 d) 23
  simp at B
  have A := A.alloc (.cells #[.int .i64 u, .int .i64 v] 23)
  have B := B.alloc (.cells #[.int .i64 u, .int .i64 v] 23)
  have E := At2.new ((w.alloc (.cells #[.int .i64 a, .int .i64 b] 23)).alloc (.cells #[.int .i64 c, .int .i64 d] 23)) (.int .i64 u) (.int .i64 v) 23
  simp at E
  have HB := Lib.hid (bstep (bstep (bstep (Below.refl w.heap.size w) (below1 w (.cells #[.int .i64 a, .int .i64 b] 23))) (below1 (w.alloc (.cells #[.int .i64 a, .int .i64 b] 23)) (.cells #[.int .i64 c, .int .i64 d] 23))) (below1 ((w.alloc (.cells #[.int .i64 a, .int .i64 b] 23)).alloc (.cells #[.int .i64 c, .int .i64 d] 23)) (.cells #[.int .i64 u, .int .i64 v] 23)))
  go_enter Try.func10, Try.ntmps10
  obtain ⟨A0, A1, -, -, -⟩ := id A
  obtain ⟨B0, B1, -, -, -⟩ := id B
  obtain ⟨E0, E1, -, -, -⟩ := id E
  go_wp2_with fail
  refine (CA.out _).mono ?_
  rintro e w1 ⟨rfl, hb⟩
  have A := (A.keep hb)
  have B := (B.keep hb)
  have E := (E.keep hb)
  have HB := Lib.hid (bstep HB.out hb)
  clear hb
  clear A0 A1 B0 B1 E0 E1
  obtain ⟨A0, A1, -, -, -⟩ := id A
  obtain ⟨B0, B1, -, -, -⟩ := id B
  obtain ⟨E0, E1, -, -, -⟩ := id E
  go_wp2_with fail
  refine (V1.out _).mono ?_
  rintro e w2 ⟨rfl, hb⟩
  have A := (A.keep hb)
  have B := (B.keep hb)
  have E := (E.keep hb)
  have HB := Lib.hid (bstep HB.out hb)
  clear hb
  clear A0 A1 B0 B1 E0 E1
  obtain ⟨A0, A1, -, -, -⟩ := id A
  obtain ⟨B0, B1, -, -, -⟩ := id B
  obtain ⟨E0, E1, -, -, -⟩ := id E
  go_wp2_with fail
  refine (V2.out _).mono ?_
  rintro e w3 ⟨rfl, hb⟩
  have A := (A.keep hb)
  have B := (B.keep hb)
  have E := (E.keep hb)
  have HB := Lib.hid (bstep HB.out hb)
  clear hb
  clear A0 A1 B0 B1 E0 E1
  obtain ⟨A0, A1, -, -, -⟩ := id A
  obtain ⟨B0, B1, -, -, -⟩ := id B
  obtain ⟨E0, E1, -, -, -⟩ := id E
  go_wp2_with fail
  refine (CI.out _).mono ?_
  rintro e w4 ⟨rfl, hb⟩
  have A := (A.keep hb)
  have B := (B.keep hb)
  have E := (E.keep hb)
  have HB := Lib.hid (bstep HB.out hb)
  clear hb
  clear A0 A1 B0 B1 E0 E1
  obtain ⟨A0, A1, -, -, -⟩ := id A
  obtain ⟨B0, B1, -, -, -⟩ := id B
  obtain ⟨E0, E1, -, -, -⟩ := id E
  go_wp2_with fail
  go_ret
  exact ⟨rfl, HB.out⟩

set_option maxHeartbeats 8000000 in
theorem meets_hit0 (P : FxProg) (a b c d u v : Int) (w : World) (ha : fok a b = true) (hc : fok c d = true) (hm : (meetR a b c d).e = 0 ∧ insideR (meetR a b c d).l (meetR a b c d).h a b = true ∧ insideR (meetR a b c d).l (meetR a b c d).h c d = true ∧ (∀ u v, insideR u v a b = true → insideR u v c d = true → insideR u v (meetR a b c d).l (meetR a b c d).h = true)) (h1 : insideR u v a b = false) :
    Calls Try.prog 10 #[.agg #[.int .i64 a, .int .i64 b], .agg #[.int .i64 c, .int .i64 d], .agg #[.int .i64 u, .int .i64 v]] w fun e w' => e = .returned (.bool true) ∧ Below w.heap.size w w' := by
  have CA := Lib.hid (fun wx => awake_any P wx)
  have V1 := Lib.hid (fun wx => rValid_is a b true ha wx)
  have V2 := Lib.hid (fun wx => rValid_is c d true hc wx)
  have hi := hull_in ha hc
  obtain ⟨p, hp⟩ : ∃ p, min a c = p := ⟨_, rfl⟩
  obtain ⟨q, hq⟩ : ∃ q, max b d = q := ⟨_, rfl⟩
  rw [hp, hq] at hi
  have C1 := Lib.hid (fun wx => told p q 0 ((vF_yes _ (by rw [ha, hc]; rfl)).trans (by unfold hullR; rw [hp, hq])) (P.hull a b c d wx))
  have C2 := Lib.hid (fun wx => told p q 0 ((vF_yes _ (by rw [ha, hc]; rfl)).trans ((hullR_comm c d a b).trans (by unfold hullR; rw [hp, hq]))) (P.hull c d a b wx))
  have I1 := Lib.hid (fun wx => told1 true hi.1 (P.inside a b p q wx))
  have I2 := Lib.hid (fun wx => told1 true hi.2 (P.inside c d p q wx))
  obtain ⟨G, hG⟩ : ∃ G, meetR a b c d = G := ⟨_, rfl⟩
  rw [hG] at hm
  have C3 := Lib.hid (fun wx => told G.l G.h 0 ((vF_yes _ (by rw [ha, hc]; rfl)).trans (hG.trans (by rw [← hm.1]))) (P.meet a b c d wx))
  have C4 := Lib.hid (fun wx => told G.l G.h 0 ((vF_yes _ (by rw [ha, hc]; rfl)).trans ((meetR_comm c d a b).trans (hG.trans (by rw [← hm.1])))) (P.meet c d a b wx))
  have I3 := Lib.hid (fun wx => told1 false h1 (P.inside u v a b wx))
  have I5 := Lib.hid (fun wx => told1 true hm.2.1 (P.inside G.l G.h a b wx))
  have I6 := Lib.hid (fun wx => told1 true hm.2.2.1 (P.inside G.l G.h c d wx))
  clear hi hp hq hG hm ha hc h1
  have A := At2.new w (.int .i64 a) (.int .i64 b) 23
  have A := A.alloc (.cells #[.int .i64 c, .int .i64 d] 23)
  have B := At2.new (w.alloc (.cells #[.int .i64 a, .int .i64 b] 23)) (.int .i64 c) (.int .i64 d) 23
  simp at B
  have A := A.alloc (.cells #[.int .i64 u, .int .i64 v] 23)
  have B := B.alloc (.cells #[.int .i64 u, .int .i64 v] 23)
  have E := At2.new ((w.alloc (.cells #[.int .i64 a, .int .i64 b] 23)).alloc (.cells #[.int .i64 c, .int .i64 d] 23)) (.int .i64 u) (.int .i64 v) 23
  simp at E
  have HB := Lib.hid (bstep (bstep (bstep (Below.refl w.heap.size w) (below1 w (.cells #[.int .i64 a, .int .i64 b] 23))) (below1 (w.alloc (.cells #[.int .i64 a, .int .i64 b] 23)) (.cells #[.int .i64 c, .int .i64 d] 23))) (below1 ((w.alloc (.cells #[.int .i64 a, .int .i64 b] 23)).alloc (.cells #[.int .i64 c, .int .i64 d] 23)) (.cells #[.int .i64 u, .int .i64 v] 23)))
  go_enter Try.func10, Try.ntmps10
  obtain ⟨A0, A1, -, -, -⟩ := id A
  obtain ⟨B0, B1, -, -, -⟩ := id B
  obtain ⟨E0, E1, -, -, -⟩ := id E
  go_wp2_with fail
  refine (CA.out _).mono ?_
  rintro e w1 ⟨rfl, hb⟩
  have A := (A.keep hb)
  have B := (B.keep hb)
  have E := (E.keep hb)
  have HB := Lib.hid (bstep HB.out hb)
  clear hb
  clear A0 A1 B0 B1 E0 E1
  obtain ⟨A0, A1, -, -, -⟩ := id A
  obtain ⟨B0, B1, -, -, -⟩ := id B
  obtain ⟨E0, E1, -, -, -⟩ := id E
  go_wp2_with fail
  refine (V1.out _).mono ?_
  rintro e w2 ⟨rfl, hb⟩
  have A := (A.keep hb)
  have B := (B.keep hb)
  have E := (E.keep hb)
  have HB := Lib.hid (bstep HB.out hb)
  clear hb
  clear A0 A1 B0 B1 E0 E1
  obtain ⟨A0, A1, -, -, -⟩ := id A
  obtain ⟨B0, B1, -, -, -⟩ := id B
  obtain ⟨E0, E1, -, -, -⟩ := id E
  go_wp2_with fail
  refine (V2.out _).mono ?_
  rintro e w3 ⟨rfl, hb⟩
  have A := (A.keep hb)
  have B := (B.keep hb)
  have E := (E.keep hb)
  have HB := Lib.hid (bstep HB.out hb)
  clear hb
  clear A0 A1 B0 B1 E0 E1
  obtain ⟨A0, A1, -, -, -⟩ := id A
  obtain ⟨B0, B1, -, -, -⟩ := id B
  obtain ⟨E0, E1, -, -, -⟩ := id E
  go_wp2_with fail
  refine (C1.out _).mono ?_
  rintro e w4 ⟨rfl, hb⟩
  have A := (A.keep hb).alloc (.cells #[.int .i64 p, .int .i64 q] 23)
  have B := (B.keep hb).alloc (.cells #[.int .i64 p, .int .i64 q] 23)
  have E := (E.keep hb).alloc (.cells #[.int .i64 p, .int .i64 q] 23)
  have H := At2.new w4 (.int .i64 p) (.int .i64 q) 23
  have HB := Lib.hid (bstep (bstep HB.out hb) (below1 w4 (.cells #[.int .i64 p, .int .i64 q] 23)))
  clear hb
  clear A0 A1 B0 B1 E0 E1
  obtain ⟨A0, A1, -, -, -⟩ := id A
  obtain ⟨B0, B1, -, -, -⟩ := id B
  obtain ⟨E0, E1, -, -, -⟩ := id E
  obtain ⟨H0, H1, -, -, -⟩ := id H
  go_wp2_with fail
  refine (C2.out _).mono ?_
  rintro e w5 ⟨rfl, hb⟩
  have A := (A.keep hb).alloc (.cells #[.int .i64 p, .int .i64 q] 23)
  have B := (B.keep hb).alloc (.cells #[.int .i64 p, .int .i64 q] 23)
  have E := (E.keep hb).alloc (.cells #[.int .i64 p, .int .i64 q] 23)
  have H := (H.keep hb).alloc (.cells #[.int .i64 p, .int .i64 q] 23)
  have K := At2.new w5 (.int .i64 p) (.int .i64 q) 23
  have HB := Lib.hid (bstep (bstep HB.out hb) (below1 w5 (.cells #[.int .i64 p, .int .i64 q] 23)))
  clear hb
  clear A0 A1 B0 B1 E0 E1 H0 H1
  obtain ⟨A0, A1, -, -, -⟩ := id A
  obtain ⟨B0, B1, -, -, -⟩ := id B
  obtain ⟨E0, E1, -, -, -⟩ := id E
  obtain ⟨H0, H1, -, -, -⟩ := id H
  obtain ⟨K0, K1, -, -, -⟩ := id K
  go_wp2_with fail
  refine (C3.out _).mono ?_
  rintro e w6 ⟨rfl, hb⟩
  have A := (A.keep hb).alloc (.cells #[.int .i64 G.l, .int .i64 G.h] 23)
  have B := (B.keep hb).alloc (.cells #[.int .i64 G.l, .int .i64 G.h] 23)
  have E := (E.keep hb).alloc (.cells #[.int .i64 G.l, .int .i64 G.h] 23)
  have H := (H.keep hb).alloc (.cells #[.int .i64 G.l, .int .i64 G.h] 23)
  have K := (K.keep hb).alloc (.cells #[.int .i64 G.l, .int .i64 G.h] 23)
  have M := At2.new w6 (.int .i64 G.l) (.int .i64 G.h) 23
  have HB := Lib.hid (bstep (bstep HB.out hb) (below1 w6 (.cells #[.int .i64 G.l, .int .i64 G.h] 23)))
  clear hb
  clear A0 A1 B0 B1 E0 E1 H0 H1 K0 K1
  obtain ⟨A0, A1, -, -, -⟩ := id A
  obtain ⟨B0, B1, -, -, -⟩ := id B
  obtain ⟨E0, E1, -, -, -⟩ := id E
  obtain ⟨H0, H1, -, -, -⟩ := id H
  obtain ⟨K0, K1, -, -, -⟩ := id K
  obtain ⟨M0, M1, -, -, -⟩ := id M
  go_wp2_with fail
  refine (C4.out _).mono ?_
  rintro e w7 ⟨rfl, hb⟩
  have A := (A.keep hb).alloc (.cells #[.int .i64 G.l, .int .i64 G.h] 23)
  have B := (B.keep hb).alloc (.cells #[.int .i64 G.l, .int .i64 G.h] 23)
  have E := (E.keep hb).alloc (.cells #[.int .i64 G.l, .int .i64 G.h] 23)
  have H := (H.keep hb).alloc (.cells #[.int .i64 G.l, .int .i64 G.h] 23)
  have K := (K.keep hb).alloc (.cells #[.int .i64 G.l, .int .i64 G.h] 23)
  have M := (M.keep hb).alloc (.cells #[.int .i64 G.l, .int .i64 G.h] 23)
  have N := At2.new w7 (.int .i64 G.l) (.int .i64 G.h) 23
  have HB := Lib.hid (bstep (bstep HB.out hb) (below1 w7 (.cells #[.int .i64 G.l, .int .i64 G.h] 23)))
  clear hb
  clear A0 A1 B0 B1 E0 E1 H0 H1 K0 K1 M0 M1
  obtain ⟨A0, A1, -, -, -⟩ := id A
  obtain ⟨B0, B1, -, -, -⟩ := id B
  obtain ⟨E0, E1, -, -, -⟩ := id E
  obtain ⟨H0, H1, -, -, -⟩ := id H
  obtain ⟨K0, K1, -, -, -⟩ := id K
  obtain ⟨M0, M1, -, -, -⟩ := id M
  obtain ⟨N0, N1, -, -, -⟩ := id N
  go_wp2_with fail
  refine (I1.out _).mono ?_
  rintro e w8 ⟨rfl, hb⟩
  have A := (A.keep hb)
  have B := (B.keep hb)
  have E := (E.keep hb)
  have H := (H.keep hb)
  have K := (K.keep hb)
  have M := (M.keep hb)
  have N := (N.keep hb)
  have HB := Lib.hid (bstep HB.out hb)
  clear hb
  clear A0 A1 B0 B1 E0 E1 H0 H1 K0 K1 M0 M1 N0 N1
  obtain ⟨A0, A1, -, -, -⟩ := id A
  obtain ⟨B0, B1, -, -, -⟩ := id B
  obtain ⟨E0, E1, -, -, -⟩ := id E
  obtain ⟨H0, H1, -, -, -⟩ := id H
  obtain ⟨K0, K1, -, -, -⟩ := id K
  obtain ⟨M0, M1, -, -, -⟩ := id M
  obtain ⟨N0, N1, -, -, -⟩ := id N
  go_wp2_with fail
  refine (I2.out _).mono ?_
  rintro e w9 ⟨rfl, hb⟩
  have A := (A.keep hb)
  have B := (B.keep hb)
  have E := (E.keep hb)
  have H := (H.keep hb)
  have K := (K.keep hb)
  have M := (M.keep hb)
  have N := (N.keep hb)
  have HB := Lib.hid (bstep HB.out hb)
  clear hb
  clear A0 A1 B0 B1 E0 E1 H0 H1 K0 K1 M0 M1 N0 N1
  obtain ⟨A0, A1, -, -, -⟩ := id A
  obtain ⟨B0, B1, -, -, -⟩ := id B
  obtain ⟨E0, E1, -, -, -⟩ := id E
  obtain ⟨H0, H1, -, -, -⟩ := id H
  obtain ⟨K0, K1, -, -, -⟩ := id K
  obtain ⟨M0, M1, -, -, -⟩ := id M
  obtain ⟨N0, N1, -, -, -⟩ := id N
  go_wp2_with fail
  refine (I3.out _).mono ?_
  rintro e w10 ⟨rfl, hb⟩
  have A := (A.keep hb)
  have B := (B.keep hb)
  have E := (E.keep hb)
  have H := (H.keep hb)
  have K := (K.keep hb)
  have M := (M.keep hb)
  have N := (N.keep hb)
  have HB := Lib.hid (bstep HB.out hb)
  clear hb
  clear A0 A1 B0 B1 E0 E1 H0 H1 K0 K1 M0 M1 N0 N1
  obtain ⟨A0, A1, -, -, -⟩ := id A
  obtain ⟨B0, B1, -, -, -⟩ := id B
  obtain ⟨E0, E1, -, -, -⟩ := id E
  obtain ⟨H0, H1, -, -, -⟩ := id H
  obtain ⟨K0, K1, -, -, -⟩ := id K
  obtain ⟨M0, M1, -, -, -⟩ := id M
  obtain ⟨N0, N1, -, -, -⟩ := id N
  go_wp2_with fail
  refine (I5.out _).mono ?_
  rintro e w11 ⟨rfl, hb⟩
  have A := (A.keep hb)
  have B := (B.keep hb)
  have E := (E.keep hb)
  have H := (H.keep hb)
  have K := (K.keep hb)
  have M := (M.keep hb)
  have N := (N.keep hb)
  have HB := Lib.hid (bstep HB.out hb)
  clear hb
  clear A0 A1 B0 B1 E0 E1 H0 H1 K0 K1 M0 M1 N0 N1
  obtain ⟨A0, A1, -, -, -⟩ := id A
  obtain ⟨B0, B1, -, -, -⟩ := id B
  obtain ⟨E0, E1, -, -, -⟩ := id E
  obtain ⟨H0, H1, -, -, -⟩ := id H
  obtain ⟨K0, K1, -, -, -⟩ := id K
  obtain ⟨M0, M1, -, -, -⟩ := id M
  obtain ⟨N0, N1, -, -, -⟩ := id N
  go_wp2_with fail
  refine (I6.out _).mono ?_
  rintro e w12 ⟨rfl, hb⟩
  have A := (A.keep hb)
  have B := (B.keep hb)
  have E := (E.keep hb)
  have H := (H.keep hb)
  have K := (K.keep hb)
  have M := (M.keep hb)
  have N := (N.keep hb)
  have HB := Lib.hid (bstep HB.out hb)
  clear hb
  clear A0 A1 B0 B1 E0 E1 H0 H1 K0 K1 M0 M1 N0 N1
  obtain ⟨A0, A1, -, -, -⟩ := id A
  obtain ⟨B0, B1, -, -, -⟩ := id B
  obtain ⟨E0, E1, -, -, -⟩ := id E
  obtain ⟨H0, H1, -, -, -⟩ := id H
  obtain ⟨K0, K1, -, -, -⟩ := id K
  obtain ⟨M0, M1, -, -, -⟩ := id M
  obtain ⟨N0, N1, -, -, -⟩ := id N
  go_wp2_with fail
  go_ret
  exact ⟨rfl, HB.out⟩

set_option maxHeartbeats 8000000 in
theorem meets_hit1 (P : FxProg) (a b c d u v : Int) (w : World) (ha : fok a b = true) (hc : fok c d = true) (hm : (meetR a b c d).e = 0 ∧ insideR (meetR a b c d).l (meetR a b c d).h a b = true ∧ insideR (meetR a b c d).l (meetR a b c d).h c d = true ∧ (∀ u v, insideR u v a b = true → insideR u v c d = true → insideR u v (meetR a b c d).l (meetR a b c d).h = true)) (h1 : insideR u v a b = true) (h2 : insideR u v c d = false) :
    Calls Try.prog 10 #[.agg #[.int .i64 a, .int .i64 b], .agg #[.int .i64 c, .int .i64 d], .agg #[.int .i64 u, .int .i64 v]] w fun e w' => e = .returned (.bool true) ∧ Below w.heap.size w w' := by
  have CA := Lib.hid (fun wx => awake_any P wx)
  have V1 := Lib.hid (fun wx => rValid_is a b true ha wx)
  have V2 := Lib.hid (fun wx => rValid_is c d true hc wx)
  have hi := hull_in ha hc
  obtain ⟨p, hp⟩ : ∃ p, min a c = p := ⟨_, rfl⟩
  obtain ⟨q, hq⟩ : ∃ q, max b d = q := ⟨_, rfl⟩
  rw [hp, hq] at hi
  have C1 := Lib.hid (fun wx => told p q 0 ((vF_yes _ (by rw [ha, hc]; rfl)).trans (by unfold hullR; rw [hp, hq])) (P.hull a b c d wx))
  have C2 := Lib.hid (fun wx => told p q 0 ((vF_yes _ (by rw [ha, hc]; rfl)).trans ((hullR_comm c d a b).trans (by unfold hullR; rw [hp, hq]))) (P.hull c d a b wx))
  have I1 := Lib.hid (fun wx => told1 true hi.1 (P.inside a b p q wx))
  have I2 := Lib.hid (fun wx => told1 true hi.2 (P.inside c d p q wx))
  obtain ⟨G, hG⟩ : ∃ G, meetR a b c d = G := ⟨_, rfl⟩
  rw [hG] at hm
  have C3 := Lib.hid (fun wx => told G.l G.h 0 ((vF_yes _ (by rw [ha, hc]; rfl)).trans (hG.trans (by rw [← hm.1]))) (P.meet a b c d wx))
  have C4 := Lib.hid (fun wx => told G.l G.h 0 ((vF_yes _ (by rw [ha, hc]; rfl)).trans ((meetR_comm c d a b).trans (hG.trans (by rw [← hm.1])))) (P.meet c d a b wx))
  have I3 := Lib.hid (fun wx => told1 true h1 (P.inside u v a b wx))
  have I4 := Lib.hid (fun wx => told1 false h2 (P.inside u v c d wx))
  have I5 := Lib.hid (fun wx => told1 true hm.2.1 (P.inside G.l G.h a b wx))
  have I6 := Lib.hid (fun wx => told1 true hm.2.2.1 (P.inside G.l G.h c d wx))
  clear hi hp hq hG hm ha hc h1 h2
  have A := At2.new w (.int .i64 a) (.int .i64 b) 23
  have A := A.alloc (.cells #[.int .i64 c, .int .i64 d] 23)
  have B := At2.new (w.alloc (.cells #[.int .i64 a, .int .i64 b] 23)) (.int .i64 c) (.int .i64 d) 23
  simp at B
  have A := A.alloc (.cells #[.int .i64 u, .int .i64 v] 23)
  have B := B.alloc (.cells #[.int .i64 u, .int .i64 v] 23)
  have E := At2.new ((w.alloc (.cells #[.int .i64 a, .int .i64 b] 23)).alloc (.cells #[.int .i64 c, .int .i64 d] 23)) (.int .i64 u) (.int .i64 v) 23
  simp at E
  have HB := Lib.hid (bstep (bstep (bstep (Below.refl w.heap.size w) (below1 w (.cells #[.int .i64 a, .int .i64 b] 23))) (below1 (w.alloc (.cells #[.int .i64 a, .int .i64 b] 23)) (.cells #[.int .i64 c, .int .i64 d] 23))) (below1 ((w.alloc (.cells #[.int .i64 a, .int .i64 b] 23)).alloc (.cells #[.int .i64 c, .int .i64 d] 23)) (.cells #[.int .i64 u, .int .i64 v] 23)))
  go_enter Try.func10, Try.ntmps10
  obtain ⟨A0, A1, -, -, -⟩ := id A
  obtain ⟨B0, B1, -, -, -⟩ := id B
  obtain ⟨E0, E1, -, -, -⟩ := id E
  go_wp2_with fail
  refine (CA.out _).mono ?_
  rintro e w1 ⟨rfl, hb⟩
  have A := (A.keep hb)
  have B := (B.keep hb)
  have E := (E.keep hb)
  have HB := Lib.hid (bstep HB.out hb)
  clear hb
  clear A0 A1 B0 B1 E0 E1
  obtain ⟨A0, A1, -, -, -⟩ := id A
  obtain ⟨B0, B1, -, -, -⟩ := id B
  obtain ⟨E0, E1, -, -, -⟩ := id E
  go_wp2_with fail
  refine (V1.out _).mono ?_
  rintro e w2 ⟨rfl, hb⟩
  have A := (A.keep hb)
  have B := (B.keep hb)
  have E := (E.keep hb)
  have HB := Lib.hid (bstep HB.out hb)
  clear hb
  clear A0 A1 B0 B1 E0 E1
  obtain ⟨A0, A1, -, -, -⟩ := id A
  obtain ⟨B0, B1, -, -, -⟩ := id B
  obtain ⟨E0, E1, -, -, -⟩ := id E
  go_wp2_with fail
  refine (V2.out _).mono ?_
  rintro e w3 ⟨rfl, hb⟩
  have A := (A.keep hb)
  have B := (B.keep hb)
  have E := (E.keep hb)
  have HB := Lib.hid (bstep HB.out hb)
  clear hb
  clear A0 A1 B0 B1 E0 E1
  obtain ⟨A0, A1, -, -, -⟩ := id A
  obtain ⟨B0, B1, -, -, -⟩ := id B
  obtain ⟨E0, E1, -, -, -⟩ := id E
  go_wp2_with fail
  refine (C1.out _).mono ?_
  rintro e w4 ⟨rfl, hb⟩
  have A := (A.keep hb).alloc (.cells #[.int .i64 p, .int .i64 q] 23)
  have B := (B.keep hb).alloc (.cells #[.int .i64 p, .int .i64 q] 23)
  have E := (E.keep hb).alloc (.cells #[.int .i64 p, .int .i64 q] 23)
  have H := At2.new w4 (.int .i64 p) (.int .i64 q) 23
  have HB := Lib.hid (bstep (bstep HB.out hb) (below1 w4 (.cells #[.int .i64 p, .int .i64 q] 23)))
  clear hb
  clear A0 A1 B0 B1 E0 E1
  obtain ⟨A0, A1, -, -, -⟩ := id A
  obtain ⟨B0, B1, -, -, -⟩ := id B
  obtain ⟨E0, E1, -, -, -⟩ := id E
  obtain ⟨H0, H1, -, -, -⟩ := id H
  go_wp2_with fail
  refine (C2.out _).mono ?_
  rintro e w5 ⟨rfl, hb⟩
  have A := (A.keep hb).alloc (.cells #[.int .i64 p, .int .i64 q] 23)
  have B := (B.keep hb).alloc (.cells #[.int .i64 p, .int .i64 q] 23)
  have E := (E.keep hb).alloc (.cells #[.int .i64 p, .int .i64 q] 23)
  have H := (H.keep hb).alloc (.cells #[.int .i64 p, .int .i64 q] 23)
  have K := At2.new w5 (.int .i64 p) (.int .i64 q) 23
  have HB := Lib.hid (bstep (bstep HB.out hb) (below1 w5 (.cells #[.int .i64 p, .int .i64 q] 23)))
  clear hb
  clear A0 A1 B0 B1 E0 E1 H0 H1
  obtain ⟨A0, A1, -, -, -⟩ := id A
  obtain ⟨B0, B1, -, -, -⟩ := id B
  obtain ⟨E0, E1, -, -, -⟩ := id E
  obtain ⟨H0, H1, -, -, -⟩ := id H
  obtain ⟨K0, K1, -, -, -⟩ := id K
  go_wp2_with fail
  refine (C3.out _).mono ?_
  rintro e w6 ⟨rfl, hb⟩
  have A := (A.keep hb).alloc (.cells #[.int .i64 G.l, .int .i64 G.h] 23)
  have B := (B.keep hb).alloc (.cells #[.int .i64 G.l, .int .i64 G.h] 23)
  have E := (E.keep hb).alloc (.cells #[.int .i64 G.l, .int .i64 G.h] 23)
  have H := (H.keep hb).alloc (.cells #[.int .i64 G.l, .int .i64 G.h] 23)
  have K := (K.keep hb).alloc (.cells #[.int .i64 G.l, .int .i64 G.h] 23)
  have M := At2.new w6 (.int .i64 G.l) (.int .i64 G.h) 23
  have HB := Lib.hid (bstep (bstep HB.out hb) (below1 w6 (.cells #[.int .i64 G.l, .int .i64 G.h] 23)))
  clear hb
  clear A0 A1 B0 B1 E0 E1 H0 H1 K0 K1
  obtain ⟨A0, A1, -, -, -⟩ := id A
  obtain ⟨B0, B1, -, -, -⟩ := id B
  obtain ⟨E0, E1, -, -, -⟩ := id E
  obtain ⟨H0, H1, -, -, -⟩ := id H
  obtain ⟨K0, K1, -, -, -⟩ := id K
  obtain ⟨M0, M1, -, -, -⟩ := id M
  go_wp2_with fail
  refine (C4.out _).mono ?_
  rintro e w7 ⟨rfl, hb⟩
  have A := (A.keep hb).alloc (.cells #[.int .i64 G.l, .int .i64 G.h] 23)
  have B := (B.keep hb).alloc (.cells #[.int .i64 G.l, .int .i64 G.h] 23)
  have E := (E.keep hb).alloc (.cells #[.int .i64 G.l, .int .i64 G.h] 23)
  have H := (H.keep hb).alloc (.cells #[.int .i64 G.l, .int .i64 G.h] 23)
  have K := (K.keep hb).alloc (.cells #[.int .i64 G.l, .int .i64 G.h] 23)
  have M := (M.keep hb).alloc (.cells #[.int .i64 G.l, .int .i64 G.h] 23)
  have N := At2.new w7 (.int .i64 G.l) (.int .i64 G.h) 23
  have HB := Lib.hid (bstep (bstep HB.out hb) (below1 w7 (.cells #[.int .i64 G.l, .int .i64 G.h] 23)))
  clear hb
  clear A0 A1 B0 B1 E0 E1 H0 H1 K0 K1 M0 M1
  obtain ⟨A0, A1, -, -, -⟩ := id A
  obtain ⟨B0, B1, -, -, -⟩ := id B
  obtain ⟨E0, E1, -, -, -⟩ := id E
  obtain ⟨H0, H1, -, -, -⟩ := id H
  obtain ⟨K0, K1, -, -, -⟩ := id K
  obtain ⟨M0, M1, -, -, -⟩ := id M
  obtain ⟨N0, N1, -, -, -⟩ := id N
  go_wp2_with fail
  refine (I1.out _).mono ?_
  rintro e w8 ⟨rfl, hb⟩
  have A := (A.keep hb)
  have B := (B.keep hb)
  have E := (E.keep hb)
  have H := (H.keep hb)
  have K := (K.keep hb)
  have M := (M.keep hb)
  have N := (N.keep hb)
  have HB := Lib.hid (bstep HB.out hb)
  clear hb
  clear A0 A1 B0 B1 E0 E1 H0 H1 K0 K1 M0 M1 N0 N1
  obtain ⟨A0, A1, -, -, -⟩ := id A
  obtain ⟨B0, B1, -, -, -⟩ := id B
  obtain ⟨E0, E1, -, -, -⟩ := id E
  obtain ⟨H0, H1, -, -, -⟩ := id H
  obtain ⟨K0, K1, -, -, -⟩ := id K
  obtain ⟨M0, M1, -, -, -⟩ := id M
  obtain ⟨N0, N1, -, -, -⟩ := id N
  go_wp2_with fail
  refine (I2.out _).mono ?_
  rintro e w9 ⟨rfl, hb⟩
  have A := (A.keep hb)
  have B := (B.keep hb)
  have E := (E.keep hb)
  have H := (H.keep hb)
  have K := (K.keep hb)
  have M := (M.keep hb)
  have N := (N.keep hb)
  have HB := Lib.hid (bstep HB.out hb)
  clear hb
  clear A0 A1 B0 B1 E0 E1 H0 H1 K0 K1 M0 M1 N0 N1
  obtain ⟨A0, A1, -, -, -⟩ := id A
  obtain ⟨B0, B1, -, -, -⟩ := id B
  obtain ⟨E0, E1, -, -, -⟩ := id E
  obtain ⟨H0, H1, -, -, -⟩ := id H
  obtain ⟨K0, K1, -, -, -⟩ := id K
  obtain ⟨M0, M1, -, -, -⟩ := id M
  obtain ⟨N0, N1, -, -, -⟩ := id N
  go_wp2_with fail
  refine (I3.out _).mono ?_
  rintro e w10 ⟨rfl, hb⟩
  have A := (A.keep hb)
  have B := (B.keep hb)
  have E := (E.keep hb)
  have H := (H.keep hb)
  have K := (K.keep hb)
  have M := (M.keep hb)
  have N := (N.keep hb)
  have HB := Lib.hid (bstep HB.out hb)
  clear hb
  clear A0 A1 B0 B1 E0 E1 H0 H1 K0 K1 M0 M1 N0 N1
  obtain ⟨A0, A1, -, -, -⟩ := id A
  obtain ⟨B0, B1, -, -, -⟩ := id B
  obtain ⟨E0, E1, -, -, -⟩ := id E
  obtain ⟨H0, H1, -, -, -⟩ := id H
  obtain ⟨K0, K1, -, -, -⟩ := id K
  obtain ⟨M0, M1, -, -, -⟩ := id M
  obtain ⟨N0, N1, -, -, -⟩ := id N
  go_wp2_with fail
  refine (I4.out _).mono ?_
  rintro e w11 ⟨rfl, hb⟩
  have A := (A.keep hb)
  have B := (B.keep hb)
  have E := (E.keep hb)
  have H := (H.keep hb)
  have K := (K.keep hb)
  have M := (M.keep hb)
  have N := (N.keep hb)
  have HB := Lib.hid (bstep HB.out hb)
  clear hb
  clear A0 A1 B0 B1 E0 E1 H0 H1 K0 K1 M0 M1 N0 N1
  obtain ⟨A0, A1, -, -, -⟩ := id A
  obtain ⟨B0, B1, -, -, -⟩ := id B
  obtain ⟨E0, E1, -, -, -⟩ := id E
  obtain ⟨H0, H1, -, -, -⟩ := id H
  obtain ⟨K0, K1, -, -, -⟩ := id K
  obtain ⟨M0, M1, -, -, -⟩ := id M
  obtain ⟨N0, N1, -, -, -⟩ := id N
  go_wp2_with fail
  refine (I5.out _).mono ?_
  rintro e w12 ⟨rfl, hb⟩
  have A := (A.keep hb)
  have B := (B.keep hb)
  have E := (E.keep hb)
  have H := (H.keep hb)
  have K := (K.keep hb)
  have M := (M.keep hb)
  have N := (N.keep hb)
  have HB := Lib.hid (bstep HB.out hb)
  clear hb
  clear A0 A1 B0 B1 E0 E1 H0 H1 K0 K1 M0 M1 N0 N1
  obtain ⟨A0, A1, -, -, -⟩ := id A
  obtain ⟨B0, B1, -, -, -⟩ := id B
  obtain ⟨E0, E1, -, -, -⟩ := id E
  obtain ⟨H0, H1, -, -, -⟩ := id H
  obtain ⟨K0, K1, -, -, -⟩ := id K
  obtain ⟨M0, M1, -, -, -⟩ := id M
  obtain ⟨N0, N1, -, -, -⟩ := id N
  go_wp2_with fail
  refine (I6.out _).mono ?_
  rintro e w13 ⟨rfl, hb⟩
  have A := (A.keep hb)
  have B := (B.keep hb)
  have E := (E.keep hb)
  have H := (H.keep hb)
  have K := (K.keep hb)
  have M := (M.keep hb)
  have N := (N.keep hb)
  have HB := Lib.hid (bstep HB.out hb)
  clear hb
  clear A0 A1 B0 B1 E0 E1 H0 H1 K0 K1 M0 M1 N0 N1
  obtain ⟨A0, A1, -, -, -⟩ := id A
  obtain ⟨B0, B1, -, -, -⟩ := id B
  obtain ⟨E0, E1, -, -, -⟩ := id E
  obtain ⟨H0, H1, -, -, -⟩ := id H
  obtain ⟨K0, K1, -, -, -⟩ := id K
  obtain ⟨M0, M1, -, -, -⟩ := id M
  obtain ⟨N0, N1, -, -, -⟩ := id N
  go_wp2_with fail
  go_ret
  exact ⟨rfl, HB.out⟩

set_option maxHeartbeats 8000000 in
theorem meets_hit2 (P : FxProg) (a b c d u v : Int) (w : World) (ha : fok a b = true) (hc : fok c d = true) (hm : (meetR a b c d).e = 0 ∧ insideR (meetR a b c d).l (meetR a b c d).h a b = true ∧ insideR (meetR a b c d).l (meetR a b c d).h c d = true ∧ (∀ u v, insideR u v a b = true → insideR u v c d = true → insideR u v (meetR a b c d).l (meetR a b c d).h = true)) (h1 : insideR u v a b = true) (h2 : insideR u v c d = true) :
    Calls Try.prog 10 #[.agg #[.int .i64 a, .int .i64 b], .agg #[.int .i64 c, .int .i64 d], .agg #[.int .i64 u, .int .i64 v]] w fun e w' => e = .returned (.bool true) ∧ Below w.heap.size w w' := by
  have CA := Lib.hid (fun wx => awake_any P wx)
  have V1 := Lib.hid (fun wx => rValid_is a b true ha wx)
  have V2 := Lib.hid (fun wx => rValid_is c d true hc wx)
  have hi := hull_in ha hc
  obtain ⟨p, hp⟩ : ∃ p, min a c = p := ⟨_, rfl⟩
  obtain ⟨q, hq⟩ : ∃ q, max b d = q := ⟨_, rfl⟩
  rw [hp, hq] at hi
  have C1 := Lib.hid (fun wx => told p q 0 ((vF_yes _ (by rw [ha, hc]; rfl)).trans (by unfold hullR; rw [hp, hq])) (P.hull a b c d wx))
  have C2 := Lib.hid (fun wx => told p q 0 ((vF_yes _ (by rw [ha, hc]; rfl)).trans ((hullR_comm c d a b).trans (by unfold hullR; rw [hp, hq]))) (P.hull c d a b wx))
  have I1 := Lib.hid (fun wx => told1 true hi.1 (P.inside a b p q wx))
  have I2 := Lib.hid (fun wx => told1 true hi.2 (P.inside c d p q wx))
  obtain ⟨G, hG⟩ : ∃ G, meetR a b c d = G := ⟨_, rfl⟩
  rw [hG] at hm
  have C3 := Lib.hid (fun wx => told G.l G.h 0 ((vF_yes _ (by rw [ha, hc]; rfl)).trans (hG.trans (by rw [← hm.1]))) (P.meet a b c d wx))
  have C4 := Lib.hid (fun wx => told G.l G.h 0 ((vF_yes _ (by rw [ha, hc]; rfl)).trans ((meetR_comm c d a b).trans (hG.trans (by rw [← hm.1])))) (P.meet c d a b wx))
  have I3 := Lib.hid (fun wx => told1 true h1 (P.inside u v a b wx))
  have I4 := Lib.hid (fun wx => told1 true h2 (P.inside u v c d wx))
  have I5 := Lib.hid (fun wx => told1 true hm.2.1 (P.inside G.l G.h a b wx))
  have I6 := Lib.hid (fun wx => told1 true hm.2.2.1 (P.inside G.l G.h c d wx))
  have I7 := Lib.hid (fun wx => told1 true (hm.2.2.2 u v h1 h2) (P.inside u v G.l G.h wx))
  clear hi hp hq hG hm ha hc h1 h2
  have A := At2.new w (.int .i64 a) (.int .i64 b) 23
  have A := A.alloc (.cells #[.int .i64 c, .int .i64 d] 23)
  have B := At2.new (w.alloc (.cells #[.int .i64 a, .int .i64 b] 23)) (.int .i64 c) (.int .i64 d) 23
  simp at B
  have A := A.alloc (.cells #[.int .i64 u, .int .i64 v] 23)
  have B := B.alloc (.cells #[.int .i64 u, .int .i64 v] 23)
  have E := At2.new ((w.alloc (.cells #[.int .i64 a, .int .i64 b] 23)).alloc (.cells #[.int .i64 c, .int .i64 d] 23)) (.int .i64 u) (.int .i64 v) 23
  simp at E
  have HB := Lib.hid (bstep (bstep (bstep (Below.refl w.heap.size w) (below1 w (.cells #[.int .i64 a, .int .i64 b] 23))) (below1 (w.alloc (.cells #[.int .i64 a, .int .i64 b] 23)) (.cells #[.int .i64 c, .int .i64 d] 23))) (below1 ((w.alloc (.cells #[.int .i64 a, .int .i64 b] 23)).alloc (.cells #[.int .i64 c, .int .i64 d] 23)) (.cells #[.int .i64 u, .int .i64 v] 23)))
  go_enter Try.func10, Try.ntmps10
  obtain ⟨A0, A1, -, -, -⟩ := id A
  obtain ⟨B0, B1, -, -, -⟩ := id B
  obtain ⟨E0, E1, -, -, -⟩ := id E
  go_wp2_with fail
  refine (CA.out _).mono ?_
  rintro e w1 ⟨rfl, hb⟩
  have A := (A.keep hb)
  have B := (B.keep hb)
  have E := (E.keep hb)
  have HB := Lib.hid (bstep HB.out hb)
  clear hb
  clear A0 A1 B0 B1 E0 E1
  obtain ⟨A0, A1, -, -, -⟩ := id A
  obtain ⟨B0, B1, -, -, -⟩ := id B
  obtain ⟨E0, E1, -, -, -⟩ := id E
  go_wp2_with fail
  refine (V1.out _).mono ?_
  rintro e w2 ⟨rfl, hb⟩
  have A := (A.keep hb)
  have B := (B.keep hb)
  have E := (E.keep hb)
  have HB := Lib.hid (bstep HB.out hb)
  clear hb
  clear A0 A1 B0 B1 E0 E1
  obtain ⟨A0, A1, -, -, -⟩ := id A
  obtain ⟨B0, B1, -, -, -⟩ := id B
  obtain ⟨E0, E1, -, -, -⟩ := id E
  go_wp2_with fail
  refine (V2.out _).mono ?_
  rintro e w3 ⟨rfl, hb⟩
  have A := (A.keep hb)
  have B := (B.keep hb)
  have E := (E.keep hb)
  have HB := Lib.hid (bstep HB.out hb)
  clear hb
  clear A0 A1 B0 B1 E0 E1
  obtain ⟨A0, A1, -, -, -⟩ := id A
  obtain ⟨B0, B1, -, -, -⟩ := id B
  obtain ⟨E0, E1, -, -, -⟩ := id E
  go_wp2_with fail
  refine (C1.out _).mono ?_
  rintro e w4 ⟨rfl, hb⟩
  have A := (A.keep hb).alloc (.cells #[.int .i64 p, .int .i64 q] 23)
  have B := (B.keep hb).alloc (.cells #[.int .i64 p, .int .i64 q] 23)
  have E := (E.keep hb).alloc (.cells #[.int .i64 p, .int .i64 q] 23)
  have H := At2.new w4 (.int .i64 p) (.int .i64 q) 23
  have HB := Lib.hid (bstep (bstep HB.out hb) (below1 w4 (.cells #[.int .i64 p, .int .i64 q] 23)))
  clear hb
  clear A0 A1 B0 B1 E0 E1
  obtain ⟨A0, A1, -, -, -⟩ := id A
  obtain ⟨B0, B1, -, -, -⟩ := id B
  obtain ⟨E0, E1, -, -, -⟩ := id E
  obtain ⟨H0, H1, -, -, -⟩ := id H
  go_wp2_with fail
  refine (C2.out _).mono ?_
  rintro e w5 ⟨rfl, hb⟩
  have A := (A.keep hb).alloc (.cells #[.int .i64 p, .int .i64 q] 23)
  have B := (B.keep hb).alloc (.cells #[.int .i64 p, .int .i64 q] 23)
  have E := (E.keep hb).alloc (.cells #[.int .i64 p, .int .i64 q] 23)
  have H := (H.keep hb).alloc (.cells #[.int .i64 p, .int .i64 q] 23)
  have K := At2.new w5 (.int .i64 p) (.int .i64 q) 23
  have HB := Lib.hid (bstep (bstep HB.out hb) (below1 w5 (.cells #[.int .i64 p, .int .i64 q] 23)))
  clear hb
  clear A0 A1 B0 B1 E0 E1 H0 H1
  obtain ⟨A0, A1, -, -, -⟩ := id A
  obtain ⟨B0, B1, -, -, -⟩ := id B
  obtain ⟨E0, E1, -, -, -⟩ := id E
  obtain ⟨H0, H1, -, -, -⟩ := id H
  obtain ⟨K0, K1, -, -, -⟩ := id K
  go_wp2_with fail
  refine (C3.out _).mono ?_
  rintro e w6 ⟨rfl, hb⟩
  have A := (A.keep hb).alloc (.cells #[.int .i64 G.l, .int .i64 G.h] 23)
  have B := (B.keep hb).alloc (.cells #[.int .i64 G.l, .int .i64 G.h] 23)
  have E := (E.keep hb).alloc (.cells #[.int .i64 G.l, .int .i64 G.h] 23)
  have H := (H.keep hb).alloc (.cells #[.int .i64 G.l, .int .i64 G.h] 23)
  have K := (K.keep hb).alloc (.cells #[.int .i64 G.l, .int .i64 G.h] 23)
  have M := At2.new w6 (.int .i64 G.l) (.int .i64 G.h) 23
  have HB := Lib.hid (bstep (bstep HB.out hb) (below1 w6 (.cells #[.int .i64 G.l, .int .i64 G.h] 23)))
  clear hb
  clear A0 A1 B0 B1 E0 E1 H0 H1 K0 K1
  obtain ⟨A0, A1, -, -, -⟩ := id A
  obtain ⟨B0, B1, -, -, -⟩ := id B
  obtain ⟨E0, E1, -, -, -⟩ := id E
  obtain ⟨H0, H1, -, -, -⟩ := id H
  obtain ⟨K0, K1, -, -, -⟩ := id K
  obtain ⟨M0, M1, -, -, -⟩ := id M
  go_wp2_with fail
  refine (C4.out _).mono ?_
  rintro e w7 ⟨rfl, hb⟩
  have A := (A.keep hb).alloc (.cells #[.int .i64 G.l, .int .i64 G.h] 23)
  have B := (B.keep hb).alloc (.cells #[.int .i64 G.l, .int .i64 G.h] 23)
  have E := (E.keep hb).alloc (.cells #[.int .i64 G.l, .int .i64 G.h] 23)
  have H := (H.keep hb).alloc (.cells #[.int .i64 G.l, .int .i64 G.h] 23)
  have K := (K.keep hb).alloc (.cells #[.int .i64 G.l, .int .i64 G.h] 23)
  have M := (M.keep hb).alloc (.cells #[.int .i64 G.l, .int .i64 G.h] 23)
  have N := At2.new w7 (.int .i64 G.l) (.int .i64 G.h) 23
  have HB := Lib.hid (bstep (bstep HB.out hb) (below1 w7 (.cells #[.int .i64 G.l, .int .i64 G.h] 23)))
  clear hb
  clear A0 A1 B0 B1 E0 E1 H0 H1 K0 K1 M0 M1
  obtain ⟨A0, A1, -, -, -⟩ := id A
  obtain ⟨B0, B1, -, -, -⟩ := id B
  obtain ⟨E0, E1, -, -, -⟩ := id E
  obtain ⟨H0, H1, -, -, -⟩ := id H
  obtain ⟨K0, K1, -, -, -⟩ := id K
  obtain ⟨M0, M1, -, -, -⟩ := id M
  obtain ⟨N0, N1, -, -, -⟩ := id N
  go_wp2_with fail
  refine (I1.out _).mono ?_
  rintro e w8 ⟨rfl, hb⟩
  have A := (A.keep hb)
  have B := (B.keep hb)
  have E := (E.keep hb)
  have H := (H.keep hb)
  have K := (K.keep hb)
  have M := (M.keep hb)
  have N := (N.keep hb)
  have HB := Lib.hid (bstep HB.out hb)
  clear hb
  clear A0 A1 B0 B1 E0 E1 H0 H1 K0 K1 M0 M1 N0 N1
  obtain ⟨A0, A1, -, -, -⟩ := id A
  obtain ⟨B0, B1, -, -, -⟩ := id B
  obtain ⟨E0, E1, -, -, -⟩ := id E
  obtain ⟨H0, H1, -, -, -⟩ := id H
  obtain ⟨K0, K1, -, -, -⟩ := id K
  obtain ⟨M0, M1, -, -, -⟩ := id M
  obtain ⟨N0, N1, -, -, -⟩ := id N
  go_wp2_with fail
  refine (I2.out _).mono ?_
  rintro e w9 ⟨rfl, hb⟩
  have A := (A.keep hb)
  have B := (B.keep hb)
  have E := (E.keep hb)
  have H := (H.keep hb)
  have K := (K.keep hb)
  have M := (M.keep hb)
  have N := (N.keep hb)
  have HB := Lib.hid (bstep HB.out hb)
  clear hb
  clear A0 A1 B0 B1 E0 E1 H0 H1 K0 K1 M0 M1 N0 N1
  obtain ⟨A0, A1, -, -, -⟩ := id A
  obtain ⟨B0, B1, -, -, -⟩ := id B
  obtain ⟨E0, E1, -, -, -⟩ := id E
  obtain ⟨H0, H1, -, -, -⟩ := id H
  obtain ⟨K0, K1, -, -, -⟩ := id K
  obtain ⟨M0, M1, -, -, -⟩ := id M
  obtain ⟨N0, N1, -, -, -⟩ := id N
  go_wp2_with fail
  refine (I3.out _).mono ?_
  rintro e w10 ⟨rfl, hb⟩
  have A := (A.keep hb)
  have B := (B.keep hb)
  have E := (E.keep hb)
  have H := (H.keep hb)
  have K := (K.keep hb)
  have M := (M.keep hb)
  have N := (N.keep hb)
  have HB := Lib.hid (bstep HB.out hb)
  clear hb
  clear A0 A1 B0 B1 E0 E1 H0 H1 K0 K1 M0 M1 N0 N1
  obtain ⟨A0, A1, -, -, -⟩ := id A
  obtain ⟨B0, B1, -, -, -⟩ := id B
  obtain ⟨E0, E1, -, -, -⟩ := id E
  obtain ⟨H0, H1, -, -, -⟩ := id H
  obtain ⟨K0, K1, -, -, -⟩ := id K
  obtain ⟨M0, M1, -, -, -⟩ := id M
  obtain ⟨N0, N1, -, -, -⟩ := id N
  go_wp2_with fail
  refine (I4.out _).mono ?_
  rintro e w11 ⟨rfl, hb⟩
  have A := (A.keep hb)
  have B := (B.keep hb)
  have E := (E.keep hb)
  have H := (H.keep hb)
  have K := (K.keep hb)
  have M := (M.keep hb)
  have N := (N.keep hb)
  have HB := Lib.hid (bstep HB.out hb)
  clear hb
  clear A0 A1 B0 B1 E0 E1 H0 H1 K0 K1 M0 M1 N0 N1
  obtain ⟨A0, A1, -, -, -⟩ := id A
  obtain ⟨B0, B1, -, -, -⟩ := id B
  obtain ⟨E0, E1, -, -, -⟩ := id E
  obtain ⟨H0, H1, -, -, -⟩ := id H
  obtain ⟨K0, K1, -, -, -⟩ := id K
  obtain ⟨M0, M1, -, -, -⟩ := id M
  obtain ⟨N0, N1, -, -, -⟩ := id N
  go_wp2_with fail
  refine (I7.out _).mono ?_
  rintro e w12 ⟨rfl, hb⟩
  have A := (A.keep hb)
  have B := (B.keep hb)
  have E := (E.keep hb)
  have H := (H.keep hb)
  have K := (K.keep hb)
  have M := (M.keep hb)
  have N := (N.keep hb)
  have HB := Lib.hid (bstep HB.out hb)
  clear hb
  clear A0 A1 B0 B1 E0 E1 H0 H1 K0 K1 M0 M1 N0 N1
  obtain ⟨A0, A1, -, -, -⟩ := id A
  obtain ⟨B0, B1, -, -, -⟩ := id B
  obtain ⟨E0, E1, -, -, -⟩ := id E
  obtain ⟨H0, H1, -, -, -⟩ := id H
  obtain ⟨K0, K1, -, -, -⟩ := id K
  obtain ⟨M0, M1, -, -, -⟩ := id M
  obtain ⟨N0, N1, -, -, -⟩ := id N
  go_wp2_with fail
  refine (I5.out _).mono ?_
  rintro e w13 ⟨rfl, hb⟩
  have A := (A.keep hb)
  have B := (B.keep hb)
  have E := (E.keep hb)
  have H := (H.keep hb)
  have K := (K.keep hb)
  have M := (M.keep hb)
  have N := (N.keep hb)
  have HB := Lib.hid (bstep HB.out hb)
  clear hb
  clear A0 A1 B0 B1 E0 E1 H0 H1 K0 K1 M0 M1 N0 N1
  obtain ⟨A0, A1, -, -, -⟩ := id A
  obtain ⟨B0, B1, -, -, -⟩ := id B
  obtain ⟨E0, E1, -, -, -⟩ := id E
  obtain ⟨H0, H1, -, -, -⟩ := id H
  obtain ⟨K0, K1, -, -, -⟩ := id K
  obtain ⟨M0, M1, -, -, -⟩ := id M
  obtain ⟨N0, N1, -, -, -⟩ := id N
  go_wp2_with fail
  refine (I6.out _).mono ?_
  rintro e w14 ⟨rfl, hb⟩
  have A := (A.keep hb)
  have B := (B.keep hb)
  have E := (E.keep hb)
  have H := (H.keep hb)
  have K := (K.keep hb)
  have M := (M.keep hb)
  have N := (N.keep hb)
  have HB := Lib.hid (bstep HB.out hb)
  clear hb
  clear A0 A1 B0 B1 E0 E1 H0 H1 K0 K1 M0 M1 N0 N1
  obtain ⟨A0, A1, -, -, -⟩ := id A
  obtain ⟨B0, B1, -, -, -⟩ := id B
  obtain ⟨E0, E1, -, -, -⟩ := id E
  obtain ⟨H0, H1, -, -, -⟩ := id H
  obtain ⟨K0, K1, -, -, -⟩ := id K
  obtain ⟨M0, M1, -, -, -⟩ := id M
  obtain ⟨N0, N1, -, -, -⟩ := id N
  go_wp2_with fail
  go_ret
  exact ⟨rfl, HB.out⟩

set_option maxHeartbeats 8000000 in
theorem meets_miss0 (P : FxProg) (a b c d u v : Int) (w : World) (ha : fok a b = true) (hc : fok c d = true) (hm : (meetR a b c d).e = 23 ∧ True) (h1 : insideR u v a b = false) :
    Calls Try.prog 10 #[.agg #[.int .i64 a, .int .i64 b], .agg #[.int .i64 c, .int .i64 d], .agg #[.int .i64 u, .int .i64 v]] w fun e w' => e = .returned (.bool true) ∧ Below w.heap.size w w' := by
  have CA := Lib.hid (fun wx => awake_any P wx)
  have V1 := Lib.hid (fun wx => rValid_is a b true ha wx)
  have V2 := Lib.hid (fun wx => rValid_is c d true hc wx)
  have hi := hull_in ha hc
  obtain ⟨p, hp⟩ : ∃ p, min a c = p := ⟨_, rfl⟩
  obtain ⟨q, hq⟩ : ∃ q, max b d = q := ⟨_, rfl⟩
  rw [hp, hq] at hi
  have C1 := Lib.hid (fun wx => told p q 0 ((vF_yes _ (by rw [ha, hc]; rfl)).trans (by unfold hullR; rw [hp, hq])) (P.hull a b c d wx))
  have C2 := Lib.hid (fun wx => told p q 0 ((vF_yes _ (by rw [ha, hc]; rfl)).trans ((hullR_comm c d a b).trans (by unfold hullR; rw [hp, hq]))) (P.hull c d a b wx))
  have I1 := Lib.hid (fun wx => told1 true hi.1 (P.inside a b p q wx))
  have I2 := Lib.hid (fun wx => told1 true hi.2 (P.inside c d p q wx))
  obtain ⟨G, hG⟩ : ∃ G, meetR a b c d = G := ⟨_, rfl⟩
  rw [hG] at hm
  have C3 := Lib.hid (fun wx => told G.l G.h 23 ((vF_yes _ (by rw [ha, hc]; rfl)).trans (hG.trans (by rw [← hm.1]))) (P.meet a b c d wx))
  have C4 := Lib.hid (fun wx => told G.l G.h 23 ((vF_yes _ (by rw [ha, hc]; rfl)).trans ((meetR_comm c d a b).trans (hG.trans (by rw [← hm.1])))) (P.meet c d a b wx))
  have I3 := Lib.hid (fun wx => told1 false h1 (P.inside u v a b wx))
  clear hi hp hq hG hm ha hc h1
  have A := At2.new w (.int .i64 a) (.int .i64 b) 23
  have A := A.alloc (.cells #[.int .i64 c, .int .i64 d] 23)
  have B := At2.new (w.alloc (.cells #[.int .i64 a, .int .i64 b] 23)) (.int .i64 c) (.int .i64 d) 23
  simp at B
  have A := A.alloc (.cells #[.int .i64 u, .int .i64 v] 23)
  have B := B.alloc (.cells #[.int .i64 u, .int .i64 v] 23)
  have E := At2.new ((w.alloc (.cells #[.int .i64 a, .int .i64 b] 23)).alloc (.cells #[.int .i64 c, .int .i64 d] 23)) (.int .i64 u) (.int .i64 v) 23
  simp at E
  have HB := Lib.hid (bstep (bstep (bstep (Below.refl w.heap.size w) (below1 w (.cells #[.int .i64 a, .int .i64 b] 23))) (below1 (w.alloc (.cells #[.int .i64 a, .int .i64 b] 23)) (.cells #[.int .i64 c, .int .i64 d] 23))) (below1 ((w.alloc (.cells #[.int .i64 a, .int .i64 b] 23)).alloc (.cells #[.int .i64 c, .int .i64 d] 23)) (.cells #[.int .i64 u, .int .i64 v] 23)))
  go_enter Try.func10, Try.ntmps10
  obtain ⟨A0, A1, -, -, -⟩ := id A
  obtain ⟨B0, B1, -, -, -⟩ := id B
  obtain ⟨E0, E1, -, -, -⟩ := id E
  go_wp2_with fail
  refine (CA.out _).mono ?_
  rintro e w1 ⟨rfl, hb⟩
  have A := (A.keep hb)
  have B := (B.keep hb)
  have E := (E.keep hb)
  have HB := Lib.hid (bstep HB.out hb)
  clear hb
  clear A0 A1 B0 B1 E0 E1
  obtain ⟨A0, A1, -, -, -⟩ := id A
  obtain ⟨B0, B1, -, -, -⟩ := id B
  obtain ⟨E0, E1, -, -, -⟩ := id E
  go_wp2_with fail
  refine (V1.out _).mono ?_
  rintro e w2 ⟨rfl, hb⟩
  have A := (A.keep hb)
  have B := (B.keep hb)
  have E := (E.keep hb)
  have HB := Lib.hid (bstep HB.out hb)
  clear hb
  clear A0 A1 B0 B1 E0 E1
  obtain ⟨A0, A1, -, -, -⟩ := id A
  obtain ⟨B0, B1, -, -, -⟩ := id B
  obtain ⟨E0, E1, -, -, -⟩ := id E
  go_wp2_with fail
  refine (V2.out _).mono ?_
  rintro e w3 ⟨rfl, hb⟩
  have A := (A.keep hb)
  have B := (B.keep hb)
  have E := (E.keep hb)
  have HB := Lib.hid (bstep HB.out hb)
  clear hb
  clear A0 A1 B0 B1 E0 E1
  obtain ⟨A0, A1, -, -, -⟩ := id A
  obtain ⟨B0, B1, -, -, -⟩ := id B
  obtain ⟨E0, E1, -, -, -⟩ := id E
  go_wp2_with fail
  refine (C1.out _).mono ?_
  rintro e w4 ⟨rfl, hb⟩
  have A := (A.keep hb).alloc (.cells #[.int .i64 p, .int .i64 q] 23)
  have B := (B.keep hb).alloc (.cells #[.int .i64 p, .int .i64 q] 23)
  have E := (E.keep hb).alloc (.cells #[.int .i64 p, .int .i64 q] 23)
  have H := At2.new w4 (.int .i64 p) (.int .i64 q) 23
  have HB := Lib.hid (bstep (bstep HB.out hb) (below1 w4 (.cells #[.int .i64 p, .int .i64 q] 23)))
  clear hb
  clear A0 A1 B0 B1 E0 E1
  obtain ⟨A0, A1, -, -, -⟩ := id A
  obtain ⟨B0, B1, -, -, -⟩ := id B
  obtain ⟨E0, E1, -, -, -⟩ := id E
  obtain ⟨H0, H1, -, -, -⟩ := id H
  go_wp2_with fail
  refine (C2.out _).mono ?_
  rintro e w5 ⟨rfl, hb⟩
  have A := (A.keep hb).alloc (.cells #[.int .i64 p, .int .i64 q] 23)
  have B := (B.keep hb).alloc (.cells #[.int .i64 p, .int .i64 q] 23)
  have E := (E.keep hb).alloc (.cells #[.int .i64 p, .int .i64 q] 23)
  have H := (H.keep hb).alloc (.cells #[.int .i64 p, .int .i64 q] 23)
  have K := At2.new w5 (.int .i64 p) (.int .i64 q) 23
  have HB := Lib.hid (bstep (bstep HB.out hb) (below1 w5 (.cells #[.int .i64 p, .int .i64 q] 23)))
  clear hb
  clear A0 A1 B0 B1 E0 E1 H0 H1
  obtain ⟨A0, A1, -, -, -⟩ := id A
  obtain ⟨B0, B1, -, -, -⟩ := id B
  obtain ⟨E0, E1, -, -, -⟩ := id E
  obtain ⟨H0, H1, -, -, -⟩ := id H
  obtain ⟨K0, K1, -, -, -⟩ := id K
  go_wp2_with fail
  refine (C3.out _).mono ?_
  rintro e w6 ⟨rfl, hb⟩
  have A := (A.keep hb).alloc (.cells #[.int .i64 G.l, .int .i64 G.h] 23)
  have B := (B.keep hb).alloc (.cells #[.int .i64 G.l, .int .i64 G.h] 23)
  have E := (E.keep hb).alloc (.cells #[.int .i64 G.l, .int .i64 G.h] 23)
  have H := (H.keep hb).alloc (.cells #[.int .i64 G.l, .int .i64 G.h] 23)
  have K := (K.keep hb).alloc (.cells #[.int .i64 G.l, .int .i64 G.h] 23)
  have M := At2.new w6 (.int .i64 G.l) (.int .i64 G.h) 23
  have HB := Lib.hid (bstep (bstep HB.out hb) (below1 w6 (.cells #[.int .i64 G.l, .int .i64 G.h] 23)))
  clear hb
  clear A0 A1 B0 B1 E0 E1 H0 H1 K0 K1
  obtain ⟨A0, A1, -, -, -⟩ := id A
  obtain ⟨B0, B1, -, -, -⟩ := id B
  obtain ⟨E0, E1, -, -, -⟩ := id E
  obtain ⟨H0, H1, -, -, -⟩ := id H
  obtain ⟨K0, K1, -, -, -⟩ := id K
  obtain ⟨M0, M1, -, -, -⟩ := id M
  go_wp2_with fail
  refine (C4.out _).mono ?_
  rintro e w7 ⟨rfl, hb⟩
  have A := (A.keep hb).alloc (.cells #[.int .i64 G.l, .int .i64 G.h] 23)
  have B := (B.keep hb).alloc (.cells #[.int .i64 G.l, .int .i64 G.h] 23)
  have E := (E.keep hb).alloc (.cells #[.int .i64 G.l, .int .i64 G.h] 23)
  have H := (H.keep hb).alloc (.cells #[.int .i64 G.l, .int .i64 G.h] 23)
  have K := (K.keep hb).alloc (.cells #[.int .i64 G.l, .int .i64 G.h] 23)
  have M := (M.keep hb).alloc (.cells #[.int .i64 G.l, .int .i64 G.h] 23)
  have N := At2.new w7 (.int .i64 G.l) (.int .i64 G.h) 23
  have HB := Lib.hid (bstep (bstep HB.out hb) (below1 w7 (.cells #[.int .i64 G.l, .int .i64 G.h] 23)))
  clear hb
  clear A0 A1 B0 B1 E0 E1 H0 H1 K0 K1 M0 M1
  obtain ⟨A0, A1, -, -, -⟩ := id A
  obtain ⟨B0, B1, -, -, -⟩ := id B
  obtain ⟨E0, E1, -, -, -⟩ := id E
  obtain ⟨H0, H1, -, -, -⟩ := id H
  obtain ⟨K0, K1, -, -, -⟩ := id K
  obtain ⟨M0, M1, -, -, -⟩ := id M
  obtain ⟨N0, N1, -, -, -⟩ := id N
  go_wp2_with fail
  refine (I1.out _).mono ?_
  rintro e w8 ⟨rfl, hb⟩
  have A := (A.keep hb)
  have B := (B.keep hb)
  have E := (E.keep hb)
  have H := (H.keep hb)
  have K := (K.keep hb)
  have M := (M.keep hb)
  have N := (N.keep hb)
  have HB := Lib.hid (bstep HB.out hb)
  clear hb
  clear A0 A1 B0 B1 E0 E1 H0 H1 K0 K1 M0 M1 N0 N1
  obtain ⟨A0, A1, -, -, -⟩ := id A
  obtain ⟨B0, B1, -, -, -⟩ := id B
  obtain ⟨E0, E1, -, -, -⟩ := id E
  obtain ⟨H0, H1, -, -, -⟩ := id H
  obtain ⟨K0, K1, -, -, -⟩ := id K
  obtain ⟨M0, M1, -, -, -⟩ := id M
  obtain ⟨N0, N1, -, -, -⟩ := id N
  go_wp2_with fail
  refine (I2.out _).mono ?_
  rintro e w9 ⟨rfl, hb⟩
  have A := (A.keep hb)
  have B := (B.keep hb)
  have E := (E.keep hb)
  have H := (H.keep hb)
  have K := (K.keep hb)
  have M := (M.keep hb)
  have N := (N.keep hb)
  have HB := Lib.hid (bstep HB.out hb)
  clear hb
  clear A0 A1 B0 B1 E0 E1 H0 H1 K0 K1 M0 M1 N0 N1
  obtain ⟨A0, A1, -, -, -⟩ := id A
  obtain ⟨B0, B1, -, -, -⟩ := id B
  obtain ⟨E0, E1, -, -, -⟩ := id E
  obtain ⟨H0, H1, -, -, -⟩ := id H
  obtain ⟨K0, K1, -, -, -⟩ := id K
  obtain ⟨M0, M1, -, -, -⟩ := id M
  obtain ⟨N0, N1, -, -, -⟩ := id N
  go_wp2_with fail
  refine (I3.out _).mono ?_
  rintro e w10 ⟨rfl, hb⟩
  have A := (A.keep hb)
  have B := (B.keep hb)
  have E := (E.keep hb)
  have H := (H.keep hb)
  have K := (K.keep hb)
  have M := (M.keep hb)
  have N := (N.keep hb)
  have HB := Lib.hid (bstep HB.out hb)
  clear hb
  clear A0 A1 B0 B1 E0 E1 H0 H1 K0 K1 M0 M1 N0 N1
  obtain ⟨A0, A1, -, -, -⟩ := id A
  obtain ⟨B0, B1, -, -, -⟩ := id B
  obtain ⟨E0, E1, -, -, -⟩ := id E
  obtain ⟨H0, H1, -, -, -⟩ := id H
  obtain ⟨K0, K1, -, -, -⟩ := id K
  obtain ⟨M0, M1, -, -, -⟩ := id M
  obtain ⟨N0, N1, -, -, -⟩ := id N
  go_wp2_with fail
  go_ret
  exact ⟨rfl, HB.out⟩

set_option maxHeartbeats 8000000 in
theorem meets_miss1 (P : FxProg) (a b c d u v : Int) (w : World) (ha : fok a b = true) (hc : fok c d = true) (hm : (meetR a b c d).e = 23 ∧ True) (h1 : insideR u v a b = true) (h2 : insideR u v c d = false) :
    Calls Try.prog 10 #[.agg #[.int .i64 a, .int .i64 b], .agg #[.int .i64 c, .int .i64 d], .agg #[.int .i64 u, .int .i64 v]] w fun e w' => e = .returned (.bool true) ∧ Below w.heap.size w w' := by
  have CA := Lib.hid (fun wx => awake_any P wx)
  have V1 := Lib.hid (fun wx => rValid_is a b true ha wx)
  have V2 := Lib.hid (fun wx => rValid_is c d true hc wx)
  have hi := hull_in ha hc
  obtain ⟨p, hp⟩ : ∃ p, min a c = p := ⟨_, rfl⟩
  obtain ⟨q, hq⟩ : ∃ q, max b d = q := ⟨_, rfl⟩
  rw [hp, hq] at hi
  have C1 := Lib.hid (fun wx => told p q 0 ((vF_yes _ (by rw [ha, hc]; rfl)).trans (by unfold hullR; rw [hp, hq])) (P.hull a b c d wx))
  have C2 := Lib.hid (fun wx => told p q 0 ((vF_yes _ (by rw [ha, hc]; rfl)).trans ((hullR_comm c d a b).trans (by unfold hullR; rw [hp, hq]))) (P.hull c d a b wx))
  have I1 := Lib.hid (fun wx => told1 true hi.1 (P.inside a b p q wx))
  have I2 := Lib.hid (fun wx => told1 true hi.2 (P.inside c d p q wx))
  obtain ⟨G, hG⟩ : ∃ G, meetR a b c d = G := ⟨_, rfl⟩
  rw [hG] at hm
  have C3 := Lib.hid (fun wx => told G.l G.h 23 ((vF_yes _ (by rw [ha, hc]; rfl)).trans (hG.trans (by rw [← hm.1]))) (P.meet a b c d wx))
  have C4 := Lib.hid (fun wx => told G.l G.h 23 ((vF_yes _ (by rw [ha, hc]; rfl)).trans ((meetR_comm c d a b).trans (hG.trans (by rw [← hm.1])))) (P.meet c d a b wx))
  have I3 := Lib.hid (fun wx => told1 true h1 (P.inside u v a b wx))
  have I4 := Lib.hid (fun wx => told1 false h2 (P.inside u v c d wx))
  clear hi hp hq hG hm ha hc h1 h2
  have A := At2.new w (.int .i64 a) (.int .i64 b) 23
  have A := A.alloc (.cells #[.int .i64 c, .int .i64 d] 23)
  have B := At2.new (w.alloc (.cells #[.int .i64 a, .int .i64 b] 23)) (.int .i64 c) (.int .i64 d) 23
  simp at B
  have A := A.alloc (.cells #[.int .i64 u, .int .i64 v] 23)
  have B := B.alloc (.cells #[.int .i64 u, .int .i64 v] 23)
  have E := At2.new ((w.alloc (.cells #[.int .i64 a, .int .i64 b] 23)).alloc (.cells #[.int .i64 c, .int .i64 d] 23)) (.int .i64 u) (.int .i64 v) 23
  simp at E
  have HB := Lib.hid (bstep (bstep (bstep (Below.refl w.heap.size w) (below1 w (.cells #[.int .i64 a, .int .i64 b] 23))) (below1 (w.alloc (.cells #[.int .i64 a, .int .i64 b] 23)) (.cells #[.int .i64 c, .int .i64 d] 23))) (below1 ((w.alloc (.cells #[.int .i64 a, .int .i64 b] 23)).alloc (.cells #[.int .i64 c, .int .i64 d] 23)) (.cells #[.int .i64 u, .int .i64 v] 23)))
  go_enter Try.func10, Try.ntmps10
  obtain ⟨A0, A1, -, -, -⟩ := id A
  obtain ⟨B0, B1, -, -, -⟩ := id B
  obtain ⟨E0, E1, -, -, -⟩ := id E
  go_wp2_with fail
  refine (CA.out _).mono ?_
  rintro e w1 ⟨rfl, hb⟩
  have A := (A.keep hb)
  have B := (B.keep hb)
  have E := (E.keep hb)
  have HB := Lib.hid (bstep HB.out hb)
  clear hb
  clear A0 A1 B0 B1 E0 E1
  obtain ⟨A0, A1, -, -, -⟩ := id A
  obtain ⟨B0, B1, -, -, -⟩ := id B
  obtain ⟨E0, E1, -, -, -⟩ := id E
  go_wp2_with fail
  refine (V1.out _).mono ?_
  rintro e w2 ⟨rfl, hb⟩
  have A := (A.keep hb)
  have B := (B.keep hb)
  have E := (E.keep hb)
  have HB := Lib.hid (bstep HB.out hb)
  clear hb
  clear A0 A1 B0 B1 E0 E1
  obtain ⟨A0, A1, -, -, -⟩ := id A
  obtain ⟨B0, B1, -, -, -⟩ := id B
  obtain ⟨E0, E1, -, -, -⟩ := id E
  go_wp2_with fail
  refine (V2.out _).mono ?_
  rintro e w3 ⟨rfl, hb⟩
  have A := (A.keep hb)
  have B := (B.keep hb)
  have E := (E.keep hb)
  have HB := Lib.hid (bstep HB.out hb)
  clear hb
  clear A0 A1 B0 B1 E0 E1
  obtain ⟨A0, A1, -, -, -⟩ := id A
  obtain ⟨B0, B1, -, -, -⟩ := id B
  obtain ⟨E0, E1, -, -, -⟩ := id E
  go_wp2_with fail
  refine (C1.out _).mono ?_
  rintro e w4 ⟨rfl, hb⟩
  have A := (A.keep hb).alloc (.cells #[.int .i64 p, .int .i64 q] 23)
  have B := (B.keep hb).alloc (.cells #[.int .i64 p, .int .i64 q] 23)
  have E := (E.keep hb).alloc (.cells #[.int .i64 p, .int .i64 q] 23)
  have H := At2.new w4 (.int .i64 p) (.int .i64 q) 23
  have HB := Lib.hid (bstep (bstep HB.out hb) (below1 w4 (.cells #[.int .i64 p, .int .i64 q] 23)))
  clear hb
  clear A0 A1 B0 B1 E0 E1
  obtain ⟨A0, A1, -, -, -⟩ := id A
  obtain ⟨B0, B1, -, -, -⟩ := id B
  obtain ⟨E0, E1, -, -, -⟩ := id E
  obtain ⟨H0, H1, -, -, -⟩ := id H
  go_wp2_with fail
  refine (C2.out _).mono ?_
  rintro e w5 ⟨rfl, hb⟩
  have A := (A.keep hb).alloc (.cells #[.int .i64 p, .int .i64 q] 23)
  have B := (B.keep hb).alloc (.cells #[.int .i64 p, .int .i64 q] 23)
  have E := (E.keep hb).alloc (.cells #[.int .i64 p, .int .i64 q] 23)
  have H := (H.keep hb).alloc (.cells #[.int .i64 p, .int .i64 q] 23)
  have K := At2.new w5 (.int .i64 p) (.int .i64 q) 23
  have HB := Lib.hid (bstep (bstep HB.out hb) (below1 w5 (.cells #[.int .i64 p, .int .i64 q] 23)))
  clear hb
  clear A0 A1 B0 B1 E0 E1 H0 H1
  obtain ⟨A0, A1, -, -, -⟩ := id A
  obtain ⟨B0, B1, -, -, -⟩ := id B
  obtain ⟨E0, E1, -, -, -⟩ := id E
  obtain ⟨H0, H1, -, -, -⟩ := id H
  obtain ⟨K0, K1, -, -, -⟩ := id K
  go_wp2_with fail
  refine (C3.out _).mono ?_
  rintro e w6 ⟨rfl, hb⟩
  have A := (A.keep hb).alloc (.cells #[.int .i64 G.l, .int .i64 G.h] 23)
  have B := (B.keep hb).alloc (.cells #[.int .i64 G.l, .int .i64 G.h] 23)
  have E := (E.keep hb).alloc (.cells #[.int .i64 G.l, .int .i64 G.h] 23)
  have H := (H.keep hb).alloc (.cells #[.int .i64 G.l, .int .i64 G.h] 23)
  have K := (K.keep hb).alloc (.cells #[.int .i64 G.l, .int .i64 G.h] 23)
  have M := At2.new w6 (.int .i64 G.l) (.int .i64 G.h) 23
  have HB := Lib.hid (bstep (bstep HB.out hb) (below1 w6 (.cells #[.int .i64 G.l, .int .i64 G.h] 23)))
  clear hb
  clear A0 A1 B0 B1 E0 E1 H0 H1 K0 K1
  obtain ⟨A0, A1, -, -, -⟩ := id A
  obtain ⟨B0, B1, -, -, -⟩ := id B
  obtain ⟨E0, E1, -, -, -⟩ := id E
  obtain ⟨H0, H1, -, -, -⟩ := id H
  obtain ⟨K0, K1, -, -, -⟩ := id K
  obtain ⟨M0, M1, -, -, -⟩ := id M
  go_wp2_with fail
  refine (C4.out _).mono ?_
  rintro e w7 ⟨rfl, hb⟩
  have A := (A.keep hb).alloc (.cells #[.int .i64 G.l, .int .i64 G.h] 23)
  have B := (B.keep hb).alloc (.cells #[.int .i64 G.l, .int .i64 G.h] 23)
  have E := (E.keep hb).alloc (.cells #[.int .i64 G.l, .int .i64 G.h] 23)
  have H := (H.keep hb).alloc (.cells #[.int .i64 G.l, .int .i64 G.h] 23)
  have K := (K.keep hb).alloc (.cells #[.int .i64 G.l, .int .i64 G.h] 23)
  have M := (M.keep hb).alloc (.cells #[.int .i64 G.l, .int .i64 G.h] 23)
  have N := At2.new w7 (.int .i64 G.l) (.int .i64 G.h) 23
  have HB := Lib.hid (bstep (bstep HB.out hb) (below1 w7 (.cells #[.int .i64 G.l, .int .i64 G.h] 23)))
  clear hb
  clear A0 A1 B0 B1 E0 E1 H0 H1 K0 K1 M0 M1
  obtain ⟨A0, A1, -, -, -⟩ := id A
  obtain ⟨B0, B1, -, -, -⟩ := id B
  obtain ⟨E0, E1, -, -, -⟩ := id E
  obtain ⟨H0, H1, -, -, -⟩ := id H
  obtain ⟨K0, K1, -, -, -⟩ := id K
  obtain ⟨M0, M1, -, -, -⟩ := id M
  obtain ⟨N0, N1, -, -, -⟩ := id N
  go_wp2_with fail
  refine (I1.out _).mono ?_
  rintro e w8 ⟨rfl, hb⟩
  have A := (A.keep hb)
  have B := (B.keep hb)
  have E := (E.keep hb)
  have H := (H.keep hb)
  have K := (K.keep hb)
  have M := (M.keep hb)
  have N := (N.keep hb)
  have HB := Lib.hid (bstep HB.out hb)
  clear hb
  clear A0 A1 B0 B1 E0 E1 H0 H1 K0 K1 M0 M1 N0 N1
  obtain ⟨A0, A1, -, -, -⟩ := id A
  obtain ⟨B0, B1, -, -, -⟩ := id B
  obtain ⟨E0, E1, -, -, -⟩ := id E
  obtain ⟨H0, H1, -, -, -⟩ := id H
  obtain ⟨K0, K1, -, -, -⟩ := id K
  obtain ⟨M0, M1, -, -, -⟩ := id M
  obtain ⟨N0, N1, -, -, -⟩ := id N
  go_wp2_with fail
  refine (I2.out _).mono ?_
  rintro e w9 ⟨rfl, hb⟩
  have A := (A.keep hb)
  have B := (B.keep hb)
  have E := (E.keep hb)
  have H := (H.keep hb)
  have K := (K.keep hb)
  have M := (M.keep hb)
  have N := (N.keep hb)
  have HB := Lib.hid (bstep HB.out hb)
  clear hb
  clear A0 A1 B0 B1 E0 E1 H0 H1 K0 K1 M0 M1 N0 N1
  obtain ⟨A0, A1, -, -, -⟩ := id A
  obtain ⟨B0, B1, -, -, -⟩ := id B
  obtain ⟨E0, E1, -, -, -⟩ := id E
  obtain ⟨H0, H1, -, -, -⟩ := id H
  obtain ⟨K0, K1, -, -, -⟩ := id K
  obtain ⟨M0, M1, -, -, -⟩ := id M
  obtain ⟨N0, N1, -, -, -⟩ := id N
  go_wp2_with fail
  refine (I3.out _).mono ?_
  rintro e w10 ⟨rfl, hb⟩
  have A := (A.keep hb)
  have B := (B.keep hb)
  have E := (E.keep hb)
  have H := (H.keep hb)
  have K := (K.keep hb)
  have M := (M.keep hb)
  have N := (N.keep hb)
  have HB := Lib.hid (bstep HB.out hb)
  clear hb
  clear A0 A1 B0 B1 E0 E1 H0 H1 K0 K1 M0 M1 N0 N1
  obtain ⟨A0, A1, -, -, -⟩ := id A
  obtain ⟨B0, B1, -, -, -⟩ := id B
  obtain ⟨E0, E1, -, -, -⟩ := id E
  obtain ⟨H0, H1, -, -, -⟩ := id H
  obtain ⟨K0, K1, -, -, -⟩ := id K
  obtain ⟨M0, M1, -, -, -⟩ := id M
  obtain ⟨N0, N1, -, -, -⟩ := id N
  go_wp2_with fail
  refine (I4.out _).mono ?_
  rintro e w11 ⟨rfl, hb⟩
  have A := (A.keep hb)
  have B := (B.keep hb)
  have E := (E.keep hb)
  have H := (H.keep hb)
  have K := (K.keep hb)
  have M := (M.keep hb)
  have N := (N.keep hb)
  have HB := Lib.hid (bstep HB.out hb)
  clear hb
  clear A0 A1 B0 B1 E0 E1 H0 H1 K0 K1 M0 M1 N0 N1
  obtain ⟨A0, A1, -, -, -⟩ := id A
  obtain ⟨B0, B1, -, -, -⟩ := id B
  obtain ⟨E0, E1, -, -, -⟩ := id E
  obtain ⟨H0, H1, -, -, -⟩ := id H
  obtain ⟨K0, K1, -, -, -⟩ := id K
  obtain ⟨M0, M1, -, -, -⟩ := id M
  obtain ⟨N0, N1, -, -, -⟩ := id N
  go_wp2_with fail
  go_ret
  exact ⟨rfl, HB.out⟩

theorem meets_walk (P : FxProg) (a b c d u v : Int) (w : World) :
    Calls Try.prog 10 #[.agg #[.int .i64 a, .int .i64 b], .agg #[.int .i64 c, .int .i64 d], .agg #[.int .i64 u, .int .i64 v]] w fun e w' => e = .returned (.bool true) ∧ Below w.heap.size w w' := by
  cases ha : fok a b
  · exact meets_bad P a b c d u v w ha
  · cases hc : fok c d
    · exact meets_mid P a b c d u v w ha hc
    · rcases meet_facts ha hc with hm | ⟨hm, hn⟩
      · cases h1 : insideR u v a b
        · exact meets_hit0 P a b c d u v w ha hc hm h1
        · cases h2 : insideR u v c d
          · exact meets_hit1 P a b c d u v w ha hc hm h1 h2
          · exact meets_hit2 P a b c d u v w ha hc hm h1 h2
      · cases h1 : insideR u v a b
        · exact meets_miss0 P a b c d u v w ha hc ⟨hm, trivial⟩ h1
        · exact meets_miss1 P a b c d u v w ha hc ⟨hm, trivial⟩ h1 (hn u v h1)
end Go.Proofs.Ytdkigfcglfgpoaa
