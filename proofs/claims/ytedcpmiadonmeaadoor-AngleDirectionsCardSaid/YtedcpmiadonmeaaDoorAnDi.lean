/- AngleDirections: the walk of the law. -/
import Derived.Test.YtedcpmiadonmeaaDoorAnK
namespace Go.Proofs.YtedcpmiadonmeaaDoor
open Go.RowKit
set_option linter.unusedVariables false

theorem one_any (n : Int) (w : World) :
    Calls Tryd.prog 38 #[.int .i64 n] w fun e w' => e = .returned (vI n n) ∧ Below w.heap.size w w' := by
  obtain ⟨a0, a1, af0, af1, alt⟩ := At2.new w (.int .i64 0) (.int .i64 0) 23
  unfold vI
  go_enter Tryd.func38, Tryd.ntmps38
  go_wp2_with fail
  refine bodyPost_ret (v := .agg #[.int .i64 n, .int .i64 n]) (by simp [results, Tryd.results38, go_sem]) rfl ⟨rfl, ?_⟩
  exact below1 _ _
/-- six cells lie in block b -/
structure At6 (w : World) (b : Nat) (x y z u v t : Value) : Prop where
  c0 : w.cell? ⟨b, 0, none⟩ = some x
  c1 : w.cell? ⟨b, 1, none⟩ = some y
  c2 : w.cell? ⟨b, 2, none⟩ = some z
  c3 : w.cell? ⟨b, 3, none⟩ = some u
  c4 : w.cell? ⟨b, 4, none⟩ = some v
  c5 : w.cell? ⟨b, 5, none⟩ = some t
  lt : b < w.heap.size
theorem At6.new (w : World) (x y z u v t : Value) (T : Nat) : At6 (w.alloc (.cells #[x, y, z, u, v, t] T)) w.heap.size x y z u v t := by
  refine ⟨?_, ?_, ?_, ?_, ?_, ?_, by simp⟩
  · rw [World.cell?_alloc_new]; rfl
  · rw [World.cell?_alloc_new]; rfl
  · rw [World.cell?_alloc_new]; rfl
  · rw [World.cell?_alloc_new]; rfl
  · rw [World.cell?_alloc_new]; rfl
  · rw [World.cell?_alloc_new]; rfl
theorem At6.keep {w w1 : World} {b : Nat} {x y z u v t : Value} (h : At6 w b x y z u v t) (hb : Below w.heap.size w w1) : At6 w1 b x y z u v t :=
  ⟨(hb.cell (p := ⟨b, 0, none⟩) h.lt).trans h.c0, (hb.cell (p := ⟨b, 1, none⟩) h.lt).trans h.c1, (hb.cell (p := ⟨b, 2, none⟩) h.lt).trans h.c2, (hb.cell (p := ⟨b, 3, none⟩) h.lt).trans h.c3, (hb.cell (p := ⟨b, 4, none⟩) h.lt).trans h.c4, (hb.cell (p := ⟨b, 5, none⟩) h.lt).trans h.c5, Nat.lt_of_lt_of_le h.lt hb.size⟩
theorem At2.dr {w : World} {b : Nat} {x y : Value} (h : At2 w b x y) : At2 w.drew b x y := h.keep (Below.refl _ _).drew

set_option maxRecDepth 100000 in
set_option maxHeartbeats 4000000 in
theorem di_e0 (a b c d tu at' : Int) (w : World) (P : AnProg w) (h0 : a > b) :
    Calls Tryd.prog 7 #[.agg #[.int .i64 a, .int .i64 b], .agg #[.int .i64 c, .int .i64 d], .int .i16 tu, .int .u32 at'] w fun e w' => e = .returned (.bool true) ∧ Below w.heap.size w w' := by
  have CA := Lib.hid (fun wx (hb : Below w.heap.size w wx) => awake_any w P.toAnAw wx hb)
  have A := At2.new w (.int .i64 a) (.int .i64 b) 23
  have A := A.alloc (.cells #[.int .i64 c, .int .i64 d] 23)
  have B := At2.new (w.alloc (.cells #[.int .i64 a, .int .i64 b] 23)) (.int .i64 c) (.int .i64 d) 23
  simp at B
  have HB := Lib.hid (bstep (bstep (Below.refl w.heap.size w) (below1 w (.cells #[.int .i64 a, .int .i64 b] 23))) (below1 (w.alloc (.cells #[.int .i64 a, .int .i64 b] 23)) (.cells #[.int .i64 c, .int .i64 d] 23)))
  go_enter Tryd.func7, Tryd.ntmps7
  obtain ⟨A0, A1, -, -, -⟩ := id A
  obtain ⟨B0, B1, -, -, -⟩ := id B
  go_wp2_with fail
  refine (CA.out _ HB.out).mono ?_
  rintro e w1 ⟨rfl, hb⟩
  have A := (A.keep hb)
  have B := (B.keep hb)
  have HB := Lib.hid (bstep HB.out hb)
  clear hb
  clear A0 A1 B0 B1
  obtain ⟨A0, A1, -, -, -⟩ := id A
  obtain ⟨B0, B1, -, -, -⟩ := id B
  go_wp2_with fail
  go_ret
  exact ⟨rfl, HB.out⟩

set_option maxRecDepth 100000 in
set_option maxHeartbeats 4000000 in
theorem di_e1 (a b c d tu at' : Int) (w : World) (P : AnProg w) (h0 : ¬ a > b) (h1 : c > d) :
    Calls Tryd.prog 7 #[.agg #[.int .i64 a, .int .i64 b], .agg #[.int .i64 c, .int .i64 d], .int .i16 tu, .int .u32 at'] w fun e w' => e = .returned (.bool true) ∧ Below w.heap.size w w' := by
  have CA := Lib.hid (fun wx (hb : Below w.heap.size w wx) => awake_any w P.toAnAw wx hb)
  have A := At2.new w (.int .i64 a) (.int .i64 b) 23
  have A := A.alloc (.cells #[.int .i64 c, .int .i64 d] 23)
  have B := At2.new (w.alloc (.cells #[.int .i64 a, .int .i64 b] 23)) (.int .i64 c) (.int .i64 d) 23
  simp at B
  have HB := Lib.hid (bstep (bstep (Below.refl w.heap.size w) (below1 w (.cells #[.int .i64 a, .int .i64 b] 23))) (below1 (w.alloc (.cells #[.int .i64 a, .int .i64 b] 23)) (.cells #[.int .i64 c, .int .i64 d] 23)))
  go_enter Tryd.func7, Tryd.ntmps7
  obtain ⟨A0, A1, -, -, -⟩ := id A
  obtain ⟨B0, B1, -, -, -⟩ := id B
  go_wp2_with fail
  refine (CA.out _ HB.out).mono ?_
  rintro e w1 ⟨rfl, hb⟩
  have A := (A.keep hb)
  have B := (B.keep hb)
  have HB := Lib.hid (bstep HB.out hb)
  clear hb
  clear A0 A1 B0 B1
  obtain ⟨A0, A1, -, -, -⟩ := id A
  obtain ⟨B0, B1, -, -, -⟩ := id B
  go_wp2_with fail
  go_ret
  exact ⟨rfl, HB.out⟩

set_option maxRecDepth 100000 in
set_option maxHeartbeats 4000000 in
theorem di_e2 (a b c d tu at' : Int) (w : World) (P : AnProg w) (h0 : ¬ a > b) (h1 : ¬ c > d) (h2 : a < -68719476736) :
    Calls Tryd.prog 7 #[.agg #[.int .i64 a, .int .i64 b], .agg #[.int .i64 c, .int .i64 d], .int .i16 tu, .int .u32 at'] w fun e w' => e = .returned (.bool true) ∧ Below w.heap.size w w' := by
  have CA := Lib.hid (fun wx (hb : Below w.heap.size w wx) => awake_any w P.toAnAw wx hb)
  have A := At2.new w (.int .i64 a) (.int .i64 b) 23
  have A := A.alloc (.cells #[.int .i64 c, .int .i64 d] 23)
  have B := At2.new (w.alloc (.cells #[.int .i64 a, .int .i64 b] 23)) (.int .i64 c) (.int .i64 d) 23
  simp at B
  have HB := Lib.hid (bstep (bstep (Below.refl w.heap.size w) (below1 w (.cells #[.int .i64 a, .int .i64 b] 23))) (below1 (w.alloc (.cells #[.int .i64 a, .int .i64 b] 23)) (.cells #[.int .i64 c, .int .i64 d] 23)))
  go_enter Tryd.func7, Tryd.ntmps7
  obtain ⟨A0, A1, -, -, -⟩ := id A
  obtain ⟨B0, B1, -, -, -⟩ := id B
  go_wp2_with fail
  refine (CA.out _ HB.out).mono ?_
  rintro e w1 ⟨rfl, hb⟩
  have A := (A.keep hb)
  have B := (B.keep hb)
  have HB := Lib.hid (bstep HB.out hb)
  clear hb
  clear A0 A1 B0 B1
  obtain ⟨A0, A1, -, -, -⟩ := id A
  obtain ⟨B0, B1, -, -, -⟩ := id B
  go_wp2_with fail
  go_ret
  exact ⟨rfl, HB.out⟩

set_option maxRecDepth 100000 in
set_option maxHeartbeats 4000000 in
theorem di_e3 (a b c d tu at' : Int) (w : World) (P : AnProg w) (h0 : ¬ a > b) (h1 : ¬ c > d) (h2 : ¬ a < -68719476736) (h3 : c < -68719476736) :
    Calls Tryd.prog 7 #[.agg #[.int .i64 a, .int .i64 b], .agg #[.int .i64 c, .int .i64 d], .int .i16 tu, .int .u32 at'] w fun e w' => e = .returned (.bool true) ∧ Below w.heap.size w w' := by
  have CA := Lib.hid (fun wx (hb : Below w.heap.size w wx) => awake_any w P.toAnAw wx hb)
  have A := At2.new w (.int .i64 a) (.int .i64 b) 23
  have A := A.alloc (.cells #[.int .i64 c, .int .i64 d] 23)
  have B := At2.new (w.alloc (.cells #[.int .i64 a, .int .i64 b] 23)) (.int .i64 c) (.int .i64 d) 23
  simp at B
  have HB := Lib.hid (bstep (bstep (Below.refl w.heap.size w) (below1 w (.cells #[.int .i64 a, .int .i64 b] 23))) (below1 (w.alloc (.cells #[.int .i64 a, .int .i64 b] 23)) (.cells #[.int .i64 c, .int .i64 d] 23)))
  go_enter Tryd.func7, Tryd.ntmps7
  obtain ⟨A0, A1, -, -, -⟩ := id A
  obtain ⟨B0, B1, -, -, -⟩ := id B
  go_wp2_with fail
  refine (CA.out _ HB.out).mono ?_
  rintro e w1 ⟨rfl, hb⟩
  have A := (A.keep hb)
  have B := (B.keep hb)
  have HB := Lib.hid (bstep HB.out hb)
  clear hb
  clear A0 A1 B0 B1
  obtain ⟨A0, A1, -, -, -⟩ := id A
  obtain ⟨B0, B1, -, -, -⟩ := id B
  go_wp2_with fail
  go_ret
  exact ⟨rfl, HB.out⟩

set_option maxRecDepth 100000 in
set_option maxHeartbeats 4000000 in
theorem di_e4 (a b c d tu at' : Int) (w : World) (P : AnProg w) (h0 : ¬ a > b) (h1 : ¬ c > d) (h2 : ¬ a < -68719476736) (h3 : ¬ c < -68719476736) (h4 : b > 68719476736) :
    Calls Tryd.prog 7 #[.agg #[.int .i64 a, .int .i64 b], .agg #[.int .i64 c, .int .i64 d], .int .i16 tu, .int .u32 at'] w fun e w' => e = .returned (.bool true) ∧ Below w.heap.size w w' := by
  have CA := Lib.hid (fun wx (hb : Below w.heap.size w wx) => awake_any w P.toAnAw wx hb)
  have A := At2.new w (.int .i64 a) (.int .i64 b) 23
  have A := A.alloc (.cells #[.int .i64 c, .int .i64 d] 23)
  have B := At2.new (w.alloc (.cells #[.int .i64 a, .int .i64 b] 23)) (.int .i64 c) (.int .i64 d) 23
  simp at B
  have HB := Lib.hid (bstep (bstep (Below.refl w.heap.size w) (below1 w (.cells #[.int .i64 a, .int .i64 b] 23))) (below1 (w.alloc (.cells #[.int .i64 a, .int .i64 b] 23)) (.cells #[.int .i64 c, .int .i64 d] 23)))
  go_enter Tryd.func7, Tryd.ntmps7
  obtain ⟨A0, A1, -, -, -⟩ := id A
  obtain ⟨B0, B1, -, -, -⟩ := id B
  go_wp2_with fail
  refine (CA.out _ HB.out).mono ?_
  rintro e w1 ⟨rfl, hb⟩
  have A := (A.keep hb)
  have B := (B.keep hb)
  have HB := Lib.hid (bstep HB.out hb)
  clear hb
  clear A0 A1 B0 B1
  obtain ⟨A0, A1, -, -, -⟩ := id A
  obtain ⟨B0, B1, -, -, -⟩ := id B
  go_wp2_with fail
  go_ret
  exact ⟨rfl, HB.out⟩

set_option maxRecDepth 100000 in
set_option maxHeartbeats 4000000 in
theorem di_e5 (a b c d tu at' : Int) (w : World) (P : AnProg w) (h0 : ¬ a > b) (h1 : ¬ c > d) (h2 : ¬ a < -68719476736) (h3 : ¬ c < -68719476736) (h4 : ¬ b > 68719476736) (h5 : d > 68719476736) :
    Calls Tryd.prog 7 #[.agg #[.int .i64 a, .int .i64 b], .agg #[.int .i64 c, .int .i64 d], .int .i16 tu, .int .u32 at'] w fun e w' => e = .returned (.bool true) ∧ Below w.heap.size w w' := by
  have CA := Lib.hid (fun wx (hb : Below w.heap.size w wx) => awake_any w P.toAnAw wx hb)
  have A := At2.new w (.int .i64 a) (.int .i64 b) 23
  have A := A.alloc (.cells #[.int .i64 c, .int .i64 d] 23)
  have B := At2.new (w.alloc (.cells #[.int .i64 a, .int .i64 b] 23)) (.int .i64 c) (.int .i64 d) 23
  simp at B
  have HB := Lib.hid (bstep (bstep (Below.refl w.heap.size w) (below1 w (.cells #[.int .i64 a, .int .i64 b] 23))) (below1 (w.alloc (.cells #[.int .i64 a, .int .i64 b] 23)) (.cells #[.int .i64 c, .int .i64 d] 23)))
  go_enter Tryd.func7, Tryd.ntmps7
  obtain ⟨A0, A1, -, -, -⟩ := id A
  obtain ⟨B0, B1, -, -, -⟩ := id B
  go_wp2_with fail
  refine (CA.out _ HB.out).mono ?_
  rintro e w1 ⟨rfl, hb⟩
  have A := (A.keep hb)
  have B := (B.keep hb)
  have HB := Lib.hid (bstep HB.out hb)
  clear hb
  clear A0 A1 B0 B1
  obtain ⟨A0, A1, -, -, -⟩ := id A
  obtain ⟨B0, B1, -, -, -⟩ := id B
  go_wp2_with fail
  go_ret
  exact ⟨rfl, HB.out⟩

set_option maxRecDepth 100000 in
set_option maxHeartbeats 16000000 in
theorem di_ok (a b c d tu at' : Int) (w : World) (P : AnProg w) (t1 : -32768 ≤ tu) (t2 : tu ≤ 32767) (u1 : 0 ≤ at') (u2 : at' ≤ 4294967295) (h0 : ¬ a > b) (h1 : ¬ c > d) (h2 : ¬ a < -68719476736) (h3 : ¬ c < -68719476736) (h4 : ¬ b > 68719476736) (h5 : ¬ d > 68719476736) :
    Calls Tryd.prog 7 #[.agg #[.int .i64 a, .int .i64 b], .agg #[.int .i64 c, .int .i64 d], .int .i16 tu, .int .u32 at'] w fun e w' => e = .returned (.bool true) ∧ Below w.heap.size w w' := by
  have CA := Lib.hid (fun wx (hb : Below w.heap.size w wx) => awake_any w P.toAnAw wx hb)
  have ka : aok a b = true := aok_mk (by omega) (by omega) (by omega)
  have kc : aok c d = true := aok_mk (by omega) (by omega) (by omega)
  obtain ⟨tt, htt⟩ : ∃ tt, tu.tmod 1001 = tt := ⟨_, rfl⟩
  have bt : -1001 < tt ∧ tt < 1001 := by rw [← htt]; have := Int.tmod_lt_of_pos tu (b := 1001) (by omega); have := Int.lt_tmod_of_pos tu (b := 1001) (by omega); omega
  obtain ⟨k, hk⟩ : ∃ k, tt * 21600000 = k := ⟨_, rfl⟩
  have hkw := w64_is (x := k) (y := k) rfl (by omega) (by omega)
  have hkw' := w64_is hk (by omega) (by omega)
  have htw := w64_is (x := tu) (y := tu) rfl (by omega) (by omega)
  have haw := w64_is (x := at') (y := at') rfl (by omega) (by omega)
  obtain ⟨s, hs⟩ : ∃ s, a + k = s := ⟨_, rfl⟩
  obtain ⟨t, ht⟩ : ∃ t, b + k = t := ⟨_, rfl⟩
  have kk : aok k k = true := aok_mk (by omega) (by omega) (by omega)
  have ks : aok s t = true := aok_mk (by omega) (by omega) (by omega)
  have K1 := Lib.hid (fun wx => one_any k wx)
  have C1 := Lib.hid (fun wx => told s t 0 ((vA_yes _ (by rw [ka, kk]; rfl)).trans (by unfold aaddR; rw [hs, ht]; exact afit_yes ks)) (P.add a b k k wx))
  obtain ⟨x, hx⟩ : ∃ x, trL a b = x := ⟨_, rfl⟩
  obtain ⟨y, hy⟩ : ∃ y, trH a b = y := ⟨_, rfl⟩
  have mv := tr_move a b tt
  rw [hk, hs, ht, hx, hy] at mv
  have C2 := Lib.hid (fun wx => told x y 0 ((vA_yes _ ka).trans (by unfold aturnR; rw [hx, hy])) (P.turn a b wx))
  have C3 := Lib.hid (fun wx => told x y 0 ((vA_yes _ ks).trans (by unfold aturnR; rw [mv.1, mv.2])) (P.turn s t wx))
  obtain ⟨p, hp⟩ : ∃ p, agR a b c d = p := ⟨_, rfl⟩
  have C4 := Lib.hid (fun wx => toldA (s := p) (y := 0) (by unfold agB; rw [ka, kc, hp]; rfl) (by unfold agE; rw [ka, kc]; simp) (P.agree a b c d wx))
  have mg := agR_move a b c d tt
  rw [hk, hs, ht, hp] at mg
  have C5 := Lib.hid (fun wx => toldA (s := p) (y := 0) (by unfold agB; rw [ks, kc, mg]; rfl) (by unfold agE; rw [ks, kc]; simp) (P.agree s t c d wx))
  have cm := agR_comm c d a b
  rw [hp] at cm
  have C6 := Lib.hid (fun wx => toldA (s := p) (y := 0) (by unfold agB; rw [kc, ka, cm]; rfl) (by unfold agE; rw [kc, ka]; simp) (P.agree c d a b wx))
  have xi := tr_in (a := a) (b := b) (by omega)
  have xf := agR_form (a := a) (b := b) (by omega)
  rw [hx, hy] at xi xf
  have kx : aok x y = true := aok_mk (by omega) (by omega) (by omega)
  obtain ⟨m, hm⟩ : ∃ m, b - a + 1 = m := ⟨_, rfl⟩
  obtain ⟨r, hr⟩ : ∃ r, at'.tmod m = r := ⟨_, rfl⟩
  have br : 0 ≤ r ∧ r < m := by rw [← hr]; exact ⟨Int.tmod_nonneg _ u1, Int.tmod_lt_of_pos _ (by omega)⟩
  obtain ⟨z, hz⟩ : ∃ z, a + r = z := ⟨_, rfl⟩
  have kz : aok z z = true := aok_mk (by omega) (by omega) (by omega)
  have K2 := Lib.hid (fun wx => one_any z wx)
  have Z1 := Lib.hid (fun wx => toldA (s := true) (y := 0) (by unfold agB; rw [ka, agR_self (by omega)]; rfl) (by unfold agE; rw [ka]; simp) (P.agree a b a b wx))
  have Z2 := Lib.hid (fun wx => toldA (s := true) (y := 0) (by unfold agB; rw [ka, kx, xf]; rfl) (by unfold agE; rw [ka, kx]; simp) (P.agree a b x y wx))
  have Z3 := Lib.hid (fun wx => toldA (s := true) (y := 0) (by unfold agB; rw [ka, kz, agR_part (by omega) (by omega)]; rfl) (by unfold agE; rw [ka, kz]; simp) (P.agree a b z z wx))
  unfold vI at *
  have m0 : ¬ m = 0 := by omega
  have g1 : 0 ≤ x ∧ x < 21600000 ∧ x ≤ y ∧ y - x ≤ 21600000 := xi
  obtain ⟨g1, g2, g3, g4⟩ := g1
  have hba := i64_is (x := b - a) (by omega) (by omega)
  have hmw := i64_is (x := m) (by omega) (by omega)
  have hrw := i64_is (x := r) (by omega) (by omega)
  have hzw := i64_is (x := z) (by omega) (by omega)
  have hai := i64_is (x := at') (by omega) (by omega)
  clear ka kc bt kk ks hx hy mv mg cm kx kz xi xf br hs ht hp t1 t2
  have A := At2.new w (.int .i64 a) (.int .i64 b) 23
  have A := A.alloc (.cells #[.int .i64 c, .int .i64 d] 23)
  have B := At2.new (w.alloc (.cells #[.int .i64 a, .int .i64 b] 23)) (.int .i64 c) (.int .i64 d) 23
  simp at B
  have HB := Lib.hid (bstep (bstep (Below.refl w.heap.size w) (below1 w (.cells #[.int .i64 a, .int .i64 b] 23))) (below1 (w.alloc (.cells #[.int .i64 a, .int .i64 b] 23)) (.cells #[.int .i64 c, .int .i64 d] 23)))
  go_enter Tryd.func7, Tryd.ntmps7
  obtain ⟨A0, A1, -, -, -⟩ := id A
  obtain ⟨B0, B1, -, -, -⟩ := id B
  go_wp2_with fail
  refine (CA.out _ HB.out).mono ?_
  rintro e w1 ⟨rfl, hb⟩
  have A := (A.keep hb)
  have B := (B.keep hb)
  have HB := Lib.hid (bstep HB.out hb)
  clear hb
  clear A0 A1 B0 B1
  obtain ⟨A0, A1, -, -, -⟩ := id A
  obtain ⟨B0, B1, -, -, -⟩ := id B
  go_upto_region 6 with fail
  rw [hkw]
  clear hkw hkw' htw htt hk
  go_cut [10, 11] from 65 to 70 (fun v10 v11 wx => v11 = .int .i64 0 ∧ ∃ q : Nat, v10 = .pointer (some ⟨q, 0, none⟩) ∧ Hid (At2 wx q (.int .i64 s) (.int .i64 t)) ∧ Hid (At2 wx w.heap.size (.int .i64 a) (.int .i64 b)) ∧ Hid (At2 wx (w.heap.size + 1) (.int .i64 c) (.int .i64 d)) ∧ Hid (Below w.heap.size w wx))
  case first =>
    have zA1 : ¬ w.heap.size = w1.heap.size := (by have := A.lt; omega); have yA1 : ¬ w1.heap.size = w.heap.size := (by have := A.lt; omega); have zB1 : ¬ w.heap.size + 1 = w1.heap.size := (by have := B.lt; omega); have yB1 : ¬ w1.heap.size = w.heap.size + 1 := (by have := B.lt; omega); have G1 := Lib.hid B.lt
    go_region_held3 (fun w' => w'.cell? ⟨w.heap.size, 0, none⟩ = some (.int .i64 a) ∧ w'.cell? ⟨w.heap.size, 1, none⟩ = some (.int .i64 b) ∧ w'.cell? ⟨w.heap.size + 1, 0, none⟩ = some (.int .i64 c) ∧ w'.cell? ⟨w.heap.size + 1, 1, none⟩ = some (.int .i64 d)) (go_keep)
      (first
      | (go_at_call 38; ((with_reducible refine (K1.out (World.drew w1)).mono ?_); rintro e w2 ⟨rfl, hb⟩; clear A0 A1 B0 B1; have A := A.dr.keep hb; have B := B.dr.keep hb; have HB := Lib.hid (bstep HB.out (bdrew hb)); obtain ⟨A0, A1, -, -, -⟩ := id A; obtain ⟨B0, B1, -, -, -⟩ := id B; have zA2 : ¬ w.heap.size = w2.heap.size := (by have := A.lt; omega); have yA2 : ¬ w2.heap.size = w.heap.size := (by have := A.lt; omega); have zB2 : ¬ w.heap.size + 1 = w2.heap.size := (by have := B.lt; omega); have yB2 : ¬ w2.heap.size = w.heap.size + 1 := (by have := B.lt; omega); have G2 := Lib.hid B.lt; clear hb))
      | (go_at_call 38; ((with_reducible refine (K1.out (World.drew (World.alloc w1 _))).mono ?_); rintro e w2 ⟨rfl, hb⟩; clear A0 A1 B0 B1; have A := (A.alloc _).dr.keep hb; have B := (B.alloc _).dr.keep hb; have HB := Lib.hid (bstep HB.out (alloc_below (bdrew hb))); obtain ⟨A0, A1, -, -, -⟩ := id A; obtain ⟨B0, B1, -, -, -⟩ := id B; have N1 := (At2.new w1 (.int .i64 0) (.int .i64 0) 23).dr.keep hb; obtain ⟨N10, N11, N1f, N1g, N1l⟩ := id N1; have zA2 : ¬ w.heap.size = w2.heap.size := (by have := A.lt; omega); have yA2 : ¬ w2.heap.size = w.heap.size := (by have := A.lt; omega); have zB2 : ¬ w.heap.size + 1 = w2.heap.size := (by have := B.lt; omega); have yB2 : ¬ w2.heap.size = w.heap.size + 1 := (by have := B.lt; omega); have G2 := Lib.hid B.lt; clear hb))
      | (go_at_call 20; ((with_reducible refine (C1.out w2).mono ?_); rintro e w3 ⟨rfl, hb⟩; clear A0 A1 B0 B1; have A := A.keep hb; have B := B.keep hb; have HB := Lib.hid (bstep HB.out hb); obtain ⟨A0, A1, -, -, -⟩ := id A; obtain ⟨B0, B1, -, -, -⟩ := id B; (try (have N1 := N1.keep hb; clear N10 N11 N1f N1g N1l; obtain ⟨N10, N11, N1f, N1g, N1l⟩ := id N1)); have zA3 : ¬ w.heap.size = w3.heap.size := (by have := A.lt; omega); have yA3 : ¬ w3.heap.size = w.heap.size := (by have := A.lt; omega); have zB3 : ¬ w.heap.size + 1 = w3.heap.size := (by have := B.lt; omega); have yB3 : ¬ w3.heap.size = w.heap.size + 1 := (by have := B.lt; omega); have G3 := Lib.hid B.lt; clear hb))
      | (go_at_call 20; ((with_reducible refine (C1.out (World.alloc w2 _)).mono ?_); rintro e w3 ⟨rfl, hb⟩; clear A0 A1 B0 B1; have A := (A.alloc _).keep hb; have B := (B.alloc _).keep hb; have HB := Lib.hid (bstep HB.out (alloc_below hb)); obtain ⟨A0, A1, -, -, -⟩ := id A; obtain ⟨B0, B1, -, -, -⟩ := id B; have M1 := (At2.new w2 (.int .i64 0) (.int .i64 0) 23).keep hb; obtain ⟨M10, M11, M1f, M1g, M1l⟩ := id M1; have zA3 : ¬ w.heap.size = w3.heap.size := (by have := A.lt; omega); have yA3 : ¬ w3.heap.size = w.heap.size := (by have := A.lt; omega); have zB3 : ¬ w.heap.size + 1 = w3.heap.size := (by have := B.lt; omega); have yB3 : ¬ w3.heap.size = w.heap.size + 1 := (by have := B.lt; omega); have G3 := Lib.hid B.lt; clear hb)))
    all_goals
      go_wp2_with fail
      go_meet
    all_goals
      first
      | (with_reducible exact ⟨rfl, _, rfl, Lib.hid (At2.new _ _ _ 23), Lib.hid (A.alloc _), Lib.hid (B.alloc _), Lib.hid (bstep HB.out (below1 _ _))⟩)
      | (with_reducible exact ⟨rfl, _, rfl, Lib.hid (M1.put _ _), Lib.hid (A.far zA2 _ _), Lib.hid (B.far zB2 _ _), Lib.hid (below_set2 HB.out (by have := G2.out; omega) _ _)⟩)
      | (with_reducible exact ⟨rfl, _, rfl, Lib.hid (N1.put _ _), Lib.hid (A.far zA1 _ _), Lib.hid (B.far zB1 _ _), Lib.hid (below_set2 HB.out (by have := G1.out; omega) _ _)⟩)
  case rest =>
    obtain ⟨rfl, q, rfl, Ch, Ah, Bh, HB'⟩ := hcut
    clear A0 A1 B0 B1 A B HB
    have A := Ah.out
    have B := Bh.out
    have D := Ch.out
    have HB := HB'
    clear Ah Bh Ch HB'
    obtain ⟨A0, A1, -, -, -⟩ := id A
    obtain ⟨B0, B1, -, -, -⟩ := id B
    obtain ⟨D0, D1, -, -, -⟩ := id D
    go_wp2_with fail
    refine (C2.out _).mono ?_
    rintro e w2 ⟨rfl, hb⟩
    have A := (A.keep hb).alloc (.cells #[.int .i64 x, .int .i64 y] 23)
    have B := (B.keep hb).alloc (.cells #[.int .i64 x, .int .i64 y] 23)
    have D := (D.keep hb).alloc (.cells #[.int .i64 x, .int .i64 y] 23)
    have X := At2.new w2 (.int .i64 x) (.int .i64 y) 23
    have HB := Lib.hid (bstep (bstep HB.out hb) (below1 w2 (.cells #[.int .i64 x, .int .i64 y] 23)))
    clear hb
    clear A0 A1 B0 B1 D0 D1
    obtain ⟨A0, A1, -, -, -⟩ := id A
    obtain ⟨B0, B1, -, -, -⟩ := id B
    obtain ⟨D0, D1, -, -, -⟩ := id D
    obtain ⟨X0, X1, -, -, -⟩ := id X
    go_wp2_with fail
    refine (C3.out _).mono ?_
    rintro e w3 ⟨rfl, hb⟩
    have A := (A.keep hb).alloc (.cells #[.int .i64 x, .int .i64 y] 23)
    have B := (B.keep hb).alloc (.cells #[.int .i64 x, .int .i64 y] 23)
    have D := (D.keep hb).alloc (.cells #[.int .i64 x, .int .i64 y] 23)
    have X := (X.keep hb).alloc (.cells #[.int .i64 x, .int .i64 y] 23)
    have Y := At2.new w3 (.int .i64 x) (.int .i64 y) 23
    have HB := Lib.hid (bstep (bstep HB.out hb) (below1 w3 (.cells #[.int .i64 x, .int .i64 y] 23)))
    clear hb
    clear A0 A1 B0 B1 D0 D1 X0 X1
    obtain ⟨A0, A1, -, -, -⟩ := id A
    obtain ⟨B0, B1, -, -, -⟩ := id B
    obtain ⟨D0, D1, -, -, -⟩ := id D
    obtain ⟨X0, X1, -, -, -⟩ := id X
    obtain ⟨Y0, Y1, -, -, -⟩ := id Y
    go_wp2_with fail
    refine (C4.out _).mono ?_
    rintro e w4 ⟨rfl, hb⟩
    have A := (A.keep hb)
    have B := (B.keep hb)
    have D := (D.keep hb)
    have X := (X.keep hb)
    have Y := (Y.keep hb)
    have HB := Lib.hid (bstep HB.out hb)
    clear hb
    clear A0 A1 B0 B1 D0 D1 X0 X1 Y0 Y1
    obtain ⟨A0, A1, -, -, -⟩ := id A
    obtain ⟨B0, B1, -, -, -⟩ := id B
    obtain ⟨D0, D1, -, -, -⟩ := id D
    obtain ⟨X0, X1, -, -, -⟩ := id X
    obtain ⟨Y0, Y1, -, -, -⟩ := id Y
    go_wp2_with fail
    refine (C5.out _).mono ?_
    rintro e w5 ⟨rfl, hb⟩
    have A := (A.keep hb)
    have B := (B.keep hb)
    have D := (D.keep hb)
    have X := (X.keep hb)
    have Y := (Y.keep hb)
    have HB := Lib.hid (bstep HB.out hb)
    clear hb
    clear A0 A1 B0 B1 D0 D1 X0 X1 Y0 Y1
    obtain ⟨A0, A1, -, -, -⟩ := id A
    obtain ⟨B0, B1, -, -, -⟩ := id B
    obtain ⟨D0, D1, -, -, -⟩ := id D
    obtain ⟨X0, X1, -, -, -⟩ := id X
    obtain ⟨Y0, Y1, -, -, -⟩ := id Y
    go_wp2_with fail
    refine (C6.out _).mono ?_
    rintro e w6 ⟨rfl, hb⟩
    have A := (A.keep hb)
    have B := (B.keep hb)
    have D := (D.keep hb)
    have X := (X.keep hb)
    have Y := (Y.keep hb)
    have HB := Lib.hid (bstep HB.out hb)
    clear hb
    clear A0 A1 B0 B1 D0 D1 X0 X1 Y0 Y1
    obtain ⟨A0, A1, -, -, -⟩ := id A
    obtain ⟨B0, B1, -, -, -⟩ := id B
    obtain ⟨D0, D1, -, -, -⟩ := id D
    obtain ⟨X0, X1, -, -, -⟩ := id X
    obtain ⟨Y0, Y1, -, -, -⟩ := id Y
    go_upto_region 14 with fail
    go_cut [151, 152, 153] from 136 to 150 (fun v151 v152 v153 wx => v152 = .int .i64 3 ∧ v153 = .int .i64 0 ∧ ∃ g : Nat, v151 = .slice (some ⟨g, 0, none⟩) 3 3 ∧ Hid (At6 wx g (.int .i64 a) (.int .i64 b) (.int .i64 x) (.int .i64 y) (.int .i64 z) (.int .i64 z)) ∧ Hid (At2 wx w.heap.size (.int .i64 a) (.int .i64 b)) ∧ Hid (At2 wx (w2.heap.size) (.int .i64 x) (.int .i64 y)) ∧ Hid (Below w.heap.size w wx))
    case first =>
      clear B0 B1 D0 D1 Y0 Y1 B D Y CA C1 C2 C3 C4 C5 C6 K1 Z1 Z2 Z3
      go_region_held3 (fun w' => w'.cell? ⟨w.heap.size, 0, none⟩ = some (.int .i64 a) ∧ w'.cell? ⟨w.heap.size, 1, none⟩ = some (.int .i64 b) ∧ w'.cell? ⟨w2.heap.size, 0, none⟩ = some (.int .i64 x) ∧ w'.cell? ⟨w2.heap.size, 1, none⟩ = some (.int .i64 y)) (go_keep)
        (first
        | (go_at_call 38; ((with_reducible refine (K2.out (World.drew w6)).mono ?_); rintro e w7 ⟨rfl, hb⟩; clear A0 A1 X0 X1; have A := A.dr.keep hb; have X := X.dr.keep hb; have HB := Lib.hid (bstep HB.out (bdrew hb)); clear hb; obtain ⟨A0, A1, -, -, -⟩ := id A; obtain ⟨X0, X1, -, -, -⟩ := id X)))
      go_wp2_with fail
      go_meet
      exact ⟨rfl, rfl, _, rfl, Lib.hid (At6.new _ _ _ _ _ _ _ 23), Lib.hid (A.alloc _), Lib.hid (X.alloc _), Lib.hid (bstep HB.out (below1 _ _))⟩
    case rest =>
      obtain ⟨rfl, rfl, g, rfl, HS, Ah, Xh, HB'⟩ := hcut
      clear A0 A1 B0 B1 D0 D1 X0 X1 Y0 Y1 A B D X Y HB
      have HB := HB'
      clear HB'
      obtain ⟨gx, hgx⟩ : ∃ gx, w2.heap.size = gx := ⟨_, rfl⟩
      rw [hgx] at Xh ⊢
      clear hgx
      go_wp2_with fail
      go_loopg [153] 3 (fun m v153 wr => ∃ j : Nat, m = 3 - j ∧ v153 = .int .i64 (j : Int) ∧ Hid (j ≤ 3) ∧ Hid (At6 wr g (.int .i64 a) (.int .i64 b) (.int .i64 x) (.int .i64 y) (.int .i64 z) (.int .i64 z)) ∧ Hid (At2 wr w.heap.size (.int .i64 a) (.int .i64 b)) ∧ Hid (At2 wr gx (.int .i64 x) (.int .i64 y)) ∧ Hid (Below w.heap.size w wr))
      case atStart => exact ⟨0, rfl, rfl, Nat.zero_le _, HS, Ah, Xh, HB⟩
      case round =>
        obtain ⟨j, hm', rfl, HJ, HS, Ah, Xh, HB⟩ := hrel
        have HG := Lib.hid hm'
        clear hm'
        rcases (show j = 0 ∨ j = 1 ∨ j = 2 ∨ j = 3 by have := HJ.out; omega) with rfl | rfl | rfl | rfl
        · obtain ⟨s0, s1, s2, s3, s4, s5, -⟩ := HS.out
          have A := Ah.out
          obtain ⟨A0, A1, -, -, Al⟩ := id A
          have N := At2.new wr (.int .i64 a) (.int .i64 b) 23
          obtain ⟨N0, N1, -, -, -⟩ := id N
          go_wp2_with fail
          refine (Z1.out _).mono ?_
          rintro e w8 ⟨rfl, hb⟩
          have HS := Lib.hid (HS.out.keep (bstep (below1 wr (.cells #[.int .i64 a, .int .i64 b] 23)) hb))
          have Ah := Lib.hid ((A.alloc (.cells #[.int .i64 a, .int .i64 b] 23)).keep hb)
          have Xh := Lib.hid ((Xh.out.alloc (.cells #[.int .i64 a, .int .i64 b] 23)).keep hb)
          have HB := Lib.hid (bstep HB.out (alloc_below hb))
          clear hb s0 s1 s2 s3 s4 s5 A0 A1 Al N0 N1 N A
          go_wp2_with fail
          go_roundg 2
          case measure => have := HG.out; omega
          case rel => exact ⟨1, rfl, by go_num, by show _ ≤ _; omega, HS, Ah, Xh, HB⟩
        · obtain ⟨s0, s1, s2, s3, s4, s5, -⟩ := HS.out
          have A := Ah.out
          obtain ⟨A0, A1, -, -, Al⟩ := id A
          have N := At2.new wr (.int .i64 x) (.int .i64 y) 23
          obtain ⟨N0, N1, -, -, -⟩ := id N
          go_wp2_with fail
          refine (Z2.out _).mono ?_
          rintro e w8 ⟨rfl, hb⟩
          have HS := Lib.hid (HS.out.keep (bstep (below1 wr (.cells #[.int .i64 x, .int .i64 y] 23)) hb))
          have Ah := Lib.hid ((A.alloc (.cells #[.int .i64 x, .int .i64 y] 23)).keep hb)
          have Xh := Lib.hid ((Xh.out.alloc (.cells #[.int .i64 x, .int .i64 y] 23)).keep hb)
          have HB := Lib.hid (bstep HB.out (alloc_below hb))
          clear hb s0 s1 s2 s3 s4 s5 A0 A1 Al N0 N1 N A
          go_wp2_with fail
          go_roundg 1
          case measure => have := HG.out; omega
          case rel => exact ⟨2, rfl, by go_num, by show _ ≤ _; omega, HS, Ah, Xh, HB⟩
        · obtain ⟨s0, s1, s2, s3, s4, s5, -⟩ := HS.out
          have A := Ah.out
          obtain ⟨A0, A1, -, -, Al⟩ := id A
          have N := At2.new wr (.int .i64 z) (.int .i64 z) 23
          obtain ⟨N0, N1, -, -, -⟩ := id N
          go_wp2_with fail
          refine (Z3.out _).mono ?_
          rintro e w8 ⟨rfl, hb⟩
          have HS := Lib.hid (HS.out.keep (bstep (below1 wr (.cells #[.int .i64 z, .int .i64 z] 23)) hb))
          have Ah := Lib.hid ((A.alloc (.cells #[.int .i64 z, .int .i64 z] 23)).keep hb)
          have Xh := Lib.hid ((Xh.out.alloc (.cells #[.int .i64 z, .int .i64 z] 23)).keep hb)
          have HB := Lib.hid (bstep HB.out (alloc_below hb))
          clear hb s0 s1 s2 s3 s4 s5 A0 A1 Al N0 N1 N A
          go_wp2_with fail
          go_roundg 0
          case measure => have := HG.out; omega
          case rel => exact ⟨3, rfl, by go_num, by show _ ≤ _; omega, HS, Ah, Xh, HB⟩
        · obtain ⟨X0, X1, -, -, -⟩ := Xh.out
          go_wp2_with fail
          go_ret
          exact ⟨rfl, HB.out⟩
theorem directions_walk (a b c d tu at' : Int) (w : World) (P : AnProg w) (t1 : -32768 ≤ tu) (t2 : tu ≤ 32767) (u1 : 0 ≤ at') (u2 : at' ≤ 4294967295) :
    Calls Tryd.prog 7 #[.agg #[.int .i64 a, .int .i64 b], .agg #[.int .i64 c, .int .i64 d], .int .i16 tu, .int .u32 at'] w fun e w' => e = .returned (.bool true) ∧ Below w.heap.size w w' := by
  by_cases h0 : a > b
  · exact di_e0 a b c d tu at' w P h0
  by_cases h1 : c > d
  · exact di_e1 a b c d tu at' w P h0 h1
  by_cases h2 : a < -68719476736
  · exact di_e2 a b c d tu at' w P h0 h1 h2
  by_cases h3 : c < -68719476736
  · exact di_e3 a b c d tu at' w P h0 h1 h2 h3
  by_cases h4 : b > 68719476736
  · exact di_e4 a b c d tu at' w P h0 h1 h2 h3 h4
  by_cases h5 : d > 68719476736
  · exact di_e5 a b c d tu at' w P h0 h1 h2 h3 h4 h5
  exact di_ok a b c d tu at' w P t1 t2 u1 u2 h0 h1 h2 h3 h4 h5
end Go.Proofs.YtedcpmiadonmeaaDoor
