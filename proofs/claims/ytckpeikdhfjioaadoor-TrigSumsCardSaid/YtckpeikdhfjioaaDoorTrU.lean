/- TrigSquares, TrigSums: boxes of two numbers of many digits: their memory, and the law's small functions. -/
import Derived.Test.YtckpeikdhfjioaaDoorDgb
import Derived.Test.YtckpeikdhfjioaaDoorTrG
import Derived.Test.YtckpeikdhfjioaaDoorTrN
namespace Go.Proofs.YtckpeikdhfjioaaDoor
open Go.RowKit
set_option linter.unusedVariables false
set_option maxRecDepth 100000

/-- a block of four cells -/
structure At4 (w : World) (b : Nat) (x y z u : Value) : Prop where
  c0 : w.cell? ⟨b, 0, none⟩ = some x
  c1 : w.cell? ⟨b, 1, none⟩ = some y
  c2 : w.cell? ⟨b, 2, none⟩ = some z
  c3 : w.cell? ⟨b, 3, none⟩ = some u
  f0 : w.frozen? ⟨b, 0, none⟩ = false
  f1 : w.frozen? ⟨b, 1, none⟩ = false
  f2 : w.frozen? ⟨b, 2, none⟩ = false
  f3 : w.frozen? ⟨b, 3, none⟩ = false
  lt : b < w.heap.size
theorem At4.new (w : World) (x y z u : Value) (T : Nat) : At4 (w.alloc (.cells #[x, y, z, u] T)) w.heap.size x y z u := by
  refine ⟨?_, ?_, ?_, ?_, ?_, ?_, ?_, ?_, by simp⟩
  · rw [World.cell?_alloc_new]; rfl
  · rw [World.cell?_alloc_new]; rfl
  · rw [World.cell?_alloc_new]; rfl
  · rw [World.cell?_alloc_new]; rfl
  · rw [World.frozen?_alloc_new]
  · rw [World.frozen?_alloc_new]
  · rw [World.frozen?_alloc_new]
  · rw [World.frozen?_alloc_new]
theorem At4.keep {w w1 : World} {b : Nat} {x y z u : Value} (h : At4 w b x y z u) (hb : Below w.heap.size w w1) : At4 w1 b x y z u :=
  ⟨(hb.cell (p := ⟨b, 0, none⟩) h.lt).trans h.c0, (hb.cell (p := ⟨b, 1, none⟩) h.lt).trans h.c1, (hb.cell (p := ⟨b, 2, none⟩) h.lt).trans h.c2, (hb.cell (p := ⟨b, 3, none⟩) h.lt).trans h.c3,
   (hb.frozen (p := ⟨b, 0, none⟩) h.lt).trans h.f0, (hb.frozen (p := ⟨b, 1, none⟩) h.lt).trans h.f1, (hb.frozen (p := ⟨b, 2, none⟩) h.lt).trans h.f2, (hb.frozen (p := ⟨b, 3, none⟩) h.lt).trans h.f3, Nat.lt_of_lt_of_le h.lt hb.size⟩
theorem At4.alloc {w : World} {b : Nat} {x y z u : Value} (h : At4 w b x y z u) (o : Obj) : At4 (w.alloc o) b x y z u := h.keep (below1 _ _)
theorem At4.dr {w : World} {b : Nat} {x y z u : Value} (h : At4 w b x y z u) : At4 w.drew b x y z u := h.keep (Below.refl _ _).drew
theorem At4.off {w : World} {b c k : Nat} {x y z u : Value} (h : At4 w b x y z u) (hne : b ≠ c) (v : Value) : At4 (w.setCell ⟨c, k, none⟩ v) b x y z u :=
  ⟨(World.cell?_setCell_other _ _ _ _ (by simp; try omega)).trans h.c0, (World.cell?_setCell_other _ _ _ _ (by simp; try omega)).trans h.c1, (World.cell?_setCell_other _ _ _ _ (by simp; try omega)).trans h.c2, (World.cell?_setCell_other _ _ _ _ (by simp; try omega)).trans h.c3,
   (World.frozen?_setCell _ _ _ _).trans h.f0, (World.frozen?_setCell _ _ _ _).trans h.f1, (World.frozen?_setCell _ _ _ _).trans h.f2, (World.frozen?_setCell _ _ _ _).trans h.f3, by simpa [World.setCell] using h.lt⟩
theorem At4.p0 {w : World} {b : Nat} {x y z u : Value} (h : At4 w b x y z u) (v : Value) : At4 (w.setCell ⟨b, 0, none⟩ v) b v y z u :=
  ⟨World.cell?_setCell_same _ _ _ h.c0, (World.cell?_setCell_other _ _ _ _ (by simp)).trans h.c1, (World.cell?_setCell_other _ _ _ _ (by simp)).trans h.c2, (World.cell?_setCell_other _ _ _ _ (by simp)).trans h.c3,
   (World.frozen?_setCell _ _ _ _).trans h.f0, (World.frozen?_setCell _ _ _ _).trans h.f1, (World.frozen?_setCell _ _ _ _).trans h.f2, (World.frozen?_setCell _ _ _ _).trans h.f3, by simpa [World.setCell] using h.lt⟩
theorem At4.p1 {w : World} {b : Nat} {x y z u : Value} (h : At4 w b x y z u) (v : Value) : At4 (w.setCell ⟨b, 1, none⟩ v) b x v z u :=
  ⟨(World.cell?_setCell_other _ _ _ _ (by simp)).trans h.c0, World.cell?_setCell_same _ _ _ h.c1, (World.cell?_setCell_other _ _ _ _ (by simp)).trans h.c2, (World.cell?_setCell_other _ _ _ _ (by simp)).trans h.c3,
   (World.frozen?_setCell _ _ _ _).trans h.f0, (World.frozen?_setCell _ _ _ _).trans h.f1, (World.frozen?_setCell _ _ _ _).trans h.f2, (World.frozen?_setCell _ _ _ _).trans h.f3, by simpa [World.setCell] using h.lt⟩
theorem At4.p2 {w : World} {b : Nat} {x y z u : Value} (h : At4 w b x y z u) (v : Value) : At4 (w.setCell ⟨b, 2, none⟩ v) b x y v u :=
  ⟨(World.cell?_setCell_other _ _ _ _ (by simp)).trans h.c0, (World.cell?_setCell_other _ _ _ _ (by simp)).trans h.c1, World.cell?_setCell_same _ _ _ h.c2, (World.cell?_setCell_other _ _ _ _ (by simp)).trans h.c3,
   (World.frozen?_setCell _ _ _ _).trans h.f0, (World.frozen?_setCell _ _ _ _).trans h.f1, (World.frozen?_setCell _ _ _ _).trans h.f2, (World.frozen?_setCell _ _ _ _).trans h.f3, by simpa [World.setCell] using h.lt⟩
theorem At4.p3 {w : World} {b : Nat} {x y z u : Value} (h : At4 w b x y z u) (v : Value) : At4 (w.setCell ⟨b, 3, none⟩ v) b x y z v :=
  ⟨(World.cell?_setCell_other _ _ _ _ (by simp)).trans h.c0, (World.cell?_setCell_other _ _ _ _ (by simp)).trans h.c1, (World.cell?_setCell_other _ _ _ _ (by simp)).trans h.c2, World.cell?_setCell_same _ _ _ h.c3,
   (World.frozen?_setCell _ _ _ _).trans h.f0, (World.frozen?_setCell _ _ _ _).trans h.f1, (World.frozen?_setCell _ _ _ _).trans h.f2, (World.frozen?_setCell _ _ _ _).trans h.f3, by simpa [World.setCell] using h.lt⟩
theorem At2.off' {w : World} {b c k : Nat} {x y : Value} (h : At2 w b x y) (hne : b ≠ c) (v : Value) : At2 (w.setCell ⟨c, k, none⟩ v) b x y :=
  ⟨(World.cell?_setCell_other _ _ _ _ (by simp; try omega)).trans h.c0, (World.cell?_setCell_other _ _ _ _ (by simp; try omega)).trans h.c1, (World.frozen?_setCell _ _ _ _).trans h.f0, (World.frozen?_setCell _ _ _ _).trans h.f1, by simpa [World.setCell] using h.lt⟩
/-- a number in memory, away from a block -/
theorem nz_far {w : World} {A : Option Addr} {n c : Nat} {g : Bool} {z : Int} (h : wd2.NZ w A n c g z) {b k : Nat} (hp : ∀ ad, A = some ad → ad.block ≠ b) (u : Value) : wd2.NZ (w.setCell ⟨b, k, none⟩ u) A n c g z := ⟨h.dig.far ⟨b, k, none⟩ hp u, h.sgn⟩
theorem nz_old {w : World} {A : Option Addr} {n c : Nat} {g : Bool} {z : Int} (h : wd2.NZ w A n c g z) {b : Nat} (hb : w.heap.size ≤ b) : ∀ ad, A = some ad → ad.block ≠ b := fun ad e => by
  obtain ⟨g, rfl, hg, -⟩ := h.dig.at_ ad e
  show g ≠ b
  omega
theorem fr_ne {w : World} {A : Option Addr} (h : wd2.Fr w A) {b : Nat} (hb : b < w.heap.size) : ∀ ad, A = some ad → ad.block ≠ b := fun ad e => by
  have := h ad e
  omega
/-- a box: two numbers -/
def Bx (w : World) (v : Value) (l h : Int) : Prop := ∃ (A : Option Addr) (n c : Nat) (g : Bool) (B : Option Addr) (m d : Nat) (k : Bool), v = .agg #[.slice A n c, .bool g, .slice B m d, .bool k] ∧ wd2.NZ w A n c g l ∧ wd2.NZ w B m d k h
theorem Bx.keep {w w' : World} {v : Value} {l h : Int} (b : Bx w v l h) (hb : Below w.heap.size w w') : Bx w' v l h := by
  obtain ⟨A, n, c, g, B, m, d, k, e, h1, h2⟩ := b
  exact ⟨A, n, c, g, B, m, d, k, e, h1.keep hb, h2.keep hb⟩
theorem Bx.dr {w : World} {v : Value} {l h : Int} (b : Bx w v l h) : Bx w.drew v l h := b.keep (Below.refl _ _).drew
/-- what a function that returns a box leaves behind -/
def RetB (w : World) (l h : Int) (e : Ending) (w' : World) : Prop := ∃ (A : Option Addr) (n c : Nat) (g : Bool) (B : Option Addr) (m d : Nat) (k : Bool), e = .returned (.agg #[.slice A n c, .bool g, .slice B m d, .bool k]) ∧ wd2.NZ w' A n c g l ∧ wd2.NZ w' B m d k h ∧ wd2.Fr w A ∧ wd2.Fr w B ∧ Below w.heap.size w w'

theorem wide_any (z : Int) (w : World) (h1 : -9223372036854775808 ≤ z) (h2 : z ≤ 9223372036854775807) :
    Calls Tryd.prog 43 #[.int .i64 z] w (wd2.RetZ w z) := by
  have C0 := Lib.hid (fun (wx : World) => wd2.ofint_any z wx h1 h2)
  have R := At2.new w (.slice none 0 0) (.bool false) 42
  have HB := Lib.hid (below1 w (.cells #[.slice none 0 0, .bool false] 42))
  go_enter Tryd.func43, Tryd.ntmps43
  go_wp2_with fail
  refine (C0.out _).mono ?_
  rintro e w1 ⟨A, n, c, g, rfl, hN, hF, hb⟩
  have R := R.keep hb
  have HB := Lib.hid (bstep HB.out hb)
  have far := fr_ne hF (show w.heap.size < (w.alloc (.cells #[.slice none 0 0, .bool false] 42)).heap.size by simp)
  clear hb
  obtain ⟨R0, R1, R2, R3, -⟩ := id R
  obtain ⟨z0, z1⟩ := set2 R0 R1 (.slice A n c) (.bool g)
  go_wp2_with fail
  refine bodyPost_ret (v := .agg #[.slice A n c, .bool g]) (by simp [results, Tryd.results43, go_sem, z0, z1]) rfl ⟨A, n, c, g, rfl, nz_far (nz_far hN far _) far _, fun ad e => ?_, below_set2 HB.out (Nat.le_refl _) _ _⟩
  have := hF ad e
  simp at this
  omega

theorem below_four {w w' : World} {n b : Nat} (h : Below n w w') (hn : n ≤ b) (x y z u : Value) : Below n w ((((w'.setCell ⟨b, 0, none⟩ x).setCell ⟨b, 1, none⟩ y).setCell ⟨b, 2, none⟩ z).setCell ⟨b, 3, none⟩ u) := (((h.setCell hn x).setCell hn y).setCell hn z).setCell hn u
theorem nz_four {w : World} {A : Option Addr} {n c : Nat} {g : Bool} {z : Int} (h : wd2.NZ w A n c g z) {b : Nat} (hp : ∀ ad, A = some ad → ad.block ≠ b) (x y z' u : Value) : wd2.NZ ((((w.setCell ⟨b, 0, none⟩ x).setCell ⟨b, 1, none⟩ y).setCell ⟨b, 2, none⟩ z').setCell ⟨b, 3, none⟩ u) A n c g z := nz_far (nz_far (nz_far (nz_far h hp x) hp y) hp z') hp u

theorem of_any (l h : Int) (w : World) (l1 : -9223372036854775808 ≤ l) (l2 : l ≤ 9223372036854775807) (h1 : -9223372036854775808 ≤ h) (h2 : h ≤ 9223372036854775807) :
    Calls Tryd.prog 30 #[.agg #[.int .i64 l, .int .i64 h]] w (RetB w l h) := by
  have K0 := Lib.hid (fun (wx : World) => wide_any l wx l1 l2)
  have K1 := Lib.hid (fun (wx : World) => wide_any h wx h1 h2)
  have A := (At2.new w (.int .i64 l) (.int .i64 h) 25).alloc (.cells #[.slice none 0 0, .bool false, .slice none 0 0, .bool false] 44)
  have R := At4.new (w.alloc (.cells #[.int .i64 l, .int .i64 h] 25)) (.slice none 0 0) (.bool false) (.slice none 0 0) (.bool false) 44
  simp at R
  have HB := Lib.hid (below2 w (.cells #[.int .i64 l, .int .i64 h] 25) (.cells #[.slice none 0 0, .bool false, .slice none 0 0, .bool false] 44))
  obtain ⟨A0, A1, -, -, -⟩ := id A
  go_enter Tryd.func30, Tryd.ntmps30
  go_upto_region 1 with fail
  generalize (w.alloc (.cells #[.int .i64 l, .int .i64 h] 25)).alloc (.cells #[.slice none 0 0, .bool false, .slice none 0 0, .bool false] 44) = W at *
  have sR := R.lt
  have za : ¬ w.heap.size = w.heap.size + 1 := by omega
  go_region_held3 (fun w' => w'.cell? ⟨w.heap.size, 0, none⟩ = some (.int .i64 l) ∧ w'.cell? ⟨w.heap.size, 1, none⟩ = some (.int .i64 h)) (go_keep)
    (first
    | (go_at_call 43; ((with_reducible refine (K0.out _).mono ?_)); rintro e v ⟨D1, n1, c1, g1, rfl, N1, F1, hb⟩; (try (replace hb := bdrew hb)); have f1 := fr_ne F1 sR; have u1 : wd2.Fr w D1 := wd2.Fr.under F1 HB.out.size; clear A0 A1; have A := A.keep hb; have R := R.keep hb; have sR := R.lt; have HB := Lib.hid (bstep HB.out hb); obtain ⟨A0, A1, -, -, -⟩ := id A; obtain ⟨R0, R1, R2, R3, R4, R5, R6, R7, -⟩ := id R; clear hb)
    | (go_at_call 43; ((with_reducible refine (K1.out _).mono ?_)); rintro e v ⟨D2, n2, c2, g2, rfl, N2, F2, hb⟩; (try (replace hb := bdrew hb)); have f2 := fr_ne F2 sR; have u2 : wd2.Fr w D2 := wd2.Fr.under F2 HB.out.size; have N1 := N1.keep hb; clear A0 A1 R0 R1 R2 R3 R4 R5 R6 R7; have A := A.keep hb; have R := R.keep hb; have sR := R.lt; have HB := Lib.hid (bstep HB.out hb); obtain ⟨A0, A1, -, -, -⟩ := id A; obtain ⟨R0, R1, R2, R3, R4, R5, R6, R7, -⟩ := id R; clear hb))
  have r0 := R.p0 (.slice D1 n1 c1)
  have r1 := r0.p1 (.bool g1)
  have r2 := r1.p2 (.slice D2 n2 c2)
  have r3 := r2.p3 (.bool g2)
  have z0 := r0.c0
  have z1 := r1.c1
  have z2 := r2.c2
  have z3 := r3.c3
  go_wp2_with fail
  refine bodyPost_ret (v := .agg #[.slice D1 n1 c1, .bool g1, .slice D2 n2 c2, .bool g2]) (by simp [results, Tryd.results30, go_sem, z0, z1, z2, z3]) rfl ⟨_, _, _, _, _, _, _, _, rfl, ?_, ?_, u1, u2, ?_⟩
  · exact nz_four N1 f1 _ _ _ _
  · exact nz_four N2 f2 _ _ _ _
  · exact below_four HB.out (by omega) _ _ _ _

theorem one_any (z : Int) (w : World) (h1 : -9223372036854775808 ≤ z) (h2 : z ≤ 9223372036854775807) :
    Calls Tryd.prog 27 #[.int .i64 z] w (RetB w z z) := by
  have K0 := Lib.hid (fun (wx : World) => wide_any z wx h1 h2)
  have R := At4.new w (.slice none 0 0) (.bool false) (.slice none 0 0) (.bool false) 44
  have HB := Lib.hid (below1 w (.cells #[.slice none 0 0, .bool false, .slice none 0 0, .bool false] 44))
  go_enter Tryd.func27, Tryd.ntmps27
  go_wp2_with fail
  have sR := R.lt
  refine (K0.out _).mono ?_
  rintro e v ⟨D1, n1, c1, g1, rfl, N1, F1, hb⟩
  have f1 := fr_ne F1 sR
  have u1 : wd2.Fr w D1 := wd2.Fr.under F1 HB.out.size
  have R := R.keep hb
  have sR := R.lt
  have HB := Lib.hid (bstep HB.out hb)
  clear hb
  go_wp2_with fail
  refine (K0.out _).mono ?_
  rintro e v2 ⟨D2, n2, c2, g2, rfl, N2, F2, hb⟩
  have f2 := fr_ne F2 sR
  have u2 : wd2.Fr w D2 := wd2.Fr.under F2 HB.out.size
  have N1 := N1.keep hb
  have R := R.keep hb
  have HB := Lib.hid (bstep HB.out hb)
  clear hb
  obtain ⟨R0, R1, R2, R3, R4, R5, R6, R7, -⟩ := id R
  have r0 := R.p0 (.slice D1 n1 c1)
  have r1 := r0.p1 (.bool g1)
  have r2 := r1.p2 (.slice D2 n2 c2)
  have r3 := r2.p3 (.bool g2)
  have z0 := r0.c0
  have z1 := r1.c1
  have z2 := r2.c2
  have z3 := r3.c3
  go_wp2_with fail
  refine bodyPost_ret (v := .agg #[.slice D1 n1 c1, .bool g1, .slice D2 n2 c2, .bool g2]) (by simp [results, Tryd.results27, go_sem, z0, z1, z2, z3]) rfl ⟨_, _, _, _, _, _, _, _, rfl, ?_, ?_, u1, u2, ?_⟩
  · exact nz_four N1 f1 _ _ _ _
  · exact nz_four N2 f2 _ _ _ _
  · exact below_four HB.out (Nat.le_refl _) _ _ _ _

theorem plus_any (v1 v2 : Value) (l h l' h' : Int) (w : World) (b1 : Bx w v1 l h) (b2 : Bx w v2 l' h') (s1 : wd2.Sm l) (s2 : wd2.Sm h) (s3 : wd2.Sm l') (s4 : wd2.Sm h') :
    Calls Tryd.prog 29 #[v1, v2] w (RetB w (l + l') (h + h')) := by
  obtain ⟨A1, na1, ca1, ga1, B1, nb1, cb1, gb1, rfl, L1, H1⟩ := b1
  obtain ⟨A2, na2, ca2, ga2, B2, nb2, cb2, gb2, rfl, L2, H2⟩ := b2
  have K0 := Lib.hid (fun (wx : World) (hb : Below w.heap.size w wx) => wd2.plus_any A1 A2 na1 ca1 na2 ca2 ga1 ga2 l l' wx (L1.keep hb) (L2.keep hb) s1 s3)
  have K1 := Lib.hid (fun (wx : World) (hb : Below w.heap.size w wx) => wd2.plus_any B1 B2 nb1 cb1 nb2 cb2 gb1 gb2 h h' wx (H1.keep hb) (H2.keep hb) s2 s4)
  clear L1 H1 L2 H2 s1 s2 s3 s4
  have P := At4.new w (.slice A1 na1 ca1) (.bool ga1) (.slice B1 nb1 cb1) (.bool gb1) 44
  have P := P.alloc (.cells #[.slice A2 na2 ca2, .bool ga2, .slice B2 nb2 cb2, .bool gb2] 44)
  have Q := At4.new (w.alloc (.cells #[.slice A1 na1 ca1, .bool ga1, .slice B1 nb1 cb1, .bool gb1] 44)) (.slice A2 na2 ca2) (.bool ga2) (.slice B2 nb2 cb2) (.bool gb2) 44
  have HB := Lib.hid (below2 w (.cells #[.slice A1 na1 ca1, .bool ga1, .slice B1 nb1 cb1, .bool gb1] 44) (.cells #[.slice A2 na2 ca2, .bool ga2, .slice B2 nb2 cb2, .bool gb2] 44))
  have P := P.alloc (.cells #[.slice none 0 0, .bool false, .slice none 0 0, .bool false] 44)
  have Q := Q.alloc (.cells #[.slice none 0 0, .bool false, .slice none 0 0, .bool false] 44)
  have R := At4.new ((w.alloc (.cells #[.slice A1 na1 ca1, .bool ga1, .slice B1 nb1 cb1, .bool gb1] 44)).alloc (.cells #[.slice A2 na2 ca2, .bool ga2, .slice B2 nb2 cb2, .bool gb2] 44)) (.slice none 0 0) (.bool false) (.slice none 0 0) (.bool false) 44
  have HB := Lib.hid (bstep HB.out (below1 ((w.alloc (.cells #[.slice A1 na1 ca1, .bool ga1, .slice B1 nb1 cb1, .bool gb1] 44)).alloc (.cells #[.slice A2 na2 ca2, .bool ga2, .slice B2 nb2 cb2, .bool gb2] 44)) (.cells #[.slice none 0 0, .bool false, .slice none 0 0, .bool false] 44)))
  simp at Q R
  have lP := P.lt
  obtain ⟨P0, P1, P2, P3, -⟩ := id P
  obtain ⟨Q0, Q1, Q2, Q3, -⟩ := id Q
  go_enter Tryd.func29, Tryd.ntmps29
  go_upto_region 1 with fail
  generalize ((w.alloc (.cells #[.slice A1 na1 ca1, .bool ga1, .slice B1 nb1 cb1, .bool gb1] 44)).alloc (.cells #[.slice A2 na2 ca2, .bool ga2, .slice B2 nb2 cb2, .bool gb2] 44)).alloc (.cells #[.slice none 0 0, .bool false, .slice none 0 0, .bool false] 44) = W at *
  have sR := R.lt
  have za : ¬ w.heap.size = w.heap.size + 1 + 1 := by omega
  have zb : ¬ w.heap.size + 1 = w.heap.size + 1 + 1 := by omega
  have ya : ¬ w.heap.size + 1 + 1 = w.heap.size := by omega
  have yb : ¬ w.heap.size + 1 + 1 = w.heap.size + 1 := by omega
  go_region_held3 (fun w' => w'.cell? ⟨w.heap.size, 0, none⟩ = some (.slice A1 na1 ca1) ∧ w'.cell? ⟨w.heap.size, 1, none⟩ = some (.bool ga1) ∧ w'.cell? ⟨w.heap.size, 2, none⟩ = some (.slice B1 nb1 cb1) ∧ w'.cell? ⟨w.heap.size, 3, none⟩ = some (.bool gb1) ∧ w'.cell? ⟨w.heap.size + 1, 0, none⟩ = some (.slice A2 na2 ca2) ∧ w'.cell? ⟨w.heap.size + 1, 1, none⟩ = some (.bool ga2) ∧ w'.cell? ⟨w.heap.size + 1, 2, none⟩ = some (.slice B2 nb2 cb2) ∧ w'.cell? ⟨w.heap.size + 1, 3, none⟩ = some (.bool gb2)) (go_keep)
    (first
    | (go_at_call 44; ((with_reducible refine (K0.out _ (by first | exact HB.out | exact HB.out.drew)).mono ?_)); rintro e v ⟨D1, n1, c1, g1, rfl, N1, F1, hb⟩; (try (replace hb := bdrew hb)); have f1 := fr_ne F1 sR; have u1 : wd2.Fr w D1 := wd2.Fr.under F1 HB.out.size; clear P0 P1 P2 P3 Q0 Q1 Q2 Q3; have P := P.keep hb; have Q := Q.keep hb; (try (clear R0 R1 R2 R3 R4 R5 R6 R7)); have R := R.keep hb; have sR := R.lt; have HB := Lib.hid (bstep HB.out hb); obtain ⟨P0, P1, P2, P3, -⟩ := id P; obtain ⟨Q0, Q1, Q2, Q3, -⟩ := id Q; obtain ⟨R0, R1, R2, R3, R4, R5, R6, R7, -⟩ := id R; clear hb)
    | (go_at_call 44; ((with_reducible refine (K1.out _ (by first | exact HB.out | exact HB.out.drew)).mono ?_)); rintro e v ⟨D2, n2, c2, g2, rfl, N2, F2, hb⟩; (try (replace hb := bdrew hb)); have f2 := fr_ne F2 sR; have u2 : wd2.Fr w D2 := wd2.Fr.under F2 HB.out.size; have N1 := N1.keep hb; clear P0 P1 P2 P3 Q0 Q1 Q2 Q3; have P := P.keep hb; have Q := Q.keep hb; (try (clear R0 R1 R2 R3 R4 R5 R6 R7)); have R := R.keep hb; have sR := R.lt; have HB := Lib.hid (bstep HB.out hb); obtain ⟨P0, P1, P2, P3, -⟩ := id P; obtain ⟨Q0, Q1, Q2, Q3, -⟩ := id Q; obtain ⟨R0, R1, R2, R3, R4, R5, R6, R7, -⟩ := id R; clear hb))
  have r0 := R.p0 (.slice D1 n1 c1)
  have r1 := r0.p1 (.bool g1)
  have r2 := r1.p2 (.slice D2 n2 c2)
  have r3 := r2.p3 (.bool g2)
  have z0 := r0.c0
  have z1 := r1.c1
  have z2 := r2.c2
  have z3 := r3.c3
  go_wp2_with fail
  refine bodyPost_ret (v := .agg #[.slice D1 n1 c1, .bool g1, .slice D2 n2 c2, .bool g2]) (by simp [results, Tryd.results29, go_sem, z0, z1, z2, z3]) rfl ⟨_, _, _, _, _, _, _, _, rfl, ?_, ?_, u1, u2, ?_⟩
  · exact nz_four N1 f1 _ _ _ _
  · exact nz_four N2 f2 _ _ _ _
  · exact below_four HB.out (show w.heap.size ≤ w.heap.size + 1 + 1 by omega) _ _ _ _

theorem sgn_le (z : Int) (h : z ≤ 0) : wd2.sgn z ≤ 0 ∧ -1 ≤ wd2.sgn z := by unfold wd2.sgn; split <;> (try split) <;> omega
theorem meet_any (v1 v2 : Value) (l h l' h' : Int) (w : World) (b1 : Bx w v1 l h) (b2 : Bx w v2 l' h') (s1 : wd2.Sm l) (s2 : wd2.Sm h) (s3 : wd2.Sm l') (s4 : wd2.Sm h') (m1 : l ≤ h') (m2 : l' ≤ h) :
    Calls Tryd.prog 28 #[v1, v2] w fun e w' => e = .returned (.bool true) ∧ Below w.heap.size w w' := by
  obtain ⟨A1, na1, ca1, ga1, B1, nb1, cb1, gb1, rfl, L1, H1⟩ := b1
  obtain ⟨A2, na2, ca2, ga2, B2, nb2, cb2, gb2, rfl, L2, H2⟩ := b2
  have K0 := Lib.hid (fun (wx : World) (hb : Below w.heap.size w wx) => wd2.compare_num A1 B2 na1 ca1 nb2 cb2 ga1 gb2 l h' wx (L1.keep hb) (H2.keep hb) s1 s4)
  have K1 := Lib.hid (fun (wx : World) (hb : Below w.heap.size w wx) => wd2.compare_num A2 B1 na2 ca2 nb1 cb1 ga2 gb1 l' h wx (L2.keep hb) (H1.keep hb) s3 s2)
  obtain ⟨q1, -⟩ := sgn_le (l - h') (by omega)
  obtain ⟨q2, -⟩ := sgn_le (l' - h) (by omega)
  generalize wd2.sgn (l - h') = x at *
  generalize wd2.sgn (l' - h) = y at *
  clear L1 H1 L2 H2 s1 s2 s3 s4 m1 m2
  have P := At4.new w (.slice A1 na1 ca1) (.bool ga1) (.slice B1 nb1 cb1) (.bool gb1) 44
  have P := P.alloc (.cells #[.slice A2 na2 ca2, .bool ga2, .slice B2 nb2 cb2, .bool gb2] 44)
  have Q := At4.new (w.alloc (.cells #[.slice A1 na1 ca1, .bool ga1, .slice B1 nb1 cb1, .bool gb1] 44)) (.slice A2 na2 ca2) (.bool ga2) (.slice B2 nb2 cb2) (.bool gb2) 44
  have HB := Lib.hid (below2 w (.cells #[.slice A1 na1 ca1, .bool ga1, .slice B1 nb1 cb1, .bool gb1] 44) (.cells #[.slice A2 na2 ca2, .bool ga2, .slice B2 nb2 cb2, .bool gb2] 44))
  simp at Q
  have lP := P.lt
  obtain ⟨P0, P1, P2, P3, -⟩ := id P
  obtain ⟨Q0, Q1, Q2, Q3, -⟩ := id Q
  go_enter Tryd.func28, Tryd.ntmps28
  go_wp2_with fail
  refine (K0.out _ HB.out).mono ?_
  rintro e v ⟨rfl, hb⟩
  clear P0 P1 P2 P3 Q0 Q1 Q2 Q3
  have P := P.keep hb
  have Q := Q.keep hb
  have HB := Lib.hid (bstep HB.out hb)
  clear hb
  obtain ⟨P0, P1, P2, P3, -⟩ := id P
  obtain ⟨Q0, Q1, Q2, Q3, -⟩ := id Q
  go_wp2_with fail
  refine (K1.out _ HB.out).mono ?_
  rintro e v' ⟨rfl, hb⟩
  have HB := Lib.hid (bstep HB.out hb)
  clear hb
  go_wp2_with fail
  go_ret
  exact ⟨rfl, HB.out⟩

theorem minus_box (v1 v2 : Value) (l h l' h' : Int) (w : World) (b1 : Bx w v1 l h) (b2 : Bx w v2 l' h') (s1 : wd2.Sm l) (s2 : wd2.Sm h) (s3 : wd2.Sm l') (s4 : wd2.Sm h') :
    Calls Tryd.prog 31 #[v1, v2] w (RetB w (l - h') (h - l')) := by
  obtain ⟨A1, na1, ca1, ga1, B1, nb1, cb1, gb1, rfl, L1, H1⟩ := b1
  obtain ⟨A2, na2, ca2, ga2, B2, nb2, cb2, gb2, rfl, L2, H2⟩ := b2
  obtain ⟨k1, hk1⟩ : ∃ k1, k1 = decide (-h' < 0) := ⟨_, rfl⟩
  obtain ⟨k2, hk2⟩ : ∃ k2, k2 = decide (-l' < 0) := ⟨_, rfl⟩
  have K0 := Lib.hid (fun (wx : World) (hb : Below w.heap.size w wx) => wd2.minus_any B2 nb2 cb2 gb2 k1 h' wx (H2.keep hb) hk1)
  have K1 := Lib.hid (fun (wx : World) (hb : Below w.heap.size w wx) => wd2.minus_any A2 na2 ca2 ga2 k2 l' wx (L2.keep hb) hk2)
  have K2 : Hid (∀ wx, Below w.heap.size w wx → Calls Tryd.prog 29 #[.agg #[.slice A1 na1 ca1, .bool ga1, .slice B1 nb1 cb1, .bool gb1], .agg #[.slice B2 nb2 cb2, .bool k1, .slice A2 na2 ca2, .bool k2]] wx (RetB wx (l - h') (h - l'))) := by
    intro wx hb
    have p := plus_any (.agg #[.slice A1 na1 ca1, .bool ga1, .slice B1 nb1 cb1, .bool gb1]) (.agg #[.slice B2 nb2 cb2, .bool k1, .slice A2 na2 ca2, .bool k2]) l h (-h') (-l') wx ⟨_, _, _, _, _, _, _, _, rfl, L1.keep hb, H1.keep hb⟩
      ⟨_, _, _, _, _, _, _, _, rfl, ⟨by rw [Int.natAbs_neg]; exact H2.dig.keep hb, hk1⟩, ⟨by rw [Int.natAbs_neg]; exact L2.dig.keep hb, hk2⟩⟩ s1 s2 s4.neg s3.neg
    rw [← Int.sub_eq_add_neg, ← Int.sub_eq_add_neg] at p
    exact p
  clear hk1 hk2 L1 H1 L2 H2 s1 s2 s3 s4
  have P := At4.new w (.slice A1 na1 ca1) (.bool ga1) (.slice B1 nb1 cb1) (.bool gb1) 44
  have P := P.alloc (.cells #[.slice A2 na2 ca2, .bool ga2, .slice B2 nb2 cb2, .bool gb2] 44)
  have Q := At4.new (w.alloc (.cells #[.slice A1 na1 ca1, .bool ga1, .slice B1 nb1 cb1, .bool gb1] 44)) (.slice A2 na2 ca2) (.bool ga2) (.slice B2 nb2 cb2) (.bool gb2) 44
  have HB := Lib.hid (below2 w (.cells #[.slice A1 na1 ca1, .bool ga1, .slice B1 nb1 cb1, .bool gb1] 44) (.cells #[.slice A2 na2 ca2, .bool ga2, .slice B2 nb2 cb2, .bool gb2] 44))
  have P := P.alloc (.cells #[.slice none 0 0, .bool false, .slice none 0 0, .bool false] 44)
  have Q := Q.alloc (.cells #[.slice none 0 0, .bool false, .slice none 0 0, .bool false] 44)
  have R := At4.new ((w.alloc (.cells #[.slice A1 na1 ca1, .bool ga1, .slice B1 nb1 cb1, .bool gb1] 44)).alloc (.cells #[.slice A2 na2 ca2, .bool ga2, .slice B2 nb2 cb2, .bool gb2] 44)) (.slice none 0 0) (.bool false) (.slice none 0 0) (.bool false) 44
  have HB := Lib.hid (bstep HB.out (below1 ((w.alloc (.cells #[.slice A1 na1 ca1, .bool ga1, .slice B1 nb1 cb1, .bool gb1] 44)).alloc (.cells #[.slice A2 na2 ca2, .bool ga2, .slice B2 nb2 cb2, .bool gb2] 44)) (.cells #[.slice none 0 0, .bool false, .slice none 0 0, .bool false] 44)))
  simp at Q R
  have lP := P.lt
  obtain ⟨P0, P1, P2, P3, -⟩ := id P
  obtain ⟨Q0, Q1, Q2, Q3, -⟩ := id Q
  go_enter Tryd.func31, Tryd.ntmps31
  go_upto_region 1 with fail
  generalize ((w.alloc (.cells #[.slice A1 na1 ca1, .bool ga1, .slice B1 nb1 cb1, .bool gb1] 44)).alloc (.cells #[.slice A2 na2 ca2, .bool ga2, .slice B2 nb2 cb2, .bool gb2] 44)).alloc (.cells #[.slice none 0 0, .bool false, .slice none 0 0, .bool false] 44) = W at *
  have sR := R.lt
  have za : ¬ w.heap.size = w.heap.size + 1 + 1 := by omega
  have zb : ¬ w.heap.size + 1 = w.heap.size + 1 + 1 := by omega
  have ya : ¬ w.heap.size + 1 + 1 = w.heap.size := by omega
  have yb : ¬ w.heap.size + 1 + 1 = w.heap.size + 1 := by omega
  go_region_held3 (fun w' => w'.cell? ⟨w.heap.size, 0, none⟩ = some (.slice A1 na1 ca1) ∧ w'.cell? ⟨w.heap.size, 1, none⟩ = some (.bool ga1) ∧ w'.cell? ⟨w.heap.size, 2, none⟩ = some (.slice B1 nb1 cb1) ∧ w'.cell? ⟨w.heap.size, 3, none⟩ = some (.bool gb1) ∧ w'.cell? ⟨w.heap.size + 1, 0, none⟩ = some (.slice A2 na2 ca2) ∧ w'.cell? ⟨w.heap.size + 1, 1, none⟩ = some (.bool ga2) ∧ w'.cell? ⟨w.heap.size + 1, 2, none⟩ = some (.slice B2 nb2 cb2) ∧ w'.cell? ⟨w.heap.size + 1, 3, none⟩ = some (.bool gb2)) (go_keep)
    (first
    | (go_at_call 45; ((with_reducible refine (K0.out _ (by first | exact HB.out | exact HB.out.drew)).mono ?_)); rintro e v ⟨rfl, hb⟩; (try (replace hb := bdrew hb)); clear P0 P1 P2 P3 Q0 Q1 Q2 Q3; have P := P.keep hb; have Q := Q.keep hb; (try (clear R0 R1 R2 R3 R4 R5 R6 R7)); have R := R.keep hb; have sR := R.lt; have HB := Lib.hid (bstep HB.out hb); obtain ⟨P0, P1, P2, P3, -⟩ := id P; obtain ⟨Q0, Q1, Q2, Q3, -⟩ := id Q; obtain ⟨R0, R1, R2, R3, R4, R5, R6, R7, -⟩ := id R; clear hb)
    | (go_at_call 45; ((with_reducible refine (K1.out _ (by first | exact HB.out | exact HB.out.drew)).mono ?_)); rintro e v ⟨rfl, hb⟩; (try (replace hb := bdrew hb)); clear P0 P1 P2 P3 Q0 Q1 Q2 Q3; have P := P.keep hb; have Q := Q.keep hb; (try (clear R0 R1 R2 R3 R4 R5 R6 R7)); have R := R.keep hb; have sR := R.lt; have HB := Lib.hid (bstep HB.out hb); obtain ⟨P0, P1, P2, P3, -⟩ := id P; obtain ⟨Q0, Q1, Q2, Q3, -⟩ := id Q; obtain ⟨R0, R1, R2, R3, R4, R5, R6, R7, -⟩ := id R; clear hb)
    | (go_at_call 29; ((with_reducible refine (K2.out _ (by first | exact HB.out | exact HB.out.drew)).mono ?_)); rintro e v ⟨D1, n1, c1, g1, D2, n2, c2, g2, rfl, N1, N2, F1, F2, hb⟩; (try (replace hb := bdrew hb)); have f1 := fr_ne F1 sR; have f2 := fr_ne F2 sR; have u1 : wd2.Fr w D1 := wd2.Fr.under F1 HB.out.size; have u2 : wd2.Fr w D2 := wd2.Fr.under F2 HB.out.size; clear P0 P1 P2 P3 Q0 Q1 Q2 Q3; have P := P.keep hb; have Q := Q.keep hb; (try (clear R0 R1 R2 R3 R4 R5 R6 R7)); have R := R.keep hb; have sR := R.lt; have HB := Lib.hid (bstep HB.out hb); obtain ⟨P0, P1, P2, P3, -⟩ := id P; obtain ⟨Q0, Q1, Q2, Q3, -⟩ := id Q; obtain ⟨R0, R1, R2, R3, R4, R5, R6, R7, -⟩ := id R; clear hb))
  have r0 := R.p0 (.slice D1 n1 c1)
  have r1 := r0.p1 (.bool g1)
  have r2 := r1.p2 (.slice D2 n2 c2)
  have r3 := r2.p3 (.bool g2)
  have z0 := r0.c0
  have z1 := r1.c1
  have z2 := r2.c2
  have z3 := r3.c3
  go_wp2_with fail
  refine bodyPost_ret (v := .agg #[.slice D1 n1 c1, .bool g1, .slice D2 n2 c2, .bool g2]) (by simp [results, Tryd.results31, go_sem, z0, z1, z2, z3]) rfl ⟨_, _, _, _, _, _, _, _, rfl, ?_, ?_, u1, u2, ?_⟩
  · exact nz_four N1 f1 _ _ _ _
  · exact nz_four N2 f2 _ _ _ _
  · exact below_four HB.out (show w.heap.size ≤ w.heap.size + 1 + 1 by omega) _ _ _ _
end Go.Proofs.YtckpeikdhfjioaaDoor
