/- TrigSquares, TrigSums: boxes of two numbers of many digits: their memory, the law's small functions, its products. -/
import Derived.Test.YtglmkpnnbgkndaaDoorDgb
import Derived.Test.YtglmkpnnbgkndaaDoorTrG
import Derived.Test.YtglmkpnnbgkndaaDoorTrN
/- TrigSquares, TrigSums: boxes of two numbers of many digits: their memory, and the law's small functions. -/
namespace Go.Proofs.YtglmkpnnbgkndaaDoor
open Go.RowKit
set_option linter.unusedVariables false
set_option maxRecDepth 100000

/-- a block of four cells -/
structure At4 (w : World) (b : Nat) (x y z u : Value) : Prop where
  c0 : w.cell? ⟨b, 0, none⟩ = some x
  c1 : w.cell? ⟨b, 1, none⟩ = some y
  c2 : w.cell? ⟨b, 2, none⟩ = some z
  c3 : w.cell? ⟨b, 3, none⟩ = some u
  f0 : w.frozen? ⟨b, 0, none⟩ = false
  f1 : w.frozen? ⟨b, 1, none⟩ = false
  f2 : w.frozen? ⟨b, 2, none⟩ = false
  f3 : w.frozen? ⟨b, 3, none⟩ = false
  lt : b < w.heap.size
theorem At4.new (w : World) (x y z u : Value) (T : Nat) : At4 (w.alloc (.cells #[x, y, z, u] T)) w.heap.size x y z u := by
  refine ⟨?_, ?_, ?_, ?_, ?_, ?_, ?_, ?_, by simp⟩
  · rw [World.cell?_alloc_new]; rfl
  · rw [World.cell?_alloc_new]; rfl
  · rw [World.cell?_alloc_new]; rfl
  · rw [World.cell?_alloc_new]; rfl
  · rw [World.frozen?_alloc_new]
  · rw [World.frozen?_alloc_new]
  · rw [World.frozen?_alloc_new]
  · rw [World.frozen?_alloc_new]
theorem At4.keep {w w1 : World} {b : Nat} {x y z u : Value} (h : At4 w b x y z u) (hb : Below w.heap.size w w1) : At4 w1 b x y z u :=
  ⟨(hb.cell (p := ⟨b, 0, none⟩) h.lt).trans h.c0, (hb.cell (p := ⟨b, 1, none⟩) h.lt).trans h.c1, (hb.cell (p := ⟨b, 2, none⟩) h.lt).trans h.c2, (hb.cell (p := ⟨b, 3, none⟩) h.lt).trans h.c3,
   (hb.frozen (p := ⟨b, 0, none⟩) h.lt).trans h.f0, (hb.frozen (p := ⟨b, 1, none⟩) h.lt).trans h.f1, (hb.frozen (p := ⟨b, 2, none⟩) h.lt).trans h.f2, (hb.frozen (p := ⟨b, 3, none⟩) h.lt).trans h.f3, Nat.lt_of_lt_of_le h.lt hb.size⟩
theorem At4.alloc {w : World} {b : Nat} {x y z u : Value} (h : At4 w b x y z u) (o : Obj) : At4 (w.alloc o) b x y z u := h.keep (below1 _ _)
theorem At4.dr {w : World} {b : Nat} {x y z u : Value} (h : At4 w b x y z u) : At4 w.drew b x y z u := h.keep (Below.refl _ _).drew
theorem At4.off {w : World} {b c k : Nat} {x y z u : Value} (h : At4 w b x y z u) (hne : b ≠ c) (v : Value) : At4 (w.setCell ⟨c, k, none⟩ v) b x y z u :=
  ⟨(World.cell?_setCell_other _ _ _ _ (by simp; try omega)).trans h.c0, (World.cell?_setCell_other _ _ _ _ (by simp; try omega)).trans h.c1, (World.cell?_setCell_other _ _ _ _ (by simp; try omega)).trans h.c2, (World.cell?_setCell_other _ _ _ _ (by simp; try omega)).trans h.c3,
   (World.frozen?_setCell _ _ _ _).trans h.f0, (World.frozen?_setCell _ _ _ _).trans h.f1, (World.frozen?_setCell _ _ _ _).trans h.f2, (World.frozen?_setCell _ _ _ _).trans h.f3, by simpa [World.setCell] using h.lt⟩
theorem At4.p0 {w : World} {b : Nat} {x y z u : Value} (h : At4 w b x y z u) (v : Value) : At4 (w.setCell ⟨b, 0, none⟩ v) b v y z u :=
  ⟨World.cell?_setCell_same _ _ _ h.c0, (World.cell?_setCell_other _ _ _ _ (by simp)).trans h.c1, (World.cell?_setCell_other _ _ _ _ (by simp)).trans h.c2, (World.cell?_setCell_other _ _ _ _ (by simp)).trans h.c3,
   (World.frozen?_setCell _ _ _ _).trans h.f0, (World.frozen?_setCell _ _ _ _).trans h.f1, (World.frozen?_setCell _ _ _ _).trans h.f2, (World.frozen?_setCell _ _ _ _).trans h.f3, by simpa [World.setCell] using h.lt⟩
theorem At4.p1 {w : World} {b : Nat} {x y z u : Value} (h : At4 w b x y z u) (v : Value) : At4 (w.setCell ⟨b, 1, none⟩ v) b x v z u :=
  ⟨(World.cell?_setCell_other _ _ _ _ (by simp)).trans h.c0, World.cell?_setCell_same _ _ _ h.c1, (World.cell?_setCell_other _ _ _ _ (by simp)).trans h.c2, (World.cell?_setCell_other _ _ _ _ (by simp)).trans h.c3,
   (World.frozen?_setCell _ _ _ _).trans h.f0, (World.frozen?_setCell _ _ _ _).trans h.f1, (World.frozen?_setCell _ _ _ _).trans h.f2, (World.frozen?_setCell _ _ _ _).trans h.f3, by simpa [World.setCell] using h.lt⟩
theorem At4.p2 {w : World} {b : Nat} {x y z u : Value} (h : At4 w b x y z u) (v : Value) : At4 (w.setCell ⟨b, 2, none⟩ v) b x y v u :=
  ⟨(World.cell?_setCell_other _ _ _ _ (by simp)).trans h.c0, (World.cell?_setCell_other _ _ _ _ (by simp)).trans h.c1, World.cell?_setCell_same _ _ _ h.c2, (World.cell?_setCell_other _ _ _ _ (by simp)).trans h.c3,
   (World.frozen?_setCell _ _ _ _).trans h.f0, (World.frozen?_setCell _ _ _ _).trans h.f1, (World.frozen?_setCell _ _ _ _).trans h.f2, (World.frozen?_setCell _ _ _ _).trans h.f3, by simpa [World.setCell] using h.lt⟩
theorem At4.p3 {w : World} {b : Nat} {x y z u : Value} (h : At4 w b x y z u) (v : Value) : At4 (w.setCell ⟨b, 3, none⟩ v) b x y z v :=
  ⟨(World.cell?_setCell_other _ _ _ _ (by simp)).trans h.c0, (World.cell?_setCell_other _ _ _ _ (by simp)).trans h.c1, (World.cell?_setCell_other _ _ _ _ (by simp)).trans h.c2, World.cell?_setCell_same _ _ _ h.c3,
   (World.frozen?_setCell _ _ _ _).trans h.f0, (World.frozen?_setCell _ _ _ _).trans h.f1, (World.frozen?_setCell _ _ _ _).trans h.f2, (World.frozen?_setCell _ _ _ _).trans h.f3, by simpa [World.setCell] using h.lt⟩
theorem At2.off' {w : World} {b c k : Nat} {x y : Value} (h : At2 w b x y) (hne : b ≠ c) (v : Value) : At2 (w.setCell ⟨c, k, none⟩ v) b x y :=
  ⟨(World.cell?_setCell_other _ _ _ _ (by simp; try omega)).trans h.c0, (World.cell?_setCell_other _ _ _ _ (by simp; try omega)).trans h.c1, (World.frozen?_setCell _ _ _ _).trans h.f0, (World.frozen?_setCell _ _ _ _).trans h.f1, by simpa [World.setCell] using h.lt⟩
/-- a number in memory, away from a block -/
theorem nz_far {w : World} {A : Option Addr} {n c : Nat} {g : Bool} {z : Int} (h : wd2.NZ w A n c g z) {b k : Nat} (hp : ∀ ad, A = some ad → ad.block ≠ b) (u : Value) : wd2.NZ (w.setCell ⟨b, k, none⟩ u) A n c g z := ⟨h.dig.far ⟨b, k, none⟩ hp u, h.sgn⟩
theorem nz_old {w : World} {A : Option Addr} {n c : Nat} {g : Bool} {z : Int} (h : wd2.NZ w A n c g z) {b : Nat} (hb : w.heap.size ≤ b) : ∀ ad, A = some ad → ad.block ≠ b := fun ad e => by
  obtain ⟨g, rfl, hg, -⟩ := h.dig.at_ ad e
  show g ≠ b
  omega
theorem fr_ne {w : World} {A : Option Addr} (h : wd2.Fr w A) {b : Nat} (hb : b < w.heap.size) : ∀ ad, A = some ad → ad.block ≠ b := fun ad e => by
  have := h ad e
  omega
/-- a box: two numbers -/
def Bx (w : World) (v : Value) (l h : Int) : Prop := ∃ (A : Option Addr) (n c : Nat) (g : Bool) (B : Option Addr) (m d : Nat) (k : Bool), v = .agg #[.slice A n c, .bool g, .slice B m d, .bool k] ∧ wd2.NZ w A n c g l ∧ wd2.NZ w B m d k h
theorem Bx.keep {w w' : World} {v : Value} {l h : Int} (b : Bx w v l h) (hb : Below w.heap.size w w') : Bx w' v l h := by
  obtain ⟨A, n, c, g, B, m, d, k, e, h1, h2⟩ := b
  exact ⟨A, n, c, g, B, m, d, k, e, h1.keep hb, h2.keep hb⟩
theorem Bx.dr {w : World} {v : Value} {l h : Int} (b : Bx w v l h) : Bx w.drew v l h := b.keep (Below.refl _ _).drew
/-- what a function that returns a box leaves behind -/
def RetB (w : World) (l h : Int) (e : Ending) (w' : World) : Prop := ∃ (A : Option Addr) (n c : Nat) (g : Bool) (B : Option Addr) (m d : Nat) (k : Bool), e = .returned (.agg #[.slice A n c, .bool g, .slice B m d, .bool k]) ∧ wd2.NZ w' A n c g l ∧ wd2.NZ w' B m d k h ∧ wd2.Fr w A ∧ wd2.Fr w B ∧ Below w.heap.size w w'

theorem wide_any (z : Int) (w : World) (h1 : -9223372036854775808 ≤ z) (h2 : z ≤ 9223372036854775807) :
    Calls Tryd.prog 43 #[.int .i64 z] w (wd2.RetZ w z) := by
  have C0 := Lib.hid (fun (wx : World) => wd2.ofint_any z wx h1 h2)
  have R := At2.new w (.slice none 0 0) (.bool false) 42
  have HB := Lib.hid (below1 w (.cells #[.slice none 0 0, .bool false] 42))
  go_enter Tryd.func43, Tryd.ntmps43
  go_wp2_with fail
  refine (C0.out _).mono ?_
  rintro e w1 ⟨A, n, c, g, rfl, hN, hF, hb⟩
  have R := R.keep hb
  have HB := Lib.hid (bstep HB.out hb)
  have far := fr_ne hF (show w.heap.size < (w.alloc (.cells #[.slice none 0 0, .bool false] 42)).heap.size by simp)
  clear hb
  obtain ⟨R0, R1, R2, R3, -⟩ := id R
  obtain ⟨z0, z1⟩ := set2 R0 R1 (.slice A n c) (.bool g)
  go_wp2_with fail
  refine bodyPost_ret (v := .agg #[.slice A n c, .bool g]) (by simp [results, Tryd.results43, go_sem, z0, z1]) rfl ⟨A, n, c, g, rfl, nz_far (nz_far hN far _) far _, fun ad e => ?_, below_set2 HB.out (Nat.le_refl _) _ _⟩
  have := hF ad e
  simp at this
  omega

theorem below_four {w w' : World} {n b : Nat} (h : Below n w w') (hn : n ≤ b) (x y z u : Value) : Below n w ((((w'.setCell ⟨b, 0, none⟩ x).setCell ⟨b, 1, none⟩ y).setCell ⟨b, 2, none⟩ z).setCell ⟨b, 3, none⟩ u) := (((h.setCell hn x).setCell hn y).setCell hn z).setCell hn u
theorem nz_four {w : World} {A : Option Addr} {n c : Nat} {g : Bool} {z : Int} (h : wd2.NZ w A n c g z) {b : Nat} (hp : ∀ ad, A = some ad → ad.block ≠ b) (x y z' u : Value) : wd2.NZ ((((w.setCell ⟨b, 0, none⟩ x).setCell ⟨b, 1, none⟩ y).setCell ⟨b, 2, none⟩ z').setCell ⟨b, 3, none⟩ u) A n c g z := nz_far (nz_far (nz_far (nz_far h hp x) hp y) hp z') hp u

theorem of_any (l h : Int) (w : World) (l1 : -9223372036854775808 ≤ l) (l2 : l ≤ 9223372036854775807) (h1 : -9223372036854775808 ≤ h) (h2 : h ≤ 9223372036854775807) :
    Calls Tryd.prog 30 #[.agg #[.int .i64 l, .int .i64 h]] w (RetB w l h) := by
  have K0 := Lib.hid (fun (wx : World) => wide_any l wx l1 l2)
  have K1 := Lib.hid (fun (wx : World) => wide_any h wx h1 h2)
  have A := (At2.new w (.int .i64 l) (.int .i64 h) 25).alloc (.cells #[.slice none 0 0, .bool false, .slice none 0 0, .bool false] 44)
  have R := At4.new (w.alloc (.cells #[.int .i64 l, .int .i64 h] 25)) (.slice none 0 0) (.bool false) (.slice none 0 0) (.bool false) 44
  simp at R
  have HB := Lib.hid (below2 w (.cells #[.int .i64 l, .int .i64 h] 25) (.cells #[.slice none 0 0, .bool false, .slice none 0 0, .bool false] 44))
  obtain ⟨A0, A1, -, -, -⟩ := id A
  go_enter Tryd.func30, Tryd.ntmps30
  go_upto_region 1 with fail
  generalize (w.alloc (.cells #[.int .i64 l, .int .i64 h] 25)).alloc (.cells #[.slice none 0 0, .bool false, .slice none 0 0, .bool false] 44) = W at *
  have sR := R.lt
  have za : ¬ w.heap.size = w.heap.size + 1 := by omega
  go_region_held3 (fun w' => w'.cell? ⟨w.heap.size, 0, none⟩ = some (.int .i64 l) ∧ w'.cell? ⟨w.heap.size, 1, none⟩ = some (.int .i64 h)) (go_keep)
    (first
    | (go_at_call 43; ((with_reducible refine (K0.out _).mono ?_)); rintro e v ⟨D1, n1, c1, g1, rfl, N1, F1, hb⟩; (try (replace hb := bdrew hb)); have f1 := fr_ne F1 sR; have u1 : wd2.Fr w D1 := wd2.Fr.under F1 HB.out.size; clear A0 A1; have A := A.keep hb; have R := R.keep hb; have sR := R.lt; have HB := Lib.hid (bstep HB.out hb); obtain ⟨A0, A1, -, -, -⟩ := id A; obtain ⟨R0, R1, R2, R3, R4, R5, R6, R7, -⟩ := id R; clear hb)
    | (go_at_call 43; ((with_reducible refine (K1.out _).mono ?_)); rintro e v ⟨D2, n2, c2, g2, rfl, N2, F2, hb⟩; (try (replace hb := bdrew hb)); have f2 := fr_ne F2 sR; have u2 : wd2.Fr w D2 := wd2.Fr.under F2 HB.out.size; have N1 := N1.keep hb; clear A0 A1 R0 R1 R2 R3 R4 R5 R6 R7; have A := A.keep hb; have R := R.keep hb; have sR := R.lt; have HB := Lib.hid (bstep HB.out hb); obtain ⟨A0, A1, -, -, -⟩ := id A; obtain ⟨R0, R1, R2, R3, R4, R5, R6, R7, -⟩ := id R; clear hb))
  have r0 := R.p0 (.slice D1 n1 c1)
  have r1 := r0.p1 (.bool g1)
  have r2 := r1.p2 (.slice D2 n2 c2)
  have r3 := r2.p3 (.bool g2)
  have z0 := r0.c0
  have z1 := r1.c1
  have z2 := r2.c2
  have z3 := r3.c3
  go_wp2_with fail
  refine bodyPost_ret (v := .agg #[.slice D1 n1 c1, .bool g1, .slice D2 n2 c2, .bool g2]) (by simp [results, Tryd.results30, go_sem, z0, z1, z2, z3]) rfl ⟨_, _, _, _, _, _, _, _, rfl, ?_, ?_, u1, u2, ?_⟩
  · exact nz_four N1 f1 _ _ _ _
  · exact nz_four N2 f2 _ _ _ _
  · exact below_four HB.out (by omega) _ _ _ _

theorem one_any (z : Int) (w : World) (h1 : -9223372036854775808 ≤ z) (h2 : z ≤ 9223372036854775807) :
    Calls Tryd.prog 27 #[.int .i64 z] w (RetB w z z) := by
  have K0 := Lib.hid (fun (wx : World) => wide_any z wx h1 h2)
  have R := At4.new w (.slice none 0 0) (.bool false) (.slice none 0 0) (.bool false) 44
  have HB := Lib.hid (below1 w (.cells #[.slice none 0 0, .bool false, .slice none 0 0, .bool false] 44))
  go_enter Tryd.func27, Tryd.ntmps27
  go_wp2_with fail
  have sR := R.lt
  refine (K0.out _).mono ?_
  rintro e v ⟨D1, n1, c1, g1, rfl, N1, F1, hb⟩
  have f1 := fr_ne F1 sR
  have u1 : wd2.Fr w D1 := wd2.Fr.under F1 HB.out.size
  have R := R.keep hb
  have sR := R.lt
  have HB := Lib.hid (bstep HB.out hb)
  clear hb
  go_wp2_with fail
  refine (K0.out _).mono ?_
  rintro e v2 ⟨D2, n2, c2, g2, rfl, N2, F2, hb⟩
  have f2 := fr_ne F2 sR
  have u2 : wd2.Fr w D2 := wd2.Fr.under F2 HB.out.size
  have N1 := N1.keep hb
  have R := R.keep hb
  have HB := Lib.hid (bstep HB.out hb)
  clear hb
  obtain ⟨R0, R1, R2, R3, R4, R5, R6, R7, -⟩ := id R
  have r0 := R.p0 (.slice D1 n1 c1)
  have r1 := r0.p1 (.bool g1)
  have r2 := r1.p2 (.slice D2 n2 c2)
  have r3 := r2.p3 (.bool g2)
  have z0 := r0.c0
  have z1 := r1.c1
  have z2 := r2.c2
  have z3 := r3.c3
  go_wp2_with fail
  refine bodyPost_ret (v := .agg #[.slice D1 n1 c1, .bool g1, .slice D2 n2 c2, .bool g2]) (by simp [results, Tryd.results27, go_sem, z0, z1, z2, z3]) rfl ⟨_, _, _, _, _, _, _, _, rfl, ?_, ?_, u1, u2, ?_⟩
  · exact nz_four N1 f1 _ _ _ _
  · exact nz_four N2 f2 _ _ _ _
  · exact below_four HB.out (Nat.le_refl _) _ _ _ _

theorem plus_any (v1 v2 : Value) (l h l' h' : Int) (w : World) (b1 : Bx w v1 l h) (b2 : Bx w v2 l' h') (s1 : wd2.Sm l) (s2 : wd2.Sm h) (s3 : wd2.Sm l') (s4 : wd2.Sm h') :
    Calls Tryd.prog 29 #[v1, v2] w (RetB w (l + l') (h + h')) := by
  obtain ⟨A1, na1, ca1, ga1, B1, nb1, cb1, gb1, rfl, L1, H1⟩ := b1
  obtain ⟨A2, na2, ca2, ga2, B2, nb2, cb2, gb2, rfl, L2, H2⟩ := b2
  have K0 := Lib.hid (fun (wx : World) (hb : Below w.heap.size w wx) => wd2.plus_any A1 A2 na1 ca1 na2 ca2 ga1 ga2 l l' wx (L1.keep hb) (L2.keep hb) s1 s3)
  have K1 := Lib.hid (fun (wx : World) (hb : Below w.heap.size w wx) => wd2.plus_any B1 B2 nb1 cb1 nb2 cb2 gb1 gb2 h h' wx (H1.keep hb) (H2.keep hb) s2 s4)
  clear L1 H1 L2 H2 s1 s2 s3 s4
  have P := At4.new w (.slice A1 na1 ca1) (.bool ga1) (.slice B1 nb1 cb1) (.bool gb1) 44
  have P := P.alloc (.cells #[.slice A2 na2 ca2, .bool ga2, .slice B2 nb2 cb2, .bool gb2] 44)
  have Q := At4.new (w.alloc (.cells #[.slice A1 na1 ca1, .bool ga1, .slice B1 nb1 cb1, .bool gb1] 44)) (.slice A2 na2 ca2) (.bool ga2) (.slice B2 nb2 cb2) (.bool gb2) 44
  have HB := Lib.hid (below2 w (.cells #[.slice A1 na1 ca1, .bool ga1, .slice B1 nb1 cb1, .bool gb1] 44) (.cells #[.slice A2 na2 ca2, .bool ga2, .slice B2 nb2 cb2, .bool gb2] 44))
  have P := P.alloc (.cells #[.slice none 0 0, .bool false, .slice none 0 0, .bool false] 44)
  have Q := Q.alloc (.cells #[.slice none 0 0, .bool false, .slice none 0 0, .bool false] 44)
  have R := At4.new ((w.alloc (.cells #[.slice A1 na1 ca1, .bool ga1, .slice B1 nb1 cb1, .bool gb1] 44)).alloc (.cells #[.slice A2 na2 ca2, .bool ga2, .slice B2 nb2 cb2, .bool gb2] 44)) (.slice none 0 0) (.bool false) (.slice none 0 0) (.bool false) 44
  have HB := Lib.hid (bstep HB.out (below1 ((w.alloc (.cells #[.slice A1 na1 ca1, .bool ga1, .slice B1 nb1 cb1, .bool gb1] 44)).alloc (.cells #[.slice A2 na2 ca2, .bool ga2, .slice B2 nb2 cb2, .bool gb2] 44)) (.cells #[.slice none 0 0, .bool false, .slice none 0 0, .bool false] 44)))
  simp at Q R
  have lP := P.lt
  obtain ⟨P0, P1, P2, P3, -⟩ := id P
  obtain ⟨Q0, Q1, Q2, Q3, -⟩ := id Q
  go_enter Tryd.func29, Tryd.ntmps29
  go_upto_region 1 with fail
  generalize ((w.alloc (.cells #[.slice A1 na1 ca1, .bool ga1, .slice B1 nb1 cb1, .bool gb1] 44)).alloc (.cells #[.slice A2 na2 ca2, .bool ga2, .slice B2 nb2 cb2, .bool gb2] 44)).alloc (.cells #[.slice none 0 0, .bool false, .slice none 0 0, .bool false] 44) = W at *
  have sR := R.lt
  have za : ¬ w.heap.size = w.heap.size + 1 + 1 := by omega
  have zb : ¬ w.heap.size + 1 = w.heap.size + 1 + 1 := by omega
  have ya : ¬ w.heap.size + 1 + 1 = w.heap.size := by omega
  have yb : ¬ w.heap.size + 1 + 1 = w.heap.size + 1 := by omega
  go_region_held3 (fun w' => w'.cell? ⟨w.heap.size, 0, none⟩ = some (.slice A1 na1 ca1) ∧ w'.cell? ⟨w.heap.size, 1, none⟩ = some (.bool ga1) ∧ w'.cell? ⟨w.heap.size, 2, none⟩ = some (.slice B1 nb1 cb1) ∧ w'.cell? ⟨w.heap.size, 3, none⟩ = some (.bool gb1) ∧ w'.cell? ⟨w.heap.size + 1, 0, none⟩ = some (.slice A2 na2 ca2) ∧ w'.cell? ⟨w.heap.size + 1, 1, none⟩ = some (.bool ga2) ∧ w'.cell? ⟨w.heap.size + 1, 2, none⟩ = some (.slice B2 nb2 cb2) ∧ w'.cell? ⟨w.heap.size + 1, 3, none⟩ = some (.bool gb2)) (go_keep)
    (first
    | (go_at_call 44; ((with_reducible refine (K0.out _ (by first | exact HB.out | exact HB.out.drew)).mono ?_)); rintro e v ⟨D1, n1, c1, g1, rfl, N1, F1, hb⟩; (try (replace hb := bdrew hb)); have f1 := fr_ne F1 sR; have u1 : wd2.Fr w D1 := wd2.Fr.under F1 HB.out.size; clear P0 P1 P2 P3 Q0 Q1 Q2 Q3; have P := P.keep hb; have Q := Q.keep hb; (try (clear R0 R1 R2 R3 R4 R5 R6 R7)); have R := R.keep hb; have sR := R.lt; have HB := Lib.hid (bstep HB.out hb); obtain ⟨P0, P1, P2, P3, -⟩ := id P; obtain ⟨Q0, Q1, Q2, Q3, -⟩ := id Q; obtain ⟨R0, R1, R2, R3, R4, R5, R6, R7, -⟩ := id R; clear hb)
    | (go_at_call 44; ((with_reducible refine (K1.out _ (by first | exact HB.out | exact HB.out.drew)).mono ?_)); rintro e v ⟨D2, n2, c2, g2, rfl, N2, F2, hb⟩; (try (replace hb := bdrew hb)); have f2 := fr_ne F2 sR; have u2 : wd2.Fr w D2 := wd2.Fr.under F2 HB.out.size; have N1 := N1.keep hb; clear P0 P1 P2 P3 Q0 Q1 Q2 Q3; have P := P.keep hb; have Q := Q.keep hb; (try (clear R0 R1 R2 R3 R4 R5 R6 R7)); have R := R.keep hb; have sR := R.lt; have HB := Lib.hid (bstep HB.out hb); obtain ⟨P0, P1, P2, P3, -⟩ := id P; obtain ⟨Q0, Q1, Q2, Q3, -⟩ := id Q; obtain ⟨R0, R1, R2, R3, R4, R5, R6, R7, -⟩ := id R; clear hb))
  have r0 := R.p0 (.slice D1 n1 c1)
  have r1 := r0.p1 (.bool g1)
  have r2 := r1.p2 (.slice D2 n2 c2)
  have r3 := r2.p3 (.bool g2)
  have z0 := r0.c0
  have z1 := r1.c1
  have z2 := r2.c2
  have z3 := r3.c3
  go_wp2_with fail
  refine bodyPost_ret (v := .agg #[.slice D1 n1 c1, .bool g1, .slice D2 n2 c2, .bool g2]) (by simp [results, Tryd.results29, go_sem, z0, z1, z2, z3]) rfl ⟨_, _, _, _, _, _, _, _, rfl, ?_, ?_, u1, u2, ?_⟩
  · exact nz_four N1 f1 _ _ _ _
  · exact nz_four N2 f2 _ _ _ _
  · exact below_four HB.out (show w.heap.size ≤ w.heap.size + 1 + 1 by omega) _ _ _ _

theorem sgn_le (z : Int) (h : z ≤ 0) : wd2.sgn z ≤ 0 ∧ -1 ≤ wd2.sgn z := by unfold wd2.sgn; split <;> (try split) <;> omega
theorem meet_any (v1 v2 : Value) (l h l' h' : Int) (w : World) (b1 : Bx w v1 l h) (b2 : Bx w v2 l' h') (s1 : wd2.Sm l) (s2 : wd2.Sm h) (s3 : wd2.Sm l') (s4 : wd2.Sm h') (m1 : l ≤ h') (m2 : l' ≤ h) :
    Calls Tryd.prog 28 #[v1, v2] w fun e w' => e = .returned (.bool true) ∧ Below w.heap.size w w' := by
  obtain ⟨A1, na1, ca1, ga1, B1, nb1, cb1, gb1, rfl, L1, H1⟩ := b1
  obtain ⟨A2, na2, ca2, ga2, B2, nb2, cb2, gb2, rfl, L2, H2⟩ := b2
  have K0 := Lib.hid (fun (wx : World) (hb : Below w.heap.size w wx) => wd2.compare_num A1 B2 na1 ca1 nb2 cb2 ga1 gb2 l h' wx (L1.keep hb) (H2.keep hb) s1 s4)
  have K1 := Lib.hid (fun (wx : World) (hb : Below w.heap.size w wx) => wd2.compare_num A2 B1 na2 ca2 nb1 cb1 ga2 gb1 l' h wx (L2.keep hb) (H1.keep hb) s3 s2)
  obtain ⟨q1, -⟩ := sgn_le (l - h') (by omega)
  obtain ⟨q2, -⟩ := sgn_le (l' - h) (by omega)
  generalize wd2.sgn (l - h') = x at *
  generalize wd2.sgn (l' - h) = y at *
  clear L1 H1 L2 H2 s1 s2 s3 s4 m1 m2
  have P := At4.new w (.slice A1 na1 ca1) (.bool ga1) (.slice B1 nb1 cb1) (.bool gb1) 44
  have P := P.alloc (.cells #[.slice A2 na2 ca2, .bool ga2, .slice B2 nb2 cb2, .bool gb2] 44)
  have Q := At4.new (w.alloc (.cells #[.slice A1 na1 ca1, .bool ga1, .slice B1 nb1 cb1, .bool gb1] 44)) (.slice A2 na2 ca2) (.bool ga2) (.slice B2 nb2 cb2) (.bool gb2) 44
  have HB := Lib.hid (below2 w (.cells #[.slice A1 na1 ca1, .bool ga1, .slice B1 nb1 cb1, .bool gb1] 44) (.cells #[.slice A2 na2 ca2, .bool ga2, .slice B2 nb2 cb2, .bool gb2] 44))
  simp at Q
  have lP := P.lt
  obtain ⟨P0, P1, P2, P3, -⟩ := id P
  obtain ⟨Q0, Q1, Q2, Q3, -⟩ := id Q
  go_enter Tryd.func28, Tryd.ntmps28
  go_wp2_with fail
  refine (K0.out _ HB.out).mono ?_
  rintro e v ⟨rfl, hb⟩
  clear P0 P1 P2 P3 Q0 Q1 Q2 Q3
  have P := P.keep hb
  have Q := Q.keep hb
  have HB := Lib.hid (bstep HB.out hb)
  clear hb
  obtain ⟨P0, P1, P2, P3, -⟩ := id P
  obtain ⟨Q0, Q1, Q2, Q3, -⟩ := id Q
  go_wp2_with fail
  refine (K1.out _ HB.out).mono ?_
  rintro e v' ⟨rfl, hb⟩
  have HB := Lib.hid (bstep HB.out hb)
  clear hb
  go_wp2_with fail
  go_ret
  exact ⟨rfl, HB.out⟩

theorem minus_box (v1 v2 : Value) (l h l' h' : Int) (w : World) (b1 : Bx w v1 l h) (b2 : Bx w v2 l' h') (s1 : wd2.Sm l) (s2 : wd2.Sm h) (s3 : wd2.Sm l') (s4 : wd2.Sm h') :
    Calls Tryd.prog 31 #[v1, v2] w (RetB w (l - h') (h - l')) := by
  obtain ⟨A1, na1, ca1, ga1, B1, nb1, cb1, gb1, rfl, L1, H1⟩ := b1
  obtain ⟨A2, na2, ca2, ga2, B2, nb2, cb2, gb2, rfl, L2, H2⟩ := b2
  obtain ⟨k1, hk1⟩ : ∃ k1, k1 = decide (-h' < 0) := ⟨_, rfl⟩
  obtain ⟨k2, hk2⟩ : ∃ k2, k2 = decide (-l' < 0) := ⟨_, rfl⟩
  have K0 := Lib.hid (fun (wx : World) (hb : Below w.heap.size w wx) => wd2.minus_any B2 nb2 cb2 gb2 k1 h' wx (H2.keep hb) hk1)
  have K1 := Lib.hid (fun (wx : World) (hb : Below w.heap.size w wx) => wd2.minus_any A2 na2 ca2 ga2 k2 l' wx (L2.keep hb) hk2)
  have K2 : Hid (∀ wx, Below w.heap.size w wx → Calls Tryd.prog 29 #[.agg #[.slice A1 na1 ca1, .bool ga1, .slice B1 nb1 cb1, .bool gb1], .agg #[.slice B2 nb2 cb2, .bool k1, .slice A2 na2 ca2, .bool k2]] wx (RetB wx (l - h') (h - l'))) := by
    intro wx hb
    have p := plus_any (.agg #[.slice A1 na1 ca1, .bool ga1, .slice B1 nb1 cb1, .bool gb1]) (.agg #[.slice B2 nb2 cb2, .bool k1, .slice A2 na2 ca2, .bool k2]) l h (-h') (-l') wx ⟨_, _, _, _, _, _, _, _, rfl, L1.keep hb, H1.keep hb⟩
      ⟨_, _, _, _, _, _, _, _, rfl, ⟨by rw [Int.natAbs_neg]; exact H2.dig.keep hb, hk1⟩, ⟨by rw [Int.natAbs_neg]; exact L2.dig.keep hb, hk2⟩⟩ s1 s2 s4.neg s3.neg
    rw [← Int.sub_eq_add_neg, ← Int.sub_eq_add_neg] at p
    exact p
  clear hk1 hk2 L1 H1 L2 H2 s1 s2 s3 s4
  have P := At4.new w (.slice A1 na1 ca1) (.bool ga1) (.slice B1 nb1 cb1) (.bool gb1) 44
  have P := P.alloc (.cells #[.slice A2 na2 ca2, .bool ga2, .slice B2 nb2 cb2, .bool gb2] 44)
  have Q := At4.new (w.alloc (.cells #[.slice A1 na1 ca1, .bool ga1, .slice B1 nb1 cb1, .bool gb1] 44)) (.slice A2 na2 ca2) (.bool ga2) (.slice B2 nb2 cb2) (.bool gb2) 44
  have HB := Lib.hid (below2 w (.cells #[.slice A1 na1 ca1, .bool ga1, .slice B1 nb1 cb1, .bool gb1] 44) (.cells #[.slice A2 na2 ca2, .bool ga2, .slice B2 nb2 cb2, .bool gb2] 44))
  have P := P.alloc (.cells #[.slice none 0 0, .bool false, .slice none 0 0, .bool false] 44)
  have Q := Q.alloc (.cells #[.slice none 0 0, .bool false, .slice none 0 0, .bool false] 44)
  have R := At4.new ((w.alloc (.cells #[.slice A1 na1 ca1, .bool ga1, .slice B1 nb1 cb1, .bool gb1] 44)).alloc (.cells #[.slice A2 na2 ca2, .bool ga2, .slice B2 nb2 cb2, .bool gb2] 44)) (.slice none 0 0) (.bool false) (.slice none 0 0) (.bool false) 44
  have HB := Lib.hid (bstep HB.out (below1 ((w.alloc (.cells #[.slice A1 na1 ca1, .bool ga1, .slice B1 nb1 cb1, .bool gb1] 44)).alloc (.cells #[.slice A2 na2 ca2, .bool ga2, .slice B2 nb2 cb2, .bool gb2] 44)) (.cells #[.slice none 0 0, .bool false, .slice none 0 0, .bool false] 44)))
  simp at Q R
  have lP := P.lt
  obtain ⟨P0, P1, P2, P3, -⟩ := id P
  obtain ⟨Q0, Q1, Q2, Q3, -⟩ := id Q
  go_enter Tryd.func31, Tryd.ntmps31
  go_upto_region 1 with fail
  generalize ((w.alloc (.cells #[.slice A1 na1 ca1, .bool ga1, .slice B1 nb1 cb1, .bool gb1] 44)).alloc (.cells #[.slice A2 na2 ca2, .bool ga2, .slice B2 nb2 cb2, .bool gb2] 44)).alloc (.cells #[.slice none 0 0, .bool false, .slice none 0 0, .bool false] 44) = W at *
  have sR := R.lt
  have za : ¬ w.heap.size = w.heap.size + 1 + 1 := by omega
  have zb : ¬ w.heap.size + 1 = w.heap.size + 1 + 1 := by omega
  have ya : ¬ w.heap.size + 1 + 1 = w.heap.size := by omega
  have yb : ¬ w.heap.size + 1 + 1 = w.heap.size + 1 := by omega
  go_region_held3 (fun w' => w'.cell? ⟨w.heap.size, 0, none⟩ = some (.slice A1 na1 ca1) ∧ w'.cell? ⟨w.heap.size, 1, none⟩ = some (.bool ga1) ∧ w'.cell? ⟨w.heap.size, 2, none⟩ = some (.slice B1 nb1 cb1) ∧ w'.cell? ⟨w.heap.size, 3, none⟩ = some (.bool gb1) ∧ w'.cell? ⟨w.heap.size + 1, 0, none⟩ = some (.slice A2 na2 ca2) ∧ w'.cell? ⟨w.heap.size + 1, 1, none⟩ = some (.bool ga2) ∧ w'.cell? ⟨w.heap.size + 1, 2, none⟩ = some (.slice B2 nb2 cb2) ∧ w'.cell? ⟨w.heap.size + 1, 3, none⟩ = some (.bool gb2)) (go_keep)
    (first
    | (go_at_call 45; ((with_reducible refine (K0.out _ (by first | exact HB.out | exact HB.out.drew)).mono ?_)); rintro e v ⟨rfl, hb⟩; (try (replace hb := bdrew hb)); clear P0 P1 P2 P3 Q0 Q1 Q2 Q3; have P := P.keep hb; have Q := Q.keep hb; (try (clear R0 R1 R2 R3 R4 R5 R6 R7)); have R := R.keep hb; have sR := R.lt; have HB := Lib.hid (bstep HB.out hb); obtain ⟨P0, P1, P2, P3, -⟩ := id P; obtain ⟨Q0, Q1, Q2, Q3, -⟩ := id Q; obtain ⟨R0, R1, R2, R3, R4, R5, R6, R7, -⟩ := id R; clear hb)
    | (go_at_call 45; ((with_reducible refine (K1.out _ (by first | exact HB.out | exact HB.out.drew)).mono ?_)); rintro e v ⟨rfl, hb⟩; (try (replace hb := bdrew hb)); clear P0 P1 P2 P3 Q0 Q1 Q2 Q3; have P := P.keep hb; have Q := Q.keep hb; (try (clear R0 R1 R2 R3 R4 R5 R6 R7)); have R := R.keep hb; have sR := R.lt; have HB := Lib.hid (bstep HB.out hb); obtain ⟨P0, P1, P2, P3, -⟩ := id P; obtain ⟨Q0, Q1, Q2, Q3, -⟩ := id Q; obtain ⟨R0, R1, R2, R3, R4, R5, R6, R7, -⟩ := id R; clear hb)
    | (go_at_call 29; ((with_reducible refine (K2.out _ (by first | exact HB.out | exact HB.out.drew)).mono ?_)); rintro e v ⟨D1, n1, c1, g1, D2, n2, c2, g2, rfl, N1, N2, F1, F2, hb⟩; (try (replace hb := bdrew hb)); have f1 := fr_ne F1 sR; have f2 := fr_ne F2 sR; have u1 : wd2.Fr w D1 := wd2.Fr.under F1 HB.out.size; have u2 : wd2.Fr w D2 := wd2.Fr.under F2 HB.out.size; clear P0 P1 P2 P3 Q0 Q1 Q2 Q3; have P := P.keep hb; have Q := Q.keep hb; (try (clear R0 R1 R2 R3 R4 R5 R6 R7)); have R := R.keep hb; have sR := R.lt; have HB := Lib.hid (bstep HB.out hb); obtain ⟨P0, P1, P2, P3, -⟩ := id P; obtain ⟨Q0, Q1, Q2, Q3, -⟩ := id Q; obtain ⟨R0, R1, R2, R3, R4, R5, R6, R7, -⟩ := id R; clear hb))
  have r0 := R.p0 (.slice D1 n1 c1)
  have r1 := r0.p1 (.bool g1)
  have r2 := r1.p2 (.slice D2 n2 c2)
  have r3 := r2.p3 (.bool g2)
  have z0 := r0.c0
  have z1 := r1.c1
  have z2 := r2.c2
  have z3 := r3.c3
  go_wp2_with fail
  refine bodyPost_ret (v := .agg #[.slice D1 n1 c1, .bool g1, .slice D2 n2 c2, .bool g2]) (by simp [results, Tryd.results31, go_sem, z0, z1, z2, z3]) rfl ⟨_, _, _, _, _, _, _, _, rfl, ?_, ?_, u1, u2, ?_⟩
  · exact nz_four N1 f1 _ _ _ _
  · exact nz_four N2 f2 _ _ _ _
  · exact below_four HB.out (show w.heap.size ≤ w.heap.size + 1 + 1 by omega) _ _ _ _
end Go.Proofs.YtglmkpnnbgkndaaDoor

/- TrigSquares, TrigSums: the law's products of boxes. -/
namespace Go.Proofs.YtglmkpnnbgkndaaDoor
open Go.RowKit
set_option linter.unusedVariables false
set_option maxRecDepth 100000

/-- one of two -/
def pk (a b : Int) (i : Nat) : Int := if i = 0 then a else b
/-- the products, in the order of the loops -/
def pv (l h l' h' : Int) (i k : Nat) : Int := pk l h i * pk l' h' k
def tL (l h l' h' : Int) : Nat → Nat → Int
  | 0, 0 => 0
  | 0, 1 => l * l'
  | 0, _ => min (l * l') (l * h')
  | 1, 0 => min (l * l') (l * h')
  | 1, 1 => min (min (l * l') (l * h')) (h * l')
  | _, _ => min (min (min (l * l') (l * h')) (h * l')) (h * h')
def tH (l h l' h' : Int) : Nat → Nat → Int
  | 0, 0 => 0
  | 0, 1 => l * l'
  | 0, _ => max (l * l') (l * h')
  | 1, 0 => max (l * l') (l * h')
  | 1, 1 => max (max (l * l') (l * h')) (h * l')
  | _, _ => max (max (max (l * l') (l * h')) (h * l')) (h * h')
theorem tL_end (l h l' h' : Int) : tL l h l' h' 2 0 = mulL l h l' h' ∧ tH l h l' h' 2 0 = mulH l h l' h' := by
  show min (min (min (l * l') (l * h')) (h * l')) (h * h') = mulL l h l' h' ∧ max (max (max (l * l') (l * h')) (h * l')) (h * h') = mulH l h l' h'
  unfold mulL mulH
  omega
theorem t_next (l h l' h' : Int) (i : Nat) (hi : i < 2) : tL l h l' h' i 2 = tL l h l' h' (i + 1) 0 ∧ tH l h l' h' i 2 = tH l h l' h' (i + 1) 0 := by
  rcases (show i = 0 ∨ i = 1 by omega) with rfl | rfl <;> exact ⟨rfl, rfl⟩
theorem t_first (l h l' h' : Int) : tL l h l' h' 0 1 = pv l h l' h' 0 0 ∧ tH l h l' h' 0 1 = pv l h l' h' 0 0 := ⟨rfl, rfl⟩
theorem t_step (l h l' h' : Int) (i k : Nat) (hi : i < 2) (hk : k < 2) (nz : i + k ≠ 0) :
    (pv l h l' h' i k < tL l h l' h' i k → tL l h l' h' i (k + 1) = pv l h l' h' i k) ∧ (¬ pv l h l' h' i k < tL l h l' h' i k → tL l h l' h' i (k + 1) = tL l h l' h' i k) ∧
    (tH l h l' h' i k < pv l h l' h' i k → tH l h l' h' i (k + 1) = pv l h l' h' i k) ∧ (¬ tH l h l' h' i k < pv l h l' h' i k → tH l h l' h' i (k + 1) = tH l h l' h' i k) := by
  rcases (show i = 0 ∧ k = 1 ∨ i = 1 ∧ k = 0 ∨ i = 1 ∧ k = 1 by omega) with ⟨rfl, rfl⟩ | ⟨rfl, rfl⟩ | ⟨rfl, rfl⟩
  · show (l * h' < l * l' → min (l * l') (l * h') = l * h') ∧ (¬ l * h' < l * l' → min (l * l') (l * h') = l * l') ∧ (l * l' < l * h' → max (l * l') (l * h') = l * h') ∧ (¬ l * l' < l * h' → max (l * l') (l * h') = l * l')
    omega
  · show (h * l' < min (l * l') (l * h') → min (min (l * l') (l * h')) (h * l') = h * l') ∧ (¬ h * l' < min (l * l') (l * h') → min (min (l * l') (l * h')) (h * l') = min (l * l') (l * h')) ∧ (max (l * l') (l * h') < h * l' → max (max (l * l') (l * h')) (h * l') = h * l') ∧ (¬ max (l * l') (l * h') < h * l' → max (max (l * l') (l * h')) (h * l') = max (l * l') (l * h'))
    omega
  · show (h * h' < min (min (l * l') (l * h')) (h * l') → min (min (min (l * l') (l * h')) (h * l')) (h * h') = h * h') ∧ (¬ h * h' < min (min (l * l') (l * h')) (h * l') → min (min (min (l * l') (l * h')) (h * l')) (h * h') = min (min (l * l') (l * h')) (h * l')) ∧ (max (max (l * l') (l * h')) (h * l') < h * h' → max (max (max (l * l') (l * h')) (h * l')) (h * h') = h * h') ∧ (¬ max (max (l * l') (l * h')) (h * l') < h * h' → max (max (max (l * l') (l * h')) (h * l')) (h * h') = max (max (l * l') (l * h')) (h * l'))
    omega
theorem t_sm (l h l' h' : Int) (s1 : wd2.Sm (l * l')) (s2 : wd2.Sm (l * h')) (s3 : wd2.Sm (h * l')) (s4 : wd2.Sm (h * h')) (i k : Nat) (hi : i < 2) (hk : k < 2) :
    wd2.Sm (pv l h l' h' i k) ∧ wd2.Sm (tL l h l' h' i k) ∧ wd2.Sm (tH l h l' h' i k) := by
  have mi : ∀ a b : Int, wd2.Sm a → wd2.Sm b → wd2.Sm (min a b) := fun a b ha hb => by rcases (show min a b = a ∨ min a b = b by omega) with e | e <;> rw [e] <;> assumption
  have ma : ∀ a b : Int, wd2.Sm a → wd2.Sm b → wd2.Sm (max a b) := fun a b ha hb => by rcases (show max a b = a ∨ max a b = b by omega) with e | e <;> rw [e] <;> assumption
  have z : wd2.Sm 0 := wd2.sm_i64 (by omega) (by omega)
  rcases (show i = 0 ∧ k = 0 ∨ i = 0 ∧ k = 1 ∨ i = 1 ∧ k = 0 ∨ i = 1 ∧ k = 1 by omega) with ⟨rfl, rfl⟩ | ⟨rfl, rfl⟩ | ⟨rfl, rfl⟩ | ⟨rfl, rfl⟩
  · exact ⟨s1, z, z⟩
  · exact ⟨s2, s1, s1⟩
  · exact ⟨s3, mi _ _ s1 s2, ma _ _ s1 s2⟩
  · exact ⟨s4, mi _ _ (mi _ _ s1 s2) s3, ma _ _ (ma _ _ s1 s2) s3⟩
/-- a block with two numbers, far from the first ones -/
structure OutB (q : Nat) (wr : World) (lo hi : Int) : Prop where
  ex : ∃ (D : Option Addr) (n c : Nat) (g : Bool) (E : Option Addr) (m d : Nat) (k : Bool), At4 wr (q + 1 + 1 + 1) (.slice D n c) (.bool g) (.slice E m d) (.bool k) ∧ wd2.NZ wr D n c g lo ∧ wd2.NZ wr E m d k hi ∧ (∀ ad, D = some ad → q + 1 + 1 + 1 < ad.block) ∧ (∀ ad, E = some ad → q + 1 + 1 + 1 < ad.block)
/-- the memory of 'times' -/
structure TmM (w : World) (A1 : Option Addr) (na1 ca1 : Nat) (ga1 : Bool) (B1 : Option Addr) (nb1 cb1 : Nat) (gb1 : Bool) (A2 : Option Addr) (na2 ca2 : Nat) (ga2 : Bool) (B2 : Option Addr) (nb2 cb2 : Nat) (gb2 : Bool) (lo hi : Int) (wr : World) : Prop where
  Q : At4 wr (w.heap.size + 1) (.slice A2 na2 ca2) (.bool ga2) (.slice B2 nb2 cb2) (.bool gb2)
  R : At4 wr (w.heap.size + 1 + 1) (.slice none 0 0) (.bool false) (.slice none 0 0) (.bool false)
  G : At4 wr (w.heap.size + 1 + 1 + 1 + 1) (.slice A1 na1 ca1) (.bool ga1) (.slice B1 nb1 cb1) (.bool gb1)
  O : OutB w.heap.size wr lo hi
  B : Below w.heap.size w wr
theorem OutB.keep {q : Nat} {wr w2 : World} {lo hi : Int} (h : OutB q wr lo hi) (hb : Below wr.heap.size wr w2) : OutB q w2 lo hi := by
  obtain ⟨D, n, c, g, E, m, d, k, O, a, b, x, y⟩ := h
  exact ⟨D, n, c, g, E, m, d, k, O.keep hb, a.keep hb, b.keep hb, x, y⟩
theorem TmM.keep {w : World} {A1 : Option Addr} {na1 ca1 : Nat} {ga1 : Bool} {B1 : Option Addr} {nb1 cb1 : Nat} {gb1 : Bool} {A2 : Option Addr} {na2 ca2 : Nat} {ga2 : Bool} {B2 : Option Addr} {nb2 cb2 : Nat} {gb2 : Bool} {lo hi : Int} {wr w2 : World} (h : TmM w A1 na1 ca1 ga1 B1 nb1 cb1 gb1 A2 na2 ca2 ga2 B2 nb2 cb2 gb2 lo hi wr) (hb : Below wr.heap.size wr w2) : TmM w A1 na1 ca1 ga1 B1 nb1 cb1 gb1 A2 na2 ca2 ga2 B2 nb2 cb2 gb2 lo hi w2 :=
  ⟨h.Q.keep hb, h.R.keep hb, h.G.keep hb, h.O.keep hb, bstep h.B hb⟩
theorem TmM.setLo {w : World} {A1 : Option Addr} {na1 ca1 : Nat} {ga1 : Bool} {B1 : Option Addr} {nb1 cb1 : Nat} {gb1 : Bool} {A2 : Option Addr} {na2 ca2 : Nat} {ga2 : Bool} {B2 : Option Addr} {nb2 cb2 : Nat} {gb2 : Bool} {lo hi z : Int} {wr : World} {PA : Option Addr} {pn pc : Nat} {pg : Bool} (h : TmM w A1 na1 ca1 ga1 B1 nb1 cb1 gb1 A2 na2 ca2 ga2 B2 nb2 cb2 gb2 lo hi wr) (hz : wd2.NZ wr PA pn pc pg z) (f : ∀ ad, PA = some ad → w.heap.size + 1 + 1 + 1 < ad.block) :
    TmM w A1 na1 ca1 ga1 B1 nb1 cb1 gb1 A2 na2 ca2 ga2 B2 nb2 cb2 gb2 z hi ((wr.setCell ⟨w.heap.size + 1 + 1 + 1, 0, none⟩ (.slice PA pn pc)).setCell ⟨w.heap.size + 1 + 1 + 1, 1, none⟩ (.bool pg)) := by
  obtain ⟨Q, R, G, ⟨D, n, c, g, E, m, d, k, O, a, b, x, y⟩, B⟩ := h
  have ne : ∀ {A : Option Addr}, (∀ ad, A = some ad → w.heap.size + 1 + 1 + 1 < ad.block) → ∀ ad, A = some ad → ad.block ≠ w.heap.size + 1 + 1 + 1 := fun f ad e => by have := f ad e; omega
  exact ⟨(Q.off (by omega) _).off (by omega) _, (R.off (by omega) _).off (by omega) _, (G.off (by omega) _).off (by omega) _,
    ⟨PA, pn, pc, pg, E, m, d, k, (O.p0 _).p1 _, nz_far (nz_far hz (ne f) _) (ne f) _, nz_far (nz_far b (ne y) _) (ne y) _, f, y⟩, (B.setCell (show w.heap.size ≤ w.heap.size + 1 + 1 + 1 by omega) _).setCell (show w.heap.size ≤ w.heap.size + 1 + 1 + 1 by omega) _⟩
theorem TmM.setHi {w : World} {A1 : Option Addr} {na1 ca1 : Nat} {ga1 : Bool} {B1 : Option Addr} {nb1 cb1 : Nat} {gb1 : Bool} {A2 : Option Addr} {na2 ca2 : Nat} {ga2 : Bool} {B2 : Option Addr} {nb2 cb2 : Nat} {gb2 : Bool} {lo hi z : Int} {wr : World} {PA : Option Addr} {pn pc : Nat} {pg : Bool} (h : TmM w A1 na1 ca1 ga1 B1 nb1 cb1 gb1 A2 na2 ca2 ga2 B2 nb2 cb2 gb2 lo hi wr) (hz : wd2.NZ wr PA pn pc pg z) (f : ∀ ad, PA = some ad → w.heap.size + 1 + 1 + 1 < ad.block) :
    TmM w A1 na1 ca1 ga1 B1 nb1 cb1 gb1 A2 na2 ca2 ga2 B2 nb2 cb2 gb2 lo z ((wr.setCell ⟨w.heap.size + 1 + 1 + 1, 2, none⟩ (.slice PA pn pc)).setCell ⟨w.heap.size + 1 + 1 + 1, 3, none⟩ (.bool pg)) := by
  obtain ⟨Q, R, G, ⟨D, n, c, g, E, m, d, k, O, a, b, x, y⟩, B⟩ := h
  have ne : ∀ {A : Option Addr}, (∀ ad, A = some ad → w.heap.size + 1 + 1 + 1 < ad.block) → ∀ ad, A = some ad → ad.block ≠ w.heap.size + 1 + 1 + 1 := fun f ad e => by have := f ad e; omega
  exact ⟨(Q.off (by omega) _).off (by omega) _, (R.off (by omega) _).off (by omega) _, (G.off (by omega) _).off (by omega) _,
    ⟨D, n, c, g, PA, pn, pc, pg, (O.p2 _).p3 _, nz_far (nz_far a (ne x) _) (ne x) _, nz_far (nz_far hz (ne f) _) (ne f) _, x, f⟩, (B.setCell (show w.heap.size ≤ w.heap.size + 1 + 1 + 1 by omega) _).setCell (show w.heap.size ≤ w.heap.size + 1 + 1 + 1 by omega) _⟩
/-- an element of a list of two numbers -/
theorem pick2 {wr w : World} {g : Nat} {A : Option Addr} {n c : Nat} {x : Bool} {B : Option Addr} {m d : Nat} {y : Bool} {l h : Int} (G : At4 wr g (.slice A n c) (.bool x) (.slice B m d) (.bool y)) (hl : wd2.NZ w A n c x l) (hh : wd2.NZ w B m d y h) (i : Nat) (hi : i < 2) :
    ∃ (X : Option Addr) (xn xc : Nat) (xg : Bool), wr.cell? ⟨g, i * 2, none⟩ = some (.slice X xn xc) ∧ wr.cell? ⟨g, i * 2 + 1, none⟩ = some (.bool xg) ∧ wd2.NZ w X xn xc xg (pk l h i) := by
  rcases (show i = 0 ∨ i = 1 by omega) with rfl | rfl
  · exact ⟨A, n, c, x, G.c0, G.c1, hl⟩
  · exact ⟨B, m, d, y, G.c2, G.c3, hh⟩

set_option maxHeartbeats 8000000 in
theorem times_box (v1 v2 : Value) (l h l' h' : Int) (w : World) (b1 : Bx w v1 l h) (b2 : Bx w v2 l' h') (s1 : wd2.Sm l) (s2 : wd2.Sm h) (s3 : wd2.Sm l') (s4 : wd2.Sm h') (m1 : wd2.Sm (l * l')) (m2 : wd2.Sm (l * h')) (m3 : wd2.Sm (h * l')) (m4 : wd2.Sm (h * h')) :
    Calls Tryd.prog 26 #[v1, v2] w (RetB w (mulL l h l' h') (mulH l h l' h')) := by
  obtain ⟨A1, na1, ca1, ga1, B1, nb1, cb1, gb1, rfl, L1, H1⟩ := b1
  obtain ⟨A2, na2, ca2, ga2, B2, nb2, cb2, gb2, rfl, L2, H2⟩ := b2
  have NX := Lib.hid (fun (wr : World) g (G : At4 wr g (.slice A1 na1 ca1) (.bool ga1) (.slice B1 nb1 cb1) (.bool gb1)) i hi => pick2 G L1 H1 i hi)
  have NY := Lib.hid (fun (wr : World) g (G : At4 wr g (.slice A2 na2 ca2) (.bool ga2) (.slice B2 nb2 cb2) (.bool gb2)) i hi => pick2 G L2 H2 i hi)
  have SM := Lib.hid (fun i k hi hk => t_sm l h l' h' m1 m2 m3 m4 i k hi hk)
  have SX : Hid (∀ i, wd2.Sm (pk l h i)) := Lib.hid (fun i => by unfold pk; split <;> assumption)
  have SY : Hid (∀ i, wd2.Sm (pk l' h' i)) := Lib.hid (fun i => by unfold pk; split <;> assumption)
  have TS := Lib.hid (fun i k hi hk nz => t_step l h l' h' i k hi hk nz)
  have TN := Lib.hid (fun i hi => t_next l h l' h' i hi)
  have TF := Lib.hid (t_first l h l' h')
  rw [← (tL_end l h l' h').1, ← (tL_end l h l' h').2]
  have P := At4.new w (.slice A1 na1 ca1) (.bool ga1) (.slice B1 nb1 cb1) (.bool gb1) 44
  have Q := At4.new (w.alloc (.cells #[.slice A1 na1 ca1, .bool ga1, .slice B1 nb1 cb1, .bool gb1] 44)) (.slice A2 na2 ca2) (.bool ga2) (.slice B2 nb2 cb2) (.bool gb2) 44
  have R := At4.new ((w.alloc (.cells #[.slice A1 na1 ca1, .bool ga1, .slice B1 nb1 cb1, .bool gb1] 44)).alloc (.cells #[.slice A2 na2 ca2, .bool ga2, .slice B2 nb2 cb2, .bool gb2] 44)) (.slice none 0 0) (.bool false) (.slice none 0 0) (.bool false) 44
  have O := At4.new (((w.alloc (.cells #[.slice A1 na1 ca1, .bool ga1, .slice B1 nb1 cb1, .bool gb1] 44)).alloc (.cells #[.slice A2 na2 ca2, .bool ga2, .slice B2 nb2 cb2, .bool gb2] 44)).alloc (.cells #[.slice none 0 0, .bool false, .slice none 0 0, .bool false] 44)) (.slice none 0 0) (.bool false) (.slice none 0 0) (.bool false) 44
  have G := At4.new ((((w.alloc (.cells #[.slice A1 na1 ca1, .bool ga1, .slice B1 nb1 cb1, .bool gb1] 44)).alloc (.cells #[.slice A2 na2 ca2, .bool ga2, .slice B2 nb2 cb2, .bool gb2] 44)).alloc (.cells #[.slice none 0 0, .bool false, .slice none 0 0, .bool false] 44)).alloc (.cells #[.slice none 0 0, .bool false, .slice none 0 0, .bool false] 44)) (.slice A1 na1 ca1) (.bool ga1) (.slice B1 nb1 cb1) (.bool gb1) 42
  have P := (P.alloc (.cells #[.slice A2 na2 ca2, .bool ga2, .slice B2 nb2 cb2, .bool gb2] 44)).alloc (.cells #[.slice none 0 0, .bool false, .slice none 0 0, .bool false] 44)
  have P := P.alloc (.cells #[.slice none 0 0, .bool false, .slice none 0 0, .bool false] 44)
  have Q := ((Q.alloc (.cells #[.slice none 0 0, .bool false, .slice none 0 0, .bool false] 44)).alloc (.cells #[.slice none 0 0, .bool false, .slice none 0 0, .bool false] 44)).alloc (.cells #[.slice A1 na1 ca1, .bool ga1, .slice B1 nb1 cb1, .bool gb1] 42)
  have R := (R.alloc (.cells #[.slice none 0 0, .bool false, .slice none 0 0, .bool false] 44)).alloc (.cells #[.slice A1 na1 ca1, .bool ga1, .slice B1 nb1 cb1, .bool gb1] 42)
  have O := O.alloc (.cells #[.slice A1 na1 ca1, .bool ga1, .slice B1 nb1 cb1, .bool gb1] 42)
  have HB : Below w.heap.size w (((((w.alloc (.cells #[.slice A1 na1 ca1, .bool ga1, .slice B1 nb1 cb1, .bool gb1] 44)).alloc (.cells #[.slice A2 na2 ca2, .bool ga2, .slice B2 nb2 cb2, .bool gb2] 44)).alloc (.cells #[.slice none 0 0, .bool false, .slice none 0 0, .bool false] 44)).alloc (.cells #[.slice none 0 0, .bool false, .slice none 0 0, .bool false] 44)).alloc (.cells #[.slice A1 na1 ca1, .bool ga1, .slice B1 nb1 cb1, .bool gb1] 42)) := bstep (bstep (bstep (bstep (below1 _ _) (below1 _ _)) (below1 _ _)) (below1 _ _)) (below1 _ _)
  have z : wd2.NZ (((((w.alloc (.cells #[.slice A1 na1 ca1, .bool ga1, .slice B1 nb1 cb1, .bool gb1] 44)).alloc (.cells #[.slice A2 na2 ca2, .bool ga2, .slice B2 nb2 cb2, .bool gb2] 44)).alloc (.cells #[.slice none 0 0, .bool false, .slice none 0 0, .bool false] 44)).alloc (.cells #[.slice none 0 0, .bool false, .slice none 0 0, .bool false] 44)).alloc (.cells #[.slice A1 na1 ca1, .bool ga1, .slice B1 nb1 cb1, .bool gb1] 42)) none 0 0 false 0 := ⟨by rw [show (0 : Int).natAbs = 0 from rfl, wd2.dgs_zero]; exact wd2.Dig.nil _, by decide⟩
  simp at Q R O G
  obtain ⟨P0, P1, P2, P3, -⟩ := id P
  have M : TmM w A1 na1 ca1 ga1 B1 nb1 cb1 gb1 A2 na2 ca2 ga2 B2 nb2 cb2 gb2 (tL l h l' h' 0 0) (tH l h l' h' 0 0) (((((w.alloc (.cells #[.slice A1 na1 ca1, .bool ga1, .slice B1 nb1 cb1, .bool gb1] 44)).alloc (.cells #[.slice A2 na2 ca2, .bool ga2, .slice B2 nb2 cb2, .bool gb2] 44)).alloc (.cells #[.slice none 0 0, .bool false, .slice none 0 0, .bool false] 44)).alloc (.cells #[.slice none 0 0, .bool false, .slice none 0 0, .bool false] 44)).alloc (.cells #[.slice A1 na1 ca1, .bool ga1, .slice B1 nb1 cb1, .bool gb1] 42)) := ⟨Q, R, G, ⟨none, 0, 0, false, none, 0, 0, false, O, z, z, (fun _ e => by cases e), (fun _ e => by cases e)⟩, HB⟩
  clear z HB Q R O G P L1 H1 L2 H2 s1 s2 s3 s4 m1 m2 m3 m4
  go_enter Tryd.func26, Tryd.ntmps26
  go_wp2_with fail
  clear P0 P1 P2 P3
  generalize (((((w.alloc (.cells #[.slice A1 na1 ca1, .bool ga1, .slice B1 nb1 cb1, .bool gb1] 44)).alloc (.cells #[.slice A2 na2 ca2, .bool ga2, .slice B2 nb2 cb2, .bool gb2] 44)).alloc (.cells #[.slice none 0 0, .bool false, .slice none 0 0, .bool false] 44)).alloc (.cells #[.slice none 0 0, .bool false, .slice none 0 0, .bool false] 44)).alloc (.cells #[.slice A1 na1 ca1, .bool ga1, .slice B1 nb1 cb1, .bool gb1] 42)) = W at *
  go_loopg [18] 2 (fun mu v18 wr => ∃ i : Nat, mu = 2 - i ∧ v18 = .int .i64 (i : Int) ∧ Hid (i ≤ 2) ∧ Hid (TmM w A1 na1 ca1 ga1 B1 nb1 cb1 gb1 A2 na2 ca2 ga2 B2 nb2 cb2 gb2 (tL l h l' h' i 0) (tH l h l' h' i 0) wr))
  case atStart => exact ⟨0, rfl, rfl, Nat.zero_le _, M⟩
  case round =>
    obtain ⟨i, hm, rfl, HI, HM⟩ := hrel
    have HG := Lib.hid hm
    clear hm M
    by_cases hi : i < 2
    · obtain ⟨Q, R, G, O, B⟩ := id HM.out
      obtain ⟨X, xn, xc, xg, x0, x1, NX⟩ := NX.out _ _ G i hi
      have hi2 : (i : Int) < 2 := by omega
      have hi0 : (0 : Int) ≤ (i : Int) := by omega
      have NX := Lib.hid NX
      obtain ⟨Q0, Q1, Q2, Q3, -, -, -, -, lQ⟩ := id Q
      go_wp2_with fail
      have bX : w.heap.size + 1 + 1 + 1 < wr.heap.size := by have := G.lt; omega
      have XB := (At2.new wr (.slice X xn xc) (.bool xg) 42).alloc (.cells #[.slice A2 na2 ca2, .bool ga2, .slice B2 nb2 cb2, .bool gb2] 42)
      have G2 := At4.new (wr.alloc (.cells #[.slice X xn xc, .bool xg] 42)) (.slice A2 na2 ca2) (.bool ga2) (.slice B2 nb2 cb2) (.bool gb2) 42
      simp at G2
      have M := (HM.out.keep (below1 wr (.cells #[.slice X xn xc, .bool xg] 42))).keep (below1 _ (.cells #[.slice A2 na2 ca2, .bool ga2, .slice B2 nb2 cb2, .bool gb2] 42))
      clear Q R G O B x0 x1 Q0 Q1 Q2 Q3 lQ HM
      generalize (wr.alloc (.cells #[.slice X xn xc, .bool xg] 42)).alloc (.cells #[.slice A2 na2 ca2, .bool ga2, .slice B2 nb2 cb2, .bool gb2] 42) = W2 at *
      generalize wr.heap.size = bx at *
      have HIi := Lib.hid hi
      clear hi hi2 hi0
      go_loopg [29] 2 (fun mu v29 wz => ∃ k : Nat, mu = 2 - k ∧ v29 = .int .i64 (k : Int) ∧ Hid (k ≤ 2) ∧ Hid (TmM w A1 na1 ca1 ga1 B1 nb1 cb1 gb1 A2 na2 ca2 ga2 B2 nb2 cb2 gb2 (tL l h l' h' i k) (tH l h l' h' i k) wz) ∧ Hid (At2 wz bx (.slice X xn xc) (.bool xg)) ∧ Hid (At4 wz (bx + 1) (.slice A2 na2 ca2) (.bool ga2) (.slice B2 nb2 cb2) (.bool gb2)))
      case atStart => exact ⟨0, rfl, rfl, Nat.zero_le _, M, XB, G2⟩
      case round =>
        obtain ⟨k, hm2, rfl, HK, HM, HX, HG2⟩ := hrel
        have HG' := Lib.hid hm2
        clear hm2 M XB G2
        have hi := HIi.out
        by_cases hk : k < 2
        · obtain ⟨Y, yn, yc, yg, y0, y1, NYk⟩ := NY.out _ _ HG2.out k hk
          have KM : Hid (∀ wx, Below w.heap.size w wx → Calls Tryd.prog 41 #[.agg #[.slice X xn xc, .bool xg], .agg #[.slice Y yn yc, .bool yg]] wx (wd2.RetZ wx (pv l h l' h' i k))) :=
            Lib.hid (fun wx hb => wd2.mul_any X Y xn xc yn yc xg yg _ _ wx (NX.out.keep hb) (NYk.keep hb) (SX.out i) (SY.out k))
          obtain ⟨sp, sl, sh⟩ := SM.out i k hi hk
          have sp := Lib.hid sp
          have sl := Lib.hid sl
          have sh := Lib.hid sh
          have T1 := Lib.hid (fun nz => TS.out i k hi hk nz)
          have hi2 : (i : Int) < 2 := by omega
          have hi0 : (0 : Int) ≤ (i : Int) := by omega
          have hk2 : (k : Int) < 2 := by omega
          have hk0 : (0 : Int) ≤ (k : Int) := by omega
          have XB := HX.out
          have M := HM.out
          obtain ⟨X0, X1, -, -, lX⟩ := id XB
          have lG := HG2.out.lt
          go_wp2_with fail
          refine (KM.out _ (bstep M.B (below1 _ _))).mono ?_
          rintro e w1 ⟨PA, pn, pc, pg, rfl, NP, FP, hb⟩
          have M := (M.keep (below1 wr (.cells #[.slice Y yn yc, .bool yg] 42))).keep hb
          have XB := (XB.alloc (.cells #[.slice Y yn yc, .bool yg] 42)).keep hb
          have G2 := (HG2.out.alloc (.cells #[.slice Y yn yc, .bool yg] 42)).keep hb
          have fP : ∀ ad, PA = some ad → w.heap.size + 1 + 1 + 1 < ad.block := fun ad e => by
            have a := FP ad e
            have b := HM.out.G.lt
            simp at a
            omega
          have M := M.keep (below1 w1 (.cells #[.slice PA pn pc, .bool pg] 42))
          have XB := XB.alloc (.cells #[.slice PA pn pc, .bool pg] 42)
          have G2 := G2.alloc (.cells #[.slice PA pn pc, .bool pg] 42)
          have PB := At2.new w1 (.slice PA pn pc) (.bool pg) 42
          have NP := NP.alloc (.cells #[.slice PA pn pc, .bool pg] 42)
          have bP : w.heap.size + 1 + 1 + 1 < w1.heap.size := by
            have := hb.size
            have := HM.out.G.lt
            simp at *
            omega
          clear hb X0 X1 lX lG y0 y1 FP HM HX HG2
          go_upto_region 9 with fail
          generalize w1.alloc (.cells #[.slice PA pn pc, .bool pg] 42) = V1 at *
          generalize w1.heap.size = bp at *
          have NP := Lib.hid NP
          go_cut [47] from 37 to 47 (fun vb wx => ∃ b : Bool, vb = .bool b ∧ Hid ((b = true → tL l h l' h' i (k + 1) = pv l h l' h' i k) ∧ (b = false → tL l h l' h' i (k + 1) = tL l h l' h' i k)) ∧ Hid (TmM w A1 na1 ca1 ga1 B1 nb1 cb1 gb1 A2 na2 ca2 ga2 B2 nb2 cb2 gb2 (tL l h l' h' i k) (tH l h l' h' i k) wx) ∧ Hid (At2 wx bx (.slice X xn xc) (.bool xg)) ∧ Hid (At4 wx (bx + 1) (.slice A2 na2 ca2) (.bool ga2) (.slice B2 nb2 cb2) (.bool gb2)) ∧ Hid (At2 wx bp (.slice PA pn pc) (.bool pg)) ∧ Hid (wd2.NZ wx PA pn pc pg (pv l h l' h' i k)))
          case first =>
            obtain ⟨-, -, -, ⟨D, n, c, g, E, m, d, kk, O, ND, NE, -, -⟩, -⟩ := id M
            obtain ⟨O0, O1, O2, O3, O4, O5, O6, O7, -⟩ := id O
            obtain ⟨P0, P1, -, -, -⟩ := id PB
            by_cases z : i + k = 0
            · have zi : (i : Int) + (k : Int) = 0 := by omega
              have e1 : tL l h l' h' i (k + 1) = pv l h l' h' i k := by
                obtain rfl : i = 0 := by omega
                obtain rfl : k = 0 := by omega
                exact TF.out.1
              go_wp2_with fail
              go_meet
              exact ⟨true, by first | rfl | simp [zi], Lib.hid ⟨fun _ => e1, fun h => (by cases h)⟩, Lib.hid M, Lib.hid XB, Lib.hid G2, Lib.hid PB, NP⟩
            · have zi : ¬ (i : Int) + (k : Int) = 0 := by omega
              obtain ⟨s, hs⟩ : ∃ s, (i : Int) + (k : Int) = s := ⟨_, rfl⟩
              have z1 : 0 ≤ s := by omega
              have z2 : s ≤ 4 := by omega
              rw [hs] at zi
              have TT := T1.out z
              obtain ⟨x, hx⟩ : ∃ x, x = wd2.sgn (pv l h l' h' i k - tL l h l' h' i k) := ⟨_, rfl⟩
              have CC := Lib.hid (wd2.compare_num PA D pn pc n c pg g _ _ _ NP.out ND sp.out sl.out)
              rw [← hx] at CC
              obtain ⟨v1, v2, v3⟩ := wd2.sgn_of (pv l h l' h' i k - tL l h l' h' i k)
              rw [← hx] at v1 v2 v3
              go_wp2_with fail
              refine CC.out.mono ?_
              rintro e V ⟨rfl, hb⟩
              have M := M.keep hb
              have XB := XB.keep hb
              have G2 := G2.keep hb
              have PB := PB.keep hb
              have NP := Lib.hid (NP.out.keep hb)
              clear hb O0 O1 O2 O3 O4 O5 O6 O7 P0 P1 CC hx
              by_cases lt : pv l h l' h' i k < tL l h l' h' i k
              · have e1 := TT.1 (by omega)
                have xs : x < 0 := by have := v2 (by omega); omega
                clear v1 v2 v3 TT lt
                go_wp2_with fail
                go_meet
                exact ⟨true, by first | rfl | simp [zi, xs], Lib.hid ⟨fun _ => e1, fun h => (by cases h)⟩, Lib.hid M, Lib.hid XB, Lib.hid G2, Lib.hid PB, NP⟩
              · have e1 := TT.2.1 (by omega)
                have xs : ¬ x < 0 := by
                  rcases Int.lt_trichotomy (pv l h l' h' i k - tL l h l' h' i k) 0 with q | q | q
                  · have := v2 q; omega
                  · have := v1 (by omega); omega
                  · have := v3 q; omega
                clear v1 v2 v3 TT lt
                go_wp2_with fail
                go_meet
                exact ⟨false, by first | rfl | simp [zi, xs], Lib.hid ⟨fun h => (by cases h), fun _ => e1⟩, Lib.hid M, Lib.hid XB, Lib.hid G2, Lib.hid PB, NP⟩
          case rest =>
            obtain ⟨b, rfl, hbb, hM, hX, hG2, hP, hNP⟩ := hcut
            clear M XB G2 PB NP
            have M := hM.out
            have XB := hX.out
            have G2 := hG2.out
            have PB := hP.out
            have NP := hNP
            clear hM hX hG2 hP hNP
            go_upto_if 47 with fail
            go_cut [] from 48 to 49 (fun wx => Hid (TmM w A1 na1 ca1 ga1 B1 nb1 cb1 gb1 A2 na2 ca2 ga2 B2 nb2 cb2 gb2 (tL l h l' h' i (k + 1)) (tH l h l' h' i k) wx) ∧ Hid (At2 wx bx (.slice X xn xc) (.bool xg)) ∧ Hid (At4 wx (bx + 1) (.slice A2 na2 ca2) (.bool ga2) (.slice B2 nb2 cb2) (.bool gb2)) ∧ Hid (At2 wx bp (.slice PA pn pc) (.bool pg)) ∧ Hid (wd2.NZ wx PA pn pc pg (pv l h l' h' i k)))
            case first =>
              obtain ⟨-, -, -, ⟨D, n, c, g, E, m, d, kk, O, -, -, -, -⟩, -⟩ := id M
              obtain ⟨O0, O1, O2, O3, O4, O5, O6, O7, -⟩ := id O
              obtain ⟨P0, P1, -, -, -⟩ := id PB
              have nX : bx ≠ w.heap.size + 1 + 1 + 1 := by omega
              have nG : bx + 1 ≠ w.heap.size + 1 + 1 + 1 := by omega
              have nP : bp ≠ w.heap.size + 1 + 1 + 1 := by omega
              have hne : ∀ ad, PA = some ad → ad.block ≠ w.heap.size + 1 + 1 + 1 := fun ad e => by have := fP ad e; omega
              cases b
              · have e1 := hbb.out.2 rfl
                go_wp2_with fail
                go_meet
                exact ⟨Lib.hid (by rw [e1]; exact M), Lib.hid XB, Lib.hid G2, Lib.hid PB, NP⟩
              · have e1 := hbb.out.1 rfl
                go_wp2_with fail
                go_meet
                exact ⟨Lib.hid (by rw [e1]; exact M.setLo NP.out fP), Lib.hid ((XB.off' nX _).off' nX _), Lib.hid ((G2.off nG _).off nG _), Lib.hid ((PB.off' nP _).off' nP _), Lib.hid (nz_far (nz_far NP.out hne _) hne _)⟩
            case rest =>
              obtain ⟨hM, hX, hG2, hP, hNP⟩ := hcut
              clear M XB G2 PB NP hbb
              have M := hM.out
              have XB := hX.out
              have G2 := hG2.out
              have PB := hP.out
              have NP := hNP
              clear hM hX hG2 hP hNP
              go_upto_region 11 with fail
              go_cut [60] from 50 to 60 (fun vb wx => ∃ b : Bool, vb = .bool b ∧ Hid ((b = true → tH l h l' h' i (k + 1) = pv l h l' h' i k) ∧ (b = false → tH l h l' h' i (k + 1) = tH l h l' h' i k)) ∧ Hid (TmM w A1 na1 ca1 ga1 B1 nb1 cb1 gb1 A2 na2 ca2 ga2 B2 nb2 cb2 gb2 (tL l h l' h' i (k + 1)) (tH l h l' h' i k) wx) ∧ Hid (At2 wx bx (.slice X xn xc) (.bool xg)) ∧ Hid (At4 wx (bx + 1) (.slice A2 na2 ca2) (.bool ga2) (.slice B2 nb2 cb2) (.bool gb2)) ∧ Hid (At2 wx bp (.slice PA pn pc) (.bool pg)) ∧ Hid (wd2.NZ wx PA pn pc pg (pv l h l' h' i k)))
              case first =>
                obtain ⟨-, -, -, ⟨D, n, c, g, E, m, d, kk, O, ND, NE, -, -⟩, -⟩ := id M
                obtain ⟨O0, O1, O2, O3, O4, O5, O6, O7, -⟩ := id O
                obtain ⟨P0, P1, -, -, -⟩ := id PB
                by_cases z : i + k = 0
                · have zi : (i : Int) + (k : Int) = 0 := by omega
                  have e1 : tH l h l' h' i (k + 1) = pv l h l' h' i k := by
                    obtain rfl : i = 0 := by omega
                    obtain rfl : k = 0 := by omega
                    exact TF.out.2
                  go_wp2_with fail
                  go_meet
                  exact ⟨true, by first | rfl | simp [zi], Lib.hid ⟨fun _ => e1, fun h => (by cases h)⟩, Lib.hid M, Lib.hid XB, Lib.hid G2, Lib.hid PB, NP⟩
                · have zi : ¬ (i : Int) + (k : Int) = 0 := by omega
                  obtain ⟨s, hs⟩ : ∃ s, (i : Int) + (k : Int) = s := ⟨_, rfl⟩
                  have z1 : 0 ≤ s := by omega
                  have z2 : s ≤ 4 := by omega
                  rw [hs] at zi
                  have TT := T1.out z
                  obtain ⟨x, hx⟩ : ∃ x, x = wd2.sgn (pv l h l' h' i k - tH l h l' h' i k) := ⟨_, rfl⟩
                  have CC := Lib.hid (wd2.compare_num PA E pn pc m d pg kk _ _ _ NP.out NE sp.out sh.out)
                  rw [← hx] at CC
                  obtain ⟨v1, v2, v3⟩ := wd2.sgn_of (pv l h l' h' i k - tH l h l' h' i k)
                  rw [← hx] at v1 v2 v3
                  go_wp2_with fail
                  refine CC.out.mono ?_
                  rintro e V ⟨rfl, hb⟩
                  have M := M.keep hb
                  have XB := XB.keep hb
                  have G2 := G2.keep hb
                  have PB := PB.keep hb
                  have NP := Lib.hid (NP.out.keep hb)
                  clear hb O0 O1 O2 O3 O4 O5 O6 O7 P0 P1 CC hx
                  by_cases lt : tH l h l' h' i k < pv l h l' h' i k
                  · have e1 := TT.2.2.1 (by omega)
                    have xs : 0 < x := by have := v3 (by omega); omega
                    clear v1 v2 v3 TT lt
                    go_wp2_with fail
                    go_meet
                    exact ⟨true, by first | rfl | simp [zi, xs], Lib.hid ⟨fun _ => e1, fun h => (by cases h)⟩, Lib.hid M, Lib.hid XB, Lib.hid G2, Lib.hid PB, NP⟩
                  · have e1 := TT.2.2.2 (by omega)
                    have xs : ¬ 0 < x := by
                      rcases Int.lt_trichotomy (pv l h l' h' i k - tH l h l' h' i k) 0 with q | q | q
                      · have := v2 q; omega
                      · have := v1 (by omega); omega
                      · have := v3 q; omega
                    clear v1 v2 v3 TT lt
                    go_wp2_with fail
                    go_meet
                    exact ⟨false, by first | rfl | simp [zi, xs], Lib.hid ⟨fun h => (by cases h), fun _ => e1⟩, Lib.hid M, Lib.hid XB, Lib.hid G2, Lib.hid PB, NP⟩
              case rest =>
                obtain ⟨b, rfl, hbb, hM, hX, hG2, hP, hNP⟩ := hcut
                clear M XB G2 PB NP
                have M := hM.out
                have XB := hX.out
                have G2 := hG2.out
                have PB := hP.out
                have NP := hNP
                clear hM hX hG2 hP hNP
                obtain ⟨-, -, -, ⟨D, n, c, g, E, m, d, kk, O, -, -, -, -⟩, -⟩ := id M
                obtain ⟨O0, O1, O2, O3, O4, O5, O6, O7, -⟩ := id O
                obtain ⟨P0, P1, -, -, -⟩ := id PB
                have nX : bx ≠ w.heap.size + 1 + 1 + 1 := by omega
                have nG : bx + 1 ≠ w.heap.size + 1 + 1 + 1 := by omega
                cases b
                · have e1 := hbb.out.2 rfl
                  go_wp2_with fail
                  go_roundg (2 - (k + 1))
                  case measure => have := HG'.out; omega
                  case rel => exact ⟨k + 1, rfl, rfl, by show _ ≤ _; omega, Lib.hid (by rw [e1]; exact M), Lib.hid XB, Lib.hid G2⟩
                · have e1 := hbb.out.1 rfl
                  go_wp2_with fail
                  go_roundg (2 - (k + 1))
                  case measure => have := HG'.out; omega
                  case rel => exact ⟨k + 1, rfl, rfl, by show _ ≤ _; omega, Lib.hid (by rw [e1]; exact M.setHi NP.out fP), Lib.hid ((XB.off' nX _).off' nX _), Lib.hid ((G2.off nG _).off nG _)⟩
        · obtain rfl : k = 2 := by have := HK.out; omega
          have M := HM.out
          go_wp2_with fail
          go_roundg (2 - (i + 1))
          case measure => have := HG.out; omega
          case rel => exact ⟨i + 1, rfl, rfl, by show _ ≤ _; omega, Lib.hid (by rw [← (TN.out i hi).1, ← (TN.out i hi).2]; exact M)⟩
    · obtain rfl : i = 2 := by have := HI.out; omega
      obtain ⟨-, R, -, ⟨D, n, c, g, E, m, d, kk, O, ND, NE, fD, fE⟩, B⟩ := id HM.out
      obtain ⟨O0, O1, O2, O3, O4, O5, O6, O7, -⟩ := id O
      obtain ⟨R0, R1, R2, R3, R4, R5, R6, R7, -⟩ := id R
      have r0 := R.p0 (.slice D n c)
      have r1 := r0.p1 (.bool g)
      have r2 := r1.p2 (.slice E m d)
      have r3 := r2.p3 (.bool kk)
      have z0 := r0.c0
      have z1 := r1.c1
      have z2 := r2.c2
      have z3 := r3.c3
      have f1 : ∀ ad, D = some ad → ad.block ≠ w.heap.size + 1 + 1 := fun ad e => by have := fD ad e; omega
      have f2 : ∀ ad, E = some ad → ad.block ≠ w.heap.size + 1 + 1 := fun ad e => by have := fE ad e; omega
      go_wp2_with fail
      refine bodyPost_ret (v := .agg #[.slice D n c, .bool g, .slice E m d, .bool kk]) (by simp [results, Tryd.results26, go_sem, z0, z1, z2, z3]) rfl ⟨_, _, _, _, _, _, _, _, rfl, ?_, ?_, fun ad e => by have := fD ad e; omega, fun ad e => by have := fE ad e; omega, ?_⟩
      · exact nz_four ND f1 _ _ _ _
      · exact nz_four NE f2 _ _ _ _
      · exact below_four B (show w.heap.size ≤ w.heap.size + 1 + 1 by omega) _ _ _ _
end Go.Proofs.YtglmkpnnbgkndaaDoor
