/- FixedContains: the walk of the law. -/
import Derived.Test.YtdkigfcglfgpoaaFxW
import Derived.Deep.Cut
import Derived.Deep.CutRange
namespace Go.Proofs.Ytdkigfcglfgpoaa
open Go.RowKit
set_option linter.unusedVariables false

theorem At2.dr {w : World} {b : Nat} {x y : Value} (h : At2 w b x y) : At2 w.drew b x y := h.keep (Below.refl _ _).drew
/-- the two numbers lie somewhere, beside the arguments -/
structure Got (w wx : World) (a b c d x y : Int) (p q : Nat) : Prop where
  X : At2 wx p (.int .i64 x) (.int .i64 x)
  Y : At2 wx q (.int .i64 y) (.int .i64 y)
  A : At2 wx w.heap.size (.int .i64 a) (.int .i64 b)
  B : At2 wx (w.heap.size + 1) (.int .i64 c) (.int .i64 d)
  le : Below w.heap.size w wx
theorem Got.keep {w w1 w2 : World} {a b c d x y : Int} {p q : Nat} (g : Got w w1 a b c d x y p q) (hb : Below w1.heap.size w1 w2) : Got w w2 a b c d x y p q :=
  ⟨g.X.keep hb, g.Y.keep hb, g.A.keep hb, g.B.keep hb, bstep g.le hb⟩
theorem At2.newSet (w : World) (b : Nat) (u v x y : Value) (T : Nat) : At2 (((w.setCell ⟨b, 0, none⟩ u).setCell ⟨b, 1, none⟩ v).alloc (.cells #[x, y] T)) w.heap.size x y := by
  have := At2.new ((w.setCell ⟨b, 0, none⟩ u).setCell ⟨b, 1, none⟩ v) x y T
  simpa [World.setCell] using this
section
variable {w W : World} {a b c d x y : Int} {p q : Nat} {T : Nat} {z z' u u' : Value}
theorem got1 (A : At2 W w.heap.size (.int .i64 a) (.int .i64 b)) (B : At2 W (w.heap.size + 1) (.int .i64 c) (.int .i64 d)) (h : Below w.heap.size w W) :
    Got w ((W.alloc (.cells #[.int .i64 x, .int .i64 x] T)).alloc (.cells #[.int .i64 y, .int .i64 y] T)) a b c d x y W.heap.size (W.heap.size + 1) :=
  ⟨(At2.two W _ _ _ _ T T).1, (At2.two W _ _ _ _ T T).2, (A.alloc _).alloc _, (B.alloc _).alloc _, bstep (bstep h (below1 _ _)) (below1 _ _)⟩
theorem got1' (A : At2 W w.heap.size (.int .i64 a) (.int .i64 b)) (B : At2 W (w.heap.size + 1) (.int .i64 c) (.int .i64 d)) (h : Below w.heap.size w W) :
    Got w ((W.alloc (.cells #[.int .i64 y, .int .i64 y] T)).alloc (.cells #[.int .i64 x, .int .i64 x] T)) a b c d x y (W.heap.size + 1) W.heap.size :=
  ⟨(At2.two W _ _ _ _ T T).2, (At2.two W _ _ _ _ T T).1, (A.alloc _).alloc _, (B.alloc _).alloc _, bstep (bstep h (below1 _ _)) (below1 _ _)⟩
theorem got2 (N : At2 W p z z') (A : At2 W w.heap.size (.int .i64 a) (.int .i64 b)) (B : At2 W (w.heap.size + 1) (.int .i64 c) (.int .i64 d)) (h : Below w.heap.size w W) (hp : w.heap.size + 1 < p) :
    Got w (((W.setCell ⟨p, 0, none⟩ (.int .i64 x)).setCell ⟨p, 1, none⟩ (.int .i64 x)).alloc (.cells #[.int .i64 y, .int .i64 y] T)) a b c d x y p W.heap.size :=
  ⟨(N.put _ _).alloc _, At2.newSet _ _ _ _ _ _ _, (A.far (by omega) _ _).alloc _, (B.far (by omega) _ _).alloc _, (below_set2 h (by omega) _ _).alloc (by have := h.size; simpa [World.setCell] using this) _⟩
theorem got2' (N : At2 W p z z') (A : At2 W w.heap.size (.int .i64 a) (.int .i64 b)) (B : At2 W (w.heap.size + 1) (.int .i64 c) (.int .i64 d)) (h : Below w.heap.size w W) (hp : w.heap.size + 1 < p) :
    Got w (((W.setCell ⟨p, 0, none⟩ (.int .i64 y)).setCell ⟨p, 1, none⟩ (.int .i64 y)).alloc (.cells #[.int .i64 x, .int .i64 x] T)) a b c d x y W.heap.size p :=
  ⟨At2.newSet _ _ _ _ _ _ _, (N.put _ _).alloc _, (A.far (by omega) _ _).alloc _, (B.far (by omega) _ _).alloc _, (below_set2 h (by omega) _ _).alloc (by have := h.size; simpa [World.setCell] using this) _⟩
theorem got3 (N : At2 W p z z') (M : At2 W q u u') (A : At2 W w.heap.size (.int .i64 a) (.int .i64 b)) (B : At2 W (w.heap.size + 1) (.int .i64 c) (.int .i64 d)) (h : Below w.heap.size w W) (hp : w.heap.size + 1 < p) (hq : w.heap.size + 1 < q) (hne : p ≠ q) :
    Got w ((((W.setCell ⟨p, 0, none⟩ (.int .i64 x)).setCell ⟨p, 1, none⟩ (.int .i64 x)).setCell ⟨q, 0, none⟩ (.int .i64 y)).setCell ⟨q, 1, none⟩ (.int .i64 y)) a b c d x y p q :=
  ⟨(N.put _ _).far hne _ _, (M.far (fun e => hne e.symm) _ _).put _ _, (A.far (by omega) _ _).far (by omega) _ _, (B.far (by omega) _ _).far (by omega) _ _, below_set2 (below_set2 h (by omega) _ _) (by omega) _ _⟩
end

/-- the eight functions lie in a row -/
structure Fns (w : World) (g : Nat) : Prop where
  c0 : w.cell? ⟨g, 0, none⟩ = some (.func (.func 23) #[] #[])
  c1 : w.cell? ⟨g, 1, none⟩ = some (.func (.func 24) #[] #[])
  c2 : w.cell? ⟨g, 2, none⟩ = some (.func (.func 29) #[] #[])
  c3 : w.cell? ⟨g, 3, none⟩ = some (.func (.func 31) #[] #[])
  c4 : w.cell? ⟨g, 4, none⟩ = some (.func (.func 19) #[] #[])
  c5 : w.cell? ⟨g, 5, none⟩ = some (.func (.func 42) #[] #[])
  c6 : w.cell? ⟨g, 6, none⟩ = some (.func (.func 43) #[] #[])
  c7 : w.cell? ⟨g, 7, none⟩ = some (.func (.func 44) #[] #[])
  lt : g < w.heap.size
theorem Fns.keep {w w1 : World} {g : Nat} (h : Fns w g) (hb : Below w.heap.size w w1) : Fns w1 g :=
  ⟨(hb.cell (p := ⟨g, 0, none⟩) h.lt).trans h.c0, (hb.cell (p := ⟨g, 1, none⟩) h.lt).trans h.c1, (hb.cell (p := ⟨g, 2, none⟩) h.lt).trans h.c2, (hb.cell (p := ⟨g, 3, none⟩) h.lt).trans h.c3, (hb.cell (p := ⟨g, 4, none⟩) h.lt).trans h.c4, (hb.cell (p := ⟨g, 5, none⟩) h.lt).trans h.c5, (hb.cell (p := ⟨g, 6, none⟩) h.lt).trans h.c6, (hb.cell (p := ⟨g, 7, none⟩) h.lt).trans h.c7, Nat.lt_of_lt_of_le h.lt hb.size⟩
theorem Fns.new (w : World) (T : Nat) : Fns (w.alloc (.cells #[.func (.func 23) #[] #[], .func (.func 24) #[] #[], .func (.func 29) #[] #[], .func (.func 31) #[] #[], .func (.func 19) #[] #[], .func (.func 42) #[] #[], .func (.func 43) #[] #[], .func (.func 44) #[] #[]] T)) w.heap.size :=
  ⟨by rw [World.cell?_alloc_new]; rfl, by rw [World.cell?_alloc_new]; rfl, by rw [World.cell?_alloc_new]; rfl, by rw [World.cell?_alloc_new]; rfl, by rw [World.cell?_alloc_new]; rfl, by rw [World.cell?_alloc_new]; rfl, by rw [World.cell?_alloc_new]; rfl, by rw [World.cell?_alloc_new]; rfl, by simp⟩
/-- what a function answers for the intervals, and for their numbers -/
def Parts (f : Nat) (a b c d x y : Int) : Prop :=
  ∃ R S : Fx, (∀ wx, Calls Try.prog f #[.agg #[.int .i64 a, .int .i64 b], .agg #[.int .i64 c, .int .i64 d]] wx fun e w' => e = .returned (.tuple #[.agg #[.int .i64 R.l, .int .i64 R.h], .int .i64 R.e]) ∧ Below wx.heap.size wx w') ∧
    (∀ wx, Calls Try.prog f #[.agg #[.int .i64 x, .int .i64 x], .agg #[.int .i64 y, .int .i64 y]] wx fun e w' => e = .returned (.tuple #[.agg #[.int .i64 S.l, .int .i64 S.h], .int .i64 S.e]) ∧ Below wx.heap.size wx w') ∧
    (R.e ≠ 0 ∨ (R.e = 0 ∧ S.e = 0 ∧ insideR S.l S.h R.l R.h = true) ∨ (R.e = 0 ∧ S.e = 2))
theorem ways_of {R S : Fx} (h : Cont R S) : R.e ≠ 0 ∨ (R.e = 0 ∧ S.e = 0 ∧ insideR S.l S.h R.l R.h = true) ∨ (R.e = 0 ∧ S.e = 2) := by
  by_cases e : R.e = 0
  · rcases h e with k | k
    · exact .inr (.inl ⟨e, k.1, k.2⟩)
    · exact .inr (.inr ⟨e, k⟩)
  · exact .inl e
theorem fok_one {a b x : Int} (h : fok a b = true) (h1 : a ≤ x) (h2 : x ≤ b) : fok x x = true := by
  have := (fok_iff _ _).1 h
  exact fok_mk (by omega) (by omega) (by omega)
theorem parts0 (P : FxProg) {a b c d x y : Int} (ha : fok a b = true) (hc : fok c d = true) (h1 : a ≤ x) (h2 : x ≤ b) (h3 : c ≤ y) (h4 : y ≤ d) : Parts 23 a b c d x y := by
  have fx := fok_one ha h1 h2
  have fy := fok_one hc h3 h4
  exact ⟨addR a b c d, addR x x y y, fun wx => told _ _ _ (vF_yes _ (by rw [ha, hc]; rfl)) (P.add a b c d wx), fun wx => told _ _ _ (vF_yes _ (by rw [fx, fy]; rfl)) (P.add x x y y wx), ways_of (cont_add h1 h2 h3 h4)⟩
theorem parts1 (P : FxProg) {a b c d x y : Int} (ha : fok a b = true) (hc : fok c d = true) (h1 : a ≤ x) (h2 : x ≤ b) (h3 : c ≤ y) (h4 : y ≤ d) : Parts 24 a b c d x y := by
  have fx := fok_one ha h1 h2
  have fy := fok_one hc h3 h4
  exact ⟨subR a b c d, subR x x y y, fun wx => told _ _ _ (vF_yes _ (by rw [ha, hc]; rfl)) (P.sub a b c d wx), fun wx => told _ _ _ (vF_yes _ (by rw [fx, fy]; rfl)) (P.sub x x y y wx), ways_of (cont_sub h1 h2 h3 h4)⟩
theorem parts2 (P : FxProg) {a b c d x y : Int} (ha : fok a b = true) (hc : fok c d = true) (h1 : a ≤ x) (h2 : x ≤ b) (h3 : c ≤ y) (h4 : y ≤ d) : Parts 29 a b c d x y := by
  have fx := fok_one ha h1 h2
  have fy := fok_one hc h3 h4
  exact ⟨mulR a b c d, mulR x x y y, fun wx => told _ _ _ (vF_yes _ (by rw [ha, hc]; rfl)) (P.mul a b c d wx), fun wx => told _ _ _ (vF_yes _ (by rw [fx, fy]; rfl)) (P.mul x x y y wx), ways_of (cont_mul h1 h2 h3 h4)⟩
theorem parts3 (P : FxProg) {a b c d x y : Int} (ha : fok a b = true) (hc : fok c d = true) (h1 : a ≤ x) (h2 : x ≤ b) (h3 : c ≤ y) (h4 : y ≤ d) : Parts 31 a b c d x y := by
  have fx := fok_one ha h1 h2
  have fy := fok_one hc h3 h4
  exact ⟨divR a b c d, divR x x y y, fun wx => told _ _ _ (vF_yes _ (by rw [ha, hc]; rfl)) (P.div a b c d wx), fun wx => told _ _ _ (vF_yes _ (by rw [fx, fy]; rfl)) (P.div x x y y wx), ways_of (cont_div h1 h2 h3 h4)⟩
theorem parts4 (P : FxProg) {a b c d x y : Int} (ha : fok a b = true) (hc : fok c d = true) (h1 : a ≤ x) (h2 : x ≤ b) (h3 : c ≤ y) (h4 : y ≤ d) : Parts 19 a b c d x y := by
  have fx := fok_one ha h1 h2
  have fy := fok_one hc h3 h4
  exact ⟨hullR a b c d, hullR x x y y, fun wx => told _ _ _ (vF_yes _ (by rw [ha, hc]; rfl)) (P.hull a b c d wx), fun wx => told _ _ _ (vF_yes _ (by rw [fx, fy]; rfl)) (P.hull x x y y wx), ways_of (cont_hull ha hc h1 h2 h3 h4)⟩
theorem parts5 (P : FxProg) {a b c d x y : Int} (ha : fok a b = true) (hc : fok c d = true) (h1 : a ≤ x) (h2 : x ≤ b) (h3 : c ≤ y) (h4 : y ≤ d) : Parts 42 a b c d x y := by
  have fx := fok_one ha h1 h2
  have fy := fok_one hc h3 h4
  exact ⟨squareR a b, squareR x x, fun wx => told _ _ _ (vF_yes _ ha) (square_any P a b c d wx), fun wx => told _ _ _ (vF_yes _ fx) (square_any P x x y y wx), ways_of (cont_square h1 h2)⟩
theorem parts6 (P : FxProg) {a b c d x y : Int} (ha : fok a b = true) (hc : fok c d = true) (h1 : a ≤ x) (h2 : x ≤ b) (h3 : c ≤ y) (h4 : y ≤ d) : Parts 43 a b c d x y := by
  have fx := fok_one ha h1 h2
  have fy := fok_one hc h3 h4
  exact ⟨sqrtR a b, sqrtR x x, fun wx => told _ _ _ (vF_yes _ ha) (root_any P a b c d wx), fun wx => told _ _ _ (vF_yes _ fx) (root_any P x x y y wx), ways_of (cont_root ha h1 h2)⟩
theorem parts7 (P : FxProg) {a b c d x y : Int} (ha : fok a b = true) (hc : fok c d = true) (h1 : a ≤ x) (h2 : x ≤ b) (h3 : c ≤ y) (h4 : y ≤ d) : Parts 44 a b c d x y := by
  have fx := fok_one ha h1 h2
  have fy := fok_one hc h3 h4
  exact ⟨negR a b, negR x x, fun wx => told _ _ _ (vF_yes _ ha) (negative_any P a b c d wx), fun wx => told _ _ _ (vF_yes _ fx) (negative_any P x x y y wx), ways_of (cont_neg ha h1 h2)⟩

set_option maxRecDepth 100000 in
set_option maxHeartbeats 16000000 in
theorem contains_good (P : FxProg) (a b c d i k n : Int) (w : World) (ha : fok a b = true) (hc : fok c d = true) (i1 : 0 ≤ i) (i2 : i ≤ 4294967295) (k1 : 0 ≤ k) (k2 : k ≤ 4294967295) (n1 : -9223372036854775808 ≤ n) (n2 : n ≤ 9223372036854775807) :
    Calls Try.prog 8 #[.agg #[.int .i64 a, .int .i64 b], .agg #[.int .i64 c, .int .i64 d], .int .u32 i, .int .u32 k, .int .i64 n] w fun e w' => e = .returned (.bool true) ∧ Below w.heap.size w w' := by
  have CA := Lib.hid (fun wx => awake_any P wx)
  have V1 := Lib.hid (fun wx => rValid_is a b true ha wx)
  have V2 := Lib.hid (fun wx => rValid_is c d true hc wx)
  have W1 := Lib.hid (fun wx => within_any a b i wx ha i1 i2)
  have W2 := Lib.hid (fun wx => within_any c d k wx hc k1 k2)
  have hx := wtn_in (k := i) ((fok_iff _ _).1 ha).2.2
  have hy := wtn_in (k := k) ((fok_iff _ _).1 hc).2.2
  generalize wtn a b i = x at *
  generalize wtn c d k = y at *
  have K0 := Lib.hid (parts0 P ha hc hx.1 hx.2 hy.1 hy.2)
  have K1 := Lib.hid (parts1 P ha hc hx.1 hx.2 hy.1 hy.2)
  have K2 := Lib.hid (parts2 P ha hc hx.1 hx.2 hy.1 hy.2)
  have K3 := Lib.hid (parts3 P ha hc hx.1 hx.2 hy.1 hy.2)
  have K4 := Lib.hid (parts4 P ha hc hx.1 hx.2 hy.1 hy.2)
  have K5 := Lib.hid (parts5 P ha hc hx.1 hx.2 hy.1 hy.2)
  have K6 := Lib.hid (parts6 P ha hc hx.1 hx.2 hy.1 hy.2)
  have K7 := Lib.hid (parts7 P ha hc hx.1 hx.2 hy.1 hy.2)
  have fx := fok_one ha hx.1 hx.2
  have fy := fok_one hc hy.1 hy.2
  have KS : Hid (∃ R S : Fx, (∀ wx, Calls Try.prog 37 #[.agg #[.int .i64 a, .int .i64 b], .int .i64 n] wx fun e w' => e = .returned (.tuple #[.int .i64 R.l, .int .i64 R.h, .int .i64 R.e]) ∧ Below wx.heap.size wx w') ∧ (∀ wx, Calls Try.prog 37 #[.agg #[.int .i64 x, .int .i64 x], .int .i64 n] wx fun e w' => e = .returned (.tuple #[.int .i64 S.l, .int .i64 S.h, .int .i64 S.e]) ∧ Below wx.heap.size wx w') ∧ ((R.e = 0 ∧ S.e = 0 ∧ R.l ≤ S.l ∧ S.l ≤ S.h ∧ S.h ≤ R.h) ∨ (R.e = 2 ∧ S.e = 2))) := by
    refine ⟨scaleR a b n, scaleR x x n, fun wx => toldS _ _ _ (vF_yes _ ha) (P.scale a b n wx n1 n2), fun wx => toldS _ _ _ (vF_yes _ fx) (P.scale x x n wx n1 n2), ?_⟩
    obtain ⟨g1, g2⟩ := cont_scale (n := n) hx.1 hx.2
    by_cases hn : reach n = true
    · have e0 : (scaleR a b n).e = 0 := by unfold scaleR; rw [if_pos hn]
      exact .inl ⟨e0, g1 ▸ e0, g2 e0⟩
    · have e0 : (scaleR a b n).e = 2 := by unfold scaleR; rw [if_neg hn]
      exact .inr ⟨e0, g1 ▸ e0⟩
  have KQ : Hid (∃ R S : Fx, (∀ wx, Calls Try.prog 38 #[.agg #[.int .i64 a, .int .i64 b], .agg #[.int .i64 c, .int .i64 d], .int .i64 n] wx fun e w' => e = .returned (.tuple #[.int .i64 R.l, .int .i64 R.h, .int .i64 R.e]) ∧ Below wx.heap.size wx w') ∧ (∀ wx, Calls Try.prog 38 #[.agg #[.int .i64 x, .int .i64 x], .agg #[.int .i64 y, .int .i64 y], .int .i64 n] wx fun e w' => e = .returned (.tuple #[.int .i64 S.l, .int .i64 S.h, .int .i64 S.e]) ∧ Below wx.heap.size wx w') ∧ ((R.e = 0 ∧ S.e = 0 ∧ R.l ≤ S.l ∧ S.l ≤ S.h ∧ S.h ≤ R.h) ∨ R.e ≠ 0)) := by
    refine ⟨quotR a b c d n, quotR x x y y n, fun wx => toldS _ _ _ (vF_yes _ (by rw [ha, hc]; rfl)) (P.quotient a b c d n wx n1 n2), fun wx => toldS _ _ _ (vF_yes _ (by rw [fx, fy]; rfl)) (P.quotient x x y y n wx n1 n2), ?_⟩
    by_cases e0 : (quotR a b c d n).e = 0
    · exact .inl ⟨e0, cont_quot hx.1 hx.2 hy.1 hy.2 e0⟩
    · exact .inr e0
  clear hx hy fx fy ha hc i1 i2 k1 k2 n1 n2
  have A := At2.new w (.int .i64 a) (.int .i64 b) 23
  have A := A.alloc (.cells #[.int .i64 c, .int .i64 d] 23)
  have B := At2.new (w.alloc (.cells #[.int .i64 a, .int .i64 b] 23)) (.int .i64 c) (.int .i64 d) 23
  simp at B
  have HB := Lib.hid (bstep (bstep (Below.refl w.heap.size w) (below1 w (.cells #[.int .i64 a, .int .i64 b] 23))) (below1 (w.alloc (.cells #[.int .i64 a, .int .i64 b] 23)) (.cells #[.int .i64 c, .int .i64 d] 23)))
  go_enter Try.func8, Try.ntmps8
  obtain ⟨A0, A1, -, -, -⟩ := id A
  obtain ⟨B0, B1, -, -, -⟩ := id B
  go_wp2_with fail
  refine (CA.out _).mono ?_
  rintro e w1 ⟨rfl, hb⟩
  have A := (A.keep hb)
  have B := (B.keep hb)
  have HB := Lib.hid (bstep HB.out hb)
  clear hb
  clear A0 A1 B0 B1
  obtain ⟨A0, A1, -, -, -⟩ := id A
  obtain ⟨B0, B1, -, -, -⟩ := id B
  go_wp2_with fail
  refine (V1.out _).mono ?_
  rintro e w2 ⟨rfl, hb⟩
  have A := (A.keep hb)
  have B := (B.keep hb)
  have HB := Lib.hid (bstep HB.out hb)
  clear hb
  clear A0 A1 B0 B1
  obtain ⟨A0, A1, -, -, -⟩ := id A
  obtain ⟨B0, B1, -, -, -⟩ := id B
  go_wp2_with fail
  refine (V2.out _).mono ?_
  rintro e w3 ⟨rfl, hb⟩
  have A := (A.keep hb)
  have B := (B.keep hb)
  have HB := Lib.hid (bstep HB.out hb)
  clear hb
  clear A0 A1 B0 B1
  obtain ⟨A0, A1, -, -, -⟩ := id A
  obtain ⟨B0, B1, -, -, -⟩ := id B
  go_upto_region 5 with fail
  go_cut [11, 12] from 35 to 40 (fun v11 v12 wx => ∃ p q : Nat, v11 = .pointer (some ⟨p, 0, none⟩) ∧ v12 = .pointer (some ⟨q, 0, none⟩) ∧ Hid (Got w wx a b c d x y p q))
  case first =>
    have zA3 : ¬ w.heap.size = w3.heap.size := (by have := A.lt; omega); have yA3 : ¬ w3.heap.size = w.heap.size := (by have := A.lt; omega); have zB3 : ¬ w.heap.size + 1 = w3.heap.size := (by have := B.lt; omega); have yB3 : ¬ w3.heap.size = w.heap.size + 1 := (by have := B.lt; omega); have xA3 : ¬ w.heap.size = w3.heap.size + 1 := (by have := A.lt; omega); have vA3 : ¬ w3.heap.size + 1 = w.heap.size := (by have := A.lt; omega); have G3 := Lib.hid B.lt
    go_region_held3 (fun w' => w'.cell? ⟨w.heap.size, 0, none⟩ = some (.int .i64 a) ∧ w'.cell? ⟨w.heap.size, 1, none⟩ = some (.int .i64 b) ∧ w'.cell? ⟨w.heap.size + 1, 0, none⟩ = some (.int .i64 c) ∧ w'.cell? ⟨w.heap.size + 1, 1, none⟩ = some (.int .i64 d)) (go_keep)
      (first
      | (go_at_call 41; ((with_reducible refine (W1.out (World.drew w3)).mono ?_); rintro e w4 ⟨rfl, hb⟩; clear A0 A1 B0 B1; have A := (A.dr).keep hb; have B := (B.dr).keep hb; have HB := Lib.hid (bstep HB.out (bdrew hb)); obtain ⟨A0, A1, -, -, -⟩ := id A; obtain ⟨B0, B1, -, -, -⟩ := id B; have zA4 : ¬ w.heap.size = w4.heap.size := (by have := A.lt; omega); have yA4 : ¬ w4.heap.size = w.heap.size := (by have := A.lt; omega); have zB4 : ¬ w.heap.size + 1 = w4.heap.size := (by have := B.lt; omega); have yB4 : ¬ w4.heap.size = w.heap.size + 1 := (by have := B.lt; omega); have xA4 : ¬ w.heap.size = w4.heap.size + 1 := (by have := A.lt; omega); have vA4 : ¬ w4.heap.size + 1 = w.heap.size := (by have := A.lt; omega); have G4 := Lib.hid B.lt; clear hb))
      | (go_at_call 41; ((with_reducible refine (W1.out (World.drew (World.alloc w3 _))).mono ?_); rintro e w4 ⟨rfl, hb⟩; clear A0 A1 B0 B1; have A := ((A.alloc _).dr).keep hb; have B := ((B.alloc _).dr).keep hb; have HB := Lib.hid (bstep HB.out (alloc_below (bdrew hb))); obtain ⟨A0, A1, -, -, -⟩ := id A; obtain ⟨B0, B1, -, -, -⟩ := id B; have N1 := ((At2.new w3 (.int .i64 0) (.int .i64 0) 23)).dr.keep hb; obtain ⟨N10, N11, N1f, N1g, N1l⟩ := id N1; have q34 : ¬ w3.heap.size = w4.heap.size := (by have := N1.lt; omega); have q43 : ¬ w4.heap.size = w3.heap.size := (by have := N1.lt; omega); have zA4 : ¬ w.heap.size = w4.heap.size := (by have := A.lt; omega); have yA4 : ¬ w4.heap.size = w.heap.size := (by have := A.lt; omega); have zB4 : ¬ w.heap.size + 1 = w4.heap.size := (by have := B.lt; omega); have yB4 : ¬ w4.heap.size = w.heap.size + 1 := (by have := B.lt; omega); have xA4 : ¬ w.heap.size = w4.heap.size + 1 := (by have := A.lt; omega); have vA4 : ¬ w4.heap.size + 1 = w.heap.size := (by have := A.lt; omega); have G4 := Lib.hid B.lt; clear hb))
      | (go_at_call 41; ((with_reducible refine (W1.out (World.drew (World.alloc (World.alloc w3 _) _))).mono ?_); rintro e w4 ⟨rfl, hb⟩; clear A0 A1 B0 B1; have A := (((A.alloc _).alloc _).dr).keep hb; have B := (((B.alloc _).alloc _).dr).keep hb; have HB := Lib.hid (bstep HB.out (alloc_below (alloc_below (bdrew hb)))); obtain ⟨A0, A1, -, -, -⟩ := id A; obtain ⟨B0, B1, -, -, -⟩ := id B; have N1 := ((At2.new w3 (.int .i64 0) (.int .i64 0) 23).alloc _).dr.keep hb; obtain ⟨N10, N11, N1f, N1g, N1l⟩ := id N1; have q34 : ¬ w3.heap.size = w4.heap.size := (by have := N1.lt; omega); have q43 : ¬ w4.heap.size = w3.heap.size := (by have := N1.lt; omega); have N2 := (At2.new (w3.alloc (.cells #[.int .i64 0, .int .i64 0] 23)) (.int .i64 0) (.int .i64 0) 23).dr.keep hb; simp at N2; obtain ⟨N20, N21, N2f, N2g, N2l⟩ := id N2; have zA4 : ¬ w.heap.size = w4.heap.size := (by have := A.lt; omega); have yA4 : ¬ w4.heap.size = w.heap.size := (by have := A.lt; omega); have zB4 : ¬ w.heap.size + 1 = w4.heap.size := (by have := B.lt; omega); have yB4 : ¬ w4.heap.size = w.heap.size + 1 := (by have := B.lt; omega); have xA4 : ¬ w.heap.size = w4.heap.size + 1 := (by have := A.lt; omega); have vA4 : ¬ w4.heap.size + 1 = w.heap.size := (by have := A.lt; omega); have G4 := Lib.hid B.lt; clear hb))
      | (go_at_call 41; ((with_reducible refine (W2.out w4).mono ?_); rintro e w5 ⟨rfl, hb⟩; clear A0 A1 B0 B1; have A := A.keep hb; have B := B.keep hb; have HB := Lib.hid (bstep HB.out (hb)); obtain ⟨A0, A1, -, -, -⟩ := id A; obtain ⟨B0, B1, -, -, -⟩ := id B; (try (have N1 := N1.keep hb; clear N10 N11 N1f N1g N1l; obtain ⟨N10, N11, N1f, N1g, N1l⟩ := id N1; have q35 : ¬ w3.heap.size = w5.heap.size := (by have := N1.lt; omega); have q53 : ¬ w5.heap.size = w3.heap.size := (by have := N1.lt; omega))); (try (have N2 := N2.keep hb; clear N20 N21 N2f N2g N2l; obtain ⟨N20, N21, N2f, N2g, N2l⟩ := id N2)); have zA5 : ¬ w.heap.size = w5.heap.size := (by have := A.lt; omega); have yA5 : ¬ w5.heap.size = w.heap.size := (by have := A.lt; omega); have zB5 : ¬ w.heap.size + 1 = w5.heap.size := (by have := B.lt; omega); have yB5 : ¬ w5.heap.size = w.heap.size + 1 := (by have := B.lt; omega); have xA5 : ¬ w.heap.size = w5.heap.size + 1 := (by have := A.lt; omega); have vA5 : ¬ w5.heap.size + 1 = w.heap.size := (by have := A.lt; omega); have G5 := Lib.hid B.lt; clear hb))
      | (go_at_call 41; ((with_reducible refine (W2.out (World.alloc w4 _)).mono ?_); rintro e w5 ⟨rfl, hb⟩; clear A0 A1 B0 B1; have A := (A.alloc _).keep hb; have B := (B.alloc _).keep hb; have HB := Lib.hid (bstep HB.out (alloc_below (hb))); obtain ⟨A0, A1, -, -, -⟩ := id A; obtain ⟨B0, B1, -, -, -⟩ := id B; (try (have N1 := (N1.alloc _).keep hb; clear N10 N11 N1f N1g N1l; obtain ⟨N10, N11, N1f, N1g, N1l⟩ := id N1; have q35 : ¬ w3.heap.size = w5.heap.size := (by have := N1.lt; omega); have q53 : ¬ w5.heap.size = w3.heap.size := (by have := N1.lt; omega))); (try (have N2 := (N2.alloc _).keep hb; clear N20 N21 N2f N2g N2l; obtain ⟨N20, N21, N2f, N2g, N2l⟩ := id N2)); have M1 := ((At2.new w4 (.int .i64 0) (.int .i64 0) 23)).keep hb; obtain ⟨M10, M11, M1f, M1g, M1l⟩ := id M1; have q45 : ¬ w4.heap.size = w5.heap.size := (by have := M1.lt; omega); have q54 : ¬ w5.heap.size = w4.heap.size := (by have := M1.lt; omega); have zA5 : ¬ w.heap.size = w5.heap.size := (by have := A.lt; omega); have yA5 : ¬ w5.heap.size = w.heap.size := (by have := A.lt; omega); have zB5 : ¬ w.heap.size + 1 = w5.heap.size := (by have := B.lt; omega); have yB5 : ¬ w5.heap.size = w.heap.size + 1 := (by have := B.lt; omega); have xA5 : ¬ w.heap.size = w5.heap.size + 1 := (by have := A.lt; omega); have vA5 : ¬ w5.heap.size + 1 = w.heap.size := (by have := A.lt; omega); have G5 := Lib.hid B.lt; clear hb))
      | (go_at_call 41; ((with_reducible refine (W2.out (World.alloc (World.alloc w4 _) _)).mono ?_); rintro e w5 ⟨rfl, hb⟩; clear A0 A1 B0 B1; have A := ((A.alloc _).alloc _).keep hb; have B := ((B.alloc _).alloc _).keep hb; have HB := Lib.hid (bstep HB.out (alloc_below (alloc_below (hb)))); obtain ⟨A0, A1, -, -, -⟩ := id A; obtain ⟨B0, B1, -, -, -⟩ := id B; (try (have N1 := ((N1.alloc _).alloc _).keep hb; clear N10 N11 N1f N1g N1l; obtain ⟨N10, N11, N1f, N1g, N1l⟩ := id N1; have q35 : ¬ w3.heap.size = w5.heap.size := (by have := N1.lt; omega); have q53 : ¬ w5.heap.size = w3.heap.size := (by have := N1.lt; omega))); (try (have N2 := ((N2.alloc _).alloc _).keep hb; clear N20 N21 N2f N2g N2l; obtain ⟨N20, N21, N2f, N2g, N2l⟩ := id N2)); have M1 := ((At2.new w4 (.int .i64 0) (.int .i64 0) 23).alloc _).keep hb; obtain ⟨M10, M11, M1f, M1g, M1l⟩ := id M1; have q45 : ¬ w4.heap.size = w5.heap.size := (by have := M1.lt; omega); have q54 : ¬ w5.heap.size = w4.heap.size := (by have := M1.lt; omega); have M2 := (At2.new (w4.alloc (.cells #[.int .i64 0, .int .i64 0] 23)) (.int .i64 0) (.int .i64 0) 23).keep hb; simp at M2; obtain ⟨M20, M21, M2f, M2g, M2l⟩ := id M2; have zA5 : ¬ w.heap.size = w5.heap.size := (by have := A.lt; omega); have yA5 : ¬ w5.heap.size = w.heap.size := (by have := A.lt; omega); have zB5 : ¬ w.heap.size + 1 = w5.heap.size := (by have := B.lt; omega); have yB5 : ¬ w5.heap.size = w.heap.size + 1 := (by have := B.lt; omega); have xA5 : ¬ w.heap.size = w5.heap.size + 1 := (by have := A.lt; omega); have vA5 : ¬ w5.heap.size + 1 = w.heap.size := (by have := A.lt; omega); have G5 := Lib.hid B.lt; clear hb)))
    all_goals
      go_wp2_with fail
      go_meet
    all_goals
      first
      | (with_reducible exact ⟨_, _, rfl, rfl, Lib.hid (got1 A B HB.out)⟩)
      | (with_reducible exact ⟨_, _, rfl, rfl, Lib.hid (got1' A B HB.out)⟩)
      | (with_reducible exact ⟨_, _, rfl, rfl, Lib.hid (got2 N1 A B HB.out (by have := G3.out; omega))⟩)
      | (with_reducible exact ⟨_, _, rfl, rfl, Lib.hid (got2' N1 A B HB.out (by have := G3.out; omega))⟩)
      | (with_reducible exact ⟨_, _, rfl, rfl, Lib.hid (got2 M1 A B HB.out (by have := G4.out; omega))⟩)
      | (with_reducible exact ⟨_, _, rfl, rfl, Lib.hid (got2' M1 A B HB.out (by have := G4.out; omega))⟩)
      | (with_reducible exact ⟨_, _, rfl, rfl, Lib.hid (got3 N1 M1 A B HB.out (by have := G3.out; omega) (by have := G4.out; omega) (by first | assumption | omega))⟩)
      | (with_reducible exact ⟨_, _, rfl, rfl, Lib.hid (got3 M1 N1 A B HB.out (by have := G4.out; omega) (by have := G3.out; omega) (by first | assumption | omega))⟩)
      | (with_reducible exact ⟨_, _, rfl, rfl, Lib.hid (got3 N1 N2 A B HB.out (by have := G3.out; omega) (by have := G3.out; omega) (by first | assumption | omega))⟩)
      | (with_reducible exact ⟨_, _, rfl, rfl, Lib.hid (got3 N2 N1 A B HB.out (by have := G3.out; omega) (by have := G3.out; omega) (by first | assumption | omega))⟩)
      | (with_reducible exact ⟨_, _, rfl, rfl, Lib.hid (got3 M1 M2 A B HB.out (by have := G4.out; omega) (by have := G4.out; omega) (by first | assumption | omega))⟩)
      | (with_reducible exact ⟨_, _, rfl, rfl, Lib.hid (got3 M2 M1 A B HB.out (by have := G4.out; omega) (by have := G4.out; omega) (by first | assumption | omega))⟩)
  case rest =>
    obtain ⟨p, q, rfl, rfl, HG⟩ := hcut
    clear A0 A1 B0 B1 A B HB
    have HF := Lib.hid (Fns.new wc 33)
    have HG := Lib.hid (HG.out.keep (below1 wc (.cells #[.func (.func 23) #[] #[], .func (.func 24) #[] #[], .func (.func 29) #[] #[], .func (.func 31) #[] #[], .func (.func 19) #[] #[], .func (.func 42) #[] #[], .func (.func 43) #[] #[], .func (.func 44) #[] #[]] 33)))
    obtain ⟨g, hg⟩ : ∃ g, wc.heap.size = g := ⟨_, rfl⟩
    rw [hg] at HF
    go_wp2_with fail
    go_loopg [14, 15, 16, 17, 18, 43] 8 (fun m v14 v15 v16 v17 v18 v43 wr => ∃ j : Nat, m = 8 - j ∧ v43 = .int .i64 (j : Int) ∧ Hid (j ≤ 8) ∧ Hid (Got w wr a b c d x y p q) ∧ Hid (Fns wr g))
    case atStart => exact ⟨0, rfl, rfl, Nat.zero_le _, HG, HF⟩
    case round =>
      obtain ⟨j, hm, rfl, HJ, HG, HF⟩ := hrel
      have HM := Lib.hid hm
      clear hm
      by_cases hj : j < 8
      · rcases (show j = 0 ∨ j = 1 ∨ j = 2 ∨ j = 3 ∨ j = 4 ∨ j = 5 ∨ j = 6 ∨ j = 7 by omega) with rfl | rfl | rfl | rfl | rfl | rfl | rfl | rfl
        · obtain ⟨R, S, C, D, ways⟩ := K0.out
          have C := Lib.hid C
          have D := Lib.hid D
          have cj := HF.out.c0
          clear hj
          rcases ways with e0 | ⟨e0, e1, e2⟩ | ⟨e0, e1⟩
          · have t0 : (R.e == 0) = false := beq_eq_false_iff_ne.2 e0
            clear e0
            obtain ⟨⟨X0, X1, -, -, -⟩, ⟨Y0, Y1, -, -, -⟩, ⟨A0, A1, -, -, -⟩, ⟨B0, B1, -, -, -⟩, -⟩ := id HG.out
            go_wp2_with fail
            refine (C.out _).mono ?_
            rintro e v1 ⟨rfl, hb⟩
            have HG := Lib.hid ((HG.out.keep hb).keep (below1 _ (.cells #[.int .i64 R.l, .int .i64 R.h] 23)))
            have HF := Lib.hid ((HF.out.keep hb).keep (below1 _ (.cells #[.int .i64 R.l, .int .i64 R.h] 23)))
            have E := At2.new v1 (.int .i64 R.l) (.int .i64 R.h) 23
            clear hb cj
            clear X0 X1 Y0 Y1 A0 A1 B0 B1
            obtain ⟨⟨X0, X1, -, -, -⟩, ⟨Y0, Y1, -, -, -⟩, ⟨A0, A1, -, -, -⟩, ⟨B0, B1, -, -, -⟩, -⟩ := id HG.out
            go_wp2_with fail
            refine (D.out _).mono ?_
            rintro e v2 ⟨rfl, hb⟩
            have HG := Lib.hid ((HG.out.keep hb).keep (below1 _ (.cells #[.int .i64 S.l, .int .i64 S.h] 23)))
            have HF := Lib.hid ((HF.out.keep hb).keep (below1 _ (.cells #[.int .i64 S.l, .int .i64 S.h] 23)))
            have E := (E.keep hb).alloc (.cells #[.int .i64 S.l, .int .i64 S.h] 23)
            have G := At2.new v2 (.int .i64 S.l) (.int .i64 S.h) 23
            clear hb
            clear X0 X1 Y0 Y1 A0 A1 B0 B1
            obtain ⟨⟨X0, X1, -, -, -⟩, ⟨Y0, Y1, -, -, -⟩, ⟨A0, A1, -, -, -⟩, ⟨B0, B1, -, -, -⟩, -⟩ := id HG.out
            obtain ⟨E0, E1, -, -, -⟩ := id E
            obtain ⟨G0, G1, -, -, -⟩ := id G
            go_wp2_with fail
            go_roundg (8 - (0 + 1))
            case measure => have := HM.out; omega
            case rel => exact ⟨0 + 1, rfl, rfl, (by show 0 + 1 ≤ 8; omega), HG, HF⟩
          · rw [e0] at C
            rw [e1] at D
            have CI := Lib.hid (fun wx => told1 true e2 (P.inside S.l S.h R.l R.h wx))
            clear e0 e1 e2
            obtain ⟨⟨X0, X1, -, -, -⟩, ⟨Y0, Y1, -, -, -⟩, ⟨A0, A1, -, -, -⟩, ⟨B0, B1, -, -, -⟩, -⟩ := id HG.out
            go_wp2_with fail
            refine (C.out _).mono ?_
            rintro e v1 ⟨rfl, hb⟩
            have HG := Lib.hid ((HG.out.keep hb).keep (below1 _ (.cells #[.int .i64 R.l, .int .i64 R.h] 23)))
            have HF := Lib.hid ((HF.out.keep hb).keep (below1 _ (.cells #[.int .i64 R.l, .int .i64 R.h] 23)))
            have E := At2.new v1 (.int .i64 R.l) (.int .i64 R.h) 23
            clear hb cj
            clear X0 X1 Y0 Y1 A0 A1 B0 B1
            obtain ⟨⟨X0, X1, -, -, -⟩, ⟨Y0, Y1, -, -, -⟩, ⟨A0, A1, -, -, -⟩, ⟨B0, B1, -, -, -⟩, -⟩ := id HG.out
            go_wp2_with fail
            refine (D.out _).mono ?_
            rintro e v2 ⟨rfl, hb⟩
            have HG := Lib.hid ((HG.out.keep hb).keep (below1 _ (.cells #[.int .i64 S.l, .int .i64 S.h] 23)))
            have HF := Lib.hid ((HF.out.keep hb).keep (below1 _ (.cells #[.int .i64 S.l, .int .i64 S.h] 23)))
            have E := (E.keep hb).alloc (.cells #[.int .i64 S.l, .int .i64 S.h] 23)
            have G := At2.new v2 (.int .i64 S.l) (.int .i64 S.h) 23
            clear hb
            clear X0 X1 Y0 Y1 A0 A1 B0 B1
            obtain ⟨⟨X0, X1, -, -, -⟩, ⟨Y0, Y1, -, -, -⟩, ⟨A0, A1, -, -, -⟩, ⟨B0, B1, -, -, -⟩, -⟩ := id HG.out
            obtain ⟨E0, E1, -, -, -⟩ := id E
            obtain ⟨G0, G1, -, -, -⟩ := id G
            go_wp2_with fail
            refine (CI.out _).mono ?_
            rintro e v3 ⟨rfl, hb⟩
            have HG := Lib.hid (HG.out.keep hb)
            have HF := Lib.hid (HF.out.keep hb)
            clear hb
            clear E0 E1 G0 G1
            clear X0 X1 Y0 Y1 A0 A1 B0 B1
            go_wp2_with fail
            go_roundg (8 - (0 + 1))
            case measure => have := HM.out; omega
            case rel => exact ⟨0 + 1, rfl, rfl, (by show 0 + 1 ≤ 8; omega), HG, HF⟩
          · rw [e0] at C
            rw [e1] at D
            clear e0 e1
            obtain ⟨⟨X0, X1, -, -, -⟩, ⟨Y0, Y1, -, -, -⟩, ⟨A0, A1, -, -, -⟩, ⟨B0, B1, -, -, -⟩, -⟩ := id HG.out
            go_wp2_with fail
            refine (C.out _).mono ?_
            rintro e v1 ⟨rfl, hb⟩
            have HG := Lib.hid ((HG.out.keep hb).keep (below1 _ (.cells #[.int .i64 R.l, .int .i64 R.h] 23)))
            have HF := Lib.hid ((HF.out.keep hb).keep (below1 _ (.cells #[.int .i64 R.l, .int .i64 R.h] 23)))
            have E := At2.new v1 (.int .i64 R.l) (.int .i64 R.h) 23
            clear hb cj
            clear X0 X1 Y0 Y1 A0 A1 B0 B1
            obtain ⟨⟨X0, X1, -, -, -⟩, ⟨Y0, Y1, -, -, -⟩, ⟨A0, A1, -, -, -⟩, ⟨B0, B1, -, -, -⟩, -⟩ := id HG.out
            go_wp2_with fail
            refine (D.out _).mono ?_
            rintro e v2 ⟨rfl, hb⟩
            have HG := Lib.hid ((HG.out.keep hb).keep (below1 _ (.cells #[.int .i64 S.l, .int .i64 S.h] 23)))
            have HF := Lib.hid ((HF.out.keep hb).keep (below1 _ (.cells #[.int .i64 S.l, .int .i64 S.h] 23)))
            have E := (E.keep hb).alloc (.cells #[.int .i64 S.l, .int .i64 S.h] 23)
            have G := At2.new v2 (.int .i64 S.l) (.int .i64 S.h) 23
            clear hb
            clear X0 X1 Y0 Y1 A0 A1 B0 B1
            obtain ⟨⟨X0, X1, -, -, -⟩, ⟨Y0, Y1, -, -, -⟩, ⟨A0, A1, -, -, -⟩, ⟨B0, B1, -, -, -⟩, -⟩ := id HG.out
            obtain ⟨E0, E1, -, -, -⟩ := id E
            obtain ⟨G0, G1, -, -, -⟩ := id G
            go_wp2_with fail
            go_roundg (8 - (0 + 1))
            case measure => have := HM.out; omega
            case rel => exact ⟨0 + 1, rfl, rfl, (by show 0 + 1 ≤ 8; omega), HG, HF⟩
        · obtain ⟨R, S, C, D, ways⟩ := K1.out
          have C := Lib.hid C
          have D := Lib.hid D
          have cj := HF.out.c1
          clear hj
          rcases ways with e0 | ⟨e0, e1, e2⟩ | ⟨e0, e1⟩
          · have t0 : (R.e == 0) = false := beq_eq_false_iff_ne.2 e0
            clear e0
            obtain ⟨⟨X0, X1, -, -, -⟩, ⟨Y0, Y1, -, -, -⟩, ⟨A0, A1, -, -, -⟩, ⟨B0, B1, -, -, -⟩, -⟩ := id HG.out
            go_wp2_with fail
            refine (C.out _).mono ?_
            rintro e v1 ⟨rfl, hb⟩
            have HG := Lib.hid ((HG.out.keep hb).keep (below1 _ (.cells #[.int .i64 R.l, .int .i64 R.h] 23)))
            have HF := Lib.hid ((HF.out.keep hb).keep (below1 _ (.cells #[.int .i64 R.l, .int .i64 R.h] 23)))
            have E := At2.new v1 (.int .i64 R.l) (.int .i64 R.h) 23
            clear hb cj
            clear X0 X1 Y0 Y1 A0 A1 B0 B1
            obtain ⟨⟨X0, X1, -, -, -⟩, ⟨Y0, Y1, -, -, -⟩, ⟨A0, A1, -, -, -⟩, ⟨B0, B1, -, -, -⟩, -⟩ := id HG.out
            go_wp2_with fail
            refine (D.out _).mono ?_
            rintro e v2 ⟨rfl, hb⟩
            have HG := Lib.hid ((HG.out.keep hb).keep (below1 _ (.cells #[.int .i64 S.l, .int .i64 S.h] 23)))
            have HF := Lib.hid ((HF.out.keep hb).keep (below1 _ (.cells #[.int .i64 S.l, .int .i64 S.h] 23)))
            have E := (E.keep hb).alloc (.cells #[.int .i64 S.l, .int .i64 S.h] 23)
            have G := At2.new v2 (.int .i64 S.l) (.int .i64 S.h) 23
            clear hb
            clear X0 X1 Y0 Y1 A0 A1 B0 B1
            obtain ⟨⟨X0, X1, -, -, -⟩, ⟨Y0, Y1, -, -, -⟩, ⟨A0, A1, -, -, -⟩, ⟨B0, B1, -, -, -⟩, -⟩ := id HG.out
            obtain ⟨E0, E1, -, -, -⟩ := id E
            obtain ⟨G0, G1, -, -, -⟩ := id G
            go_wp2_with fail
            go_roundg (8 - (1 + 1))
            case measure => have := HM.out; omega
            case rel => exact ⟨1 + 1, rfl, rfl, (by show 1 + 1 ≤ 8; omega), HG, HF⟩
          · rw [e0] at C
            rw [e1] at D
            have CI := Lib.hid (fun wx => told1 true e2 (P.inside S.l S.h R.l R.h wx))
            clear e0 e1 e2
            obtain ⟨⟨X0, X1, -, -, -⟩, ⟨Y0, Y1, -, -, -⟩, ⟨A0, A1, -, -, -⟩, ⟨B0, B1, -, -, -⟩, -⟩ := id HG.out
            go_wp2_with fail
            refine (C.out _).mono ?_
            rintro e v1 ⟨rfl, hb⟩
            have HG := Lib.hid ((HG.out.keep hb).keep (below1 _ (.cells #[.int .i64 R.l, .int .i64 R.h] 23)))
            have HF := Lib.hid ((HF.out.keep hb).keep (below1 _ (.cells #[.int .i64 R.l, .int .i64 R.h] 23)))
            have E := At2.new v1 (.int .i64 R.l) (.int .i64 R.h) 23
            clear hb cj
            clear X0 X1 Y0 Y1 A0 A1 B0 B1
            obtain ⟨⟨X0, X1, -, -, -⟩, ⟨Y0, Y1, -, -, -⟩, ⟨A0, A1, -, -, -⟩, ⟨B0, B1, -, -, -⟩, -⟩ := id HG.out
            go_wp2_with fail
            refine (D.out _).mono ?_
            rintro e v2 ⟨rfl, hb⟩
            have HG := Lib.hid ((HG.out.keep hb).keep (below1 _ (.cells #[.int .i64 S.l, .int .i64 S.h] 23)))
            have HF := Lib.hid ((HF.out.keep hb).keep (below1 _ (.cells #[.int .i64 S.l, .int .i64 S.h] 23)))
            have E := (E.keep hb).alloc (.cells #[.int .i64 S.l, .int .i64 S.h] 23)
            have G := At2.new v2 (.int .i64 S.l) (.int .i64 S.h) 23
            clear hb
            clear X0 X1 Y0 Y1 A0 A1 B0 B1
            obtain ⟨⟨X0, X1, -, -, -⟩, ⟨Y0, Y1, -, -, -⟩, ⟨A0, A1, -, -, -⟩, ⟨B0, B1, -, -, -⟩, -⟩ := id HG.out
            obtain ⟨E0, E1, -, -, -⟩ := id E
            obtain ⟨G0, G1, -, -, -⟩ := id G
            go_wp2_with fail
            refine (CI.out _).mono ?_
            rintro e v3 ⟨rfl, hb⟩
            have HG := Lib.hid (HG.out.keep hb)
            have HF := Lib.hid (HF.out.keep hb)
            clear hb
            clear E0 E1 G0 G1
            clear X0 X1 Y0 Y1 A0 A1 B0 B1
            go_wp2_with fail
            go_roundg (8 - (1 + 1))
            case measure => have := HM.out; omega
            case rel => exact ⟨1 + 1, rfl, rfl, (by show 1 + 1 ≤ 8; omega), HG, HF⟩
          · rw [e0] at C
            rw [e1] at D
            clear e0 e1
            obtain ⟨⟨X0, X1, -, -, -⟩, ⟨Y0, Y1, -, -, -⟩, ⟨A0, A1, -, -, -⟩, ⟨B0, B1, -, -, -⟩, -⟩ := id HG.out
            go_wp2_with fail
            refine (C.out _).mono ?_
            rintro e v1 ⟨rfl, hb⟩
            have HG := Lib.hid ((HG.out.keep hb).keep (below1 _ (.cells #[.int .i64 R.l, .int .i64 R.h] 23)))
            have HF := Lib.hid ((HF.out.keep hb).keep (below1 _ (.cells #[.int .i64 R.l, .int .i64 R.h] 23)))
            have E := At2.new v1 (.int .i64 R.l) (.int .i64 R.h) 23
            clear hb cj
            clear X0 X1 Y0 Y1 A0 A1 B0 B1
            obtain ⟨⟨X0, X1, -, -, -⟩, ⟨Y0, Y1, -, -, -⟩, ⟨A0, A1, -, -, -⟩, ⟨B0, B1, -, -, -⟩, -⟩ := id HG.out
            go_wp2_with fail
            refine (D.out _).mono ?_
            rintro e v2 ⟨rfl, hb⟩
            have HG := Lib.hid ((HG.out.keep hb).keep (below1 _ (.cells #[.int .i64 S.l, .int .i64 S.h] 23)))
            have HF := Lib.hid ((HF.out.keep hb).keep (below1 _ (.cells #[.int .i64 S.l, .int .i64 S.h] 23)))
            have E := (E.keep hb).alloc (.cells #[.int .i64 S.l, .int .i64 S.h] 23)
            have G := At2.new v2 (.int .i64 S.l) (.int .i64 S.h) 23
            clear hb
            clear X0 X1 Y0 Y1 A0 A1 B0 B1
            obtain ⟨⟨X0, X1, -, -, -⟩, ⟨Y0, Y1, -, -, -⟩, ⟨A0, A1, -, -, -⟩, ⟨B0, B1, -, -, -⟩, -⟩ := id HG.out
            obtain ⟨E0, E1, -, -, -⟩ := id E
            obtain ⟨G0, G1, -, -, -⟩ := id G
            go_wp2_with fail
            go_roundg (8 - (1 + 1))
            case measure => have := HM.out; omega
            case rel => exact ⟨1 + 1, rfl, rfl, (by show 1 + 1 ≤ 8; omega), HG, HF⟩
        · obtain ⟨R, S, C, D, ways⟩ := K2.out
          have C := Lib.hid C
          have D := Lib.hid D
          have cj := HF.out.c2
          clear hj
          rcases ways with e0 | ⟨e0, e1, e2⟩ | ⟨e0, e1⟩
          · have t0 : (R.e == 0) = false := beq_eq_false_iff_ne.2 e0
            clear e0
            obtain ⟨⟨X0, X1, -, -, -⟩, ⟨Y0, Y1, -, -, -⟩, ⟨A0, A1, -, -, -⟩, ⟨B0, B1, -, -, -⟩, -⟩ := id HG.out
            go_wp2_with fail
            refine (C.out _).mono ?_
            rintro e v1 ⟨rfl, hb⟩
            have HG := Lib.hid ((HG.out.keep hb).keep (below1 _ (.cells #[.int .i64 R.l, .int .i64 R.h] 23)))
            have HF := Lib.hid ((HF.out.keep hb).keep (below1 _ (.cells #[.int .i64 R.l, .int .i64 R.h] 23)))
            have E := At2.new v1 (.int .i64 R.l) (.int .i64 R.h) 23
            clear hb cj
            clear X0 X1 Y0 Y1 A0 A1 B0 B1
            obtain ⟨⟨X0, X1, -, -, -⟩, ⟨Y0, Y1, -, -, -⟩, ⟨A0, A1, -, -, -⟩, ⟨B0, B1, -, -, -⟩, -⟩ := id HG.out
            go_wp2_with fail
            refine (D.out _).mono ?_
            rintro e v2 ⟨rfl, hb⟩
            have HG := Lib.hid ((HG.out.keep hb).keep (below1 _ (.cells #[.int .i64 S.l, .int .i64 S.h] 23)))
            have HF := Lib.hid ((HF.out.keep hb).keep (below1 _ (.cells #[.int .i64 S.l, .int .i64 S.h] 23)))
            have E := (E.keep hb).alloc (.cells #[.int .i64 S.l, .int .i64 S.h] 23)
            have G := At2.new v2 (.int .i64 S.l) (.int .i64 S.h) 23
            clear hb
            clear X0 X1 Y0 Y1 A0 A1 B0 B1
            obtain ⟨⟨X0, X1, -, -, -⟩, ⟨Y0, Y1, -, -, -⟩, ⟨A0, A1, -, -, -⟩, ⟨B0, B1, -, -, -⟩, -⟩ := id HG.out
            obtain ⟨E0, E1, -, -, -⟩ := id E
            obtain ⟨G0, G1, -, -, -⟩ := id G
            go_wp2_with fail
            go_roundg (8 - (2 + 1))
            case measure => have := HM.out; omega
            case rel => exact ⟨2 + 1, rfl, rfl, (by show 2 + 1 ≤ 8; omega), HG, HF⟩
          · rw [e0] at C
            rw [e1] at D
            have CI := Lib.hid (fun wx => told1 true e2 (P.inside S.l S.h R.l R.h wx))
            clear e0 e1 e2
            obtain ⟨⟨X0, X1, -, -, -⟩, ⟨Y0, Y1, -, -, -⟩, ⟨A0, A1, -, -, -⟩, ⟨B0, B1, -, -, -⟩, -⟩ := id HG.out
            go_wp2_with fail
            refine (C.out _).mono ?_
            rintro e v1 ⟨rfl, hb⟩
            have HG := Lib.hid ((HG.out.keep hb).keep (below1 _ (.cells #[.int .i64 R.l, .int .i64 R.h] 23)))
            have HF := Lib.hid ((HF.out.keep hb).keep (below1 _ (.cells #[.int .i64 R.l, .int .i64 R.h] 23)))
            have E := At2.new v1 (.int .i64 R.l) (.int .i64 R.h) 23
            clear hb cj
            clear X0 X1 Y0 Y1 A0 A1 B0 B1
            obtain ⟨⟨X0, X1, -, -, -⟩, ⟨Y0, Y1, -, -, -⟩, ⟨A0, A1, -, -, -⟩, ⟨B0, B1, -, -, -⟩, -⟩ := id HG.out
            go_wp2_with fail
            refine (D.out _).mono ?_
            rintro e v2 ⟨rfl, hb⟩
            have HG := Lib.hid ((HG.out.keep hb).keep (below1 _ (.cells #[.int .i64 S.l, .int .i64 S.h] 23)))
            have HF := Lib.hid ((HF.out.keep hb).keep (below1 _ (.cells #[.int .i64 S.l, .int .i64 S.h] 23)))
            have E := (E.keep hb).alloc (.cells #[.int .i64 S.l, .int .i64 S.h] 23)
            have G := At2.new v2 (.int .i64 S.l) (.int .i64 S.h) 23
            clear hb
            clear X0 X1 Y0 Y1 A0 A1 B0 B1
            obtain ⟨⟨X0, X1, -, -, -⟩, ⟨Y0, Y1, -, -, -⟩, ⟨A0, A1, -, -, -⟩, ⟨B0, B1, -, -, -⟩, -⟩ := id HG.out
            obtain ⟨E0, E1, -, -, -⟩ := id E
            obtain ⟨G0, G1, -, -, -⟩ := id G
            go_wp2_with fail
            refine (CI.out _).mono ?_
            rintro e v3 ⟨rfl, hb⟩
            have HG := Lib.hid (HG.out.keep hb)
            have HF := Lib.hid (HF.out.keep hb)
            clear hb
            clear E0 E1 G0 G1
            clear X0 X1 Y0 Y1 A0 A1 B0 B1
            go_wp2_with fail
            go_roundg (8 - (2 + 1))
            case measure => have := HM.out; omega
            case rel => exact ⟨2 + 1, rfl, rfl, (by show 2 + 1 ≤ 8; omega), HG, HF⟩
          · rw [e0] at C
            rw [e1] at D
            clear e0 e1
            obtain ⟨⟨X0, X1, -, -, -⟩, ⟨Y0, Y1, -, -, -⟩, ⟨A0, A1, -, -, -⟩, ⟨B0, B1, -, -, -⟩, -⟩ := id HG.out
            go_wp2_with fail
            refine (C.out _).mono ?_
            rintro e v1 ⟨rfl, hb⟩
            have HG := Lib.hid ((HG.out.keep hb).keep (below1 _ (.cells #[.int .i64 R.l, .int .i64 R.h] 23)))
            have HF := Lib.hid ((HF.out.keep hb).keep (below1 _ (.cells #[.int .i64 R.l, .int .i64 R.h] 23)))
            have E := At2.new v1 (.int .i64 R.l) (.int .i64 R.h) 23
            clear hb cj
            clear X0 X1 Y0 Y1 A0 A1 B0 B1
            obtain ⟨⟨X0, X1, -, -, -⟩, ⟨Y0, Y1, -, -, -⟩, ⟨A0, A1, -, -, -⟩, ⟨B0, B1, -, -, -⟩, -⟩ := id HG.out
            go_wp2_with fail
            refine (D.out _).mono ?_
            rintro e v2 ⟨rfl, hb⟩
            have HG := Lib.hid ((HG.out.keep hb).keep (below1 _ (.cells #[.int .i64 S.l, .int .i64 S.h] 23)))
            have HF := Lib.hid ((HF.out.keep hb).keep (below1 _ (.cells #[.int .i64 S.l, .int .i64 S.h] 23)))
            have E := (E.keep hb).alloc (.cells #[.int .i64 S.l, .int .i64 S.h] 23)
            have G := At2.new v2 (.int .i64 S.l) (.int .i64 S.h) 23
            clear hb
            clear X0 X1 Y0 Y1 A0 A1 B0 B1
            obtain ⟨⟨X0, X1, -, -, -⟩, ⟨Y0, Y1, -, -, -⟩, ⟨A0, A1, -, -, -⟩, ⟨B0, B1, -, -, -⟩, -⟩ := id HG.out
            obtain ⟨E0, E1, -, -, -⟩ := id E
            obtain ⟨G0, G1, -, -, -⟩ := id G
            go_wp2_with fail
            go_roundg (8 - (2 + 1))
            case measure => have := HM.out; omega
            case rel => exact ⟨2 + 1, rfl, rfl, (by show 2 + 1 ≤ 8; omega), HG, HF⟩
        · obtain ⟨R, S, C, D, ways⟩ := K3.out
          have C := Lib.hid C
          have D := Lib.hid D
          have cj := HF.out.c3
          clear hj
          rcases ways with e0 | ⟨e0, e1, e2⟩ | ⟨e0, e1⟩
          · have t0 : (R.e == 0) = false := beq_eq_false_iff_ne.2 e0
            clear e0
            obtain ⟨⟨X0, X1, -, -, -⟩, ⟨Y0, Y1, -, -, -⟩, ⟨A0, A1, -, -, -⟩, ⟨B0, B1, -, -, -⟩, -⟩ := id HG.out
            go_wp2_with fail
            refine (C.out _).mono ?_
            rintro e v1 ⟨rfl, hb⟩
            have HG := Lib.hid ((HG.out.keep hb).keep (below1 _ (.cells #[.int .i64 R.l, .int .i64 R.h] 23)))
            have HF := Lib.hid ((HF.out.keep hb).keep (below1 _ (.cells #[.int .i64 R.l, .int .i64 R.h] 23)))
            have E := At2.new v1 (.int .i64 R.l) (.int .i64 R.h) 23
            clear hb cj
            clear X0 X1 Y0 Y1 A0 A1 B0 B1
            obtain ⟨⟨X0, X1, -, -, -⟩, ⟨Y0, Y1, -, -, -⟩, ⟨A0, A1, -, -, -⟩, ⟨B0, B1, -, -, -⟩, -⟩ := id HG.out
            go_wp2_with fail
            refine (D.out _).mono ?_
            rintro e v2 ⟨rfl, hb⟩
            have HG := Lib.hid ((HG.out.keep hb).keep (below1 _ (.cells #[.int .i64 S.l, .int .i64 S.h] 23)))
            have HF := Lib.hid ((HF.out.keep hb).keep (below1 _ (.cells #[.int .i64 S.l, .int .i64 S.h] 23)))
            have E := (E.keep hb).alloc (.cells #[.int .i64 S.l, .int .i64 S.h] 23)
            have G := At2.new v2 (.int .i64 S.l) (.int .i64 S.h) 23
            clear hb
            clear X0 X1 Y0 Y1 A0 A1 B0 B1
            obtain ⟨⟨X0, X1, -, -, -⟩, ⟨Y0, Y1, -, -, -⟩, ⟨A0, A1, -, -, -⟩, ⟨B0, B1, -, -, -⟩, -⟩ := id HG.out
            obtain ⟨E0, E1, -, -, -⟩ := id E
            obtain ⟨G0, G1, -, -, -⟩ := id G
            go_wp2_with fail
            go_roundg (8 - (3 + 1))
            case measure => have := HM.out; omega
            case rel => exact ⟨3 + 1, rfl, rfl, (by show 3 + 1 ≤ 8; omega), HG, HF⟩
          · rw [e0] at C
            rw [e1] at D
            have CI := Lib.hid (fun wx => told1 true e2 (P.inside S.l S.h R.l R.h wx))
            clear e0 e1 e2
            obtain ⟨⟨X0, X1, -, -, -⟩, ⟨Y0, Y1, -, -, -⟩, ⟨A0, A1, -, -, -⟩, ⟨B0, B1, -, -, -⟩, -⟩ := id HG.out
            go_wp2_with fail
            refine (C.out _).mono ?_
            rintro e v1 ⟨rfl, hb⟩
            have HG := Lib.hid ((HG.out.keep hb).keep (below1 _ (.cells #[.int .i64 R.l, .int .i64 R.h] 23)))
            have HF := Lib.hid ((HF.out.keep hb).keep (below1 _ (.cells #[.int .i64 R.l, .int .i64 R.h] 23)))
            have E := At2.new v1 (.int .i64 R.l) (.int .i64 R.h) 23
            clear hb cj
            clear X0 X1 Y0 Y1 A0 A1 B0 B1
            obtain ⟨⟨X0, X1, -, -, -⟩, ⟨Y0, Y1, -, -, -⟩, ⟨A0, A1, -, -, -⟩, ⟨B0, B1, -, -, -⟩, -⟩ := id HG.out
            go_wp2_with fail
            refine (D.out _).mono ?_
            rintro e v2 ⟨rfl, hb⟩
            have HG := Lib.hid ((HG.out.keep hb).keep (below1 _ (.cells #[.int .i64 S.l, .int .i64 S.h] 23)))
            have HF := Lib.hid ((HF.out.keep hb).keep (below1 _ (.cells #[.int .i64 S.l, .int .i64 S.h] 23)))
            have E := (E.keep hb).alloc (.cells #[.int .i64 S.l, .int .i64 S.h] 23)
            have G := At2.new v2 (.int .i64 S.l) (.int .i64 S.h) 23
            clear hb
            clear X0 X1 Y0 Y1 A0 A1 B0 B1
            obtain ⟨⟨X0, X1, -, -, -⟩, ⟨Y0, Y1, -, -, -⟩, ⟨A0, A1, -, -, -⟩, ⟨B0, B1, -, -, -⟩, -⟩ := id HG.out
            obtain ⟨E0, E1, -, -, -⟩ := id E
            obtain ⟨G0, G1, -, -, -⟩ := id G
            go_wp2_with fail
            refine (CI.out _).mono ?_
            rintro e v3 ⟨rfl, hb⟩
            have HG := Lib.hid (HG.out.keep hb)
            have HF := Lib.hid (HF.out.keep hb)
            clear hb
            clear E0 E1 G0 G1
            clear X0 X1 Y0 Y1 A0 A1 B0 B1
            go_wp2_with fail
            go_roundg (8 - (3 + 1))
            case measure => have := HM.out; omega
            case rel => exact ⟨3 + 1, rfl, rfl, (by show 3 + 1 ≤ 8; omega), HG, HF⟩
          · rw [e0] at C
            rw [e1] at D
            clear e0 e1
            obtain ⟨⟨X0, X1, -, -, -⟩, ⟨Y0, Y1, -, -, -⟩, ⟨A0, A1, -, -, -⟩, ⟨B0, B1, -, -, -⟩, -⟩ := id HG.out
            go_wp2_with fail
            refine (C.out _).mono ?_
            rintro e v1 ⟨rfl, hb⟩
            have HG := Lib.hid ((HG.out.keep hb).keep (below1 _ (.cells #[.int .i64 R.l, .int .i64 R.h] 23)))
            have HF := Lib.hid ((HF.out.keep hb).keep (below1 _ (.cells #[.int .i64 R.l, .int .i64 R.h] 23)))
            have E := At2.new v1 (.int .i64 R.l) (.int .i64 R.h) 23
            clear hb cj
            clear X0 X1 Y0 Y1 A0 A1 B0 B1
            obtain ⟨⟨X0, X1, -, -, -⟩, ⟨Y0, Y1, -, -, -⟩, ⟨A0, A1, -, -, -⟩, ⟨B0, B1, -, -, -⟩, -⟩ := id HG.out
            go_wp2_with fail
            refine (D.out _).mono ?_
            rintro e v2 ⟨rfl, hb⟩
            have HG := Lib.hid ((HG.out.keep hb).keep (below1 _ (.cells #[.int .i64 S.l, .int .i64 S.h] 23)))
            have HF := Lib.hid ((HF.out.keep hb).keep (below1 _ (.cells #[.int .i64 S.l, .int .i64 S.h] 23)))
            have E := (E.keep hb).alloc (.cells #[.int .i64 S.l, .int .i64 S.h] 23)
            have G := At2.new v2 (.int .i64 S.l) (.int .i64 S.h) 23
            clear hb
            clear X0 X1 Y0 Y1 A0 A1 B0 B1
            obtain ⟨⟨X0, X1, -, -, -⟩, ⟨Y0, Y1, -, -, -⟩, ⟨A0, A1, -, -, -⟩, ⟨B0, B1, -, -, -⟩, -⟩ := id HG.out
            obtain ⟨E0, E1, -, -, -⟩ := id E
            obtain ⟨G0, G1, -, -, -⟩ := id G
            go_wp2_with fail
            go_roundg (8 - (3 + 1))
            case measure => have := HM.out; omega
            case rel => exact ⟨3 + 1, rfl, rfl, (by show 3 + 1 ≤ 8; omega), HG, HF⟩
        · obtain ⟨R, S, C, D, ways⟩ := K4.out
          have C := Lib.hid C
          have D := Lib.hid D
          have cj := HF.out.c4
          clear hj
          rcases ways with e0 | ⟨e0, e1, e2⟩ | ⟨e0, e1⟩
          · have t0 : (R.e == 0) = false := beq_eq_false_iff_ne.2 e0
            clear e0
            obtain ⟨⟨X0, X1, -, -, -⟩, ⟨Y0, Y1, -, -, -⟩, ⟨A0, A1, -, -, -⟩, ⟨B0, B1, -, -, -⟩, -⟩ := id HG.out
            go_wp2_with fail
            refine (C.out _).mono ?_
            rintro e v1 ⟨rfl, hb⟩
            have HG := Lib.hid ((HG.out.keep hb).keep (below1 _ (.cells #[.int .i64 R.l, .int .i64 R.h] 23)))
            have HF := Lib.hid ((HF.out.keep hb).keep (below1 _ (.cells #[.int .i64 R.l, .int .i64 R.h] 23)))
            have E := At2.new v1 (.int .i64 R.l) (.int .i64 R.h) 23
            clear hb cj
            clear X0 X1 Y0 Y1 A0 A1 B0 B1
            obtain ⟨⟨X0, X1, -, -, -⟩, ⟨Y0, Y1, -, -, -⟩, ⟨A0, A1, -, -, -⟩, ⟨B0, B1, -, -, -⟩, -⟩ := id HG.out
            go_wp2_with fail
            refine (D.out _).mono ?_
            rintro e v2 ⟨rfl, hb⟩
            have HG := Lib.hid ((HG.out.keep hb).keep (below1 _ (.cells #[.int .i64 S.l, .int .i64 S.h] 23)))
            have HF := Lib.hid ((HF.out.keep hb).keep (below1 _ (.cells #[.int .i64 S.l, .int .i64 S.h] 23)))
            have E := (E.keep hb).alloc (.cells #[.int .i64 S.l, .int .i64 S.h] 23)
            have G := At2.new v2 (.int .i64 S.l) (.int .i64 S.h) 23
            clear hb
            clear X0 X1 Y0 Y1 A0 A1 B0 B1
            obtain ⟨⟨X0, X1, -, -, -⟩, ⟨Y0, Y1, -, -, -⟩, ⟨A0, A1, -, -, -⟩, ⟨B0, B1, -, -, -⟩, -⟩ := id HG.out
            obtain ⟨E0, E1, -, -, -⟩ := id E
            obtain ⟨G0, G1, -, -, -⟩ := id G
            go_wp2_with fail
            go_roundg (8 - (4 + 1))
            case measure => have := HM.out; omega
            case rel => exact ⟨4 + 1, rfl, rfl, (by show 4 + 1 ≤ 8; omega), HG, HF⟩
          · rw [e0] at C
            rw [e1] at D
            have CI := Lib.hid (fun wx => told1 true e2 (P.inside S.l S.h R.l R.h wx))
            clear e0 e1 e2
            obtain ⟨⟨X0, X1, -, -, -⟩, ⟨Y0, Y1, -, -, -⟩, ⟨A0, A1, -, -, -⟩, ⟨B0, B1, -, -, -⟩, -⟩ := id HG.out
            go_wp2_with fail
            refine (C.out _).mono ?_
            rintro e v1 ⟨rfl, hb⟩
            have HG := Lib.hid ((HG.out.keep hb).keep (below1 _ (.cells #[.int .i64 R.l, .int .i64 R.h] 23)))
            have HF := Lib.hid ((HF.out.keep hb).keep (below1 _ (.cells #[.int .i64 R.l, .int .i64 R.h] 23)))
            have E := At2.new v1 (.int .i64 R.l) (.int .i64 R.h) 23
            clear hb cj
            clear X0 X1 Y0 Y1 A0 A1 B0 B1
            obtain ⟨⟨X0, X1, -, -, -⟩, ⟨Y0, Y1, -, -, -⟩, ⟨A0, A1, -, -, -⟩, ⟨B0, B1, -, -, -⟩, -⟩ := id HG.out
            go_wp2_with fail
            refine (D.out _).mono ?_
            rintro e v2 ⟨rfl, hb⟩
            have HG := Lib.hid ((HG.out.keep hb).keep (below1 _ (.cells #[.int .i64 S.l, .int .i64 S.h] 23)))
            have HF := Lib.hid ((HF.out.keep hb).keep (below1 _ (.cells #[.int .i64 S.l, .int .i64 S.h] 23)))
            have E := (E.keep hb).alloc (.cells #[.int .i64 S.l, .int .i64 S.h] 23)
            have G := At2.new v2 (.int .i64 S.l) (.int .i64 S.h) 23
            clear hb
            clear X0 X1 Y0 Y1 A0 A1 B0 B1
            obtain ⟨⟨X0, X1, -, -, -⟩, ⟨Y0, Y1, -, -, -⟩, ⟨A0, A1, -, -, -⟩, ⟨B0, B1, -, -, -⟩, -⟩ := id HG.out
            obtain ⟨E0, E1, -, -, -⟩ := id E
            obtain ⟨G0, G1, -, -, -⟩ := id G
            go_wp2_with fail
            refine (CI.out _).mono ?_
            rintro e v3 ⟨rfl, hb⟩
            have HG := Lib.hid (HG.out.keep hb)
            have HF := Lib.hid (HF.out.keep hb)
            clear hb
            clear E0 E1 G0 G1
            clear X0 X1 Y0 Y1 A0 A1 B0 B1
            go_wp2_with fail
            go_roundg (8 - (4 + 1))
            case measure => have := HM.out; omega
            case rel => exact ⟨4 + 1, rfl, rfl, (by show 4 + 1 ≤ 8; omega), HG, HF⟩
          · rw [e0] at C
            rw [e1] at D
            clear e0 e1
            obtain ⟨⟨X0, X1, -, -, -⟩, ⟨Y0, Y1, -, -, -⟩, ⟨A0, A1, -, -, -⟩, ⟨B0, B1, -, -, -⟩, -⟩ := id HG.out
            go_wp2_with fail
            refine (C.out _).mono ?_
            rintro e v1 ⟨rfl, hb⟩
            have HG := Lib.hid ((HG.out.keep hb).keep (below1 _ (.cells #[.int .i64 R.l, .int .i64 R.h] 23)))
            have HF := Lib.hid ((HF.out.keep hb).keep (below1 _ (.cells #[.int .i64 R.l, .int .i64 R.h] 23)))
            have E := At2.new v1 (.int .i64 R.l) (.int .i64 R.h) 23
            clear hb cj
            clear X0 X1 Y0 Y1 A0 A1 B0 B1
            obtain ⟨⟨X0, X1, -, -, -⟩, ⟨Y0, Y1, -, -, -⟩, ⟨A0, A1, -, -, -⟩, ⟨B0, B1, -, -, -⟩, -⟩ := id HG.out
            go_wp2_with fail
            refine (D.out _).mono ?_
            rintro e v2 ⟨rfl, hb⟩
            have HG := Lib.hid ((HG.out.keep hb).keep (below1 _ (.cells #[.int .i64 S.l, .int .i64 S.h] 23)))
            have HF := Lib.hid ((HF.out.keep hb).keep (below1 _ (.cells #[.int .i64 S.l, .int .i64 S.h] 23)))
            have E := (E.keep hb).alloc (.cells #[.int .i64 S.l, .int .i64 S.h] 23)
            have G := At2.new v2 (.int .i64 S.l) (.int .i64 S.h) 23
            clear hb
            clear X0 X1 Y0 Y1 A0 A1 B0 B1
            obtain ⟨⟨X0, X1, -, -, -⟩, ⟨Y0, Y1, -, -, -⟩, ⟨A0, A1, -, -, -⟩, ⟨B0, B1, -, -, -⟩, -⟩ := id HG.out
            obtain ⟨E0, E1, -, -, -⟩ := id E
            obtain ⟨G0, G1, -, -, -⟩ := id G
            go_wp2_with fail
            go_roundg (8 - (4 + 1))
            case measure => have := HM.out; omega
            case rel => exact ⟨4 + 1, rfl, rfl, (by show 4 + 1 ≤ 8; omega), HG, HF⟩
        · obtain ⟨R, S, C, D, ways⟩ := K5.out
          have C := Lib.hid C
          have D := Lib.hid D
          have cj := HF.out.c5
          clear hj
          rcases ways with e0 | ⟨e0, e1, e2⟩ | ⟨e0, e1⟩
          · have t0 : (R.e == 0) = false := beq_eq_false_iff_ne.2 e0
            clear e0
            obtain ⟨⟨X0, X1, -, -, -⟩, ⟨Y0, Y1, -, -, -⟩, ⟨A0, A1, -, -, -⟩, ⟨B0, B1, -, -, -⟩, -⟩ := id HG.out
            go_wp2_with fail
            refine (C.out _).mono ?_
            rintro e v1 ⟨rfl, hb⟩
            have HG := Lib.hid ((HG.out.keep hb).keep (below1 _ (.cells #[.int .i64 R.l, .int .i64 R.h] 23)))
            have HF := Lib.hid ((HF.out.keep hb).keep (below1 _ (.cells #[.int .i64 R.l, .int .i64 R.h] 23)))
            have E := At2.new v1 (.int .i64 R.l) (.int .i64 R.h) 23
            clear hb cj
            clear X0 X1 Y0 Y1 A0 A1 B0 B1
            obtain ⟨⟨X0, X1, -, -, -⟩, ⟨Y0, Y1, -, -, -⟩, ⟨A0, A1, -, -, -⟩, ⟨B0, B1, -, -, -⟩, -⟩ := id HG.out
            go_wp2_with fail
            refine (D.out _).mono ?_
            rintro e v2 ⟨rfl, hb⟩
            have HG := Lib.hid ((HG.out.keep hb).keep (below1 _ (.cells #[.int .i64 S.l, .int .i64 S.h] 23)))
            have HF := Lib.hid ((HF.out.keep hb).keep (below1 _ (.cells #[.int .i64 S.l, .int .i64 S.h] 23)))
            have E := (E.keep hb).alloc (.cells #[.int .i64 S.l, .int .i64 S.h] 23)
            have G := At2.new v2 (.int .i64 S.l) (.int .i64 S.h) 23
            clear hb
            clear X0 X1 Y0 Y1 A0 A1 B0 B1
            obtain ⟨⟨X0, X1, -, -, -⟩, ⟨Y0, Y1, -, -, -⟩, ⟨A0, A1, -, -, -⟩, ⟨B0, B1, -, -, -⟩, -⟩ := id HG.out
            obtain ⟨E0, E1, -, -, -⟩ := id E
            obtain ⟨G0, G1, -, -, -⟩ := id G
            go_wp2_with fail
            go_roundg (8 - (5 + 1))
            case measure => have := HM.out; omega
            case rel => exact ⟨5 + 1, rfl, rfl, (by show 5 + 1 ≤ 8; omega), HG, HF⟩
          · rw [e0] at C
            rw [e1] at D
            have CI := Lib.hid (fun wx => told1 true e2 (P.inside S.l S.h R.l R.h wx))
            clear e0 e1 e2
            obtain ⟨⟨X0, X1, -, -, -⟩, ⟨Y0, Y1, -, -, -⟩, ⟨A0, A1, -, -, -⟩, ⟨B0, B1, -, -, -⟩, -⟩ := id HG.out
            go_wp2_with fail
            refine (C.out _).mono ?_
            rintro e v1 ⟨rfl, hb⟩
            have HG := Lib.hid ((HG.out.keep hb).keep (below1 _ (.cells #[.int .i64 R.l, .int .i64 R.h] 23)))
            have HF := Lib.hid ((HF.out.keep hb).keep (below1 _ (.cells #[.int .i64 R.l, .int .i64 R.h] 23)))
            have E := At2.new v1 (.int .i64 R.l) (.int .i64 R.h) 23
            clear hb cj
            clear X0 X1 Y0 Y1 A0 A1 B0 B1
            obtain ⟨⟨X0, X1, -, -, -⟩, ⟨Y0, Y1, -, -, -⟩, ⟨A0, A1, -, -, -⟩, ⟨B0, B1, -, -, -⟩, -⟩ := id HG.out
            go_wp2_with fail
            refine (D.out _).mono ?_
            rintro e v2 ⟨rfl, hb⟩
            have HG := Lib.hid ((HG.out.keep hb).keep (below1 _ (.cells #[.int .i64 S.l, .int .i64 S.h] 23)))
            have HF := Lib.hid ((HF.out.keep hb).keep (below1 _ (.cells #[.int .i64 S.l, .int .i64 S.h] 23)))
            have E := (E.keep hb).alloc (.cells #[.int .i64 S.l, .int .i64 S.h] 23)
            have G := At2.new v2 (.int .i64 S.l) (.int .i64 S.h) 23
            clear hb
            clear X0 X1 Y0 Y1 A0 A1 B0 B1
            obtain ⟨⟨X0, X1, -, -, -⟩, ⟨Y0, Y1, -, -, -⟩, ⟨A0, A1, -, -, -⟩, ⟨B0, B1, -, -, -⟩, -⟩ := id HG.out
            obtain ⟨E0, E1, -, -, -⟩ := id E
            obtain ⟨G0, G1, -, -, -⟩ := id G
            go_wp2_with fail
            refine (CI.out _).mono ?_
            rintro e v3 ⟨rfl, hb⟩
            have HG := Lib.hid (HG.out.keep hb)
            have HF := Lib.hid (HF.out.keep hb)
            clear hb
            clear E0 E1 G0 G1
            clear X0 X1 Y0 Y1 A0 A1 B0 B1
            go_wp2_with fail
            go_roundg (8 - (5 + 1))
            case measure => have := HM.out; omega
            case rel => exact ⟨5 + 1, rfl, rfl, (by show 5 + 1 ≤ 8; omega), HG, HF⟩
          · rw [e0] at C
            rw [e1] at D
            clear e0 e1
            obtain ⟨⟨X0, X1, -, -, -⟩, ⟨Y0, Y1, -, -, -⟩, ⟨A0, A1, -, -, -⟩, ⟨B0, B1, -, -, -⟩, -⟩ := id HG.out
            go_wp2_with fail
            refine (C.out _).mono ?_
            rintro e v1 ⟨rfl, hb⟩
            have HG := Lib.hid ((HG.out.keep hb).keep (below1 _ (.cells #[.int .i64 R.l, .int .i64 R.h] 23)))
            have HF := Lib.hid ((HF.out.keep hb).keep (below1 _ (.cells #[.int .i64 R.l, .int .i64 R.h] 23)))
            have E := At2.new v1 (.int .i64 R.l) (.int .i64 R.h) 23
            clear hb cj
            clear X0 X1 Y0 Y1 A0 A1 B0 B1
            obtain ⟨⟨X0, X1, -, -, -⟩, ⟨Y0, Y1, -, -, -⟩, ⟨A0, A1, -, -, -⟩, ⟨B0, B1, -, -, -⟩, -⟩ := id HG.out
            go_wp2_with fail
            refine (D.out _).mono ?_
            rintro e v2 ⟨rfl, hb⟩
            have HG := Lib.hid ((HG.out.keep hb).keep (below1 _ (.cells #[.int .i64 S.l, .int .i64 S.h] 23)))
            have HF := Lib.hid ((HF.out.keep hb).keep (below1 _ (.cells #[.int .i64 S.l, .int .i64 S.h] 23)))
            have E := (E.keep hb).alloc (.cells #[.int .i64 S.l, .int .i64 S.h] 23)
            have G := At2.new v2 (.int .i64 S.l) (.int .i64 S.h) 23
            clear hb
            clear X0 X1 Y0 Y1 A0 A1 B0 B1
            obtain ⟨⟨X0, X1, -, -, -⟩, ⟨Y0, Y1, -, -, -⟩, ⟨A0, A1, -, -, -⟩, ⟨B0, B1, -, -, -⟩, -⟩ := id HG.out
            obtain ⟨E0, E1, -, -, -⟩ := id E
            obtain ⟨G0, G1, -, -, -⟩ := id G
            go_wp2_with fail
            go_roundg (8 - (5 + 1))
            case measure => have := HM.out; omega
            case rel => exact ⟨5 + 1, rfl, rfl, (by show 5 + 1 ≤ 8; omega), HG, HF⟩
        · obtain ⟨R, S, C, D, ways⟩ := K6.out
          have C := Lib.hid C
          have D := Lib.hid D
          have cj := HF.out.c6
          clear hj
          rcases ways with e0 | ⟨e0, e1, e2⟩ | ⟨e0, e1⟩
          · have t0 : (R.e == 0) = false := beq_eq_false_iff_ne.2 e0
            clear e0
            obtain ⟨⟨X0, X1, -, -, -⟩, ⟨Y0, Y1, -, -, -⟩, ⟨A0, A1, -, -, -⟩, ⟨B0, B1, -, -, -⟩, -⟩ := id HG.out
            go_wp2_with fail
            refine (C.out _).mono ?_
            rintro e v1 ⟨rfl, hb⟩
            have HG := Lib.hid ((HG.out.keep hb).keep (below1 _ (.cells #[.int .i64 R.l, .int .i64 R.h] 23)))
            have HF := Lib.hid ((HF.out.keep hb).keep (below1 _ (.cells #[.int .i64 R.l, .int .i64 R.h] 23)))
            have E := At2.new v1 (.int .i64 R.l) (.int .i64 R.h) 23
            clear hb cj
            clear X0 X1 Y0 Y1 A0 A1 B0 B1
            obtain ⟨⟨X0, X1, -, -, -⟩, ⟨Y0, Y1, -, -, -⟩, ⟨A0, A1, -, -, -⟩, ⟨B0, B1, -, -, -⟩, -⟩ := id HG.out
            go_wp2_with fail
            refine (D.out _).mono ?_
            rintro e v2 ⟨rfl, hb⟩
            have HG := Lib.hid ((HG.out.keep hb).keep (below1 _ (.cells #[.int .i64 S.l, .int .i64 S.h] 23)))
            have HF := Lib.hid ((HF.out.keep hb).keep (below1 _ (.cells #[.int .i64 S.l, .int .i64 S.h] 23)))
            have E := (E.keep hb).alloc (.cells #[.int .i64 S.l, .int .i64 S.h] 23)
            have G := At2.new v2 (.int .i64 S.l) (.int .i64 S.h) 23
            clear hb
            clear X0 X1 Y0 Y1 A0 A1 B0 B1
            obtain ⟨⟨X0, X1, -, -, -⟩, ⟨Y0, Y1, -, -, -⟩, ⟨A0, A1, -, -, -⟩, ⟨B0, B1, -, -, -⟩, -⟩ := id HG.out
            obtain ⟨E0, E1, -, -, -⟩ := id E
            obtain ⟨G0, G1, -, -, -⟩ := id G
            go_wp2_with fail
            go_roundg (8 - (6 + 1))
            case measure => have := HM.out; omega
            case rel => exact ⟨6 + 1, rfl, rfl, (by show 6 + 1 ≤ 8; omega), HG, HF⟩
          · rw [e0] at C
            rw [e1] at D
            have CI := Lib.hid (fun wx => told1 true e2 (P.inside S.l S.h R.l R.h wx))
            clear e0 e1 e2
            obtain ⟨⟨X0, X1, -, -, -⟩, ⟨Y0, Y1, -, -, -⟩, ⟨A0, A1, -, -, -⟩, ⟨B0, B1, -, -, -⟩, -⟩ := id HG.out
            go_wp2_with fail
            refine (C.out _).mono ?_
            rintro e v1 ⟨rfl, hb⟩
            have HG := Lib.hid ((HG.out.keep hb).keep (below1 _ (.cells #[.int .i64 R.l, .int .i64 R.h] 23)))
            have HF := Lib.hid ((HF.out.keep hb).keep (below1 _ (.cells #[.int .i64 R.l, .int .i64 R.h] 23)))
            have E := At2.new v1 (.int .i64 R.l) (.int .i64 R.h) 23
            clear hb cj
            clear X0 X1 Y0 Y1 A0 A1 B0 B1
            obtain ⟨⟨X0, X1, -, -, -⟩, ⟨Y0, Y1, -, -, -⟩, ⟨A0, A1, -, -, -⟩, ⟨B0, B1, -, -, -⟩, -⟩ := id HG.out
            go_wp2_with fail
            refine (D.out _).mono ?_
            rintro e v2 ⟨rfl, hb⟩
            have HG := Lib.hid ((HG.out.keep hb).keep (below1 _ (.cells #[.int .i64 S.l, .int .i64 S.h] 23)))
            have HF := Lib.hid ((HF.out.keep hb).keep (below1 _ (.cells #[.int .i64 S.l, .int .i64 S.h] 23)))
            have E := (E.keep hb).alloc (.cells #[.int .i64 S.l, .int .i64 S.h] 23)
            have G := At2.new v2 (.int .i64 S.l) (.int .i64 S.h) 23
            clear hb
            clear X0 X1 Y0 Y1 A0 A1 B0 B1
            obtain ⟨⟨X0, X1, -, -, -⟩, ⟨Y0, Y1, -, -, -⟩, ⟨A0, A1, -, -, -⟩, ⟨B0, B1, -, -, -⟩, -⟩ := id HG.out
            obtain ⟨E0, E1, -, -, -⟩ := id E
            obtain ⟨G0, G1, -, -, -⟩ := id G
            go_wp2_with fail
            refine (CI.out _).mono ?_
            rintro e v3 ⟨rfl, hb⟩
            have HG := Lib.hid (HG.out.keep hb)
            have HF := Lib.hid (HF.out.keep hb)
            clear hb
            clear E0 E1 G0 G1
            clear X0 X1 Y0 Y1 A0 A1 B0 B1
            go_wp2_with fail
            go_roundg (8 - (6 + 1))
            case measure => have := HM.out; omega
            case rel => exact ⟨6 + 1, rfl, rfl, (by show 6 + 1 ≤ 8; omega), HG, HF⟩
          · rw [e0] at C
            rw [e1] at D
            clear e0 e1
            obtain ⟨⟨X0, X1, -, -, -⟩, ⟨Y0, Y1, -, -, -⟩, ⟨A0, A1, -, -, -⟩, ⟨B0, B1, -, -, -⟩, -⟩ := id HG.out
            go_wp2_with fail
            refine (C.out _).mono ?_
            rintro e v1 ⟨rfl, hb⟩
            have HG := Lib.hid ((HG.out.keep hb).keep (below1 _ (.cells #[.int .i64 R.l, .int .i64 R.h] 23)))
            have HF := Lib.hid ((HF.out.keep hb).keep (below1 _ (.cells #[.int .i64 R.l, .int .i64 R.h] 23)))
            have E := At2.new v1 (.int .i64 R.l) (.int .i64 R.h) 23
            clear hb cj
            clear X0 X1 Y0 Y1 A0 A1 B0 B1
            obtain ⟨⟨X0, X1, -, -, -⟩, ⟨Y0, Y1, -, -, -⟩, ⟨A0, A1, -, -, -⟩, ⟨B0, B1, -, -, -⟩, -⟩ := id HG.out
            go_wp2_with fail
            refine (D.out _).mono ?_
            rintro e v2 ⟨rfl, hb⟩
            have HG := Lib.hid ((HG.out.keep hb).keep (below1 _ (.cells #[.int .i64 S.l, .int .i64 S.h] 23)))
            have HF := Lib.hid ((HF.out.keep hb).keep (below1 _ (.cells #[.int .i64 S.l, .int .i64 S.h] 23)))
            have E := (E.keep hb).alloc (.cells #[.int .i64 S.l, .int .i64 S.h] 23)
            have G := At2.new v2 (.int .i64 S.l) (.int .i64 S.h) 23
            clear hb
            clear X0 X1 Y0 Y1 A0 A1 B0 B1
            obtain ⟨⟨X0, X1, -, -, -⟩, ⟨Y0, Y1, -, -, -⟩, ⟨A0, A1, -, -, -⟩, ⟨B0, B1, -, -, -⟩, -⟩ := id HG.out
            obtain ⟨E0, E1, -, -, -⟩ := id E
            obtain ⟨G0, G1, -, -, -⟩ := id G
            go_wp2_with fail
            go_roundg (8 - (6 + 1))
            case measure => have := HM.out; omega
            case rel => exact ⟨6 + 1, rfl, rfl, (by show 6 + 1 ≤ 8; omega), HG, HF⟩
        · obtain ⟨R, S, C, D, ways⟩ := K7.out
          have C := Lib.hid C
          have D := Lib.hid D
          have cj := HF.out.c7
          clear hj
          rcases ways with e0 | ⟨e0, e1, e2⟩ | ⟨e0, e1⟩
          · have t0 : (R.e == 0) = false := beq_eq_false_iff_ne.2 e0
            clear e0
            obtain ⟨⟨X0, X1, -, -, -⟩, ⟨Y0, Y1, -, -, -⟩, ⟨A0, A1, -, -, -⟩, ⟨B0, B1, -, -, -⟩, -⟩ := id HG.out
            go_wp2_with fail
            refine (C.out _).mono ?_
            rintro e v1 ⟨rfl, hb⟩
            have HG := Lib.hid ((HG.out.keep hb).keep (below1 _ (.cells #[.int .i64 R.l, .int .i64 R.h] 23)))
            have HF := Lib.hid ((HF.out.keep hb).keep (below1 _ (.cells #[.int .i64 R.l, .int .i64 R.h] 23)))
            have E := At2.new v1 (.int .i64 R.l) (.int .i64 R.h) 23
            clear hb cj
            clear X0 X1 Y0 Y1 A0 A1 B0 B1
            obtain ⟨⟨X0, X1, -, -, -⟩, ⟨Y0, Y1, -, -, -⟩, ⟨A0, A1, -, -, -⟩, ⟨B0, B1, -, -, -⟩, -⟩ := id HG.out
            go_wp2_with fail
            refine (D.out _).mono ?_
            rintro e v2 ⟨rfl, hb⟩
            have HG := Lib.hid ((HG.out.keep hb).keep (below1 _ (.cells #[.int .i64 S.l, .int .i64 S.h] 23)))
            have HF := Lib.hid ((HF.out.keep hb).keep (below1 _ (.cells #[.int .i64 S.l, .int .i64 S.h] 23)))
            have E := (E.keep hb).alloc (.cells #[.int .i64 S.l, .int .i64 S.h] 23)
            have G := At2.new v2 (.int .i64 S.l) (.int .i64 S.h) 23
            clear hb
            clear X0 X1 Y0 Y1 A0 A1 B0 B1
            obtain ⟨⟨X0, X1, -, -, -⟩, ⟨Y0, Y1, -, -, -⟩, ⟨A0, A1, -, -, -⟩, ⟨B0, B1, -, -, -⟩, -⟩ := id HG.out
            obtain ⟨E0, E1, -, -, -⟩ := id E
            obtain ⟨G0, G1, -, -, -⟩ := id G
            go_wp2_with fail
            go_roundg (8 - (7 + 1))
            case measure => have := HM.out; omega
            case rel => exact ⟨7 + 1, rfl, rfl, (by show 7 + 1 ≤ 8; omega), HG, HF⟩
          · rw [e0] at C
            rw [e1] at D
            have CI := Lib.hid (fun wx => told1 true e2 (P.inside S.l S.h R.l R.h wx))
            clear e0 e1 e2
            obtain ⟨⟨X0, X1, -, -, -⟩, ⟨Y0, Y1, -, -, -⟩, ⟨A0, A1, -, -, -⟩, ⟨B0, B1, -, -, -⟩, -⟩ := id HG.out
            go_wp2_with fail
            refine (C.out _).mono ?_
            rintro e v1 ⟨rfl, hb⟩
            have HG := Lib.hid ((HG.out.keep hb).keep (below1 _ (.cells #[.int .i64 R.l, .int .i64 R.h] 23)))
            have HF := Lib.hid ((HF.out.keep hb).keep (below1 _ (.cells #[.int .i64 R.l, .int .i64 R.h] 23)))
            have E := At2.new v1 (.int .i64 R.l) (.int .i64 R.h) 23
            clear hb cj
            clear X0 X1 Y0 Y1 A0 A1 B0 B1
            obtain ⟨⟨X0, X1, -, -, -⟩, ⟨Y0, Y1, -, -, -⟩, ⟨A0, A1, -, -, -⟩, ⟨B0, B1, -, -, -⟩, -⟩ := id HG.out
            go_wp2_with fail
            refine (D.out _).mono ?_
            rintro e v2 ⟨rfl, hb⟩
            have HG := Lib.hid ((HG.out.keep hb).keep (below1 _ (.cells #[.int .i64 S.l, .int .i64 S.h] 23)))
            have HF := Lib.hid ((HF.out.keep hb).keep (below1 _ (.cells #[.int .i64 S.l, .int .i64 S.h] 23)))
            have E := (E.keep hb).alloc (.cells #[.int .i64 S.l, .int .i64 S.h] 23)
            have G := At2.new v2 (.int .i64 S.l) (.int .i64 S.h) 23
            clear hb
            clear X0 X1 Y0 Y1 A0 A1 B0 B1
            obtain ⟨⟨X0, X1, -, -, -⟩, ⟨Y0, Y1, -, -, -⟩, ⟨A0, A1, -, -, -⟩, ⟨B0, B1, -, -, -⟩, -⟩ := id HG.out
            obtain ⟨E0, E1, -, -, -⟩ := id E
            obtain ⟨G0, G1, -, -, -⟩ := id G
            go_wp2_with fail
            refine (CI.out _).mono ?_
            rintro e v3 ⟨rfl, hb⟩
            have HG := Lib.hid (HG.out.keep hb)
            have HF := Lib.hid (HF.out.keep hb)
            clear hb
            clear E0 E1 G0 G1
            clear X0 X1 Y0 Y1 A0 A1 B0 B1
            go_wp2_with fail
            go_roundg (8 - (7 + 1))
            case measure => have := HM.out; omega
            case rel => exact ⟨7 + 1, rfl, rfl, (by show 7 + 1 ≤ 8; omega), HG, HF⟩
          · rw [e0] at C
            rw [e1] at D
            clear e0 e1
            obtain ⟨⟨X0, X1, -, -, -⟩, ⟨Y0, Y1, -, -, -⟩, ⟨A0, A1, -, -, -⟩, ⟨B0, B1, -, -, -⟩, -⟩ := id HG.out
            go_wp2_with fail
            refine (C.out _).mono ?_
            rintro e v1 ⟨rfl, hb⟩
            have HG := Lib.hid ((HG.out.keep hb).keep (below1 _ (.cells #[.int .i64 R.l, .int .i64 R.h] 23)))
            have HF := Lib.hid ((HF.out.keep hb).keep (below1 _ (.cells #[.int .i64 R.l, .int .i64 R.h] 23)))
            have E := At2.new v1 (.int .i64 R.l) (.int .i64 R.h) 23
            clear hb cj
            clear X0 X1 Y0 Y1 A0 A1 B0 B1
            obtain ⟨⟨X0, X1, -, -, -⟩, ⟨Y0, Y1, -, -, -⟩, ⟨A0, A1, -, -, -⟩, ⟨B0, B1, -, -, -⟩, -⟩ := id HG.out
            go_wp2_with fail
            refine (D.out _).mono ?_
            rintro e v2 ⟨rfl, hb⟩
            have HG := Lib.hid ((HG.out.keep hb).keep (below1 _ (.cells #[.int .i64 S.l, .int .i64 S.h] 23)))
            have HF := Lib.hid ((HF.out.keep hb).keep (below1 _ (.cells #[.int .i64 S.l, .int .i64 S.h] 23)))
            have E := (E.keep hb).alloc (.cells #[.int .i64 S.l, .int .i64 S.h] 23)
            have G := At2.new v2 (.int .i64 S.l) (.int .i64 S.h) 23
            clear hb
            clear X0 X1 Y0 Y1 A0 A1 B0 B1
            obtain ⟨⟨X0, X1, -, -, -⟩, ⟨Y0, Y1, -, -, -⟩, ⟨A0, A1, -, -, -⟩, ⟨B0, B1, -, -, -⟩, -⟩ := id HG.out
            obtain ⟨E0, E1, -, -, -⟩ := id E
            obtain ⟨G0, G1, -, -, -⟩ := id G
            go_wp2_with fail
            go_roundg (8 - (7 + 1))
            case measure => have := HM.out; omega
            case rel => exact ⟨7 + 1, rfl, rfl, (by show 7 + 1 ≤ 8; omega), HG, HF⟩
      · have e8 : j = 8 := by have := HJ.out; omega
        subst e8
        clear hj
        rcases KS.out with ⟨R, S, C, D, h0⟩
        rcases KQ.out with ⟨R', S', C', D', h0'⟩
        have C := Lib.hid C
        have D := Lib.hid D
        have C' := Lib.hid C'
        have D' := Lib.hid D'
        rcases h0 with ⟨s1, s2, s3, s4, s5⟩ | ⟨s1, s2⟩
        · rw [s1] at C
          rw [s2] at D
          have t1 : decide (S.l < R.l) = false := decide_eq_false (by omega)
          have t2 : decide (S.h < S.l) = false := decide_eq_false (by omega)
          have t3 : decide (R.h < S.h) = false := decide_eq_false (by omega)
          clear s1 s2 s3 s4 s5
          rcases h0' with ⟨s1, s2, s3, s4, s5⟩ | s1
          · rw [s1] at C'
            rw [s2] at D'
            have u1 : decide (R'.l ≤ S'.l) = true := decide_eq_true s3
            have u2 : decide (S'.l ≤ S'.h) = true := decide_eq_true s4
            have u3 : decide (S'.h ≤ R'.h) = true := decide_eq_true s5
            clear s1 s2 s3 s4 s5
            obtain ⟨⟨X0, X1, -, -, -⟩, ⟨Y0, Y1, -, -, -⟩, ⟨A0, A1, -, -, -⟩, ⟨B0, B1, -, -, -⟩, -⟩ := id HG.out
            go_wp2_with fail
            refine (C.out _).mono ?_
            rintro e v1 ⟨rfl, hb⟩
            have HG := Lib.hid (HG.out.keep hb)
            clear hb
            clear X0 X1 Y0 Y1 A0 A1 B0 B1
            obtain ⟨⟨X0, X1, -, -, -⟩, ⟨Y0, Y1, -, -, -⟩, ⟨A0, A1, -, -, -⟩, ⟨B0, B1, -, -, -⟩, -⟩ := id HG.out
            go_wp2_with fail
            refine (D.out _).mono ?_
            rintro e v2 ⟨rfl, hb⟩
            have HG := Lib.hid (HG.out.keep hb)
            clear hb
            clear X0 X1 Y0 Y1 A0 A1 B0 B1
            obtain ⟨⟨X0, X1, -, -, -⟩, ⟨Y0, Y1, -, -, -⟩, ⟨A0, A1, -, -, -⟩, ⟨B0, B1, -, -, -⟩, -⟩ := id HG.out
            go_wp2_with fail
            refine (C'.out _).mono ?_
            rintro e v3 ⟨rfl, hb⟩
            have HG := Lib.hid (HG.out.keep hb)
            clear hb
            clear X0 X1 Y0 Y1 A0 A1 B0 B1
            obtain ⟨⟨X0, X1, -, -, -⟩, ⟨Y0, Y1, -, -, -⟩, ⟨A0, A1, -, -, -⟩, ⟨B0, B1, -, -, -⟩, -⟩ := id HG.out
            go_wp2_with fail
            refine (D'.out _).mono ?_
            rintro e v4 ⟨rfl, hb⟩
            have HG := Lib.hid (HG.out.keep hb)
            clear hb
            clear X0 X1 Y0 Y1 A0 A1 B0 B1
            obtain ⟨⟨X0, X1, -, -, -⟩, ⟨Y0, Y1, -, -, -⟩, ⟨A0, A1, -, -, -⟩, ⟨B0, B1, -, -, -⟩, -⟩ := id HG.out
            go_wp2_with fail
            go_ret
            exact ⟨rfl, HG.out.le⟩
          · have u1 : (R'.e != 0) = true := by rw [bne_iff_ne]; exact s1
            clear s1
            obtain ⟨⟨X0, X1, -, -, -⟩, ⟨Y0, Y1, -, -, -⟩, ⟨A0, A1, -, -, -⟩, ⟨B0, B1, -, -, -⟩, -⟩ := id HG.out
            go_wp2_with fail
            refine (C.out _).mono ?_
            rintro e v1 ⟨rfl, hb⟩
            have HG := Lib.hid (HG.out.keep hb)
            clear hb
            clear X0 X1 Y0 Y1 A0 A1 B0 B1
            obtain ⟨⟨X0, X1, -, -, -⟩, ⟨Y0, Y1, -, -, -⟩, ⟨A0, A1, -, -, -⟩, ⟨B0, B1, -, -, -⟩, -⟩ := id HG.out
            go_wp2_with fail
            refine (D.out _).mono ?_
            rintro e v2 ⟨rfl, hb⟩
            have HG := Lib.hid (HG.out.keep hb)
            clear hb
            clear X0 X1 Y0 Y1 A0 A1 B0 B1
            obtain ⟨⟨X0, X1, -, -, -⟩, ⟨Y0, Y1, -, -, -⟩, ⟨A0, A1, -, -, -⟩, ⟨B0, B1, -, -, -⟩, -⟩ := id HG.out
            go_wp2_with fail
            refine (C'.out _).mono ?_
            rintro e v3 ⟨rfl, hb⟩
            have HG := Lib.hid (HG.out.keep hb)
            clear hb
            clear X0 X1 Y0 Y1 A0 A1 B0 B1
            obtain ⟨⟨X0, X1, -, -, -⟩, ⟨Y0, Y1, -, -, -⟩, ⟨A0, A1, -, -, -⟩, ⟨B0, B1, -, -, -⟩, -⟩ := id HG.out
            go_wp2_with fail
            refine (D'.out _).mono ?_
            rintro e v4 ⟨rfl, hb⟩
            have HG := Lib.hid (HG.out.keep hb)
            clear hb
            clear X0 X1 Y0 Y1 A0 A1 B0 B1
            obtain ⟨⟨X0, X1, -, -, -⟩, ⟨Y0, Y1, -, -, -⟩, ⟨A0, A1, -, -, -⟩, ⟨B0, B1, -, -, -⟩, -⟩ := id HG.out
            go_wp2_with fail
            go_ret
            exact ⟨rfl, HG.out.le⟩
        · rw [s1] at C
          rw [s2] at D
          clear s1 s2
          rcases h0' with ⟨s1, s2, s3, s4, s5⟩ | s1
          · rw [s1] at C'
            rw [s2] at D'
            have u1 : decide (R'.l ≤ S'.l) = true := decide_eq_true s3
            have u2 : decide (S'.l ≤ S'.h) = true := decide_eq_true s4
            have u3 : decide (S'.h ≤ R'.h) = true := decide_eq_true s5
            clear s1 s2 s3 s4 s5
            obtain ⟨⟨X0, X1, -, -, -⟩, ⟨Y0, Y1, -, -, -⟩, ⟨A0, A1, -, -, -⟩, ⟨B0, B1, -, -, -⟩, -⟩ := id HG.out
            go_wp2_with fail
            refine (C.out _).mono ?_
            rintro e v1 ⟨rfl, hb⟩
            have HG := Lib.hid (HG.out.keep hb)
            clear hb
            clear X0 X1 Y0 Y1 A0 A1 B0 B1
            obtain ⟨⟨X0, X1, -, -, -⟩, ⟨Y0, Y1, -, -, -⟩, ⟨A0, A1, -, -, -⟩, ⟨B0, B1, -, -, -⟩, -⟩ := id HG.out
            go_wp2_with fail
            refine (D.out _).mono ?_
            rintro e v2 ⟨rfl, hb⟩
            have HG := Lib.hid (HG.out.keep hb)
            clear hb
            clear X0 X1 Y0 Y1 A0 A1 B0 B1
            obtain ⟨⟨X0, X1, -, -, -⟩, ⟨Y0, Y1, -, -, -⟩, ⟨A0, A1, -, -, -⟩, ⟨B0, B1, -, -, -⟩, -⟩ := id HG.out
            go_wp2_with fail
            refine (C'.out _).mono ?_
            rintro e v3 ⟨rfl, hb⟩
            have HG := Lib.hid (HG.out.keep hb)
            clear hb
            clear X0 X1 Y0 Y1 A0 A1 B0 B1
            obtain ⟨⟨X0, X1, -, -, -⟩, ⟨Y0, Y1, -, -, -⟩, ⟨A0, A1, -, -, -⟩, ⟨B0, B1, -, -, -⟩, -⟩ := id HG.out
            go_wp2_with fail
            refine (D'.out _).mono ?_
            rintro e v4 ⟨rfl, hb⟩
            have HG := Lib.hid (HG.out.keep hb)
            clear hb
            clear X0 X1 Y0 Y1 A0 A1 B0 B1
            obtain ⟨⟨X0, X1, -, -, -⟩, ⟨Y0, Y1, -, -, -⟩, ⟨A0, A1, -, -, -⟩, ⟨B0, B1, -, -, -⟩, -⟩ := id HG.out
            go_wp2_with fail
            go_ret
            exact ⟨rfl, HG.out.le⟩
          · have u1 : (R'.e != 0) = true := by rw [bne_iff_ne]; exact s1
            clear s1
            obtain ⟨⟨X0, X1, -, -, -⟩, ⟨Y0, Y1, -, -, -⟩, ⟨A0, A1, -, -, -⟩, ⟨B0, B1, -, -, -⟩, -⟩ := id HG.out
            go_wp2_with fail
            refine (C.out _).mono ?_
            rintro e v1 ⟨rfl, hb⟩
            have HG := Lib.hid (HG.out.keep hb)
            clear hb
            clear X0 X1 Y0 Y1 A0 A1 B0 B1
            obtain ⟨⟨X0, X1, -, -, -⟩, ⟨Y0, Y1, -, -, -⟩, ⟨A0, A1, -, -, -⟩, ⟨B0, B1, -, -, -⟩, -⟩ := id HG.out
            go_wp2_with fail
            refine (D.out _).mono ?_
            rintro e v2 ⟨rfl, hb⟩
            have HG := Lib.hid (HG.out.keep hb)
            clear hb
            clear X0 X1 Y0 Y1 A0 A1 B0 B1
            obtain ⟨⟨X0, X1, -, -, -⟩, ⟨Y0, Y1, -, -, -⟩, ⟨A0, A1, -, -, -⟩, ⟨B0, B1, -, -, -⟩, -⟩ := id HG.out
            go_wp2_with fail
            refine (C'.out _).mono ?_
            rintro e v3 ⟨rfl, hb⟩
            have HG := Lib.hid (HG.out.keep hb)
            clear hb
            clear X0 X1 Y0 Y1 A0 A1 B0 B1
            obtain ⟨⟨X0, X1, -, -, -⟩, ⟨Y0, Y1, -, -, -⟩, ⟨A0, A1, -, -, -⟩, ⟨B0, B1, -, -, -⟩, -⟩ := id HG.out
            go_wp2_with fail
            refine (D'.out _).mono ?_
            rintro e v4 ⟨rfl, hb⟩
            have HG := Lib.hid (HG.out.keep hb)
            clear hb
            clear X0 X1 Y0 Y1 A0 A1 B0 B1
            obtain ⟨⟨X0, X1, -, -, -⟩, ⟨Y0, Y1, -, -, -⟩, ⟨A0, A1, -, -, -⟩, ⟨B0, B1, -, -, -⟩, -⟩ := id HG.out
            go_wp2_with fail
            go_ret
            exact ⟨rfl, HG.out.le⟩

theorem contains_bad (P : FxProg) (a b c d i k n : Int) (w : World) (ha : fok a b = false) :
    Calls Try.prog 8 #[.agg #[.int .i64 a, .int .i64 b], .agg #[.int .i64 c, .int .i64 d], .int .u32 i, .int .u32 k, .int .i64 n] w fun e w' => e = .returned (.bool true) ∧ Below w.heap.size w w' := by
  have CA := Lib.hid (fun wx => awake_any P wx)
  have V1 := Lib.hid (fun wx => rValid_is a b false ha wx)
  clear ha
  have A := At2.new w (.int .i64 a) (.int .i64 b) 23
  have A := A.alloc (.cells #[.int .i64 c, .int .i64 d] 23)
  have B := At2.new (w.alloc (.cells #[.int .i64 a, .int .i64 b] 23)) (.int .i64 c) (.int .i64 d) 23
  simp at B
  have HB := Lib.hid (bstep (bstep (Below.refl w.heap.size w) (below1 w (.cells #[.int .i64 a, .int .i64 b] 23))) (below1 (w.alloc (.cells #[.int .i64 a, .int .i64 b] 23)) (.cells #[.int .i64 c, .int .i64 d] 23)))
  go_enter Try.func8, Try.ntmps8
  obtain ⟨A0, A1, -, -, -⟩ := id A
  obtain ⟨B0, B1, -, -, -⟩ := id B
  go_wp2_with fail
  refine (CA.out _).mono ?_
  rintro e w1 ⟨rfl, hb⟩
  have A := (A.keep hb)
  have B := (B.keep hb)
  have HB := Lib.hid (bstep HB.out hb)
  clear hb
  clear A0 A1 B0 B1
  obtain ⟨A0, A1, -, -, -⟩ := id A
  obtain ⟨B0, B1, -, -, -⟩ := id B
  go_wp2_with fail
  refine (V1.out _).mono ?_
  rintro e w2 ⟨rfl, hb⟩
  have A := (A.keep hb)
  have B := (B.keep hb)
  have HB := Lib.hid (bstep HB.out hb)
  clear hb
  clear A0 A1 B0 B1
  obtain ⟨A0, A1, -, -, -⟩ := id A
  obtain ⟨B0, B1, -, -, -⟩ := id B
  go_wp2_with fail
  go_ret
  exact ⟨rfl, HB.out⟩

theorem contains_mid (P : FxProg) (a b c d i k n : Int) (w : World) (ha : fok a b = true) (hc : fok c d = false) :
    Calls Try.prog 8 #[.agg #[.int .i64 a, .int .i64 b], .agg #[.int .i64 c, .int .i64 d], .int .u32 i, .int .u32 k, .int .i64 n] w fun e w' => e = .returned (.bool true) ∧ Below w.heap.size w w' := by
  have CA := Lib.hid (fun wx => awake_any P wx)
  have V1 := Lib.hid (fun wx => rValid_is a b true ha wx)
  have V2 := Lib.hid (fun wx => rValid_is c d false hc wx)
  clear ha hc
  have A := At2.new w (.int .i64 a) (.int .i64 b) 23
  have A := A.alloc (.cells #[.int .i64 c, .int .i64 d] 23)
  have B := At2.new (w.alloc (.cells #[.int .i64 a, .int .i64 b] 23)) (.int .i64 c) (.int .i64 d) 23
  simp at B
  have HB := Lib.hid (bstep (bstep (Below.refl w.heap.size w) (below1 w (.cells #[.int .i64 a, .int .i64 b] 23))) (below1 (w.alloc (.cells #[.int .i64 a, .int .i64 b] 23)) (.cells #[.int .i64 c, .int .i64 d] 23)))
  go_enter Try.func8, Try.ntmps8
  obtain ⟨A0, A1, -, -, -⟩ := id A
  obtain ⟨B0, B1, -, -, -⟩ := id B
  go_wp2_with fail
  refine (CA.out _).mono ?_
  rintro e w1 ⟨rfl, hb⟩
  have A := (A.keep hb)
  have B := (B.keep hb)
  have HB := Lib.hid (bstep HB.out hb)
  clear hb
  clear A0 A1 B0 B1
  obtain ⟨A0, A1, -, -, -⟩ := id A
  obtain ⟨B0, B1, -, -, -⟩ := id B
  go_wp2_with fail
  refine (V1.out _).mono ?_
  rintro e w2 ⟨rfl, hb⟩
  have A := (A.keep hb)
  have B := (B.keep hb)
  have HB := Lib.hid (bstep HB.out hb)
  clear hb
  clear A0 A1 B0 B1
  obtain ⟨A0, A1, -, -, -⟩ := id A
  obtain ⟨B0, B1, -, -, -⟩ := id B
  go_wp2_with fail
  refine (V2.out _).mono ?_
  rintro e w3 ⟨rfl, hb⟩
  have A := (A.keep hb)
  have B := (B.keep hb)
  have HB := Lib.hid (bstep HB.out hb)
  clear hb
  clear A0 A1 B0 B1
  obtain ⟨A0, A1, -, -, -⟩ := id A
  obtain ⟨B0, B1, -, -, -⟩ := id B
  go_wp2_with fail
  go_ret
  exact ⟨rfl, HB.out⟩

theorem contains_walk (P : FxProg) (a b c d i k n : Int) (w : World) (i1 : 0 ≤ i) (i2 : i ≤ 4294967295) (k1 : 0 ≤ k) (k2 : k ≤ 4294967295) (n1 : -9223372036854775808 ≤ n) (n2 : n ≤ 9223372036854775807) :
    Calls Try.prog 8 #[.agg #[.int .i64 a, .int .i64 b], .agg #[.int .i64 c, .int .i64 d], .int .u32 i, .int .u32 k, .int .i64 n] w fun e w' => e = .returned (.bool true) ∧ Below w.heap.size w w' := by
  cases ha : fok a b
  · exact contains_bad P a b c d i k n w ha
  · cases hc : fok c d
    · exact contains_mid P a b c d i k n w ha hc
    · exact contains_good P a b c d i k n w ha hc i1 i2 k1 k2 n1 n2
end Go.Proofs.Ytdkigfcglfgpoaa
