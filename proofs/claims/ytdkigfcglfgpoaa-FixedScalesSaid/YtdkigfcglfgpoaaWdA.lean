/- Contracts of the small functions of package wide. -/
import Derived.Test.YtdkigfcglfgpoaaWdM
import Derived.WalkKit
import Derived.WalkSpells
import Derived.WalkLawsBesides
import Derived.Lib.Hide
import Derived.Deep.QuietTactic
import Derived.BigQuiet
import Derived.Laws.Bits64b
namespace Go.Proofs.Ytdkigfcglfgpoaa.wd
open Go.RowKit
set_option linter.unusedVariables false

theorem ret_bool {a b : Bool} (h : a = b) : Ending.returned (.bool a) = .returned (.bool b) := by rw [h]
theorem ret_int {k : IntKind} {a b : Int} (h : a = b) : Ending.returned (.int k a) = .returned (.int k b) := by rw [h]

theorem valid_any (h l : Int) (w : World) :
    Calls Try.prog 75 #[.agg #[.int .i64 h, .int .i64 l]] w fun e w' => e = .returned (.bool (wok h l)) ∧ Below w.heap.size w w' := by
  have D : Hid (wok h l = decide (-1152921504606846976 ≤ h ∧ h < 1152921504606846976 ∧ 0 ≤ l ∧ l < 1152921504606846976)) := by show wok h l = _; rfl
  by_cases h1 : -1152921504606846976 ≤ h
  · by_cases h2 : h < 1152921504606846976
    · by_cases h3 : 0 ≤ l
      · by_cases h4 : l < 1152921504606846976
        all_goals
          go_enter Try.func75, Try.ntmps75
          go_wp2
          go_ret
          exact ⟨ret_bool (by rw [D.out]; simp; omega), (Below.refl _ _).alloc (Nat.le_refl _) _⟩
      · go_enter Try.func75, Try.ntmps75
        go_wp2
        go_ret
        exact ⟨ret_bool (by rw [D.out]; simp; omega), (Below.refl _ _).alloc (Nat.le_refl _) _⟩
    · go_enter Try.func75, Try.ntmps75
      go_wp2
      go_ret
      exact ⟨ret_bool (by rw [D.out]; simp; omega), (Below.refl _ _).alloc (Nat.le_refl _) _⟩
  · go_enter Try.func75, Try.ntmps75
    go_wp2
    go_ret
    exact ⟨ret_bool (by rw [D.out]; simp; omega), (Below.refl _ _).alloc (Nat.le_refl _) _⟩

theorem mask60 (l : Int) : bits .and .i64 l 1152921504606846975 = l % 1152921504606846976 := by
  have h2 : (BitVec.ofInt 64 (1152921504606846975 : Int)).toNat = 1152921504606846975 := by decide
  have h1 : (BitVec.ofInt 64 l).toNat = (l % 18446744073709551616).toNat := by rw [BitVec.toNat_ofInt]; rfl
  show IntKind.i64.wrap ((BitVec.ofInt 64 l &&& BitVec.ofInt 64 1152921504606846975).toNat : Int) = _
  rw [BitVec.toNat_and, h1, h2, show (1152921504606846975 : Nat) = 2 ^ 60 - 1 by rfl, Nat.and_two_pow_sub_one_eq_mod, IntKind.wrap_i64]
  omega

theorem or60 (h l : Int) (h0 : 0 ≤ l) (h1 : l < 1152921504606846976) : bits .or .i64 (wrap64 (h * 1152921504606846976)) l = wrap64 (wv h l) := by
  have e1 : (BitVec.ofInt 64 (wrap64 (h * 1152921504606846976))).toNat = (h % 16).toNat <<< 60 := by
    rw [BitVec.toNat_ofInt, Nat.shiftLeft_eq]; unfold wrap64; omega
  have e2 : (BitVec.ofInt 64 l).toNat = l.toNat := by rw [BitVec.toNat_ofInt]; omega
  show IntKind.i64.wrap ((BitVec.ofInt 64 (wrap64 (h * 1152921504606846976)) ||| BitVec.ofInt 64 l).toNat : Int) = _
  rw [BitVec.toNat_or, e1, e2, ← Nat.shiftLeft_add_eq_or_of_lt (by omega), Nat.shiftLeft_eq, IntKind.wrap_i64]
  unfold wv wrap64
  omega

theorem absolute_any (n : Int) (w : World) (h1 : -9223372036854775808 ≤ n) (h2 : n ≤ 9223372036854775807) :
    Calls Try.prog 72 #[.int .i64 n] w fun e w' => e = .returned (.int .u64 ((n.natAbs : Nat) : Int)) ∧ w = w' := by
  by_cases h : n < 0
  · go_enter Try.func72, Try.ntmps72
    go_wp2
    go_ret
    exact ⟨ret_int (by rw [IntKind.wrap_u64, IntKind.wrap_u64]; omega), rfl⟩
  · go_enter Try.func72, Try.ntmps72
    go_wp2
    go_ret
    exact ⟨ret_int (by omega), rfl⟩

theorem carried_any (h l : Int) (w : World) (h1 : -2305843009213693952 ≤ h) (h2 : h ≤ 2305843009213693952) (l1 : -9223372036854775808 ≤ l) (l2 : l ≤ 9223372036854775807) :
    Calls Try.prog 78 #[.int .i64 h, .int .i64 l] w fun e w' => e = .returned (.agg #[.int .i64 (wh (wv h l)), .int .i64 (wl (wv h l))]) ∧ Below w.heap.size w w' := by
  have D1 := Lib.hid (wh_add h l)
  have D2 := Lib.hid (wl_add h l)
  have D3 := Lib.hid (mask60 l)
  go_enter Try.func78, Try.ntmps78
  go_wp2
  refine bodyPost_ret (v := .agg #[.int .i64 (wh (wv h l)), .int .i64 (wl (wv h l))]) ?_ rfl ⟨rfl, (Below.refl _ _).alloc (Nat.le_refl _) _⟩
  rw [D1.out, D2.out, ← D3.out]
  simp [results, Try.results78, go_sem]

theorem signed_pos (n : Nat) (w : World) (hn : n ≤ 9223372036854775807) :
    Calls Try.prog 80 #[.int .u64 (n : Int), .bool false] w fun e w' => e = .returned (.tuple #[.int .i64 (n : Int), .int .i64 0]) ∧ w = w' := by
  have h : (n : Int) ≤ 9223372036854775807 := by omega
  go_enter Try.func80, Try.ntmps80
  go_wp2
  go_ret2
  exact ⟨rfl, rfl⟩
theorem signed_neg (n : Nat) (w : World) (hn : n ≤ 9223372036854775808) :
    Calls Try.prog 80 #[.int .u64 (n : Int), .bool true] w fun e w' => e = .returned (.tuple #[.int .i64 (-(n : Int)), .int .i64 0]) ∧ w = w' := by
  have h : (n : Int) ≤ 9223372036854775808 := by omega
  have e : wrap64 (IntKind.u64.wrap (-(n : Int))) = -(n : Int) := by rw [IntKind.wrap_u64]; unfold wrap64; omega
  have E := Lib.hid e
  clear e
  go_enter Try.func80, Try.ntmps80
  go_wp2
  go_ret2
  exact ⟨by rw [E.out]; rfl, rfl⟩
theorem signed_bigpos (n : Nat) (w : World) (hn : ¬ n ≤ 9223372036854775807) :
    Calls Try.prog 80 #[.int .u64 (n : Int), .bool false] w fun e w' => e = .returned (.tuple #[.int .i64 0, .int .i64 5]) ∧ w = w' := by
  have h : ¬ (n : Int) ≤ 9223372036854775807 := by omega
  go_enter Try.func80, Try.ntmps80
  go_wp2
  go_ret2
  exact ⟨rfl, rfl⟩
theorem signed_bigneg (n : Nat) (w : World) (hn : ¬ n ≤ 9223372036854775808) :
    Calls Try.prog 80 #[.int .u64 (n : Int), .bool true] w fun e w' => e = .returned (.tuple #[.int .i64 0, .int .i64 5]) ∧ w = w' := by
  have h : ¬ (n : Int) ≤ 9223372036854775808 := by omega
  go_enter Try.func80, Try.ntmps80
  go_wp2
  go_ret2
  exact ⟨rfl, rfl⟩

/-- the block of a struct result, behind a call -/
theorem alloc_below {w w1 : World} {o : Obj} (hb : Below (w.alloc o).heap.size (w.alloc o) w1) : Below w.heap.size w w1 :=
  ((Below.refl _ _).alloc (Nat.le_refl _) o).trans (hb.mono (by simp))
theorem new2 {w w1 : World} {x y : Value} {T : Nat} (hb : Below (w.alloc (.cells #[x, y] T)).heap.size (w.alloc (.cells #[x, y] T)) w1) :
    w1.cell? ⟨w.heap.size, 0, none⟩ = some x ∧ w1.cell? ⟨w.heap.size, 1, none⟩ = some y ∧ w1.frozen? ⟨w.heap.size, 0, none⟩ = false ∧ w1.frozen? ⟨w.heap.size, 1, none⟩ = false ∧ w.heap.size < w1.heap.size := by
  have hs := hb.size
  simp at hs
  have c0 := hb.cell (p := ⟨w.heap.size, 0, none⟩) (by show w.heap.size < _; simp)
  have c1 := hb.cell (p := ⟨w.heap.size, 1, none⟩) (by show w.heap.size < _; simp)
  have f0 := hb.frozen (p := ⟨w.heap.size, 0, none⟩) (by show w.heap.size < _; simp)
  have f1 := hb.frozen (p := ⟨w.heap.size, 1, none⟩) (by show w.heap.size < _; simp)
  refine ⟨c0.trans ?_, c1.trans ?_, f0.trans ?_, f1.trans ?_, by omega⟩
  · rw [World.cell?_alloc_new]; rfl
  · rw [World.cell?_alloc_new]; rfl
  · go_simp
  · go_simp

/-- a struct of two fields lies in block b -/
structure At2 (w : World) (b : Nat) (x y : Value) : Prop where
  c0 : w.cell? ⟨b, 0, none⟩ = some x
  c1 : w.cell? ⟨b, 1, none⟩ = some y
  f0 : w.frozen? ⟨b, 0, none⟩ = false
  f1 : w.frozen? ⟨b, 1, none⟩ = false
  lt : b < w.heap.size
theorem At2.of {w w1 : World} {x y : Value} {T : Nat} (hb : Below (w.alloc (.cells #[x, y] T)).heap.size (w.alloc (.cells #[x, y] T)) w1) : At2 w1 w.heap.size x y := by
  obtain ⟨a, b, c, d, e⟩ := new2 hb; exact ⟨a, b, c, d, e⟩
theorem At2.keep {w w1 : World} {b : Nat} {x y : Value} (h : At2 w b x y) (hb : Below w.heap.size w w1) : At2 w1 b x y :=
  ⟨(hb.cell (p := ⟨b, 0, none⟩) h.lt).trans h.c0, (hb.cell (p := ⟨b, 1, none⟩) h.lt).trans h.c1, (hb.frozen (p := ⟨b, 0, none⟩) h.lt).trans h.f0, (hb.frozen (p := ⟨b, 1, none⟩) h.lt).trans h.f1, Nat.lt_of_lt_of_le h.lt hb.size⟩
theorem At2.new (w : World) (x y : Value) (T : Nat) : At2 (w.alloc (.cells #[x, y] T)) w.heap.size x y := At2.of (T := T) (Below.refl _ _)
theorem At2.alloc {w : World} {b : Nat} {x y : Value} (h : At2 w b x y) (o : Obj) : At2 (w.alloc o) b x y := h.keep ((Below.refl _ _).alloc (Nat.le_refl _) o)
theorem At2.three (w : World) (a b c d e f : Value) (T T' T'' : Nat) :
    At2 (((w.alloc (.cells #[a, b] T)).alloc (.cells #[c, d] T')).alloc (.cells #[e, f] T'')) w.heap.size a b ∧
    At2 (((w.alloc (.cells #[a, b] T)).alloc (.cells #[c, d] T')).alloc (.cells #[e, f] T'')) (w.heap.size + 1) c d ∧
    At2 (((w.alloc (.cells #[a, b] T)).alloc (.cells #[c, d] T')).alloc (.cells #[e, f] T'')) (w.heap.size + 1 + 1) e f := by
  have h1 := At2.new (w.alloc (.cells #[a, b] T)) c d T'
  have h2 := At2.new ((w.alloc (.cells #[a, b] T)).alloc (.cells #[c, d] T')) e f T''
  simp at h1 h2
  exact ⟨((At2.new w a b T).alloc _).alloc _, h1.alloc _, h2⟩
theorem At2.two (w : World) (a b c d : Value) (T T' : Nat) :
    At2 ((w.alloc (.cells #[a, b] T)).alloc (.cells #[c, d] T')) w.heap.size a b ∧
    At2 ((w.alloc (.cells #[a, b] T)).alloc (.cells #[c, d] T')) (w.heap.size + 1) c d := by
  have h1 := At2.new (w.alloc (.cells #[a, b] T)) c d T'
  simp at h1
  exact ⟨(At2.new w a b T).alloc _, h1⟩
theorem below1 (w : World) (o : Obj) : Below w.heap.size w (w.alloc o) := (Below.refl _ _).alloc (Nat.le_refl _) o
theorem below2 (w : World) (o o' : Obj) : Below w.heap.size w ((w.alloc o).alloc o') := (below1 w o).alloc (by simp) o'
theorem below3 (w : World) (o o' o'' : Obj) : Below w.heap.size w (((w.alloc o).alloc o').alloc o'') := (below2 w o o').alloc (by simp; omega) o''
theorem bstep {w w1 w2 : World} (h : Below w.heap.size w w1) (h' : Below w1.heap.size w1 w2) : Below w.heap.size w w2 := h.trans (h'.mono h.size)
theorem bdrew {w w2 : World} (h : Below w.drew.heap.size w.drew w2) : Below w.heap.size w w2 := (Below.refl _ _).drew.trans h
theorem below_set2 {w w' : World} {n b : Nat} (h : Below n w w') (hn : n ≤ b) (x y : Value) : Below n w ((w'.setCell ⟨b, 0, none⟩ x).setCell ⟨b, 1, none⟩ y) := (h.setCell hn x).setCell hn y
theorem set2 {w1 : World} {b : Nat} {u v : Value} (c0 : w1.cell? ⟨b, 0, none⟩ = some u) (c1 : w1.cell? ⟨b, 1, none⟩ = some v) (x y : Value) :
    (w1.setCell ⟨b, 0, none⟩ x).cell? ⟨b, 0, none⟩ = some x ∧ ((w1.setCell ⟨b, 0, none⟩ x).setCell ⟨b, 1, none⟩ y).cell? ⟨b, 1, none⟩ = some y := by
  have h1 : (w1.setCell ⟨b, 0, none⟩ x).cell? ⟨b, 1, none⟩ = some v := (World.cell?_setCell_other w1 _ _ x (by simp)).trans c1
  exact ⟨World.cell?_setCell_same w1 _ x c0, World.cell?_setCell_same _ _ y h1⟩

theorem of_any (n : Int) (w : World) (l1 : -9223372036854775808 ≤ n) (l2 : n ≤ 9223372036854775807) :
    Calls Try.prog 69 #[.int .i64 n] w fun e w' => e = .returned (.agg #[.int .i64 (wh n), .int .i64 (wl n)]) ∧ Below w.heap.size w w' := by
  have C : Hid (∀ wx, Calls Try.prog 78 #[.int .i64 0, .int .i64 n] wx fun e w' => e = .returned (.agg #[.int .i64 (wh n), .int .i64 (wl n)]) ∧ Below wx.heap.size wx w') := by
    intro wx
    have := carried_any 0 n wx (by omega) (by omega) l1 l2
    rw [show wv 0 n = n by unfold wv; omega] at this
    exact this
  obtain ⟨x, hx⟩ : ∃ x, x = wh n := ⟨_, rfl⟩
  obtain ⟨y, hy⟩ : ∃ y, y = wl n := ⟨_, rfl⟩
  rw [← hx, ← hy] at C ⊢
  clear hx hy
  go_enter Try.func69, Try.ntmps69
  go_wp2_with fail
  refine (C.out _).mono ?_
  rintro e w1 ⟨rfl, hb1⟩
  obtain ⟨c0, c1, f0, f1, hz⟩ := new2 hb1
  have HB := Lib.hid (alloc_below hb1)
  clear hb1
  go_wp2_with fail
  obtain ⟨s0, s1⟩ := set2 c0 c1 (.int .i64 x) (.int .i64 y)
  refine bodyPost_ret (v := .agg #[.int .i64 x, .int .i64 y]) (by simp [results, Try.results69, go_sem, s0, s1]) rfl ⟨rfl, ?_⟩
  exact (HB.out.setCell (by simp) _).setCell (by simp) _

end Go.Proofs.Ytdkigfcglfgpoaa.wd
