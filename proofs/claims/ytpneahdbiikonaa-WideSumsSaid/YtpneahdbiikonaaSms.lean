/- WideSums: the walks of the law. -/
import Derived.Test.YtpneahdbiikonaaQts
import Derived.Deep.CutRange
namespace Go.Proofs.Ytpneahdbiikonaa
open Go.RowKit
set_option linter.unusedVariables false
attribute [local go_sem ↓] Go.wp_at_zero Go.wp_at_succ

/-- what the walk asks of its callees: s the sum's parts, d the difference's, c the order -/
structure SmC (h l h' l' sH sL sE dH dL dE c : Int) : Prop where
  fa : ∀ wx, Calls Try.prog 21 #[.agg #[.int .i64 h, .int .i64 l], .agg #[.int .i64 h', .int .i64 l']] wx fun e w' => e = .returned (.tuple #[.agg #[.int .i64 sH, .int .i64 sL], .int .i64 sE]) ∧ Below wx.heap.size wx w'
  fs : ∀ wx, Calls Try.prog 22 #[.agg #[.int .i64 h, .int .i64 l], .agg #[.int .i64 h', .int .i64 l']] wx fun e w' => e = .returned (.tuple #[.agg #[.int .i64 dH, .int .i64 dL], .int .i64 dE]) ∧ Below wx.heap.size wx w'
  fc : ∀ wx, Calls Try.prog 23 #[.agg #[.int .i64 h, .int .i64 l], .agg #[.int .i64 h', .int .i64 l']] wx fun e w' => e = .returned (.tuple #[.int .i64 c, .int .i64 0]) ∧ Below wx.heap.size wx w'
  fv1 : ∀ wx, Calls Try.prog 13 #[.agg #[.int .i64 h, .int .i64 l]] wx fun e w' => e = .returned (.bool true) ∧ Below wx.heap.size wx w'
  fv2 : ∀ wx, Calls Try.prog 13 #[.agg #[.int .i64 h', .int .i64 l']] wx fun e w' => e = .returned (.bool true) ∧ Below wx.heap.size wx w'
  fo1 : ∀ wx, Calls Try.prog 20 #[.agg #[.int .i64 h, .int .i64 l]] wx (RetZ wx (wv h l))
  fo2 : ∀ wx, Calls Try.prog 20 #[.agg #[.int .i64 h', .int .i64 l']] wx (RetZ wx (wv h' l'))
  fp : ∀ wx A1 n1 c1 g1 A2 n2 c2 g2, NZ wx A1 n1 c1 g1 (wv h l) → NZ wx A2 n2 c2 g2 (wv h' l') → Calls Try.prog 24 #[.agg #[.slice A1 n1 c1, .bool g1], .agg #[.slice A2 n2 c2, .bool g2]] wx (RetZ wx (wv h l + wv h' l'))
  ft : ∀ wx A1 n1 c1 g1, NZ wx A1 n1 c1 g1 (wv h l + wv h' l') → Calls Try.prog 15 #[.agg #[.slice A1 n1 c1, .bool g1]] wx fun e w' => e = .returned (.tuple #[.agg #[.int .i64 sH, .int .i64 sL], .int .i64 sE]) ∧ Below wx.heap.size wx w'
  fn : ∀ wx A1 n1 c1 g1, NZ wx A1 n1 c1 g1 (wv h' l') → Calls Try.prog 25 #[.agg #[.slice A1 n1 c1, .bool g1]] wx fun e w' => (∃ g2, e = .returned (.agg #[.slice A1 n1 c1, .bool g2]) ∧ NZ w' A1 n1 c1 g2 (-wv h' l')) ∧ Below wx.heap.size wx w'
  fq : ∀ wx A1 n1 c1 g1 A2 n2 c2 g2, NZ wx A1 n1 c1 g1 (wv h l) → NZ wx A2 n2 c2 g2 (-wv h' l') → Calls Try.prog 24 #[.agg #[.slice A1 n1 c1, .bool g1], .agg #[.slice A2 n2 c2, .bool g2]] wx (RetZ wx (wv h l - wv h' l'))
  fu : ∀ wx A1 n1 c1 g1, NZ wx A1 n1 c1 g1 (wv h l - wv h' l') → Calls Try.prog 15 #[.agg #[.slice A1 n1 c1, .bool g1]] wx fun e w' => e = .returned (.tuple #[.agg #[.int .i64 dH, .int .i64 dL], .int .i64 dE]) ∧ Below wx.heap.size wx w'
  fk : ∀ wx A1 n1 c1 g1 A2 n2 c2 g2, NZ wx A1 n1 c1 g1 (wv h l) → NZ wx A2 n2 c2 g2 (wv h' l') → Calls Try.prog 26 #[.agg #[.slice A1 n1 c1, .bool g1], .agg #[.slice A2 n2 c2, .bool g2]] wx fun e w' => e = .returned (.int .i64 c) ∧ Below wx.heap.size wx w'

/-- the blocks of the law: a and b, the sum's block b5, the difference's block b7 -/
structure Sm4 (w : World) (h l h' l' sH sL dH dL : Int) (b5 b7 : Nat) (wr : World) : Prop where
  t : Two w (.int .i64 h) (.int .i64 l) (.int .i64 h') (.int .i64 l') wr
  s : Bl2 wr b5 (.int .i64 sH) (.int .i64 sL)
  d : Bl2 wr b7 (.int .i64 dH) (.int .i64 dL)
theorem Sm4.keep {w wr w2 : World} {h l h' l' sH sL dH dL : Int} {b5 b7 : Nat} (q : Sm4 w h l h' l' sH sL dH dL b5 b7 wr) (hb : Below wr.heap.size wr w2) : Sm4 w h l h' l' sH sL dH dL b5 b7 w2 := ⟨q.t.keep hb, q.s.keep hb, q.d.keep hb⟩
theorem Sm4.drew {w wr : World} {h l h' l' sH sL dH dL : Int} {b5 b7 : Nat} (q : Sm4 w h l h' l' sH sL dH dL b5 b7 wr) : Sm4 w h l h' l' sH sL dH dL b5 b7 wr.drew := q.keep (Below.refl _ _).drew
theorem Sm4.alloc {w wr : World} {h l h' l' sH sL dH dL : Int} {b5 b7 : Nat} (q : Sm4 w h l h' l' sH sL dH dL b5 b7 wr) (o : Obj) : Sm4 w h l h' l' sH sL dH dL b5 b7 (wr.alloc o) := q.keep ((Below.refl _ _).alloc (Nat.le_refl _) o)


theorem Dig.lt {w : World} {A : Option Addr} {n c : Nat} {l : List Nat} (h : Dig w A n c l) : ∀ ad, A = some ad → ad.block < w.heap.size := fun ad e => by
  obtain ⟨g, rfl, hg, _⟩ := h.at_ ad e
  exact hg
/-- a block b of the call's own that waits for a number: not that of A -/
structure Ex1 (w6 wr : World) (A : Option Addr) (b : Nat) : Prop where
  bl : Bl2 wr b (.slice none 0 0) (.bool false)
  ge : w6.heap.size ≤ b
  a : ∀ ad, A = some ad → ad.block ≠ b
structure Ex2 (w6 wr : World) (A A' : Option Addr) (b : Nat) : Prop where
  bl : Bl2 wr b (.slice none 0 0) (.bool false)
  ge : w6.heap.size ≤ b
  a : ∀ ad, A = some ad → ad.block ≠ b
  a' : ∀ ad, A' = some ad → ad.block ≠ b
/-- what holds behind the statement that makes both numbers -/
structure SmR (w : World) (h l h' l' sH sL dH dL x y : Int) (b5 b7 b11 b12 : Nat) (A1 : Option Addr) (n1 c1 : Nat) (g1 : Bool) (A2 : Option Addr) (n2 c2 : Nat) (g2 : Bool) (wr : World) : Prop where
  s : Sm4 w h l h' l' sH sL dH dL b5 b7 wr
  m1 : Bl2 wr b11 (.slice A1 n1 c1) (.bool g1)
  m2 : Bl2 wr b12 (.slice A2 n2 c2) (.bool g2)
  z1 : NZ wr A1 n1 c1 g1 x
  z2 : NZ wr A2 n2 c2 g2 y
theorem SmR.keep {w wr w2 : World} {h l h' l' sH sL dH dL x y : Int} {b5 b7 b11 b12 : Nat} {A1 : Option Addr} {n1 c1 : Nat} {g1 : Bool} {A2 : Option Addr} {n2 c2 : Nat} {g2 : Bool} (q : SmR w h l h' l' sH sL dH dL x y b5 b7 b11 b12 A1 n1 c1 g1 A2 n2 c2 g2 wr) (hb : Below wr.heap.size wr w2) :
    SmR w h l h' l' sH sL dH dL x y b5 b7 b11 b12 A1 n1 c1 g1 A2 n2 c2 g2 w2 := ⟨q.s.keep hb, q.m1.keep hb, q.m2.keep hb, q.z1.keep hb, q.z2.keep hb⟩
theorem SmR.drew {w wr : World} {h l h' l' sH sL dH dL x y : Int} {b5 b7 b11 b12 : Nat} {A1 : Option Addr} {n1 c1 : Nat} {g1 : Bool} {A2 : Option Addr} {n2 c2 : Nat} {g2 : Bool} (q : SmR w h l h' l' sH sL dH dL x y b5 b7 b11 b12 A1 n1 c1 g1 A2 n2 c2 g2 wr) :
    SmR w h l h' l' sH sL dH dL x y b5 b7 b11 b12 A1 n1 c1 g1 A2 n2 c2 g2 wr.drew := q.keep (Below.refl _ _).drew
theorem SmR.alloc {w wr : World} {h l h' l' sH sL dH dL x y : Int} {b5 b7 b11 b12 : Nat} {A1 : Option Addr} {n1 c1 : Nat} {g1 : Bool} {A2 : Option Addr} {n2 c2 : Nat} {g2 : Bool} (q : SmR w h l h' l' sH sL dH dL x y b5 b7 b11 b12 A1 n1 c1 g1 A2 n2 c2 g2 wr) (o : Obj) :
    SmR w h l h' l' sH sL dH dL x y b5 b7 b11 b12 A1 n1 c1 g1 A2 n2 c2 g2 (wr.alloc o) := q.keep ((Below.refl _ _).alloc (Nat.le_refl _) o)
theorem Sm4.put {w wr : World} {h l h' l' sH sL dH dL : Int} {b5 b7 b : Nat} (q : Sm4 w h l h' l' sH sL dH dL b5 b7 wr) (h1 : w.heap.size + 1 < b) (h2 : b5 < b) (h3 : b7 < b) (x y : Value) :
    Sm4 w h l h' l' sH sL dH dL b5 b7 ((wr.setCell ⟨b, 0, none⟩ x).setCell ⟨b, 1, none⟩ y) :=
  ⟨(q.t.far h1 0 x).far h1 1 y, (q.s.far ⟨b, 0, none⟩ (by show b ≠ b5; omega) x).far ⟨b, 1, none⟩ (by show b ≠ b5; omega) y, (q.d.far ⟨b, 0, none⟩ (by show b ≠ b7; omega) x).far ⟨b, 1, none⟩ (by show b ≠ b7; omega) y⟩
theorem NZ.put {w : World} {A : Option Addr} {n c b : Nat} {g : Bool} {z : Int} (h : NZ w A n c g z) (hp : ∀ ad, A = some ad → ad.block ≠ b) (x y : Value) : NZ ((w.setCell ⟨b, 0, none⟩ x).setCell ⟨b, 1, none⟩ y) A n c g z :=
  (h.far ⟨b, 0, none⟩ hp x).far ⟨b, 1, none⟩ hp y
theorem Bl2.put {w : World} {b : Nat} {u v : Value} (h : Bl2 w b u v) (x y : Value) : Bl2 ((w.setCell ⟨b, 0, none⟩ x).setCell ⟨b, 1, none⟩ y) b x y := (h.set0 x).set1 y
theorem Bl2.off {w : World} {b b' : Nat} {u v : Value} (h : Bl2 w b u v) (hb : b' ≠ b) (x y : Value) : Bl2 ((w.setCell ⟨b', 0, none⟩ x).setCell ⟨b', 1, none⟩ y) b u v := (h.far ⟨b', 0, none⟩ hb x).far ⟨b', 1, none⟩ hb y

section
variable {w w6 w8 : World} {h l h' l' sH sL dH dL x y : Int} {b5 b7 b b' : Nat} {A1 : Option Addr} {n1 c1 : Nat} {g1 : Bool} {A2 : Option Addr} {n2 c2 : Nat} {g2 : Bool}
theorem smr_new2 (S : Sm4 w h l h' l' sH sL dH dL b5 b7 w8) (z1 : NZ w8 A1 n1 c1 g1 x) (z2 : NZ w8 A2 n2 c2 g2 y) (T U : Nat) :
    SmR w h l h' l' sH sL dH dL x y b5 b7 w8.heap.size (w8.heap.size + 1) A1 n1 c1 g1 A2 n2 c2 g2 ((w8.alloc (.cells #[.slice A1 n1 c1, .bool g1] T)).alloc (.cells #[.slice A2 n2 c2, .bool g2] U)) := by
  have q := Bl2.new (w8.alloc (.cells #[.slice A1 n1 c1, .bool g1] T)) (.slice A2 n2 c2) (.bool g2) U
  simp at q
  exact ⟨(S.alloc _).alloc _, (Bl2.new _ _ _ _).alloc _, q, (z1.alloc _).alloc _, (z2.alloc _).alloc _⟩
theorem smr_new2s (S : Sm4 w h l h' l' sH sL dH dL b5 b7 w8) (z1 : NZ w8 A1 n1 c1 g1 x) (z2 : NZ w8 A2 n2 c2 g2 y) (T U : Nat) :
    SmR w h l h' l' sH sL dH dL x y b5 b7 (w8.heap.size + 1) w8.heap.size A1 n1 c1 g1 A2 n2 c2 g2 ((w8.alloc (.cells #[.slice A2 n2 c2, .bool g2] T)).alloc (.cells #[.slice A1 n1 c1, .bool g1] U)) := by
  have q := Bl2.new (w8.alloc (.cells #[.slice A2 n2 c2, .bool g2] T)) (.slice A1 n1 c1) (.bool g1) U
  simp at q
  exact ⟨(S.alloc _).alloc _, q, (Bl2.new _ _ _ _).alloc _, (z1.alloc _).alloc _, (z2.alloc _).alloc _⟩
/-- the blocks of the law lie below w6 -/
structure Lw (w w6 : World) (b5 b7 : Nat) : Prop where
  a : w.heap.size + 1 < w6.heap.size
  s : b5 < w6.heap.size
  d : b7 < w6.heap.size
theorem smr_mid (L : Lw w w6 b5 b7) (S : Sm4 w h l h' l' sH sL dH dL b5 b7 w8) (z1 : NZ w8 A1 n1 c1 g1 x) (z2 : NZ w8 A2 n2 c2 g2 y) (E : Ex2 w6 w8 A1 A2 b) (T : Nat) :
    SmR w h l h' l' sH sL dH dL x y b5 b7 b w8.heap.size A1 n1 c1 g1 A2 n2 c2 g2 (((w8.setCell ⟨b, 0, none⟩ (.slice A1 n1 c1)).setCell ⟨b, 1, none⟩ (.bool g1)).alloc (.cells #[.slice A2 n2 c2, .bool g2] T)) := by
  have q := Bl2.new ((w8.setCell ⟨b, 0, none⟩ (.slice A1 n1 c1)).setCell ⟨b, 1, none⟩ (.bool g1)) (.slice A2 n2 c2) (.bool g2) T
  simp at q
  have := L.a; have := L.s; have := L.d; have := E.ge
  exact ⟨(S.put (by omega) (by omega) (by omega) _ _).alloc _, (E.bl.put _ _).alloc _, q, (z1.put E.a _ _).alloc _, (z2.put E.a' _ _).alloc _⟩
theorem smr_mids (L : Lw w w6 b5 b7) (S : Sm4 w h l h' l' sH sL dH dL b5 b7 w8) (z1 : NZ w8 A1 n1 c1 g1 x) (z2 : NZ w8 A2 n2 c2 g2 y) (E : Ex2 w6 w8 A1 A2 b) (T : Nat) :
    SmR w h l h' l' sH sL dH dL x y b5 b7 w8.heap.size b A1 n1 c1 g1 A2 n2 c2 g2 (((w8.setCell ⟨b, 0, none⟩ (.slice A2 n2 c2)).setCell ⟨b, 1, none⟩ (.bool g2)).alloc (.cells #[.slice A1 n1 c1, .bool g1] T)) := by
  have q := Bl2.new ((w8.setCell ⟨b, 0, none⟩ (.slice A2 n2 c2)).setCell ⟨b, 1, none⟩ (.bool g2)) (.slice A1 n1 c1) (.bool g1) T
  simp at q
  have := L.a; have := L.s; have := L.d; have := E.ge
  exact ⟨(S.put (by omega) (by omega) (by omega) _ _).alloc _, q, (E.bl.put _ _).alloc _, (z1.put E.a _ _).alloc _, (z2.put E.a' _ _).alloc _⟩
theorem smr_old (L : Lw w w6 b5 b7) (S : Sm4 w h l h' l' sH sL dH dL b5 b7 w8) (z1 : NZ w8 A1 n1 c1 g1 x) (z2 : NZ w8 A2 n2 c2 g2 y) (E : Ex2 w6 w8 A1 A2 b) (E' : Ex2 w6 w8 A1 A2 b') (hne : b ≠ b') :
    SmR w h l h' l' sH sL dH dL x y b5 b7 b b' A1 n1 c1 g1 A2 n2 c2 g2 ((((w8.setCell ⟨b, 0, none⟩ (.slice A1 n1 c1)).setCell ⟨b, 1, none⟩ (.bool g1)).setCell ⟨b', 0, none⟩ (.slice A2 n2 c2)).setCell ⟨b', 1, none⟩ (.bool g2)) := by
  have := L.a; have := L.s; have := L.d; have := E.ge; have := E'.ge
  exact ⟨(S.put (by omega) (by omega) (by omega) _ _).put (by omega) (by omega) (by omega) _ _, (E.bl.put _ _).off (Ne.symm hne) _ _, (E'.bl.off hne _ _).put _ _, (z1.put E.a _ _).put E'.a _ _, (z2.put E.a' _ _).put E'.a' _ _⟩
end
set_option maxRecDepth 100000 in
set_option maxHeartbeats 8000000 in
theorem sms_ok (h l h' l' sH sL sE dH dL dE c : Int) (w : World) (C : SmC h l h' l' sH sL sE dH dL dE c) :
    Calls Try.prog 4 #[.agg #[.int .i64 h, .int .i64 l], .agg #[.int .i64 h', .int .i64 l']] w fun e w' => e = .returned (.bool true) ∧ Below w.heap.size w w' := by
  have HC := Lib.hid C
  have CA := Lib.hid C.fa
  have CS := Lib.hid C.fs
  have CC := Lib.hid C.fc
  clear C
  have T := Lib.hid (Two.new w (.int .i64 h) (.int .i64 l) (.int .i64 h') (.int .i64 l') 23 23)
  go_enter Try.func4, Try.ntmps4
  go_wp2_with fail
  refine (awake_any _).mono ?_
  rintro e w1 ⟨rfl, hb⟩
  have T := Lib.hid (T.out.keep hb)
  clear hb
  obtain ⟨⟨i0, i1, _, _, _⟩, ⟨j0, j1, _, _, _⟩, _⟩ := id T.out
  go_wp2_with fail
  refine (CA.out _).mono ?_
  rintro e w2 ⟨rfl, hb⟩
  have T := Lib.hid (T.out.keep hb)
  clear hb i0 i1 j0 j1
  obtain ⟨⟨i0, i1, _, _, i2⟩, ⟨j0, j1, _, _, j2⟩, _⟩ := id T.out
  go_wp2_with fail
  refine (CS.out _).mono ?_
  rintro e w3 ⟨rfl, hb⟩
  have N5 := Lib.hid ((Bl2.new w2 (.int .i64 sH) (.int .i64 sL) 23).keep hb)
  have T := Lib.hid ((T.out.alloc _).keep hb)
  clear hb i0 i1 j0 j1 i2 j2
  obtain ⟨⟨i0, i1, _, _, i2⟩, ⟨j0, j1, _, _, j2⟩, _⟩ := id T.out
  go_wp2_with fail
  refine (CC.out _).mono ?_
  rintro e w4 ⟨rfl, hb⟩
  have S : Hid (Sm4 w h l h' l' sH sL dH dL w2.heap.size w3.heap.size w4) := ⟨(T.out.alloc _).keep hb, (N5.out.alloc _).keep hb, (Bl2.new w3 _ _ _).keep hb⟩
  clear hb i0 i1 j0 j1 i2 j2 T N5
  obtain ⟨⟨⟨i0, i1, _, _, i2⟩, ⟨j0, j1, _, _, j2⟩, _⟩, ⟨p0, p1, _, _, p2⟩, ⟨q0, q1, _, _, q2⟩⟩ := id S.out
  go_wp2_with fail
  refine (HC.out.fv1 _).mono ?_
  rintro e w5 ⟨rfl, hb⟩
  have S := Lib.hid (S.out.keep hb)
  clear hb i0 i1 j0 j1 i2 j2 p0 p1 p2 q0 q1 q2
  obtain ⟨⟨⟨i0, i1, _, _, i2⟩, ⟨j0, j1, _, _, j2⟩, _⟩, ⟨p0, p1, _, _, p2⟩, ⟨q0, q1, _, _, q2⟩⟩ := id S.out
  go_wp2_with fail
  refine (HC.out.fv2 _).mono ?_
  rintro e w6 ⟨rfl, hb⟩
  have S := Lib.hid (S.out.keep hb)
  clear hb i0 i1 j0 j1 i2 j2 p0 p1 p2 q0 q1 q2
  obtain ⟨⟨⟨i0, i1, _, _, i2⟩, ⟨j0, j1, _, _, j2⟩, _⟩, ⟨p0, p1, _, _, p2⟩, ⟨q0, q1, _, _, q2⟩⟩ := id S.out
  go_upto_region 8 with fail
  have lt6 : w.heap.size + 1 < w6.heap.size := S.out.t.r.lt
  have ma0 : ¬ w.heap.size = w6.heap.size := (by omega); have ma1 : ¬ w.heap.size + 1 = w6.heap.size := (by omega); have ma2 : ¬ w6.heap.size = w.heap.size := (by omega); have ma3 : ¬ w6.heap.size = w.heap.size + 1 := (by omega); have mb0 : ¬ w.heap.size = w6.heap.size + 1 := (by omega); have mb1 : ¬ w.heap.size + 1 = w6.heap.size + 1 := (by omega); have mb2 : ¬ w6.heap.size + 1 = w.heap.size := (by omega); have mb3 : ¬ w6.heap.size + 1 = w.heap.size + 1 := (by omega)
  have LW : Hid (Lw w w6 w2.heap.size w3.heap.size) := ⟨S.out.t.r.lt, S.out.s.lt, S.out.d.lt⟩
  go_cut [11, 12] from 69 to 72 (fun p q wx => ∃ (b11 b12 : Nat) (A1 : Option Addr) (n1 c1 : Nat) (g1 : Bool) (A2 : Option Addr) (n2 c2 : Nat) (g2 : Bool), p = .pointer (some ⟨b11, 0, none⟩) ∧ q = .pointer (some ⟨b12, 0, none⟩) ∧ Hid (SmR w h l h' l' sH sL dH dL (wv h l) (wv h' l') w2.heap.size w3.heap.size b11 b12 A1 n1 c1 g1 A2 n2 c2 g2 wx))
  case first =>
    go_region_held3 (fun w' => w'.cell? ⟨w.heap.size, 0, none⟩ = some (.int .i64 h) ∧ w'.cell? ⟨w.heap.size, 1, none⟩ = some (.int .i64 l) ∧ w'.cell? ⟨w.heap.size + 1, 0, none⟩ = some (.int .i64 h') ∧ w'.cell? ⟨w.heap.size + 1, 1, none⟩ = some (.int .i64 l')) (go_keep)
      (first
      | (go_at_call 20; ((with_reducible refine (HC.out.fo1 (World.drew w6)).mono ?_); rintro e w7 ⟨A7, n7, c7, g7, rfl, hz7, hf7, hb⟩); have LE67 : w6.heap.size ≤ w7.heap.size := hb.size; have S := Lib.hid (S.out.drew.keep hb); (try have dax : ¬ w6.heap.size = w7.heap.size := (by have := P.out.bl.lt; omega)); (try have day : ¬ w7.heap.size = w6.heap.size := (by have := P.out.bl.lt; omega)); (try have dbx : ¬ w6.heap.size + 1 = w7.heap.size := (by have := Q.out.bl.lt; omega)); (try have dby : ¬ w7.heap.size = w6.heap.size + 1 := (by have := Q.out.bl.lt; omega)); (try have dcx : ¬ w6.heap.size = w7.heap.size + 1 := (by have := P.out.bl.lt; omega)); (try have dcy : ¬ w7.heap.size + 1 = w6.heap.size := (by have := P.out.bl.lt; omega)); have Z7 := Lib.hid hz7; have F7 := Lib.hid hz7.dig.lt; clear hz7 hf7 hb; have lt7 : w.heap.size + 1 < w7.heap.size := S.out.t.r.lt; have mh0 : ¬ w.heap.size = w7.heap.size := (by omega); have mh1 : ¬ w.heap.size + 1 = w7.heap.size := (by omega); have mh2 : ¬ w7.heap.size = w.heap.size := (by omega); have mh3 : ¬ w7.heap.size = w.heap.size + 1 := (by omega); have nh0 : ¬ w.heap.size = w7.heap.size + 1 := (by omega); have nh1 : ¬ w.heap.size + 1 = w7.heap.size + 1 := (by omega); have nh2 : ¬ w7.heap.size + 1 = w.heap.size := (by omega); have nh3 : ¬ w7.heap.size + 1 = w.heap.size + 1 := (by omega); obtain ⟨⟨⟨i0, i1, _, _, _⟩, ⟨j0, j1, _, _, _⟩, _⟩, _, _⟩ := id S.out)
      | (go_at_call 20; ((with_reducible refine (HC.out.fo1 (World.drew (World.alloc w6 _))).mono ?_); rintro e w7 ⟨A7, n7, c7, g7, rfl, hz7, hf7, hb⟩); have LE67 : w6.heap.size ≤ w7.heap.size := (by have := hb.size; simp at this; omega); have S := Lib.hid ((S.out.alloc _).drew.keep hb); have P : Hid (Ex1 w6 w7 A7 w6.heap.size) := ⟨(Bl2.new w6 (.slice none 0 0) (.bool false) 30).drew.keep hb, (by omega), (fun ad e => by have := hf7 ad e; simp at this; omega)⟩; (try have dax : ¬ w6.heap.size = w7.heap.size := (by have := P.out.bl.lt; omega)); (try have day : ¬ w7.heap.size = w6.heap.size := (by have := P.out.bl.lt; omega)); (try have dbx : ¬ w6.heap.size + 1 = w7.heap.size := (by have := Q.out.bl.lt; omega)); (try have dby : ¬ w7.heap.size = w6.heap.size + 1 := (by have := Q.out.bl.lt; omega)); (try have dcx : ¬ w6.heap.size = w7.heap.size + 1 := (by have := P.out.bl.lt; omega)); (try have dcy : ¬ w7.heap.size + 1 = w6.heap.size := (by have := P.out.bl.lt; omega)); have Z7 := Lib.hid hz7; have F7 := Lib.hid hz7.dig.lt; clear hz7 hf7 hb; have lt7 : w.heap.size + 1 < w7.heap.size := S.out.t.r.lt; have mh0 : ¬ w.heap.size = w7.heap.size := (by omega); have mh1 : ¬ w.heap.size + 1 = w7.heap.size := (by omega); have mh2 : ¬ w7.heap.size = w.heap.size := (by omega); have mh3 : ¬ w7.heap.size = w.heap.size + 1 := (by omega); have nh0 : ¬ w.heap.size = w7.heap.size + 1 := (by omega); have nh1 : ¬ w.heap.size + 1 = w7.heap.size + 1 := (by omega); have nh2 : ¬ w7.heap.size + 1 = w.heap.size := (by omega); have nh3 : ¬ w7.heap.size + 1 = w.heap.size + 1 := (by omega); obtain ⟨⟨⟨i0, i1, _, _, _⟩, ⟨j0, j1, _, _, _⟩, _⟩, _, _⟩ := id S.out)
      | (go_at_call 20; ((with_reducible refine (HC.out.fo1 (World.drew (World.alloc (World.alloc w6 _) _))).mono ?_); rintro e w7 ⟨A7, n7, c7, g7, rfl, hz7, hf7, hb⟩); have LE67 : w6.heap.size ≤ w7.heap.size := (by have := hb.size; simp at this; omega); have S := Lib.hid (((S.out.alloc _).alloc _).drew.keep hb); have P : Hid (Ex1 w6 w7 A7 w6.heap.size) := ⟨((Bl2.new w6 (.slice none 0 0) (.bool false) 30).alloc _).drew.keep hb, (by omega), (fun ad e => by have := hf7 ad e; simp at this; omega)⟩; have q := (Bl2.new (w6.alloc _) (.slice none 0 0) (.bool false) 30).drew.keep hb; simp at q; have Q : Hid (Ex1 w6 w7 A7 (w6.heap.size + 1)) := ⟨q, (by omega), (fun ad e => by have := hf7 ad e; simp at this; omega)⟩; clear q; (try have dax : ¬ w6.heap.size = w7.heap.size := (by have := P.out.bl.lt; omega)); (try have day : ¬ w7.heap.size = w6.heap.size := (by have := P.out.bl.lt; omega)); (try have dbx : ¬ w6.heap.size + 1 = w7.heap.size := (by have := Q.out.bl.lt; omega)); (try have dby : ¬ w7.heap.size = w6.heap.size + 1 := (by have := Q.out.bl.lt; omega)); (try have dcx : ¬ w6.heap.size = w7.heap.size + 1 := (by have := P.out.bl.lt; omega)); (try have dcy : ¬ w7.heap.size + 1 = w6.heap.size := (by have := P.out.bl.lt; omega)); have Z7 := Lib.hid hz7; have F7 := Lib.hid hz7.dig.lt; clear hz7 hf7 hb; have lt7 : w.heap.size + 1 < w7.heap.size := S.out.t.r.lt; have mh0 : ¬ w.heap.size = w7.heap.size := (by omega); have mh1 : ¬ w.heap.size + 1 = w7.heap.size := (by omega); have mh2 : ¬ w7.heap.size = w.heap.size := (by omega); have mh3 : ¬ w7.heap.size = w.heap.size + 1 := (by omega); have nh0 : ¬ w.heap.size = w7.heap.size + 1 := (by omega); have nh1 : ¬ w.heap.size + 1 = w7.heap.size + 1 := (by omega); have nh2 : ¬ w7.heap.size + 1 = w.heap.size := (by omega); have nh3 : ¬ w7.heap.size + 1 = w.heap.size + 1 := (by omega); obtain ⟨⟨⟨i0, i1, _, _, _⟩, ⟨j0, j1, _, _, _⟩, _⟩, _, _⟩ := id S.out)
      | (go_at_call 20; ((with_reducible refine (HC.out.fo2 w7).mono ?_); rintro e w8 ⟨A8, n8, c8, g8, rfl, hz8, hf8, hb⟩); (try have P : Hid (Ex2 w6 w8 A7 A8 w6.heap.size) := ⟨P.out.bl.keep hb, P.out.ge, P.out.a, (fun ad e => by have h1 := hf8 ad e; have h2 := P.out.bl.lt; (try simp at h1); (try have h3 : w7.heap.size ≤ ad.block := h1); omega)⟩); (try have Q : Hid (Ex2 w6 w8 A7 A8 (w6.heap.size + 1)) := ⟨Q.out.bl.keep hb, Q.out.ge, Q.out.a, (fun ad e => by have h1 := hf8 ad e; have h2 := Q.out.bl.lt; (try simp at h1); (try have h3 : w7.heap.size ≤ ad.block := h1); omega)⟩); have S := Lib.hid (S.out.keep hb); (try have depx : ¬ w6.heap.size = w8.heap.size := (by have := P.out.bl.lt; omega)); (try have depy : ¬ w8.heap.size = w6.heap.size := (by have := P.out.bl.lt; omega)); (try have deqx : ¬ w6.heap.size = w8.heap.size + 1 := (by have := P.out.bl.lt; omega)); (try have deqy : ¬ w8.heap.size + 1 = w6.heap.size := (by have := P.out.bl.lt; omega)); (try have dfpx : ¬ w6.heap.size + 1 = w8.heap.size := (by have := Q.out.bl.lt; omega)); (try have dfpy : ¬ w8.heap.size = w6.heap.size + 1 := (by have := Q.out.bl.lt; omega)); (try have dfqx : ¬ w6.heap.size + 1 = w8.heap.size + 1 := (by have := Q.out.bl.lt; omega)); (try have dfqy : ¬ w8.heap.size + 1 = w6.heap.size + 1 := (by have := Q.out.bl.lt; omega)); (try have dgpx : ¬ w7.heap.size = w8.heap.size := (by have := R.out.bl.lt; omega)); (try have dgpy : ¬ w8.heap.size = w7.heap.size := (by have := R.out.bl.lt; omega)); (try have dgqx : ¬ w7.heap.size = w8.heap.size + 1 := (by have := R.out.bl.lt; omega)); (try have dgqy : ¬ w8.heap.size + 1 = w7.heap.size := (by have := R.out.bl.lt; omega)); (try have dhpx : ¬ w7.heap.size + 1 = w8.heap.size := (by have := Q.out.bl.lt; omega)); (try have dhpy : ¬ w8.heap.size = w7.heap.size + 1 := (by have := Q.out.bl.lt; omega)); (try have dhqx : ¬ w7.heap.size + 1 = w8.heap.size + 1 := (by have := Q.out.bl.lt; omega)); (try have dhqy : ¬ w8.heap.size + 1 = w7.heap.size + 1 := (by have := Q.out.bl.lt; omega)); have Z7 := Lib.hid (Z7.out.keep hb); have Z8 := Lib.hid hz8; clear hz8 hf8 hb; (try obtain ⟨pa, pb, pc, pd, _⟩ := id P.out.bl); (try obtain ⟨qa, qb, qc, qd, _⟩ := id Q.out.bl); (try obtain ⟨ra, rb, rc, rd, _⟩ := id R.out.bl); have lt8 : w.heap.size + 1 < w8.heap.size := S.out.t.r.lt; have mi0 : ¬ w.heap.size = w8.heap.size := (by omega); have mi1 : ¬ w.heap.size + 1 = w8.heap.size := (by omega); have mi2 : ¬ w8.heap.size = w.heap.size := (by omega); have mi3 : ¬ w8.heap.size = w.heap.size + 1 := (by omega); have ni0 : ¬ w.heap.size = w8.heap.size + 1 := (by omega); have ni1 : ¬ w.heap.size + 1 = w8.heap.size + 1 := (by omega); have ni2 : ¬ w8.heap.size + 1 = w.heap.size := (by omega); have ni3 : ¬ w8.heap.size + 1 = w.heap.size + 1 := (by omega); obtain ⟨⟨⟨i0, i1, _, _, _⟩, ⟨j0, j1, _, _, _⟩, _⟩, _, _⟩ := id S.out)
      | (go_at_call 20; ((with_reducible refine (HC.out.fo2 (World.alloc w7 _)).mono ?_); rintro e w8 ⟨A8, n8, c8, g8, rfl, hz8, hf8, hb⟩); (try have P : Hid (Ex2 w6 w8 A7 A8 w6.heap.size) := ⟨(P.out.bl.alloc _).keep hb, P.out.ge, P.out.a, (fun ad e => by have h1 := hf8 ad e; have h2 := P.out.bl.lt; (try simp at h1); (try have h3 : w7.heap.size ≤ ad.block := h1); omega)⟩); have R : Hid (Ex2 w6 w8 A7 A8 w7.heap.size) := ⟨(Bl2.new w7 (.slice none 0 0) (.bool false) 30).keep hb, LE67, (fun ad e => by have h1 := F7.out ad e; omega), (fun ad e => by have := hf8 ad e; simp at this; omega)⟩; have S := Lib.hid ((S.out.alloc _).keep hb); (try have depx : ¬ w6.heap.size = w8.heap.size := (by have := P.out.bl.lt; omega)); (try have depy : ¬ w8.heap.size = w6.heap.size := (by have := P.out.bl.lt; omega)); (try have deqx : ¬ w6.heap.size = w8.heap.size + 1 := (by have := P.out.bl.lt; omega)); (try have deqy : ¬ w8.heap.size + 1 = w6.heap.size := (by have := P.out.bl.lt; omega)); (try have dfpx : ¬ w6.heap.size + 1 = w8.heap.size := (by have := Q.out.bl.lt; omega)); (try have dfpy : ¬ w8.heap.size = w6.heap.size + 1 := (by have := Q.out.bl.lt; omega)); (try have dfqx : ¬ w6.heap.size + 1 = w8.heap.size + 1 := (by have := Q.out.bl.lt; omega)); (try have dfqy : ¬ w8.heap.size + 1 = w6.heap.size + 1 := (by have := Q.out.bl.lt; omega)); (try have dgpx : ¬ w7.heap.size = w8.heap.size := (by have := R.out.bl.lt; omega)); (try have dgpy : ¬ w8.heap.size = w7.heap.size := (by have := R.out.bl.lt; omega)); (try have dgqx : ¬ w7.heap.size = w8.heap.size + 1 := (by have := R.out.bl.lt; omega)); (try have dgqy : ¬ w8.heap.size + 1 = w7.heap.size := (by have := R.out.bl.lt; omega)); (try have dhpx : ¬ w7.heap.size + 1 = w8.heap.size := (by have := Q.out.bl.lt; omega)); (try have dhpy : ¬ w8.heap.size = w7.heap.size + 1 := (by have := Q.out.bl.lt; omega)); (try have dhqx : ¬ w7.heap.size + 1 = w8.heap.size + 1 := (by have := Q.out.bl.lt; omega)); (try have dhqy : ¬ w8.heap.size + 1 = w7.heap.size + 1 := (by have := Q.out.bl.lt; omega)); have Z7 := Lib.hid ((Z7.out.alloc _).keep hb); have Z8 := Lib.hid hz8; clear hz8 hf8 hb; (try obtain ⟨pa, pb, pc, pd, _⟩ := id P.out.bl); (try obtain ⟨qa, qb, qc, qd, _⟩ := id Q.out.bl); (try obtain ⟨ra, rb, rc, rd, _⟩ := id R.out.bl); have lt8 : w.heap.size + 1 < w8.heap.size := S.out.t.r.lt; have mi0 : ¬ w.heap.size = w8.heap.size := (by omega); have mi1 : ¬ w.heap.size + 1 = w8.heap.size := (by omega); have mi2 : ¬ w8.heap.size = w.heap.size := (by omega); have mi3 : ¬ w8.heap.size = w.heap.size + 1 := (by omega); have ni0 : ¬ w.heap.size = w8.heap.size + 1 := (by omega); have ni1 : ¬ w.heap.size + 1 = w8.heap.size + 1 := (by omega); have ni2 : ¬ w8.heap.size + 1 = w.heap.size := (by omega); have ni3 : ¬ w8.heap.size + 1 = w.heap.size + 1 := (by omega); obtain ⟨⟨⟨i0, i1, _, _, _⟩, ⟨j0, j1, _, _, _⟩, _⟩, _, _⟩ := id S.out)
      | (go_at_call 20; ((with_reducible refine (HC.out.fo2 (World.alloc (World.alloc w7 _) _)).mono ?_); rintro e w8 ⟨A8, n8, c8, g8, rfl, hz8, hf8, hb⟩); have R : Hid (Ex2 w6 w8 A7 A8 w7.heap.size) := ⟨((Bl2.new w7 (.slice none 0 0) (.bool false) 30).alloc _).keep hb, LE67, (fun ad e => by have h1 := F7.out ad e; omega), (fun ad e => by have := hf8 ad e; simp at this; omega)⟩; have q := (Bl2.new (w7.alloc _) (.slice none 0 0) (.bool false) 30).keep hb; simp at q; have Q : Hid (Ex2 w6 w8 A7 A8 (w7.heap.size + 1)) := ⟨q, (by have := LE67; omega), (fun ad e => by have h1 := F7.out ad e; omega), (fun ad e => by have := hf8 ad e; simp at this; omega)⟩; clear q; have S := Lib.hid (((S.out.alloc _).alloc _).keep hb); (try have depx : ¬ w6.heap.size = w8.heap.size := (by have := P.out.bl.lt; omega)); (try have depy : ¬ w8.heap.size = w6.heap.size := (by have := P.out.bl.lt; omega)); (try have deqx : ¬ w6.heap.size = w8.heap.size + 1 := (by have := P.out.bl.lt; omega)); (try have deqy : ¬ w8.heap.size + 1 = w6.heap.size := (by have := P.out.bl.lt; omega)); (try have dfpx : ¬ w6.heap.size + 1 = w8.heap.size := (by have := Q.out.bl.lt; omega)); (try have dfpy : ¬ w8.heap.size = w6.heap.size + 1 := (by have := Q.out.bl.lt; omega)); (try have dfqx : ¬ w6.heap.size + 1 = w8.heap.size + 1 := (by have := Q.out.bl.lt; omega)); (try have dfqy : ¬ w8.heap.size + 1 = w6.heap.size + 1 := (by have := Q.out.bl.lt; omega)); (try have dgpx : ¬ w7.heap.size = w8.heap.size := (by have := R.out.bl.lt; omega)); (try have dgpy : ¬ w8.heap.size = w7.heap.size := (by have := R.out.bl.lt; omega)); (try have dgqx : ¬ w7.heap.size = w8.heap.size + 1 := (by have := R.out.bl.lt; omega)); (try have dgqy : ¬ w8.heap.size + 1 = w7.heap.size := (by have := R.out.bl.lt; omega)); (try have dhpx : ¬ w7.heap.size + 1 = w8.heap.size := (by have := Q.out.bl.lt; omega)); (try have dhpy : ¬ w8.heap.size = w7.heap.size + 1 := (by have := Q.out.bl.lt; omega)); (try have dhqx : ¬ w7.heap.size + 1 = w8.heap.size + 1 := (by have := Q.out.bl.lt; omega)); (try have dhqy : ¬ w8.heap.size + 1 = w7.heap.size + 1 := (by have := Q.out.bl.lt; omega)); have Z7 := Lib.hid (((Z7.out.alloc _).alloc _).keep hb); have Z8 := Lib.hid hz8; clear hz8 hf8 hb; (try obtain ⟨pa, pb, pc, pd, _⟩ := id P.out.bl); (try obtain ⟨qa, qb, qc, qd, _⟩ := id Q.out.bl); (try obtain ⟨ra, rb, rc, rd, _⟩ := id R.out.bl); have lt8 : w.heap.size + 1 < w8.heap.size := S.out.t.r.lt; have mi0 : ¬ w.heap.size = w8.heap.size := (by omega); have mi1 : ¬ w.heap.size + 1 = w8.heap.size := (by omega); have mi2 : ¬ w8.heap.size = w.heap.size := (by omega); have mi3 : ¬ w8.heap.size = w.heap.size + 1 := (by omega); have ni0 : ¬ w.heap.size = w8.heap.size + 1 := (by omega); have ni1 : ¬ w.heap.size + 1 = w8.heap.size + 1 := (by omega); have ni2 : ¬ w8.heap.size + 1 = w.heap.size := (by omega); have ni3 : ¬ w8.heap.size + 1 = w.heap.size + 1 := (by omega); obtain ⟨⟨⟨i0, i1, _, _, _⟩, ⟨j0, j1, _, _, _⟩, _⟩, _, _⟩ := id S.out))
    all_goals
      go_wp2_with fail
      go_meet
      case rel =>
        first
        | (refine ⟨w8.heap.size, w8.heap.size + 1, A7, n7, c7, g7, A8, n8, c8, g8, ?_, ?_, ?_⟩; (with_reducible rfl); (with_reducible rfl); exact smr_new2 S.out Z7.out Z8.out 30 30)
        | (refine ⟨w8.heap.size + 1, w8.heap.size, A7, n7, c7, g7, A8, n8, c8, g8, ?_, ?_, ?_⟩; (with_reducible rfl); (with_reducible rfl); exact smr_new2s S.out Z7.out Z8.out 30 30)
        | (refine ⟨w6.heap.size, w8.heap.size, A7, n7, c7, g7, A8, n8, c8, g8, ?_, ?_, ?_⟩; (with_reducible rfl); (with_reducible rfl); exact smr_mid LW.out S.out Z7.out Z8.out P.out 30)
        | (refine ⟨w8.heap.size, w6.heap.size, A7, n7, c7, g7, A8, n8, c8, g8, ?_, ?_, ?_⟩; (with_reducible rfl); (with_reducible rfl); exact smr_mids LW.out S.out Z7.out Z8.out P.out 30)
        | (refine ⟨w6.heap.size + 1, w8.heap.size, A7, n7, c7, g7, A8, n8, c8, g8, ?_, ?_, ?_⟩; (with_reducible rfl); (with_reducible rfl); exact smr_mid LW.out S.out Z7.out Z8.out Q.out 30)
        | (refine ⟨w8.heap.size, w6.heap.size + 1, A7, n7, c7, g7, A8, n8, c8, g8, ?_, ?_, ?_⟩; (with_reducible rfl); (with_reducible rfl); exact smr_mids LW.out S.out Z7.out Z8.out Q.out 30)
        | (refine ⟨w7.heap.size, w8.heap.size, A7, n7, c7, g7, A8, n8, c8, g8, ?_, ?_, ?_⟩; (with_reducible rfl); (with_reducible rfl); exact smr_mid LW.out S.out Z7.out Z8.out R.out 30)
        | (refine ⟨w8.heap.size, w7.heap.size, A7, n7, c7, g7, A8, n8, c8, g8, ?_, ?_, ?_⟩; (with_reducible rfl); (with_reducible rfl); exact smr_mids LW.out S.out Z7.out Z8.out R.out 30)
        | (refine ⟨w7.heap.size + 1, w8.heap.size, A7, n7, c7, g7, A8, n8, c8, g8, ?_, ?_, ?_⟩; (with_reducible rfl); (with_reducible rfl); exact smr_mid LW.out S.out Z7.out Z8.out Q.out 30)
        | (refine ⟨w8.heap.size, w7.heap.size + 1, A7, n7, c7, g7, A8, n8, c8, g8, ?_, ?_, ?_⟩; (with_reducible rfl); (with_reducible rfl); exact smr_mids LW.out S.out Z7.out Z8.out Q.out 30)
        | (refine ⟨w6.heap.size, w6.heap.size + 1, A7, n7, c7, g7, A8, n8, c8, g8, ?_, ?_, ?_⟩; (with_reducible rfl); (with_reducible rfl); exact smr_old LW.out S.out Z7.out Z8.out P.out Q.out (by omega))
        | (refine ⟨w6.heap.size + 1, w6.heap.size, A7, n7, c7, g7, A8, n8, c8, g8, ?_, ?_, ?_⟩; (with_reducible rfl); (with_reducible rfl); exact smr_old LW.out S.out Z7.out Z8.out Q.out P.out (by omega))
        | (refine ⟨w6.heap.size, w7.heap.size, A7, n7, c7, g7, A8, n8, c8, g8, ?_, ?_, ?_⟩; (with_reducible rfl); (with_reducible rfl); exact smr_old LW.out S.out Z7.out Z8.out P.out R.out (by omega))
        | (refine ⟨w7.heap.size, w6.heap.size, A7, n7, c7, g7, A8, n8, c8, g8, ?_, ?_, ?_⟩; (with_reducible rfl); (with_reducible rfl); exact smr_old LW.out S.out Z7.out Z8.out R.out P.out (by omega))
        | (refine ⟨w7.heap.size, w7.heap.size + 1, A7, n7, c7, g7, A8, n8, c8, g8, ?_, ?_, ?_⟩; (with_reducible rfl); (with_reducible rfl); exact smr_old LW.out S.out Z7.out Z8.out R.out Q.out (by omega))
        | (refine ⟨w7.heap.size + 1, w7.heap.size, A7, n7, c7, g7, A8, n8, c8, g8, ?_, ?_, ?_⟩; (with_reducible rfl); (with_reducible rfl); exact smr_old LW.out S.out Z7.out Z8.out Q.out R.out (by omega))
  case rest =>
    obtain ⟨b11, b12, A1, n1, c1, g1, A2, n2, c2, g2, rfl, rfl, M⟩ := hcut
    clear i0 i1 j0 j1 i2 j2 p0 p1 p2 q0 q1 q2 S LW
    obtain ⟨_, ⟨k0, k1, _, _, k2⟩, ⟨l0, l1, _, _, l2⟩, _, _⟩ := id M.out
    go_wp2_with fail
    refine (HC.out.fp _ _ _ _ _ _ _ _ _ M.out.z1 M.out.z2).mono ?_
    rintro e w9 ⟨A9, n9, c9, g9, rfl, hz9, hf9, hb⟩
    have M := Lib.hid (M.out.keep hb)
    have Z9 := Lib.hid hz9
    clear hz9 hf9 hb k0 k1 k2 l0 l1 l2
    go_wp2_with fail
    refine (HC.out.ft _ _ _ _ _ Z9.out).mono ?_
    rintro e w10 ⟨rfl, hb⟩
    have M := Lib.hid (M.out.keep hb)
    clear hb Z9
    have K := Lib.hid (M.out.alloc (.cells #[.int .i64 sH, .int .i64 sL] 23))
    have N13 := Lib.hid (Bl2.new w10 (.int .i64 sH) (.int .i64 sL) 23)
    have u11 := M.out.m1.lt
    have u12 := M.out.m2.lt
    have B := Lib.hid (Below.refl (w10.alloc (.cells #[.int .i64 sH, .int .i64 sL] 23)).heap.size (w10.alloc (.cells #[.int .i64 sH, .int .i64 sL] 23)))
    have x1 : ¬ b11 = w10.heap.size + 1 := by omega
    have x2 : ¬ b12 = w10.heap.size + 1 := by omega
    have x3 : ¬ w10.heap.size + 1 = b11 := by omega
    have x4 : ¬ w10.heap.size + 1 = b12 := by omega
    obtain ⟨_, ⟨k0, k1, _, _, _⟩, ⟨l0, l1, _, _, _⟩, _, _⟩ := id M.out
    go_wp2_with fail
    go_region_held3 (fun w' => w'.cell? ⟨b11, 0, none⟩ = some (.slice A1 n1 c1) ∧ w'.cell? ⟨b11, 1, none⟩ = some (.bool g1) ∧ w'.cell? ⟨b12, 0, none⟩ = some (.slice A2 n2 c2) ∧ w'.cell? ⟨b12, 1, none⟩ = some (.bool g2)) (go_keep)
      (first
      | (go_at_call 25; ((with_reducible refine (HC.out.fn (World.drew (World.alloc w10 _)) _ _ _ _ (K.out.z2.keep (Below.refl _ _).drew)).mono ?_); rintro e w11 ⟨⟨g7, rfl, hz⟩, hb⟩); have B := Lib.hid (bstep (B.out.drew) hb); have ZN := Lib.hid hz; clear hz hb; have sz11 : w10.heap.size + 1 ≤ w11.heap.size := (by have := B.out.size; simp at this; omega); have y110 : ¬ b11 = w11.heap.size := (by have := sz11; omega); have y111 : ¬ b12 = w11.heap.size := (by have := sz11; omega); have y112 : ¬ w11.heap.size = b11 := (by have := sz11; omega); have y113 : ¬ w11.heap.size = b12 := (by have := sz11; omega); obtain ⟨_, ⟨k0, k1, _, _, _⟩, ⟨l0, l1, _, _, _⟩, _, _⟩ := id (K.out.keep B.out))
      | (go_at_call 25; ((with_reducible refine (HC.out.fn (World.drew (World.alloc (World.alloc w10 _) _)) _ _ _ _ ((K.out.z2.alloc _).keep (Below.refl _ _).drew)).mono ?_); rintro e w11 ⟨⟨g7, rfl, hz⟩, hb⟩); have q := (Bl2.new (w10.alloc (.cells #[.int .i64 sH, .int .i64 sL] 23)) (.int .i64 0) (.int .i64 0) 23).drew.keep hb; simp at q; have N15 := Lib.hid q; have B := Lib.hid (bstep ((B.out.alloc (Nat.le_refl _) _).drew) hb); have ZN := Lib.hid hz; clear hz hb q; obtain ⟨o0, o1, o2, o3, _⟩ := id N15.out; have sz11 : w10.heap.size + 1 ≤ w11.heap.size := (by have := B.out.size; simp at this; omega); have y110 : ¬ b11 = w11.heap.size := (by have := sz11; omega); have y111 : ¬ b12 = w11.heap.size := (by have := sz11; omega); have y112 : ¬ w11.heap.size = b11 := (by have := sz11; omega); have y113 : ¬ w11.heap.size = b12 := (by have := sz11; omega); obtain ⟨_, ⟨k0, k1, _, _, _⟩, ⟨l0, l1, _, _, _⟩, _, _⟩ := id (K.out.keep B.out))
      | (go_at_call 24; ((with_reducible refine (HC.out.fq w11 _ _ _ _ _ _ _ _ (K.out.z1.keep B.out) (ZN.out)).mono ?_); rintro e w12 ⟨A8, n8, c8, g8, rfl, hz, hf, hb⟩); (try (have N15 := Lib.hid (N15.out.keep hb); obtain ⟨o0, o1, o2, o3, _⟩ := id N15.out)); have B := Lib.hid (bstep (B.out) hb); have ZP := Lib.hid hz; clear hz hb hf; have sz12 : w10.heap.size + 1 ≤ w12.heap.size := (by have := B.out.size; simp at this; omega); have y120 : ¬ b11 = w12.heap.size := (by have := sz12; omega); have y121 : ¬ b12 = w12.heap.size := (by have := sz12; omega); have y122 : ¬ w12.heap.size = b11 := (by have := sz12; omega); have y123 : ¬ w12.heap.size = b12 := (by have := sz12; omega); obtain ⟨_, ⟨k0, k1, _, _, _⟩, ⟨l0, l1, _, _, _⟩, _, _⟩ := id (K.out.keep B.out))
      | (go_at_call 24; ((with_reducible refine (HC.out.fq (World.alloc w11 _) _ _ _ _ _ _ _ _ ((K.out.z1.keep B.out).alloc _) (ZN.out.alloc _)).mono ?_); rintro e w12 ⟨A8, n8, c8, g8, rfl, hz, hf, hb⟩); have N15 := Lib.hid ((Bl2.new w11 (.int .i64 0) (.int .i64 0) 23).keep hb); have B := Lib.hid (bstep (B.out.alloc B.out.size _) hb); have ZP := Lib.hid hz; clear hz hb hf; obtain ⟨o0, o1, o2, o3, _⟩ := id N15.out; have sz12 : w10.heap.size + 1 ≤ w12.heap.size := (by have := B.out.size; simp at this; omega); have y120 : ¬ b11 = w12.heap.size := (by have := sz12; omega); have y121 : ¬ b12 = w12.heap.size := (by have := sz12; omega); have y122 : ¬ w12.heap.size = b11 := (by have := sz12; omega); have y123 : ¬ w12.heap.size = b12 := (by have := sz12; omega); obtain ⟨_, ⟨k0, k1, _, _, _⟩, ⟨l0, l1, _, _, _⟩, _, _⟩ := id (K.out.keep B.out))
      | (go_at_call 15; ((with_reducible refine (HC.out.fu w12 _ _ _ _ (ZP.out)).mono ?_); rintro e w13 ⟨rfl, hb⟩); (try (have N15 := Lib.hid (N15.out.keep hb); obtain ⟨o0, o1, o2, o3, _⟩ := id N15.out)); have B := Lib.hid (bstep (B.out) hb); clear hb; have sz13 : w10.heap.size + 1 ≤ w13.heap.size := (by have := B.out.size; simp at this; omega); have y130 : ¬ b11 = w13.heap.size := (by have := sz13; omega); have y131 : ¬ b12 = w13.heap.size := (by have := sz13; omega); have y132 : ¬ w13.heap.size = b11 := (by have := sz13; omega); have y133 : ¬ w13.heap.size = b12 := (by have := sz13; omega); obtain ⟨_, ⟨k0, k1, _, _, _⟩, ⟨l0, l1, _, _, _⟩, _, _⟩ := id (K.out.keep B.out))
      | (go_at_call 15; ((with_reducible refine (HC.out.fu (World.alloc w12 _) _ _ _ _ (ZP.out.alloc _)).mono ?_); rintro e w13 ⟨rfl, hb⟩); have N15 := Lib.hid ((Bl2.new w12 (.int .i64 0) (.int .i64 0) 23).keep hb); have B := Lib.hid (bstep (B.out.alloc B.out.size _) hb); clear hb; obtain ⟨o0, o1, o2, o3, _⟩ := id N15.out; have sz13 : w10.heap.size + 1 ≤ w13.heap.size := (by have := B.out.size; simp at this; omega); have y130 : ¬ b11 = w13.heap.size := (by have := sz13; omega); have y131 : ¬ b12 = w13.heap.size := (by have := sz13; omega); have y132 : ¬ w13.heap.size = b11 := (by have := sz13; omega); have y133 : ¬ w13.heap.size = b12 := (by have := sz13; omega); obtain ⟨_, ⟨k0, k1, _, _, _⟩, ⟨l0, l1, _, _, _⟩, _, _⟩ := id (K.out.keep B.out))
      )
    · skip
      have BN := Lib.hid (B.out.alloc B.out.size (.cells #[.int .i64 dH, .int .i64 dL] 23))
      have KF := Lib.hid (K.out.keep BN.out)
      have NF := Lib.hid (N13.out.keep BN.out)
      have MF := Lib.hid (Bl2.new w13 (.int .i64 dH) (.int .i64 dL) 23)
      obtain ⟨⟨⟨⟨i0, i1, _, _, _⟩, ⟨j0, j1, _, _, _⟩, _⟩, ⟨p0, p1, _, _, _⟩, ⟨q0, q1, _, _, _⟩⟩, ⟨k0, k1, _, _, _⟩, ⟨l0, l1, _, _, _⟩, _, _⟩ := id KF.out
      obtain ⟨r0, r1, _, _, _⟩ := id NF.out
      obtain ⟨t0, t1, _, _, _⟩ := id MF.out
      go_wp2_with fail
      refine (HC.out.fk _ _ _ _ _ _ _ _ _ KF.out.z1 KF.out.z2).mono ?_
      rintro e w14 ⟨rfl, hb⟩
      have BF := Lib.hid (KF.out.s.t.bel.trans (hb.mono KF.out.s.t.bel.size))
      clear hb
      go_wp2_with fail
      go_ret
      exact ⟨rfl, BF.out⟩
    · have BN := Lib.hid ((B.out.setCell (p := ⟨w12.heap.size, 0, none⟩) (by simp; omega) (.int .i64 dH)).setCell (p := ⟨w12.heap.size, 1, none⟩) (by simp; omega) (.int .i64 dL))
      have KF := Lib.hid (K.out.keep BN.out)
      have NF := Lib.hid (N13.out.keep BN.out)
      have MF := Lib.hid (N15.out.put (.int .i64 dH) (.int .i64 dL))
      obtain ⟨⟨⟨⟨i0, i1, _, _, _⟩, ⟨j0, j1, _, _, _⟩, _⟩, ⟨p0, p1, _, _, _⟩, ⟨q0, q1, _, _, _⟩⟩, ⟨k0, k1, _, _, _⟩, ⟨l0, l1, _, _, _⟩, _, _⟩ := id KF.out
      obtain ⟨r0, r1, _, _, _⟩ := id NF.out
      obtain ⟨t0, t1, _, _, _⟩ := id MF.out
      go_wp2_with fail
      refine (HC.out.fk _ _ _ _ _ _ _ _ _ KF.out.z1 KF.out.z2).mono ?_
      rintro e w14 ⟨rfl, hb⟩
      have BF := Lib.hid (KF.out.s.t.bel.trans (hb.mono KF.out.s.t.bel.size))
      clear hb
      go_wp2_with fail
      go_ret
      exact ⟨rfl, BF.out⟩
    · have BN := Lib.hid ((B.out.setCell (p := ⟨w11.heap.size, 0, none⟩) (by simp; omega) (.int .i64 dH)).setCell (p := ⟨w11.heap.size, 1, none⟩) (by simp; omega) (.int .i64 dL))
      have KF := Lib.hid (K.out.keep BN.out)
      have NF := Lib.hid (N13.out.keep BN.out)
      have MF := Lib.hid (N15.out.put (.int .i64 dH) (.int .i64 dL))
      obtain ⟨⟨⟨⟨i0, i1, _, _, _⟩, ⟨j0, j1, _, _, _⟩, _⟩, ⟨p0, p1, _, _, _⟩, ⟨q0, q1, _, _, _⟩⟩, ⟨k0, k1, _, _, _⟩, ⟨l0, l1, _, _, _⟩, _, _⟩ := id KF.out
      obtain ⟨r0, r1, _, _, _⟩ := id NF.out
      obtain ⟨t0, t1, _, _, _⟩ := id MF.out
      go_wp2_with fail
      refine (HC.out.fk _ _ _ _ _ _ _ _ _ KF.out.z1 KF.out.z2).mono ?_
      rintro e w14 ⟨rfl, hb⟩
      have BF := Lib.hid (KF.out.s.t.bel.trans (hb.mono KF.out.s.t.bel.size))
      clear hb
      go_wp2_with fail
      go_ret
      exact ⟨rfl, BF.out⟩
    · have BN := Lib.hid ((B.out.setCell (p := ⟨w10.heap.size + 1, 0, none⟩) (by simp) (.int .i64 dH)).setCell (p := ⟨w10.heap.size + 1, 1, none⟩) (by simp) (.int .i64 dL))
      have KF := Lib.hid (K.out.keep BN.out)
      have NF := Lib.hid (N13.out.keep BN.out)
      have MF := Lib.hid (N15.out.put (.int .i64 dH) (.int .i64 dL))
      obtain ⟨⟨⟨⟨i0, i1, _, _, _⟩, ⟨j0, j1, _, _, _⟩, _⟩, ⟨p0, p1, _, _, _⟩, ⟨q0, q1, _, _, _⟩⟩, ⟨k0, k1, _, _, _⟩, ⟨l0, l1, _, _, _⟩, _, _⟩ := id KF.out
      obtain ⟨r0, r1, _, _, _⟩ := id NF.out
      obtain ⟨t0, t1, _, _, _⟩ := id MF.out
      go_wp2_with fail
      refine (HC.out.fk _ _ _ _ _ _ _ _ _ KF.out.z1 KF.out.z2).mono ?_
      rintro e w14 ⟨rfl, hb⟩
      have BF := Lib.hid (KF.out.s.t.bel.trans (hb.mono KF.out.s.t.bel.size))
      clear hb
      go_wp2_with fail
      go_ret
      exact ⟨rfl, BF.out⟩
set_option maxRecDepth 100000 in
set_option maxHeartbeats 8000000 in
theorem sms_bad1 (h l h' l' : Int) (w : World) (hk : wok h l = false) :
    Calls Try.prog 4 #[.agg #[.int .i64 h, .int .i64 l], .agg #[.int .i64 h', .int .i64 l']] w fun e w' => e = .returned (.bool true) ∧ Below w.heap.size w w' := by
  have CA := Lib.hid (fun (wx : World) => add_bad1 h l h' l' wx hk)
  have CS := Lib.hid (fun (wx : World) => sub_bad1 h l h' l' wx hk)
  have CC := Lib.hid (fun (wx : World) => cmp_bad1 h l h' l' wx hk)
  have V := Lib.hid (fun (wx : World) => rvalid_is h l false hk wx)
  clear hk
  have T := Lib.hid (Two.new w (.int .i64 h) (.int .i64 l) (.int .i64 h') (.int .i64 l') 23 23)
  go_enter Try.func4, Try.ntmps4
  go_wp2_with fail
  refine (awake_any _).mono ?_
  rintro e w1 ⟨rfl, hb⟩
  have T := Lib.hid (T.out.keep hb)
  clear hb
  obtain ⟨⟨i0, i1, _, _, _⟩, ⟨j0, j1, _, _, _⟩, _⟩ := id T.out
  go_wp2_with fail
  refine (CA.out _).mono ?_
  rintro e w2 ⟨rfl, hb⟩
  have T := Lib.hid (T.out.keep hb)
  clear hb i0 i1 j0 j1
  obtain ⟨⟨i0, i1, _, _, i2⟩, ⟨j0, j1, _, _, j2⟩, _⟩ := id T.out
  go_wp2_with fail
  refine (CS.out _).mono ?_
  rintro e w3 ⟨rfl, hb⟩
  have N5 := Lib.hid ((Bl2.new w2 (.int .i64 0) (.int .i64 0) 23).keep hb)
  have T := Lib.hid ((T.out.alloc _).keep hb)
  clear hb i0 i1 j0 j1 i2 j2
  obtain ⟨⟨i0, i1, _, _, i2⟩, ⟨j0, j1, _, _, j2⟩, _⟩ := id T.out
  go_wp2_with fail
  refine (CC.out _).mono ?_
  rintro e w4 ⟨rfl, hb⟩
  have S : Hid (Sm4 w h l h' l' 0 0 0 0 w2.heap.size w3.heap.size w4) := ⟨(T.out.alloc _).keep hb, (N5.out.alloc _).keep hb, (Bl2.new w3 _ _ _).keep hb⟩
  clear hb i0 i1 j0 j1 i2 j2 T N5
  obtain ⟨⟨⟨i0, i1, _, _, i2⟩, ⟨j0, j1, _, _, j2⟩, _⟩, ⟨p0, p1, _, _, p2⟩, ⟨q0, q1, _, _, q2⟩⟩ := id S.out
  go_wp2_with fail
  refine (V.out _).mono ?_
  rintro e w5 ⟨rfl, hb⟩
  have S := Lib.hid (S.out.keep hb)
  clear hb i0 i1 j0 j1 i2 j2 p0 p1 p2 q0 q1 q2
  obtain ⟨⟨⟨i0, i1, _, _, i2⟩, ⟨j0, j1, _, _, j2⟩, _⟩, ⟨p0, p1, _, _, p2⟩, ⟨q0, q1, _, _, q2⟩⟩ := id S.out
  go_wp2_with fail
  go_ret
  exact ⟨rfl, S.out.t.bel⟩
set_option maxRecDepth 100000 in
set_option maxHeartbeats 8000000 in
theorem sms_bad2 (h l h' l' : Int) (w : World) (hk : wok h l = true) (hk' : wok h' l' = false) :
    Calls Try.prog 4 #[.agg #[.int .i64 h, .int .i64 l], .agg #[.int .i64 h', .int .i64 l']] w fun e w' => e = .returned (.bool true) ∧ Below w.heap.size w w' := by
  have CA := Lib.hid (fun (wx : World) => add_bad2 h l h' l' wx hk hk')
  have CS := Lib.hid (fun (wx : World) => sub_bad2 h l h' l' wx hk hk')
  have CC := Lib.hid (fun (wx : World) => cmp_bad2 h l h' l' wx hk hk')
  have V := Lib.hid (fun (wx : World) => rvalid_is h l true hk wx)
  have V' := Lib.hid (fun (wx : World) => rvalid_is h' l' false hk' wx)
  clear hk hk'
  have T := Lib.hid (Two.new w (.int .i64 h) (.int .i64 l) (.int .i64 h') (.int .i64 l') 23 23)
  go_enter Try.func4, Try.ntmps4
  go_wp2_with fail
  refine (awake_any _).mono ?_
  rintro e w1 ⟨rfl, hb⟩
  have T := Lib.hid (T.out.keep hb)
  clear hb
  obtain ⟨⟨i0, i1, _, _, _⟩, ⟨j0, j1, _, _, _⟩, _⟩ := id T.out
  go_wp2_with fail
  refine (CA.out _).mono ?_
  rintro e w2 ⟨rfl, hb⟩
  have T := Lib.hid (T.out.keep hb)
  clear hb i0 i1 j0 j1
  obtain ⟨⟨i0, i1, _, _, i2⟩, ⟨j0, j1, _, _, j2⟩, _⟩ := id T.out
  go_wp2_with fail
  refine (CS.out _).mono ?_
  rintro e w3 ⟨rfl, hb⟩
  have N5 := Lib.hid ((Bl2.new w2 (.int .i64 0) (.int .i64 0) 23).keep hb)
  have T := Lib.hid ((T.out.alloc _).keep hb)
  clear hb i0 i1 j0 j1 i2 j2
  obtain ⟨⟨i0, i1, _, _, i2⟩, ⟨j0, j1, _, _, j2⟩, _⟩ := id T.out
  go_wp2_with fail
  refine (CC.out _).mono ?_
  rintro e w4 ⟨rfl, hb⟩
  have S : Hid (Sm4 w h l h' l' 0 0 0 0 w2.heap.size w3.heap.size w4) := ⟨(T.out.alloc _).keep hb, (N5.out.alloc _).keep hb, (Bl2.new w3 _ _ _).keep hb⟩
  clear hb i0 i1 j0 j1 i2 j2 T N5
  obtain ⟨⟨⟨i0, i1, _, _, i2⟩, ⟨j0, j1, _, _, j2⟩, _⟩, ⟨p0, p1, _, _, p2⟩, ⟨q0, q1, _, _, q2⟩⟩ := id S.out
  go_wp2_with fail
  refine (V.out _).mono ?_
  rintro e w5 ⟨rfl, hb⟩
  have S := Lib.hid (S.out.keep hb)
  clear hb i0 i1 j0 j1 i2 j2 p0 p1 p2 q0 q1 q2
  obtain ⟨⟨⟨i0, i1, _, _, i2⟩, ⟨j0, j1, _, _, j2⟩, _⟩, ⟨p0, p1, _, _, p2⟩, ⟨q0, q1, _, _, q2⟩⟩ := id S.out
  go_wp2_with fail
  refine (V'.out _).mono ?_
  rintro e w6 ⟨rfl, hb⟩
  have S := Lib.hid (S.out.keep hb)
  clear hb i0 i1 j0 j1 i2 j2 p0 p1 p2 q0 q1 q2
  obtain ⟨⟨⟨i0, i1, _, _, i2⟩, ⟨j0, j1, _, _, j2⟩, _⟩, ⟨p0, p1, _, _, p2⟩, ⟨q0, q1, _, _, q2⟩⟩ := id S.out
  go_wp2_with fail
  go_ret
  exact ⟨rfl, S.out.t.bel⟩

theorem smC (h l h' l' : Int) (hk : wok h l = true) (hk' : wok h' l' = true) :
    SmC h l h' l' (fitH (wv h l + wv h' l')) (fitL (wv h l + wv h' l')) (fitE (wv h l + wv h' l')) (fitH (wv h l - wv h' l')) (fitL (wv h l - wv h' l')) (fitE (wv h l - wv h' l')) (sgn (wv h l - wv h' l')) := by
  have hw := (wok_iff h l).1 hk
  have hw' := (wok_iff h' l').1 hk'
  have hv : (wv h l).natAbs ≤ 1329227995784915872903807060280344576 := by unfold wv; omega
  have hv' : (wv h' l').natAbs ≤ 1329227995784915872903807060280344576 := by unfold wv; omega
  have s1 : Sm (wv h l) := sm_big (by omega)
  have s2 : Sm (wv h' l') := sm_big (by omega)
  refine ⟨fun wx => add_ok h l h' l' wx hk hk', fun wx => sub_ok h l h' l' wx hk hk', fun wx => ?_, fun wx => rvalid_is h l true hk wx, fun wx => rvalid_is h' l' true hk' wx,
    fun wx => ofwide_any h l wx (by omega) (by omega) (by omega) (by omega), fun wx => ofwide_any h' l' wx (by omega) (by omega) (by omega) (by omega), ?_, ?_, ?_, ?_, ?_, ?_⟩
  · have := cmp_ok h l h' l' wx hk hk'
    rw [wcmp_sgn h l h' l' hk hk'] at this
    exact this
  · intro wx A1 n1 c1 g1 A2 n2 c2 g2 q1 q2
    exact plus_any A1 A2 n1 c1 n2 c2 g1 g2 _ _ wx q1 q2 s1 s2
  · intro wx A1 n1 c1 g1 q
    exact towide_any A1 n1 c1 g1 _ wx q (by omega)
  · intro wx A1 n1 c1 g1 q
    refine (minus_any A1 n1 c1 g1 _ _ wx q rfl).mono ?_
    rintro e w' ⟨he, hb⟩
    exact ⟨⟨_, he, ⟨by rw [Int.natAbs_neg]; exact (q.keep hb).dig, rfl⟩⟩, hb⟩
  · intro wx A1 n1 c1 g1 A2 n2 c2 g2 q1 q2
    have := plus_any A1 A2 n1 c1 n2 c2 g1 g2 _ _ wx q1 q2 s1 s2.neg
    rw [← Int.sub_eq_add_neg] at this
    exact this
  · intro wx A1 n1 c1 g1 q
    exact towide_any A1 n1 c1 g1 _ wx q (by omega)
  · intro wx A1 n1 c1 g1 A2 n2 c2 g2 q1 q2
    exact compare_num A1 A2 n1 c1 n2 c2 g1 g2 _ _ wx q1 q2 s1 s2

theorem sms_any (h l h' l' : Int) (w : World) :
    Calls Try.prog 4 #[.agg #[.int .i64 h, .int .i64 l], .agg #[.int .i64 h', .int .i64 l']] w fun e w' => e = .returned (.bool true) ∧ Below w.heap.size w w' := by
  cases hk : wok h l
  · exact sms_bad1 h l h' l' w hk
  · cases hk' : wok h' l'
    · exact sms_bad2 h l h' l' w hk hk'
    · exact sms_ok h l h' l' _ _ _ _ _ _ _ w (smC h l h' l' hk hk')
end Go.Proofs.Ytpneahdbiikonaa
