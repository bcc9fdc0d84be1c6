/- Angle: what is asked of the program's functions, by their plain answers; the law's examples. -/
import Derived.Test.YtedcpmiadonmeaaDoorAnD
import Derived.Test.YtedcpmiadonmeaaDoorAnF
import Derived.Deep.LoopGhost
namespace Go.Proofs.YtedcpmiadonmeaaDoor
open Go.RowKit
set_option linter.unusedVariables false

/-- the answer, if the arguments are valid -/
def vA (r : Bool) (R : Fx) : Fx := if r = true then R else ⟨0, 0, 1⟩
theorem vA_yes {r : Bool} (R : Fx) (h : r = true) : vA r R = R := if_pos h
theorem vA_no {r : Bool} (R : Fx) (h : r = false) : vA r R = ⟨0, 0, 1⟩ := if_neg (by rw [h]; simp)
def agB (a b c d : Int) : Bool := aok a b && (aok c d && agR a b c d)
def agE (a b c d : Int) : Int := if aok a b = true ∧ aok c d = true then 0 else 1
/-- what the law's examples, and the reading of printed angles, ask of the program -/
structure AnAw (w : World) : Prop where
  text : ∀ (n : Int) (wx : World), Below w.heap.size w wx → -9223372036854775808 ≤ n → n ≤ 9223372036854775807 → Calls Tryd.prog 39 #[.int .i64 n] wx fun e w' => e = .returned (.tuple #[.string (txS n), .int .i64 (txE n)]) ∧ Below wx.heap.size wx w'
  agree : ∀ (a b c d : Int) (wx : World), Calls Tryd.prog 35 #[.agg #[.int .i64 a, .int .i64 b], .agg #[.int .i64 c, .int .i64 d]] wx fun e w' => e = .returned (.tuple #[.bool (agB a b c d), .int .i64 (agE a b c d)]) ∧ Below wx.heap.size wx w'
  print : ∀ (a b : Int) (wx : World), Below w.heap.size w wx → Calls Tryd.prog 43 #[.agg #[.int .i64 a, .int .i64 b]] wx fun e w' => e = .returned (.tuple #[.string (prS a b), .int .i64 (prE a b)]) ∧ Below wx.heap.size wx w'
  times : ∀ (a b n d : Int) (wx : World), -9223372036854775808 ≤ n → n ≤ 9223372036854775807 → -9223372036854775808 ≤ d → d ≤ 9223372036854775807 → Calls Tryd.prog 23 #[.agg #[.int .i64 a, .int .i64 b], .int .i64 n, .int .i64 d] wx fun e w' => e = .returned (vR (vA (aok a b) (atimesR a b n d))) ∧ Below wx.heap.size wx w'
  wrap : ∀ (n : Int) (wx : World), -9223372036854775808 ≤ n → n ≤ 9223372036854775807 → Calls Tryd.prog 12 #[.int .i64 n] wx fun e w' => e = .returned (.int .i64 (wrapN n)) ∧ Below wx.heap.size wx w'
  signed : ∀ (n : Int) (wx : World), -9223372036854775808 ≤ n → n ≤ 9223372036854775807 → Calls Tryd.prog 13 #[.int .i64 n] wx fun e w' => e = .returned (.int .i64 (signN n)) ∧ Below wx.heap.size wx w'
/-- what the reading of texts answers -/
structure AnPs (w : World) : Prop where
  parse : ∀ (s : ByteArray) (wx : World), Below w.heap.size w wx → s.size ≤ 1000 → Calls Tryd.prog 40 #[.string s] wx fun e w' => e = .returned (.tuple #[.int .i64 (paV s.data.toList), .int .i64 (paE s.data.toList)]) ∧ Below wx.heap.size wx w'
/-- the program's functions answer as they should -/
structure AnProg (w : World) : Prop extends AnAw w where
  valid : ∀ (a b : Int) (wx : World), Calls Tryd.prog 14 #[.agg #[.int .i64 a, .int .i64 b]] wx fun e w' => e = .returned (.bool (aok a b)) ∧ Below wx.heap.size wx w'
  inside : ∀ (a b c d : Int) (wx : World), Calls Tryd.prog 16 #[.agg #[.int .i64 a, .int .i64 b], .agg #[.int .i64 c, .int .i64 d]] wx fun e w' => e = .returned (.bool (ainR a b c d)) ∧ Below wx.heap.size wx w'
  add : ∀ (a b c d : Int) (wx : World), Calls Tryd.prog 20 #[.agg #[.int .i64 a, .int .i64 b], .agg #[.int .i64 c, .int .i64 d]] wx fun e w' => e = .returned (vR (vA (aok a b && aok c d) (aaddR a b c d))) ∧ Below wx.heap.size wx w'
  sub : ∀ (a b c d : Int) (wx : World), Calls Tryd.prog 21 #[.agg #[.int .i64 a, .int .i64 b], .agg #[.int .i64 c, .int .i64 d]] wx fun e w' => e = .returned (vR (vA (aok a b && aok c d) (asubR a b c d))) ∧ Below wx.heap.size wx w'
  neg : ∀ (a b : Int) (wx : World), Calls Tryd.prog 22 #[.agg #[.int .i64 a, .int .i64 b]] wx fun e w' => e = .returned (vR (vA (aok a b) (anegR a b))) ∧ Below wx.heap.size wx w'
  hull : ∀ (a b c d : Int) (wx : World), Calls Tryd.prog 29 #[.agg #[.int .i64 a, .int .i64 b], .agg #[.int .i64 c, .int .i64 d]] wx fun e w' => e = .returned (vR (vA (aok a b && aok c d) (ahullR a b c d))) ∧ Below wx.heap.size wx w'
  meet : ∀ (a b c d : Int) (wx : World), Calls Tryd.prog 30 #[.agg #[.int .i64 a, .int .i64 b], .agg #[.int .i64 c, .int .i64 d]] wx fun e w' => e = .returned (vR (vA (aok a b && aok c d) (ameetR a b c d))) ∧ Below wx.heap.size wx w'
  turn : ∀ (a b : Int) (wx : World), Calls Tryd.prog 34 #[.agg #[.int .i64 a, .int .i64 b]] wx fun e w' => e = .returned (vR (vA (aok a b) (aturnR a b))) ∧ Below wx.heap.size wx w'
theorem toldA {f : Nat} {args : Array Value} {w : World} {r s : Bool} {x y : Int} (e : r = s) (e' : x = y) (C : Calls Tryd.prog f args w fun e w' => e = .returned (.tuple #[.bool r, .int .i64 x]) ∧ Below w.heap.size w w') :
    Calls Tryd.prog f args w fun e w' => e = .returned (.tuple #[.bool s, .int .i64 y]) ∧ Below w.heap.size w w' := by
  rw [e, e'] at C; exact C
theorem toldT {f : Nat} {args : Array Value} {w : World} {r s : ByteArray} {x y : Int} (e : r = s) (e' : x = y) (C : Calls Tryd.prog f args w fun e w' => e = .returned (.tuple #[.string r, .int .i64 x]) ∧ Below w.heap.size w w') :
    Calls Tryd.prog f args w fun e w' => e = .returned (.tuple #[.string s, .int .i64 y]) ∧ Below w.heap.size w w' := by
  rw [e, e'] at C; exact C
theorem toldP {f : Nat} {args : Array Value} {w : World} {r s x y : Int} (e : r = s) (e' : x = y) (C : Calls Tryd.prog f args w fun e w' => e = .returned (.tuple #[.int .i64 r, .int .i64 x]) ∧ Below w.heap.size w w') :
    Calls Tryd.prog f args w fun e w' => e = .returned (.tuple #[.int .i64 s, .int .i64 y]) ∧ Below w.heap.size w w' := by
  rw [e, e'] at C; exact C

set_option maxHeartbeats 1000000 in
theorem awake_any (w0 : World) (P : AnAw w0) (w : World) (h0 : Below w0.heap.size w0 w) : Calls Tryd.prog 11 #[] w fun e w' => e = .returned (.bool true) ∧ Below w.heap.size w w' := by
  have C1 := Lib.hid (fun wx (hb : Below w0.heap.size w0 wx) => toldT (s := ⟨#[52, 49, 45, 50, 51, 46, 52]⟩) (y := 0) text_41 rfl (P.text 2483400 wx hb (by omega) (by omega)))
  have C2 := Lib.hid (fun wx => toldA (s := true) (y := 0) (by decide) (by decide) (P.agree 21599990 21600010 5 6 wx))
  have C3 := Lib.hid (fun wx (hb : Below w0.heap.size w0 wx) => toldT (s := ⟨#[52, 49, 45, 50, 51, 46, 51, 32, 46, 46, 32, 52, 49, 45, 50, 51, 46, 52]⟩) (y := 0) print_41 (by decide) (P.print 2483349 2483360 wx hb))
  have C4 := Lib.hid (fun wx => told 0 1 0 rfl (P.times 1 2 1 3 wx (by omega) (by omega) (by omega) (by omega)))
  have C5 := Lib.hid (fun wx => toldI 21599999 (by decide) (P.wrap (-1) wx (by omega) (by omega)))
  have C6 := Lib.hid (fun wx => toldI (-1) (by decide) (P.signed 21599999 wx (by omega) (by omega)))
  go_enter Tryd.func11, Tryd.ntmps11
  go_wp2_with fail
  refine (C1.out _ h0).mono ?_
  rintro e w1 ⟨rfl, hb⟩
  have HB := Lib.hid hb
  clear hb
  go_wp2_with fail
  refine (C2.out _).mono ?_
  rintro e w2 ⟨rfl, hb⟩
  have HB := Lib.hid (bstep HB.out hb)
  clear hb
  go_wp2_with fail
  refine (C3.out _ (bstep h0 HB.out)).mono ?_
  rintro e w3 ⟨rfl, hb⟩
  have HB := Lib.hid (bstep HB.out hb)
  clear hb
  go_wp2_with fail
  refine (C4.out _).mono ?_
  rintro e w4 ⟨rfl, hb⟩
  have A := At2.new w4 (.int .i64 0) (.int .i64 1) 23
  have HB := Lib.hid ((bstep HB.out hb).alloc (Nat.le_trans HB.out.size hb.size) (.cells #[.int .i64 0, .int .i64 1] 23))
  clear hb
  obtain ⟨a0, a1, af0, af1, alt⟩ := id A
  go_wp2_with fail
  refine (C5.out _).mono ?_
  rintro e w5 ⟨rfl, hb⟩
  have A := A.keep hb
  have HB := Lib.hid (bstep HB.out hb)
  clear hb a0 a1 af0 af1 alt
  go_wp2_with fail
  refine (C6.out _).mono ?_
  rintro e w6 ⟨rfl, hb⟩
  obtain ⟨a0, a1, af0, af1, alt⟩ := A.keep hb
  have HB := Lib.hid (bstep HB.out hb)
  clear hb A
  go_wp2_with fail
  go_ret
  exact ⟨rfl, HB.out⟩
end Go.Proofs.YtedcpmiadonmeaaDoor
