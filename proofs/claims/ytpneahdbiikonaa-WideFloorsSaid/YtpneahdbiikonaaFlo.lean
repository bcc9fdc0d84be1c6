/- WideFloors: the walks of the law. -/
import Derived.Test.YtpneahdbiikonaaFct
namespace Go.Proofs.Ytpneahdbiikonaa
open Go.RowKit
set_option linter.unusedVariables false

set_option maxRecDepth 100000 in
set_option maxHeartbeats 4000000 in
theorem flo_bad (h l b : Int) (w : World) (hk : wok h l = false) :
    Calls Try.prog 10 #[.agg #[.int .i64 h, .int .i64 l], .int .i64 b] w fun e w' => e = .returned (.bool true) ∧ Below w.heap.size w w' := by
  have V := Lib.hid (fun (wx : World) => valid_is h l false hk wx)
  clear hk
  go_enter Try.func10, Try.ntmps10
  go_wp2_with fail
  refine (awake_any _).mono ?_
  rintro e w1 ⟨rfl, hb1⟩
  have A := (At2.new w (.int .i64 h) (.int .i64 l) 23).keep hb1
  have HB := Lib.hid (bstep (below1 w _) hb1)
  clear hb1
  obtain ⟨Ac0, Ac1, _, _, _⟩ := id A
  go_wp2_with fail
  refine (V.out _).mono ?_
  rintro e w2 ⟨rfl, hb1⟩
  have A := A.keep hb1
  have HB := Lib.hid (bstep HB.out hb1)
  clear hb1
  clear Ac0 Ac1
  go_wp2_with fail
  go_ret
  exact ⟨rfl, HB.out⟩

set_option maxRecDepth 100000 in
set_option maxHeartbeats 4000000 in
theorem flo_lo (h l b : Int) (w : World) (hk : wok h l = true) (hb : b < 1) :
    Calls Try.prog 10 #[.agg #[.int .i64 h, .int .i64 l], .int .i64 b] w fun e w' => e = .returned (.bool true) ∧ Below w.heap.size w w' := by
  have V := Lib.hid (fun (wx : World) => valid_is h l true hk wx)
  clear hk
  go_enter Try.func10, Try.ntmps10
  go_wp2_with fail
  refine (awake_any _).mono ?_
  rintro e w1 ⟨rfl, hb1⟩
  have A := (At2.new w (.int .i64 h) (.int .i64 l) 23).keep hb1
  have HB := Lib.hid (bstep (below1 w _) hb1)
  clear hb1
  obtain ⟨Ac0, Ac1, _, _, _⟩ := id A
  go_wp2_with fail
  refine (V.out _).mono ?_
  rintro e w2 ⟨rfl, hb1⟩
  have A := A.keep hb1
  have HB := Lib.hid (bstep HB.out hb1)
  clear hb1
  clear Ac0 Ac1
  go_wp2_with fail
  go_ret
  exact ⟨rfl, HB.out⟩

set_option maxRecDepth 100000 in
set_option maxHeartbeats 4000000 in
theorem flo_hi (h l b : Int) (w : World) (hk : wok h l = true) (hb : 1125899906842624 < b) (hb1 : 1 ≤ b) :
    Calls Try.prog 10 #[.agg #[.int .i64 h, .int .i64 l], .int .i64 b] w fun e w' => e = .returned (.bool true) ∧ Below w.heap.size w w' := by
  have V := Lib.hid (fun (wx : World) => valid_is h l true hk wx)
  clear hk
  go_enter Try.func10, Try.ntmps10
  go_wp2_with fail
  refine (awake_any _).mono ?_
  rintro e w1 ⟨rfl, hb1⟩
  have A := (At2.new w (.int .i64 h) (.int .i64 l) 23).keep hb1
  have HB := Lib.hid (bstep (below1 w _) hb1)
  clear hb1
  obtain ⟨Ac0, Ac1, _, _, _⟩ := id A
  go_wp2_with fail
  refine (V.out _).mono ?_
  rintro e w2 ⟨rfl, hb1⟩
  have A := A.keep hb1
  have HB := Lib.hid (bstep HB.out hb1)
  clear hb1
  clear Ac0 Ac1
  go_wp2_with fail
  go_ret
  exact ⟨rfl, HB.out⟩

/-- the two quotients -/
structure FlQ (h l b n e m f : Int) : Prop where
  c0 : ∀ wx, Calls Try.prog 14 #[.agg #[.int .i64 h, .int .i64 l]] wx fun e w' => e = .returned (.bool true) ∧ Below wx.heap.size wx w'
  c1 : ∀ wx, Calls Try.prog 29 #[.agg #[.int .i64 h, .int .i64 l], .int .i64 b] wx fun x w' => x = .returned (.tuple #[.int .i64 n, .int .i64 e]) ∧ Below wx.heap.size wx w'
  c2 : ∀ wx, Calls Try.prog 30 #[.agg #[.int .i64 h, .int .i64 l], .int .i64 b] wx fun x w' => x = .returned (.tuple #[.int .i64 m, .int .i64 f]) ∧ Below wx.heap.size wx w'
/-- the opposite, and its quotient -/
structure FlO (h l b o q k g : Int) : Prop where
  c1 : ∀ wx, Calls Try.prog 22 #[.agg #[.int .i64 0, .int .i64 0], .agg #[.int .i64 h, .int .i64 l]] wx fun x w' => x = .returned (.tuple #[.agg #[.int .i64 o, .int .i64 q], .int .i64 0]) ∧ Below wx.heap.size wx w'
  c2 : ∀ wx, Calls Try.prog 29 #[.agg #[.int .i64 o, .int .i64 q], .int .i64 b] wx fun x w' => x = .returned (.tuple #[.int .i64 k, .int .i64 g]) ∧ Below wx.heap.size wx w'
/-- the multiples below and above -/
structure FlM (h l b n lp lq hp hq c d : Int) : Prop where
  c1 : ∀ wx, Calls Try.prog 27 #[.int .i64 n, .int .i64 b] wx fun x w' => x = .returned (.tuple #[.agg #[.int .i64 lp, .int .i64 lq], .int .i64 0]) ∧ Below wx.heap.size wx w'
  c2 : ∀ wx, Calls Try.prog 27 #[.int .i64 (n + 1), .int .i64 b] wx fun x w' => x = .returned (.tuple #[.agg #[.int .i64 hp, .int .i64 hq], .int .i64 0]) ∧ Below wx.heap.size wx w'
  c3 : ∀ wx, Calls Try.prog 23 #[.agg #[.int .i64 lp, .int .i64 lq], .agg #[.int .i64 h, .int .i64 l]] wx fun x w' => x = .returned (.tuple #[.int .i64 c, .int .i64 0]) ∧ Below wx.heap.size wx w'
  c4 : ∀ wx, Calls Try.prog 23 #[.agg #[.int .i64 h, .int .i64 l], .agg #[.int .i64 hp, .int .i64 hq]] wx fun x w' => x = .returned (.tuple #[.int .i64 d, .int .i64 0]) ∧ Below wx.heap.size wx w'

set_option maxRecDepth 100000 in
set_option maxHeartbeats 4000000 in
theorem flo_ff (h l b : Int) (w : World) (b1 : 1 ≤ b) (b2 : b ≤ 1125899906842624) (qq : FlQ h l b 0 5 0 5) :
    Calls Try.prog 10 #[.agg #[.int .i64 h, .int .i64 l], .int .i64 b] w fun e w' => e = .returned (.bool true) ∧ Below w.heap.size w w' := by
  have Q := Lib.hid qq
  clear qq
  go_enter Try.func10, Try.ntmps10
  go_wp2_with fail
  refine (awake_any _).mono ?_
  rintro e w1 ⟨rfl, hb1⟩
  have A := (At2.new w (.int .i64 h) (.int .i64 l) 23).keep hb1
  have HB := Lib.hid (bstep (below1 w _) hb1)
  clear hb1
  obtain ⟨Ac0, Ac1, _, _, _⟩ := id A
  go_wp2_with fail
  refine (Q.out.c0 _).mono ?_
  rintro e w2 ⟨rfl, hb1⟩
  have A := A.keep hb1
  have HB := Lib.hid (bstep HB.out hb1)
  clear hb1
  clear Ac0 Ac1
  obtain ⟨Ac0, Ac1, _, _, _⟩ := id A
  go_wp2_with fail
  refine (Q.out.c1 _).mono ?_
  rintro e w3 ⟨rfl, hb1⟩
  have A := A.keep hb1
  have HB := Lib.hid (bstep HB.out hb1)
  clear hb1
  clear Ac0 Ac1
  obtain ⟨Ac0, Ac1, _, _, _⟩ := id A
  go_wp2_with fail
  refine (Q.out.c2 _).mono ?_
  rintro e w4 ⟨rfl, hb1⟩
  have A := A.keep hb1
  have HB := Lib.hid (bstep HB.out hb1)
  clear hb1
  clear Ac0 Ac1
  obtain ⟨Ac0, Ac1, _, _, _⟩ := id A
  go_wp2_with fail
  go_ret
  exact ⟨rfl, HB.out⟩

set_option maxRecDepth 100000 in
set_option maxHeartbeats 4000000 in
theorem flo_tf (h l b n : Int) (w : World) (b1 : 1 ≤ b) (b2 : b ≤ 1125899906842624) (qq : FlQ h l b n 0 0 5) :
    Calls Try.prog 10 #[.agg #[.int .i64 h, .int .i64 l], .int .i64 b] w fun e w' => e = .returned (.bool true) ∧ Below w.heap.size w w' := by
  have Q := Lib.hid qq
  clear qq
  go_enter Try.func10, Try.ntmps10
  go_wp2_with fail
  refine (awake_any _).mono ?_
  rintro e w1 ⟨rfl, hb1⟩
  have A := (At2.new w (.int .i64 h) (.int .i64 l) 23).keep hb1
  have HB := Lib.hid (bstep (below1 w _) hb1)
  clear hb1
  obtain ⟨Ac0, Ac1, _, _, _⟩ := id A
  go_wp2_with fail
  refine (Q.out.c0 _).mono ?_
  rintro e w2 ⟨rfl, hb1⟩
  have A := A.keep hb1
  have HB := Lib.hid (bstep HB.out hb1)
  clear hb1
  clear Ac0 Ac1
  obtain ⟨Ac0, Ac1, _, _, _⟩ := id A
  go_wp2_with fail
  refine (Q.out.c1 _).mono ?_
  rintro e w3 ⟨rfl, hb1⟩
  have A := A.keep hb1
  have HB := Lib.hid (bstep HB.out hb1)
  clear hb1
  clear Ac0 Ac1
  obtain ⟨Ac0, Ac1, _, _, _⟩ := id A
  go_wp2_with fail
  refine (Q.out.c2 _).mono ?_
  rintro e w4 ⟨rfl, hb1⟩
  have A := A.keep hb1
  have HB := Lib.hid (bstep HB.out hb1)
  clear hb1
  clear Ac0 Ac1
  obtain ⟨Ac0, Ac1, _, _, _⟩ := id A
  go_wp2_with fail
  go_ret
  exact ⟨rfl, HB.out⟩

set_option maxRecDepth 100000 in
set_option maxHeartbeats 4000000 in
theorem flo_ft (h l b m : Int) (w : World) (b1 : 1 ≤ b) (b2 : b ≤ 1125899906842624) (qq : FlQ h l b 0 5 m 0) :
    Calls Try.prog 10 #[.agg #[.int .i64 h, .int .i64 l], .int .i64 b] w fun e w' => e = .returned (.bool true) ∧ Below w.heap.size w w' := by
  have Q := Lib.hid qq
  clear qq
  go_enter Try.func10, Try.ntmps10
  go_wp2_with fail
  refine (awake_any _).mono ?_
  rintro e w1 ⟨rfl, hb1⟩
  have A := (At2.new w (.int .i64 h) (.int .i64 l) 23).keep hb1
  have HB := Lib.hid (bstep (below1 w _) hb1)
  clear hb1
  obtain ⟨Ac0, Ac1, _, _, _⟩ := id A
  go_wp2_with fail
  refine (Q.out.c0 _).mono ?_
  rintro e w2 ⟨rfl, hb1⟩
  have A := A.keep hb1
  have HB := Lib.hid (bstep HB.out hb1)
  clear hb1
  clear Ac0 Ac1
  obtain ⟨Ac0, Ac1, _, _, _⟩ := id A
  go_wp2_with fail
  refine (Q.out.c1 _).mono ?_
  rintro e w3 ⟨rfl, hb1⟩
  have A := A.keep hb1
  have HB := Lib.hid (bstep HB.out hb1)
  clear hb1
  clear Ac0 Ac1
  obtain ⟨Ac0, Ac1, _, _, _⟩ := id A
  go_wp2_with fail
  refine (Q.out.c2 _).mono ?_
  rintro e w4 ⟨rfl, hb1⟩
  have A := A.keep hb1
  have HB := Lib.hid (bstep HB.out hb1)
  clear hb1
  clear Ac0 Ac1
  obtain ⟨Ac0, Ac1, _, _, _⟩ := id A
  go_wp2_with fail
  go_ret
  exact ⟨rfl, HB.out⟩

set_option maxRecDepth 100000 in
set_option maxHeartbeats 4000000 in
theorem flo_far (h l b n m o q k g : Int) (w : World) (b1 : 1 ≤ b) (b2 : b ≤ 1125899906842624) (qq : FlQ h l b n 0 m 0) (oo : FlO h l b o q k g) (hn : n ≤ -4611686018427387904) :
    Calls Try.prog 10 #[.agg #[.int .i64 h, .int .i64 l], .int .i64 b] w fun e w' => e = .returned (.bool true) ∧ Below w.heap.size w w' := by
  have Q := Lib.hid qq
  have O := Lib.hid oo
  clear qq oo
  go_enter Try.func10, Try.ntmps10
  go_wp2_with fail
  refine (awake_any _).mono ?_
  rintro e w1 ⟨rfl, hb1⟩
  have A := (At2.new w (.int .i64 h) (.int .i64 l) 23).keep hb1
  have HB := Lib.hid (bstep (below1 w _) hb1)
  clear hb1
  obtain ⟨Ac0, Ac1, _, _, _⟩ := id A
  go_wp2_with fail
  refine (Q.out.c0 _).mono ?_
  rintro e w2 ⟨rfl, hb1⟩
  have A := A.keep hb1
  have HB := Lib.hid (bstep HB.out hb1)
  clear hb1
  clear Ac0 Ac1
  obtain ⟨Ac0, Ac1, _, _, _⟩ := id A
  go_wp2_with fail
  refine (Q.out.c1 _).mono ?_
  rintro e w3 ⟨rfl, hb1⟩
  have A := A.keep hb1
  have HB := Lib.hid (bstep HB.out hb1)
  clear hb1
  clear Ac0 Ac1
  obtain ⟨Ac0, Ac1, _, _, _⟩ := id A
  go_wp2_with fail
  refine (Q.out.c2 _).mono ?_
  rintro e w4 ⟨rfl, hb1⟩
  have A := A.keep hb1
  have HB := Lib.hid (bstep HB.out hb1)
  clear hb1
  clear Ac0 Ac1
  obtain ⟨Ac0, Ac1, _, _, _⟩ := id A
  go_wp2_with fail
  refine (O.out.c1 _).mono ?_
  rintro e w5 ⟨rfl, hb1⟩
  have A := A.keep hb1
  have HB := Lib.hid (bstep HB.out hb1)
  clear hb1
  clear Ac0 Ac1
  have A := A.alloc (.cells #[.int .i64 o, .int .i64 q] 23)
  have D := At2.new w5 (.int .i64 o) (.int .i64 q) 23
  have HB := Lib.hid (bstep HB.out (below1 w5 (.cells #[.int .i64 o, .int .i64 q] 23)))
  obtain ⟨Dc0, Dc1, _, _, _⟩ := id D
  go_wp2_with fail
  refine (O.out.c2 _).mono ?_
  rintro e w6 ⟨rfl, hb1⟩
  have A := A.keep hb1
  have HB := Lib.hid (bstep HB.out hb1)
  clear hb1
  clear Dc0 Dc1
  obtain ⟨Ac0, Ac1, _, _, _⟩ := id A
  go_wp2_with fail
  go_ret
  exact ⟨rfl, HB.out⟩

set_option maxRecDepth 100000 in
set_option maxHeartbeats 4000000 in
theorem flo_lo2 (h l b n m o q k : Int) (w : World) (b1 : 1 ≤ b) (b2 : b ≤ 1125899906842624) (qq : FlQ h l b n 0 m 0) (oo : FlO h l b o q k 0) (hn : -4611686018427387904 < n) (hn2 : n < -1152921504606846976) (k1 : -9223372036854775807 ≤ k) (k2 : k ≤ 9223372036854775807) (hkm : (-k != m) = false) :
    Calls Try.prog 10 #[.agg #[.int .i64 h, .int .i64 l], .int .i64 b] w fun e w' => e = .returned (.bool true) ∧ Below w.heap.size w w' := by
  have Q := Lib.hid qq
  have O := Lib.hid oo
  clear qq oo
  go_enter Try.func10, Try.ntmps10
  go_wp2_with fail
  refine (awake_any _).mono ?_
  rintro e w1 ⟨rfl, hb1⟩
  have A := (At2.new w (.int .i64 h) (.int .i64 l) 23).keep hb1
  have HB := Lib.hid (bstep (below1 w _) hb1)
  clear hb1
  obtain ⟨Ac0, Ac1, _, _, _⟩ := id A
  go_wp2_with fail
  refine (Q.out.c0 _).mono ?_
  rintro e w2 ⟨rfl, hb1⟩
  have A := A.keep hb1
  have HB := Lib.hid (bstep HB.out hb1)
  clear hb1
  clear Ac0 Ac1
  obtain ⟨Ac0, Ac1, _, _, _⟩ := id A
  go_wp2_with fail
  refine (Q.out.c1 _).mono ?_
  rintro e w3 ⟨rfl, hb1⟩
  have A := A.keep hb1
  have HB := Lib.hid (bstep HB.out hb1)
  clear hb1
  clear Ac0 Ac1
  obtain ⟨Ac0, Ac1, _, _, _⟩ := id A
  go_wp2_with fail
  refine (Q.out.c2 _).mono ?_
  rintro e w4 ⟨rfl, hb1⟩
  have A := A.keep hb1
  have HB := Lib.hid (bstep HB.out hb1)
  clear hb1
  clear Ac0 Ac1
  obtain ⟨Ac0, Ac1, _, _, _⟩ := id A
  go_wp2_with fail
  refine (O.out.c1 _).mono ?_
  rintro e w5 ⟨rfl, hb1⟩
  have A := A.keep hb1
  have HB := Lib.hid (bstep HB.out hb1)
  clear hb1
  clear Ac0 Ac1
  have A := A.alloc (.cells #[.int .i64 o, .int .i64 q] 23)
  have D := At2.new w5 (.int .i64 o) (.int .i64 q) 23
  have HB := Lib.hid (bstep HB.out (below1 w5 (.cells #[.int .i64 o, .int .i64 q] 23)))
  obtain ⟨Dc0, Dc1, _, _, _⟩ := id D
  go_wp2_with fail
  refine (O.out.c2 _).mono ?_
  rintro e w6 ⟨rfl, hb1⟩
  have A := A.keep hb1
  have HB := Lib.hid (bstep HB.out hb1)
  clear hb1
  clear Dc0 Dc1
  obtain ⟨Ac0, Ac1, _, _, _⟩ := id A
  go_wp2_with fail
  go_ret
  exact ⟨rfl, HB.out⟩

set_option maxRecDepth 100000 in
set_option maxHeartbeats 4000000 in
theorem flo_hi2 (h l b n m o q k : Int) (w : World) (b1 : 1 ≤ b) (b2 : b ≤ 1125899906842624) (qq : FlQ h l b n 0 m 0) (oo : FlO h l b o q k 0) (hn : -4611686018427387904 < n) (hn2 : 1152921504606846976 < n) (k1 : -9223372036854775807 ≤ k) (k2 : k ≤ 9223372036854775807) (hkm : (-k != m) = false) :
    Calls Try.prog 10 #[.agg #[.int .i64 h, .int .i64 l], .int .i64 b] w fun e w' => e = .returned (.bool true) ∧ Below w.heap.size w w' := by
  have Q := Lib.hid qq
  have O := Lib.hid oo
  clear qq oo
  go_enter Try.func10, Try.ntmps10
  go_wp2_with fail
  refine (awake_any _).mono ?_
  rintro e w1 ⟨rfl, hb1⟩
  have A := (At2.new w (.int .i64 h) (.int .i64 l) 23).keep hb1
  have HB := Lib.hid (bstep (below1 w _) hb1)
  clear hb1
  obtain ⟨Ac0, Ac1, _, _, _⟩ := id A
  go_wp2_with fail
  refine (Q.out.c0 _).mono ?_
  rintro e w2 ⟨rfl, hb1⟩
  have A := A.keep hb1
  have HB := Lib.hid (bstep HB.out hb1)
  clear hb1
  clear Ac0 Ac1
  obtain ⟨Ac0, Ac1, _, _, _⟩ := id A
  go_wp2_with fail
  refine (Q.out.c1 _).mono ?_
  rintro e w3 ⟨rfl, hb1⟩
  have A := A.keep hb1
  have HB := Lib.hid (bstep HB.out hb1)
  clear hb1
  clear Ac0 Ac1
  obtain ⟨Ac0, Ac1, _, _, _⟩ := id A
  go_wp2_with fail
  refine (Q.out.c2 _).mono ?_
  rintro e w4 ⟨rfl, hb1⟩
  have A := A.keep hb1
  have HB := Lib.hid (bstep HB.out hb1)
  clear hb1
  clear Ac0 Ac1
  obtain ⟨Ac0, Ac1, _, _, _⟩ := id A
  go_wp2_with fail
  refine (O.out.c1 _).mono ?_
  rintro e w5 ⟨rfl, hb1⟩
  have A := A.keep hb1
  have HB := Lib.hid (bstep HB.out hb1)
  clear hb1
  clear Ac0 Ac1
  have A := A.alloc (.cells #[.int .i64 o, .int .i64 q] 23)
  have D := At2.new w5 (.int .i64 o) (.int .i64 q) 23
  have HB := Lib.hid (bstep HB.out (below1 w5 (.cells #[.int .i64 o, .int .i64 q] 23)))
  obtain ⟨Dc0, Dc1, _, _, _⟩ := id D
  go_wp2_with fail
  refine (O.out.c2 _).mono ?_
  rintro e w6 ⟨rfl, hb1⟩
  have A := A.keep hb1
  have HB := Lib.hid (bstep HB.out hb1)
  clear hb1
  clear Dc0 Dc1
  obtain ⟨Ac0, Ac1, _, _, _⟩ := id A
  go_wp2_with fail
  go_ret
  exact ⟨rfl, HB.out⟩

set_option maxRecDepth 100000 in
set_option maxHeartbeats 4000000 in
theorem flo_eq (h l b n o q k lp lq hp hq d : Int) (w : World) (b1 : 1 ≤ b) (b2 : b ≤ 1125899906842624) (qq : FlQ h l b n 0 n 0) (oo : FlO h l b o q k 0) (hn : -1152921504606846976 ≤ n) (hn2 : n ≤ 1152921504606846976) (k1 : -9223372036854775807 ≤ k) (k2 : k ≤ 9223372036854775807) (hkm : (-k != n) = false) (mm : FlM h l b n lp lq hp hq 0 d) (hd : d < 0) :
    Calls Try.prog 10 #[.agg #[.int .i64 h, .int .i64 l], .int .i64 b] w fun e w' => e = .returned (.bool true) ∧ Below w.heap.size w w' := by
  have Q := Lib.hid qq
  have O := Lib.hid oo
  have M := Lib.hid mm
  clear qq oo mm
  go_enter Try.func10, Try.ntmps10
  go_wp2_with fail
  refine (awake_any _).mono ?_
  rintro e w1 ⟨rfl, hb1⟩
  have A := (At2.new w (.int .i64 h) (.int .i64 l) 23).keep hb1
  have HB := Lib.hid (bstep (below1 w _) hb1)
  clear hb1
  obtain ⟨Ac0, Ac1, _, _, _⟩ := id A
  go_wp2_with fail
  refine (Q.out.c0 _).mono ?_
  rintro e w2 ⟨rfl, hb1⟩
  have A := A.keep hb1
  have HB := Lib.hid (bstep HB.out hb1)
  clear hb1
  clear Ac0 Ac1
  obtain ⟨Ac0, Ac1, _, _, _⟩ := id A
  go_wp2_with fail
  refine (Q.out.c1 _).mono ?_
  rintro e w3 ⟨rfl, hb1⟩
  have A := A.keep hb1
  have HB := Lib.hid (bstep HB.out hb1)
  clear hb1
  clear Ac0 Ac1
  obtain ⟨Ac0, Ac1, _, _, _⟩ := id A
  go_wp2_with fail
  refine (Q.out.c2 _).mono ?_
  rintro e w4 ⟨rfl, hb1⟩
  have A := A.keep hb1
  have HB := Lib.hid (bstep HB.out hb1)
  clear hb1
  clear Ac0 Ac1
  obtain ⟨Ac0, Ac1, _, _, _⟩ := id A
  go_wp2_with fail
  refine (O.out.c1 _).mono ?_
  rintro e w5 ⟨rfl, hb1⟩
  have A := A.keep hb1
  have HB := Lib.hid (bstep HB.out hb1)
  clear hb1
  clear Ac0 Ac1
  have A := A.alloc (.cells #[.int .i64 o, .int .i64 q] 23)
  have D := At2.new w5 (.int .i64 o) (.int .i64 q) 23
  have HB := Lib.hid (bstep HB.out (below1 w5 (.cells #[.int .i64 o, .int .i64 q] 23)))
  obtain ⟨Dc0, Dc1, _, _, _⟩ := id D
  go_wp2_with fail
  refine (O.out.c2 _).mono ?_
  rintro e w6 ⟨rfl, hb1⟩
  have A := A.keep hb1
  have HB := Lib.hid (bstep HB.out hb1)
  clear hb1
  clear Dc0 Dc1
  obtain ⟨Ac0, Ac1, _, _, _⟩ := id A
  go_wp2_with fail
  refine (M.out.c1 _).mono ?_
  rintro e w7 ⟨rfl, hb1⟩
  have A := A.keep hb1
  have HB := Lib.hid (bstep HB.out hb1)
  clear hb1
  clear Ac0 Ac1
  have A := A.alloc (.cells #[.int .i64 lp, .int .i64 lq] 23)
  have L := At2.new w7 (.int .i64 lp) (.int .i64 lq) 23
  have HB := Lib.hid (bstep HB.out (below1 w7 (.cells #[.int .i64 lp, .int .i64 lq] 23)))
  go_wp2_with fail
  refine (M.out.c2 _).mono ?_
  rintro e w8 ⟨rfl, hb1⟩
  have A := A.keep hb1
  have L := L.keep hb1
  have HB := Lib.hid (bstep HB.out hb1)
  clear hb1
  have A := A.alloc (.cells #[.int .i64 hp, .int .i64 hq] 23)
  have L := L.alloc (.cells #[.int .i64 hp, .int .i64 hq] 23)
  have H := At2.new w8 (.int .i64 hp) (.int .i64 hq) 23
  have HB := Lib.hid (bstep HB.out (below1 w8 (.cells #[.int .i64 hp, .int .i64 hq] 23)))
  obtain ⟨Lc0, Lc1, _, _, _⟩ := id L
  obtain ⟨Ac0, Ac1, _, _, _⟩ := id A
  go_wp2_with fail
  refine (M.out.c3 _).mono ?_
  rintro e w9 ⟨rfl, hb1⟩
  have A := A.keep hb1
  have L := L.keep hb1
  have H := H.keep hb1
  have HB := Lib.hid (bstep HB.out hb1)
  clear hb1
  clear Lc0 Lc1 Ac0 Ac1
  obtain ⟨Ac0, Ac1, _, _, _⟩ := id A
  obtain ⟨Hc0, Hc1, _, _, _⟩ := id H
  go_wp2_with fail
  refine (M.out.c4 _).mono ?_
  rintro e w10 ⟨rfl, hb1⟩
  have A := A.keep hb1
  have L := L.keep hb1
  have H := H.keep hb1
  have HB := Lib.hid (bstep HB.out hb1)
  clear hb1
  clear Ac0 Ac1 Hc0 Hc1
  go_wp2_with fail
  go_ret
  exact ⟨rfl, HB.out⟩

set_option maxRecDepth 100000 in
set_option maxHeartbeats 4000000 in
theorem flo_ne (h l b n o q k lp lq hp hq d : Int) (w : World) (b1 : 1 ≤ b) (b2 : b ≤ 1125899906842624) (qq : FlQ h l b n 0 (n + 1) 0) (oo : FlO h l b o q k 0) (hn : -1152921504606846976 ≤ n) (hn2 : n ≤ 1152921504606846976) (k1 : -9223372036854775807 ≤ k) (k2 : k ≤ 9223372036854775807) (hkm : (-k != n + 1) = false) (hne : (n + 1 == n) = false) (mm : FlM h l b n lp lq hp hq (-1) d) (hd : d < 0) :
    Calls Try.prog 10 #[.agg #[.int .i64 h, .int .i64 l], .int .i64 b] w fun e w' => e = .returned (.bool true) ∧ Below w.heap.size w w' := by
  have Q := Lib.hid qq
  have O := Lib.hid oo
  have M := Lib.hid mm
  clear qq oo mm
  go_enter Try.func10, Try.ntmps10
  go_wp2_with fail
  refine (awake_any _).mono ?_
  rintro e w1 ⟨rfl, hb1⟩
  have A := (At2.new w (.int .i64 h) (.int .i64 l) 23).keep hb1
  have HB := Lib.hid (bstep (below1 w _) hb1)
  clear hb1
  obtain ⟨Ac0, Ac1, _, _, _⟩ := id A
  go_wp2_with fail
  refine (Q.out.c0 _).mono ?_
  rintro e w2 ⟨rfl, hb1⟩
  have A := A.keep hb1
  have HB := Lib.hid (bstep HB.out hb1)
  clear hb1
  clear Ac0 Ac1
  obtain ⟨Ac0, Ac1, _, _, _⟩ := id A
  go_wp2_with fail
  refine (Q.out.c1 _).mono ?_
  rintro e w3 ⟨rfl, hb1⟩
  have A := A.keep hb1
  have HB := Lib.hid (bstep HB.out hb1)
  clear hb1
  clear Ac0 Ac1
  obtain ⟨Ac0, Ac1, _, _, _⟩ := id A
  go_wp2_with fail
  refine (Q.out.c2 _).mono ?_
  rintro e w4 ⟨rfl, hb1⟩
  have A := A.keep hb1
  have HB := Lib.hid (bstep HB.out hb1)
  clear hb1
  clear Ac0 Ac1
  obtain ⟨Ac0, Ac1, _, _, _⟩ := id A
  go_wp2_with fail
  refine (O.out.c1 _).mono ?_
  rintro e w5 ⟨rfl, hb1⟩
  have A := A.keep hb1
  have HB := Lib.hid (bstep HB.out hb1)
  clear hb1
  clear Ac0 Ac1
  have A := A.alloc (.cells #[.int .i64 o, .int .i64 q] 23)
  have D := At2.new w5 (.int .i64 o) (.int .i64 q) 23
  have HB := Lib.hid (bstep HB.out (below1 w5 (.cells #[.int .i64 o, .int .i64 q] 23)))
  obtain ⟨Dc0, Dc1, _, _, _⟩ := id D
  go_wp2_with fail
  refine (O.out.c2 _).mono ?_
  rintro e w6 ⟨rfl, hb1⟩
  have A := A.keep hb1
  have HB := Lib.hid (bstep HB.out hb1)
  clear hb1
  clear Dc0 Dc1
  obtain ⟨Ac0, Ac1, _, _, _⟩ := id A
  go_wp2_with fail
  refine (M.out.c1 _).mono ?_
  rintro e w7 ⟨rfl, hb1⟩
  have A := A.keep hb1
  have HB := Lib.hid (bstep HB.out hb1)
  clear hb1
  clear Ac0 Ac1
  have A := A.alloc (.cells #[.int .i64 lp, .int .i64 lq] 23)
  have L := At2.new w7 (.int .i64 lp) (.int .i64 lq) 23
  have HB := Lib.hid (bstep HB.out (below1 w7 (.cells #[.int .i64 lp, .int .i64 lq] 23)))
  go_wp2_with fail
  refine (M.out.c2 _).mono ?_
  rintro e w8 ⟨rfl, hb1⟩
  have A := A.keep hb1
  have L := L.keep hb1
  have HB := Lib.hid (bstep HB.out hb1)
  clear hb1
  have A := A.alloc (.cells #[.int .i64 hp, .int .i64 hq] 23)
  have L := L.alloc (.cells #[.int .i64 hp, .int .i64 hq] 23)
  have H := At2.new w8 (.int .i64 hp) (.int .i64 hq) 23
  have HB := Lib.hid (bstep HB.out (below1 w8 (.cells #[.int .i64 hp, .int .i64 hq] 23)))
  obtain ⟨Lc0, Lc1, _, _, _⟩ := id L
  obtain ⟨Ac0, Ac1, _, _, _⟩ := id A
  go_wp2_with fail
  refine (M.out.c3 _).mono ?_
  rintro e w9 ⟨rfl, hb1⟩
  have A := A.keep hb1
  have L := L.keep hb1
  have H := H.keep hb1
  have HB := Lib.hid (bstep HB.out hb1)
  clear hb1
  clear Lc0 Lc1 Ac0 Ac1
  obtain ⟨Ac0, Ac1, _, _, _⟩ := id A
  obtain ⟨Hc0, Hc1, _, _, _⟩ := id H
  go_wp2_with fail
  refine (M.out.c4 _).mono ?_
  rintro e w10 ⟨rfl, hb1⟩
  have A := A.keep hb1
  have L := L.keep hb1
  have H := H.keep hb1
  have HB := Lib.hid (bstep HB.out hb1)
  clear hb1
  clear Ac0 Ac1 Hc0 Hc1
  go_wp2_with fail
  go_ret
  exact ⟨ret_bool (decide_eq_true (by omega)), HB.out⟩

end Go.Proofs.Ytpneahdbiikonaa
