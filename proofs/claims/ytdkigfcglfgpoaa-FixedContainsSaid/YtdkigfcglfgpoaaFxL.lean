/- Fixed: the law's awake; the walk of FixedSums. -/
import Derived.Test.YtdkigfcglfgpoaaFxK
namespace Go.Proofs.Ytdkigfcglfgpoaa
open Go.RowKit
set_option linter.unusedVariables false

set_option maxHeartbeats 1000000 in
theorem awake_any (P : FxProg) (w : World) :
    Calls Try.prog 11 #[] w fun e w' => e = .returned (.bool true) ∧ Below w.heap.size w w' := by
  have C1 := Lib.hid (fun wx => told 357913941 357913942 0 (by kernel_rfl) (P.make 1 3 wx (by omega) (by omega) (by omega) (by omega)))
  have C2 := Lib.hid (fun wx => told 0 1073741824 0 (by kernel_rfl) (P.square (-1073741824) 536870912 wx))
  have C3 := Lib.hid (fun wx => told (-536870912) 1073741824 0 (by kernel_rfl) (P.mul (-1073741824) 536870912 (-1073741824) 536870912 wx))
  have C4 := Lib.hid (fun wx => told1 true (by kernel_rfl) (P.valid (-1073741824) 536870912 wx))
  have HB := Lib.hid (Below.refl w.heap.size w)
  go_enter Try.func11, Try.ntmps11
  go_wp2_with fail
  refine (C1.out _).mono ?_
  rintro e w1 ⟨rfl, hb⟩
  have X := At2.new w1 (.int .i64 357913941) (.int .i64 357913942) 23
  have HB := Lib.hid (bstep (bstep HB.out hb) (below1 w1 (.cells #[.int .i64 357913941, .int .i64 357913942] 23)))
  clear hb
  obtain ⟨X0, X1, -, -, -⟩ := id X
  have X := X.alloc (.cells #[.int .i64 (-1073741824), .int .i64 536870912] 23)
  have A := At2.new (w1.alloc (.cells #[.int .i64 357913941, .int .i64 357913942] 23)) (.int .i64 (-1073741824)) (.int .i64 536870912) 23
  simp at A
  have HB := Lib.hid (bstep HB.out (below1 _ (.cells #[.int .i64 (-1073741824), .int .i64 536870912] 23)))
  clear X0 X1
  obtain ⟨X0, X1, -, -, -⟩ := id X
  obtain ⟨A0, A1, -, -, -⟩ := id A
  go_wp2_with fail
  refine (C2.out _).mono ?_
  rintro e w2 ⟨rfl, hb⟩
  have X := (X.keep hb).alloc (.cells #[.int .i64 0, .int .i64 1073741824] 23)
  have A := (A.keep hb).alloc (.cells #[.int .i64 0, .int .i64 1073741824] 23)
  have S := At2.new w2 (.int .i64 0) (.int .i64 1073741824) 23
  have HB := Lib.hid (bstep (bstep HB.out hb) (below1 w2 (.cells #[.int .i64 0, .int .i64 1073741824] 23)))
  clear hb
  clear X0 X1 A0 A1
  obtain ⟨X0, X1, -, -, -⟩ := id X
  obtain ⟨A0, A1, -, -, -⟩ := id A
  obtain ⟨S0, S1, -, -, -⟩ := id S
  go_wp2_with fail
  refine (C3.out _).mono ?_
  rintro e w3 ⟨rfl, hb⟩
  have X := (X.keep hb).alloc (.cells #[.int .i64 (-536870912), .int .i64 1073741824] 23)
  have A := (A.keep hb).alloc (.cells #[.int .i64 (-536870912), .int .i64 1073741824] 23)
  have S := (S.keep hb).alloc (.cells #[.int .i64 (-536870912), .int .i64 1073741824] 23)
  have Q := At2.new w3 (.int .i64 (-536870912)) (.int .i64 1073741824) 23
  have HB := Lib.hid (bstep (bstep HB.out hb) (below1 w3 (.cells #[.int .i64 (-536870912), .int .i64 1073741824] 23)))
  clear hb
  clear X0 X1 A0 A1 S0 S1
  obtain ⟨X0, X1, -, -, -⟩ := id X
  obtain ⟨A0, A1, -, -, -⟩ := id A
  obtain ⟨S0, S1, -, -, -⟩ := id S
  obtain ⟨Q0, Q1, -, -, -⟩ := id Q
  go_wp2_with fail
  refine (C4.out _).mono ?_
  rintro e w4 ⟨rfl, hb⟩
  have X := (X.keep hb)
  have A := (A.keep hb)
  have S := (S.keep hb)
  have Q := (Q.keep hb)
  have HB := Lib.hid (bstep HB.out hb)
  clear hb
  clear X0 X1 A0 A1 S0 S1 Q0 Q1
  obtain ⟨X0, X1, -, -, -⟩ := id X
  obtain ⟨A0, A1, -, -, -⟩ := id A
  obtain ⟨S0, S1, -, -, -⟩ := id S
  obtain ⟨Q0, Q1, -, -, -⟩ := id Q
  go_wp2_with fail
  go_ret
  exact ⟨rfl, HB.out⟩
end Go.Proofs.Ytdkigfcglfgpoaa
