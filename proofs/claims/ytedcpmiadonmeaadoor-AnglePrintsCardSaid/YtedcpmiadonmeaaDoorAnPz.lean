/- AnglePrints: the walk of the law. -/
import Derived.Test.YtedcpmiadonmeaaDoorAnH
import Derived.Test.YtedcpmiadonmeaaDoorAnS
import Derived.Test.YtedcpmiadonmeaaDoorAnV
namespace Go.Proofs.YtedcpmiadonmeaaDoor
open Go.RowKit
set_option linter.unusedVariables false

theorem split_1 (T : List UInt8) (h : ∀ b ∈ T, b ≠ 32) (hl : T.length ≤ 1000) (w : World) (hm : HasMax w) :
    Calls Tryd.prog 45 #[.string (ba T), .string ⟨#[32, 46, 46, 32]⟩] w fun e w' => e = .returned (.slice (some ⟨w.heap.size, 0, none⟩) 1 1) ∧ w' = w.alloc (.cells #[.string (ba T)] 9) := by
  obtain ⟨m, hm⟩ := hm
  obtain ⟨s1, s2⟩ := split_one T h
  have hs : (ba T).size = T.length := rfl
  have := Tryd.strings_Split (ba T) (ba sep4) m w (by omega) hm (by decide)
  rw [s1, s2] at this
  exact this
theorem split_2 (T U : List UInt8) (h : ∀ b ∈ T, b ≠ 32) (k : ∀ b ∈ U, b ≠ 32) (hl : T.length ≤ 1000) (hl2 : U.length ≤ 1000) (w : World) (hm : HasMax w) :
    Calls Tryd.prog 45 #[.string (ba (T ++ [32, 46, 46, 32] ++ U)), .string ⟨#[32, 46, 46, 32]⟩] w fun e w' => e = .returned (.slice (some ⟨w.heap.size, 0, none⟩) 2 2) ∧ w' = w.alloc (.cells #[.string (ba T), .string (ba U)] 9) := by
  obtain ⟨m, hm⟩ := hm
  obtain ⟨s1, s2⟩ := split_two T U h k
  have hs : (ba (T ++ sep4 ++ U)).size = (T ++ sep4 ++ U).length := rfl
  have hs2 : (T ++ sep4 ++ U).length ≤ 2004 := by simp [sep4]; omega
  have := Tryd.strings_Split (ba (T ++ sep4 ++ U)) (ba sep4) m w (by omega) hm (by decide)
  rw [s1, s2] at this
  exact this

set_option maxRecDepth 100000 in
set_option maxHeartbeats 8000000 in
theorem pz_f (a b : Int) (w : World) (P : AnAw w) (Q : AnPs w) (hm : HasMax w) (ha : aok a b = false) :
    Calls Tryd.prog 10 #[.agg #[.int .i64 a, .int .i64 b]] w fun e w' => e = .returned (.bool true) ∧ Below w.heap.size w w' := by
  have CA := Lib.hid (fun wx (hb : Below w.heap.size w wx) => awake_any w P wx hb)
  have C1 := Lib.hid (fun wx (hb : Below w.heap.size w wx) => toldT (s := ⟨#[]⟩) (y := 1) (if_neg (by rw [ha]; simp)) (if_neg (by rw [ha]; simp)) (P.print a b wx hb))
  have V1 := Lib.hid (fun wx => rValid_is a b false ha wx)
  clear ha hm
  have A := At2.new w (.int .i64 a) (.int .i64 b) 23
  have HB := Lib.hid (bstep (Below.refl w.heap.size w) (below1 w (.cells #[.int .i64 a, .int .i64 b] 23)))
  go_enter Tryd.func10, Tryd.ntmps10
  obtain ⟨A0, A1, -, -, -⟩ := id A
  go_wp2_with fail
  refine (CA.out _ HB.out).mono ?_
  rintro e w1 ⟨rfl, hb⟩
  have A := (A.keep hb)
  have HB := Lib.hid (bstep HB.out hb)
  clear hb
  clear A0 A1
  obtain ⟨A0, A1, -, -, -⟩ := id A
  go_wp2_with fail
  refine (C1.out _ HB.out).mono ?_
  rintro e w2 ⟨rfl, hb⟩
  have A := (A.keep hb)
  have HB := Lib.hid (bstep HB.out hb)
  clear hb
  clear A0 A1
  obtain ⟨A0, A1, -, -, -⟩ := id A
  go_wp2_with fail
  refine (V1.out _).mono ?_
  rintro e w3 ⟨rfl, hb⟩
  have A := (A.keep hb)
  have HB := Lib.hid (bstep HB.out hb)
  clear hb
  clear A0 A1
  obtain ⟨A0, A1, -, -, -⟩ := id A
  go_wp2_with fail
  go_ret
  exact ⟨rfl, HB.out⟩

set_option maxRecDepth 100000 in
set_option maxHeartbeats 8000000 in
theorem pz_b (a b : Int) (w : World) (P : AnAw w) (Q : AnPs w) (hm : HasMax w) (ha : aok a b = true) (hp : prO a b = false) :
    Calls Tryd.prog 10 #[.agg #[.int .i64 a, .int .i64 b]] w fun e w' => e = .returned (.bool true) ∧ Below w.heap.size w w' := by
  have CA := Lib.hid (fun wx (hb : Below w.heap.size w wx) => awake_any w P wx hb)
  have C1 := Lib.hid (fun wx (hb : Below w.heap.size w wx) => toldT (s := ⟨#[]⟩) (y := 5) (if_neg (by rw [hp]; simp)) ((if_pos ha).trans (if_neg (by rw [hp]; simp))) (P.print a b wx hb))
  have K1 := Lib.hid (fun wx => toldT (s := ⟨#[]⟩) (y := 5) (if_neg (by rw [hp]; simp)) ((if_pos ha).trans (if_neg (by rw [hp]; simp))) (rPrint a b wx ha))
  have V1 := Lib.hid (fun wx => rValid_is a b true ha wx)
  clear ha hm hp
  have A := At2.new w (.int .i64 a) (.int .i64 b) 23
  have HB := Lib.hid (bstep (Below.refl w.heap.size w) (below1 w (.cells #[.int .i64 a, .int .i64 b] 23)))
  go_enter Tryd.func10, Tryd.ntmps10
  obtain ⟨A0, A1, -, -, -⟩ := id A
  go_wp2_with fail
  refine (CA.out _ HB.out).mono ?_
  rintro e w1 ⟨rfl, hb⟩
  have A := (A.keep hb)
  have HB := Lib.hid (bstep HB.out hb)
  clear hb
  clear A0 A1
  obtain ⟨A0, A1, -, -, -⟩ := id A
  go_wp2_with fail
  refine (C1.out _ HB.out).mono ?_
  rintro e w2 ⟨rfl, hb⟩
  have A := (A.keep hb)
  have HB := Lib.hid (bstep HB.out hb)
  clear hb
  clear A0 A1
  obtain ⟨A0, A1, -, -, -⟩ := id A
  go_wp2_with fail
  refine (V1.out _).mono ?_
  rintro e w3 ⟨rfl, hb⟩
  have A := (A.keep hb)
  have HB := Lib.hid (bstep HB.out hb)
  clear hb
  clear A0 A1
  obtain ⟨A0, A1, -, -, -⟩ := id A
  go_wp2_with fail
  refine (K1.out _).mono ?_
  rintro e w4 ⟨rfl, hb⟩
  have A := (A.keep hb)
  have HB := Lib.hid (bstep HB.out hb)
  clear hb
  clear A0 A1
  obtain ⟨A0, A1, -, -, -⟩ := id A
  go_wp2_with fail
  go_ret
  exact ⟨rfl, HB.out⟩

set_option maxRecDepth 100000 in
set_option maxHeartbeats 8000000 in
theorem pz_1 (a b : Int) (w : World) (P : AnAw w) (Q : AnPs w) (hm : HasMax w) (ha : aok a b = true) (hp : prO a b = true) (he : rndT a = rndT b) :
    Calls Tryd.prog 10 #[.agg #[.int .i64 a, .int .i64 b]] w fun e w' => e = .returned (.bool true) ∧ Below w.heap.size w w' := by
  have CA := Lib.hid (fun wx (hb : Below w.heap.size w wx) => awake_any w P wx hb)
  have k := (aok_iff _ _).1 ha
  have ho := of_decide_eq_true hp
  have mo := rnd_mono k.2.2
  obtain ⟨a1, a2, a3⟩ := rnd_100 a
  obtain ⟨b1, b2, b3⟩ := rnd_100 b
  obtain ⟨x1, x2⟩ := text_back (rndT a) ((inA_iff _).2 (by omega))
  obtain ⟨y1, y2⟩ := text_back (rndT b) ((inA_iff _).2 (by omega))
  have l1 := textT_len (rndT a)
  have l2 := textT_len (rndT b)
  have q1 := Lib.hid (text_32 (rndT a))
  have q2 := Lib.hid (text_32 (rndT b))
  have V1 := Lib.hid (fun wx => rValid_is a b true ha wx)
  have P1 := Lib.hid (fun wx (hb : Below w.heap.size w wx) => toldP (s := rndT a) (y := 0) x1 x2 (Q.parse (ba (textT (rndT a))) wx hb (by show (textT (rndT a)).length ≤ 1000; omega)))
  have P2 := Lib.hid (fun wx (hb : Below w.heap.size w wx) => toldP (s := rndT b) (y := 0) y1 y2 (Q.parse (ba (textT (rndT b))) wx hb (by show (textT (rndT b)).length ≤ 1000; omega)))
  have m1 : (rndT a).tmod 100 = 0 := by unfold rndT; exact Int.mul_tmod_right _ _
  have m2 : (rndT b).tmod 100 = 0 := by unfold rndT; exact Int.mul_tmod_right _ _
  have hS : prS a b = ba (textT (rndT a)) := (if_pos ⟨ha, hp⟩).trans (congrArg ba (if_pos he))
  have C1 := Lib.hid (fun wx (hb : Below w.heap.size w wx) => toldT hS ((if_pos ha).trans (if_pos hp)) (P.print a b wx hb))
  have K1 := Lib.hid (fun wx => toldT hS ((if_pos ha).trans (if_pos hp)) (rPrint a b wx ha))
  have CS := Lib.hid (fun wx hx => split_1 (textT (rndT a)) q1.out (by omega) wx hx)
  have HM := Lib.hid hm
  rw [← he] at b2 b3 ho
  obtain ⟨k1, k2, k3⟩ := k
  obtain ⟨o1, o2⟩ := ho
  clear x1 x2 y1 y2 ha hp a1 b1
  clear hS l1 l2 q1 q2 hm P2 m2 mo he
  generalize ba (textT (rndT a)) = T at *
  generalize rndT a = x at *
  have A := At2.new w (.int .i64 a) (.int .i64 b) 23
  have HB := Lib.hid (bstep (Below.refl w.heap.size w) (below1 w (.cells #[.int .i64 a, .int .i64 b] 23)))
  go_enter Tryd.func10, Tryd.ntmps10
  obtain ⟨A0, A1, -, -, -⟩ := id A
  go_wp2_with fail
  refine (CA.out _ HB.out).mono ?_
  rintro e w1 ⟨rfl, hb⟩
  have A := (A.keep hb)
  have HB := Lib.hid (bstep HB.out hb)
  clear hb
  clear A0 A1
  obtain ⟨A0, A1, -, -, -⟩ := id A
  go_wp2_with fail
  refine (C1.out _ HB.out).mono ?_
  rintro e w2 ⟨rfl, hb⟩
  have A := (A.keep hb)
  have HB := Lib.hid (bstep HB.out hb)
  clear hb
  clear A0 A1
  obtain ⟨A0, A1, -, -, -⟩ := id A
  go_wp2_with fail
  refine (V1.out _).mono ?_
  rintro e w3 ⟨rfl, hb⟩
  have A := (A.keep hb)
  have HB := Lib.hid (bstep HB.out hb)
  clear hb
  clear A0 A1
  obtain ⟨A0, A1, -, -, -⟩ := id A
  go_wp2_with fail
  refine (K1.out _).mono ?_
  rintro e w4 ⟨rfl, hb⟩
  have A := (A.keep hb)
  have HB := Lib.hid (bstep HB.out hb)
  clear hb
  clear A0 A1
  obtain ⟨A0, A1, -, -, -⟩ := id A
  go_wp2_with fail
  have HX := Lib.hid (HM.out.below HB.out)
  refine (CS.out _ HX.out).mono ?_
  rintro e ws ⟨rfl, rfl⟩
  have c0 : (w4.alloc (.cells #[.string T] 9)).cell? ⟨w4.heap.size, 0, none⟩ = some (.string T) := by rw [World.cell?_alloc_new]; rfl
  have A := A.alloc (.cells #[.string T] 9)
  have HB := Lib.hid (bstep HB.out (below1 w4 (.cells #[.string T] 9)))
  have lt := (show w4.heap.size < (w4.alloc (.cells #[.string T] 9)).heap.size by simp)
  clear A0 A1
  generalize w4.alloc (.cells #[.string T] 9) = v at *
  obtain ⟨A0, A1, -, -, -⟩ := id A
  go_wp2_with fail
  refine (P1.out _ HB.out).mono ?_
  rintro e v1 ⟨rfl, hb⟩
  have d0 := (hb.cell (p := ⟨w4.heap.size, 0, none⟩) lt).trans c0
  have A := A.keep hb
  have HB := Lib.hid (bstep HB.out hb)
  clear hb c0 A0 A1
  obtain ⟨A0, A1, -, -, -⟩ := id A
  go_wp2_with fail
  refine (P1.out _ HB.out).mono ?_
  rintro e v2 ⟨rfl, hb⟩
  have A := A.keep hb
  have HB := Lib.hid (bstep HB.out hb)
  clear hb A0 A1 d0
  obtain ⟨A0, A1, -, -, -⟩ := id A
  go_wp2_with fail
  go_ret
  exact ⟨rfl, HB.out⟩

set_option maxRecDepth 100000 in
set_option maxHeartbeats 8000000 in
theorem pz_2 (a b : Int) (w : World) (P : AnAw w) (Q : AnPs w) (hm : HasMax w) (ha : aok a b = true) (hp : prO a b = true) (he : ¬ rndT a = rndT b) :
    Calls Tryd.prog 10 #[.agg #[.int .i64 a, .int .i64 b]] w fun e w' => e = .returned (.bool true) ∧ Below w.heap.size w w' := by
  have CA := Lib.hid (fun wx (hb : Below w.heap.size w wx) => awake_any w P wx hb)
  have k := (aok_iff _ _).1 ha
  have ho := of_decide_eq_true hp
  have mo := rnd_mono k.2.2
  obtain ⟨a1, a2, a3⟩ := rnd_100 a
  obtain ⟨b1, b2, b3⟩ := rnd_100 b
  obtain ⟨x1, x2⟩ := text_back (rndT a) ((inA_iff _).2 (by omega))
  obtain ⟨y1, y2⟩ := text_back (rndT b) ((inA_iff _).2 (by omega))
  have l1 := textT_len (rndT a)
  have l2 := textT_len (rndT b)
  have q1 := Lib.hid (text_32 (rndT a))
  have q2 := Lib.hid (text_32 (rndT b))
  have V1 := Lib.hid (fun wx => rValid_is a b true ha wx)
  have P1 := Lib.hid (fun wx (hb : Below w.heap.size w wx) => toldP (s := rndT a) (y := 0) x1 x2 (Q.parse (ba (textT (rndT a))) wx hb (by show (textT (rndT a)).length ≤ 1000; omega)))
  have P2 := Lib.hid (fun wx (hb : Below w.heap.size w wx) => toldP (s := rndT b) (y := 0) y1 y2 (Q.parse (ba (textT (rndT b))) wx hb (by show (textT (rndT b)).length ≤ 1000; omega)))
  have m1 : (rndT a).tmod 100 = 0 := by unfold rndT; exact Int.mul_tmod_right _ _
  have m2 : (rndT b).tmod 100 = 0 := by unfold rndT; exact Int.mul_tmod_right _ _
  have hS : prS a b = ba (textT (rndT a) ++ [32, 46, 46, 32] ++ textT (rndT b)) := (if_pos ⟨ha, hp⟩).trans (congrArg ba (if_neg he))
  have C1 := Lib.hid (fun wx (hb : Below w.heap.size w wx) => toldT hS ((if_pos ha).trans (if_pos hp)) (P.print a b wx hb))
  have K1 := Lib.hid (fun wx => toldT hS ((if_pos ha).trans (if_pos hp)) (rPrint a b wx ha))
  have CS := Lib.hid (fun wx hx => split_2 (textT (rndT a)) (textT (rndT b)) q1.out q2.out (by omega) (by omega) wx hx)
  have HM := Lib.hid hm
  obtain ⟨k1, k2, k3⟩ := k
  obtain ⟨o1, o2⟩ := ho
  clear x1 x2 y1 y2 ha hp a1 b1
  clear hS l1 l2 q1 q2 hm mo he
  generalize ba (textT (rndT a) ++ [32, 46, 46, 32] ++ textT (rndT b)) = S at *
  generalize ba (textT (rndT a)) = T at *
  generalize ba (textT (rndT b)) = U at *
  generalize rndT a = x at *
  generalize rndT b = y at *
  have A := At2.new w (.int .i64 a) (.int .i64 b) 23
  have HB := Lib.hid (bstep (Below.refl w.heap.size w) (below1 w (.cells #[.int .i64 a, .int .i64 b] 23)))
  go_enter Tryd.func10, Tryd.ntmps10
  obtain ⟨A0, A1, -, -, -⟩ := id A
  go_wp2_with fail
  refine (CA.out _ HB.out).mono ?_
  rintro e w1 ⟨rfl, hb⟩
  have A := (A.keep hb)
  have HB := Lib.hid (bstep HB.out hb)
  clear hb
  clear A0 A1
  obtain ⟨A0, A1, -, -, -⟩ := id A
  go_wp2_with fail
  refine (C1.out _ HB.out).mono ?_
  rintro e w2 ⟨rfl, hb⟩
  have A := (A.keep hb)
  have HB := Lib.hid (bstep HB.out hb)
  clear hb
  clear A0 A1
  obtain ⟨A0, A1, -, -, -⟩ := id A
  go_wp2_with fail
  refine (V1.out _).mono ?_
  rintro e w3 ⟨rfl, hb⟩
  have A := (A.keep hb)
  have HB := Lib.hid (bstep HB.out hb)
  clear hb
  clear A0 A1
  obtain ⟨A0, A1, -, -, -⟩ := id A
  go_wp2_with fail
  refine (K1.out _).mono ?_
  rintro e w4 ⟨rfl, hb⟩
  have A := (A.keep hb)
  have HB := Lib.hid (bstep HB.out hb)
  clear hb
  clear A0 A1
  obtain ⟨A0, A1, -, -, -⟩ := id A
  go_wp2_with fail
  have HX := Lib.hid (HM.out.below HB.out)
  refine (CS.out _ HX.out).mono ?_
  rintro e ws ⟨rfl, rfl⟩
  have c0 : (w4.alloc (.cells #[.string T, .string U] 9)).cell? ⟨w4.heap.size, 0, none⟩ = some (.string T) := by rw [World.cell?_alloc_new]; rfl
  have c1 : (w4.alloc (.cells #[.string T, .string U] 9)).cell? ⟨w4.heap.size, 1, none⟩ = some (.string U) := by rw [World.cell?_alloc_new]; rfl
  have A := A.alloc (.cells #[.string T, .string U] 9)
  have HB := Lib.hid (bstep HB.out (below1 w4 (.cells #[.string T, .string U] 9)))
  have lt := (show w4.heap.size < (w4.alloc (.cells #[.string T, .string U] 9)).heap.size by simp)
  clear A0 A1
  generalize w4.alloc (.cells #[.string T, .string U] 9) = v at *
  obtain ⟨A0, A1, -, -, -⟩ := id A
  go_wp2_with fail
  refine (P1.out _ HB.out).mono ?_
  rintro e v1 ⟨rfl, hb⟩
  have d1 := (hb.cell (p := ⟨w4.heap.size, 1, none⟩) lt).trans c1
  have A := A.keep hb
  have HB := Lib.hid (bstep HB.out hb)
  clear hb c0 A0 A1 c1
  obtain ⟨A0, A1, -, -, -⟩ := id A
  go_wp2_with fail
  refine (P2.out _ HB.out).mono ?_
  rintro e v2 ⟨rfl, hb⟩
  have A := A.keep hb
  have HB := Lib.hid (bstep HB.out hb)
  clear hb A0 A1 d1
  obtain ⟨A0, A1, -, -, -⟩ := id A
  go_wp2_with fail
  go_ret
  exact ⟨rfl, HB.out⟩

theorem prints_walk (a b : Int) (w : World) (P : AnAw w) (Q : AnPs w) (hm : HasMax w) :
    Calls Tryd.prog 10 #[.agg #[.int .i64 a, .int .i64 b]] w fun e w' => e = .returned (.bool true) ∧ Below w.heap.size w w' := by
  cases ha : aok a b
  · exact pz_f a b w P Q hm ha
  · cases hp : prO a b
    · exact pz_b a b w P Q hm ha hp
    · by_cases he : rndT a = rndT b
      · exact pz_1 a b w P Q hm ha hp he
      · exact pz_2 a b w P Q hm ha hp he
end Go.Proofs.YtedcpmiadonmeaaDoor
