/- AngleTexts: the walk of the law. -/
import Derived.Test.YtedcpmiadonmeaaDoorAnJ
namespace Go.Proofs.YtedcpmiadonmeaaDoor
open Go.RowKit
set_option linter.unusedVariables false

set_option maxRecDepth 100000 in
set_option maxHeartbeats 4000000 in
theorem tx_yl (n : Int) (s : ByteArray) (w : World) (P : AnProg w) (Q : AnPs w) (n1 : -9223372036854775808 ≤ n) (n2 : n ≤ 9223372036854775807) (hn : inA n = true) (hl : s.size > 100) :
    Calls Tryd.prog 9 #[.int .i64 n, .string s] w fun e w' => e = .returned (.bool true) ∧ Below w.heap.size w w' := by
  have CA := Lib.hid (fun wx (hb : Below w.heap.size w wx) => awake_any w P.toAnAw wx hb)
  obtain ⟨b1, b2⟩ := (inA_iff _).1 hn
  obtain ⟨tb1, tb2⟩ := text_back n hn
  have sz : (ba (textT n)).size ≤ 1000 := by
    have := textT_len n
    rw [sz_eq]; show (textT n).length ≤ 1000; omega
  have C1 := Lib.hid (fun wx (hb : Below w.heap.size w wx) => toldT (s := ba (textT n)) (y := 0) (if_pos hn) (if_pos hn) (P.text n wx hb n1 n2))
  have C2 := Lib.hid (fun wx (hb : Below w.heap.size w wx) => toldP (s := n) (y := 0) tb1 tb2 (Q.parse (ba (textT n)) wx hb sz))
  have C3 := Lib.hid (fun wx => rText n wx hn)
  have z1 : ¬ n < -1099511627776 := by omega
  have z2 : ¬ n > 1099511627776 := by omega
  clear tb1 tb2 b1 b2 n1 n2 hn
  generalize ba (textT n) = T at *
  have hl := hl
  have HB := Lib.hid (Below.refl w.heap.size w)
  go_enter Tryd.func9, Tryd.ntmps9
  go_wp2_with fail
  refine (CA.out _ HB.out).mono ?_
  rintro e w1 ⟨rfl, hb⟩
  have HB := Lib.hid (bstep HB.out hb)
  clear hb
  go_wp2_with fail
  refine (C1.out _ HB.out).mono ?_
  rintro e w2 ⟨rfl, hb⟩
  have HB := Lib.hid (bstep HB.out hb)
  clear hb
  go_wp2_with fail
  refine (C2.out _ HB.out).mono ?_
  rintro e w3 ⟨rfl, hb⟩
  have HB := Lib.hid (bstep HB.out hb)
  clear hb
  go_wp2_with fail
  refine (C3.out _).mono ?_
  rintro e w4 ⟨rfl, hb⟩
  have HB := Lib.hid (bstep HB.out hb)
  clear hb
  go_wp2_with fail
  go_ret
  exact ⟨rfl, HB.out⟩

set_option maxRecDepth 100000 in
set_option maxHeartbeats 4000000 in
theorem tx_ys (n : Int) (s : ByteArray) (w : World) (P : AnProg w) (Q : AnPs w) (n1 : -9223372036854775808 ≤ n) (n2 : n ≤ 9223372036854775807) (hn : inA n = true) (hl : ¬ s.size > 100) :
    Calls Tryd.prog 9 #[.int .i64 n, .string s] w fun e w' => e = .returned (.bool true) ∧ Below w.heap.size w w' := by
  have CA := Lib.hid (fun wx (hb : Below w.heap.size w wx) => awake_any w P.toAnAw wx hb)
  obtain ⟨b1, b2⟩ := (inA_iff _).1 hn
  obtain ⟨tb1, tb2⟩ := text_back n hn
  have sz : (ba (textT n)).size ≤ 1000 := by
    have := textT_len n
    rw [sz_eq]; show (textT n).length ≤ 1000; omega
  have C1 := Lib.hid (fun wx (hb : Below w.heap.size w wx) => toldT (s := ba (textT n)) (y := 0) (if_pos hn) (if_pos hn) (P.text n wx hb n1 n2))
  have C2 := Lib.hid (fun wx (hb : Below w.heap.size w wx) => toldP (s := n) (y := 0) tb1 tb2 (Q.parse (ba (textT n)) wx hb sz))
  have C3 := Lib.hid (fun wx => rText n wx hn)
  have z1 : ¬ n < -1099511627776 := by omega
  have z2 : ¬ n > 1099511627776 := by omega
  clear tb1 tb2 b1 b2 n1 n2 hn
  generalize ba (textT n) = T at *
  have K1 := Lib.hid (fun wx (hb : Below w.heap.size w wx) => Q.parse s wx hb (by omega))
  have K2 := Lib.hid (fun wx => rParse s wx (by omega))
  generalize paV s.data.toList = V at *
  generalize paE s.data.toList = E at *
  have hl := hl
  have HB := Lib.hid (Below.refl w.heap.size w)
  go_enter Tryd.func9, Tryd.ntmps9
  go_wp2_with fail
  refine (CA.out _ HB.out).mono ?_
  rintro e w1 ⟨rfl, hb⟩
  have HB := Lib.hid (bstep HB.out hb)
  clear hb
  go_wp2_with fail
  refine (C1.out _ HB.out).mono ?_
  rintro e w2 ⟨rfl, hb⟩
  have HB := Lib.hid (bstep HB.out hb)
  clear hb
  go_wp2_with fail
  refine (C2.out _ HB.out).mono ?_
  rintro e w3 ⟨rfl, hb⟩
  have HB := Lib.hid (bstep HB.out hb)
  clear hb
  go_wp2_with fail
  refine (C3.out _).mono ?_
  rintro e w4 ⟨rfl, hb⟩
  have HB := Lib.hid (bstep HB.out hb)
  clear hb
  go_wp2_with fail
  refine (K1.out _ HB.out).mono ?_
  rintro e w5 ⟨rfl, hb⟩
  have HB := Lib.hid (bstep HB.out hb)
  clear hb
  go_wp2_with fail
  refine (K2.out _).mono ?_
  rintro e w6 ⟨rfl, hb⟩
  have HB := Lib.hid (bstep HB.out hb)
  clear hb
  go_wp2_with fail
  go_ret
  exact ⟨rfl, HB.out⟩

set_option maxRecDepth 100000 in
set_option maxHeartbeats 4000000 in
theorem tx_nl (n : Int) (s : ByteArray) (w : World) (P : AnProg w) (Q : AnPs w) (n1 : -9223372036854775808 ≤ n) (n2 : n ≤ 9223372036854775807) (hn : inA n = false) (hl : s.size > 100) :
    Calls Tryd.prog 9 #[.int .i64 n, .string s] w fun e w' => e = .returned (.bool true) ∧ Below w.heap.size w w' := by
  have CA := Lib.hid (fun wx (hb : Below w.heap.size w wx) => awake_any w P.toAnAw wx hb)
  have nb := (inA_not _).1 hn
  have C1 := Lib.hid (fun wx (hb : Below w.heap.size w wx) => toldT (s := ⟨#[]⟩) (y := 5) (if_neg (by rw [hn]; simp)) (if_neg (by rw [hn]; simp)) (P.text n wx hb n1 n2))
  clear n1 n2 hn
  by_cases z1 : n < -1099511627776
  · clear nb
    have HB := Lib.hid (Below.refl w.heap.size w)
    go_enter Tryd.func9, Tryd.ntmps9
    go_wp2_with fail
    refine (CA.out _ HB.out).mono ?_
    rintro e w1 ⟨rfl, hb⟩
    have HB := Lib.hid (bstep HB.out hb)
    clear hb
    go_wp2_with fail
    refine (C1.out _ HB.out).mono ?_
    rintro e w2 ⟨rfl, hb⟩
    have HB := Lib.hid (bstep HB.out hb)
    clear hb
    go_wp2_with fail
    go_ret
    exact ⟨rfl, HB.out⟩
  · have z2 : n > 1099511627776 := by omega
    clear nb
    have HB := Lib.hid (Below.refl w.heap.size w)
    go_enter Tryd.func9, Tryd.ntmps9
    go_wp2_with fail
    refine (CA.out _ HB.out).mono ?_
    rintro e w1 ⟨rfl, hb⟩
    have HB := Lib.hid (bstep HB.out hb)
    clear hb
    go_wp2_with fail
    refine (C1.out _ HB.out).mono ?_
    rintro e w2 ⟨rfl, hb⟩
    have HB := Lib.hid (bstep HB.out hb)
    clear hb
    go_wp2_with fail
    go_ret
    exact ⟨rfl, HB.out⟩

set_option maxRecDepth 100000 in
set_option maxHeartbeats 4000000 in
theorem tx_ns (n : Int) (s : ByteArray) (w : World) (P : AnProg w) (Q : AnPs w) (n1 : -9223372036854775808 ≤ n) (n2 : n ≤ 9223372036854775807) (hn : inA n = false) (hl : ¬ s.size > 100) :
    Calls Tryd.prog 9 #[.int .i64 n, .string s] w fun e w' => e = .returned (.bool true) ∧ Below w.heap.size w w' := by
  have CA := Lib.hid (fun wx (hb : Below w.heap.size w wx) => awake_any w P.toAnAw wx hb)
  have nb := (inA_not _).1 hn
  have C1 := Lib.hid (fun wx (hb : Below w.heap.size w wx) => toldT (s := ⟨#[]⟩) (y := 5) (if_neg (by rw [hn]; simp)) (if_neg (by rw [hn]; simp)) (P.text n wx hb n1 n2))
  clear n1 n2 hn
  have K1 := Lib.hid (fun wx (hb : Below w.heap.size w wx) => Q.parse s wx hb (by omega))
  have K2 := Lib.hid (fun wx => rParse s wx (by omega))
  generalize paV s.data.toList = V at *
  generalize paE s.data.toList = E at *
  by_cases z1 : n < -1099511627776
  · clear nb
    have HB := Lib.hid (Below.refl w.heap.size w)
    go_enter Tryd.func9, Tryd.ntmps9
    go_wp2_with fail
    refine (CA.out _ HB.out).mono ?_
    rintro e w1 ⟨rfl, hb⟩
    have HB := Lib.hid (bstep HB.out hb)
    clear hb
    go_wp2_with fail
    refine (C1.out _ HB.out).mono ?_
    rintro e w2 ⟨rfl, hb⟩
    have HB := Lib.hid (bstep HB.out hb)
    clear hb
    go_wp2_with fail
    refine (K1.out _ HB.out).mono ?_
    rintro e w3 ⟨rfl, hb⟩
    have HB := Lib.hid (bstep HB.out hb)
    clear hb
    go_wp2_with fail
    refine (K2.out _).mono ?_
    rintro e w4 ⟨rfl, hb⟩
    have HB := Lib.hid (bstep HB.out hb)
    clear hb
    go_wp2_with fail
    go_ret
    exact ⟨rfl, HB.out⟩
  · have z2 : n > 1099511627776 := by omega
    clear nb
    have HB := Lib.hid (Below.refl w.heap.size w)
    go_enter Tryd.func9, Tryd.ntmps9
    go_wp2_with fail
    refine (CA.out _ HB.out).mono ?_
    rintro e w1 ⟨rfl, hb⟩
    have HB := Lib.hid (bstep HB.out hb)
    clear hb
    go_wp2_with fail
    refine (C1.out _ HB.out).mono ?_
    rintro e w2 ⟨rfl, hb⟩
    have HB := Lib.hid (bstep HB.out hb)
    clear hb
    go_wp2_with fail
    refine (K1.out _ HB.out).mono ?_
    rintro e w3 ⟨rfl, hb⟩
    have HB := Lib.hid (bstep HB.out hb)
    clear hb
    go_wp2_with fail
    refine (K2.out _).mono ?_
    rintro e w4 ⟨rfl, hb⟩
    have HB := Lib.hid (bstep HB.out hb)
    clear hb
    go_wp2_with fail
    go_ret
    exact ⟨rfl, HB.out⟩

theorem texts_walk (n : Int) (s : ByteArray) (w : World) (P : AnProg w) (Q : AnPs w) (n1 : -9223372036854775808 ≤ n) (n2 : n ≤ 9223372036854775807) :
    Calls Tryd.prog 9 #[.int .i64 n, .string s] w fun e w' => e = .returned (.bool true) ∧ Below w.heap.size w w' := by
  by_cases hl : s.size > 100
  · cases hn : inA n
    · exact tx_nl n s w P Q n1 n2 hn hl
    · exact tx_yl n s w P Q n1 n2 hn hl
  · cases hn : inA n
    · exact tx_ns n s w P Q n1 n2 hn hl
    · exact tx_ys n s w P Q n1 n2 hn hl
end Go.Proofs.YtedcpmiadonmeaaDoor
