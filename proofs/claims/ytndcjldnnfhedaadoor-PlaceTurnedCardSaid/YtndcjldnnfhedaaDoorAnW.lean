/- Angle: contracts of the program's padded, fractionText, Text. -/
import Derived.Test.YtndcjldnnfhedaaDoorAnR
import Derived.Test.YtndcjldnnfhedaaDoorAnV
namespace Go.Proofs.YtndcjldnnfhedaaDoor
open Go.RowKit
set_option linter.unusedVariables false
set_option maxRecDepth 100000

abbrev Tab (w : World) : Prop := Lib.TabIs Tryd.prog w "internal/strconv.uint64pow10" .u64 Lib.pow10Tab

set_option maxHeartbeats 1000000 in
theorem pPadded2 (m : Nat) (w : World) (h : m < 10 ^ 2) (htab : Tab w) :
    Calls Tryd.prog 81 #[.int .i64 (m : Int), .int .i64 2] w fun e w' => e = .returned (.string (ba (digs 2 m))) ∧ Below w.heap.size w w' := by
  obtain ⟨d1, d2⟩ := dec_digs 1 m h
  have lp := Lib.nDigits_pos m
  have C1 := Lib.hid (fun wx (hb : Below w.heap.size w wx) => itoa_nat m wx (by omega) (Lib.tabBelow_of_tabIs htab wx hb))
  have C2 := Lib.hid (fun wx => repeat_zeros (2 - Lib.nDigits m) wx (by omega))
  have E : Hid (ba (digs 2 m) = ba (List.replicate (2 - Lib.nDigits m) 48) ++ ba (Lib.decDigits m)) := by
    show ba (digs 2 m) = _
    rw [ba_app, ← pad_digs 1 m h]
  have sx : (ba (Lib.decDigits m)).size = Lib.nDigits m := by rw [ba_size, Lib.decDigits_length]
  have sz : (ba (List.replicate (2 - Lib.nDigits m) (48 : UInt8))).size ≤ 3 := by rw [ba_size, List.length_replicate]; omega
  obtain ⟨R, hR⟩ : ∃ R, ba (digs 2 m) = R := ⟨_, rfl⟩
  rw [hR] at E ⊢
  obtain ⟨X, hX⟩ : ∃ X, ba (Lib.decDigits m) = X := ⟨_, rfl⟩
  rw [hX] at C1 E sx
  obtain ⟨Z, hZ⟩ : ∃ Z, ba (List.replicate (2 - Lib.nDigits m) (48 : UInt8)) = Z := ⟨_, rfl⟩
  rw [hZ] at C2 E sz
  have bx : X.size ≤ 3 := by omega
  obtain ⟨c, hc⟩ : ∃ c : Nat, 2 - Lib.nDigits m = c := ⟨_, rfl⟩
  rw [hc] at C2
  have hs : (2 : Int) - (X.size : Int) = (c : Int) := by omega
  have c1 : c ≤ 3 := by omega
  clear hR hX hZ d1 d2 lp sx h hc htab
  have e1 := Lib.hid (Below.refl w.heap.size w)
  go_enter Tryd.func81, Tryd.ntmps81
  go_wp2_with fail
  refine (C1.out _ e1.out).mono ?_
  rintro e w1 ⟨rfl, hb⟩
  have HB := Lib.hid hb
  clear hb e1
  go_wp2_with fail
  refine (C2.out _).mono ?_
  rintro e w2 ⟨rfl, hb⟩
  have HB := Lib.hid (bstep HB.out hb)
  clear hb
  go_wp2_with fail
  go_ret
  exact ⟨congrArg (fun s => Ending.returned (Value.string s)) E.out.symm, HB.out⟩

set_option maxHeartbeats 1000000 in
theorem pPadded3 (m : Nat) (w : World) (h : m < 10 ^ 3) (htab : Tab w) :
    Calls Tryd.prog 81 #[.int .i64 (m : Int), .int .i64 3] w fun e w' => e = .returned (.string (ba (digs 3 m))) ∧ Below w.heap.size w w' := by
  obtain ⟨d1, d2⟩ := dec_digs 2 m h
  have lp := Lib.nDigits_pos m
  have C1 := Lib.hid (fun wx (hb : Below w.heap.size w wx) => itoa_nat m wx (by omega) (Lib.tabBelow_of_tabIs htab wx hb))
  have C2 := Lib.hid (fun wx => repeat_zeros (3 - Lib.nDigits m) wx (by omega))
  have E : Hid (ba (digs 3 m) = ba (List.replicate (3 - Lib.nDigits m) 48) ++ ba (Lib.decDigits m)) := by
    show ba (digs 3 m) = _
    rw [ba_app, ← pad_digs 2 m h]
  have sx : (ba (Lib.decDigits m)).size = Lib.nDigits m := by rw [ba_size, Lib.decDigits_length]
  have sz : (ba (List.replicate (3 - Lib.nDigits m) (48 : UInt8))).size ≤ 3 := by rw [ba_size, List.length_replicate]; omega
  obtain ⟨R, hR⟩ : ∃ R, ba (digs 3 m) = R := ⟨_, rfl⟩
  rw [hR] at E ⊢
  obtain ⟨X, hX⟩ : ∃ X, ba (Lib.decDigits m) = X := ⟨_, rfl⟩
  rw [hX] at C1 E sx
  obtain ⟨Z, hZ⟩ : ∃ Z, ba (List.replicate (3 - Lib.nDigits m) (48 : UInt8)) = Z := ⟨_, rfl⟩
  rw [hZ] at C2 E sz
  have bx : X.size ≤ 3 := by omega
  obtain ⟨c, hc⟩ : ∃ c : Nat, 3 - Lib.nDigits m = c := ⟨_, rfl⟩
  rw [hc] at C2
  have hs : (3 : Int) - (X.size : Int) = (c : Int) := by omega
  have c1 : c ≤ 3 := by omega
  clear hR hX hZ d1 d2 lp sx h hc htab
  have e1 := Lib.hid (Below.refl w.heap.size w)
  go_enter Tryd.func81, Tryd.ntmps81
  go_wp2_with fail
  refine (C1.out _ e1.out).mono ?_
  rintro e w1 ⟨rfl, hb⟩
  have HB := Lib.hid hb
  clear hb e1
  go_wp2_with fail
  refine (C2.out _).mono ?_
  rintro e w2 ⟨rfl, hb⟩
  have HB := Lib.hid (bstep HB.out hb)
  clear hb
  go_wp2_with fail
  go_ret
  exact ⟨congrArg (fun s => Ending.returned (Value.string s)) E.out.symm, HB.out⟩

set_option maxHeartbeats 1000000 in
theorem pFraction (f : Nat) (w : World) (h : f < 1000) (htab : Tab w) :
    Calls Tryd.prog 82 #[.int .i64 (f : Int)] w fun e w' => e = .returned (.string (ba (fracT f))) ∧ Below w.heap.size w w' := by
  unfold fracT
  by_cases h0 : f % 100 = 0
  · rw [if_pos h0]
    have C1 := Lib.hid (fun wx (hb : Below w.heap.size w wx) => itoa_nat (f / 100) wx (by omega) (Lib.tabBelow_of_tabIs htab wx hb))
    have E : Lib.decDigits (f / 100) = digs 1 (f / 100) := by
      have := (dec_digs 0 (f / 100) (by omega)).1
      rw [Lib.nDigits_small (by omega)] at this
      exact this
    rw [E] at C1
    obtain ⟨q, hq⟩ : ∃ q : Nat, f / 100 = q := ⟨_, rfl⟩
    rw [hq] at C1 ⊢
    have t1 : (f : Int).tmod 100 = 0 := by rw [Int.tmod_eq_emod_of_nonneg (by omega)]; omega
    have t2 : (f : Int).tdiv 100 = (q : Int) := by rw [Int.tdiv_eq_ediv_of_nonneg (by omega)]; omega
    generalize ba (digs 1 q) = R at *
    have q1 : q ≤ 10 := by omega
    clear hq E h0 h htab
    have e1 := Lib.hid (Below.refl w.heap.size w)
    go_enter Tryd.func82, Tryd.ntmps82
    go_wp2_with fail
    refine (C1.out _ e1.out).mono ?_
    rintro e w1 ⟨rfl, hb⟩
    go_wp2_with fail
    go_ret
    exact ⟨rfl, hb⟩
  · rw [if_neg h0]
    have C1 := Lib.hid (fun wx (hb : Below w.heap.size w wx) => pPadded3 f wx (by omega) (Lib.tabBelow_of_tabIs htab wx hb))
    have t1 : ((f : Int) % 100 == 0) = false := by rw [beq_eq_false_iff_ne]; omega
    have t2 : ¬ (f : Int) % 100 = 0 := by omega
    generalize ba (digs 3 f) = R at *
    clear h0 h htab
    have e1 := Lib.hid (Below.refl w.heap.size w)
    go_enter Tryd.func82, Tryd.ntmps82
    go_wp2_with fail
    refine (C1.out _ e1.out).mono ?_
    rintro e w1 ⟨rfl, hb⟩
    go_wp2_with fail
    go_ret
    exact ⟨rfl, hb⟩

theorem isB_below {T e : TypeId} {B b : Nat} {bs : List Value} {W W' : World} (h : Lib.IsBuilder T e B b bs W) (hb : Below W.heap.size W W') : Lib.IsBuilder T e B b bs W' := by
  have key : ∀ p, Lib.BuilderAt T e B b p bs W → Lib.BuilderAt T e B b p bs W' := by
    intro p h
    have hlt := h.lt
    obtain ⟨hB, v, hv, hown, hne⟩ := h
    exact ⟨hB, v, (hb.block b hlt).trans hv, hown.kept (row := none) ⟨hb.os, hb.tape, hb.output, hb.size, fun k hk _ => hb.block k hk⟩ (by cases v <;> simp [Value.ownBlock]; split <;> simp), hne⟩
  exact h.elim (fun x => .inl (key _ x)) (fun x => .inr (key _ x))
/-- a builder whose bytes are those of a list -/
abbrev Bd (b : Nat) (l : List UInt8) (w : World) : Prop := Lib.IsBuilder 116 5 b b (Lib.byteCells l) w
theorem cells_app (l m : List UInt8) : Lib.byteCells l ++ Lib.byteCells m = Lib.byteCells (l ++ m) := by simp [Lib.byteCells]
theorem cells_ba (l : List UInt8) : Lib.strCells (ba l) = Lib.byteCells l := by simp [Lib.strCells, Lib.byteCells, ba]
theorem wrS (b : Nat) (l m : List UInt8) (w : World) (h : Bd b l w) (hlen : l.length + m.length ≤ 1000) (hb : b ≤ w.heap.size) :
    Calls Tryd.prog 79 #[.pointer (some ⟨b, 0, none⟩), .string (ba m)] w fun e w' => e = .returned (.tuple #[.int .i64 (ba m).size, .nilIface]) ∧ (Bd b (l ++ m) w' ∧ Below b w w') := by
  have hl : (Lib.byteCells l).length = l.length := by simp [Lib.byteCells]
  refine (writeString_any b b (Lib.byteCells l) (ba m) w h (by rw [hl, ba_size]; omega) hb).mono ?_
  rintro e w' ⟨he, h1, h2⟩
  rw [cells_ba, cells_app] at h1
  exact ⟨he, .inr h1, h2⟩
theorem wrB (b : Nat) (l : List UInt8) (c : UInt8) (n : Int) (hn : n = (c.toNat : Int)) (w : World) (h : Bd b l w) (hlen : l.length + 1 ≤ 1000) (hb : b ≤ w.heap.size) :
    Calls Tryd.prog 78 #[.pointer (some ⟨b, 0, none⟩), .int .u8 n] w fun e w' => e = .returned .nilIface ∧ (Bd b (l ++ [c]) w' ∧ Below b w w') := by
  have hl : (Lib.byteCells l).length = l.length := by simp [Lib.byteCells]
  refine (writeByte_any b b (Lib.byteCells l) n w h (by rw [hl]; omega) hb).mono ?_
  rintro e w' ⟨he, h1, h2⟩
  rw [hn, show Lib.byteCells l ++ [Value.int .u8 (c.toNat : Int)] = Lib.byteCells (l ++ [c]) by simp [Lib.byteCells]] at h1
  exact ⟨he, .inr h1, h2⟩
theorem bdS (b : Nat) (l : List UInt8) (w : World) (h : Bd b l w) (hb : b ≤ w.heap.size) :
    Calls Tryd.prog 83 #[.pointer (some ⟨b, 0, none⟩)] w fun e w' => e = .returned (.string (ba l)) ∧ Below b w w' :=
  Tryd.Builder_String_any b b l w h hb
end Go.Proofs.YtndcjldnnfhedaaDoor
