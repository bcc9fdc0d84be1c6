/- The contract of decimalText: it returns the decimal text, and writes only memory of its own. -/
import Derived.Test.YtfknmceffkagaaaDoorDecA
import Derived.Test.YtfknmceffkagaaaDoorDecM
namespace Go.Proofs.YtfknmceffkagaaaDoor.dc
open Go.RowKit
set_option linter.unusedVariables false

theorem Tryd.info5 : (Tryd.prog.info? 5).map (fun i => (i.zero, i.size, i.bytes)) = some (some (.int .u8 0), 1, 1) := by kernel_rfl

def byteV (b : UInt8) : Value := .int .u8 (b.toNat : Int)

/-- the block that decimalText writes into: its last bytes are what has been written -/
def TextRow (w : World) (B : Nat) (l : List UInt8) : Prop := w.ownsRow B 5 1 (.slice (some ⟨B, 0, none⟩) 24 24) 24 (l.map byteV)

theorem TextRow.len {w : World} {B : Nat} {l : List UInt8} (h : TextRow w B l) : l.length = 24 := by simpa using h.1
theorem TextRow.cell {w : World} {B : Nat} {l : List UInt8} (h : TextRow w B l) (j : Nat) (hj : j < l.length) : w.cell? ⟨B, j, none⟩ = some (.int .u8 ((l[j]).toNat : Int)) := by
  have hl := h.len
  have := h.cellAt j (by omega)
  rw [this]
  simp [byteV, List.getElem?_eq_getElem hj]
theorem TextRow.frozen {w : World} {B : Nat} {l : List UInt8} (h : TextRow w B l) (j : Nat) : w.frozen? ⟨B, j, none⟩ = false := h.frozenAt j
theorem TextRow.store {w : World} {B : Nat} {q out : List UInt8} {x : UInt8} (h : TextRow w B (q ++ x :: out)) (p : Nat) (hp : q.length = p) (c : UInt8) (n : Int) (hc : n = (c.toNat : Int)) :
    TextRow (w.setCell ⟨B, p, none⟩ (.int .u8 n)) B (q ++ c :: out) := by
  subst hp hc
  have := (h.stored q.length (.int .u8 (c.toNat : Int))).1
  have e : ((q ++ x :: out).map byteV).set q.length (.int .u8 (c.toNat : Int)) = (q ++ c :: out).map byteV := by
    simp [byteV]
  rw [e] at this
  exact this
theorem TextRow.any {w : World} {B : Nat} {q out : List UInt8} {x : UInt8} (h : TextRow w B (q ++ x :: out)) (p : Nat) (hp : q.length = p) :
    ∃ v, w.cell? ⟨B, p, none⟩ = some (.int .u8 v) := ⟨_, h.cell p (by simp; omega)⟩

theorem TextRow.text {w : World} {B : Nat} {q l : List UInt8} (h : TextRow w B (q ++ l)) :
    (convert 70 9 (.slice (some ⟨B, q.length, none⟩) (24 - q.length) (24 - q.length))).run Tryd.prog w = .ok (.string ⟨l.toArray⟩) w := by
  have hl : l.length = 24 - q.length := by have := h.len; simp at this; omega
  rw [← hl]
  refine run_convert_bytes_back w 70 9 5 ⟨B, q.length, none⟩ l.length l Tryd.underlying70 Tryd.underlying5 Tryd.underlying9 fun j hj => ?_
  have := h.cell (q.length + j) (by simp; omega)
  have e : (⟨B, q.length, none⟩ : Addr).add j = ⟨B, q.length + j, none⟩ := by unfold Addr.add; split <;> simp_all
  rw [e, this]
  simp

/-- the state of decimalText's loop after j rounds -/
def DRel (B d a : Nat) (w0 : World) (r f k : Value) (wr : World) : Prop :=
  ∃ j : Nat, ∃ q : List UInt8, j ≤ rnds d a ∧ r = .int .i64 ((a / 10 ^ j : Nat) : Int) ∧ f = .int .i64 (q.length : Int) ∧ k = .int .i64 (j : Int) ∧ TextRow wr B (q ++ outD d a j) ∧ Below B w0 wr

theorem last_of {l : List UInt8} (h : 0 < l.length) : ∃ q x, l = q ++ [x] := ⟨l.dropLast, l.getLast (by intro e; simp [e] at h), (List.dropLast_concat_getLast _).symm⟩

set_option maxRecDepth 100000 in
set_option maxHeartbeats 1000000 in
theorem decimalText_any (n : Int) (d : Nat) (w : World) (h1 : -1152921504606846976 ≤ n) (h2 : n ≤ 1152921504606846976) (hd : d ≤ 9) :
    Calls Tryd.prog 56 #[.int .i64 n, .int .i64 (d : Int)] w fun e w' => e = .returned (.string ⟨(decT n d).toArray⟩) ∧ Below w.heap.size w w' := by
  obtain ⟨i0, hi, hz0, hz1, hz2⟩ := info_parts Tryd.info5
  obtain ⟨a, ha⟩ : ∃ a : Nat, a = n.natAbs := ⟨_, rfl⟩
  have hab : a ≤ 1152921504606846976 := by omega
  by_cases hn : n < 0
  · have hna : -n = (a : Int) := by omega
    have HA := Lib.hid ha
    clear ha
    go_enter Tryd.func56, Tryd.ntmps56
    go_wp2_with (at_make; refine wpList_make_full _ rfl _ _ 70 rfl w.heap.size 5 i0 (.int .u8 0) 1 Tryd.underlying70 hi hz0 hz1 _ _ _ _ 24 rfl rfl rfl rfl (by rw [hz2]; omega) (by unfold maxLen; omega) (Nat.le_refl _) ?_)
    intro w1 hown hgrow
    have hB : Below w.heap.size w w1 := (Below.refl _ _).grown hgrow (Nat.le_refl _) (by intro k hk; cases hk)
    have hR : TextRow w1 w.heap.size (List.replicate 24 0) := by
      have e : (List.replicate 24 (0 : UInt8)).map byteV = (madeCells #[Value.int .u8 0] 24).toList := by rw [toList_madeCells_one]; simp [byteV]
      unfold TextRow; rw [e]
      simpa [Value.cells] using hown
    clear hgrow hown
    go_wp2_with fail
    go_loopw [5, 7, 8] (fun r f k wr => DRel w.heap.size d a w r f k wr) (fun _ _ k _ => rnds d a - (intOf k).toNat)
    case atStart => exact ⟨0, List.replicate 24 0, Nat.zero_le _, by simp, by simp, rfl, by simpa [outD] using hR, hB⟩
    case round =>
      obtain ⟨j, q, hj, rfl, rfl, rfl, hT, hBr⟩ := hrel
      have hlen := hT.len
      have hol := outD_length d a j
      have hol2 : (outD d a j).length ≤ j + 1 := by rw [hol]; split <;> omega
      rw [List.length_append] at hlen
      obtain ⟨e, he⟩ : ∃ e, e = a / 10 ^ j := ⟨_, rfl⟩
      rw [← he]
      have hea : e ≤ a := by rw [he]; exact Nat.div_le_self _ _
      have hR19 := rnds_le19 d a hd hab
      by_cases hlt : j < rnds d a
      · by_cases hdot : j = d ∧ 0 < d
        · obtain ⟨rfl, hd0⟩ := hdot
          obtain ⟨q1, x, rfl⟩ := last_of (l := q) (by omega)
          obtain ⟨q2, y, rfl⟩ := last_of (l := q1) (by simp at hlen; omega)
          have hT' : TextRow wr w.heap.size ((q2 ++ [y]) ++ x :: outD j a j) := by simpa using hT
          have hS1 := hT'.store (q2.length + 1) (by simp) 46 46 rfl
          have hS1' : TextRow (wr.setCell ⟨w.heap.size, q2.length + 1, none⟩ (.int .u8 46)) w.heap.size (q2 ++ y :: 46 :: outD j a j) := by simpa using hS1
          have hS2 := hS1'.store q2.length rfl (dch e) (48 + (e : Int) % 10) (by rw [dch_toNat]; omega)
          obtain ⟨v1, hc1⟩ := hT'.any (q2.length + 1) (by simp)
          obtain ⟨v2, hc2⟩ := hS1'.any q2.length rfl
          have hf1 := hT'.frozen (q2.length + 1)
          have hf2 := hS1'.frozen q2.length
          have hqq : q2.length + 2 ≤ 24 := by simp at hlen; omega
          have HS := Lib.hid hS2
          have HE := Lib.hid he
          clear hS1 hS1' hS2 hT hT' he hol hlen hol2
          go_wp2
          go_roundw
          case rel =>
            exact ⟨j + 1, q2, by omega, by rw [Nat.pow_succ, ← Nat.div_div_eq_div_mul, ← HE.out]; go_num, by go_num, by go_num, by rw [outD, if_pos ⟨rfl, hd0⟩, ← HE.out]; exact HS.out, (hBr.setCell (Nat.le_refl _) _).setCell (Nat.le_refl _) _⟩
          case measure => simp [intOf]; omega
        · obtain ⟨q1, x, rfl⟩ := last_of (l := q) (by omega)
          have hT' : TextRow wr w.heap.size (q1 ++ x :: outD d a j) := by simpa using hT
          have hS1 := hT'.store q1.length rfl (dch e) (48 + (e : Int) % 10) (by rw [dch_toNat]; omega)
          obtain ⟨v1, hc1⟩ := hT'.any q1.length rfl
          have hf1 := hT'.frozen q1.length
          have hqq : q1.length + 1 ≤ 24 := by simp at hlen; omega
          have HS := Lib.hid hS1
          have HE := Lib.hid he
          have hgo := rnds_go d a j hlt
          rw [← he] at hgo
          clear hS1 hT hT' he hol hlen hol2
          have hfin : j ≠ d ∨ d = 0 := by omega
          rcases (show j < d ∨ d < j ∨ (j = d ∧ d = 0) by omega) with hjd | hjd | ⟨hjd, hjd0⟩
          · clear hgo hfin
            go_wp2
            go_roundw
            case rel =>
              exact ⟨j + 1, q1, by omega, by rw [Nat.pow_succ, ← Nat.div_div_eq_div_mul, ← HE.out]; go_num, by go_num, by go_num, by rw [outD, if_neg hdot, ← HE.out]; exact HS.out, hBr.setCell (Nat.le_refl _) _⟩
            case measure => simp [intOf]; omega
          · have hgo' := hgo hjd
            clear hgo hfin
            go_wp2
            go_roundw
            case rel =>
              exact ⟨j + 1, q1, by omega, by rw [Nat.pow_succ, ← Nat.div_div_eq_div_mul, ← HE.out]; go_num, by go_num, by go_num, by rw [outD, if_neg hdot, ← HE.out]; exact HS.out, hBr.setCell (Nat.le_refl _) _⟩
            case measure => simp [intOf]; omega
          · subst hjd0 hjd
            clear hgo hfin
            go_wp2
            go_roundw
            case rel =>
              exact ⟨0 + 1, q1, by omega, by rw [Nat.pow_succ, ← Nat.div_div_eq_div_mul, ← HE.out]; go_num, by go_num, by go_num, by rw [outD, if_neg hdot, ← HE.out]; exact HS.out, hBr.setCell (Nat.le_refl _) _⟩
            case measure => simp [intOf]; omega
      · have hjR : j = rnds d a := by omega
        have he0 := rnds_zero d a hab
        rw [← hjR, ← he] at he0
        have hdj := rnds_gt d a
        rw [← hjR] at hdj
        subst he0
        obtain ⟨q1, x, rfl⟩ := last_of (l := q) (by omega)
        have hT' : TextRow wr w.heap.size (q1 ++ x :: outD d a j) := by simpa using hT
        have hS1 := hT'.store q1.length rfl 45 45 rfl
        obtain ⟨v1, hc1⟩ := hT'.any q1.length rfl
        have hf1 := hT'.frozen q1.length
        have hqq : q1.length + 1 ≤ 24 := by simp at hlen; omega
        have HS := Lib.hid hS1
        have hcv := hS1.text
        have hBe := hBr.setCell (p := ⟨w.heap.size, q1.length, none⟩) (Nat.le_refl _) (.int .u8 45)
        have HB := Lib.hid hBe
        have hD : decT n d = 45 :: outD d a (rnds d a) := by unfold decT; rw [if_pos hn, ← HA.out]; rfl
        have HD := Lib.hid hD
        clear hS1 hT hT' he hol hlen hol2 hBe hD
        go_wp2
        go_ret
        exact ⟨by rw [HD.out]; rfl, HB.out⟩
  · obtain rfl : n = (a : Int) := by omega
    clear ha
    go_enter Tryd.func56, Tryd.ntmps56
    go_wp2_with (at_make; refine wpList_make_full _ rfl _ _ 70 rfl w.heap.size 5 i0 (.int .u8 0) 1 Tryd.underlying70 hi hz0 hz1 _ _ _ _ 24 rfl rfl rfl rfl (by rw [hz2]; omega) (by unfold maxLen; omega) (Nat.le_refl _) ?_)
    intro w1 hown hgrow
    have hB : Below w.heap.size w w1 := (Below.refl _ _).grown hgrow (Nat.le_refl _) (by intro k hk; cases hk)
    have hR : TextRow w1 w.heap.size (List.replicate 24 0) := by
      have e : (List.replicate 24 (0 : UInt8)).map byteV = (madeCells #[Value.int .u8 0] 24).toList := by rw [toList_madeCells_one]; simp [byteV]
      unfold TextRow; rw [e]
      simpa [Value.cells] using hown
    clear hgrow hown
    go_wp2_with fail
    go_loopw [5, 7, 8] (fun r f k wr => DRel w.heap.size d a w r f k wr) (fun _ _ k _ => rnds d a - (intOf k).toNat)
    case atStart => exact ⟨0, List.replicate 24 0, Nat.zero_le _, by simp, by simp, rfl, by simpa [outD] using hR, hB⟩
    case round =>
      obtain ⟨j, q, hj, rfl, rfl, rfl, hT, hBr⟩ := hrel
      have hlen := hT.len
      have hol := outD_length d a j
      have hol2 : (outD d a j).length ≤ j + 1 := by rw [hol]; split <;> omega
      rw [List.length_append] at hlen
      obtain ⟨e, he⟩ : ∃ e, e = a / 10 ^ j := ⟨_, rfl⟩
      rw [← he]
      have hea : e ≤ a := by rw [he]; exact Nat.div_le_self _ _
      have hR19 := rnds_le19 d a hd hab
      by_cases hlt : j < rnds d a
      · by_cases hdot : j = d ∧ 0 < d
        · obtain ⟨rfl, hd0⟩ := hdot
          obtain ⟨q1, x, rfl⟩ := last_of (l := q) (by omega)
          obtain ⟨q2, y, rfl⟩ := last_of (l := q1) (by simp at hlen; omega)
          have hT' : TextRow wr w.heap.size ((q2 ++ [y]) ++ x :: outD j a j) := by simpa using hT
          have hS1 := hT'.store (q2.length + 1) (by simp) 46 46 rfl
          have hS1' : TextRow (wr.setCell ⟨w.heap.size, q2.length + 1, none⟩ (.int .u8 46)) w.heap.size (q2 ++ y :: 46 :: outD j a j) := by simpa using hS1
          have hS2 := hS1'.store q2.length rfl (dch e) (48 + (e : Int) % 10) (by rw [dch_toNat]; omega)
          obtain ⟨v1, hc1⟩ := hT'.any (q2.length + 1) (by simp)
          obtain ⟨v2, hc2⟩ := hS1'.any q2.length rfl
          have hf1 := hT'.frozen (q2.length + 1)
          have hf2 := hS1'.frozen q2.length
          have hqq : q2.length + 2 ≤ 24 := by simp at hlen; omega
          have HS := Lib.hid hS2
          have HE := Lib.hid he
          clear hS1 hS1' hS2 hT hT' he hol hlen hol2
          go_wp2
          go_roundw
          case rel =>
            exact ⟨j + 1, q2, by omega, by rw [Nat.pow_succ, ← Nat.div_div_eq_div_mul, ← HE.out]; go_num, by go_num, by go_num, by rw [outD, if_pos ⟨rfl, hd0⟩, ← HE.out]; exact HS.out, (hBr.setCell (Nat.le_refl _) _).setCell (Nat.le_refl _) _⟩
          case measure => simp [intOf]; omega
        · obtain ⟨q1, x, rfl⟩ := last_of (l := q) (by omega)
          have hT' : TextRow wr w.heap.size (q1 ++ x :: outD d a j) := by simpa using hT
          have hS1 := hT'.store q1.length rfl (dch e) (48 + (e : Int) % 10) (by rw [dch_toNat]; omega)
          obtain ⟨v1, hc1⟩ := hT'.any q1.length rfl
          have hf1 := hT'.frozen q1.length
          have hqq : q1.length + 1 ≤ 24 := by simp at hlen; omega
          have HS := Lib.hid hS1
          have HE := Lib.hid he
          have hgo := rnds_go d a j hlt
          rw [← he] at hgo
          clear hS1 hT hT' he hol hlen hol2
          have hfin : j ≠ d ∨ d = 0 := by omega
          rcases (show j < d ∨ d < j ∨ (j = d ∧ d = 0) by omega) with hjd | hjd | ⟨hjd, hjd0⟩
          · clear hgo hfin
            go_wp2
            go_roundw
            case rel =>
              exact ⟨j + 1, q1, by omega, by rw [Nat.pow_succ, ← Nat.div_div_eq_div_mul, ← HE.out]; go_num, by go_num, by go_num, by rw [outD, if_neg hdot, ← HE.out]; exact HS.out, hBr.setCell (Nat.le_refl _) _⟩
            case measure => simp [intOf]; omega
          · have hgo' := hgo hjd
            clear hgo hfin
            go_wp2
            go_roundw
            case rel =>
              exact ⟨j + 1, q1, by omega, by rw [Nat.pow_succ, ← Nat.div_div_eq_div_mul, ← HE.out]; go_num, by go_num, by go_num, by rw [outD, if_neg hdot, ← HE.out]; exact HS.out, hBr.setCell (Nat.le_refl _) _⟩
            case measure => simp [intOf]; omega
          · subst hjd0 hjd
            clear hgo hfin
            go_wp2
            go_roundw
            case rel =>
              exact ⟨0 + 1, q1, by omega, by rw [Nat.pow_succ, ← Nat.div_div_eq_div_mul, ← HE.out]; go_num, by go_num, by go_num, by rw [outD, if_neg hdot, ← HE.out]; exact HS.out, hBr.setCell (Nat.le_refl _) _⟩
            case measure => simp [intOf]; omega
      · have hjR : j = rnds d a := by omega
        have he0 := rnds_zero d a hab
        rw [← hjR, ← he] at he0
        have hdj := rnds_gt d a
        rw [← hjR] at hdj
        subst he0
        have hcv := hT.text
        have HB := Lib.hid hBr
        have hD : decT (a : Int) d = outD d a (rnds d a) := by unfold decT; rw [if_neg (by omega)]; rfl
        have HD := Lib.hid hD
        have hqq : q.length + 1 ≤ 24 := by omega
        clear hT he hol hlen hol2 hD hBr
        go_wp2
        go_ret
        exact ⟨by rw [HD.out]; rfl, HB.out⟩

end Go.Proofs.YtfknmceffkagaaaDoor.dc
