/- The text of a fraction; contract of ratio.Text. -/
import Derived.Test.YtlcmnfhkicjclaaDoorRtQ
import Derived.Test.YtlcmnfhkicjclaaDoorShelf
import Derived.Lib.ItoaNum
namespace Go.Proofs.YtlcmnfhkicjclaaDoor
open Go.RowKit
set_option linter.unusedVariables false

/-- a string of bytes -/
def ba (l : List UInt8) : ByteArray := ⟨l.toArray⟩
theorem ba_app (l m : List UInt8) : ba l ++ ba m = ba (l ++ m) := by
  show ByteArray.append _ _ = _
  unfold ba
  apply ByteArray.ext
  simp
theorem ba_size (l : List UInt8) : (ba l).size = l.length := by simp [ba, ByteArray.size]
theorem dec_small {n : Nat} (h : n < 10) : Lib.decDigits n = [UInt8.ofNat (48 + n)] := by rw [Lib.decDigits, dif_pos h]
theorem dec_big {n : Nat} (h : ¬ n < 10) : Lib.decDigits n = Lib.decDigits (n / 10) ++ [UInt8.ofNat (48 + n % 10)] := by rw [Lib.decDigits, dif_neg h]
theorem dec_len (n k : Nat) (h : n < 10 ^ (k + 1)) : (Lib.decDigits n).length ≤ k + 1 := by
  rw [Lib.decDigits_length]
  induction k generalizing n with
  | zero => rw [Lib.nDigits_small (by simpa using h)]; omega
  | succ k ih =>
    by_cases h10 : n < 10
    · rw [Lib.nDigits_small h10]; omega
    · rw [Lib.nDigits_big h10]
      have := ih (n / 10) (by rw [Nat.pow_succ] at h; omega)
      omega
theorem dec_pos (n : Nat) : 1 ≤ (Lib.decDigits n).length := by rw [Lib.decDigits_length]; exact Lib.nDigits_pos n
theorem itoa_len (n : Int) (h1 : -1073741824 ≤ n) (h2 : n ≤ 1073741824) : (Lib.itoa n).length ≤ 11 := by
  unfold Lib.itoa
  split
  · rw [List.length_cons]
    have := dec_len n.natAbs 9 (by omega)
    omega
  · have := dec_len n.toNat 9 (by omega)
    omega

/-- the text of a fraction -/
def rtx (n d : Int) : List UInt8 := if d = 1 then Lib.itoa n else Lib.itoa n ++ 47 :: Lib.itoa d
theorem itoa_any (n : Int) (w : World) (h1 : -1073741824 ≤ n) (h2 : n ≤ 1073741824) (htab : Lib.TabIs Tryd.prog w "internal/strconv.uint64pow10" .u64 Lib.pow10Tab) :
    Calls Tryd.prog 56 #[.int .i64 n] w fun e w' => e = .returned (.string (ba (Lib.itoa n))) ∧ Below w.heap.size w w' :=
  (Tryd.strconv_Itoa n (by omega) (by omega) w htab).mono fun e w' ⟨he, k, os, hw⟩ => ⟨he, hw ▸ Lib.below_grow w.heap.size w (Nat.le_refl _) k os⟩

set_option maxHeartbeats 1000000 in
theorem text_ok (n d : Int) (w : World) (hk : rok n d = true) (htab : Lib.TabIs Tryd.prog w "internal/strconv.uint64pow10" .u64 Lib.pow10Tab) :
    Calls Tryd.prog 39 #[.agg #[.int .i64 n, .int .i64 d]] w fun e w' => e = .returned (.tuple #[.string (ba (rtx n d)), .int .i64 0]) ∧ Below w.heap.size w w' := by
  have C1 := Lib.hid (fun wx => valid_is n d true hk wx)
  have hk := (rok_iff _ _).1 hk
  obtain ⟨k1, k2, k3, k4, -⟩ := hk
  have CN := Lib.hid (fun wx (hb : Below w.heap.size w wx) => itoa_any n wx k1 k2 (Lib.tabBelow_of_tabIs htab wx hb))
  have CD := Lib.hid (fun wx (hb : Below w.heap.size w wx) => itoa_any d wx (by omega) k4 (Lib.tabBelow_of_tabIs htab wx hb))
  have sx : (ba (Lib.itoa n)).size ≤ 11 := by rw [ba_size]; exact itoa_len n k1 k2
  have sy : (ba (Lib.itoa d)).size ≤ 11 := by rw [ba_size]; exact itoa_len d (by omega) k4
  by_cases h1 : d = 1
  · subst h1
    have E : Hid (ba (rtx n 1) = ba (Lib.itoa n)) := rfl
    obtain ⟨R, hR⟩ : ∃ R, R = ba (rtx n 1) := ⟨_, rfl⟩
    rw [← hR] at E ⊢
    obtain ⟨X, hX⟩ : ∃ X, X = ba (Lib.itoa n) := ⟨_, rfl⟩
    rw [← hX] at E CN sx
    clear hR hX CD htab k1 k2 k3 k4
    go_enter Tryd.func39, Tryd.ntmps39
    go_wp2_with fail
    refine (C1.out _).mono ?_
    rintro e w1 ⟨rfl, hb1⟩
    obtain ⟨p0, p1, _, _, _⟩ := (At2.new w (.int .i64 n) (.int .i64 1) 24).keep hb1
    have A := (At2.new w (.int .i64 n) (.int .i64 1) 24).keep hb1
    have HB := Lib.hid (alloc_below hb1)
    clear hb1
    go_wp2_with fail
    refine (CN.out _ HB.out).mono ?_
    rintro e w2 ⟨rfl, hb2⟩
    have HB2 := Lib.hid (bstep HB.out hb2)
    clear p0 p1
    obtain ⟨p0, p1, _, _, _⟩ := A.keep hb2
    clear hb2
    go_wp2_with fail
    go_ret2
    exact ⟨by rw [E.out]; rfl, HB2.out⟩
  · have E : Hid (ba (rtx n d) = ba (Lib.itoa n) ++ (⟨#[47]⟩ ++ ba (Lib.itoa d))) := by
      show ba (rtx n d) = ba (Lib.itoa n) ++ (ba [47] ++ ba (Lib.itoa d))
      rw [ba_app, ba_app]
      unfold rtx
      rw [if_neg h1]; rfl
    have t1 : (d != 1) = true := by rw [bne_iff_ne]; exact h1
    obtain ⟨R, hR⟩ : ∃ R, R = ba (rtx n d) := ⟨_, rfl⟩
    rw [← hR] at E ⊢
    obtain ⟨X, hX⟩ : ∃ X, X = ba (Lib.itoa n) := ⟨_, rfl⟩
    obtain ⟨Y, hY⟩ : ∃ Y, Y = ba (Lib.itoa d) := ⟨_, rfl⟩
    rw [← hX] at E CN sx
    rw [← hY] at E CD sy
    clear hR hX hY htab k1 k2 k3 k4 h1
    go_enter Tryd.func39, Tryd.ntmps39
    go_wp2_with fail
    refine (C1.out _).mono ?_
    rintro e w1 ⟨rfl, hb1⟩
    obtain ⟨p0, p1, _, _, _⟩ := (At2.new w (.int .i64 n) (.int .i64 d) 24).keep hb1
    have A := (At2.new w (.int .i64 n) (.int .i64 d) 24).keep hb1
    have HB := Lib.hid (alloc_below hb1)
    clear hb1
    go_wp2_with fail
    refine (CN.out _ HB.out).mono ?_
    rintro e w2 ⟨rfl, hb2⟩
    have HB2 := Lib.hid (bstep HB.out hb2)
    clear p0 p1
    obtain ⟨p0, p1, _, _, _⟩ := A.keep hb2
    clear hb2
    go_wp2_with fail
    refine (CD.out _ HB2.out).mono ?_
    rintro e w3 ⟨rfl, hb3⟩
    have HB3 := Lib.hid (bstep HB2.out hb3)
    clear p0 p1 hb3
    go_wp2_with fail
    go_ret2
    exact ⟨by rw [E.out]; rfl, HB3.out⟩
theorem text_bad (n d : Int) (w : World) (hk : rok n d = false) :
    Calls Tryd.prog 39 #[.agg #[.int .i64 n, .int .i64 d]] w fun e w' => e = .returned (.tuple #[.string (ba []), .int .i64 1]) ∧ Below w.heap.size w w' := by
  have C1 := Lib.hid (fun wx => valid_is n d false hk wx)
  clear hk
  go_enter Tryd.func39, Tryd.ntmps39
  go_wp2_with fail
  refine (C1.out _).mono ?_
  rintro e w1 ⟨rfl, hb1⟩
  have HB := Lib.hid (alloc_below hb1)
  clear hb1
  go_wp2_with fail
  go_ret2
  exact ⟨rfl, HB.out⟩
end Go.Proofs.YtlcmnfhkicjclaaDoor
