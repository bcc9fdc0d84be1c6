/- Angle: contract of the program's Parse. -/
import Derived.Test.YtgcoddjjkcdfmaaGreatDoorAnM
import Derived.Lib.AtoiErrMem
namespace Go.Proofs.YtgcoddjjkcdfmaaGreatDoor
open Go.RowKit
set_option linter.unusedVariables false
set_option maxRecDepth 100000

def fv (a : Nat) (l : List UInt8) : Nat := l.foldl (fun n c => 10 * n + (c.toNat - 48)) a
theorem fv_cons (a : Nat) (c : UInt8) (l : List UInt8) : fv a (c :: l) = fv (10 * a + (c.toNat - 48)) l := by unfold fv; rw [List.foldl_cons]
theorem fv_ge (l : List UInt8) : ∀ (a : Nat), a ≤ fv a l := by
  induction l with
  | nil => intro a; exact Nat.le_refl _
  | cons c l ih => intro a; rw [fv_cons]; have := ih (10 * a + (c.toNat - 48)); omega
theorem fv_app : ∀ (l m : List UInt8) (a : Nat), fv a (l ++ m) = fv (fv a l) m := by
  intro l m a
  unfold fv
  rw [List.foldl_append]
theorem fv_acc (l : List UInt8) : ∀ (a : Nat), fv a l = a * 10 ^ l.length + fv 0 l := by
  induction l with
  | nil => intro a; simp [fv]
  | cons c l ih =>
    intro a
    rw [fv_cons, fv_cons, ih (10 * a + (c.toNat - 48)), ih (10 * 0 + (c.toNat - 48)), List.length_cons, Nat.pow_succ, Nat.add_mul, Nat.add_mul]
    have : 10 * a * 10 ^ l.length = a * (10 ^ l.length * 10) := by rw [Nat.mul_comm 10 a, Nat.mul_assoc, Nat.mul_comm 10]
    omega
theorem val_fv (l : List UInt8) : val l = fv 0 l := by unfold val fv; exact Eq.refl _
theorem val_app (l m : List UInt8) : val (l ++ m) = val l * 10 ^ m.length + val m := by
  rw [val_fv, val_fv, val_fv, fv_app, fv_acc m (fv 0 l)]
theorem val_lt : ∀ (l : List UInt8), l.all isDig = true → val l < 10 ^ l.length := by
  intro l
  induction l with
  | nil => intro _; decide
  | cons c l ih =>
    intro h
    rw [List.all_cons, Bool.and_eq_true] at h
    have hd := of_decide_eq_true h.1
    have := ih h.2
    have e : val (c :: l) = (c.toNat - 48) * 10 ^ l.length + val l := by
      rw [val_fv, fv_cons, fv_acc]
      rw [show 10 * 0 + (c.toNat - 48) = c.toNat - 48 by omega]
      rfl
    rw [e, List.length_cons, Nat.pow_succ]
    have h9 : (c.toNat - 48) * 10 ^ l.length ≤ 9 * 10 ^ l.length := Nat.mul_le_mul_right _ (by omega)
    omega
theorem parse_fv (l : List UInt8) : ∀ (a : Nat), a < 18446744073709551616 → l.all isDig = true → Lib.parseUint10 a l = if fv a l < 18446744073709551616 then .ok (fv a l) else .range := by
  induction l with
  | nil =>
    intro a h _
    show Lib.NumEnd.ok a = _
    rw [show fv a [] = a from rfl, if_pos h]
  | cons c l ih =>
    intro a h hd
    rw [List.all_cons, Bool.and_eq_true] at hd
    have hc := of_decide_eq_true hd.1
    rw [fv_cons]
    unfold Lib.parseUint10
    rw [if_pos hc, show 10 * a = a * 10 by omega]
    have g := fv_ge l (a * 10 + (c.toNat - 48))
    by_cases h1 : 1844674407370955162 ≤ a
    · rw [if_pos h1, if_neg (by omega)]
    · rw [if_neg h1]
      by_cases h2 : 18446744073709551616 ≤ a * 10 + (c.toNat - 48)
      · rw [if_pos h2, if_neg (by omega)]
      · rw [if_neg h2]
        exact ih _ (by omega) hd.2
theorem atoi_digs (l : List UInt8) (h : dgB l = true) : Lib.atoiAll l = if val l < 9223372036854775808 then .ok (val l : Int) else .range := by
  unfold dgB at h
  rw [Bool.and_eq_true, decide_eq_true_eq] at h
  match l, h with
  | c :: r, h =>
    have hd := h.2
    rw [List.all_cons, Bool.and_eq_true] at hd
    have hc := of_decide_eq_true hd.1
    unfold Lib.atoiAll
    simp only
    rw [if_neg (show ¬ (c.toNat = 43 ∨ c.toNat = 45) by omega)]
    unfold Lib.parseMag
    rw [if_neg (by simp), parse_fv (c :: r) 0 (by omega) h.2, ← val_fv]
    have n45 : ¬ c.toNat = 45 := by omega
    by_cases h1 : val (c :: r) < 18446744073709551616
    · rw [if_pos h1]
      simp only
      by_cases h2 : val (c :: r) < 9223372036854775808
      · rw [if_pos h2, if_neg (by omega), if_neg (by intro k; exact n45 k.1), if_neg n45]
      · rw [if_neg h2, if_pos (by omega)]
    · rw [if_neg h1]
      simp only
      rw [if_neg (by omega)]
theorem atoi_ok (s : ByteArray) (hs : s.size ≤ 1000000) (v : Int) (h : Lib.atoiAll s.data.toList = .ok v) (w : World) :
    Calls Tryz.prog 60 #[.string s] w fun e w' => e = .returned (.tuple #[.int .i64 v, .nilIface]) ∧ Below w.heap.size w w' :=
  (Tryz.strconv_Atoi_ok s (by omega) v h w).mono fun e w' ⟨he, hw⟩ => ⟨he, by
    rcases hw with rfl | ⟨t, rfl⟩
    · exact Below.refl _ _
    · exact Lib.bytesWorld_below _ _ _⟩
theorem atoi_err (s : ByteArray) (hs : s.size ≤ 1000000) (h : Lib.atoiAll s.data.toList = .range) (w : World) (he : HasErr w) :
    Calls Tryz.prog 60 #[.string s] w fun e w' => ∃ v N, e = .returned (.tuple #[.int .i64 v, .iface 111 (.pointer (some ⟨N, 0, none⟩))]) ∧ Below w.heap.size w w' := by
  obtain ⟨ev, h1, h2⟩ := he
  exact (Tryz.strconv_Atoi_range s (by omega) h ev w h1 h2).mono fun e w' ⟨N, he, _, _, hb⟩ => ⟨_, N, he, hb⟩
theorem cut_any (u : List UInt8) (b : UInt8) (X Y : List UInt8) (f : Bool) (hc : Lib.cut u [b] = (X, Y, f)) (hs : u.length ≤ 1000000) (w : World) (hm : HasMax w) :
    Calls Tryz.prog 19 #[.string (ba u), .string ⟨#[b]⟩] w fun e w' => e = .returned (.tuple #[.string (ba X), .string (ba Y), .bool f]) ∧ Below w.heap.size w w' := by
  obtain ⟨m, hm⟩ := hm
  have hz : (ba u).size = u.length := ba_size u
  have C := Tryz.strings_Cut (ba u) ⟨#[b]⟩ m w (by omega) hm
  rw [show (ba u).data.toList = u from rfl, show (⟨#[b]⟩ : ByteArray).data.toList = [b] from rfl, hc] at C
  exact C.mono fun e w' ⟨he, n, hw⟩ => ⟨he, hw ▸ below_drewN _ _ _⟩
theorem prefix_any (s : ByteArray) (w : World) :
    Calls Tryz.prog 56 #[.string s, .string ⟨#[45]⟩] w fun e w' => e = .returned (.tuple #[.string (ba (unP s.data.toList)), .bool (sgP s.data.toList)]) ∧ w' = w := by
  have C := Tryz.strings_CutPrefix s ⟨#[45]⟩ w
  have e1 : Lib.hasPrefix s.data.toList [45] = sgP s.data.toList := by
    generalize s.data.toList = l
    cases l with
    | nil => rfl
    | cons c r =>
      unfold Lib.hasPrefix sgP
      by_cases h : c = 45
      · subst h; rfl
      · rw [List.head?_cons, decide_eq_false (by simpa using h)]
        simp [List.isPrefixOf]
        exact fun k => h k.symm
  have e2 : Lib.trimPrefix s.data.toList [45] = unP s.data.toList := by
    unfold Lib.trimPrefix unP
    rw [e1]
    cases sgP s.data.toList
    · rfl
    · simp
  rw [show (⟨#[45]⟩ : ByteArray).data.toList = [45] from rfl, e1, e2] at C
  exact C
/-- what is asked of the parts of the text -/
structure PpC (w : World) (s U D M W F : ByteArray) (neg q p : Bool) : Prop where
  pre : ∀ wx, Calls Tryz.prog 56 #[.string s, .string ⟨#[45]⟩] wx fun e w' => e = .returned (.tuple #[.string U, .bool neg]) ∧ w' = wx
  c1 : ∀ wx, Below w.heap.size w wx → Calls Tryz.prog 19 #[.string U, .string ⟨#[45]⟩] wx fun e w' => e = .returned (.tuple #[.string D, .string M, .bool q]) ∧ Below wx.heap.size wx w'
  c2 : ∀ wx, Below w.heap.size w wx → Calls Tryz.prog 19 #[.string M, .string ⟨#[46]⟩] wx fun e w' => e = .returned (.tuple #[.string W, .string F, .bool p]) ∧ Below wx.heap.size wx w'

set_option maxHeartbeats 4000000 in
theorem pp_bad1 (s U D M W F : ByteArray) (neg : Bool) (q : Bool) (p : Bool) (w : World) (C : PpC w s U D M W F neg q p) (dg : ∀ wx, Calls Tryz.prog 57 #[.string D] wx fun e w' => e = .returned (.bool false) ∧ w' = wx) :
    Calls Tryz.prog 35 #[.string s] w fun e w' => e = .returned (.tuple #[.int .i64 0, .int .i64 7]) ∧ Below w.heap.size w w' := by
  obtain ⟨pre, c1, c2⟩ := C
  have HB := Lib.hid (Below.refl w.heap.size w)
  have PRE' := Lib.hid pre
  have C1' := Lib.hid c1
  have C2' := Lib.hid c2
  have DG' := Lib.hid dg
  clear pre c1 c2 dg
  go_enter Tryz.func35, Tryz.ntmps35
  go_wp2_with fail
  refine (PRE'.out _).mono ?_
  rintro e w1 ⟨rfl, rfl⟩
  go_wp2_with fail
  refine (C1'.out _ HB.out).mono ?_
  rintro e w2 ⟨rfl, hb⟩
  have HB := Lib.hid (bstep HB.out hb)
  clear hb
  go_wp2_with fail
  refine (C2'.out _ HB.out).mono ?_
  rintro e w3 ⟨rfl, hb⟩
  have HB := Lib.hid (bstep HB.out hb)
  clear hb
  go_wp2_with fail
  refine (DG'.out _).mono ?_
  rintro e w4 ⟨rfl, rfl⟩
  go_wp2_with fail
  go_ret2
  exact ⟨rfl, HB.out⟩

set_option maxHeartbeats 4000000 in
theorem pp_bad2 (s U D M W F : ByteArray) (neg : Bool) (q : Bool) (p : Bool) (w : World) (C : PpC w s U D M W F neg q p) (dg : ∀ wx, Calls Tryz.prog 57 #[.string D] wx fun e w' => e = .returned (.bool true) ∧ w' = wx) (mn : ∀ wx, Calls Tryz.prog 58 #[.string W] wx fun e w' => e = .returned (.bool false) ∧ w' = wx) :
    Calls Tryz.prog 35 #[.string s] w fun e w' => e = .returned (.tuple #[.int .i64 0, .int .i64 7]) ∧ Below w.heap.size w w' := by
  obtain ⟨pre, c1, c2⟩ := C
  have HB := Lib.hid (Below.refl w.heap.size w)
  have PRE' := Lib.hid pre
  have C1' := Lib.hid c1
  have C2' := Lib.hid c2
  have DG' := Lib.hid dg
  have MN' := Lib.hid mn
  clear pre c1 c2 dg mn
  go_enter Tryz.func35, Tryz.ntmps35
  go_wp2_with fail
  refine (PRE'.out _).mono ?_
  rintro e w1 ⟨rfl, rfl⟩
  go_wp2_with fail
  refine (C1'.out _ HB.out).mono ?_
  rintro e w2 ⟨rfl, hb⟩
  have HB := Lib.hid (bstep HB.out hb)
  clear hb
  go_wp2_with fail
  refine (C2'.out _ HB.out).mono ?_
  rintro e w3 ⟨rfl, hb⟩
  have HB := Lib.hid (bstep HB.out hb)
  clear hb
  go_wp2_with fail
  refine (DG'.out _).mono ?_
  rintro e w4 ⟨rfl, rfl⟩
  go_wp2_with fail
  refine (MN'.out _).mono ?_
  rintro e w5 ⟨rfl, rfl⟩
  go_wp2_with fail
  go_ret2
  exact ⟨rfl, HB.out⟩

set_option maxHeartbeats 4000000 in
theorem pp_bad3 (s U D M W F : ByteArray) (neg : Bool) (q : Bool) (w : World) (C : PpC w s U D M W F neg q true) (dg : ∀ wx, Calls Tryz.prog 57 #[.string D] wx fun e w' => e = .returned (.bool true) ∧ w' = wx) (mn : ∀ wx, Calls Tryz.prog 58 #[.string W] wx fun e w' => e = .returned (.bool true) ∧ w' = wx) (fr : ∀ wx, Calls Tryz.prog 59 #[.string F] wx fun e w' => e = .returned (.bool false) ∧ w' = wx) :
    Calls Tryz.prog 35 #[.string s] w fun e w' => e = .returned (.tuple #[.int .i64 0, .int .i64 7]) ∧ Below w.heap.size w w' := by
  obtain ⟨pre, c1, c2⟩ := C
  have HB := Lib.hid (Below.refl w.heap.size w)
  have PRE' := Lib.hid pre
  have C1' := Lib.hid c1
  have C2' := Lib.hid c2
  have DG' := Lib.hid dg
  have MN' := Lib.hid mn
  have FR' := Lib.hid fr
  clear pre c1 c2 dg mn fr
  go_enter Tryz.func35, Tryz.ntmps35
  go_wp2_with fail
  refine (PRE'.out _).mono ?_
  rintro e w1 ⟨rfl, rfl⟩
  go_wp2_with fail
  refine (C1'.out _ HB.out).mono ?_
  rintro e w2 ⟨rfl, hb⟩
  have HB := Lib.hid (bstep HB.out hb)
  clear hb
  go_wp2_with fail
  refine (C2'.out _ HB.out).mono ?_
  rintro e w3 ⟨rfl, hb⟩
  have HB := Lib.hid (bstep HB.out hb)
  clear hb
  go_wp2_with fail
  refine (DG'.out _).mono ?_
  rintro e w4 ⟨rfl, rfl⟩
  go_wp2_with fail
  refine (MN'.out _).mono ?_
  rintro e w5 ⟨rfl, rfl⟩
  go_wp2_with fail
  refine (FR'.out _).mono ?_
  rintro e w6 ⟨rfl, rfl⟩
  go_wp2_with fail
  go_ret2
  exact ⟨rfl, HB.out⟩

set_option maxHeartbeats 4000000 in
theorem pp_errf (s U D M W F : ByteArray) (neg : Bool) (q : Bool) (w : World) (C : PpC w s U D M W F neg q false) (dg : ∀ wx, Calls Tryz.prog 57 #[.string D] wx fun e w' => e = .returned (.bool true) ∧ w' = wx) (mn : ∀ wx, Calls Tryz.prog 58 #[.string W] wx fun e w' => e = .returned (.bool true) ∧ w' = wx) (at' : ∀ wx, Below w.heap.size w wx → Calls Tryz.prog 60 #[.string D] wx fun e w' => ∃ v N, e = .returned (.tuple #[.int .i64 v, .iface 111 (.pointer (some ⟨N, 0, none⟩))]) ∧ Below wx.heap.size wx w') :
    Calls Tryz.prog 35 #[.string s] w fun e w' => e = .returned (.tuple #[.int .i64 0, .int .i64 5]) ∧ Below w.heap.size w w' := by
  obtain ⟨pre, c1, c2⟩ := C
  have HB := Lib.hid (Below.refl w.heap.size w)
  have at1 := at'
  clear at'
  have PRE' := Lib.hid pre
  have C1' := Lib.hid c1
  have C2' := Lib.hid c2
  have DG' := Lib.hid dg
  have MN' := Lib.hid mn
  have AT1' := Lib.hid at1
  clear pre c1 c2 dg mn at1
  go_enter Tryz.func35, Tryz.ntmps35
  go_wp2_with fail
  refine (PRE'.out _).mono ?_
  rintro e w1 ⟨rfl, rfl⟩
  go_wp2_with fail
  refine (C1'.out _ HB.out).mono ?_
  rintro e w2 ⟨rfl, hb⟩
  have HB := Lib.hid (bstep HB.out hb)
  clear hb
  go_wp2_with fail
  refine (C2'.out _ HB.out).mono ?_
  rintro e w3 ⟨rfl, hb⟩
  have HB := Lib.hid (bstep HB.out hb)
  clear hb
  go_wp2_with fail
  refine (DG'.out _).mono ?_
  rintro e w4 ⟨rfl, rfl⟩
  go_wp2_with fail
  refine (MN'.out _).mono ?_
  rintro e w5 ⟨rfl, rfl⟩
  go_wp2_with fail
  refine (AT1'.out _ HB.out).mono ?_
  rintro e w7 ⟨v, N, rfl, hb⟩
  have HB := Lib.hid (bstep HB.out hb)
  clear hb
  go_wp2_with fail
  go_ret2
  exact ⟨rfl, HB.out⟩

set_option maxHeartbeats 4000000 in
theorem pp_bigf (s U D M W F : ByteArray) (neg : Bool) (q : Bool) (w : World) (C : PpC w s U D M W F neg q false) (d : Nat) (hd : 18325193 < d) (dg : ∀ wx, Calls Tryz.prog 57 #[.string D] wx fun e w' => e = .returned (.bool true) ∧ w' = wx) (mn : ∀ wx, Calls Tryz.prog 58 #[.string W] wx fun e w' => e = .returned (.bool true) ∧ w' = wx) (at1 : ∀ wx, Calls Tryz.prog 60 #[.string D] wx fun e w' => e = .returned (.tuple #[.int .i64 (d : Int), .nilIface]) ∧ Below wx.heap.size wx w') :
    Calls Tryz.prog 35 #[.string s] w fun e w' => e = .returned (.tuple #[.int .i64 0, .int .i64 5]) ∧ Below w.heap.size w w' := by
  obtain ⟨pre, c1, c2⟩ := C
  have HB := Lib.hid (Below.refl w.heap.size w)
  have t1 : decide ((d : Int) > 18325193) = true := decide_eq_true (by omega)
  clear hd
  have PRE' := Lib.hid pre
  have C1' := Lib.hid c1
  have C2' := Lib.hid c2
  have DG' := Lib.hid dg
  have MN' := Lib.hid mn
  have AT1' := Lib.hid at1
  clear pre c1 c2 dg mn at1
  go_enter Tryz.func35, Tryz.ntmps35
  go_wp2_with fail
  refine (PRE'.out _).mono ?_
  rintro e w1 ⟨rfl, rfl⟩
  go_wp2_with fail
  refine (C1'.out _ HB.out).mono ?_
  rintro e w2 ⟨rfl, hb⟩
  have HB := Lib.hid (bstep HB.out hb)
  clear hb
  go_wp2_with fail
  refine (C2'.out _ HB.out).mono ?_
  rintro e w3 ⟨rfl, hb⟩
  have HB := Lib.hid (bstep HB.out hb)
  clear hb
  go_wp2_with fail
  refine (DG'.out _).mono ?_
  rintro e w4 ⟨rfl, rfl⟩
  go_wp2_with fail
  refine (MN'.out _).mono ?_
  rintro e w5 ⟨rfl, rfl⟩
  go_wp2_with fail
  refine (AT1'.out _).mono ?_
  rintro e w7 ⟨rfl, hb⟩
  have HB := Lib.hid (bstep HB.out hb)
  clear hb
  go_wp2_with fail
  go_ret2
  exact ⟨rfl, HB.out⟩

set_option maxHeartbeats 4000000 in
theorem pp_fft (s U D M W F : ByteArray) (q : Bool) (w : World) (C : PpC w s U D M W F false q false) (d T N c : Nat) (Z : ByteArray) (hd : d ≤ 18325193) (hT : T ≤ 99999) (hN : d * 60000 + T = N) (hc : F.size + c = 3) (hz : Z.size ≤ 3) (hw : W.size ≤ 3) (dg : ∀ wx, Calls Tryz.prog 57 #[.string D] wx fun e w' => e = .returned (.bool true) ∧ w' = wx) (mn : ∀ wx, Calls Tryz.prog 58 #[.string W] wx fun e w' => e = .returned (.bool true) ∧ w' = wx) (at1 : ∀ wx, Calls Tryz.prog 60 #[.string D] wx fun e w' => e = .returned (.tuple #[.int .i64 (d : Int), .nilIface]) ∧ Below wx.heap.size wx w') (rp : ∀ wx, Calls Tryz.prog 61 #[.string ⟨#[48]⟩, .int .i64 (c : Int)] wx fun e w' => e = .returned (.string Z) ∧ Below wx.heap.size wx w') (at2 : ∀ wx, Calls Tryz.prog 60 #[.string (W ++ F ++ Z)] wx fun e w' => e = .returned (.tuple #[.int .i64 (T : Int), .nilIface]) ∧ Below wx.heap.size wx w') (hin : inA (N : Int) = true) :
    Calls Tryz.prog 35 #[.string s] w fun e w' => e = .returned (.tuple #[.int .i64 (N : Int), .int .i64 0]) ∧ Below w.heap.size w w' := by
  obtain ⟨pre, c1, c2⟩ := C
  have HB := Lib.hid (Below.refl w.heap.size w)
  have t1 : decide ((d : Int) > 18325193) = false := decide_eq_false (by omega)
  have cf := Lib.hid (fun wx => pFits (N : Int) wx)
  rw [hin] at cf
  have hs : (3 : Int) - (F.size : Int) = (c : Int) := by omega
  have hf : F.size ≤ 3 := by omega
  have hp : (d : Int) * 60000 + (T : Int) = (N : Int) := by omega
  have hn : N ≤ 1100000000000 := by omega
  clear hc hN hin
  have PRE' := Lib.hid pre
  have C1' := Lib.hid c1
  have C2' := Lib.hid c2
  have DG' := Lib.hid dg
  have MN' := Lib.hid mn
  have AT1' := Lib.hid at1
  have RP' := Lib.hid rp
  have AT2' := Lib.hid at2
  clear pre c1 c2 dg mn at1 rp at2
  go_enter Tryz.func35, Tryz.ntmps35
  go_wp2_with fail
  refine (PRE'.out _).mono ?_
  rintro e w1 ⟨rfl, rfl⟩
  go_wp2_with fail
  refine (C1'.out _ HB.out).mono ?_
  rintro e w2 ⟨rfl, hb⟩
  have HB := Lib.hid (bstep HB.out hb)
  clear hb
  go_wp2_with fail
  refine (C2'.out _ HB.out).mono ?_
  rintro e w3 ⟨rfl, hb⟩
  have HB := Lib.hid (bstep HB.out hb)
  clear hb
  go_wp2_with fail
  refine (DG'.out _).mono ?_
  rintro e w4 ⟨rfl, rfl⟩
  go_wp2_with fail
  refine (MN'.out _).mono ?_
  rintro e w5 ⟨rfl, rfl⟩
  go_wp2_with fail
  refine (AT1'.out _).mono ?_
  rintro e w7 ⟨rfl, hb⟩
  have HB := Lib.hid (bstep HB.out hb)
  clear hb
  go_wp2_with fail
  refine (RP'.out _).mono ?_
  rintro e w8 ⟨rfl, hb⟩
  have HB := Lib.hid (bstep HB.out hb)
  clear hb
  go_wp2_with fail
  refine (AT2'.out _).mono ?_
  rintro e w9 ⟨rfl, hb⟩
  have HB := Lib.hid (bstep HB.out hb)
  clear hb
  go_wp2_with fail
  refine (cf.out _).mono ?_
  rintro e w10 ⟨rfl, rfl⟩
  go_wp2_with fail
  go_ret2
  exact ⟨rfl, HB.out⟩

set_option maxHeartbeats 4000000 in
theorem pp_fff (s U D M W F : ByteArray) (q : Bool) (w : World) (C : PpC w s U D M W F false q false) (d T N c : Nat) (Z : ByteArray) (hd : d ≤ 18325193) (hT : T ≤ 99999) (hN : d * 60000 + T = N) (hc : F.size + c = 3) (hz : Z.size ≤ 3) (hw : W.size ≤ 3) (dg : ∀ wx, Calls Tryz.prog 57 #[.string D] wx fun e w' => e = .returned (.bool true) ∧ w' = wx) (mn : ∀ wx, Calls Tryz.prog 58 #[.string W] wx fun e w' => e = .returned (.bool true) ∧ w' = wx) (at1 : ∀ wx, Calls Tryz.prog 60 #[.string D] wx fun e w' => e = .returned (.tuple #[.int .i64 (d : Int), .nilIface]) ∧ Below wx.heap.size wx w') (rp : ∀ wx, Calls Tryz.prog 61 #[.string ⟨#[48]⟩, .int .i64 (c : Int)] wx fun e w' => e = .returned (.string Z) ∧ Below wx.heap.size wx w') (at2 : ∀ wx, Calls Tryz.prog 60 #[.string (W ++ F ++ Z)] wx fun e w' => e = .returned (.tuple #[.int .i64 (T : Int), .nilIface]) ∧ Below wx.heap.size wx w') (hin : inA (N : Int) = false) :
    Calls Tryz.prog 35 #[.string s] w fun e w' => e = .returned (.tuple #[.int .i64 0, .int .i64 5]) ∧ Below w.heap.size w w' := by
  obtain ⟨pre, c1, c2⟩ := C
  have HB := Lib.hid (Below.refl w.heap.size w)
  have t1 : decide ((d : Int) > 18325193) = false := decide_eq_false (by omega)
  have cf := Lib.hid (fun wx => pFits (N : Int) wx)
  rw [hin] at cf
  have hs : (3 : Int) - (F.size : Int) = (c : Int) := by omega
  have hf : F.size ≤ 3 := by omega
  have hp : (d : Int) * 60000 + (T : Int) = (N : Int) := by omega
  have hn : N ≤ 1100000000000 := by omega
  clear hc hN hin
  have PRE' := Lib.hid pre
  have C1' := Lib.hid c1
  have C2' := Lib.hid c2
  have DG' := Lib.hid dg
  have MN' := Lib.hid mn
  have AT1' := Lib.hid at1
  have RP' := Lib.hid rp
  have AT2' := Lib.hid at2
  clear pre c1 c2 dg mn at1 rp at2
  go_enter Tryz.func35, Tryz.ntmps35
  go_wp2_with fail
  refine (PRE'.out _).mono ?_
  rintro e w1 ⟨rfl, rfl⟩
  go_wp2_with fail
  refine (C1'.out _ HB.out).mono ?_
  rintro e w2 ⟨rfl, hb⟩
  have HB := Lib.hid (bstep HB.out hb)
  clear hb
  go_wp2_with fail
  refine (C2'.out _ HB.out).mono ?_
  rintro e w3 ⟨rfl, hb⟩
  have HB := Lib.hid (bstep HB.out hb)
  clear hb
  go_wp2_with fail
  refine (DG'.out _).mono ?_
  rintro e w4 ⟨rfl, rfl⟩
  go_wp2_with fail
  refine (MN'.out _).mono ?_
  rintro e w5 ⟨rfl, rfl⟩
  go_wp2_with fail
  refine (AT1'.out _).mono ?_
  rintro e w7 ⟨rfl, hb⟩
  have HB := Lib.hid (bstep HB.out hb)
  clear hb
  go_wp2_with fail
  refine (RP'.out _).mono ?_
  rintro e w8 ⟨rfl, hb⟩
  have HB := Lib.hid (bstep HB.out hb)
  clear hb
  go_wp2_with fail
  refine (AT2'.out _).mono ?_
  rintro e w9 ⟨rfl, hb⟩
  have HB := Lib.hid (bstep HB.out hb)
  clear hb
  go_wp2_with fail
  refine (cf.out _).mono ?_
  rintro e w10 ⟨rfl, rfl⟩
  go_wp2_with fail
  go_ret2
  exact ⟨rfl, HB.out⟩

set_option maxHeartbeats 4000000 in
theorem pp_ftt (s U D M W F : ByteArray) (q : Bool) (w : World) (C : PpC w s U D M W F true q false) (d T N c : Nat) (Z : ByteArray) (hd : d ≤ 18325193) (hT : T ≤ 99999) (hN : d * 60000 + T = N) (hc : F.size + c = 3) (hz : Z.size ≤ 3) (hw : W.size ≤ 3) (dg : ∀ wx, Calls Tryz.prog 57 #[.string D] wx fun e w' => e = .returned (.bool true) ∧ w' = wx) (mn : ∀ wx, Calls Tryz.prog 58 #[.string W] wx fun e w' => e = .returned (.bool true) ∧ w' = wx) (at1 : ∀ wx, Calls Tryz.prog 60 #[.string D] wx fun e w' => e = .returned (.tuple #[.int .i64 (d : Int), .nilIface]) ∧ Below wx.heap.size wx w') (rp : ∀ wx, Calls Tryz.prog 61 #[.string ⟨#[48]⟩, .int .i64 (c : Int)] wx fun e w' => e = .returned (.string Z) ∧ Below wx.heap.size wx w') (at2 : ∀ wx, Calls Tryz.prog 60 #[.string (W ++ F ++ Z)] wx fun e w' => e = .returned (.tuple #[.int .i64 (T : Int), .nilIface]) ∧ Below wx.heap.size wx w') (hin : inA (-(N : Int)) = true) :
    Calls Tryz.prog 35 #[.string s] w fun e w' => e = .returned (.tuple #[.int .i64 (-(N : Int)), .int .i64 0]) ∧ Below w.heap.size w w' := by
  obtain ⟨pre, c1, c2⟩ := C
  have HB := Lib.hid (Below.refl w.heap.size w)
  have t1 : decide ((d : Int) > 18325193) = false := decide_eq_false (by omega)
  have cf := Lib.hid (fun wx => pFits (-(N : Int)) wx)
  rw [hin] at cf
  have hs : (3 : Int) - (F.size : Int) = (c : Int) := by omega
  have hf : F.size ≤ 3 := by omega
  have hp : (d : Int) * 60000 + (T : Int) = (N : Int) := by omega
  have hn : N ≤ 1100000000000 := by omega
  clear hc hN hin
  have PRE' := Lib.hid pre
  have C1' := Lib.hid c1
  have C2' := Lib.hid c2
  have DG' := Lib.hid dg
  have MN' := Lib.hid mn
  have AT1' := Lib.hid at1
  have RP' := Lib.hid rp
  have AT2' := Lib.hid at2
  clear pre c1 c2 dg mn at1 rp at2
  go_enter Tryz.func35, Tryz.ntmps35
  go_wp2_with fail
  refine (PRE'.out _).mono ?_
  rintro e w1 ⟨rfl, rfl⟩
  go_wp2_with fail
  refine (C1'.out _ HB.out).mono ?_
  rintro e w2 ⟨rfl, hb⟩
  have HB := Lib.hid (bstep HB.out hb)
  clear hb
  go_wp2_with fail
  refine (C2'.out _ HB.out).mono ?_
  rintro e w3 ⟨rfl, hb⟩
  have HB := Lib.hid (bstep HB.out hb)
  clear hb
  go_wp2_with fail
  refine (DG'.out _).mono ?_
  rintro e w4 ⟨rfl, rfl⟩
  go_wp2_with fail
  refine (MN'.out _).mono ?_
  rintro e w5 ⟨rfl, rfl⟩
  go_wp2_with fail
  refine (AT1'.out _).mono ?_
  rintro e w7 ⟨rfl, hb⟩
  have HB := Lib.hid (bstep HB.out hb)
  clear hb
  go_wp2_with fail
  refine (RP'.out _).mono ?_
  rintro e w8 ⟨rfl, hb⟩
  have HB := Lib.hid (bstep HB.out hb)
  clear hb
  go_wp2_with fail
  refine (AT2'.out _).mono ?_
  rintro e w9 ⟨rfl, hb⟩
  have HB := Lib.hid (bstep HB.out hb)
  clear hb
  go_wp2_with fail
  refine (cf.out _).mono ?_
  rintro e w10 ⟨rfl, rfl⟩
  go_wp2_with fail
  go_ret2
  exact ⟨rfl, HB.out⟩

set_option maxHeartbeats 4000000 in
theorem pp_ftf (s U D M W F : ByteArray) (q : Bool) (w : World) (C : PpC w s U D M W F true q false) (d T N c : Nat) (Z : ByteArray) (hd : d ≤ 18325193) (hT : T ≤ 99999) (hN : d * 60000 + T = N) (hc : F.size + c = 3) (hz : Z.size ≤ 3) (hw : W.size ≤ 3) (dg : ∀ wx, Calls Tryz.prog 57 #[.string D] wx fun e w' => e = .returned (.bool true) ∧ w' = wx) (mn : ∀ wx, Calls Tryz.prog 58 #[.string W] wx fun e w' => e = .returned (.bool true) ∧ w' = wx) (at1 : ∀ wx, Calls Tryz.prog 60 #[.string D] wx fun e w' => e = .returned (.tuple #[.int .i64 (d : Int), .nilIface]) ∧ Below wx.heap.size wx w') (rp : ∀ wx, Calls Tryz.prog 61 #[.string ⟨#[48]⟩, .int .i64 (c : Int)] wx fun e w' => e = .returned (.string Z) ∧ Below wx.heap.size wx w') (at2 : ∀ wx, Calls Tryz.prog 60 #[.string (W ++ F ++ Z)] wx fun e w' => e = .returned (.tuple #[.int .i64 (T : Int), .nilIface]) ∧ Below wx.heap.size wx w') (hin : inA (-(N : Int)) = false) :
    Calls Tryz.prog 35 #[.string s] w fun e w' => e = .returned (.tuple #[.int .i64 0, .int .i64 5]) ∧ Below w.heap.size w w' := by
  obtain ⟨pre, c1, c2⟩ := C
  have HB := Lib.hid (Below.refl w.heap.size w)
  have t1 : decide ((d : Int) > 18325193) = false := decide_eq_false (by omega)
  have cf := Lib.hid (fun wx => pFits (-(N : Int)) wx)
  rw [hin] at cf
  have hs : (3 : Int) - (F.size : Int) = (c : Int) := by omega
  have hf : F.size ≤ 3 := by omega
  have hp : (d : Int) * 60000 + (T : Int) = (N : Int) := by omega
  have hn : N ≤ 1100000000000 := by omega
  clear hc hN hin
  have PRE' := Lib.hid pre
  have C1' := Lib.hid c1
  have C2' := Lib.hid c2
  have DG' := Lib.hid dg
  have MN' := Lib.hid mn
  have AT1' := Lib.hid at1
  have RP' := Lib.hid rp
  have AT2' := Lib.hid at2
  clear pre c1 c2 dg mn at1 rp at2
  go_enter Tryz.func35, Tryz.ntmps35
  go_wp2_with fail
  refine (PRE'.out _).mono ?_
  rintro e w1 ⟨rfl, rfl⟩
  go_wp2_with fail
  refine (C1'.out _ HB.out).mono ?_
  rintro e w2 ⟨rfl, hb⟩
  have HB := Lib.hid (bstep HB.out hb)
  clear hb
  go_wp2_with fail
  refine (C2'.out _ HB.out).mono ?_
  rintro e w3 ⟨rfl, hb⟩
  have HB := Lib.hid (bstep HB.out hb)
  clear hb
  go_wp2_with fail
  refine (DG'.out _).mono ?_
  rintro e w4 ⟨rfl, rfl⟩
  go_wp2_with fail
  refine (MN'.out _).mono ?_
  rintro e w5 ⟨rfl, rfl⟩
  go_wp2_with fail
  refine (AT1'.out _).mono ?_
  rintro e w7 ⟨rfl, hb⟩
  have HB := Lib.hid (bstep HB.out hb)
  clear hb
  go_wp2_with fail
  refine (RP'.out _).mono ?_
  rintro e w8 ⟨rfl, hb⟩
  have HB := Lib.hid (bstep HB.out hb)
  clear hb
  go_wp2_with fail
  refine (AT2'.out _).mono ?_
  rintro e w9 ⟨rfl, hb⟩
  have HB := Lib.hid (bstep HB.out hb)
  clear hb
  go_wp2_with fail
  refine (cf.out _).mono ?_
  rintro e w10 ⟨rfl, rfl⟩
  go_wp2_with fail
  go_ret2
  exact ⟨rfl, HB.out⟩

set_option maxHeartbeats 4000000 in
theorem pp_errt (s U D M W F : ByteArray) (neg : Bool) (q : Bool) (w : World) (C : PpC w s U D M W F neg q true) (dg : ∀ wx, Calls Tryz.prog 57 #[.string D] wx fun e w' => e = .returned (.bool true) ∧ w' = wx) (mn : ∀ wx, Calls Tryz.prog 58 #[.string W] wx fun e w' => e = .returned (.bool true) ∧ w' = wx) (fr : ∀ wx, Calls Tryz.prog 59 #[.string F] wx fun e w' => e = .returned (.bool true) ∧ w' = wx) (at' : ∀ wx, Below w.heap.size w wx → Calls Tryz.prog 60 #[.string D] wx fun e w' => ∃ v N, e = .returned (.tuple #[.int .i64 v, .iface 111 (.pointer (some ⟨N, 0, none⟩))]) ∧ Below wx.heap.size wx w') :
    Calls Tryz.prog 35 #[.string s] w fun e w' => e = .returned (.tuple #[.int .i64 0, .int .i64 5]) ∧ Below w.heap.size w w' := by
  obtain ⟨pre, c1, c2⟩ := C
  have HB := Lib.hid (Below.refl w.heap.size w)
  have at1 := at'
  clear at'
  have PRE' := Lib.hid pre
  have C1' := Lib.hid c1
  have C2' := Lib.hid c2
  have DG' := Lib.hid dg
  have MN' := Lib.hid mn
  have FR' := Lib.hid fr
  have AT1' := Lib.hid at1
  clear pre c1 c2 dg mn fr at1
  go_enter Tryz.func35, Tryz.ntmps35
  go_wp2_with fail
  refine (PRE'.out _).mono ?_
  rintro e w1 ⟨rfl, rfl⟩
  go_wp2_with fail
  refine (C1'.out _ HB.out).mono ?_
  rintro e w2 ⟨rfl, hb⟩
  have HB := Lib.hid (bstep HB.out hb)
  clear hb
  go_wp2_with fail
  refine (C2'.out _ HB.out).mono ?_
  rintro e w3 ⟨rfl, hb⟩
  have HB := Lib.hid (bstep HB.out hb)
  clear hb
  go_wp2_with fail
  refine (DG'.out _).mono ?_
  rintro e w4 ⟨rfl, rfl⟩
  go_wp2_with fail
  refine (MN'.out _).mono ?_
  rintro e w5 ⟨rfl, rfl⟩
  go_wp2_with fail
  refine (FR'.out _).mono ?_
  rintro e w6 ⟨rfl, rfl⟩
  go_wp2_with fail
  refine (AT1'.out _ HB.out).mono ?_
  rintro e w7 ⟨v, N, rfl, hb⟩
  have HB := Lib.hid (bstep HB.out hb)
  clear hb
  go_wp2_with fail
  go_ret2
  exact ⟨rfl, HB.out⟩

set_option maxHeartbeats 4000000 in
theorem pp_bigt (s U D M W F : ByteArray) (neg : Bool) (q : Bool) (w : World) (C : PpC w s U D M W F neg q true) (d : Nat) (hd : 18325193 < d) (dg : ∀ wx, Calls Tryz.prog 57 #[.string D] wx fun e w' => e = .returned (.bool true) ∧ w' = wx) (mn : ∀ wx, Calls Tryz.prog 58 #[.string W] wx fun e w' => e = .returned (.bool true) ∧ w' = wx) (fr : ∀ wx, Calls Tryz.prog 59 #[.string F] wx fun e w' => e = .returned (.bool true) ∧ w' = wx) (at1 : ∀ wx, Calls Tryz.prog 60 #[.string D] wx fun e w' => e = .returned (.tuple #[.int .i64 (d : Int), .nilIface]) ∧ Below wx.heap.size wx w') :
    Calls Tryz.prog 35 #[.string s] w fun e w' => e = .returned (.tuple #[.int .i64 0, .int .i64 5]) ∧ Below w.heap.size w w' := by
  obtain ⟨pre, c1, c2⟩ := C
  have HB := Lib.hid (Below.refl w.heap.size w)
  have t1 : decide ((d : Int) > 18325193) = true := decide_eq_true (by omega)
  clear hd
  have PRE' := Lib.hid pre
  have C1' := Lib.hid c1
  have C2' := Lib.hid c2
  have DG' := Lib.hid dg
  have MN' := Lib.hid mn
  have FR' := Lib.hid fr
  have AT1' := Lib.hid at1
  clear pre c1 c2 dg mn fr at1
  go_enter Tryz.func35, Tryz.ntmps35
  go_wp2_with fail
  refine (PRE'.out _).mono ?_
  rintro e w1 ⟨rfl, rfl⟩
  go_wp2_with fail
  refine (C1'.out _ HB.out).mono ?_
  rintro e w2 ⟨rfl, hb⟩
  have HB := Lib.hid (bstep HB.out hb)
  clear hb
  go_wp2_with fail
  refine (C2'.out _ HB.out).mono ?_
  rintro e w3 ⟨rfl, hb⟩
  have HB := Lib.hid (bstep HB.out hb)
  clear hb
  go_wp2_with fail
  refine (DG'.out _).mono ?_
  rintro e w4 ⟨rfl, rfl⟩
  go_wp2_with fail
  refine (MN'.out _).mono ?_
  rintro e w5 ⟨rfl, rfl⟩
  go_wp2_with fail
  refine (FR'.out _).mono ?_
  rintro e w6 ⟨rfl, rfl⟩
  go_wp2_with fail
  refine (AT1'.out _).mono ?_
  rintro e w7 ⟨rfl, hb⟩
  have HB := Lib.hid (bstep HB.out hb)
  clear hb
  go_wp2_with fail
  go_ret2
  exact ⟨rfl, HB.out⟩

set_option maxHeartbeats 4000000 in
theorem pp_tft (s U D M W F : ByteArray) (q : Bool) (w : World) (C : PpC w s U D M W F false q true) (d T N c : Nat) (Z : ByteArray) (hd : d ≤ 18325193) (hT : T ≤ 99999) (hN : d * 60000 + T = N) (hc : F.size + c = 3) (hz : Z.size ≤ 3) (hw : W.size ≤ 3) (dg : ∀ wx, Calls Tryz.prog 57 #[.string D] wx fun e w' => e = .returned (.bool true) ∧ w' = wx) (mn : ∀ wx, Calls Tryz.prog 58 #[.string W] wx fun e w' => e = .returned (.bool true) ∧ w' = wx) (fr : ∀ wx, Calls Tryz.prog 59 #[.string F] wx fun e w' => e = .returned (.bool true) ∧ w' = wx) (at1 : ∀ wx, Calls Tryz.prog 60 #[.string D] wx fun e w' => e = .returned (.tuple #[.int .i64 (d : Int), .nilIface]) ∧ Below wx.heap.size wx w') (rp : ∀ wx, Calls Tryz.prog 61 #[.string ⟨#[48]⟩, .int .i64 (c : Int)] wx fun e w' => e = .returned (.string Z) ∧ Below wx.heap.size wx w') (at2 : ∀ wx, Calls Tryz.prog 60 #[.string (W ++ F ++ Z)] wx fun e w' => e = .returned (.tuple #[.int .i64 (T : Int), .nilIface]) ∧ Below wx.heap.size wx w') (hin : inA (N : Int) = true) :
    Calls Tryz.prog 35 #[.string s] w fun e w' => e = .returned (.tuple #[.int .i64 (N : Int), .int .i64 0]) ∧ Below w.heap.size w w' := by
  obtain ⟨pre, c1, c2⟩ := C
  have HB := Lib.hid (Below.refl w.heap.size w)
  have t1 : decide ((d : Int) > 18325193) = false := decide_eq_false (by omega)
  have cf := Lib.hid (fun wx => pFits (N : Int) wx)
  rw [hin] at cf
  have hs : (3 : Int) - (F.size : Int) = (c : Int) := by omega
  have hf : F.size ≤ 3 := by omega
  have hp : (d : Int) * 60000 + (T : Int) = (N : Int) := by omega
  have hn : N ≤ 1100000000000 := by omega
  clear hc hN hin
  have PRE' := Lib.hid pre
  have C1' := Lib.hid c1
  have C2' := Lib.hid c2
  have DG' := Lib.hid dg
  have MN' := Lib.hid mn
  have FR' := Lib.hid fr
  have AT1' := Lib.hid at1
  have RP' := Lib.hid rp
  have AT2' := Lib.hid at2
  clear pre c1 c2 dg mn fr at1 rp at2
  go_enter Tryz.func35, Tryz.ntmps35
  go_wp2_with fail
  refine (PRE'.out _).mono ?_
  rintro e w1 ⟨rfl, rfl⟩
  go_wp2_with fail
  refine (C1'.out _ HB.out).mono ?_
  rintro e w2 ⟨rfl, hb⟩
  have HB := Lib.hid (bstep HB.out hb)
  clear hb
  go_wp2_with fail
  refine (C2'.out _ HB.out).mono ?_
  rintro e w3 ⟨rfl, hb⟩
  have HB := Lib.hid (bstep HB.out hb)
  clear hb
  go_wp2_with fail
  refine (DG'.out _).mono ?_
  rintro e w4 ⟨rfl, rfl⟩
  go_wp2_with fail
  refine (MN'.out _).mono ?_
  rintro e w5 ⟨rfl, rfl⟩
  go_wp2_with fail
  refine (FR'.out _).mono ?_
  rintro e w6 ⟨rfl, rfl⟩
  go_wp2_with fail
  refine (AT1'.out _).mono ?_
  rintro e w7 ⟨rfl, hb⟩
  have HB := Lib.hid (bstep HB.out hb)
  clear hb
  go_wp2_with fail
  refine (RP'.out _).mono ?_
  rintro e w8 ⟨rfl, hb⟩
  have HB := Lib.hid (bstep HB.out hb)
  clear hb
  go_wp2_with fail
  refine (AT2'.out _).mono ?_
  rintro e w9 ⟨rfl, hb⟩
  have HB := Lib.hid (bstep HB.out hb)
  clear hb
  go_wp2_with fail
  refine (cf.out _).mono ?_
  rintro e w10 ⟨rfl, rfl⟩
  go_wp2_with fail
  go_ret2
  exact ⟨rfl, HB.out⟩

set_option maxHeartbeats 4000000 in
theorem pp_tff (s U D M W F : ByteArray) (q : Bool) (w : World) (C : PpC w s U D M W F false q true) (d T N c : Nat) (Z : ByteArray) (hd : d ≤ 18325193) (hT : T ≤ 99999) (hN : d * 60000 + T = N) (hc : F.size + c = 3) (hz : Z.size ≤ 3) (hw : W.size ≤ 3) (dg : ∀ wx, Calls Tryz.prog 57 #[.string D] wx fun e w' => e = .returned (.bool true) ∧ w' = wx) (mn : ∀ wx, Calls Tryz.prog 58 #[.string W] wx fun e w' => e = .returned (.bool true) ∧ w' = wx) (fr : ∀ wx, Calls Tryz.prog 59 #[.string F] wx fun e w' => e = .returned (.bool true) ∧ w' = wx) (at1 : ∀ wx, Calls Tryz.prog 60 #[.string D] wx fun e w' => e = .returned (.tuple #[.int .i64 (d : Int), .nilIface]) ∧ Below wx.heap.size wx w') (rp : ∀ wx, Calls Tryz.prog 61 #[.string ⟨#[48]⟩, .int .i64 (c : Int)] wx fun e w' => e = .returned (.string Z) ∧ Below wx.heap.size wx w') (at2 : ∀ wx, Calls Tryz.prog 60 #[.string (W ++ F ++ Z)] wx fun e w' => e = .returned (.tuple #[.int .i64 (T : Int), .nilIface]) ∧ Below wx.heap.size wx w') (hin : inA (N : Int) = false) :
    Calls Tryz.prog 35 #[.string s] w fun e w' => e = .returned (.tuple #[.int .i64 0, .int .i64 5]) ∧ Below w.heap.size w w' := by
  obtain ⟨pre, c1, c2⟩ := C
  have HB := Lib.hid (Below.refl w.heap.size w)
  have t1 : decide ((d : Int) > 18325193) = false := decide_eq_false (by omega)
  have cf := Lib.hid (fun wx => pFits (N : Int) wx)
  rw [hin] at cf
  have hs : (3 : Int) - (F.size : Int) = (c : Int) := by omega
  have hf : F.size ≤ 3 := by omega
  have hp : (d : Int) * 60000 + (T : Int) = (N : Int) := by omega
  have hn : N ≤ 1100000000000 := by omega
  clear hc hN hin
  have PRE' := Lib.hid pre
  have C1' := Lib.hid c1
  have C2' := Lib.hid c2
  have DG' := Lib.hid dg
  have MN' := Lib.hid mn
  have FR' := Lib.hid fr
  have AT1' := Lib.hid at1
  have RP' := Lib.hid rp
  have AT2' := Lib.hid at2
  clear pre c1 c2 dg mn fr at1 rp at2
  go_enter Tryz.func35, Tryz.ntmps35
  go_wp2_with fail
  refine (PRE'.out _).mono ?_
  rintro e w1 ⟨rfl, rfl⟩
  go_wp2_with fail
  refine (C1'.out _ HB.out).mono ?_
  rintro e w2 ⟨rfl, hb⟩
  have HB := Lib.hid (bstep HB.out hb)
  clear hb
  go_wp2_with fail
  refine (C2'.out _ HB.out).mono ?_
  rintro e w3 ⟨rfl, hb⟩
  have HB := Lib.hid (bstep HB.out hb)
  clear hb
  go_wp2_with fail
  refine (DG'.out _).mono ?_
  rintro e w4 ⟨rfl, rfl⟩
  go_wp2_with fail
  refine (MN'.out _).mono ?_
  rintro e w5 ⟨rfl, rfl⟩
  go_wp2_with fail
  refine (FR'.out _).mono ?_
  rintro e w6 ⟨rfl, rfl⟩
  go_wp2_with fail
  refine (AT1'.out _).mono ?_
  rintro e w7 ⟨rfl, hb⟩
  have HB := Lib.hid (bstep HB.out hb)
  clear hb
  go_wp2_with fail
  refine (RP'.out _).mono ?_
  rintro e w8 ⟨rfl, hb⟩
  have HB := Lib.hid (bstep HB.out hb)
  clear hb
  go_wp2_with fail
  refine (AT2'.out _).mono ?_
  rintro e w9 ⟨rfl, hb⟩
  have HB := Lib.hid (bstep HB.out hb)
  clear hb
  go_wp2_with fail
  refine (cf.out _).mono ?_
  rintro e w10 ⟨rfl, rfl⟩
  go_wp2_with fail
  go_ret2
  exact ⟨rfl, HB.out⟩

set_option maxHeartbeats 4000000 in
theorem pp_ttt (s U D M W F : ByteArray) (q : Bool) (w : World) (C : PpC w s U D M W F true q true) (d T N c : Nat) (Z : ByteArray) (hd : d ≤ 18325193) (hT : T ≤ 99999) (hN : d * 60000 + T = N) (hc : F.size + c = 3) (hz : Z.size ≤ 3) (hw : W.size ≤ 3) (dg : ∀ wx, Calls Tryz.prog 57 #[.string D] wx fun e w' => e = .returned (.bool true) ∧ w' = wx) (mn : ∀ wx, Calls Tryz.prog 58 #[.string W] wx fun e w' => e = .returned (.bool true) ∧ w' = wx) (fr : ∀ wx, Calls Tryz.prog 59 #[.string F] wx fun e w' => e = .returned (.bool true) ∧ w' = wx) (at1 : ∀ wx, Calls Tryz.prog 60 #[.string D] wx fun e w' => e = .returned (.tuple #[.int .i64 (d : Int), .nilIface]) ∧ Below wx.heap.size wx w') (rp : ∀ wx, Calls Tryz.prog 61 #[.string ⟨#[48]⟩, .int .i64 (c : Int)] wx fun e w' => e = .returned (.string Z) ∧ Below wx.heap.size wx w') (at2 : ∀ wx, Calls Tryz.prog 60 #[.string (W ++ F ++ Z)] wx fun e w' => e = .returned (.tuple #[.int .i64 (T : Int), .nilIface]) ∧ Below wx.heap.size wx w') (hin : inA (-(N : Int)) = true) :
    Calls Tryz.prog 35 #[.string s] w fun e w' => e = .returned (.tuple #[.int .i64 (-(N : Int)), .int .i64 0]) ∧ Below w.heap.size w w' := by
  obtain ⟨pre, c1, c2⟩ := C
  have HB := Lib.hid (Below.refl w.heap.size w)
  have t1 : decide ((d : Int) > 18325193) = false := decide_eq_false (by omega)
  have cf := Lib.hid (fun wx => pFits (-(N : Int)) wx)
  rw [hin] at cf
  have hs : (3 : Int) - (F.size : Int) = (c : Int) := by omega
  have hf : F.size ≤ 3 := by omega
  have hp : (d : Int) * 60000 + (T : Int) = (N : Int) := by omega
  have hn : N ≤ 1100000000000 := by omega
  clear hc hN hin
  have PRE' := Lib.hid pre
  have C1' := Lib.hid c1
  have C2' := Lib.hid c2
  have DG' := Lib.hid dg
  have MN' := Lib.hid mn
  have FR' := Lib.hid fr
  have AT1' := Lib.hid at1
  have RP' := Lib.hid rp
  have AT2' := Lib.hid at2
  clear pre c1 c2 dg mn fr at1 rp at2
  go_enter Tryz.func35, Tryz.ntmps35
  go_wp2_with fail
  refine (PRE'.out _).mono ?_
  rintro e w1 ⟨rfl, rfl⟩
  go_wp2_with fail
  refine (C1'.out _ HB.out).mono ?_
  rintro e w2 ⟨rfl, hb⟩
  have HB := Lib.hid (bstep HB.out hb)
  clear hb
  go_wp2_with fail
  refine (C2'.out _ HB.out).mono ?_
  rintro e w3 ⟨rfl, hb⟩
  have HB := Lib.hid (bstep HB.out hb)
  clear hb
  go_wp2_with fail
  refine (DG'.out _).mono ?_
  rintro e w4 ⟨rfl, rfl⟩
  go_wp2_with fail
  refine (MN'.out _).mono ?_
  rintro e w5 ⟨rfl, rfl⟩
  go_wp2_with fail
  refine (FR'.out _).mono ?_
  rintro e w6 ⟨rfl, rfl⟩
  go_wp2_with fail
  refine (AT1'.out _).mono ?_
  rintro e w7 ⟨rfl, hb⟩
  have HB := Lib.hid (bstep HB.out hb)
  clear hb
  go_wp2_with fail
  refine (RP'.out _).mono ?_
  rintro e w8 ⟨rfl, hb⟩
  have HB := Lib.hid (bstep HB.out hb)
  clear hb
  go_wp2_with fail
  refine (AT2'.out _).mono ?_
  rintro e w9 ⟨rfl, hb⟩
  have HB := Lib.hid (bstep HB.out hb)
  clear hb
  go_wp2_with fail
  refine (cf.out _).mono ?_
  rintro e w10 ⟨rfl, rfl⟩
  go_wp2_with fail
  go_ret2
  exact ⟨rfl, HB.out⟩

set_option maxHeartbeats 4000000 in
theorem pp_ttf (s U D M W F : ByteArray) (q : Bool) (w : World) (C : PpC w s U D M W F true q true) (d T N c : Nat) (Z : ByteArray) (hd : d ≤ 18325193) (hT : T ≤ 99999) (hN : d * 60000 + T = N) (hc : F.size + c = 3) (hz : Z.size ≤ 3) (hw : W.size ≤ 3) (dg : ∀ wx, Calls Tryz.prog 57 #[.string D] wx fun e w' => e = .returned (.bool true) ∧ w' = wx) (mn : ∀ wx, Calls Tryz.prog 58 #[.string W] wx fun e w' => e = .returned (.bool true) ∧ w' = wx) (fr : ∀ wx, Calls Tryz.prog 59 #[.string F] wx fun e w' => e = .returned (.bool true) ∧ w' = wx) (at1 : ∀ wx, Calls Tryz.prog 60 #[.string D] wx fun e w' => e = .returned (.tuple #[.int .i64 (d : Int), .nilIface]) ∧ Below wx.heap.size wx w') (rp : ∀ wx, Calls Tryz.prog 61 #[.string ⟨#[48]⟩, .int .i64 (c : Int)] wx fun e w' => e = .returned (.string Z) ∧ Below wx.heap.size wx w') (at2 : ∀ wx, Calls Tryz.prog 60 #[.string (W ++ F ++ Z)] wx fun e w' => e = .returned (.tuple #[.int .i64 (T : Int), .nilIface]) ∧ Below wx.heap.size wx w') (hin : inA (-(N : Int)) = false) :
    Calls Tryz.prog 35 #[.string s] w fun e w' => e = .returned (.tuple #[.int .i64 0, .int .i64 5]) ∧ Below w.heap.size w w' := by
  obtain ⟨pre, c1, c2⟩ := C
  have HB := Lib.hid (Below.refl w.heap.size w)
  have t1 : decide ((d : Int) > 18325193) = false := decide_eq_false (by omega)
  have cf := Lib.hid (fun wx => pFits (-(N : Int)) wx)
  rw [hin] at cf
  have hs : (3 : Int) - (F.size : Int) = (c : Int) := by omega
  have hf : F.size ≤ 3 := by omega
  have hp : (d : Int) * 60000 + (T : Int) = (N : Int) := by omega
  have hn : N ≤ 1100000000000 := by omega
  clear hc hN hin
  have PRE' := Lib.hid pre
  have C1' := Lib.hid c1
  have C2' := Lib.hid c2
  have DG' := Lib.hid dg
  have MN' := Lib.hid mn
  have FR' := Lib.hid fr
  have AT1' := Lib.hid at1
  have RP' := Lib.hid rp
  have AT2' := Lib.hid at2
  clear pre c1 c2 dg mn fr at1 rp at2
  go_enter Tryz.func35, Tryz.ntmps35
  go_wp2_with fail
  refine (PRE'.out _).mono ?_
  rintro e w1 ⟨rfl, rfl⟩
  go_wp2_with fail
  refine (C1'.out _ HB.out).mono ?_
  rintro e w2 ⟨rfl, hb⟩
  have HB := Lib.hid (bstep HB.out hb)
  clear hb
  go_wp2_with fail
  refine (C2'.out _ HB.out).mono ?_
  rintro e w3 ⟨rfl, hb⟩
  have HB := Lib.hid (bstep HB.out hb)
  clear hb
  go_wp2_with fail
  refine (DG'.out _).mono ?_
  rintro e w4 ⟨rfl, rfl⟩
  go_wp2_with fail
  refine (MN'.out _).mono ?_
  rintro e w5 ⟨rfl, rfl⟩
  go_wp2_with fail
  refine (FR'.out _).mono ?_
  rintro e w6 ⟨rfl, rfl⟩
  go_wp2_with fail
  refine (AT1'.out _).mono ?_
  rintro e w7 ⟨rfl, hb⟩
  have HB := Lib.hid (bstep HB.out hb)
  clear hb
  go_wp2_with fail
  refine (RP'.out _).mono ?_
  rintro e w8 ⟨rfl, hb⟩
  have HB := Lib.hid (bstep HB.out hb)
  clear hb
  go_wp2_with fail
  refine (AT2'.out _).mono ?_
  rintro e w9 ⟨rfl, hb⟩
  have HB := Lib.hid (bstep HB.out hb)
  clear hb
  go_wp2_with fail
  refine (cf.out _).mono ?_
  rintro e w10 ⟨rfl, rfl⟩
  go_wp2_with fail
  go_ret2
  exact ⟨rfl, HB.out⟩
end Go.Proofs.YtgcoddjjkcdfmaaGreatDoor
