/- Place: contracts of the reference's texts, and of the program's Print. -/
import Derived.Test.YtgcoddjjkcdfmaaGreatDoorPcZ
import Derived.Test.YtgcoddjjkcdfmaaGreatDoorPcS
import Derived.Test.YtgcoddjjkcdfmaaGreatDoorAnJ
import Derived.Test.YtgcoddjjkcdfmaaGreatDoorAnPb
namespace Go.Proofs.YtgcoddjjkcdfmaaGreatDoor
open Go.RowKit
set_option linter.unusedVariables false
set_option maxRecDepth 100000

theorem rpSide (n : Int) (p m : UInt8) (w : World) (h1 : -10800000 ≤ n) (h2 : n ≤ 10800000) :
    Calls Tryz.prog 18 #[.int .i64 n, .string ⟨#[p]⟩, .string ⟨#[m]⟩] w fun e w' => e = .returned (.string (ba (coT n p m))) ∧ Below w.heap.size w w' := by
  obtain ⟨a, ha⟩ : ∃ a : Int, (n.natAbs : Int) = a := ⟨_, rfl⟩
  have hin : inA a = true := (inA_iff _).2 (by omega)
  have CT := Lib.hid (fun wx => rText a wx hin)
  have ht : (ba (textT a)).size ≤ 31 := by rw [ba_size]; exact textT_len a
  have E : Hid (ba (coT n p m) = ba (textT a) ++ (if n < 0 then ⟨#[m]⟩ else ⟨#[p]⟩)) := by
    show _ = _
    unfold coT
    rw [ha, ← ba_app]
    split <;> rfl
  generalize ba (coT n p m) = R at *
  generalize ba (textT a) = T at *
  clear hin
  by_cases hn : n < 0
  · rw [if_pos hn] at E
    have e1 : -n = a := by omega
    clear ha
    go_enter Tryz.func18, Tryz.ntmps18
    go_wp2_with fail
    refine (CT.out _).mono ?_
    rintro e w1 ⟨rfl, hb⟩
    go_wp2_with fail
    go_ret
    exact ⟨ret_s8 E.out.symm, hb⟩
  · rw [if_neg hn] at E
    have e1 : n = a := by omega
    subst e1
    clear ha
    go_enter Tryz.func18, Tryz.ntmps18
    go_wp2_with fail
    refine (CT.out _).mono ?_
    rintro e w1 ⟨rfl, hb⟩
    go_wp2_with fail
    go_ret
    exact ⟨ret_s8 E.out.symm, hb⟩
set_option maxHeartbeats 2000000 in
theorem rpText (x y : Int) (w : World) (hp : ptOk x y = true) :
    Calls Tryz.prog 7 #[.agg #[.int .i64 x, .int .i64 y]] w fun e w' => e = .returned (.string (ba (ptT x y))) ∧ Below w.heap.size w w' := by
  have kp := (ptOk_iff _ _).1 hp
  have A := At2.new w (.int .i64 x) (.int .i64 y) 23
  have HB := Lib.hid (below1 w (.cells #[.int .i64 x, .int .i64 y] 23))
  have C1 := Lib.hid (fun wx => rpSide x 78 83 wx (by omega) (by omega))
  have C2 := Lib.hid (fun wx => rpSide y 69 87 wx (by omega) (by omega))
  have E : Hid (ba (ptT x y) = (ba (coT x 78 83) ++ ⟨#[32]⟩) ++ ba (coT y 69 87)) := by
    show _ = _
    unfold ptT
    rw [show (⟨#[32]⟩ : ByteArray) = ba [32] from rfl, ba_app, ba_app]
    simp
  have s1 : (ba (coT x 78 83)).size ≤ 32 := by rw [ba_size]; exact coT_len _ _ _
  have s2 : (ba (coT y 69 87)).size ≤ 32 := by rw [ba_size]; exact coT_len _ _ _
  generalize ba (ptT x y) = R at *
  generalize ba (coT x 78 83) = T at *
  generalize ba (coT y 69 87) = U at *
  clear kp hp
  go_enter Tryz.func7, Tryz.ntmps7
  go_upto_region 1 with fail
  generalize (w.alloc (.cells #[.int .i64 x, .int .i64 y] 23)) = W at *
  obtain ⟨A0, A1⟩ := A.bel
  refine wp_region_bel (by kernel_rfl) (by kernel_rfl) ?_
  repeat (go_big_quiet_step (first | (go_at_call 18; first | (with_reducible refine bel_of (C1.out _)) | (with_reducible refine bel_of (C2.out _)))))
  refine wpQuiet_nil ?_
  intro _ hw'
  obtain ⟨pq, hw''⟩ := hw'
  subst hw''
  have HB := Lib.hid (bstep HB.out pq.h)
  go_wp2_with fail
  go_ret
  exact ⟨ret_s8 E.out.symm, HB.out⟩
/-- what the reference reads of a coordinate -/
def reV (u : List UInt8) (p m : UInt8) : Int := if coE u p m = 0 then coV u p m else if coE u p m = 5 then 1099511627776 else 0
def reE (u : List UInt8) (p m : UInt8) : Int := if coE u p m = 7 then 7 else 0
theorem re_other (s T : ByteArray) (n : Nat) (c p m d : UInt8) (V E : Int) (w : World) (hs : s.size = n + 1) (hn : n ≤ 900) (h0 : 1 ≤ n) (hi : n < s.size) (hj : 0 < s.size) (hx : s[n]'hi = c) (hd : s[0]'hj = d) (hy : s.extract 0 n = T) (hp : ¬ c = p) (hc : ¬ c = m) :
    Calls Tryz.prog 21 #[.string s, .int .u8 (p.toNat : Int), .int .u8 (m.toNat : Int)] w fun e w' => e = .returned (.tuple #[.int .i64 (0), .int .i64 (7)]) ∧ Below w.heap.size w w' := by
  have hz : (s.size : Int) = (n : Int) + 1 := by omega
  have hlt : ¬ (s.size : Int) < 2 := by omega
  have hlt2 : ¬ (n : Int) + 1 < 2 := by omega
  have hn1 : (n : Int) < (s.size : Int) := by omega
  have hn2 : (0 : Int) ≤ (n : Int) := by omega
  have ht : ((s.size : Int) - 1).toNat = n := by omega
  have ht2 : ((n : Int) + 1 - 1).toNat = n := by omega
  have hx2 : ((s[n]'hi).toNat : Int) = (c.toNat : Int) := by rw [hx]
  have hd2 : ((s[0]'hj).toNat : Int) = (d.toNat : Int) := by rw [hd]
  have b1 : (((c.toNat : Int) : Int) == (p.toNat : Int)) = false := beq_eq_false_iff_ne.2 (fun q => hp (UInt8.toNat_inj.1 (by omega)))
  have b2 : (((c.toNat : Int) : Int) == (m.toNat : Int)) = false := beq_eq_false_iff_ne.2 (fun q => hc (UInt8.toNat_inj.1 (by omega)))
  go_enter Tryz.func21, Tryz.ntmps21
  go_wp2_with fail
  go_ret2
  exact ⟨rfl, Below.refl _ _⟩
theorem re_pre1 (s T : ByteArray) (n : Nat) (c p m d : UInt8) (V E : Int) (w : World) (hs : s.size = n + 1) (hn : n ≤ 900) (h0 : 1 ≤ n) (hi : n < s.size) (hj : 0 < s.size) (hx : s[n]'hi = c) (hd : s[0]'hj = d) (hy : s.extract 0 n = T) (hc : c = p) (h45 : d = 45) :
    Calls Tryz.prog 21 #[.string s, .int .u8 (p.toNat : Int), .int .u8 (m.toNat : Int)] w fun e w' => e = .returned (.tuple #[.int .i64 (0), .int .i64 (7)]) ∧ Below w.heap.size w w' := by
  have hz : (s.size : Int) = (n : Int) + 1 := by omega
  have hlt : ¬ (s.size : Int) < 2 := by omega
  have hlt2 : ¬ (n : Int) + 1 < 2 := by omega
  have hn1 : (n : Int) < (s.size : Int) := by omega
  have hn2 : (0 : Int) ≤ (n : Int) := by omega
  have ht : ((s.size : Int) - 1).toNat = n := by omega
  have ht2 : ((n : Int) + 1 - 1).toNat = n := by omega
  have hx2 : ((s[n]'hi).toNat : Int) = (c.toNat : Int) := by rw [hx]
  have hd2 : ((s[0]'hj).toNat : Int) = (d.toNat : Int) := by rw [hd]
  have b1 : (((c.toNat : Int) : Int) == (p.toNat : Int)) = true := beq_iff_eq.2 (by rw [hc])
  have b3 : ((d.toNat : Int) == 45) = true := beq_iff_eq.2 (by rw [h45]; rfl)
  go_enter Tryz.func21, Tryz.ntmps21
  go_wp2_with fail
  go_ret2
  exact ⟨rfl, Below.refl _ _⟩
theorem re_pre2 (s T : ByteArray) (n : Nat) (c p m d : UInt8) (V E : Int) (w : World) (hs : s.size = n + 1) (hn : n ≤ 900) (h0 : 1 ≤ n) (hi : n < s.size) (hj : 0 < s.size) (hx : s[n]'hi = c) (hd : s[0]'hj = d) (hy : s.extract 0 n = T) (hp : ¬ c = p) (hc : c = m) (h45 : d = 45) :
    Calls Tryz.prog 21 #[.string s, .int .u8 (p.toNat : Int), .int .u8 (m.toNat : Int)] w fun e w' => e = .returned (.tuple #[.int .i64 (0), .int .i64 (7)]) ∧ Below w.heap.size w w' := by
  have hz : (s.size : Int) = (n : Int) + 1 := by omega
  have hlt : ¬ (s.size : Int) < 2 := by omega
  have hlt2 : ¬ (n : Int) + 1 < 2 := by omega
  have hn1 : (n : Int) < (s.size : Int) := by omega
  have hn2 : (0 : Int) ≤ (n : Int) := by omega
  have ht : ((s.size : Int) - 1).toNat = n := by omega
  have ht2 : ((n : Int) + 1 - 1).toNat = n := by omega
  have hx2 : ((s[n]'hi).toNat : Int) = (c.toNat : Int) := by rw [hx]
  have hd2 : ((s[0]'hj).toNat : Int) = (d.toNat : Int) := by rw [hd]
  subst hc
  have b1 : (((c.toNat : Int) : Int) == (p.toNat : Int)) = false := beq_eq_false_iff_ne.2 (fun q => hp (UInt8.toNat_inj.1 (by omega)))
  have b1n : ((c.toNat : Int) != (p.toNat : Int)) = true := by rw [bne, b1]; rfl
  have b3 : ((d.toNat : Int) == 45) = true := beq_iff_eq.2 (by rw [h45]; rfl)
  go_enter Tryz.func21, Tryz.ntmps21
  go_wp2_with fail
  go_ret2
  exact ⟨rfl, Below.refl _ _⟩
theorem re_big1 (s T : ByteArray) (n : Nat) (c p m d : UInt8) (V E : Int) (w : World) (hs : s.size = n + 1) (hn : n ≤ 900) (h0 : 1 ≤ n) (hi : n < s.size) (hj : 0 < s.size) (hx : s[n]'hi = c) (hd : s[0]'hj = d) (hy : s.extract 0 n = T) (hpm : ¬ p = m) (hc : c = p) (h45 : ¬ d = 45) (hE : E = 5) (C2 : Hid (∀ wx, Calls Tryz.prog 36 #[.string T] wx fun e w' => e = .returned (.tuple #[.int .i64 V, .int .i64 E]) ∧ Below wx.heap.size wx w')) (v1 : -1099511627776 ≤ V) (v2 : V ≤ 1099511627776) :
    Calls Tryz.prog 21 #[.string s, .int .u8 (p.toNat : Int), .int .u8 (m.toNat : Int)] w fun e w' => e = .returned (.tuple #[.int .i64 (1099511627776), .int .i64 (0)]) ∧ Below w.heap.size w w' := by
  have hz : (s.size : Int) = (n : Int) + 1 := by omega
  have hlt : ¬ (s.size : Int) < 2 := by omega
  have hlt2 : ¬ (n : Int) + 1 < 2 := by omega
  have hn1 : (n : Int) < (s.size : Int) := by omega
  have hn2 : (0 : Int) ≤ (n : Int) := by omega
  have ht : ((s.size : Int) - 1).toNat = n := by omega
  have ht2 : ((n : Int) + 1 - 1).toNat = n := by omega
  have hx2 : ((s[n]'hi).toNat : Int) = (c.toNat : Int) := by rw [hx]
  have hd2 : ((s[0]'hj).toNat : Int) = (d.toNat : Int) := by rw [hd]
  have b1 : (((c.toNat : Int) : Int) == (p.toNat : Int)) = true := beq_iff_eq.2 (by rw [hc])
  have b3 : ((d.toNat : Int) == 45) = false := beq_eq_false_iff_ne.2 (fun q => h45 (UInt8.toNat_inj.1 (by rw [show (45 : UInt8).toNat = 45 from rfl]; omega)))
  have b4 : ((c.toNat : Int) == (m.toNat : Int)) = false := beq_eq_false_iff_ne.2 (fun q => hpm (UInt8.toNat_inj.1 (by rw [← hc]; omega)))
  have b5 : (E == 5) = true := beq_iff_eq.2 hE
  go_enter Tryz.func21, Tryz.ntmps21
  go_wp2_with fail
  refine (C2.out _).mono ?_
  rintro e w1 ⟨rfl, hb⟩
  go_wp2_with fail
  go_ret2
  exact ⟨rfl, hb⟩
theorem re_big2 (s T : ByteArray) (n : Nat) (c p m d : UInt8) (V E : Int) (w : World) (hs : s.size = n + 1) (hn : n ≤ 900) (h0 : 1 ≤ n) (hi : n < s.size) (hj : 0 < s.size) (hx : s[n]'hi = c) (hd : s[0]'hj = d) (hy : s.extract 0 n = T) (hp : ¬ c = p) (hc : c = m) (h45 : ¬ d = 45) (hE : E = 5) (C2 : Hid (∀ wx, Calls Tryz.prog 36 #[.string T] wx fun e w' => e = .returned (.tuple #[.int .i64 V, .int .i64 E]) ∧ Below wx.heap.size wx w')) (v1 : -1099511627776 ≤ V) (v2 : V ≤ 1099511627776) :
    Calls Tryz.prog 21 #[.string s, .int .u8 (p.toNat : Int), .int .u8 (m.toNat : Int)] w fun e w' => e = .returned (.tuple #[.int .i64 (1099511627776), .int .i64 (0)]) ∧ Below w.heap.size w w' := by
  have hz : (s.size : Int) = (n : Int) + 1 := by omega
  have hlt : ¬ (s.size : Int) < 2 := by omega
  have hlt2 : ¬ (n : Int) + 1 < 2 := by omega
  have hn1 : (n : Int) < (s.size : Int) := by omega
  have hn2 : (0 : Int) ≤ (n : Int) := by omega
  have ht : ((s.size : Int) - 1).toNat = n := by omega
  have ht2 : ((n : Int) + 1 - 1).toNat = n := by omega
  have hx2 : ((s[n]'hi).toNat : Int) = (c.toNat : Int) := by rw [hx]
  have hd2 : ((s[0]'hj).toNat : Int) = (d.toNat : Int) := by rw [hd]
  subst hc
  have b1 : (((c.toNat : Int) : Int) == (p.toNat : Int)) = false := beq_eq_false_iff_ne.2 (fun q => hp (UInt8.toNat_inj.1 (by omega)))
  have b1n : ((c.toNat : Int) != (p.toNat : Int)) = true := by rw [bne, b1]; rfl
  have b3 : ((d.toNat : Int) == 45) = false := beq_eq_false_iff_ne.2 (fun q => h45 (UInt8.toNat_inj.1 (by rw [show (45 : UInt8).toNat = 45 from rfl]; omega)))
  have b5 : (E == 5) = true := beq_iff_eq.2 hE
  go_enter Tryz.func21, Tryz.ntmps21
  go_wp2_with fail
  refine (C2.out _).mono ?_
  rintro e w1 ⟨rfl, hb⟩
  go_wp2_with fail
  go_ret2
  exact ⟨rfl, hb⟩
theorem re_plus (s T : ByteArray) (n : Nat) (c p m d : UInt8) (V E : Int) (w : World) (hs : s.size = n + 1) (hn : n ≤ 900) (h0 : 1 ≤ n) (hi : n < s.size) (hj : 0 < s.size) (hx : s[n]'hi = c) (hd : s[0]'hj = d) (hy : s.extract 0 n = T) (hpm : ¬ p = m) (hc : c = p) (h45 : ¬ d = 45) (hE : ¬ E = 5) (C2 : Hid (∀ wx, Calls Tryz.prog 36 #[.string T] wx fun e w' => e = .returned (.tuple #[.int .i64 V, .int .i64 E]) ∧ Below wx.heap.size wx w')) (v1 : -1099511627776 ≤ V) (v2 : V ≤ 1099511627776) :
    Calls Tryz.prog 21 #[.string s, .int .u8 (p.toNat : Int), .int .u8 (m.toNat : Int)] w fun e w' => e = .returned (.tuple #[.int .i64 (V), .int .i64 (E)]) ∧ Below w.heap.size w w' := by
  have hz : (s.size : Int) = (n : Int) + 1 := by omega
  have hlt : ¬ (s.size : Int) < 2 := by omega
  have hlt2 : ¬ (n : Int) + 1 < 2 := by omega
  have hn1 : (n : Int) < (s.size : Int) := by omega
  have hn2 : (0 : Int) ≤ (n : Int) := by omega
  have ht : ((s.size : Int) - 1).toNat = n := by omega
  have ht2 : ((n : Int) + 1 - 1).toNat = n := by omega
  have hx2 : ((s[n]'hi).toNat : Int) = (c.toNat : Int) := by rw [hx]
  have hd2 : ((s[0]'hj).toNat : Int) = (d.toNat : Int) := by rw [hd]
  have b1 : (((c.toNat : Int) : Int) == (p.toNat : Int)) = true := beq_iff_eq.2 (by rw [hc])
  have b3 : ((d.toNat : Int) == 45) = false := beq_eq_false_iff_ne.2 (fun q => h45 (UInt8.toNat_inj.1 (by rw [show (45 : UInt8).toNat = 45 from rfl]; omega)))
  have b4 : ((c.toNat : Int) == (m.toNat : Int)) = false := beq_eq_false_iff_ne.2 (fun q => hpm (UInt8.toNat_inj.1 (by rw [← hc]; omega)))
  have b5 : (E == 5) = false := beq_eq_false_iff_ne.2 hE
  go_enter Tryz.func21, Tryz.ntmps21
  go_wp2_with fail
  refine (C2.out _).mono ?_
  rintro e w1 ⟨rfl, hb⟩
  go_wp2_with fail
  go_ret2
  exact ⟨rfl, hb⟩
theorem re_minus (s T : ByteArray) (n : Nat) (c p m d : UInt8) (V E : Int) (w : World) (hs : s.size = n + 1) (hn : n ≤ 900) (h0 : 1 ≤ n) (hi : n < s.size) (hj : 0 < s.size) (hx : s[n]'hi = c) (hd : s[0]'hj = d) (hy : s.extract 0 n = T) (hp : ¬ c = p) (hc : c = m) (h45 : ¬ d = 45) (hE : ¬ E = 5) (C2 : Hid (∀ wx, Calls Tryz.prog 36 #[.string T] wx fun e w' => e = .returned (.tuple #[.int .i64 V, .int .i64 E]) ∧ Below wx.heap.size wx w')) (v1 : -1099511627776 ≤ V) (v2 : V ≤ 1099511627776) :
    Calls Tryz.prog 21 #[.string s, .int .u8 (p.toNat : Int), .int .u8 (m.toNat : Int)] w fun e w' => e = .returned (.tuple #[.int .i64 (-V), .int .i64 (E)]) ∧ Below w.heap.size w w' := by
  have hz : (s.size : Int) = (n : Int) + 1 := by omega
  have hlt : ¬ (s.size : Int) < 2 := by omega
  have hlt2 : ¬ (n : Int) + 1 < 2 := by omega
  have hn1 : (n : Int) < (s.size : Int) := by omega
  have hn2 : (0 : Int) ≤ (n : Int) := by omega
  have ht : ((s.size : Int) - 1).toNat = n := by omega
  have ht2 : ((n : Int) + 1 - 1).toNat = n := by omega
  have hx2 : ((s[n]'hi).toNat : Int) = (c.toNat : Int) := by rw [hx]
  have hd2 : ((s[0]'hj).toNat : Int) = (d.toNat : Int) := by rw [hd]
  subst hc
  have b1 : (((c.toNat : Int) : Int) == (p.toNat : Int)) = false := beq_eq_false_iff_ne.2 (fun q => hp (UInt8.toNat_inj.1 (by omega)))
  have b1n : ((c.toNat : Int) != (p.toNat : Int)) = true := by rw [bne, b1]; rfl
  have b3 : ((d.toNat : Int) == 45) = false := beq_eq_false_iff_ne.2 (fun q => h45 (UInt8.toNat_inj.1 (by rw [show (45 : UInt8).toNat = 45 from rfl]; omega)))
  have b5 : (E == 5) = false := beq_eq_false_iff_ne.2 hE
  go_enter Tryz.func21, Tryz.ntmps21
  go_wp2_with fail
  refine (C2.out _).mono ?_
  rintro e w1 ⟨rfl, hb⟩
  go_wp2_with fail
  go_ret2
  exact ⟨rfl, hb⟩
theorem coE_short {u : List UInt8} {p m : UInt8} (h : u.length < 2) (hp : p ≠ 45) (hm : m ≠ 45) : coE u p m = 7 := by
  match u, h with
  | [], _ => rfl
  | [c], _ =>
    unfold coE
    by_cases q : [c].getLast? = some p ∨ [c].getLast? = some m
    · rw [if_pos q]
      have q' : c = p ∨ c = m := by simpa using q
      rw [if_neg (by rcases q' with rfl | rfl <;> simpa)]
      rfl
    · rw [if_neg q]
theorem re_short (s : ByteArray) (p m : UInt8) (w : World) (hs : s.size < 2) :
    Calls Tryz.prog 21 #[.string s, .int .u8 (p.toNat : Int), .int .u8 (m.toNat : Int)] w fun e w' => e = .returned (.tuple #[.int .i64 0, .int .i64 7]) ∧ Below w.heap.size w w' := by
  have hz : (s.size : Int) < 2 := by omega
  go_enter Tryz.func21, Tryz.ntmps21
  go_wp2_with fail
  go_ret2
  exact ⟨rfl, Below.refl _ _⟩
theorem rpParsed (u : List UInt8) (p m : UInt8) (hpm : p ≠ m) (hp45 : p ≠ 45) (hm45 : m ≠ 45) (w : World) (hl : u.length ≤ 900) :
    Calls Tryz.prog 21 #[.string (ba u), .int .u8 (p.toNat : Int), .int .u8 (m.toNat : Int)] w fun e w' => e = .returned (.tuple #[.int .i64 (reV u p m), .int .i64 (reE u p m)]) ∧ Below w.heap.size w w' := by
  by_cases h2 : u.length < 2
  · have e := coE_short h2 hp45 hm45
    unfold reV reE
    rw [e, if_neg (by decide), if_neg (by decide), if_pos rfl]
    exact re_short (ba u) p m w (by rw [ba_size]; exact h2)
  · rcases List.eq_nil_or_concat u with rfl | ⟨v, c, rfl⟩
    · simp at h2
    · simp only [List.concat_eq_append] at hl h2 ⊢
      have hv : 1 ≤ v.length ∧ v.length ≤ 900 := by simp at hl h2; omega
      have hs : (ba (v ++ [c])).size = v.length + 1 := by rw [ba_size]; simp
      have hy := ext_init v c
      have gl : (v ++ [c]).getLast? = some c := by simp
      have dl : (v ++ [c]).dropLast = v := by simp
      obtain ⟨d, r, hd⟩ : ∃ d r, v = d :: r := by
        cases v with
        | nil => simp at hv
        | cons d r => exact ⟨d, r, rfl⟩
      have gh : (v ++ [c]).head? = some d := by rw [hd]; rfl
      have hx : (ba (v ++ [c]))[v.length]'(by rw [hs]; omega) = c := by
        rw [← at_toList]; simp [ba]
      have hd0 : (ba (v ++ [c]))[0]'(by rw [hs]; omega) = d := by
        rw [← at_toList]; simp [ba, hd]
      have C2 := Lib.hid (fun wx => rParse (ba v) wx (by rw [ba_size]; omega))
      rw [ba_list] at C2
      have vb := paV_bd v
      have po := paE_or v
      have pz := paV_zero v
      have cE : coE (v ++ [c]) p m = if c = p ∨ c = m then (if d = 45 then 7 else paE v) else 7 := by
        unfold coE
        rw [gl, dl, gh]
        simp only [Option.some.injEq]
      have cV : coV (v ++ [c]) p m = if c = p ∨ c = m then (if d = 45 then 0 else if c = p then paV v else -paV v) else 0 := by
        unfold coV
        rw [gl, dl, gh]
        simp only [Option.some.injEq]
      have R7 : coE (v ++ [c]) p m = 7 → reV (v ++ [c]) p m = 0 ∧ reE (v ++ [c]) p m = 7 := by
        intro q; unfold reV reE; rw [q]; exact ⟨rfl, rfl⟩
      have R5 : coE (v ++ [c]) p m = 5 → reV (v ++ [c]) p m = 1099511627776 ∧ reE (v ++ [c]) p m = 0 := by
        intro q; unfold reV reE; rw [q]; exact ⟨rfl, rfl⟩
      have R0 : coE (v ++ [c]) p m = 0 → reV (v ++ [c]) p m = coV (v ++ [c]) p m ∧ reE (v ++ [c]) p m = 0 := by
        intro q; unfold reV reE; rw [q]; exact ⟨rfl, rfl⟩
      by_cases hp : c = p
      · rw [if_pos (Or.inl hp)] at cE cV
        by_cases hh : d = 45
        · rw [if_pos hh] at cE
          rw [(R7 cE).1, (R7 cE).2]
          exact re_pre1 _ (ba v) v.length c p m d 0 0 w hs hv.2 hv.1 _ _ hx hd0 hy hp hh
        · rw [if_neg hh] at cE cV
          rw [if_pos hp] at cV
          rcases po with q | q | q
          · rw [q] at cE
            rw [(R7 cE).1, (R7 cE).2]
            have := re_plus _ (ba v) v.length c p m d _ _ w hs hv.2 hv.1 _ _ hx hd0 hy hpm hp hh (by omega) C2 vb.1 vb.2
            rw [pz (by omega), q] at this
            exact this
          · rw [q] at cE
            rw [(R5 cE).1, (R5 cE).2]
            exact re_big1 _ (ba v) v.length c p m d _ _ w hs hv.2 hv.1 _ _ hx hd0 hy hpm hp hh q C2 vb.1 vb.2
          · rw [q] at cE
            rw [(R0 cE).1, (R0 cE).2, cV]
            have := re_plus _ (ba v) v.length c p m d _ _ w hs hv.2 hv.1 _ _ hx hd0 hy hpm hp hh (by omega) C2 vb.1 vb.2
            rw [q] at this
            exact this
      · by_cases hc : c = m
        · rw [if_pos (Or.inr hc)] at cE cV
          by_cases hh : d = 45
          · rw [if_pos hh] at cE
            rw [(R7 cE).1, (R7 cE).2]
            exact re_pre2 _ (ba v) v.length c p m d 0 0 w hs hv.2 hv.1 _ _ hx hd0 hy hp hc hh
          · rw [if_neg hh] at cE cV
            rw [if_neg hp] at cV
            rcases po with q | q | q
            · rw [q] at cE
              rw [(R7 cE).1, (R7 cE).2]
              have := re_minus _ (ba v) v.length c p m d _ _ w hs hv.2 hv.1 _ _ hx hd0 hy hp hc hh (by omega) C2 vb.1 vb.2
              rw [pz (by omega), q] at this
              exact this
            · rw [q] at cE
              rw [(R5 cE).1, (R5 cE).2]
              exact re_big2 _ (ba v) v.length c p m d _ _ w hs hv.2 hv.1 _ _ hx hd0 hy hp hc hh q C2 vb.1 vb.2
            · rw [q] at cE
              rw [(R0 cE).1, (R0 cE).2, cV]
              have := re_minus _ (ba v) v.length c p m d _ _ w hs hv.2 hv.1 _ _ hx hd0 hy hp hc hh (by omega) C2 vb.1 vb.2
              rw [q] at this
              exact this
        · rw [if_neg (fun q => q.elim hp hc)] at cE cV
          rw [(R7 cE).1, (R7 cE).2]
          exact re_other _ (ba v) v.length c p m d 0 0 w hs hv.2 hv.1 _ _ hx hd0 hy hp hc
end Go.Proofs.YtgcoddjjkcdfmaaGreatDoor
