/- Calendar: the texts of dates, on both sides: contracts. -/
import Derived.Test.YtfknmceffkagaaaDoorCaG
import Derived.Test.YtfknmceffkagaaaDoorCaTp
import Derived.Test.YtfknmceffkagaaaDoorDecE
import Derived.Test.YtfknmceffkagaaaDoorDecJ
namespace Go.Proofs.YtfknmceffkagaaaDoor
open Go.RowKit dc
set_option linter.unusedVariables false
set_option maxRecDepth 100000

theorem padded_any (n k : Nat) (w : World) (h1 : 1 ≤ k) (h2 : k ≤ 4) (hn : n < 10 ^ k) :
    Calls Tryd.prog 40 #[.int .i64 (n : Int), .int .i64 (k : Int)] w fun e w' => e = .returned (.string (ba (digs k n))) ∧ Below w.heap.size w w' := by
  have hp : 10 ^ k ≤ 10 ^ 4 := Nat.pow_le_pow_right (by omega) h2
  have C1 := Lib.hid (fun wx => dc.format_ok (n : Int) k wx ((fits_iff _).2 (by omega)) (by omega))
  rw [decT_small n k (by omega) hn] at C1
  have C2 := Lib.hid (fun wx => Tryd.strings_TrimPrefix ⟨(48 :: 46 :: digs k n).toArray⟩ ⟨#[48, 46]⟩ wx)
  have e : (Lib.trimPrefix (⟨(48 :: 46 :: digs k n).toArray⟩ : ByteArray).data.toList (⟨#[48, 46]⟩ : ByteArray).data.toList) = digs k n := trim_small _
  rw [e] at C2
  clear e hp hn
  unfold ba
  generalize (⟨(48 :: 46 :: digs k n).toArray⟩ : ByteArray) = s at *
  generalize (⟨(digs k n).toArray⟩ : ByteArray) = t at *
  go_enter Tryd.func40, Tryd.ntmps40
  go_wp2_with fail
  refine (C1.out _).mono ?_
  rintro e w1 ⟨rfl, hb⟩
  go_wp2_with fail
  refine (C2.out _).mono ?_
  rintro e w1 ⟨rfl, rfl⟩
  go_wp2_with fail
  go_ret
  exact ⟨rfl, hb⟩
set_option maxHeartbeats 1000000 in
theorem rpadded_any (n k : Nat) (w : World) (h1 : 1 ≤ k) (h2 : k ≤ 4) (hn : n < 10 ^ k) :
    Calls Tryd.prog 43 #[.int .i64 (n : Int), .int .i64 (k : Int)] w fun e w' => e = .returned (.string (ba (digs k n))) ∧ Below w.heap.size w w' := by
  have hp : 10 ^ k ≤ 10 ^ 4 := Nat.pow_le_pow_right (by omega) h2
  have C1 := Lib.hid (fun wx => dc.rformat_any (n : Int) 0 wx (by omega) (by omega) (by omega))
  rw [decT_whole n] at C1
  have R := rnds_small n k h1 hn
  have PD := Lib.hid (fun j (hj : rnds 0 n ≤ j) => digs_pad n (by omega) j hj)
  obtain ⟨r, hr⟩ : ∃ r, rnds 0 n = r := ⟨_, rfl⟩
  rw [hr] at R C1 PD
  have HR := Lib.hid (show r ≤ k ∧ k ≤ 4 from ⟨R, h2⟩)
  clear hp hr hn R h1
  go_enter Tryd.func43, Tryd.ntmps43
  go_wp2_with fail
  refine (C1.out _).mono ?_
  rintro e w1 ⟨rfl, hb⟩
  have HB := Lib.hid hb
  clear hb
  go_wp2_with fail
  go_loopg [5] (k - r) (fun m v5 wr => ∃ j : Nat, m = k - j ∧ v5 = .string (ba (digs j n)) ∧ Hid (r ≤ j) ∧ j ≤ k ∧ w1 = wr)
  case atStart => exact ⟨r, rfl, rfl, Nat.le_refl _, HR.out.1, rfl⟩
  case round =>
    obtain ⟨j, hm, rfl, HJ, hj, rfl⟩ := hrel
    have HG := Lib.hid hm
    clear hm
    have NX := Lib.hid (show (⟨#[48]⟩ : ByteArray) ++ ba (digs j n) = ba (digs (j + 1) n) by rw [PD.out j HJ.out]; exact ba_add [48] (digs j n))
    have sz : (ba (digs j n)).size = j := by rw [ba_size, digs_length]
    obtain ⟨s, hs⟩ : ∃ s, ba (digs j n) = s := ⟨_, rfl⟩
    have HS := Lib.hid hs
    rw [hs] at sz NX ⊢
    clear hs
    by_cases hlt : j < k
    · go_wp2_with fail
      go_roundg (k - (j + 1))
      case measure => have := HG.out; omega
      case rel => exact ⟨j + 1, rfl, by rw [NX.out], by have := HJ.out; exact Nat.le_succ_of_le this, hlt, rfl⟩
    · have e := Lib.hid (show j = k by omega)
      go_wp2_with fail
      go_ret
      exact ⟨by rw [← HS.out, e.out]; rfl, HB.out⟩
theorem unpadded_any (x : List UInt8) (k : Nat) (w : World) (hm : dc.HasMax w) (h1 : 1 ≤ k) (h2 : k ≤ 4) (hx : x.length ≤ 1000) :
    Calls Tryd.prog 42 #[.string (ba x), .int .i64 (k : Int)] w fun e w' => e = .returned (.int .i64 (unp x k)) ∧ Below w.heap.size w w' := by
  have sz : (ba x).size = x.length := ba_size x
  by_cases hk : x.length = k
  · have RS := read_small x k h1 (by omega) hk
    have C1 := Lib.hid (dc.parse_any (ba (48 :: 46 :: x)) k w hm (by rw [ba_size]; simp; omega) (by omega))
    rw [show (ba (48 :: 46 :: x)).data.toList = 48 :: 46 :: x from rfl] at C1
    have CT := Lib.hid (show (⟨#[48, 46]⟩ : ByteArray) ++ ba x = ba (48 :: 46 :: x) from ba_add [48, 46] x)
    have hq : ((k : Int) == (k : Int)) = true := by simp
    have e0 : (⟨#[48, 46]⟩ : ByteArray) ++ ba x = ba (48 :: 46 :: x) := CT.out
    rcases Bool.eq_false_or_eq_true (x.all isDig) with ha | ha
    · rw [unp_all hk ha]
      obtain ⟨r1, r2⟩ := RS.1 ha
      rw [r1, r2] at C1
      rw [hk] at sz
      generalize ba (48 :: 46 :: x) = t at *
      generalize ba x = s at *
      clear RS r1 r2 ha hk CT
      go_enter Tryd.func42, Tryd.ntmps42
      go_wp2_with fail
      refine (C1.out).mono ?_
      rintro e w1 ⟨rfl, hb⟩
      go_wp2_with fail
      go_ret
      exact ⟨rfl, hb⟩
    · have z : unp x k = 0 := by unfold unp; rw [if_neg (by rw [ha]; simp)]
      rw [z]
      obtain ⟨r1, r2⟩ := RS.2 ha
      rw [r1, r2] at C1
      rw [hk] at sz
      generalize ba (48 :: 46 :: x) = t at *
      generalize ba x = s at *
      clear RS r1 r2 ha hk CT z
      go_enter Tryd.func42, Tryd.ntmps42
      go_wp2_with fail
      refine (C1.out).mono ?_
      rintro e w1 ⟨rfl, hb⟩
      go_wp2_with fail
      go_ret
      exact ⟨rfl, hb⟩
  · have z : unp x k = 0 := by unfold unp; rw [if_neg (fun c => hk c.1)]
    rw [z]
    have hq : (((ba x).size : Int) == (k : Int)) = false := beq_eq_false_iff_ne.2 (by omega)
    generalize ba x = s at *
    clear z hk
    go_enter Tryd.func42, Tryd.ntmps42
    go_wp2_with fail
    go_ret
    exact ⟨rfl, Below.refl _ _⟩
theorem cut_any (u : List UInt8) (b : UInt8) (X Y : List UInt8) (f : Bool) (hc : Lib.cut u [b] = (X, Y, f)) (hs : u.length ≤ 1000000) (w : World) (hm : dc.HasMax w) :
    Calls Tryd.prog 41 #[.string (ba u), .string ⟨#[b]⟩] w fun e w' => e = .returned (.tuple #[.string (ba X), .string (ba Y), .bool f]) ∧ Below w.heap.size w w' := by
  obtain ⟨m, hm⟩ := hm
  have hz : (ba u).size = u.length := ba_size u
  have C := Tryd.strings_Cut (ba u) ⟨#[b]⟩ m w (by omega) hm
  rw [show (ba u).data.toList = u from rfl, show (⟨#[b]⟩ : ByteArray).data.toList = [b] from rfl, hc] at C
  exact C.mono fun e w' ⟨he, n, hw⟩ => ⟨he, hw ▸ below_drewN _ _ _⟩
theorem cut_len45 (u : List UInt8) : (ptY u).length ≤ u.length ∧ (ptR u).length ≤ u.length := by
  unfold ptY ptR
  rcases cut_cases 45 u with ⟨X, Y, e, hX, hc⟩ | ⟨hX, hc⟩
  · rw [hc, e]; simp; omega
  · rw [hc]; simp
set_option maxHeartbeats 1000000 in
theorem text_ok (y m d : Int) (w : World) (H : HasLen w) (ok : okD y m d = true) :
    Calls Tryd.prog 29 #[.agg #[.int .i64 y, .int .i64 m, .int .i64 d]] w fun e w' => e = .returned (.tuple #[.string (ba (txt y.toNat m.toNat d.toNat)), .int .i64 0]) ∧ Below w.heap.size w w' := by
  have A := At3.new w (.int .i64 y) (.int .i64 m) (.int .i64 d) 23
  have HB := Lib.hid (below1 w (.cells #[.int .i64 y, .int .i64 m, .int .i64 d] 23))
  have HX := H.below HB.out
  clear H
  have CV := Lib.hid (told1 true ok (valid_any y m d _ HX))
  obtain ⟨o1, o2, o3, o4, o5, o6⟩ := okD_iff.1 ok
  have di := dim_in (leapB y) m
  obtain ⟨Y, rfl⟩ : ∃ Y : Nat, y = (Y : Int) := ⟨y.toNat, by omega⟩
  obtain ⟨M, rfl⟩ : ∃ M : Nat, m = (M : Int) := ⟨m.toNat, by omega⟩
  obtain ⟨D, rfl⟩ : ∃ D : Nat, d = (D : Int) := ⟨d.toNat, by omega⟩
  simp only [Int.toNat_natCast]
  have C1 := Lib.hid (fun wx => padded_any Y 4 wx (by omega) (by omega) (by omega))
  have C2 := Lib.hid (fun wx => padded_any M 2 wx (by omega) (by omega) (by omega))
  have C3 := Lib.hid (fun wx => padded_any D 2 wx (by omega) (by omega) (by omega))
  have TX := Lib.hid (show (((ba (digs 4 Y) ++ (⟨#[45]⟩ : ByteArray)) ++ ba (digs 2 M)) ++ (⟨#[45]⟩ : ByteArray)) ++ ba (digs 2 D) = ba (txt Y M D) by
    rw [show (⟨#[45]⟩ : ByteArray) = ba [45] from rfl, ba_add, ba_add, ba_add, ba_add]
    unfold txt
    simp)
  have z1 : (ba (digs 4 Y)).size = 4 := by rw [ba_size, digs_length]
  have z2 : (ba (digs 2 M)).size = 2 := by rw [ba_size, digs_length]
  have z3 : (ba (digs 2 D)).size = 2 := by rw [ba_size, digs_length]
  generalize ba (digs 4 Y) = s1 at *
  generalize ba (digs 2 M) = s2 at *
  generalize ba (digs 2 D) = s3 at *
  generalize ba (txt Y M D) = t at *
  have z4 : (s1 ++ (⟨#[45]⟩ : ByteArray)).size = 5 := by rw [ByteArray.size_append, z1]; rfl
  have z5 : ((s1 ++ (⟨#[45]⟩ : ByteArray)) ++ s2).size = 7 := by rw [ByteArray.size_append, z4, z2]
  have z6 : (((s1 ++ (⟨#[45]⟩ : ByteArray)) ++ s2) ++ (⟨#[45]⟩ : ByteArray)).size = 8 := by rw [ByteArray.size_append, z5]; rfl
  have z7 : ((((s1 ++ (⟨#[45]⟩ : ByteArray)) ++ s2) ++ (⟨#[45]⟩ : ByteArray)) ++ s3).size = 10 := by rw [ByteArray.size_append, z6, z3]
  clear o1 o2 o3 o4 o5 o6 di ok
  obtain ⟨A0, A1, A2, -, -, -, -⟩ := id A
  go_enter Tryd.func29, Tryd.ntmps29
  go_wp2_with fail
  refine (CV.out).mono ?_
  rintro e w1 ⟨rfl, hb⟩
  replace A := A.keep hb
  replace HB := Lib.hid (bstep HB.out hb)
  clear hb A0 A1 A2 CV HX
  go_upto_region 3 with fail
  obtain ⟨A0, A1, A2⟩ := A.bel
  simp only [Int.cast_ofNat_Int] at C1 C2 C3
  refine wp_region_bel (by kernel_rfl) (by kernel_rfl) ?_
  repeat (go_big_quiet_step (first | (go_at_call 40; first | (with_reducible refine bel_of (C1.out _)) | (with_reducible refine bel_of (C2.out _)) | (with_reducible refine bel_of (C3.out _)))))
  refine wpQuiet_nil ?_
  intro _ hw'
  obtain ⟨pq, hw''⟩ := hw'
  subst hw''
  go_wp2_with fail
  go_ret2
  exact ⟨by rw [← TX.out]; rfl, bstep HB.out pq.h⟩
theorem text_no (y m d : Int) (w : World) (H : HasLen w) (ok : okD y m d = false) :
    Calls Tryd.prog 29 #[.agg #[.int .i64 y, .int .i64 m, .int .i64 d]] w fun e w' => e = .returned (.tuple #[.string ⟨#[]⟩, .int .i64 1]) ∧ Below w.heap.size w w' := by
  have A := At3.new w (.int .i64 y) (.int .i64 m) (.int .i64 d) 23
  have HB := Lib.hid (below1 w (.cells #[.int .i64 y, .int .i64 m, .int .i64 d] 23))
  have CV := Lib.hid (told1 false ok (valid_any y m d _ (H.below HB.out)))
  clear H ok
  obtain ⟨A0, A1, A2, -, -, -, -⟩ := id A
  go_enter Tryd.func29, Tryd.ntmps29
  go_wp2_with fail
  refine (CV.out).mono ?_
  rintro e w1 ⟨rfl, hb⟩
  replace HB := Lib.hid (bstep HB.out hb)
  clear hb A0 A1 A2 CV
  go_wp2_with fail
  go_ret2
  exact ⟨rfl, HB.out⟩
set_option maxHeartbeats 1000000 in
theorem rtext_any (y m d : Int) (w : World) (ok : okD y m d = true) :
    Calls Tryd.prog 31 #[.agg #[.int .i64 y, .int .i64 m, .int .i64 d]] w fun e w' => e = .returned (.string (ba (txt y.toNat m.toNat d.toNat))) ∧ Below w.heap.size w w' := by
  have A := At3.new w (.int .i64 y) (.int .i64 m) (.int .i64 d) 23
  have HB := Lib.hid (below1 w (.cells #[.int .i64 y, .int .i64 m, .int .i64 d] 23))
  obtain ⟨o1, o2, o3, o4, o5, o6⟩ := okD_iff.1 ok
  have di := dim_in (leapB y) m
  obtain ⟨Y, rfl⟩ : ∃ Y : Nat, y = (Y : Int) := ⟨y.toNat, by omega⟩
  obtain ⟨M, rfl⟩ : ∃ M : Nat, m = (M : Int) := ⟨m.toNat, by omega⟩
  obtain ⟨D, rfl⟩ : ∃ D : Nat, d = (D : Int) := ⟨d.toNat, by omega⟩
  simp only [Int.toNat_natCast]
  have C1 := Lib.hid (fun wx => rpadded_any Y 4 wx (by omega) (by omega) (by omega))
  have C2 := Lib.hid (fun wx => rpadded_any M 2 wx (by omega) (by omega) (by omega))
  have C3 := Lib.hid (fun wx => rpadded_any D 2 wx (by omega) (by omega) (by omega))
  have TX := Lib.hid (show (((ba (digs 4 Y) ++ (⟨#[45]⟩ : ByteArray)) ++ ba (digs 2 M)) ++ (⟨#[45]⟩ : ByteArray)) ++ ba (digs 2 D) = ba (txt Y M D) by
    rw [show (⟨#[45]⟩ : ByteArray) = ba [45] from rfl, ba_add, ba_add, ba_add, ba_add]
    unfold txt
    simp)
  have z1 : (ba (digs 4 Y)).size = 4 := by rw [ba_size, digs_length]
  have z2 : (ba (digs 2 M)).size = 2 := by rw [ba_size, digs_length]
  have z3 : (ba (digs 2 D)).size = 2 := by rw [ba_size, digs_length]
  generalize ba (digs 4 Y) = s1 at *
  generalize ba (digs 2 M) = s2 at *
  generalize ba (digs 2 D) = s3 at *
  generalize ba (txt Y M D) = t at *
  have z4 : (s1 ++ (⟨#[45]⟩ : ByteArray)).size = 5 := by rw [ByteArray.size_append, z1]; rfl
  have z5 : ((s1 ++ (⟨#[45]⟩ : ByteArray)) ++ s2).size = 7 := by rw [ByteArray.size_append, z4, z2]
  have z6 : (((s1 ++ (⟨#[45]⟩ : ByteArray)) ++ s2) ++ (⟨#[45]⟩ : ByteArray)).size = 8 := by rw [ByteArray.size_append, z5]; rfl
  have z7 : ((((s1 ++ (⟨#[45]⟩ : ByteArray)) ++ s2) ++ (⟨#[45]⟩ : ByteArray)) ++ s3).size = 10 := by rw [ByteArray.size_append, z6, z3]
  clear o1 o2 o3 o4 o5 o6 di ok
  obtain ⟨A0, A1, A2⟩ := A.bel
  simp only [Int.cast_ofNat_Int] at C1 C2 C3
  go_enter Tryd.func31, Tryd.ntmps31
  go_wp2_with fail
  refine wp_region_bel (by kernel_rfl) (by kernel_rfl) ?_
  repeat (go_big_quiet_step (first | (go_at_call 43; first | (with_reducible refine bel_of (C1.out _)) | (with_reducible refine bel_of (C2.out _)) | (with_reducible refine bel_of (C3.out _)))))
  refine wpQuiet_nil ?_
  intro _ hw'
  obtain ⟨pq, hw''⟩ := hw'
  subst hw''
  go_wp2_with fail
  go_ret
  exact ⟨by rw [← TX.out]; rfl, bstep HB.out pq.h⟩
set_option maxHeartbeats 1000000 in
theorem parse9 (l : List UInt8) (w : World) (H : HasLen w) (hm : dc.HasMax w) (hl : l.length ≤ 1000) :
    Calls Tryd.prog 30 #[.string (ba l)] w fun e w' => e = .returned (if okD (dY l) (dM l) (dD l) = true then .tuple #[.agg #[.int .i64 (dY l), .int .i64 (dM l), .int .i64 (dD l)], .int .i64 0] else .tuple #[.agg #[.int .i64 0, .int .i64 0, .int .i64 0], .int .i64 7]) ∧ Below w.heap.size w w' := by
  have R := At3.new w (.int .i64 0) (.int .i64 0) (.int .i64 0) 23
  have HB := Lib.hid (below1 w (.cells #[.int .i64 0, .int .i64 0, .int .i64 0] 23))
  have HX := H.below HB.out
  have HM := hm.below HB.out
  clear H hm
  obtain ⟨l1, l2⟩ := cut_len45 l
  obtain ⟨r1, r2⟩ := cut_len45 (ptR l)
  obtain ⟨f, hf⟩ : ∃ f, (Lib.cut l [45]).2.2 = f := ⟨_, rfl⟩
  obtain ⟨g, hg⟩ : ∃ f, (Lib.cut (ptR l) [45]).2.2 = f := ⟨_, rfl⟩
  have C1 := Lib.hid (fun wx hx => cut_any l 45 (ptY l) (ptR l) f (by rw [← hf]; rfl) (by omega) wx hx)
  have C2 := Lib.hid (fun wx hx => cut_any (ptR l) 45 (ptY (ptR l)) (ptR (ptR l)) g (by rw [← hg]; rfl) (by omega) wx hx)
  have C3 := Lib.hid (fun wx hx => unpadded_any (ptY l) 4 wx hx (by omega) (by omega) (by omega))
  have C4 := Lib.hid (fun wx hx => unpadded_any (ptY (ptR l)) 2 wx hx (by omega) (by omega) (by omega))
  have C5 := Lib.hid (fun wx hx => unpadded_any (ptR (ptR l)) 2 wx hx (by omega) (by omega) (by omega))
  rw [show unp (ptY l) 4 = dY l from rfl] at C3
  rw [show unp (ptY (ptR l)) 2 = dM l from rfl] at C4
  rw [show unp (ptR (ptR l)) 2 = dD l from rfl] at C5
  have CV := Lib.hid (fun wx hx => valid_any (dY l) (dM l) (dD l) wx hx)
  simp only [Int.cast_ofNat_Int] at C3 C4 C5
  generalize dY l = y at *
  generalize dM l = m at *
  generalize dD l = d at *
  generalize ba (ptY (ptR l)) = s3 at *
  generalize ba (ptR (ptR l)) = s4 at *
  generalize ba (ptY l) = s1 at *
  generalize ba (ptR l) = s2 at *
  generalize ba l = s at *
  clear l1 l2 r1 r2 hf hg hl
  rcases Bool.eq_false_or_eq_true (okD y m d) with ok | ok
  · rw [if_pos ok]
    rw [ok] at CV
    clear ok
    obtain ⟨R0, R1, R2, Rf0, Rf1, Rf2, -⟩ := id R
    go_enter Tryd.func30, Tryd.ntmps30
    go_wp2_with fail
    refine ((C1).out _ HM).mono ?_
    rintro e w1 ⟨rfl, hb⟩
    clear R0 R1 R2 Rf0 Rf1 Rf2
    replace R := R.keep hb
    replace HX := HX.below hb
    replace HM := HM.below hb
    replace HB := Lib.hid (bstep HB.out hb)
    clear hb
    obtain ⟨R0, R1, R2, Rf0, Rf1, Rf2, -⟩ := id R
    go_wp2_with fail
    refine ((C2).out _ HM).mono ?_
    rintro e w2 ⟨rfl, hb⟩
    clear R0 R1 R2 Rf0 Rf1 Rf2
    replace R := R.keep hb
    replace HX := HX.below hb
    replace HM := HM.below hb
    replace HB := Lib.hid (bstep HB.out hb)
    clear hb
    obtain ⟨R0, R1, R2, Rf0, Rf1, Rf2, -⟩ := id R
    go_wp2_with fail
    refine ((C3).out _ HM).mono ?_
    rintro e w3 ⟨rfl, hb⟩
    clear R0 R1 R2 Rf0 Rf1 Rf2
    replace R := R.keep hb
    replace HX := HX.below hb
    replace HM := HM.below hb
    replace HB := Lib.hid (bstep HB.out hb)
    clear hb
    obtain ⟨R0, R1, R2, Rf0, Rf1, Rf2, -⟩ := id R
    go_wp2_with fail
    refine ((C4).out _ HM).mono ?_
    rintro e w4 ⟨rfl, hb⟩
    clear R0 R1 R2 Rf0 Rf1 Rf2
    replace R := R.keep hb
    replace HX := HX.below hb
    replace HM := HM.below hb
    replace HB := Lib.hid (bstep HB.out hb)
    clear hb
    obtain ⟨R0, R1, R2, Rf0, Rf1, Rf2, -⟩ := id R
    go_wp2_with fail
    refine ((C5).out _ HM).mono ?_
    rintro e w5 ⟨rfl, hb⟩
    clear R0 R1 R2 Rf0 Rf1 Rf2
    replace R := R.keep hb
    replace HX := HX.below hb
    replace HM := HM.below hb
    replace HB := Lib.hid (bstep HB.out hb)
    clear hb
    obtain ⟨R0, R1, R2, Rf0, Rf1, Rf2, -⟩ := id R
    clear R0 R1 R2 Rf0 Rf1 Rf2
    replace R := R.alloc (.cells #[.int .i64 y, .int .i64 m, .int .i64 d] 23)
    replace HX := HX.below (below1 w5 (.cells #[.int .i64 y, .int .i64 m, .int .i64 d] 23))
    replace HM := HM.below (below1 w5 (.cells #[.int .i64 y, .int .i64 m, .int .i64 d] 23))
    have B := At3.new w5 (.int .i64 y) (.int .i64 m) (.int .i64 d) 23
    replace HB := Lib.hid (bstep HB.out (below1 w5 (.cells #[.int .i64 y, .int .i64 m, .int .i64 d] 23)))
    obtain ⟨R0, R1, R2, Rf0, Rf1, Rf2, -⟩ := id R
    obtain ⟨B0, B1, B2, -, -, -, -⟩ := id B
    go_wp2_with fail
    refine ((CV).out _ HX).mono ?_
    rintro e w6 ⟨rfl, hb⟩
    clear R0 R1 R2 Rf0 Rf1 Rf2 B0 B1 B2
    replace R := R.keep hb
    replace B := B.keep hb
    replace HX := HX.below hb
    replace HM := HM.below hb
    replace HB := Lib.hid (bstep HB.out hb)
    clear hb
    obtain ⟨R0, R1, R2, Rf0, Rf1, Rf2, -⟩ := id R
    obtain ⟨B0, B1, B2, -, -, -, -⟩ := id B
    obtain ⟨z0, z1, z2, -, -, -, -⟩ := R.put (.int .i64 y) (.int .i64 m) (.int .i64 d)
    go_wp2_with fail
    refine bodyPost_ret (v := .tuple #[.agg #[.int .i64 y, .int .i64 m, .int .i64 d], .int .i64 0]) (by simp [results, Tryd.results30, go_sem, z0, z1, z2]) rfl ⟨rfl, ?_⟩
    exact below_set3 HB.out (by omega) _ _ _
  · rw [if_neg (by rw [ok]; simp)]
    rw [ok] at CV
    clear ok
    obtain ⟨R0, R1, R2, Rf0, Rf1, Rf2, -⟩ := id R
    go_enter Tryd.func30, Tryd.ntmps30
    go_wp2_with fail
    refine ((C1).out _ HM).mono ?_
    rintro e w1 ⟨rfl, hb⟩
    clear R0 R1 R2 Rf0 Rf1 Rf2
    replace R := R.keep hb
    replace HX := HX.below hb
    replace HM := HM.below hb
    replace HB := Lib.hid (bstep HB.out hb)
    clear hb
    obtain ⟨R0, R1, R2, Rf0, Rf1, Rf2, -⟩ := id R
    go_wp2_with fail
    refine ((C2).out _ HM).mono ?_
    rintro e w2 ⟨rfl, hb⟩
    clear R0 R1 R2 Rf0 Rf1 Rf2
    replace R := R.keep hb
    replace HX := HX.below hb
    replace HM := HM.below hb
    replace HB := Lib.hid (bstep HB.out hb)
    clear hb
    obtain ⟨R0, R1, R2, Rf0, Rf1, Rf2, -⟩ := id R
    go_wp2_with fail
    refine ((C3).out _ HM).mono ?_
    rintro e w3 ⟨rfl, hb⟩
    clear R0 R1 R2 Rf0 Rf1 Rf2
    replace R := R.keep hb
    replace HX := HX.below hb
    replace HM := HM.below hb
    replace HB := Lib.hid (bstep HB.out hb)
    clear hb
    obtain ⟨R0, R1, R2, Rf0, Rf1, Rf2, -⟩ := id R
    go_wp2_with fail
    refine ((C4).out _ HM).mono ?_
    rintro e w4 ⟨rfl, hb⟩
    clear R0 R1 R2 Rf0 Rf1 Rf2
    replace R := R.keep hb
    replace HX := HX.below hb
    replace HM := HM.below hb
    replace HB := Lib.hid (bstep HB.out hb)
    clear hb
    obtain ⟨R0, R1, R2, Rf0, Rf1, Rf2, -⟩ := id R
    go_wp2_with fail
    refine ((C5).out _ HM).mono ?_
    rintro e w5 ⟨rfl, hb⟩
    clear R0 R1 R2 Rf0 Rf1 Rf2
    replace R := R.keep hb
    replace HX := HX.below hb
    replace HM := HM.below hb
    replace HB := Lib.hid (bstep HB.out hb)
    clear hb
    obtain ⟨R0, R1, R2, Rf0, Rf1, Rf2, -⟩ := id R
    clear R0 R1 R2 Rf0 Rf1 Rf2
    replace R := R.alloc (.cells #[.int .i64 y, .int .i64 m, .int .i64 d] 23)
    replace HX := HX.below (below1 w5 (.cells #[.int .i64 y, .int .i64 m, .int .i64 d] 23))
    replace HM := HM.below (below1 w5 (.cells #[.int .i64 y, .int .i64 m, .int .i64 d] 23))
    have B := At3.new w5 (.int .i64 y) (.int .i64 m) (.int .i64 d) 23
    replace HB := Lib.hid (bstep HB.out (below1 w5 (.cells #[.int .i64 y, .int .i64 m, .int .i64 d] 23)))
    obtain ⟨R0, R1, R2, Rf0, Rf1, Rf2, -⟩ := id R
    obtain ⟨B0, B1, B2, -, -, -, -⟩ := id B
    go_wp2_with fail
    refine ((CV).out _ HX).mono ?_
    rintro e w6 ⟨rfl, hb⟩
    clear R0 R1 R2 Rf0 Rf1 Rf2 B0 B1 B2
    replace R := R.keep hb
    replace B := B.keep hb
    replace HX := HX.below hb
    replace HM := HM.below hb
    replace HB := Lib.hid (bstep HB.out hb)
    clear hb
    obtain ⟨R0, R1, R2, Rf0, Rf1, Rf2, -⟩ := id R
    obtain ⟨B0, B1, B2, -, -, -, -⟩ := id B
    obtain ⟨z0, z1, z2, -, -, -, -⟩ := R.put (.int .i64 0) (.int .i64 0) (.int .i64 0)
    go_wp2_with fail
    refine bodyPost_ret (v := .tuple #[.agg #[.int .i64 0, .int .i64 0, .int .i64 0], .int .i64 7]) (by simp [results, Tryd.results30, go_sem, z0, z1, z2]) rfl ⟨rfl, ?_⟩
    exact below_set3 HB.out (by omega) _ _ _
end Go.Proofs.YtfknmceffkagaaaDoor
