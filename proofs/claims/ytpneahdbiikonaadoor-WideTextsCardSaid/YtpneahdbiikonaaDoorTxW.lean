/- Contract of wide.Text. -/
import Derived.Test.YtpneahdbiikonaaDoorTxR
import Derived.Test.YtpneahdbiikonaaDoorFmU
import Derived.Test.YtpneahdbiikonaaDoorRep
import Derived.Test.YtpneahdbiikonaaDoorWdT
import Derived.Lib.AppendIntMem
namespace Go.Proofs.YtpneahdbiikonaaDoor
open Go.RowKit
set_option linter.unusedVariables false

theorem rtext_any (h l : Int) (w : World) (hk : wok h l = true) :
    Calls Tryd.prog 7 #[.agg #[.int .i64 h, .int .i64 l]] w fun e w' => e = .returned (.string (ba (txt (wv h l)))) ∧ Below w.heap.size w w' := by
  have hw := (wok_iff h l).1 hk
  exact rtext_walk h l w (fun wx => ofwide_any h l wx (by omega) (by omega) (by omega) (by omega)) (dgs_len_ten (by unfold wv; omega))

/-- what the walk of Text asks: X, Y the numerals of both parts, Z the zeros between them, k the length of X -/
structure TtC (w : World) (h l : Int) (H L u v : Nat) (k : Nat) (X Y Z : ByteArray) : Prop where
  fv : ∀ wx, Calls Tryd.prog 13 #[.agg #[.int .i64 h, .int .i64 l]] wx fun e w' => e = .returned (.bool true) ∧ Below wx.heap.size wx w'
  fh : ∀ wx, Calls Tryd.prog 14 #[.agg #[.int .i64 h, .int .i64 l]] wx fun e w' => e = .returned (.tuple #[.int .u64 (H : Int), .int .u64 (L : Int)]) ∧ Below wx.heap.size wx w'
  fd : ∀ wx, Calls Tryd.prog 15 #[.int .u64 (H : Int), .int .u64 (L : Int), .int .u64 1000000000000000000] wx fun e w' => e = .returned (.tuple #[.int .u64 (u : Int), .int .u64 (v : Int)]) ∧ Below wx.heap.size wx w'
  fx : ∀ wx, Below w.heap.size w wx → Calls Tryd.prog 16 #[.int .u64 (v : Int), .int .i64 10] wx fun e w' => e = .returned (.string X) ∧ Below wx.heap.size wx w'
  fy : ∀ wx, Below w.heap.size w wx → Calls Tryd.prog 16 #[.int .u64 (u : Int), .int .i64 10] wx fun e w' => e = .returned (.string Y) ∧ Below wx.heap.size wx w'
  fz : ∀ wx, Calls Tryd.prog 17 #[.string ⟨#[48]⟩, .int .i64 (18 - (k : Int))] wx fun e w' => e = .returned (.string Z) ∧ Below wx.heap.size wx w'
  sx : X.size = k
  k1 : k ≤ 18
  sy : Y.size ≤ 100
  sz : Z.size ≤ 100

theorem ttC (w : World) (h l : Int) (hk : wok h l = true) (htab : Lib.TabIs Tryd.prog w "internal/strconv.uint64pow10" .u64 Lib.pow10Tab) :
    TtC w h l ((wv h l).natAbs / 18446744073709551616) ((wv h l).natAbs % 18446744073709551616) ((wv h l).natAbs / 1000000000000000000) ((wv h l).natAbs % 1000000000000000000) (Lib.decDigits ((wv h l).natAbs % 1000000000000000000)).length
      (ba (Lib.decDigits ((wv h l).natAbs % 1000000000000000000))) (ba (Lib.decDigits ((wv h l).natAbs / 1000000000000000000))) (ba (List.replicate (18 - (Lib.decDigits ((wv h l).natAbs % 1000000000000000000)).length) 48)) := by
  have hw := (wok_iff h l).1 hk
  have hN : (wv h l).natAbs ≤ 1329227995784915872903807060280344576 := by unfold wv; omega
  have hl : (Lib.decDigits ((wv h l).natAbs % 1000000000000000000)).length ≤ 17 + 1 := dec_len _ 17 (by show _ < 1000000000000000000; omega)
  have hp := dec_pos ((wv h l).natAbs % 1000000000000000000)
  have hu : (Lib.decDigits ((wv h l).natAbs / 1000000000000000000)).length ≤ 19 + 1 := dec_len _ 19 (by show _ < 100000000000000000000; omega)
  refine ⟨fun wx => valid_is h l true hk wx, fun wx => halves_any h l wx hk, fun wx => ?_, fun wx hb => fmtu_any _ (by omega) wx (Lib.tabBelow_of_tabIs htab wx hb), fun wx hb => fmtu_any _ (by omega) wx (Lib.tabBelow_of_tabIs htab wx hb), fun wx => ?_, ba_size _, hl, by rw [ba_size]; omega, by rw [ba_size, List.length_replicate]; omega⟩
  · have := div64_any ((wv h l).natAbs / 18446744073709551616) ((wv h l).natAbs % 18446744073709551616) 1000000000000000000 wx (Nat.mod_lt _ (by omega)) (by omega) (by omega)
    rw [Nat.div_add_mod'] at this
    exact this
  · have := repeat_any (18 - (Lib.decDigits ((wv h l).natAbs % 1000000000000000000)).length) (by omega) wx
    rw [Int.natCast_sub (by omega)] at this
    exact this

theorem text_bad (h l : Int) (w : World) (hk : wok h l = false) :
    Calls Tryd.prog 5 #[.agg #[.int .i64 h, .int .i64 l]] w fun e w' => e = .returned (.tuple #[.string ⟨#[]⟩, .int .i64 1]) ∧ Below w.heap.size w w' := by
  have V := Lib.hid (fun (wx : World) => valid_is h l false hk wx)
  clear hk
  go_enter Tryd.func5, Tryd.ntmps5
  go_wp2_with fail
  refine (V.out _).mono ?_
  rintro e w1 ⟨rfl, hb⟩
  have B := Lib.hid (((Below.refl w.heap.size w).alloc (Nat.le_refl _) _).trans (hb.mono (by simp)))
  clear hb
  go_wp2_with fail
  go_ret2
  exact ⟨rfl, B.out⟩

set_option maxRecDepth 100000 in
set_option maxHeartbeats 4000000 in
theorem text_pp (h l : Int) (H L u v k : Nat) (X Y Z : ByteArray) (w : World) (C : TtC w h l H L u v k X Y Z) (hu : 0 < u) (hs : ¬ h < 0) :
    Calls Tryd.prog 5 #[.agg #[.int .i64 h, .int .i64 l]] w fun e w' => e = .returned (.tuple #[.string (Y ++ Z ++ X), .int .i64 0]) ∧ Below w.heap.size w w' := by
  have HC := Lib.hid C
  have sx := C.sx
  have k1 := C.k1
  have sy := C.sy
  have sz := C.sz
  clear C
  have T := Lib.hid (One.new w (.int .i64 h) (.int .i64 l) 23)
  have hu' : (0 : Int) < (u : Int) := by omega
  go_enter Tryd.func5, Tryd.ntmps5
  go_wp2_with fail
  refine (HC.out.fv _).mono ?_
  rintro e w1 ⟨rfl, hb⟩
  have T := Lib.hid (T.out.keep hb)
  clear hb
  obtain ⟨⟨i0, i1, _, _, _⟩, _⟩ := id T.out
  go_wp2_with fail
  refine (HC.out.fh _).mono ?_
  rintro e w2 ⟨rfl, hb⟩
  have T := Lib.hid (T.out.keep hb)
  clear hb i0 i1
  obtain ⟨⟨i0, i1, _, _, _⟩, _⟩ := id T.out
  go_wp2_with fail
  refine (HC.out.fd _).mono ?_
  rintro e w3 ⟨rfl, hb⟩
  have T := Lib.hid (T.out.keep hb)
  clear hb i0 i1
  obtain ⟨⟨i0, i1, _, _, _⟩, _⟩ := id T.out
  go_wp2_with fail
  refine (HC.out.fx _ T.out.bel).mono ?_
  rintro e w4 ⟨rfl, hb⟩
  have T := Lib.hid (T.out.keep hb)
  clear hb i0 i1
  obtain ⟨⟨i0, i1, _, _, _⟩, _⟩ := id T.out
  go_wp2_with fail
  refine (HC.out.fy _ T.out.bel).mono ?_
  rintro e w5 ⟨rfl, hb⟩
  have T := Lib.hid (T.out.keep hb)
  clear hb i0 i1
  obtain ⟨⟨i0, i1, _, _, _⟩, _⟩ := id T.out
  go_wp2_with fail
  refine (HC.out.fz _).mono ?_
  rintro e w6 ⟨rfl, hb⟩
  have T := Lib.hid (T.out.keep hb)
  clear hb i0 i1
  obtain ⟨⟨i0, i1, _, _, _⟩, _⟩ := id T.out
  go_wp2_with fail
  go_ret2
  exact ⟨rfl, T.out.bel⟩

set_option maxRecDepth 100000 in
set_option maxHeartbeats 4000000 in
theorem text_pn (h l : Int) (H L u v k : Nat) (X Y Z : ByteArray) (w : World) (C : TtC w h l H L u v k X Y Z) (hu : 0 < u) (hs : h < 0) :
    Calls Tryd.prog 5 #[.agg #[.int .i64 h, .int .i64 l]] w fun e w' => e = .returned (.tuple #[.string ((⟨#[45]⟩ : ByteArray) ++ (Y ++ Z ++ X)), .int .i64 0]) ∧ Below w.heap.size w w' := by
  have HC := Lib.hid C
  have sx := C.sx
  have k1 := C.k1
  have sy := C.sy
  have sz := C.sz
  clear C
  have T := Lib.hid (One.new w (.int .i64 h) (.int .i64 l) 23)
  have hu' : (0 : Int) < (u : Int) := by omega
  go_enter Tryd.func5, Tryd.ntmps5
  go_wp2_with fail
  refine (HC.out.fv _).mono ?_
  rintro e w1 ⟨rfl, hb⟩
  have T := Lib.hid (T.out.keep hb)
  clear hb
  obtain ⟨⟨i0, i1, _, _, _⟩, _⟩ := id T.out
  go_wp2_with fail
  refine (HC.out.fh _).mono ?_
  rintro e w2 ⟨rfl, hb⟩
  have T := Lib.hid (T.out.keep hb)
  clear hb i0 i1
  obtain ⟨⟨i0, i1, _, _, _⟩, _⟩ := id T.out
  go_wp2_with fail
  refine (HC.out.fd _).mono ?_
  rintro e w3 ⟨rfl, hb⟩
  have T := Lib.hid (T.out.keep hb)
  clear hb i0 i1
  obtain ⟨⟨i0, i1, _, _, _⟩, _⟩ := id T.out
  go_wp2_with fail
  refine (HC.out.fx _ T.out.bel).mono ?_
  rintro e w4 ⟨rfl, hb⟩
  have T := Lib.hid (T.out.keep hb)
  clear hb i0 i1
  obtain ⟨⟨i0, i1, _, _, _⟩, _⟩ := id T.out
  go_wp2_with fail
  refine (HC.out.fy _ T.out.bel).mono ?_
  rintro e w5 ⟨rfl, hb⟩
  have T := Lib.hid (T.out.keep hb)
  clear hb i0 i1
  obtain ⟨⟨i0, i1, _, _, _⟩, _⟩ := id T.out
  go_wp2_with fail
  refine (HC.out.fz _).mono ?_
  rintro e w6 ⟨rfl, hb⟩
  have T := Lib.hid (T.out.keep hb)
  clear hb i0 i1
  obtain ⟨⟨i0, i1, _, _, _⟩, _⟩ := id T.out
  go_wp2_with fail
  go_ret2
  exact ⟨rfl, T.out.bel⟩

set_option maxRecDepth 100000 in
set_option maxHeartbeats 4000000 in
theorem text_zp (h l : Int) (H L u v k : Nat) (X Y Z : ByteArray) (w : World) (C : TtC w h l H L u v k X Y Z) (hu : u = 0) (hs : ¬ h < 0) :
    Calls Tryd.prog 5 #[.agg #[.int .i64 h, .int .i64 l]] w fun e w' => e = .returned (.tuple #[.string (X), .int .i64 0]) ∧ Below w.heap.size w w' := by
  have HC := Lib.hid C
  have sx := C.sx
  have k1 := C.k1
  have sy := C.sy
  have sz := C.sz
  clear C
  have T := Lib.hid (One.new w (.int .i64 h) (.int .i64 l) 23)
  subst hu
  go_enter Tryd.func5, Tryd.ntmps5
  go_wp2_with fail
  refine (HC.out.fv _).mono ?_
  rintro e w1 ⟨rfl, hb⟩
  have T := Lib.hid (T.out.keep hb)
  clear hb
  obtain ⟨⟨i0, i1, _, _, _⟩, _⟩ := id T.out
  go_wp2_with fail
  refine (HC.out.fh _).mono ?_
  rintro e w2 ⟨rfl, hb⟩
  have T := Lib.hid (T.out.keep hb)
  clear hb i0 i1
  obtain ⟨⟨i0, i1, _, _, _⟩, _⟩ := id T.out
  go_wp2_with fail
  refine (HC.out.fd _).mono ?_
  rintro e w3 ⟨rfl, hb⟩
  have T := Lib.hid (T.out.keep hb)
  clear hb i0 i1
  obtain ⟨⟨i0, i1, _, _, _⟩, _⟩ := id T.out
  go_wp2_with fail
  refine (HC.out.fx _ T.out.bel).mono ?_
  rintro e w4 ⟨rfl, hb⟩
  have T := Lib.hid (T.out.keep hb)
  clear hb i0 i1
  obtain ⟨⟨i0, i1, _, _, _⟩, _⟩ := id T.out
  go_wp2_with fail
  go_ret2
  exact ⟨rfl, T.out.bel⟩

set_option maxRecDepth 100000 in
set_option maxHeartbeats 4000000 in
theorem text_zn (h l : Int) (H L u v k : Nat) (X Y Z : ByteArray) (w : World) (C : TtC w h l H L u v k X Y Z) (hu : u = 0) (hs : h < 0) :
    Calls Tryd.prog 5 #[.agg #[.int .i64 h, .int .i64 l]] w fun e w' => e = .returned (.tuple #[.string ((⟨#[45]⟩ : ByteArray) ++ X), .int .i64 0]) ∧ Below w.heap.size w w' := by
  have HC := Lib.hid C
  have sx := C.sx
  have k1 := C.k1
  have sy := C.sy
  have sz := C.sz
  clear C
  have T := Lib.hid (One.new w (.int .i64 h) (.int .i64 l) 23)
  subst hu
  go_enter Tryd.func5, Tryd.ntmps5
  go_wp2_with fail
  refine (HC.out.fv _).mono ?_
  rintro e w1 ⟨rfl, hb⟩
  have T := Lib.hid (T.out.keep hb)
  clear hb
  obtain ⟨⟨i0, i1, _, _, _⟩, _⟩ := id T.out
  go_wp2_with fail
  refine (HC.out.fh _).mono ?_
  rintro e w2 ⟨rfl, hb⟩
  have T := Lib.hid (T.out.keep hb)
  clear hb i0 i1
  obtain ⟨⟨i0, i1, _, _, _⟩, _⟩ := id T.out
  go_wp2_with fail
  refine (HC.out.fd _).mono ?_
  rintro e w3 ⟨rfl, hb⟩
  have T := Lib.hid (T.out.keep hb)
  clear hb i0 i1
  obtain ⟨⟨i0, i1, _, _, _⟩, _⟩ := id T.out
  go_wp2_with fail
  refine (HC.out.fx _ T.out.bel).mono ?_
  rintro e w4 ⟨rfl, hb⟩
  have T := Lib.hid (T.out.keep hb)
  clear hb i0 i1
  obtain ⟨⟨i0, i1, _, _, _⟩, _⟩ := id T.out
  go_wp2_with fail
  go_ret2
  exact ⟨rfl, T.out.bel⟩

theorem text_ok (h l : Int) (w : World) (hk : wok h l = true) (htab : Lib.TabIs Tryd.prog w "internal/strconv.uint64pow10" .u64 Lib.pow10Tab) :
    Calls Tryd.prog 5 #[.agg #[.int .i64 h, .int .i64 l]] w fun e w' => e = .returned (.tuple #[.string (ba (txt (wv h l))), .int .i64 0]) ∧ Below w.heap.size w w' := by
  have C := ttC w h l hk htab
  have hg := neg_wv h l hk
  obtain ⟨N, hN⟩ : ∃ N, N = (wv h l).natAbs := ⟨_, rfl⟩
  rw [← hN] at C
  have hm := Nat.div_add_mod' N 1000000000000000000
  have hlt := Nat.mod_lt N (show 0 < 1000000000000000000 by omega)
  by_cases hu : N / 1000000000000000000 = 0
  · have e : N % 1000000000000000000 = N := by omega
    by_cases hs : h < 0
    · have hz : wv h l < 0 := of_decide_eq_true (by rw [hg]; exact decide_eq_true hs)
      have := text_zn h l _ _ _ _ _ _ _ _ w C hu hs
      rw [show (⟨#[45]⟩ : ByteArray) = ba [45] from rfl, ba_app, e] at this
      unfold txt
      rw [if_pos hz, ← hN]
      exact this
    · have hz : ¬ wv h l < 0 := of_decide_eq_false (by rw [hg]; exact decide_eq_false hs)
      have := text_zp h l _ _ _ _ _ _ _ _ w C hu hs
      rw [e] at this
      unfold txt
      rw [if_neg hz, ← hN]
      exact this
  · have e := dec_18 (N / 1000000000000000000) (N % 1000000000000000000) (by omega) hlt
    rw [hm] at e
    by_cases hs : h < 0
    · have hz : wv h l < 0 := of_decide_eq_true (by rw [hg]; exact decide_eq_true hs)
      have := text_pn h l _ _ _ _ _ _ _ _ w C (by omega) hs
      rw [show (⟨#[45]⟩ : ByteArray) = ba [45] from rfl, ba_app, ba_app, ba_app, List.append_assoc, ← e] at this
      unfold txt
      rw [if_pos hz, ← hN]
      exact this
    · have hz : ¬ wv h l < 0 := of_decide_eq_false (by rw [hg]; exact decide_eq_false hs)
      have := text_pp h l _ _ _ _ _ _ _ _ w C (by omega) hs
      rw [ba_app, ba_app, List.append_assoc, ← e] at this
      unfold txt
      rw [if_neg hz, ← hN]
      exact this
end Go.Proofs.YtpneahdbiikonaaDoor
