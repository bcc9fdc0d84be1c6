/- WideQuotients and WideRoots: the walks of the laws. -/
import Derived.Test.YtpneahdbiikonaaPdt
namespace Go.Proofs.Ytpneahdbiikonaa
open Go.RowKit
set_option linter.unusedVariables false

/-- what the walk of WideQuotients asks of its callees -/
structure QsC (h l b N E M F : Int) : Prop where
  f : ∀ wx, Calls Try.prog 29 #[.agg #[.int .i64 h, .int .i64 l], .int .i64 b] wx fun e w' => e = .returned (.tuple #[.int .i64 N, .int .i64 E]) ∧ Below wx.heap.size wx w'
  c : ∀ wx, Calls Try.prog 30 #[.agg #[.int .i64 h, .int .i64 l], .int .i64 b] wx fun e w' => e = .returned (.tuple #[.int .i64 M, .int .i64 F]) ∧ Below wx.heap.size wx w'
  q : ∀ wx, Calls Try.prog 31 #[.agg #[.int .i64 h, .int .i64 l], .int .i64 b, .bool false] wx fun e w' => e = .returned (.tuple #[.int .i64 N, .int .i64 E]) ∧ Below wx.heap.size wx w'
  r : ∀ wx, Calls Try.prog 31 #[.agg #[.int .i64 h, .int .i64 l], .int .i64 b, .bool true] wx fun e w' => e = .returned (.tuple #[.int .i64 M, .int .i64 F]) ∧ Below wx.heap.size wx w'

theorem rvalid_is (h l : Int) (b : Bool) (hk : wok h l = b) (w : World) : Calls Try.prog 13 #[.agg #[.int .i64 h, .int .i64 l]] w fun e w' => e = .returned (.bool b) ∧ Below w.heap.size w w' := by
  have := rvalid_any h l w; rw [hk] at this; exact this

theorem qsC (h l b : Int) (hk : wok h l = true) (b1 : -9223372036854775808 ≤ b) (b2 : b ≤ 9223372036854775807) : QsC h l b (rqV h l b true) (rqE h l b true) (rqV h l b false) (rqE h l b false) := by
  refine ⟨fun wx => floor_any h l b wx b1 b2, fun wx => ceil_any h l b wx b1 b2, fun wx => ?_, fun wx => ?_⟩
  · unfold rqV rqE
    by_cases hb : b = 0
    · subst hb
      rw [if_neg (fun h => h.2 rfl), if_pos hk, if_pos rfl]
      exact rquo_zero h l false wx
    · rw [if_pos ⟨hk, hb⟩, if_pos hk, if_neg hb]
      unfold qt
      rw [if_pos rfl]
      exact rquo_down h l b _ _ wx hb (qtC h l b hk hb b1 b2)
  · unfold rqV rqE
    by_cases hb : b = 0
    · subst hb
      rw [if_neg (fun h => h.2 rfl), if_pos hk, if_pos rfl]
      exact rquo_zero h l true wx
    · rw [if_pos ⟨hk, hb⟩, if_pos hk, if_neg hb]
      unfold qt
      rw [if_neg (by simp)]
      exact rquo_up h l b _ _ wx hb (qtC h l b hk hb b1 b2)

set_option maxRecDepth 100000 in
set_option maxHeartbeats 4000000 in
theorem qts_bad (h l b : Int) (w : World) (hk : wok h l = false) (b1 : -9223372036854775808 ≤ b) (b2 : b ≤ 9223372036854775807) :
    Calls Try.prog 6 #[.agg #[.int .i64 h, .int .i64 l], .int .i64 b] w fun e w' => e = .returned (.bool true) ∧ Below w.heap.size w w' := by
  have T := Lib.hid (One.new w (.int .i64 h) (.int .i64 l) 23)
  have HV := Lib.hid (fun (wx : World) => rvalid_is h l false hk wx)
  have ev : ∀ d, rqV h l b d = 0 := fun d => by unfold rqV; rw [if_neg (fun h => by rw [hk] at h; cases h.1)]
  have ee : ∀ d, rqE h l b d = 1 := fun d => by unfold rqE; rw [if_neg (fun h => by rw [hk] at h; cases h)]
  have HF := Lib.hid (fun (wx : World) => floor_any h l b wx b1 b2)
  have HE := Lib.hid (fun (wx : World) => ceil_any h l b wx b1 b2)
  rw [ev, ee] at HF HE
  clear hk ev ee
  go_enter Try.func6, Try.ntmps6
  go_wp2_with fail
  refine (awake_any _).mono ?_
  rintro e w1 ⟨rfl, hb⟩
  have T := Lib.hid (T.out.keep hb)
  clear hb
  obtain ⟨⟨i0, i1, _, _, _⟩, _⟩ := id T.out
  go_wp2_with fail
  refine (HF.out _).mono ?_
  rintro e w2 ⟨rfl, hb⟩
  have T := Lib.hid (T.out.keep hb)
  clear hb i0 i1
  obtain ⟨⟨i0, i1, _, _, _⟩, _⟩ := id T.out
  go_wp2_with fail
  refine (HE.out _).mono ?_
  rintro e w3 ⟨rfl, hb⟩
  have T := Lib.hid (T.out.keep hb)
  clear hb i0 i1
  obtain ⟨⟨i0, i1, _, _, _⟩, _⟩ := id T.out
  go_wp2_with fail
  refine (HV.out _).mono ?_
  rintro e w4 ⟨rfl, hb⟩
  have T := Lib.hid (T.out.keep hb)
  clear hb i0 i1
  obtain ⟨⟨i0, i1, _, _, _⟩, _⟩ := id T.out
  go_wp2_with fail
  go_ret
  exact ⟨rfl, T.out.bel⟩
set_option maxRecDepth 100000 in
set_option maxHeartbeats 4000000 in
theorem qts_ok (h l b N E M F : Int) (w : World) (hk : wok h l = true) (C : QsC h l b N E M F) :
    Calls Try.prog 6 #[.agg #[.int .i64 h, .int .i64 l], .int .i64 b] w fun e w' => e = .returned (.bool true) ∧ Below w.heap.size w w' := by
  have T := Lib.hid (One.new w (.int .i64 h) (.int .i64 l) 23)
  have HV := Lib.hid (fun (wx : World) => rvalid_is h l true hk wx)
  have HC := Lib.hid C
  clear hk C
  go_enter Try.func6, Try.ntmps6
  go_wp2_with fail
  refine (awake_any _).mono ?_
  rintro e w1 ⟨rfl, hb⟩
  have T := Lib.hid (T.out.keep hb)
  clear hb
  obtain ⟨⟨i0, i1, _, _, _⟩, _⟩ := id T.out
  go_wp2_with fail
  refine (HC.out.f _).mono ?_
  rintro e w2 ⟨rfl, hb⟩
  have T := Lib.hid (T.out.keep hb)
  clear hb i0 i1
  obtain ⟨⟨i0, i1, _, _, _⟩, _⟩ := id T.out
  go_wp2_with fail
  refine (HC.out.c _).mono ?_
  rintro e w3 ⟨rfl, hb⟩
  have T := Lib.hid (T.out.keep hb)
  clear hb i0 i1
  obtain ⟨⟨i0, i1, _, _, _⟩, _⟩ := id T.out
  go_wp2_with fail
  refine (HV.out _).mono ?_
  rintro e w4 ⟨rfl, hb⟩
  have T := Lib.hid (T.out.keep hb)
  clear hb i0 i1
  obtain ⟨⟨i0, i1, _, _, _⟩, _⟩ := id T.out
  go_wp2_with fail
  refine (HC.out.q _).mono ?_
  rintro e w5 ⟨rfl, hb⟩
  have T := Lib.hid (T.out.keep hb)
  clear hb i0 i1
  obtain ⟨⟨i0, i1, _, _, _⟩, _⟩ := id T.out
  go_wp2_with fail
  refine (HC.out.r _).mono ?_
  rintro e w6 ⟨rfl, hb⟩
  have T := Lib.hid (T.out.keep hb)
  clear hb i0 i1
  obtain ⟨⟨i0, i1, _, _, _⟩, _⟩ := id T.out
  go_wp2_with fail
  go_ret
  exact ⟨rfl, T.out.bel⟩

theorem qts_any (h l b : Int) (w : World) (b1 : -9223372036854775808 ≤ b) (b2 : b ≤ 9223372036854775807) :
    Calls Try.prog 6 #[.agg #[.int .i64 h, .int .i64 l], .int .i64 b] w fun e w' => e = .returned (.bool true) ∧ Below w.heap.size w w' := by
  cases hk : wok h l
  · exact qts_bad h l b w hk b1 b2
  · exact qts_ok h l b _ _ _ _ w hk (qsC h l b hk b1 b2)

set_option maxRecDepth 100000 in
set_option maxHeartbeats 4000000 in
theorem rts_bad (h l : Int) (w : World) (hk : wok h l = false) :
    Calls Try.prog 7 #[.agg #[.int .i64 h, .int .i64 l]] w fun e w' => e = .returned (.bool true) ∧ Below w.heap.size w w' := by
  have T := Lib.hid (One.new w (.int .i64 h) (.int .i64 l) 23)
  have HV := Lib.hid (fun (wx : World) => rvalid_is h l false hk wx)
  have HR := Lib.hid (fun (wx : World) => Root_bad h l wx hk)
  clear hk
  go_enter Try.func7, Try.ntmps7
  go_wp2_with fail
  refine (awake_any _).mono ?_
  rintro e w1 ⟨rfl, hb⟩
  have T := Lib.hid (T.out.keep hb)
  clear hb
  obtain ⟨⟨i0, i1, _, _, _⟩, _⟩ := id T.out
  go_wp2_with fail
  refine (HR.out _).mono ?_
  rintro e w2 ⟨rfl, hb⟩
  have T := Lib.hid (T.out.keep hb)
  clear hb i0 i1
  obtain ⟨⟨i0, i1, _, _, _⟩, _⟩ := id T.out
  go_wp2_with fail
  refine (HV.out _).mono ?_
  rintro e w3 ⟨rfl, hb⟩
  have T := Lib.hid (T.out.keep hb)
  clear hb i0 i1
  obtain ⟨⟨i0, i1, _, _, _⟩, _⟩ := id T.out
  go_wp2_with fail
  go_ret
  exact ⟨rfl, T.out.bel⟩
set_option maxRecDepth 100000 in
set_option maxHeartbeats 4000000 in
theorem rts_neg (h l : Int) (w : World) (hk : wok h l = true) (hh : h < 0) :
    Calls Try.prog 7 #[.agg #[.int .i64 h, .int .i64 l]] w fun e w' => e = .returned (.bool true) ∧ Below w.heap.size w w' := by
  have T := Lib.hid (One.new w (.int .i64 h) (.int .i64 l) 23)
  have HV := Lib.hid (fun (wx : World) => rvalid_is h l true hk wx)
  have HR := Lib.hid (fun (wx : World) => Root_neg h l wx hk hh)
  have hw := (wok_iff h l).1 hk
  have HQ := Lib.hid (fun (wx : World) => rroot_neg h l wx (by unfold wv; omega) (fun wy => ofwide_any h l wy (by omega) (by omega) (by omega) (by omega)))
  clear hk hw hh
  go_enter Try.func7, Try.ntmps7
  go_wp2_with fail
  refine (awake_any _).mono ?_
  rintro e w1 ⟨rfl, hb⟩
  have T := Lib.hid (T.out.keep hb)
  clear hb
  obtain ⟨⟨i0, i1, _, _, _⟩, _⟩ := id T.out
  go_wp2_with fail
  refine (HR.out _).mono ?_
  rintro e w2 ⟨rfl, hb⟩
  have T := Lib.hid (T.out.keep hb)
  clear hb i0 i1
  obtain ⟨⟨i0, i1, _, _, _⟩, _⟩ := id T.out
  go_wp2_with fail
  refine (HV.out _).mono ?_
  rintro e w3 ⟨rfl, hb⟩
  have T := Lib.hid (T.out.keep hb)
  clear hb i0 i1
  obtain ⟨⟨i0, i1, _, _, _⟩, _⟩ := id T.out
  go_wp2_with fail
  refine (HQ.out _).mono ?_
  rintro e w4 ⟨rfl, hb⟩
  have T := Lib.hid (T.out.keep hb)
  clear hb i0 i1
  obtain ⟨⟨i0, i1, _, _, _⟩, _⟩ := id T.out
  go_wp2_with fail
  go_ret
  exact ⟨rfl, T.out.bel⟩
set_option maxRecDepth 100000 in
set_option maxHeartbeats 4000000 in
theorem rts_ok (h l r : Int) (w : World) (hk : wok h l = true) (C1 : ∀ wx, Calls Try.prog 32 #[.agg #[.int .i64 h, .int .i64 l]] wx fun e w' => e = .returned (.tuple #[.int .i64 r, .int .i64 0]) ∧ Below wx.heap.size wx w') (C2 : ∀ wx, Calls Try.prog 33 #[.agg #[.int .i64 h, .int .i64 l]] wx fun e w' => e = .returned (.tuple #[.int .i64 r, .int .i64 0]) ∧ Below wx.heap.size wx w') :
    Calls Try.prog 7 #[.agg #[.int .i64 h, .int .i64 l]] w fun e w' => e = .returned (.bool true) ∧ Below w.heap.size w w' := by
  have T := Lib.hid (One.new w (.int .i64 h) (.int .i64 l) 23)
  have HV := Lib.hid (fun (wx : World) => rvalid_is h l true hk wx)
  have HR := Lib.hid C1
  have HQ := Lib.hid C2
  clear hk C1 C2
  go_enter Try.func7, Try.ntmps7
  go_wp2_with fail
  refine (awake_any _).mono ?_
  rintro e w1 ⟨rfl, hb⟩
  have T := Lib.hid (T.out.keep hb)
  clear hb
  obtain ⟨⟨i0, i1, _, _, _⟩, _⟩ := id T.out
  go_wp2_with fail
  refine (HR.out _).mono ?_
  rintro e w2 ⟨rfl, hb⟩
  have T := Lib.hid (T.out.keep hb)
  clear hb i0 i1
  obtain ⟨⟨i0, i1, _, _, _⟩, _⟩ := id T.out
  go_wp2_with fail
  refine (HV.out _).mono ?_
  rintro e w3 ⟨rfl, hb⟩
  have T := Lib.hid (T.out.keep hb)
  clear hb i0 i1
  obtain ⟨⟨i0, i1, _, _, _⟩, _⟩ := id T.out
  go_wp2_with fail
  refine (HQ.out _).mono ?_
  rintro e w4 ⟨rfl, hb⟩
  have T := Lib.hid (T.out.keep hb)
  clear hb i0 i1
  obtain ⟨⟨i0, i1, _, _, _⟩, _⟩ := id T.out
  go_wp2_with fail
  go_ret
  exact ⟨rfl, T.out.bel⟩

theorem nat_sqrt (N : Nat) : ∃ R, R * R ≤ N ∧ N < (R + 1) * (R + 1) := by
  induction N with
  | zero => exact ⟨0, by omega, by omega⟩
  | succ N ih =>
    obtain ⟨R, h1, h2⟩ := ih
    rcases Nat.lt_or_ge (N + 1) ((R + 1) * (R + 1)) with q | q
    · exact ⟨R, by omega, q⟩
    · refine ⟨R + 1, q, ?_⟩
      have : (R + 1) * (R + 1) + 1 ≤ (R + 1 + 1) * (R + 1 + 1) := by
        have e : (R + 1 + 1) * (R + 1 + 1) = (R + 1) * (R + 1) + 2 * (R + 1) + 1 := by rw [Nat.add_mul (R + 1) 1, Nat.mul_add (R + 1) (R + 1) 1]; omega
        omega
      omega

theorem rts_any (h l : Int) (w : World) :
    Calls Try.prog 7 #[.agg #[.int .i64 h, .int .i64 l]] w fun e w' => e = .returned (.bool true) ∧ Below w.heap.size w w' := by
  cases hk : wok h l
  · exact rts_bad h l w hk
  · by_cases hh : h < 0
    · exact rts_neg h l w hk hh
    · have hw := (wok_iff h l).1 hk
      have hv : 0 ≤ wv h l := by unfold wv; omega
      obtain ⟨R, r1, r2⟩ := nat_sqrt (wv h l).natAbs
      refine rts_ok h l (R : Int) w hk (fun wx => ?_) (fun wx => ?_)
      · exact Root_ok h l R wx hk (by omega) (by have := Int.ofNat_le.2 r1; omega) (by have := Int.ofNat_lt.2 r2; omega)
      · exact rroot_ok h l (R : Int) R wx (by omega) (rtC h l R hk (by omega) r1 r2)
end Go.Proofs.Ytpneahdbiikonaa
