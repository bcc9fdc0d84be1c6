/- Contracts of the small integer functions of decimal and of its reference: they return what plain integer arithmetic says, and write nothing. -/
import Derived.Test.YtjpjgohomajlpaaDoorRows
import Derived.WalkKit
import Derived.WalkSpells
import Derived.WalkLawsBesides
import Derived.Lib.Hide
import Derived.Deep.QuietTactic
import Derived.BigQuiet
namespace Go.Proofs.YtjpjgohomajlpaaDoor
open Go.RowKit
set_option linter.unusedVariables false

def fitsB (n : Int) : Bool := decide (-1152921504606846976 ≤ n ∧ n ≤ 1152921504606846976)
theorem fits_iff (n : Int) : fitsB n = true ↔ (-1152921504606846976 ≤ n ∧ n ≤ 1152921504606846976) := by unfold fitsB; simp
theorem fits_not (n : Int) : fitsB n = false ↔ ¬ (-1152921504606846976 ≤ n ∧ n ≤ 1152921504606846976) := by unfold fitsB; simp

theorem ret_bool {a b : Bool} (h : a = b) : Ending.returned (.bool a) = .returned (.bool b) := by rw [h]
theorem ret_int {k : IntKind} {a b : Int} (h : a = b) : Ending.returned (.int k a) = .returned (.int k b) := by rw [h]

theorem fits_any (n : Int) (w : World) :
    Calls Tryd.prog 22 #[.int .i64 n] w fun e w' => e = .returned (.bool (fitsB n)) ∧ w = w' := by
  by_cases h1 : -1152921504606846976 ≤ n
  · by_cases h2 : n ≤ 1152921504606846976
    · go_enter Tryd.func22, Tryd.ntmps22
      go_wp2
      go_ret
      exact ⟨ret_bool (by unfold fitsB; simp; omega), rfl⟩
    · go_enter Tryd.func22, Tryd.ntmps22
      go_wp2
      go_ret
      exact ⟨ret_bool (by unfold fitsB; simp; omega), rfl⟩
  · go_enter Tryd.func22, Tryd.ntmps22
    go_wp2
    go_ret
    exact ⟨ret_bool (by unfold fitsB; simp; omega), rfl⟩

/-- the number of the multiple of u to which n rounds: floor of (2 n + u) / (2 u) -/
def near (n u : Int) : Int := (2 * n + u) / (2 * u)

theorem near_tdiv_neg (n u : Int) (hu : 1 ≤ u) (h : (2 * n + u).tmod (2 * u) < 0) : (2 * n + u).tdiv (2 * u) - 1 = near n u := by
  unfold near
  generalize hD : 2 * u = D at *
  generalize hN : 2 * n + u = M at *
  have hD1 : 1 ≤ D := by omega
  have e := Int.mul_tdiv_add_tmod M D
  have hlt := Int.tmod_lt_of_pos M (show 0 < D by omega)
  have hgt : -D < M.tmod D := by
    have := Int.lt_tmod_of_pos M (show 0 < D by omega)
    exact this
  generalize M.tdiv D = q at *
  generalize M.tmod D = r at *
  symm
  rw [Int.ediv_eq_iff_of_pos (by omega)]
  constructor
  · rw [Int.sub_mul]; rw [Int.mul_comm]; omega
  · rw [Int.sub_mul, Int.mul_comm]; omega
theorem near_tdiv_pos (n u : Int) (hu : 1 ≤ u) (h : ¬ (2 * n + u).tmod (2 * u) < 0) : (2 * n + u).tdiv (2 * u) = near n u := by
  unfold near
  generalize hD : 2 * u = D at *
  generalize hN : 2 * n + u = M at *
  have hD1 : 1 ≤ D := by omega
  have e := Int.mul_tdiv_add_tmod M D
  have hlt := Int.tmod_lt_of_pos M (show 0 < D by omega)
  generalize M.tdiv D = q at *
  generalize M.tmod D = r at *
  symm
  rw [Int.ediv_eq_iff_of_pos (by omega)]
  constructor
  · rw [Int.mul_comm]; omega
  · rw [Int.mul_comm]; omega

theorem near_le (n u : Int) (hu : 1 ≤ u) (b : Int) (hb : 0 ≤ b) (h : n ≤ b) : near n u ≤ b := by
  unfold near
  have : (2 * n + u) / (2 * u) < b + 1 := by
    rw [Int.ediv_lt_iff_lt_mul (by omega)]
    have h1 : b * 1 ≤ b * u := Int.mul_le_mul_of_nonneg_left hu hb
    have e : (b + 1) * (2 * u) = 2 * (b * u) + 2 * u := by rw [Int.add_mul, Int.mul_left_comm]; omega
    omega
  omega
theorem near_ge (n u : Int) (hu : 1 ≤ u) (b : Int) (hb : b ≤ 0) (h : b ≤ n) : b ≤ near n u := by
  unfold near
  rw [Int.le_ediv_iff_mul_le (by omega)]
  have h1 : (-b) * 1 ≤ (-b) * u := Int.mul_le_mul_of_nonneg_left hu (by omega)
  have e : b * (2 * u) = - (2 * ((-b) * u)) := by rw [Int.mul_left_comm, Int.neg_mul]; omega
  omega
theorem near_mono (n m u : Int) (hu : 1 ≤ u) (h : n ≤ m) : near n u ≤ near m u := by
  unfold near
  exact Int.ediv_le_ediv (by omega) (by omega)
/-- what rounding means: the number lies in the half-open interval around the multiple -/
theorem near_spec (n u : Int) (hu : 1 ≤ u) : -u ≤ 2 * (n - u * near n u) ∧ 2 * (n - u * near n u) < u := by
  unfold near
  have h := Int.mul_ediv_add_emod (2 * n + u) (2 * u)
  have h1 := Int.emod_nonneg (2 * n + u) (show 2 * u ≠ 0 by omega)
  have h2 := Int.emod_lt_of_pos (2 * n + u) (show 0 < 2 * u by omega)
  rw [Int.mul_assoc] at h
  constructor <;> omega
theorem near_unique (n u q : Int) (hu : 1 ≤ u) (h1 : -u ≤ 2 * (n - u * q)) (h2 : 2 * (n - u * q) < u) : near n u = q := by
  unfold near
  rw [Int.ediv_eq_iff_of_pos (by omega)]
  have e : q * (2 * u) = 2 * (u * q) := by rw [Int.mul_left_comm, Int.mul_comm q u]
  omega

set_option maxHeartbeats 400000 in
theorem nearest_any (n u : Int) (w : World) (h1 : -1152921504606846976 ≤ n) (h2 : n ≤ 1152921504606846976) (hu : 1 ≤ u) (hu2 : u ≤ 1099511627776) :
    Calls Tryd.prog 49 #[.int .i64 n, .int .i64 u] w fun e w' => e = .returned (.int .i64 (near n u)) ∧ w = w' := by
  have b1 := near_le n u hu 1152921504606846976 (by omega) h2
  have b2 := near_ge n u hu (-1152921504606846976) (by omega) h1
  by_cases h : (2 * n + u).tmod (2 * u) < 0
  · have e := near_tdiv_neg n u hu h
    have c1 : -1152921504606846976 ≤ (2 * n + u).tdiv (2 * u) - 1 := by omega
    have c2 : (2 * n + u).tdiv (2 * u) - 1 ≤ 1152921504606846976 := by omega
    have E := Lib.hid e
    clear e b1 b2
    go_enter Tryd.func49, Tryd.ntmps49
    go_wp2
    go_ret
    exact ⟨ret_int E.out, rfl⟩
  · have E := Lib.hid (near_tdiv_pos n u hu h)
    clear b1 b2
    go_enter Tryd.func49, Tryd.ntmps49
    go_wp2
    go_ret
    exact ⟨ret_int E.out, rfl⟩

/-- the first error of Round but ErrWide -/
def rErr (lo hi u : Int) : Int := if u < 1 ∨ 1099511627776 < u then 2 else if fitsB lo = false ∨ fitsB hi = false then 5 else if hi < lo then 1 else 0
theorem rErr_ok {lo hi u : Int} (h : rErr lo hi u = 0) : 1 ≤ u ∧ u ≤ 1099511627776 ∧ fitsB lo = true ∧ fitsB hi = true ∧ lo ≤ hi := by
  unfold rErr at h
  split at h
  · simp at h
  split at h
  · simp at h
  split at h
  · simp at h
  rename_i a b c
  simp at b
  exact ⟨by omega, by omega, b.1, b.2, by omega⟩

set_option maxHeartbeats 400000 in
theorem roundEnds_ok (lo hi u : Int) (w : World) (h : rErr lo hi u = 0) :
    Calls Tryd.prog 30 #[.int .i64 lo, .int .i64 hi, .int .i64 u] w fun e w' => e = .returned (.tuple #[.int .i64 (near lo u), .int .i64 (near hi u), .int .i64 0]) ∧ w = w' := by
  obtain ⟨h1, h2, h3, h4, h5⟩ := rErr_ok h
  have k3 := (fits_iff lo).1 h3
  have k4 := (fits_iff hi).1 h4
  have K := Lib.hid h
  clear h
  go_enter Tryd.func30, Tryd.ntmps30
  go_wp2_with (first | (go_at_call 22; refine (fits_any _ _).mono ?_; rintro e w' ⟨rfl, rfl⟩) | (go_at_call 49; refine (nearest_any _ _ _ (by omega) (by omega) (by omega) (by omega)).mono ?_; rintro e w' ⟨rfl, rfl⟩))
  go_ret3
  exact ⟨rfl, rfl⟩

set_option maxHeartbeats 400000 in
theorem roundEnds_err (lo hi u : Int) (w : World) (h : rErr lo hi u ≠ 0) :
    Calls Tryd.prog 30 #[.int .i64 lo, .int .i64 hi, .int .i64 u] w fun e w' => e = .returned (.tuple #[.int .i64 0, .int .i64 0, .int .i64 (rErr lo hi u)]) ∧ w = w' := by
  by_cases h1 : u < 1
  · have K : Hid (rErr lo hi u = 2) := by show rErr lo hi u = 2; unfold rErr; rw [if_pos (by omega)]
    clear h
    go_enter Tryd.func30, Tryd.ntmps30
    go_wp2_with fail
    go_ret3
    exact ⟨by rw [K.out]; rfl, rfl⟩
  by_cases h2 : 1099511627776 < u
  · have K : Hid (rErr lo hi u = 2) := by show rErr lo hi u = 2; unfold rErr; rw [if_pos (by omega)]
    clear h
    go_enter Tryd.func30, Tryd.ntmps30
    go_wp2_with fail
    go_ret3
    exact ⟨by rw [K.out]; rfl, rfl⟩
  cases h3 : fitsB lo
  · have K : Hid (rErr lo hi u = 5) := by show rErr lo hi u = 5; unfold rErr; rw [if_neg (by omega), if_pos (.inl h3)]
    clear h
    go_enter Tryd.func30, Tryd.ntmps30
    go_wp2_with (first | (go_at_call 22; refine (fits_any _ _).mono ?_; rintro e w' ⟨rfl, rfl⟩))
    go_ret3
    exact ⟨by rw [K.out]; rfl, rfl⟩
  cases h4 : fitsB hi
  · have K : Hid (rErr lo hi u = 5) := by show rErr lo hi u = 5; unfold rErr; rw [if_neg (by omega), if_pos (.inr h4)]
    clear h
    go_enter Tryd.func30, Tryd.ntmps30
    go_wp2_with (first | (go_at_call 22; refine (fits_any _ _).mono ?_; rintro e w' ⟨rfl, rfl⟩))
    go_ret3
    exact ⟨by rw [K.out]; rfl, rfl⟩
  by_cases h5 : hi < lo
  · have K : Hid (rErr lo hi u = 1) := by show rErr lo hi u = 1; unfold rErr; rw [if_neg (by omega), if_neg (by simp [h3, h4]), if_pos h5]
    clear h
    go_enter Tryd.func30, Tryd.ntmps30
    go_wp2_with (first | (go_at_call 22; refine (fits_any _ _).mono ?_; rintro e w' ⟨rfl, rfl⟩))
    go_ret3
    exact ⟨by rw [K.out]; rfl, rfl⟩
  · exact absurd (by unfold rErr; rw [if_neg (by omega), if_neg (by simp [h3, h4]), if_neg h5]) h

/-- what Round returns -/
def rdVal (lo hi u : Int) : Int := if rErr lo hi u = 0 ∧ near lo u = near hi u then near lo u else 0
def rdErr (lo hi u : Int) : Int := if rErr lo hi u = 0 then (if near lo u = near hi u then 0 else 24) else rErr lo hi u

set_option maxHeartbeats 400000 in
theorem round_any (lo hi u : Int) (w : World) :
    Calls Tryd.prog 13 #[.int .i64 lo, .int .i64 hi, .int .i64 u] w fun e w' => e = .returned (.tuple #[.int .i64 (rdVal lo hi u), .int .i64 (rdErr lo hi u)]) ∧ w = w' := by
  by_cases h : rErr lo hi u = 0
  · by_cases h2 : near lo u = near hi u
    · have K1 : Hid (rdVal lo hi u = near lo u) := by show rdVal lo hi u = near lo u; unfold rdVal; rw [if_pos ⟨h, h2⟩]
      have K2 : Hid (rdErr lo hi u = 0) := by show rdErr lo hi u = 0; unfold rdErr; rw [if_pos h, if_pos h2]
      have c := roundEnds_ok lo hi u w h
      have h3 : (near lo u == near hi u) = true := by simp [h2]
      have h4 : (near lo u != near hi u) = false := by simp [h2]
      have C := Lib.hid c
      clear c h h2
      go_enter Tryd.func13, Tryd.ntmps13
      go_wp2_with (go_at_call 30; refine C.out.mono ?_; rintro e w' ⟨rfl, rfl⟩)
      go_ret2
      exact ⟨by rw [K1.out, K2.out]; rfl, rfl⟩
    · have K1 : Hid (rdVal lo hi u = 0) := by show rdVal lo hi u = 0; unfold rdVal; rw [if_neg (fun x => h2 x.2)]
      have K2 : Hid (rdErr lo hi u = 24) := by show rdErr lo hi u = 24; unfold rdErr; rw [if_pos h, if_neg h2]
      have c := roundEnds_ok lo hi u w h
      have h3 : (near lo u == near hi u) = false := by simp [h2]
      have h4 : (near lo u != near hi u) = true := by simp [h2]
      have C := Lib.hid c
      clear c h h2
      go_enter Tryd.func13, Tryd.ntmps13
      go_wp2_with (go_at_call 30; refine C.out.mono ?_; rintro e w' ⟨rfl, rfl⟩)
      go_ret2
      exact ⟨by rw [K1.out, K2.out]; rfl, rfl⟩
  · have K1 : Hid (rdVal lo hi u = 0) := by show rdVal lo hi u = 0; unfold rdVal; rw [if_neg (fun x => h x.1)]
    have K2 : Hid (rdErr lo hi u = rErr lo hi u) := by show rdErr lo hi u = rErr lo hi u; unfold rdErr; rw [if_neg h]
    have c := roundEnds_err lo hi u w h
    have h3 : (rErr lo hi u == 0) = false := by simp [h]
    have h4 : (rErr lo hi u != 0) = true := by simp [h]
    have C := Lib.hid c
    clear c h
    go_enter Tryd.func13, Tryd.ntmps13
    go_wp2_with (go_at_call 30; refine C.out.mono ?_; rintro e w' ⟨rfl, rfl⟩)
    go_ret2
    exact ⟨by rw [K1.out, K2.out]; rfl, rfl⟩

end Go.Proofs.YtjpjgohomajlpaaDoor
