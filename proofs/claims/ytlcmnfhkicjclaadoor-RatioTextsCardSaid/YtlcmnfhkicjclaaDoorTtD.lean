/- Contract of the reference's Decimal. -/
import Derived.Test.YtlcmnfhkicjclaaDoorTtP
namespace Go.Proofs.YtlcmnfhkicjclaaDoor
open Go.RowKit
set_option linter.unusedVariables false

theorem enc_byte (r : Nat) (h : r < 10) : Utf8.encode (48 + (r : Int)) = ba [UInt8.ofNat (48 + r)] := by
  rcases (show r = 0 ∨ r = 1 ∨ r = 2 ∨ r = 3 ∨ r = 4 ∨ r = 5 ∨ r = 6 ∨ r = 7 ∨ r = 8 ∨ r = 9 by omega) with rfl | rfl | rfl | rfl | rfl | rfl | rfl | rfl | rfl | rfl <;> decide
set_option maxRecDepth 100000 in
theorem dcm_pos (m : Nat) : m ≤ 1073741824 → ∀ w : World,
    Calls Tryd.prog 57 #[.int .i64 (m : Int)] w fun e w' => e = .returned (.string (ba (Lib.decDigits m))) ∧ w' = w := by
  induction m using Nat.strongRecOn with
  | ind m ih =>
    intro hm w
    obtain ⟨n, hn⟩ : ∃ n, n = (m : Int) := ⟨_, rfl⟩
    have n0 : 0 ≤ n := by omega
    have n1 : n ≤ 1073741824 := by omega
    by_cases h : m < 10
    · have n2 : n < 10 := by omega
      have e : Int.tmod n 10 = n := Int.tmod_eq_of_lt n0 n2
      have E : Hid (Utf8.encode (48 + n) = ba (Lib.decDigits m)) := by rw [hn, dec_small h]; exact enc_byte m h
      obtain ⟨Y, hY⟩ : ∃ Y, Utf8.encode (48 + n) = Y := ⟨_, rfl⟩
      rw [hY] at E
      obtain ⟨R, hR⟩ : ∃ R, R = ba (Lib.decDigits m) := ⟨_, rfl⟩
      rw [← hR] at E ⊢
      rw [← hn]
      clear ih hn hR hm h
      go_enter Tryd.func57, Tryd.ntmps57
      go_wp2_with fail
      go_ret
      exact ⟨by rw [← E.out]; rfl, rfl⟩
    · obtain ⟨q, hq⟩ : ∃ q, q = m / 10 := ⟨_, rfl⟩
      obtain ⟨r, hr⟩ : ∃ r, r = m % 10 := ⟨_, rfl⟩
      have CI := Lib.hid (ih q (by omega) (by omega))
      have E : Hid (ba (Lib.decDigits m) = ba (Lib.decDigits q) ++ Utf8.encode (48 + (r : Int))) := by
        show _ = _
        rw [enc_byte r (by omega), ba_app, dec_big h, hq, hr]
      have sx : (ba (Lib.decDigits q)).size ≤ 20 := by rw [ba_size]; have := dec_len q 9 (by omega); omega
      have sy : (Utf8.encode (48 + (r : Int))).size ≤ 4 := by rw [enc_byte r (by omega), ba_size]; simp
      obtain ⟨X, hX⟩ : ∃ X, X = ba (Lib.decDigits q) := ⟨_, rfl⟩
      obtain ⟨t, ht⟩ : ∃ t, t = (r : Int) := ⟨_, rfl⟩
      obtain ⟨u, hu⟩ : ∃ u, u = (q : Int) := ⟨_, rfl⟩
      have e1 : Int.tmod n 10 = t := by rw [hn, ht, hr]; rfl
      have e2 : Int.tdiv n 10 = u := by rw [hn, hu, hq]; rfl
      rw [← ht] at E sy
      rw [← hX] at CI E sx
      rw [← hu] at CI
      obtain ⟨Y, hY⟩ : ∃ Y, Utf8.encode (48 + t) = Y := ⟨_, rfl⟩
      rw [hY] at E sy
      obtain ⟨R, hR⟩ : ∃ R, R = ba (Lib.decDigits m) := ⟨_, rfl⟩
      rw [← hR] at E ⊢
      rw [← hn]
      have u1 : -1073741824 ≤ u := by omega
      have u2 : u ≤ 1073741824 := by omega
      have t1 : 0 ≤ t := by omega
      have t2 : t < 10 := by omega
      have n2 : 10 ≤ n := by omega
      clear ih hX hq hr hm h hn ht hu hR
      go_enter Tryd.func57, Tryd.ntmps57
      go_wp2_with fail
      refine (CI.out _).mono ?_
      rintro e w1 ⟨rfl, rfl⟩
      go_wp2_with fail
      go_ret
      exact ⟨by rw [E.out]; rfl, rfl⟩
set_option maxRecDepth 100000 in
theorem dcm_neg (m : Nat) : 0 < m → m ≤ 1073741824 → ∀ w : World,
    Calls Tryd.prog 57 #[.int .i64 (-(m : Int))] w fun e w' => e = .returned (.string (ba (45 :: Lib.decDigits m))) ∧ w' = w := by
  induction m using Nat.strongRecOn with
  | ind m ih =>
    intro hm0 hm w
    by_cases h : m < 10
    · have E : Hid (⟨#[45]⟩ ++ Utf8.encode (48 + (m : Int)) = ba (45 :: Lib.decDigits m)) := by
        show ba [45] ++ _ = _
        rw [enc_byte m h, ba_app, dec_small h]; rfl
      have sy : (Utf8.encode (48 + (m : Int))).size ≤ 4 := by rw [enc_byte m h, ba_size]; simp
      obtain ⟨n, hn⟩ : ∃ n, n = -(m : Int) := ⟨_, rfl⟩
      rw [show (48 : Int) + (m : Int) = 48 - n by omega] at E sy
      rw [← hn]
      have n1 : -10 < n := by omega
      have n2 : n < 0 := by omega
      obtain ⟨Y, hY⟩ : ∃ Y, Utf8.encode (48 - n) = Y := ⟨_, rfl⟩
      rw [hY] at E sy
      clear ih hn
      go_enter Tryd.func57, Tryd.ntmps57
      go_wp2_with fail
      go_ret
      exact ⟨by rw [← E.out]; rfl, rfl⟩
    · obtain ⟨q, hq⟩ : ∃ q, q = m / 10 := ⟨_, rfl⟩
      obtain ⟨r, hr⟩ : ∃ r, r = m % 10 := ⟨_, rfl⟩
      have CI := Lib.hid (ih q (by omega) (by omega) (by omega))
      have E : Hid (ba (45 :: Lib.decDigits m) = ba (45 :: Lib.decDigits q) ++ Utf8.encode (48 + (r : Int))) := by
        show _ = _
        rw [enc_byte r (by omega), ba_app, dec_big h, hq, hr]; rfl
      have sx : (ba (45 :: Lib.decDigits q)).size ≤ 20 := by rw [ba_size, List.length_cons]; have := dec_len q 9 (by omega); omega
      have sy : (Utf8.encode (48 + (r : Int))).size ≤ 4 := by rw [enc_byte r (by omega), ba_size]; simp
      obtain ⟨X, hX⟩ : ∃ X, X = ba (45 :: Lib.decDigits q) := ⟨_, rfl⟩
      rw [← hX] at CI E sx
      obtain ⟨n, hn⟩ : ∃ n, n = -(m : Int) := ⟨_, rfl⟩
      obtain ⟨t, ht⟩ : ∃ t, t = -(r : Int) := ⟨_, rfl⟩
      obtain ⟨u, hu⟩ : ∃ u, u = -(q : Int) := ⟨_, rfl⟩
      have e1 : Int.tmod n 10 = t := by rw [hn, ht, hr, Int.neg_tmod]; rfl
      have e2 : Int.tdiv n 10 = u := by rw [hn, hu, hq, Int.neg_tdiv]; rfl
      rw [show (48 : Int) + (r : Int) = 48 - t by omega] at E sy
      rw [← hu] at CI
      rw [← hn]
      have n1 : ¬ -10 < n := by omega
      have n2 : n < 0 := by omega
      have n3 : -1073741824 ≤ n := by omega
      have u1 : -1073741824 ≤ u := by omega
      have u2 : u ≤ 1073741824 := by omega
      have t1 : -10 < t := by omega
      have t2 : t ≤ 0 := by omega
      obtain ⟨Y, hY⟩ : ∃ Y, Utf8.encode (48 - t) = Y := ⟨_, rfl⟩
      rw [hY] at E sy
      clear ih hX hn ht hu hq hr hm h hm0
      go_enter Tryd.func57, Tryd.ntmps57
      go_wp2_with fail
      refine (CI.out _).mono ?_
      rintro e w1 ⟨rfl, rfl⟩
      go_wp2_with fail
      go_ret
      exact ⟨by rw [E.out]; rfl, rfl⟩
set_option maxRecDepth 100000 in
theorem dcm_any (n : Int) (w : World) (h1 : -1073741824 ≤ n) (h2 : n ≤ 1073741824) :
    Calls Tryd.prog 57 #[.int .i64 n] w fun e w' => e = .returned (.string (ba (Lib.itoa n))) ∧ w' = w := by
  unfold Lib.itoa
  by_cases h : n < 0
  · rw [if_pos h]
    have := dcm_neg n.natAbs (by omega) (by omega) w
    rw [show -(n.natAbs : Int) = n by omega] at this
    exact this
  · rw [if_neg h]
    have := dcm_pos n.toNat (by omega) w
    rw [show (n.toNat : Int) = n by omega] at this
    exact this

set_option maxHeartbeats 1000000 in
theorem rtext_ok (n d : Int) (w : World) (k1 : -1073741824 ≤ n) (k2 : n ≤ 1073741824) (k3 : 1 ≤ d) (k4 : d ≤ 1073741824) :
    Calls Tryd.prog 40 #[.agg #[.int .i64 n, .int .i64 d]] w fun e w' => e = .returned (.string (ba (rtx n d))) ∧ Below w.heap.size w w' := by
  have CN := Lib.hid (fun wx => dcm_any n wx k1 k2)
  have CD := Lib.hid (fun wx => dcm_any d wx (by omega) k4)
  have sx : (ba (Lib.itoa n)).size ≤ 11 := by rw [ba_size]; exact itoa_len n k1 k2
  have sy : (ba (Lib.itoa d)).size ≤ 11 := by rw [ba_size]; exact itoa_len d (by omega) k4
  by_cases h1 : d = 1
  · subst h1
    have E : Hid (ba (rtx n 1) = ba (Lib.itoa n)) := rfl
    obtain ⟨R, hR⟩ : ∃ R, R = ba (rtx n 1) := ⟨_, rfl⟩
    rw [← hR] at E ⊢
    obtain ⟨X, hX⟩ : ∃ X, X = ba (Lib.itoa n) := ⟨_, rfl⟩
    rw [← hX] at E CN sx
    clear hR hX CD k1 k2 k3 k4
    go_enter Tryd.func40, Tryd.ntmps40
    go_wp2_with fail
    refine (CN.out _).mono ?_
    rintro e w1 ⟨rfl, rfl⟩
    go_wp2_with fail
    go_ret
    exact ⟨by rw [E.out]; rfl, below1 _ _⟩
  · have E : Hid (ba (rtx n d) = ba (Lib.itoa n) ++ ⟨#[47]⟩ ++ ba (Lib.itoa d)) := by
      show ba (rtx n d) = ba (Lib.itoa n) ++ ba [47] ++ ba (Lib.itoa d)
      rw [ba_app, ba_app]
      unfold rtx
      rw [if_neg h1]; simp
    have t1 : (d != 1) = true := by rw [bne_iff_ne]; exact h1
    obtain ⟨R, hR⟩ : ∃ R, R = ba (rtx n d) := ⟨_, rfl⟩
    rw [← hR] at E ⊢
    obtain ⟨X, hX⟩ : ∃ X, X = ba (Lib.itoa n) := ⟨_, rfl⟩
    obtain ⟨Y, hY⟩ : ∃ Y, Y = ba (Lib.itoa d) := ⟨_, rfl⟩
    rw [← hX] at E CN sx
    rw [← hY] at E CD sy
    clear hR hX hY k1 k2 k3 k4 h1
    go_enter Tryd.func40, Tryd.ntmps40
    go_wp2_with fail
    refine (CN.out _).mono ?_
    rintro e w1 ⟨rfl, rfl⟩
    go_wp2_with fail
    refine (CD.out _).mono ?_
    rintro e w1 ⟨rfl, rfl⟩
    go_wp2_with fail
    go_ret
    exact ⟨by rw [E.out]; rfl, below1 _ _⟩
end Go.Proofs.YtlcmnfhkicjclaaDoor
