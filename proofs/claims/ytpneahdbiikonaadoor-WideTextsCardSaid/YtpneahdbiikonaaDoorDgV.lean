/- Contracts of the reference's IsInt (any number), Valid and OfWide. -/
import Derived.Test.YtpneahdbiikonaaDoorDgW
namespace Go.Proofs.YtpneahdbiikonaaDoor
open Go.RowKit
set_option linter.unusedVariables false
attribute [local go_sem ↓] Go.wp_at_zero Go.wp_at_succ

/-- the number, if it is an int -/
def iV (z : Int) : Int := if isI z = true then z else 0

theorem rvalid_any (h l : Int) (w : World) :
    Calls Tryd.prog 6 #[.agg #[.int .i64 h, .int .i64 l]] w fun e w' => e = .returned (.bool (wok h l)) ∧ Below w.heap.size w w' := by
  have D : Hid (wok h l = decide (-1152921504606846976 ≤ h ∧ h < 1152921504606846976 ∧ 0 ≤ l ∧ l < 1152921504606846976)) := by show wok h l = _; rfl
  by_cases h1 : -1152921504606846976 ≤ h
  · by_cases h2 : h < 1152921504606846976
    · by_cases h3 : 0 ≤ l
      · by_cases h4 : l < 1152921504606846976
        all_goals
          go_enter Tryd.func6, Tryd.ntmps6
          go_wp2
          go_ret
          exact ⟨dret_bool (by rw [D.out]; simp; omega), (Below.refl _ _).alloc (Nat.le_refl _) _⟩
      · go_enter Tryd.func6, Tryd.ntmps6
        go_wp2
        go_ret
        exact ⟨dret_bool (by rw [D.out]; simp; omega), (Below.refl _ _).alloc (Nat.le_refl _) _⟩
    · go_enter Tryd.func6, Tryd.ntmps6
      go_wp2
      go_ret
      exact ⟨dret_bool (by rw [D.out]; simp; omega), (Below.refl _ _).alloc (Nat.le_refl _) _⟩
  · go_enter Tryd.func6, Tryd.ntmps6
    go_wp2
    go_ret
    exact ⟨dret_bool (by rw [D.out]; simp; omega), (Below.refl _ _).alloc (Nat.le_refl _) _⟩

theorem sm_big {z : Int} (h : z.natAbs < 1942668892225729070919461906823518906642406839052139521251812409738904285205208498176) : Sm z := by
  unfold Sm
  have := dgs_len_ten h
  omega

/-- what OfWide's walk asks of its callees -/
structure OwC (h l p s : Int) : Prop where
  c1 : ∀ wx, Calls Tryd.prog 37 #[.int .i64 h] wx (RetZ wx h)
  c2 : ∀ wx, Calls Tryd.prog 37 #[.int .i64 1152921504606846976] wx (RetZ wx 1152921504606846976)
  c3 : ∀ wx, Calls Tryd.prog 37 #[.int .i64 l] wx (RetZ wx l)
  m : ∀ wx A1 n1 c1 g1 A2 n2 c2 g2, NZ wx A1 n1 c1 g1 h → NZ wx A2 n2 c2 g2 1152921504606846976 → Calls Tryd.prog 36 #[.agg #[.slice A1 n1 c1, .bool g1], .agg #[.slice A2 n2 c2, .bool g2]] wx (RetZ wx p)
  p : ∀ wx A1 n1 c1 g1 A2 n2 c2 g2, NZ wx A1 n1 c1 g1 p → NZ wx A2 n2 c2 g2 l → Calls Tryd.prog 35 #[.agg #[.slice A1 n1 c1, .bool g1], .agg #[.slice A2 n2 c2, .bool g2]] wx (RetZ wx s)

theorem ofint_half (wx : World) : Calls Tryd.prog 37 #[.int .i64 1152921504606846976] wx (RetZ wx 1152921504606846976) := by
  obtain ⟨M, hM⟩ : ∃ M : Int, M = 1152921504606846976 := ⟨_, rfl⟩
  rw [← hM]
  exact ofint_any M wx (by omega) (by omega)

theorem owC (h l : Int) (h1 : -9223372036854775808 ≤ h) (h2 : h ≤ 9223372036854775807) (l1 : -9223372036854775808 ≤ l) (l2 : l ≤ 9223372036854775807) : OwC h l (h * 1152921504606846976) (wv h l) := by
  refine ⟨fun wx => ofint_any h wx h1 h2, ofint_half, fun wx => ofint_any l wx l1 l2, ?_, ?_⟩
  · obtain ⟨M, hM⟩ : ∃ M : Int, M = 1152921504606846976 := ⟨_, rfl⟩
    rw [← hM]
    intro wx A1 n1 c1 g1 A2 n2 c2 g2 q1 q2
    exact mul_any A1 A2 n1 c1 n2 c2 g1 g2 h M wx q1 q2 (sm_i64 h1 (by omega)) (sm_i64 (by omega) (by omega))
  · intro wx A1 n1 c1 g1 A2 n2 c2 g2 q1 q2
    exact plus_any A1 A2 n1 c1 n2 c2 g1 g2 _ l wx q1 q2 (sm_big (by omega)) (sm_i64 l1 (by omega))

set_option maxHeartbeats 8000000 in
theorem ofwide_walk (h l p s : Int) (w : World) (C : OwC h l p s) :
    Calls Tryd.prog 18 #[.agg #[.int .i64 h, .int .i64 l]] w (RetZ w s) := by
  have HC := Lib.hid C
  clear C
  have T := Lib.hid (Two.new w (.int .i64 h) (.int .i64 l) (.slice none 0 0) (.bool false) 23 44).drew
  go_enter Tryd.func18, Tryd.ntmps18
  go_wp2_with fail
  go_region_held3 (fun w' => w'.cell? ⟨w.heap.size, 0, none⟩ = some (.int .i64 h) ∧ w'.cell? ⟨w.heap.size, 1, none⟩ = some (.int .i64 l)) (go_keep)
    (first
    | (go_at_call 37; ((with_reducible refine (HC.out.c1 _).mono ?_); rintro e w2 ⟨A1, n1, c1, g1, rfl, hz, hf, hb⟩; (try have Z2 := Lib.hid (Z2.out.keep hb)); (try have Z3 := Lib.hid (Z3.out.keep hb)); have Z1 := Lib.hid hz; have T := Lib.hid (T.out.keep hb); obtain ⟨⟨i0, i1, _, _, _⟩, _, _⟩ := id T.out; clear hz hf hb))
    | (go_at_call 37; ((with_reducible refine (HC.out.c2 _).mono ?_); rintro e w2 ⟨A2, n2, c2, g2, rfl, hz, hf, hb⟩; (try have Z1 := Lib.hid (Z1.out.keep hb)); (try have Z3 := Lib.hid (Z3.out.keep hb)); have Z2 := Lib.hid hz; have T := Lib.hid (T.out.keep hb); obtain ⟨⟨i0, i1, _, _, _⟩, _, _⟩ := id T.out; clear hz hf hb))
    | (go_at_call 37; ((with_reducible refine (HC.out.c3 _).mono ?_); rintro e w2 ⟨A3, n3, c3, g3, rfl, hz, hf, hb⟩; (try have Z1 := Lib.hid (Z1.out.keep hb)); (try have Z2 := Lib.hid (Z2.out.keep hb)); (try have ZM := Lib.hid (ZM.out.keep hb)); have Z3 := Lib.hid hz; have T := Lib.hid (T.out.keep hb); obtain ⟨⟨i0, i1, _, _, _⟩, _, _⟩ := id T.out; clear hz hf hb))
    | (go_at_call 36; (refine (HC.out.m _ _ _ _ _ _ _ _ _ Z1.out Z2.out).mono ?_; rintro e w2 ⟨A4, n4, c4, g4, rfl, hz, hf, hb⟩; (try have Z3 := Lib.hid (Z3.out.keep hb)); have ZM := Lib.hid hz; have T := Lib.hid (T.out.keep hb); obtain ⟨⟨i0, i1, _, _, _⟩, _, _⟩ := id T.out; clear hz hf hb))
    | (go_at_call 35; (refine (HC.out.p _ _ _ _ _ _ _ _ _ ZM.out Z3.out).mono ?_; rintro e w2 ⟨A5, n5, c5, g5, rfl, hz, hf, hb⟩; have HF : Hid (∀ ad, A5 = some ad → w.heap.size + 1 < ad.block) := (fun ad e => Nat.lt_of_lt_of_le T.out.r.lt (hf ad e)); have ZP := Lib.hid hz; have T := Lib.hid (T.out.keep hb); obtain ⟨⟨i0, i1, _, _, _⟩, ⟨k0, k1, l0, l1, _⟩, _⟩ := id T.out; clear hz hf hb)))
  all_goals
    go_wp2_with fail
    obtain ⟨s0, s1⟩ := store2 k0 k1 (.slice A5 n5 c5) (.bool g5)
    refine bodyPost_ret (v := .agg #[.slice A5 n5 c5, .bool g5]) (by simp [results, Tryd.results18, go_sem, s0, s1]) rfl ?_
    exact retz_fin ZP.out HF.out T.out.bel (by omega)

theorem ofwide_any (h l : Int) (w : World) (h1 : -9223372036854775808 ≤ h) (h2 : h ≤ 9223372036854775807) (l1 : -9223372036854775808 ≤ l) (l2 : l ≤ 9223372036854775807) :
    Calls Tryd.prog 18 #[.agg #[.int .i64 h, .int .i64 l]] w (RetZ w (wv h l)) := ofwide_walk h l _ _ w (owC h l h1 h2 l1 l2)
end Go.Proofs.YtpneahdbiikonaaDoor
