/- Contracts of wide.fitted, Add, Sub, Int. -/
import Derived.Test.YtdkigfcglfgpoaaWdA
import Derived.Deep.RegionHeld3
namespace Go.Proofs.Ytdkigfcglfgpoaa.wd
open Go.RowKit
set_option linter.unusedVariables false

/-- what fitted returns: the parts of a number that fits, or ErrBig -/
def fitE (n : Int) : Int := if wfit n = true then 0 else 5
def fitH (n : Int) : Int := if wfit n = true then wh n else 0
def fitL (n : Int) : Int := if wfit n = true then wl n else 0

theorem fitted_any (h l : Int) (w : World) (h1 : -2305843009213693952 ≤ h) (h2 : h ≤ 2305843009213693952) (l1 : -2305843009213693952 ≤ l) (l2 : l ≤ 2305843009213693952) :
    Calls Try.prog 73 #[.int .i64 h, .int .i64 l] w fun e w' => e = .returned (.tuple #[.agg #[.int .i64 (fitH (wv h l)), .int .i64 (fitL (wv h l))], .int .i64 (fitE (wv h l))]) ∧ Below w.heap.size w w' := by
  have CA := Lib.hid (fun wx => carried_any h l wx h1 h2 (by omega) (by omega))
  have CV := Lib.hid (fun wx => valid_any (wh (wv h l)) (wl (wv h l)) wx)
  have E := Lib.hid (wok_parts (wv h l))
  obtain ⟨n, hn⟩ : ∃ n, n = wv h l := ⟨_, rfl⟩
  rw [← hn] at CA CV E ⊢
  clear hn
  cases hf : wfit n
  · have K1 : Hid (fitH n = 0) := by show fitH n = 0; unfold fitH; rw [hf]; rfl
    have K2 : Hid (fitL n = 0) := by show fitL n = 0; unfold fitL; rw [hf]; rfl
    have K3 : Hid (fitE n = 5) := by show fitE n = 5; unfold fitE; rw [hf]; rfl
    have CV' : Hid (∀ wx, Calls Try.prog 75 #[.agg #[.int .i64 (wh n), .int .i64 (wl n)]] wx fun e w' => e = .returned (.bool false) ∧ Below wx.heap.size wx w') := by intro wx; have := CV.out wx; rw [E.out, hf] at this; exact this
    obtain ⟨x, hx⟩ : ∃ x, x = wh n := ⟨_, rfl⟩
    obtain ⟨y, hy⟩ : ∃ y, y = wl n := ⟨_, rfl⟩
    rw [← hx, ← hy] at CA CV'
    clear hx hy hf CV E
    go_enter Try.func73, Try.ntmps73
    go_wp2_with fail
    refine (CA.out _).mono ?_
    rintro e w1 ⟨rfl, hb1⟩
    have A := At2.of hb1
    have HB := Lib.hid (alloc_below hb1)
    clear hb1
    go_wp2_with fail
    refine (CV'.out _).mono ?_
    rintro e w2 ⟨rfl, hb2⟩
    have A2 := At2.of hb2
    have A1 := A.keep (alloc_below hb2)
    have HB2 := Lib.hid (HB.out.trans ((alloc_below hb2).mono HB.out.size))
    obtain ⟨c0, c1, f0, f1, hz⟩ := A1
    obtain ⟨d0, d1, g0, g1, hy⟩ := A2
    obtain ⟨s0, s1⟩ := set2 c0 c1 (.int .i64 0) (.int .i64 0)
    clear hb2 A HB
    go_wp2_with fail
    refine bodyPost_ret (v := .tuple #[.agg #[.int .i64 0, .int .i64 0], .int .i64 5]) (by simp [results, Try.results73, go_sem, s0, s1]) rfl ⟨?_, ?_⟩
    · rw [K1.out, K2.out, K3.out]
    · exact (HB2.out.setCell (by simp) _).setCell (by simp) _
  · have K1 : Hid (fitH n = wh n) := by show fitH n = _; unfold fitH; rw [hf]; rfl
    have K2 : Hid (fitL n = wl n) := by show fitL n = _; unfold fitL; rw [hf]; rfl
    have K3 : Hid (fitE n = 0) := by show fitE n = 0; unfold fitE; rw [hf]; rfl
    have CV' : Hid (∀ wx, Calls Try.prog 75 #[.agg #[.int .i64 (wh n), .int .i64 (wl n)]] wx fun e w' => e = .returned (.bool true) ∧ Below wx.heap.size wx w') := by intro wx; have := CV.out wx; rw [E.out, hf] at this; exact this
    obtain ⟨x, hx⟩ : ∃ x, x = wh n := ⟨_, rfl⟩
    obtain ⟨y, hy⟩ : ∃ y, y = wl n := ⟨_, rfl⟩
    rw [← hx, ← hy] at CA CV'
    rw [← hx] at K1
    rw [← hy] at K2
    clear hx hy hf CV E
    go_enter Try.func73, Try.ntmps73
    go_wp2_with fail
    refine (CA.out _).mono ?_
    rintro e w1 ⟨rfl, hb1⟩
    have A := At2.of hb1
    have HB := Lib.hid (alloc_below hb1)
    clear hb1
    go_wp2_with fail
    refine (CV'.out _).mono ?_
    rintro e w2 ⟨rfl, hb2⟩
    have A2 := At2.of hb2
    have A1 := A.keep (alloc_below hb2)
    have HB2 := Lib.hid (HB.out.trans ((alloc_below hb2).mono HB.out.size))
    obtain ⟨c0, c1, f0, f1, hz⟩ := A1
    obtain ⟨d0, d1, g0, g1, hy⟩ := A2
    obtain ⟨s0, s1⟩ := set2 c0 c1 (.int .i64 x) (.int .i64 y)
    clear hb2 A HB
    go_wp2_with fail
    refine bodyPost_ret (v := .tuple #[.agg #[.int .i64 x, .int .i64 y], .int .i64 0]) (by simp [results, Try.results73, go_sem, s0, s1]) rfl ⟨?_, ?_⟩
    · rw [K1.out, K2.out, K3.out]
    · exact (HB2.out.setCell (by simp) _).setCell (by simp) _

theorem valid_is (h l : Int) (b : Bool) (hk : wok h l = b) (w : World) : Calls Try.prog 75 #[.agg #[.int .i64 h, .int .i64 l]] w fun e w' => e = .returned (.bool b) ∧ Below w.heap.size w w' := by
  have := valid_any h l w; rw [hk] at this; exact this

end Go.Proofs.Ytdkigfcglfgpoaa.wd
