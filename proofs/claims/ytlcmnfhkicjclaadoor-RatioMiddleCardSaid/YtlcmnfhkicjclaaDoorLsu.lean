/- RatioLists returns true for any list; a list of fractions as an argument. -/
import Derived.Test.YtlcmnfhkicjclaaDoorLst
import Derived.Deep.SlicePairs
namespace Go.Proofs.YtlcmnfhkicjclaaDoor
open Go.RowKit
set_option linter.unusedVariables false

set_option maxRecDepth 100000 in
set_option maxHeartbeats 4000000 in
theorem lst_skip (A : Option Addr) (n c : Nat) (w : World) (htab : Lib.TabIs Tryd.prog w "internal/strconv.uint64pow10" .u64 Lib.pow10Tab) (hn : (40 < n ∧ n ≤ 1000) ∨ 3000 < n) (hmx : n ≤ maxLen) :
    Calls Tryd.prog 6 #[.slice A n c] w fun e w' => e = .returned (.bool true) ∧ Below w.heap.size w w' := by
  have CA := Lib.hid (fun wx (hb : Below w.heap.size w wx) => awake_any wx (Lib.tabBelow_of_tabIs htab wx hb))
  have kz : (n : Int) ≤ 9223372036854775807 := by unfold maxLen at hmx; omega
  have k1 : (40 : Int) < (n : Int) := by omega
  clear htab hmx
  rcases hn with hn | hn
  · have k2 : (n : Int) ≤ 1000 := by omega
    clear hn
    go_enter Tryd.func6, Tryd.ntmps6
    have HB := Lib.hid (Below.refl w.heap.size w)
    go_wp2_with fail
    refine (CA.out _ HB.out).mono ?_
    rintro e w1 ⟨rfl, hb⟩
    have HB := Lib.hid (bstep HB.out hb)
    clear hb
    go_wp2_with fail
    go_ret
    exact ⟨rfl, HB.out⟩
  · have k2 : ¬ (n : Int) ≤ 1000 := by omega
    have k3 : (3000 : Int) < (n : Int) := by omega
    clear hn
    go_enter Tryd.func6, Tryd.ntmps6
    have HB := Lib.hid (Below.refl w.heap.size w)
    go_wp2_with fail
    refine (CA.out _ HB.out).mono ?_
    rintro e w1 ⟨rfl, hb⟩
    have HB := Lib.hid (bstep HB.out hb)
    clear hb
    go_wp2_with fail
    go_ret
    exact ⟨rfl, HB.out⟩
theorem lst_any (A : Option Addr) (n c : Nat) (zs : List (Int × Int)) (w : World) (htab : Lib.TabIs Tryd.prog w "internal/strconv.uint64pow10" .u64 Lib.pow10Tab) (h : SlP w A n zs) (hA : ∀ a, A = some a → a.spot = none) (hc : n ≤ c) (hcm : c ≤ maxLen) :
    Calls Tryd.prog 6 #[.slice A n c] w fun e w' => e = .returned (.bool true) ∧ Below w.heap.size w w' := by
  by_cases hs : (40 < n ∧ n ≤ 1000) ∨ 3000 < n
  · exact lst_skip A n c w htab hs h.max
  · have hl := h.len
    have hn : n ≤ 40 ∨ 1000 < n := by omega
    have hm : n ≤ 3000 := by omega
    by_cases he : ckE zs = 0
    · have hb : badP zs = false := by
        cases hq : badP zs
        · rfl
        · unfold ckE at he; rw [hq, if_pos rfl] at he; cases he
      have h1 : n ≤ 1000 ∧ 1 ≤ n := by
        unfold ckE at he
        rw [hb, if_neg (by decide)] at he
        by_cases hx : 1000 < zs.length
        · rw [if_pos hx] at he; cases he
        · rw [if_neg hx] at he
          by_cases hy : zs.length = 0
          · rw [if_pos hy] at he; cases he
          · omega
      obtain ⟨qs, hq, rfl⟩ := of_good zs hb
      exact lst_run A n c _ w htab h hA hn hm _ _ _ _ _ _
        (fun wx hx => median_ok A n c qs wx hq h1.2 h1.1 (h.keep hx))
        (fun wx hx => mean_ok A n c qs wx hq h1.2 h1.1 (h.keep hx) hc hcm)
        (fun wx hx => rmedian_ok A n c qs wx hq h1.2 h1.1 (h.keep hx))
        (fun wx hx => rmean_ok A n c qs wx hq h1.2 h1.1 (h.keep hx))
    · exact lst_run A n c zs w htab h hA hn hm _ _ _ _ _ _
        (fun wx hx => median_bad A n c zs wx (h.keep hx) he)
        (fun wx hx => mean_bad A n c zs wx (h.keep hx) he)
        (fun wx hx => rmedian_bad A n c zs wx (h.keep hx) he)
        (fun wx hx => rmean_bad A n c zs wx (h.keep hx) he)

theorem lt_of_cell {w : World} {a : Addr} {v : Value} (h : w.cell? a = some v) : a.block < w.heap.size := by
  by_cases hlt : a.block < w.heap.size
  · exact hlt
  · exfalso
    have : w.heap[a.block]? = none := by rw [Array.getElem?_eq_none_iff]; omega
    unfold World.cell? at h
    rw [this] at h
    cases h
/-- an argument's cells, as a row of fractions -/
theorem row_of_cells {w : World} {b off len m : Nat} (hm : len ≤ m) (hx : ∀ i, i < m → ∃ q : Int × Int, w.cell? ((⟨b, off, none⟩ : Addr).add (i * 2)) = some (.int .i64 q.1) ∧ w.cell? ((⟨b, off, none⟩ : Addr).add (i * 2 + 1)) = some (.int .i64 q.2)) :
    ∃ zs : List (Int × Int), len = zs.length ∧ RowP w b off zs := by
  obtain ⟨f, hf⟩ := Go.Deep.choose_lt hx
  refine ⟨(List.range len).map f, by simp, fun j hj => ?_⟩
  have hj' : j < len := by simpa using hj
  have := hf j (by omega)
  rw [Addr.add_lit, Addr.add_lit] at this
  rw [List.getElem_map, List.getElem_range]
  exact ⟨this.1, by rw [Nat.add_assoc]; exact this.2⟩
set_option maxRecDepth 100000 in
open Go.ChangeShapes Go.WideShapes in
/-- a list of fractions as an argument -/
theorem open_fracs {H : Type} {enc : TypeId × Value → H} {W : World} {v : Value} {d : DataW H} {p : List MemPlace} {base : Nat} (hv : Value.okWide Tryd.prog W .any base 40 v) (h : DataW.Trod enc Tryd.prog W 0 (fun _ => true) true 40 v d p) :
    ∃ A n c zs, v = .slice A n c ∧ SlP W A n zs ∧ (∀ a, A = some a → a.spot = none) ∧ n ≤ c ∧ c ≤ maxLen := by
  have hu := Tryd.underlying40
  generalize hP : Tryd.prog = P at hv h hu
  have hv3 : Cell.ok P W .any base 40 v := by
    simp only [Value.okWide, hu, Cell.okWide] at hv
    exact hv
  simp only [Cell.ok, hu] at hv3
  have e0 : ∃ A n c, v = .slice A n c := by
    cases v <;> first | exact ⟨_, _, _, rfl⟩ | (exfalso; exact hv3) | (exfalso; simp at hv3)
  subst hP
  obtain ⟨A, n, c, rfl⟩ := e0
  obtain ⟨k, hk⟩ := h
  rcases Go.Deep.open_slice_pairs Tryd.underlying40 Tryd.underlying24 (by kernel_rfl) rfl rfl (by kernel_rfl) (by kernel_rfl) hk with ⟨hc, hx⟩ | ⟨a, len, cap, m, k2, V0, V1, D0, D1, P0, P1, hc, _, hl, hm, hmm, hx, hall⟩
  · simp [Value.cells] at hc
    obtain ⟨rfl, rfl, rfl⟩ := hc
    exact ⟨none, 0, 0, [], rfl, ⟨rfl, Nat.zero_le _, fun h => by omega⟩, ⟨fun a h => (by cases h), Nat.le_refl _, Nat.zero_le _⟩⟩
  · simp [Value.cells] at hc
    obtain ⟨rfl, rfl, rfl⟩ := hc
    have hsp : a.spot = none := hv3.2.2.2.1
    obtain ⟨b, off, s⟩ := a
    obtain rfl : s = none := hsp
    have hcells : ∀ i, i < m → ∃ q : Int × Int, W.cell? ((⟨b, off, none⟩ : Addr).add (i * 2)) = some (.int .i64 q.1) ∧ W.cell? ((⟨b, off, none⟩ : Addr).add (i * 2 + 1)) = some (.int .i64 q.2) := by
      intro i hi
      obtain ⟨g0, g1, g2, g3⟩ := hall i hi
      obtain ⟨z0, h1, -, -⟩ := DataW.trod_int Tryd.underlying3 g2
      obtain ⟨z1, h2, -, -⟩ := DataW.trod_int Tryd.underlying3 g3
      simp only [List.cons.injEq, and_true] at h1 h2
      exact ⟨(z0, z1), by rw [g0, h1], by rw [g1, h2]⟩
    have hlm : n ≤ m := by rw [hmm]; split <;> omega
    obtain ⟨zs, hz, hr⟩ := row_of_cells hlm hcells
    refine ⟨_, _, _, zs, rfl, ⟨hz, by omega, fun h0 => ⟨b, off, rfl, ?_, hr⟩⟩, ⟨fun a h => (by cases h; rfl), hl, hm⟩⟩
    exact lt_of_cell (hr 0 (by omega)).1
end Go.Proofs.YtlcmnfhkicjclaaDoor
