/- RatioMiddle returns true for any list and any bytes; a list of bytes as an argument. -/
import Derived.Test.YtlcmnfhkicjclaaDoorMid
import Derived.Test.YtlcmnfhkicjclaaDoorLsu
import Derived.ChangeSlices
import Derived.OpenShut
namespace Go.Proofs.YtlcmnfhkicjclaaDoor
open Go.RowKit
set_option linter.unusedVariables false

set_option maxRecDepth 100000 in
set_option maxHeartbeats 4000000 in
theorem mid_skip (A OA : Option Addr) (n c mo oc : Nat) (w : World) (htab : Lib.TabIs Tryd.prog w "internal/strconv.uint64pow10" .u64 Lib.pow10Tab) (hmx : n ≤ maxLen) (hox : mo ≤ maxLen) (hs : n = 0 ∨ 40 < n ∨ (0 < n ∧ n ≤ 40 ∧ 60 < mo)) :
    Calls Tryd.prog 11 #[.slice A n c, .slice OA mo oc] w fun e w' => e = .returned (.bool true) ∧ Below w.heap.size w w' := by
  have CA := Lib.hid (fun wx (hb : Below w.heap.size w wx) => awake_any wx (Lib.tabBelow_of_tabIs htab wx hb))
  have kz : (n : Int) ≤ 9223372036854775807 := by unfold maxLen at hmx; omega
  have ko : (mo : Int) ≤ 9223372036854775807 := by unfold maxLen at hox; omega
  clear htab hmx hox
  rcases hs with hs | hs | hs
  · subst hs
    go_enter Tryd.func11, Tryd.ntmps11
    have HB := Lib.hid (Below.refl w.heap.size w)
    go_wp2_with fail
    refine (CA.out _ HB.out).mono ?_
    rintro e w1 ⟨rfl, hb⟩
    have HB := Lib.hid (bstep HB.out hb)
    clear hb
    go_wp2_with fail
    go_ret
    exact ⟨rfl, HB.out⟩
  · have k1 : (40 : Int) < (n : Int) := by omega
    have k0 : ((n : Int) == 0) = false := by rw [beq_eq_false_iff_ne]; omega
    clear hs
    go_enter Tryd.func11, Tryd.ntmps11
    have HB := Lib.hid (Below.refl w.heap.size w)
    go_wp2_with fail
    refine (CA.out _ HB.out).mono ?_
    rintro e w1 ⟨rfl, hb⟩
    have HB := Lib.hid (bstep HB.out hb)
    clear hb
    go_wp2_with fail
    go_ret
    exact ⟨rfl, HB.out⟩
  · have k1 : ¬ (40 : Int) < (n : Int) := by omega
    have k0 : ((n : Int) == 0) = false := by rw [beq_eq_false_iff_ne]; omega
    have k2 : (60 : Int) < (mo : Int) := by omega
    clear hs
    go_enter Tryd.func11, Tryd.ntmps11
    have HB := Lib.hid (Below.refl w.heap.size w)
    go_wp2_with fail
    refine (CA.out _ HB.out).mono ?_
    rintro e w1 ⟨rfl, hb⟩
    have HB := Lib.hid (bstep HB.out hb)
    clear hb
    go_wp2_with fail
    go_ret
    exact ⟨rfl, HB.out⟩
set_option maxRecDepth 100000 in
set_option maxHeartbeats 4000000 in
theorem mid_bad (A OA : Option Addr) (n c mo oc : Nat) (zs : List (Int × Int)) (w : World) (htab : Lib.TabIs Tryd.prog w "internal/strconv.uint64pow10" .u64 Lib.pow10Tab) (h : SlP w A n zs) (hb : badP zs = true) (h1 : 0 < n) (h2 : n ≤ 40) (h3 : mo ≤ 60) :
    Calls Tryd.prog 11 #[.slice A n c, .slice OA mo oc] w fun e w' => e = .returned (.bool true) ∧ Below w.heap.size w w' := by
  have CA := Lib.hid (fun wx (hb : Below w.heap.size w wx) => awake_any wx (Lib.tabBelow_of_tabIs htab wx hb))
  have CV : Hid (∀ wx, Below w.heap.size w wx → Calls Tryd.prog 41 #[.slice A n c] wx fun e w' => e = .returned (.bool false) ∧ Below wx.heap.size wx w') := by
    intro wx hx
    have := rvall_any A n c _ wx (h.keep hx)
    rw [hb] at this
    exact this
  have k1 : ¬ (40 : Int) < (n : Int) := by omega
  have k0 : ((n : Int) == 0) = false := by rw [beq_eq_false_iff_ne]; omega
  have k2 : ¬ (60 : Int) < (mo : Int) := by omega
  have k3 : (n : Int) ≤ 40 := by omega
  clear htab h hb h1 h2 h3
  go_enter Tryd.func11, Tryd.ntmps11
  have HB := Lib.hid (Below.refl w.heap.size w)
  go_wp2_with fail
  refine (CA.out _ HB.out).mono ?_
  rintro e w1 ⟨rfl, hb⟩
  have HB := Lib.hid (bstep HB.out hb)
  clear hb
  go_wp2_with fail
  refine (CV.out _ HB.out).mono ?_
  rintro e w2 ⟨rfl, hb⟩
  have HB := Lib.hid (bstep HB.out hb)
  clear hb
  go_wp2_with fail
  go_ret
  exact ⟨rfl, HB.out⟩
theorem mid_any (A OA : Option Addr) (n c mo oc : Nat) (zs : List (Int × Int)) (w : World) (htab : Lib.TabIs Tryd.prog w "internal/strconv.uint64pow10" .u64 Lib.pow10Tab) (h : SlP w A n zs) (hc : n ≤ c) (hcm : c ≤ maxLen) (hox : mo ≤ maxLen)
    (hO : 0 < mo → ∃ ob oo, OA = some ⟨ob, oo, none⟩ ∧ ob < w.heap.size ∧ ∀ j, j < mo → ∃ k : Int, 0 ≤ k ∧ k ≤ 255 ∧ w.cell? ⟨ob, oo + j, none⟩ = some (.int .u8 k)) :
    Calls Tryd.prog 11 #[.slice A n c, .slice OA mo oc] w fun e w' => e = .returned (.bool true) ∧ Below w.heap.size w w' := by
  by_cases hs : n = 0 ∨ 40 < n ∨ (0 < n ∧ n ≤ 40 ∧ 60 < mo)
  · exact mid_skip A OA n c mo oc w htab h.max hox hs
  · cases hb : badP zs
    · obtain ⟨qs, hq, rfl⟩ := of_good zs hb
      exact mid_good A OA n c mo oc (n - 1) qs w htab hq h (by omega) (by omega) hc hcm (by omega) hO
    · exact mid_bad A OA n c mo oc zs w htab h hb (by omega) (by omega) (by omega)

set_option maxRecDepth 100000 in
open Go.ChangeShapes Go.WideShapes in
/-- a list of bytes as an argument -/
theorem open_u8s {H : Type} {enc : TypeId × Value → H} {W : World} {v : Value} {d : DataW H} {p : List MemPlace} {base : Nat} (hv : Value.okWide Tryd.prog W .any base 55 v) (h : DataW.Trod enc Tryd.prog W 0 (fun _ => true) true 55 v d p) :
    ∃ OA mo oc, v = .slice OA mo oc ∧ mo ≤ maxLen ∧ (0 < mo → ∃ ob oo, OA = some ⟨ob, oo, none⟩ ∧ ob < W.heap.size ∧ ∀ j, j < mo → ∃ k : Int, 0 ≤ k ∧ k ≤ 255 ∧ W.cell? ⟨ob, oo + j, none⟩ = some (.int .u8 k)) := by
  have hu := Tryd.underlying55
  generalize hP : Tryd.prog = P at hv h hu
  have hv3 : Cell.ok P W .any base 55 v := by
    simp only [Value.okWide, hu, Cell.okWide] at hv
    exact hv
  simp only [Cell.ok, hu] at hv3
  have e0 : ∃ A n c, v = .slice A n c := by
    cases v <;> first | exact ⟨_, _, _, rfl⟩ | (exfalso; exact hv3) | (exfalso; simp at hv3)
  subst hP
  obtain ⟨A, n, c, rfl⟩ := e0
  obtain ⟨k, hk⟩ := h
  rcases open_ints Tryd.underlying55 Tryd.underlying5 (by kernel_rfl) hk with ⟨hc, hx⟩ | ⟨a, len, cap, zs, hc, _, hl, hm, hz, hx, hcell, hwf⟩
  · simp [Value.cells] at hc
    obtain ⟨rfl, rfl, rfl⟩ := hc
    exact ⟨none, 0, 0, rfl, Nat.zero_le _, fun h => by omega⟩
  · simp [Value.cells] at hc
    obtain ⟨rfl, rfl, rfl⟩ := hc
    have hsp : a.spot = none := hv3.2.2.2.1
    obtain ⟨b, off, s⟩ := a
    obtain rfl : s = none := hsp
    have hlm : n ≤ zs.length := by rw [hz]; split <;> omega
    refine ⟨_, _, _, rfl, by omega, fun h0 => ⟨b, off, rfl, lt_of_cell (hcell 0 (by omega)), fun j hj => ⟨zs.getD j 0, ?_, ?_, ?_⟩⟩⟩
    · have hw := hwf (zs.getD j 0) (by rw [List.getD_eq_getElem?_getD, List.getElem?_eq_getElem (by omega)]; exact List.getElem_mem _)
      exact (bounds_u8 hw).1
    · have hw := hwf (zs.getD j 0) (by rw [List.getD_eq_getElem?_getD, List.getElem?_eq_getElem (by omega)]; exact List.getElem_mem _)
      exact (bounds_u8 hw).2
    · have := hcell j (by omega)
      rw [Addr.add_lit] at this
      exact this
end Go.Proofs.YtlcmnfhkicjclaaDoor
