/- slices.Clone and slices.Equal at a list of fractions, an empty one too. -/
import Derived.Test.YtlcmnfhkicjclaaDoorRsD
import Derived.Laws.StructEq
import Derived.Shelf.SlicesQ.Equal
namespace Go.Proofs.YtlcmnfhkicjclaaDoor
open Go.RowKit Go.Shelf Go.Lib
set_option linter.unusedVariables false

theorem clone_all (zs : List (Int × Int)) (A : Option Addr) (n c : Nat) (w : World) (h : SlP w A n zs) (hm : n ≤ 3000) (hA : ∀ a, A = some a → a.spot = none) :
    Calls Tryd.prog 31 #[.slice A n c] w fun e w' => ∃ A' c', e = .returned (.slice A' n c') ∧ SlP w' A' n zs ∧ Below w.heap.size w w' := by
  have hl := h.len
  by_cases hn : 0 < n
  · refine (clone_any zs A n c w h hn hm).mono ?_
    rintro e w' ⟨g, c', rfl, g1, g2, g3, g4, hr, hz, hb⟩
    exact ⟨_, _, rfl, ⟨h.len, h.max, fun _ => ⟨g, 0, rfl, g2, hr⟩⟩, hb⟩
  · obtain rfl : n = 0 := by omega
    cases A with
    | none =>
      refine (AnyE.slices_Clone_nil Tryd.cloneFrac 0 c w).mono ?_
      rintro e w' ⟨rfl, rfl⟩
      exact ⟨_, _, rfl, h, Below.refl _ _⟩
    | some a =>
      obtain ⟨b, off, s⟩ := a
      obtain rfl : s = none := hA _ rfl
      obtain ⟨i, hi, hz, hs, hby⟩ : ∃ i, Tryd.prog.info? 24 = some i ∧ i.zero = some (.agg #[.int .i64 0, .int .i64 0]) ∧ i.size = 2 ∧ i.bytes = 16 := by
        have := Tryd.infoFrac
        cases hq : Tryd.prog.info? 24 with
        | none => rw [hq] at this; cases this
        | some i =>
          rw [hq] at this
          simp at this
          exact ⟨i, rfl, this.1, this.2.1, this.2.2⟩
      refine (AnyE.slices_Clone Tryd.cloneFrac i (.agg #[.int .i64 0, .int .i64 0]) 2 16 hi hz hs hby rfl (by omega) Tryd.sizeOf24 b off 0 c [] w rfl (Nat.zero_le _) (by omega) (fun j u hu => by simp at hu) (fun u hu => by simp at hu)).mono ?_
      rintro e w' ⟨v', rfl, hown, hnil, hbel⟩
      rcases id hown.2 with ⟨hv, h0⟩ | ⟨g, cap, cur, rfl, hg, hgs, hnc, hcm, _⟩
      · exact absurd hv hnil
      · exact ⟨_, _, rfl, ⟨h.len, h.max, fun h0 => by omega⟩, hbel⟩

theorem neqFrac : NeqAt Tryd.prog 24 (fun x : Int × Int => .agg (encP x).toArray) (fun x y => x.1 == y.1 && x.2 == y.2) := by
  refine ⟨fun x y w => ?_, GuardAt.agg _ (by kernel_rfl)⟩
  have u3 := Tryd.underlying3
  have a3 := Tryd.isAgg3
  have z3 := Tryd.sizeOf3
  have hS : Tryd.prog.underlying 24 = some (.struct (Tryd.prog.fieldsOf 24)) := by kernel_rfl
  have hp : Tryd.prog.stoodInHeld 24 = false := by kernel_rfl
  simp only [encP]
  rw [run_neq_struct, show (10000 : Nat) = 9999 + 1 from rfl, run_equalIn_agg w 9999 24 _ _ hS hp]
  simp only [Program.fieldsOf, Tryd.underlying24]
  go_simp
  by_cases h1 : x.fst = y.fst <;> by_cases h2 : x.snd = y.snd <;> simp [h1, h2]
theorem allEq_self (zs : List (Int × Int)) : Lib.allEq (fun x y => x.1 == y.1 && x.2 == y.2) zs zs = true :=
  Lib.allEq_all _ zs zs rfl (fun j hj => by simp)
theorem equal_all (zs : List (Int × Int)) (A A' : Option Addr) (n c c' : Nat) (w : World) (h : SlP w A n zs) (h' : SlP w A' n zs) :
    Calls Tryd.prog 36 #[.slice A n c, .slice A' n c'] w fun e w' => e = .returned (.bool true) ∧ Below w.heap.size w w' := by
  have hl := h.len
  have hmx := h.max
  by_cases hn : 0 < n
  · obtain ⟨b, off, rfl, hb, hr⟩ := h.row hn
    obtain ⟨b', off', rfl, hb', hr'⟩ := h'.row hn
    have hcell : ∀ (W : World) (b off : Nat), RowP W b off zs → ∀ j, j < zs.length → ∀ i v, (encP zs[j]!)[i]? = some v → W.cell? ⟨b, off + j * 2 + i, none⟩ = some v := by
      intro W b off hr j hj i v hv
      rw [getElem!_pos zs j hj] at hv
      have := hr j hj
      match i with
      | 0 => simp [encP] at hv; subst hv; exact this.1
      | 1 => simp [encP] at hv; subst hv; exact this.2
      | k + 2 => simp [encP] at hv
    refine (AnyQ.slices_Equal Tryd.equalFrac 2 Tryd.isAgg24 Tryd.sizeOf24 encP (fun _ => rfl) _ neqFrac b off n c b' off' n c' zs zs w (by omega) (by omega) (by unfold maxLen at hmx; omega) (by unfold maxLen at hmx; omega) (hcell w b off hr) (hcell w b' off' hr')).mono ?_
    rintro e w' ⟨rfl, q, rfl⟩
    exact ⟨ret_bool (by rw [hl, List.take_length]; exact allEq_self zs), below_drewN _ _ _⟩
  · obtain rfl : n = 0 := by omega
    clear h h' hl hmx
    go_enter Tryd.func36, Tryd.ntmps36
    go_wp2_with fail
    go_loopg [13] 0 (fun m v wr => m = 0 ∧ v = .int .i64 0 ∧ w = wr)
    case atStart => exact ⟨rfl, rfl, rfl⟩
    case round =>
      obtain ⟨-, rfl, rfl⟩ := hrel
      go_wp2_with fail
      go_ret
      exact ⟨rfl, Below.refl _ _⟩
end Go.Proofs.YtlcmnfhkicjclaaDoor
