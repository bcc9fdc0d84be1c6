/- Trig: the listed tables, as the walks read them. -/
import Derived.Test.YtglmkpnnbgkndaaDoorTsB
import Derived.Test.YtglmkpnnbgkndaaDoorRows
import Derived.Lib.LaidTab
import Derived.Stop.LaidErr
namespace Go.Proofs.YtglmkpnnbgkndaaDoor
open Go.RowKit Go.Lib
set_option linter.unusedVariables false
set_option maxRecDepth 100000

/-- an array of arrays of integers, as the memory holds it -/
theorem cells_of_tab2 {H : Type} {enc : TypeId × Value → H} {P : Program} {w : World} {base : Nat} {sp : Nat → Bool} {held : Bool} {fuel : Nat} {t e f : TypeId} {n m : Nat} {k : IntKind} {cs : List Value} {zss : List (List Int)} {p : List MemPlace}
    (ht : P.underlying t = some (.array n e)) (he : P.underlying e = some (.array m f)) (hf : P.underlying f = some (.int k)) (hcf : P.cellsOf f = 1) (hce : P.cellsOf e = m)
    (h : DataW.trod enc P w base sp held fuel t cs = some (.agg (zss.map fun zs => tabData k zs), p)) (i : Nat) (hi : i < n) (zs : List Int) (hz : zss[i]? = some zs) : (cs.drop (i * m)).take m = zs.map fun z => Value.int k z := by
  cases fuel with
  | zero => simp [DataW.trod] at h
  | succ fuel =>
    simp only [DataW.trod, ht, hce] at h
    split at h
    · obtain ⟨xs, hm, hx⟩ := Option.map_eq_some_iff.1 h
      have hxs : xs.map (·.1) = zss.map fun zs => (tabData k zs : DataW H) := by
        have := congrArg Prod.fst hx
        simpa using this
      obtain ⟨b, hb, hq⟩ := mapM_at hm i i (by simp [hi])
      have h2 : (xs.map (·.1))[i]? = some b.1 := by simp [hb]
      rw [hxs] at h2
      simp only [List.getElem?_map, hz, Option.map_some, Option.some.injEq] at h2
      exact cells_of_tab he hf hcf hce (p := b.2) (by rw [hq, h2])
    · cases h
def invs : List (List Int) := [
  [9223372036854775808, 0],
  [3074457345618258602, 12297829382473034410],
  [768614336404564650, 12297829382473034410],
  [153722867280912930, 2459565876494606882],
  [25620477880152155, 409927646082434480],
  [3660068268593165, 58561092297490640],
  [457508533574145, 11536535182605656090],
  [50834281508238, 7430751933748256770],
  [5083428150823, 15500470452342466969],
  [462129831893, 1409133677485678815],
  [38510819324, 7803571170502786407],
  [2962370717, 4857215645510110865],
  [211597908, 6935066858146990638],
  [14106527, 4151686605285043032],
  [881657, 17553302981933019829],
  [51862, 4287855011944804392],
  [2881, 4337490628154611714],
  [151, 11878864184877327952],
  [7, 10739652449784119786],
  [0, 6660326712654808623],
  [0, 302742123302491301],
  [0, 13162701013151795],
  [0, 548445875547991],
  [0, 21937835021919],
  [0, 843762885458],
  [0, 31250477239],
  [0, 1116088472],
  [0, 38485809]]
theorem invs_is : ∀ i, i < 28 → invs[i]? = some [hb (L6.cf i), lb (L6.cf i)] := by decide +kernel
theorem heldOf (W : World) (h : laidMet Tryd.prog [("almucantar/digits.radian", Rows.laid_almucantar_digits_radian), ("almucantar/digits.inverses", Rows.laid_almucantar_digits_inverses)] W) : Held W := by
  have r : TabIs Tryd.prog W "almucantar/digits.radian" .u64 [5365940339316, 7144251595963602554] :=
    tabIs_of_head (g := 0) (by kernel_rfl) (by kernel_rfl) (t := 74) Tryd.underlying74 Tryd.underlying72 (by kernel_rfl) (by kernel_rfl) h
  have h1 : laidMet Tryd.prog [("almucantar/digits.inverses", .agg (invs.map fun zs => tabData .u64 zs))] W := h.tail
  obtain ⟨ps, ⟨g', t', cs, fuel, p, q, hg', ht', hvar, hd, _, _⟩, _⟩ := h1
  obtain rfl := Option.some.inj ((show Tryd.prog.globalNamed "almucantar/digits.inverses" = some 1 by kernel_rfl).symm.trans hg')
  obtain rfl := Option.some.inj ((show (Tryd.prog.globals[1]?).map (·.type) = some 89 by kernel_rfl).symm.trans ht')
  have key : ∀ i, i < 28 → (cs.toList.drop (i * 2)).take 2 = [Value.int .u64 (hb (L6.cf i)), Value.int .u64 (lb (L6.cf i))] := fun i hi =>
    cells_of_tab2 Tryd.underlying89 Tryd.underlying74 Tryd.underlying72 (by kernel_rfl) (by kernel_rfl) hd i hi _ (invs_is i hi)
  refine ⟨r.cell (by kernel_rfl) 0 (by decide), r.cell (by kernel_rfl) 1 (by decide), fun i hi => ?_, fun i hi => ?_⟩
  · rw [World.var?_cell (show Tryd.prog.globalNamed "almucantar/digits.inverses" = some 1 by kernel_rfl) hvar (i * 2)]
    have := congrArg (·[0]?) (key i hi)
    simpa [List.getElem?_take, List.getElem?_drop] using this
  · rw [World.var?_cell (show Tryd.prog.globalNamed "almucantar/digits.inverses" = some 1 by kernel_rfl) hvar (i * 2 + 1)]
    have := congrArg (·[1]?) (key i hi)
    simpa [List.getElem?_take, List.getElem?_drop] using this
end Go.Proofs.YtglmkpnnbgkndaaDoor
