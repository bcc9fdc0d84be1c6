/- A region that draws its order, by an invariant over what has come up: each operation is shown once, from any state that meets the invariant. -/
import Derived.RegionTactic
namespace Go.Proofs.YtndcjldnnfhedaaDoor
open Go
set_option linter.unusedVariables false

/-- how many have not come up yet -/
def unl (listed : Array Bool) (n : Nat) : Nat := (List.range n).countP fun i => !listed.getD i true
theorem unl_succ (listed : Array Bool) (n : Nat) : unl listed (n + 1) = unl listed n + (if listed.getD n true = false then 1 else 0) := by
  unfold unl
  rw [List.range_succ, List.countP_append, List.countP_singleton]
  cases listed.getD n true <;> simp
theorem unl_same (listed : Array Bool) (i : Nat) : ∀ n, n ≤ i → unl (listed.setIfInBounds i true) n = unl listed n := by
  intro n
  induction n with
  | zero => intro _; rfl
  | succ n ih =>
    intro h
    rw [unl_succ, unl_succ, ih (by omega), getD_set_ne true (by omega)]
theorem unl_set {listed : Array Bool} {i : Nat} (h : listed.getD i true = false) : ∀ n, i < n → unl (listed.setIfInBounds i true) n + 1 = unl listed n := by
  have hs : i < listed.size := by
    refine Nat.lt_of_not_le fun hc => ?_
    simp [Array.getElem?_eq_none hc] at h
  have ht : (listed.setIfInBounds i true).getD i true = true := by simp [Array.getD, hs]
  intro n
  induction n with
  | zero => intro h; omega
  | succ n ih =>
    intro hn
    rw [unl_succ, unl_succ]
    by_cases e : i = n
    · subst e
      rw [unl_same _ _ _ (Nat.le_refl _), ht, h]
      simp
    · rw [getD_set_ne true e, ← ih (by omega)]
      omega
theorem unl_pos {listed : Array Bool} {i n : Nat} (h : listed.getD i true = false) (hn : i < n) : 0 < unl listed n := by
  have := unl_set h n hn
  omega
theorem wpAny_inv {P : Program} {ops : Array Oper} {Q : Exit → Act → World → Prop} {md : Region.Mode} (I : Array Bool → Act → World → Prop)
    (hstep : ∀ i listed a w, I listed a w → i ∈ Region.ready md ops listed → wpOp P ops Q i (I (listed.setIfInBounds i true)) a w)
    (hdone : ∀ listed a w, I listed a w → Region.ready md ops listed = [] → Q .normal a w) :
    ∀ (fuel : Nat) (listed : Array Bool) (a : Act) (w : World), unl listed ops.size ≤ fuel → I listed a w → wpAny P md ops Q fuel listed a w := by
  intro fuel
  induction fuel with
  | zero =>
    intro listed a w hf hI
    have hr : Region.ready md ops listed = [] := by
      refine List.eq_nil_iff_forall_not_mem.2 fun i hi => ?_
      obtain ⟨h0, o, ho, -⟩ := mem_ready.1 hi
      have := unl_pos h0 (Array.getElem?_eq_some_iff.1 ho).1
      omega
    exact ⟨hr, hdone listed a w hI hr⟩
  | succ fuel ih =>
    intro listed a w hf hI
    refine ⟨fun hr => hdone listed a w hI hr, fun i hi => ?_⟩
    obtain ⟨h0, o, ho, -⟩ := mem_ready.1 hi
    have hu := unl_set h0 ops.size (Array.getElem?_eq_some_iff.1 ho).1
    exact wpOp_mono (fun a' w' h' => ih _ a' w' (by omega) h') (hstep i listed a w hI hi)
/-- the operations wait for earlier ones alone -/
def topoB (md : Region.Mode) (ops : Array Oper) : Bool := (List.range ops.size).all fun i => ((ops[i]?).map fun o => o.after.all fun e => !Region.binds md e || decide (e.on < i)).getD true
theorem all_listed {ops : Array Oper} {md : Region.Mode} {listed : Array Bool} (hs : listed.size = ops.size) (ht : topoB md ops = true) (hr : Region.ready md ops listed = []) : ∀ i, i < ops.size → listed.getD i false = true := by
  intro i
  induction i using Nat.strongRecOn with
  | ind i ih =>
    intro hi
    cases hc : listed.getD i false with
    | true => rfl
    | false =>
      exfalso
      have h0 : listed.getD i true = false := by
        have : i < listed.size := by omega
        simp [Array.getD, this] at hc ⊢
        exact hc
      obtain ⟨o, ho⟩ : ∃ o, ops[i]? = some o := ⟨ops[i], Array.getElem?_eq_getElem hi⟩
      have hall : ∀ e ∈ o.after, Region.binds md e = true → e.on < i := by
        have := List.all_eq_true.1 ht i (List.mem_range.2 hi)
        rw [ho] at this
        intro e he hb
        simp only [Option.map_some, Option.getD_some] at this
        have := Array.all_eq_true_iff_forall_mem.1 this e he
        rw [hb] at this
        simpa using this
      have : i ∈ Region.ready md ops listed := mem_ready.2 ⟨h0, o, ho, fun e he hb => ih e.on (hall e he hb) (Nat.lt_trans (hall e he hb) hi)⟩
      rw [hr] at this
      cases this
theorem unl_start (n : Nat) : ∀ m, m ≤ n → unl (Array.replicate n false) m ≤ m := by
  intro m
  induction m with
  | zero => intro _; exact Nat.le_refl _
  | succ m ih =>
    intro h
    rw [unl_succ]
    have := ih (by omega)
    split <;> omega
/-- the beginning: the invariant at the world behind the draw; the end: all have come up -/
theorem wp_region_inv {P : Program} {id : Nat} {ops : Array Oper} {Q : Exit → Act → World → Prop} {a : Act} {w : World} (hm : P.follows .mixedOrders = true) (ht : topoB .any ops = true) (I : Array Bool → Act → World → Prop)
    (h0 : I (Array.replicate ops.size false) a w.drew)
    (hsize : ∀ listed a w, I listed a w → listed.size = ops.size)
    (hstep : ∀ i listed a w, I listed a w → i ∈ Region.ready .any ops listed → wpOp P ops Q i (I (listed.setIfInBounds i true)) a w)
    (hdone : ∀ listed a w, I listed a w → (∀ i, i < ops.size → listed.getD i false = true) → Q .normal a w) : (Code.region id ops true).wp P Q a w :=
  wp_region_any hm (wpAny_inv I hstep (fun listed a w hI hr => hdone listed a w hI (all_listed (hsize listed a w hI) ht hr)) _ _ _ _ (unl_start _ _ (Nat.le_refl _)) h0)
/-- a fact that holds once an operation has come up, behind another one -/
theorem upd {listed : Array Bool} {k j : Nat} {p q : Prop} (hne : k ≠ j) (hpq : p → q) (h : listed.getD j false = true → p) : (listed.setIfInBounds k true).getD j false = true → q := fun hj => hpq (h (by rw [getD_set_ne false hne] at hj; exact hj))
/-- the steps, one for each number -/
theorem ready_lt {md : Region.Mode} {ops : Array Oper} {listed : Array Bool} {i : Nat} (h : i ∈ Region.ready md ops listed) : i < ops.size := by
  obtain ⟨_, o, ho, _⟩ := mem_ready.1 h
  exact (Array.getElem?_eq_some_iff.1 ho).1
theorem ready_dep {md : Region.Mode} {ops : Array Oper} {listed : Array Bool} {i : Nat} {o : Oper} (h : i ∈ Region.ready md ops listed) (ho : ops[i]? = some o) : ∀ e ∈ o.after, Region.binds md e = true → listed.getD e.on false = true := by
  obtain ⟨_, o', ho', hd⟩ := mem_ready.1 h
  rw [ho] at ho'
  cases ho'
  exact hd
theorem ready_depL {md : Region.Mode} {l : List Oper} {listed : Array Bool} {i : Nat} {o : Oper} (h : i ∈ Region.ready md l.toArray listed) (ho : l[i]? = some o) : ∀ e ∈ o.after, Region.binds md e = true → listed.getD e.on false = true :=
  ready_dep h (by simpa using ho)
theorem ready_no {md : Region.Mode} {ops : Array Oper} {listed : Array Bool} {i : Nat} (h : i ∈ Region.ready md ops listed) : listed.getD i false = false := by
  have h0 := (mem_ready.1 h).1
  have hs : i < listed.size := by
    refine Nat.lt_of_not_le fun hc => ?_
    simp [Array.getElem?_eq_none hc] at h0
  simp [Array.getD, hs] at h0 ⊢
  exact h0
theorem wpOp_stepL {P : Program} {l : List Oper} {Q : Exit → Act → World → Prop} {i : Nat} {o : Oper} {K : Act → World → Prop} {a : Act} {w : World} (ho : l[i]? = some o)
    (h : ∀ K' : Act → World → Prop, (∀ a w, K a w → K' a w) → if Region.wanted o (yielded l.toArray a.tmps) = true then Oper.wp P o a w K' Q else K' (a.put o.dst undef) w) : wpOp P l.toArray Q i K a w :=
  wpOp_step (by simpa using ho) h
theorem getD_rep (n i : Nat) : (Array.replicate n false).getD i false = false := by
  by_cases h : i < n <;> simp [Array.getD, h]
theorem no_rep {n i : Nat} {p : Prop} : (Array.replicate n false).getD i false = true → p := fun h => by rw [getD_rep] at h; cases h
theorem set_mono {listed : Array Bool} {k j : Nat} (h : listed.getD j false = true) : (listed.setIfInBounds k true).getD j false = true := getD_set_true h
end Go.Proofs.YtndcjldnnfhedaaDoor
