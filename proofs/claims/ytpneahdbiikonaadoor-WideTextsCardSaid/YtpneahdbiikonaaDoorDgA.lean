/- Slices of digits as they lie in memory, and the reference's Trim. -/
import Derived.Test.YtpneahdbiikonaaDoorDgN
import Derived.WalkKit
import Derived.WalkSpells
import Derived.WalkLawsBesides
import Derived.Lib.Hide
import Derived.Below
import Derived.Laws.OwnMore
import Derived.Maps.AppendAt
import Derived.Laws.AppendOwnNone
import Derived.Deep.AppendLies
import Derived.Deep.Draws
import Derived.RegionTactic
import Derived.OwnWalk
namespace Go.Proofs.YtpneahdbiikonaaDoor
open Go.RowKit
set_option linter.unusedVariables false

theorem Tryd.infoI : (Tryd.prog.info? 3).map (fun i => (i.zero, i.size, i.bytes)) = some (some (.int .i64 0), 1, 8) := by kernel_rfl

def dv (d : Nat) : Value := .int .i64 (d : Int)

/-- a slice value whose cells are the digits of l; it lies in w -/
structure Dig (w : World) (A : Option Addr) (n c : Nat) (l : List Nat) : Prop where
  len : n = l.length
  cap : n ≤ c
  top : c ≤ maxLen
  nil_ : A = none → n = 0 ∧ c = 0
  at_ : ∀ ad, A = some ad → ∃ g, ad = ⟨g, 0, none⟩ ∧ g < w.heap.size ∧ ∀ j, j < l.length → w.cell? ⟨g, j, none⟩ = some (.int .i64 ((l.getD j 0 : Nat) : Int))

theorem Dig.nil (w : World) : Dig w none 0 0 [] := ⟨rfl, Nat.le_refl _, Nat.zero_le _, (fun _ => ⟨rfl, rfl⟩), (fun _ h => by cases h)⟩
theorem Dig.keep {w w' : World} {A : Option Addr} {n c : Nat} {l : List Nat} (h : Dig w A n c l) (hb : Below w.heap.size w w') : Dig w' A n c l :=
  ⟨h.len, h.cap, h.top, h.nil_, fun ad hn => by
    obtain ⟨g, e, hg, hc⟩ := h.at_ ad hn
    exact ⟨g, e, Nat.lt_of_lt_of_le hg hb.size, fun j hj => (hb.cell (p := ⟨g, j, none⟩) hg).trans (hc j hj)⟩⟩
theorem Dig.alloc {w : World} {A : Option Addr} {n c : Nat} {l : List Nat} (h : Dig w A n c l) (o : Obj) : Dig (w.alloc o) A n c l := h.keep ((Below.refl _ _).alloc (Nat.le_refl _) o)
theorem Dig.cell {w : World} {A : Option Addr} {n c : Nat} {l : List Nat} (h : Dig w A n c l) {k : Nat} (hk : k < l.length) :
    ∃ g, A = some ⟨g, 0, none⟩ ∧ g < w.heap.size ∧ w.cell? ⟨g, k, none⟩ = some (.int .i64 ((l.getD k 0 : Nat) : Int)) := by
  rcases A with _ | ad
  · have := (h.nil_ rfl).1; have := h.len; omega
  · obtain ⟨g, rfl, hg, hc⟩ := h.at_ ad rfl
    exact ⟨g, rfl, hg, hc k hk⟩
theorem own_shape {w : World} {base e size n : Nat} {v : Value} {xs : List Value} (h : w.ownsRow base e size v n xs) : ∃ A c, v = .slice A n c := by
  rcases h.2 with ⟨hv, hn⟩ | ⟨g, cap, cur, hv, _⟩
  · subst hn; exact ⟨_, _, hv⟩
  · exact ⟨_, _, hv⟩
theorem dig_of_own {w : World} {base e : Nat} {A : Option Addr} {n c : Nat} {l : List Nat} (h : w.ownsRow base e 1 (.slice A n c) n (l.map dv)) : Dig w A n c l := by
  have hl : n = l.length := by have := h.1; simpa using this.symm
  rcases id h.2 with ⟨hv, hn⟩ | ⟨g, cap, cur, hv, _, hgs, hnc, hcm, _⟩
  · injection hv with h1 h2 h3
    subst h1 h3
    exact ⟨hl, by omega, Nat.zero_le _, (fun _ => ⟨hn, rfl⟩), (fun _ h => by cases h)⟩
  · injection hv with h1 h2 h3
    subst h1 h3
    refine ⟨hl, hnc, hcm, (fun h => by cases h), fun ad he => ?_⟩
    injection he with he
    subst he
    refine ⟨g, rfl, (Array.getElem?_eq_some_iff.1 hgs).1, fun j hj => ?_⟩
    have := h.cellAt j (by omega)
    rw [this, List.getElem?_map, List.getElem?_eq_getElem hj, List.getD_eq_getElem?_getD, List.getElem?_eq_getElem hj]; rfl
theorem one_dv (l : List Nat) : ∀ u ∈ l.map dv, u.oneCell' = true := by
  intro u hu
  obtain ⟨d, _, rfl⟩ := List.mem_map.1 hu
  rfl
/-- the cells of the first k digits, for an append -/
theorem Dig.news {w : World} {g n c : Nat} {l : List Nat} (h : Dig w (some ⟨g, 0, none⟩) n c l) (k : Nat) : ∀ j u, ((l.take k).map dv)[j]? = some u → w.cell? ((⟨g, 0, none⟩ : Addr).add j) = some u := by
  intro j u hu
  obtain ⟨g', e, hg, hc⟩ := h.at_ _ rfl
  have hadd : (⟨g, 0, none⟩ : Addr).add j = ⟨g, j, none⟩ := by unfold Addr.add; split <;> simp_all
  injection e with e
  subst e
  rw [hadd]
  have hj : j < l.length := by
    rcases Nat.lt_or_ge j l.length with z | z
    · exact z
    · rw [List.getElem?_eq_none (by rw [List.length_map, List.length_take]; omega)] at hu; cases hu
  rw [hc j hj]
  rw [List.getElem?_map, List.getElem?_take] at hu
  split at hu
  · rw [List.getElem?_eq_getElem hj] at hu
    rw [List.getD_eq_getElem?_getD, List.getElem?_eq_getElem hj]; exact hu
  · cases hu

/-- the slice lies in a block that w has not -/
def Fr (w : World) (A : Option Addr) : Prop := ∀ ad, A = some ad → w.heap.size ≤ ad.block
theorem Fr.none_ (w : World) : Fr w none := fun _ h => by cases h
theorem Fr.under {w w1 : World} {A : Option Addr} (h : Fr w1 A) (hb : w.heap.size ≤ w1.heap.size) : Fr w A := fun ad e => Nat.le_trans hb (h ad e)
theorem fr_of_own {w w' : World} {base e n c : Nat} {A : Option Addr} {xs : List Value} (h : w'.ownsRow base e 1 (.slice A n c) n xs) (hb : w.heap.size ≤ base) : Fr w A := by
  intro ad e
  subst e
  have := (h.lt ad.block rfl).1
  omega
theorem Dig.far {w : World} {A : Option Addr} {n c : Nat} {l : List Nat} (h : Dig w A n c l) (p : Addr) (hp : ∀ ad, A = some ad → ad.block ≠ p.block) (u : Value) : Dig (w.setCell p u) A n c l :=
  ⟨h.len, h.cap, h.top, h.nil_, fun ad e => by
    obtain ⟨g, rfl, hg, hc⟩ := h.at_ ad e
    exact ⟨g, rfl, by simpa using hg, fun j hj => (World.cell?_setCell_other w _ _ u (fun e' => hp _ e (by rw [e']))).trans (hc j hj)⟩⟩
theorem Dig.single (w : World) (m : Nat) (T : Nat) : Dig (w.alloc (.cells #[.int .i64 (m : Int)] T)) (some ⟨w.heap.size, 0, none⟩) 1 1 [m] :=
  ⟨rfl, Nat.le_refl _, by unfold maxLen; omega, (fun h => by cases h), fun ad e => by
    injection e with e
    subst e
    refine ⟨_, rfl, by simp, fun j hj => ?_⟩
    have : j = 0 := by simp at hj; omega
    subst this
    rw [World.cell?_alloc_new]; rfl⟩

/-- what a function that returns digits leaves behind -/
def Ret (w : World) (L : List Nat) (e : Ending) (w' : World) : Prop := ∃ A n c, e = .returned (.slice A n c) ∧ Dig w' A n c L ∧ Fr w A ∧ Below w.heap.size w w'
theorem ret_of_own {w w' : World} {e n : Nat} {v : Value} {L : List Nat} (h : w'.ownsRow w.heap.size e 1 v n (L.map dv)) (hb : Below w.heap.size w w') : Ret w L (.returned v) w' := by
  obtain ⟨A, c, rfl⟩ := own_shape h
  exact ⟨A, n, c, rfl, dig_of_own h, fr_of_own h (Nat.le_refl _), hb⟩
theorem Ret.under {w w1 w2 : World} {L : List Nat} {e : Ending} (hb : Below w.heap.size w w1) (h : Ret w1 L e w2) : Ret w L e w2 := by
  obtain ⟨A, n, c, he, hd, hf, hb'⟩ := h
  exact ⟨A, n, c, he, hd, hf.under hb.size, hb.trans (hb'.mono hb.size)⟩

/-- append of digits that lie in memory, nil or not, onto a row of the call's own -/
theorem wpList_append_dig {P : Program} (w : World) {ops : Array Oper} {rest : List Oper} {o : Oper} {a : Act} {Q : Exit → Act → World → Prop} (hgd : o.guard = none) (s x : Operand) (t : TypeId)
    (ho : o.op = .call { callee := .builtin .append, args := #[s, x], argTypes := #[t, t] })
    (base : Nat) (e : TypeId) (i : TypeInfo) (z : Value) (ht : P.underlying t = some (.slice e)) (hi : P.info? e = some i) (hz : i.zero = some z)
    (hsize : i.size = 1) (hby : i.bytes = 8) (hzs : z.cells.size = 1)
    (v : Value) (n : Nat) (xs : List Value) (hs : a.eval s = v) (hown : w.ownsRow base e 1 v n xs)
    (A : Option Addr) (m c : Nat) (l : List Nat) (hx : a.eval x = .slice A m c) (hd : Dig w A m c l)
    (h63 : n + m ≤ maxLen) (hbytes : (n + m) * 8 ≤ 140737488355328) (hbase : base ≤ w.heap.size)
    (h : ∀ v' w', w'.ownsRow base e 1 v' (n + m) (xs ++ l.map dv) → w.grownBy w' v.ownBlock → wpList P ops Q rest (a.put o.dst v') w') : wpList P ops Q (o :: rest) a w := by
  rcases A with _ | ad
  · obtain ⟨rfl, rfl⟩ := hd.nil_ rfl
    have e0 : l = [] := List.eq_nil_of_length_eq_zero hd.len.symm
    subst e0
    exact wpList_append_own_none hgd s x t ho base e i 1 ht hi v n xs hs hown hx (h v w (by simpa using hown) (World.grownBy.refl w _))
  · obtain ⟨g, rfl, hg, _⟩ := hd.at_ ad rfl
    have hn := hd.news l.length
    rw [List.take_length] at hn
    exact wpList_append_own w hgd s x t ho base e i z 1 8 ht hi hz hsize hby hzs (by omega) v n xs hs hown ⟨g, 0, none⟩ m c (l.map dv) hx (by rw [List.length_map, Nat.mul_one]; exact hd.len.symm) hn (one_dv l) h63 hbytes hbase (fun v' w' h1 h2 _ => h v' w' h1 h2)

set_option maxHeartbeats 1000000 in
theorem trim_any (A : Option Addr) (n c : Nat) (l : List Nat) (w : World) (h : Dig w A n c l) (ok : Dok l) (hs : l.length ≤ 4000000) :
    Calls Tryd.prog 38 #[.slice A n c] w (Ret w (dgs (val l))) := by
  obtain ⟨i0, hi, hz0, hz1, hz2⟩ := info_parts Tryd.infoI
  have hlen := h.len
  have hcap := h.cap
  have hc := h.top
  have HD := Lib.hid h
  have HO := Lib.hid ok
  clear h ok
  have hn : n ≤ 4000000 := by omega
  have HL := Lib.hid hlen
  clear hlen hs
  unfold maxLen at hc
  rcases A with _ | ad
  · have hn0 := (HD.out.nil_ rfl).1
    have hc0 := (HD.out.nil_ rfl).2
    subst hn0 hc0
    have e : l = [] := List.eq_nil_of_length_eq_zero HL.out.symm
    subst e
    have E : Hid (dgs (val []) = []) := dgs_zero
    go_enter Tryd.func38, Tryd.ntmps38
    go_wp2_with fail
    go_loop [3] (fun v => v = .int .i64 0) (fun v => 0)
    case atStart => rfl
    case round =>
      subst hrel
      go_wp2_with (at_builtin; refine wpList_append_own_none rfl _ _ _ rfl w.heap.size 3 i0 1 Tryd.underlying42 hi _ 0 [] rfl (World.ownsRow_lit w #[] 0 (Nat.le_refl _) (Nat.zero_le _) rfl) rfl ?_)
      go_ret
      rw [E.out]
      exact ret_of_own (World.ownsRow_lit w #[] 0 (Nat.le_refl _) (Nat.zero_le _) rfl) ((Below.refl _ _).alloc (Nat.le_refl _) _)
  · obtain ⟨g, rfl, hg, _⟩ := HD.out.at_ ad rfl
    go_enter Tryd.func38, Tryd.ntmps38
    go_wp2_with fail
    go_loop [3] (fun v => ∃ k : Nat, k ≤ n ∧ v = .int .i64 (k : Int) ∧ Hid (val (l.take k) = val l)) (fun v => (intOf v).toNat)
    case atStart => exact ⟨n, Nat.le_refl _, rfl, by show val _ = _; rw [HL.out, List.take_length]⟩
    case round =>
      obtain ⟨k, hk, rfl, hv⟩ := hrel
      have Z : Hid (k = 0 ∨ l.getD (k - 1) 0 ≠ 0 → l.take k = dgs (val l)) := fun hz => can_eq (can_take HO.out k (by have := HL.out; omega) hz) hv.out
      have hkl : Hid (((l.take k).map dv).length = k * 1) := by show List.length _ = _; rw [List.length_map, List.length_take, Nat.mul_one]; have := HL.out; omega
      by_cases hk0 : k = 0
      · subst hk0
        have ZZ : Hid ([] = dgs (val l)) := Z.out (.inl rfl)
        clear Z
        go_wp2_with (at_builtin; refine wpList_append_own _ rfl _ _ _ rfl w.heap.size 3 i0 (.int .i64 0) 1 8 Tryd.underlying42 hi hz0 hz1 hz2 rfl (by omega) _ 0 [] rfl (World.ownsRow_lit w #[] 0 (Nat.le_refl _) (Nat.zero_le _) rfl) ⟨g, 0, none⟩ 0 c [] rfl rfl (by intro j u hu; simp at hu) (by simp) (by unfold maxLen; omega) (by omega) (by simp) ?_)
        intro v' w' hown hgrow hnil
        go_wp2_with fail
        go_ret
        rw [← ZZ.out]
        exact ret_of_own (by simpa using hown) (((Below.refl _ _).alloc (Nat.le_refl _) _).grown hgrow (by simp) (by intro k hk; simp [Value.ownBlock] at hk; omega))
      · have hk1 : (0 : Int) < (k : Int) := by omega
        have hcl := ((HD.out.at_ _ rfl).choose_spec.2.2 (k - 1) (by have := HL.out; omega))
        have hge := (HD.out.at_ _ rfl).choose_spec.1
        injection hge with hge
        rw [← hge] at hcl
        clear hge
        obtain ⟨d, hd⟩ : ∃ d, d = l.getD (k - 1) 0 := ⟨_, rfl⟩
        rw [← hd] at hcl
        by_cases hz : d = 0
        · have VS : Hid (val (l.take (k - 1)) = val l) := by
            have e := val_take_succ l (k - 1) (by have := HL.out; omega)
            rw [show k - 1 + 1 = k by omega, ← hd, hz, Nat.mul_zero, Nat.add_zero] at e
            exact e.symm.trans hv.out
          have hz' : ((d : Int) == 0) = true := beq_iff_eq.2 (by omega)
          clear hd Z
          go_wp2_with fail
          go_round
          case rel => exact ⟨k - 1, by omega, by go_num, VS⟩
          case measure => simp [intOf]; omega
        · have hz' : ((d : Int) == 0) = false := beq_eq_false_iff_ne.2 (by omega)
          have ZZ : Hid (l.take k = dgs (val l)) := Z.out (.inr (by rw [← hd]; exact hz))
          clear Z hd hv
          go_wp2_with (at_builtin; refine wpList_append_own _ rfl _ _ _ rfl w.heap.size 3 i0 (.int .i64 0) 1 8 Tryd.underlying42 hi hz0 hz1 hz2 rfl (by omega) _ 0 [] rfl (World.ownsRow_lit w #[] 0 (Nat.le_refl _) (Nat.zero_le _) rfl) ⟨g, 0, none⟩ k c ((l.take k).map dv) rfl hkl.out ((HD.out.alloc _).news k) (one_dv _) (by unfold maxLen; omega) (by omega) (by simp) ?_)
          intro v' w' hown hgrow hnil
          go_wp2_with fail
          go_ret
          rw [← ZZ.out]
          exact ret_of_own (by simpa using hown) (((Below.refl _ _).alloc (Nat.le_refl _) _).grown hgrow (by simp) (by intro k hk; simp [Value.ownBlock] at hk; omega))
end Go.Proofs.YtpneahdbiikonaaDoor
