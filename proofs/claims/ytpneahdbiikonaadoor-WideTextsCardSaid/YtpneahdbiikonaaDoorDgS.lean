/- Contract of the reference's Sum. -/
import Derived.Test.YtpneahdbiikonaaDoorDgC
namespace Go.Proofs.YtpneahdbiikonaaDoor
open Go.RowKit
set_option linter.unusedVariables false

structure SumW (w : World) (a b : List Nat) (i cy : Nat) (v : Value) (O : List Nat) (wr : World) : Prop where
  inv : SumI a b i cy O
  own : wr.ownsRow w.heap.size 3 1 v O.length (O.map dv)
  bel : Below w.heap.size w wr

theorem SumW.step {w wr w2 : World} {a b : List Nat} {i cy : Nat} {u v : Value} {O : List Nat} {o : Obj} {D : Int} (h : SumW w a b i cy u O wr) (ca : Can a) (cb : Can b) (hc : i < a.length ∨ i < b.length ∨ 0 < cy)
    (hown : w2.ownsRow w.heap.size 3 1 v (O.length + 1) (O.map dv ++ [.int .i64 D])) (hgrow : (wr.alloc o).grownBy w2 u.ownBlock) (hD : D = (((cy + a.getD i 0 + b.getD i 0) % 268435456 : Nat) : Int)) :
    SumW w a b (i + 1) ((cy + a.getD i 0 + b.getD i 0) / 268435456) v (O ++ [(cy + a.getD i 0 + b.getD i 0) % 268435456]) w2 := by
  have hsz : w.heap.size ≤ (wr.alloc o).heap.size := (h.bel.alloc h.bel.size o).size
  refine ⟨sumI_step ca cb h.inv hc, ?_, (h.bel.alloc h.bel.size o).grown hgrow hsz (fun k hk => (h.own.lt k hk).1)⟩
  rw [hD] at hown
  simpa [dv] using hown

set_option maxHeartbeats 2000000 in
theorem sum_any (A B : Option Addr) (n m c d : Nat) (a b : List Nat) (w : World) (ha : Dig w A n c a) (hb : Dig w B m d b) (ca : Can a) (cb : Can b) (h1 : a.length ≤ 2000000) (h2 : b.length ≤ 2000000) :
    Calls Tryd.prog 52 #[.slice A n c, .slice B m d] w (Ret w (dgs (val a + val b))) := by
  obtain ⟨i0, hi, hz0, hz1, hz2⟩ := info_parts Tryd.infoI
  have hla := ha.len
  have hlb := hb.len
  have HA := Lib.hid ha
  have HB := Lib.hid hb
  have CA := Lib.hid ca
  have CB := Lib.hid cb
  clear ha hb ca cb
  have LA := Lib.hid hla
  have LB := Lib.hid hlb
  have n1 : n ≤ 2000000 := by omega
  have n2 : m ≤ 2000000 := by omega
  clear hla hlb h1 h2
  go_enter Tryd.func52, Tryd.ntmps52
  go_wp2_with fail
  go_loopw [5, 6, 7] (fun v cv iv wr => ∃ i cy : Nat, ∃ O : List Nat, iv = .int .i64 (i : Int) ∧ cv = .int .i64 (cy : Int) ∧ SumW w a b i cy v O wr) (fun _ _ iv _ => max n m + 1 - (intOf iv).toNat)
  case atStart => exact ⟨0, 0, [], rfl, rfl, ⟨sumI_start a b, World.ownsRow_nil _ _ _ _, Below.refl _ _⟩⟩
  case round =>
    obtain ⟨i, cy, O, rfl, rfl, hW⟩ := hrel
    have hcy := hW.inv.c1
    have hsm := hW.inv.small
    rw [← LA.out, ← LB.out] at hsm
    have hOl := hW.inv.len
    obtain ⟨Au, cu, rfl⟩ := own_shape hW.own
    have HW := Lib.hid hW
    have HO := Lib.hid hOl
    clear hW hOl
    have SM := Lib.hid hsm
    clear hsm
    by_cases q1 : i < n
    · by_cases q2 : i < m
      · skip
        obtain ⟨g, rfl, hg, hcl⟩ := (HA.out.keep HW.out.bel).cell (k := i) (by rw [← LA.out]; exact q1)
        obtain ⟨x, hx⟩ : ∃ x, x = a.getD i 0 := ⟨_, rfl⟩
        have hxb := CA.out.ok.get i
        rw [← hx] at hcl hxb
        obtain ⟨g', rfl, hg', hcl'⟩ := (HB.out.keep HW.out.bel).cell (k := i) (by rw [← LB.out]; exact q2)
        obtain ⟨y, hy⟩ : ∃ y, y = b.getD i 0 := ⟨_, rfl⟩
        have hyb := CB.out.ok.get i
        rw [← hy] at hcl' hyb
        have HX := Lib.hid hx
        have HY := Lib.hid hy
        clear hx hy
        have hi4 : i ≤ 2000001 := by have := SM.out; omega
        have hol : O.length ≤ 2000001 := by have := HO.out; omega
        have OR : Hid (i < a.length ∨ i < b.length ∨ 0 < cy) := (.inl (by rw [← LA.out]; exact q1))
        have z1 : (i : Int) < (n : Int) := by omega
        have z2 : (i : Int) < (m : Int) := by omega
        go_wp2_with (at_builtin; refine wpList_append_own _ rfl _ _ _ rfl w.heap.size 3 i0 (.int .i64 0) 1 8 Tryd.underlying42 hi hz0 hz1 hz2 rfl (by omega) _ _ _ rfl (HW.out.own.alloc _) ⟨wr.heap.size, 0, none⟩ 1 1 [.int .i64 (((cy : Int) + (x : Int) + (y : Int)) % 268435456)] rfl rfl (World.news_of_block (heap_alloc_new wr _)) (by simp [Value.oneCell']) (by unfold maxLen; omega) (by omega) (HW.out.bel.alloc HW.out.bel.size _).size ?_)
        intro v w2 hown hgrow hnil
        obtain ⟨Av, cv, rfl⟩ := own_shape hown
        have HN := Lib.hid hgrow
        have HV := Lib.hid hown
        clear hgrow hown hnil
        go_wp2_with fail
        go_roundw
        case rel => exact ⟨i + 1, _, _, by go_num, by rw [← HX.out, ← HY.out]; go_num, HW.out.step CA.out CB.out OR.out HV.out HN.out (by rw [← HX.out, ← HY.out]; first | rfl | omega)⟩
        case measure => have := SM.out; simp [intOf]; omega
      · skip
        obtain ⟨g, rfl, hg, hcl⟩ := (HA.out.keep HW.out.bel).cell (k := i) (by rw [← LA.out]; exact q1)
        obtain ⟨x, hx⟩ : ∃ x, x = a.getD i 0 := ⟨_, rfl⟩
        have hxb := CA.out.ok.get i
        rw [← hx] at hcl hxb
        have hy : 0 = b.getD i 0 := by rw [List.getD_eq_getElem?_getD, List.getElem?_eq_none (by rw [← LB.out]; omega)]; rfl
        have HX := Lib.hid hx
        have HY := Lib.hid hy
        clear hx hy
        have hi4 : i ≤ 2000001 := by have := SM.out; omega
        have hol : O.length ≤ 2000001 := by have := HO.out; omega
        have OR : Hid (i < a.length ∨ i < b.length ∨ 0 < cy) := (.inl (by rw [← LA.out]; exact q1))
        have z1 : (i : Int) < (n : Int) := by omega
        have z2 : ¬ (i : Int) < (m : Int) := by omega
        go_wp2_with (at_builtin; refine wpList_append_own _ rfl _ _ _ rfl w.heap.size 3 i0 (.int .i64 0) 1 8 Tryd.underlying42 hi hz0 hz1 hz2 rfl (by omega) _ _ _ rfl (HW.out.own.alloc _) ⟨wr.heap.size, 0, none⟩ 1 1 [.int .i64 (((cy : Int) + (x : Int)) % 268435456)] rfl rfl (World.news_of_block (heap_alloc_new wr _)) (by simp [Value.oneCell']) (by unfold maxLen; omega) (by omega) (HW.out.bel.alloc HW.out.bel.size _).size ?_)
        intro v w2 hown hgrow hnil
        obtain ⟨Av, cv, rfl⟩ := own_shape hown
        have HN := Lib.hid hgrow
        have HV := Lib.hid hown
        clear hgrow hown hnil
        go_wp2_with fail
        go_roundw
        case rel => exact ⟨i + 1, _, _, by go_num, by rw [← HX.out, ← HY.out]; go_num, HW.out.step CA.out CB.out OR.out HV.out HN.out (by rw [← HX.out, ← HY.out]; first | rfl | omega)⟩
        case measure => have := SM.out; simp [intOf]; omega
    · by_cases q2 : i < m
      · skip
        have hx : 0 = a.getD i 0 := by rw [List.getD_eq_getElem?_getD, List.getElem?_eq_none (by rw [← LA.out]; omega)]; rfl
        obtain ⟨g', rfl, hg', hcl'⟩ := (HB.out.keep HW.out.bel).cell (k := i) (by rw [← LB.out]; exact q2)
        obtain ⟨y, hy⟩ : ∃ y, y = b.getD i 0 := ⟨_, rfl⟩
        have hyb := CB.out.ok.get i
        rw [← hy] at hcl' hyb
        have HX := Lib.hid hx
        have HY := Lib.hid hy
        clear hx hy
        have hi4 : i ≤ 2000001 := by have := SM.out; omega
        have hol : O.length ≤ 2000001 := by have := HO.out; omega
        have OR : Hid (i < a.length ∨ i < b.length ∨ 0 < cy) := (.inr (.inl (by rw [← LB.out]; exact q2)))
        have z1 : ¬ (i : Int) < (n : Int) := by omega
        have z2 : (i : Int) < (m : Int) := by omega
        go_wp2_with (at_builtin; refine wpList_append_own _ rfl _ _ _ rfl w.heap.size 3 i0 (.int .i64 0) 1 8 Tryd.underlying42 hi hz0 hz1 hz2 rfl (by omega) _ _ _ rfl (HW.out.own.alloc _) ⟨wr.heap.size, 0, none⟩ 1 1 [.int .i64 (((cy : Int) + (y : Int)) % 268435456)] rfl rfl (World.news_of_block (heap_alloc_new wr _)) (by simp [Value.oneCell']) (by unfold maxLen; omega) (by omega) (HW.out.bel.alloc HW.out.bel.size _).size ?_)
        intro v w2 hown hgrow hnil
        obtain ⟨Av, cv, rfl⟩ := own_shape hown
        have HN := Lib.hid hgrow
        have HV := Lib.hid hown
        clear hgrow hown hnil
        go_wp2_with fail
        go_roundw
        case rel => exact ⟨i + 1, _, _, by go_num, by rw [← HX.out, ← HY.out]; go_num, HW.out.step CA.out CB.out OR.out HV.out HN.out (by rw [← HX.out, ← HY.out]; first | rfl | omega)⟩
        case measure => have := SM.out; simp [intOf]; omega
      · by_cases q3 : 0 < cy
        · skip
          have hx : 0 = a.getD i 0 := by rw [List.getD_eq_getElem?_getD, List.getElem?_eq_none (by rw [← LA.out]; omega)]; rfl
          have hy : 0 = b.getD i 0 := by rw [List.getD_eq_getElem?_getD, List.getElem?_eq_none (by rw [← LB.out]; omega)]; rfl
          have HX := Lib.hid hx
          have HY := Lib.hid hy
          clear hx hy
          have hi4 : i ≤ 2000001 := by have := SM.out; omega
          have hol : O.length ≤ 2000001 := by have := HO.out; omega
          have OR : Hid (i < a.length ∨ i < b.length ∨ 0 < cy) := (.inr (.inr q3))
          have z1 : ¬ (i : Int) < (n : Int) := by omega
          have z2 : ¬ (i : Int) < (m : Int) := by omega
          have z3 : (0 : Int) < (cy : Int) := by omega
          go_wp2_with (at_builtin; refine wpList_append_own _ rfl _ _ _ rfl w.heap.size 3 i0 (.int .i64 0) 1 8 Tryd.underlying42 hi hz0 hz1 hz2 rfl (by omega) _ _ _ rfl (HW.out.own.alloc _) ⟨wr.heap.size, 0, none⟩ 1 1 [.int .i64 (((cy : Int)) % 268435456)] rfl rfl (World.news_of_block (heap_alloc_new wr _)) (by simp [Value.oneCell']) (by unfold maxLen; omega) (by omega) (HW.out.bel.alloc HW.out.bel.size _).size ?_)
          intro v w2 hown hgrow hnil
          obtain ⟨Av, cv, rfl⟩ := own_shape hown
          have HN := Lib.hid hgrow
          have HV := Lib.hid hown
          clear hgrow hown hnil
          go_wp2_with fail
          go_roundw
          case rel => exact ⟨i + 1, _, _, by go_num, by rw [← HX.out, ← HY.out]; go_num, HW.out.step CA.out CB.out OR.out HV.out HN.out (by rw [← HX.out, ← HY.out]; first | rfl | omega)⟩
          case measure => have := SM.out; simp [intOf]; omega
        · have hc0 : cy = 0 := by omega
          subst hc0
          have z1 : ¬ (i : Int) < (n : Int) := by omega
          have z2 : ¬ (i : Int) < (m : Int) := by omega
          have E : Hid (O = dgs (val a + val b)) := sumI_end HW.out.inv (by rw [← LA.out]; exact q1) (by rw [← LB.out]; exact q2)
          go_wp2_with fail
          go_ret
          have ho := HW.out.own
          rw [← E.out]
          exact ret_of_own ho HW.out.bel
end Go.Proofs.YtpneahdbiikonaaDoor
