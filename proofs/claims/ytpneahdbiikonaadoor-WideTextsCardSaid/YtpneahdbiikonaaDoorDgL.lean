/- Contract of the reference's Less. -/
import Derived.Test.YtpneahdbiikonaaDoorDgC
namespace Go.Proofs.YtpneahdbiikonaaDoor
open Go.RowKit
set_option linter.unusedVariables false

structure LessW (w : World) (a b : List Nat) (i br : Nat) (v : Value) (O : List Nat) (wr : World) : Prop where
  inv : LessI a b i br O
  own : wr.ownsRow w.heap.size 3 1 v O.length (O.map dv)
  bel : Below w.heap.size w wr

theorem LessW.step {w wr w2 : World} {a b : List Nat} {i br d b' : Nat} {u v : Value} {O : List Nat} {o : Obj} {D : Int} (h : LessW w a b i br u O wr) (ha : Dok a) (hb : Dok b)
    (hown : w2.ownsRow w.heap.size 3 1 v (O.length + 1) (O.map dv ++ [.int .i64 D])) (hgrow : (wr.alloc o).grownBy w2 u.ownBlock) (hD : D = ((d : Nat) : Int))
    (hd : d + (br + b.getD i 0) = a.getD i 0 + 268435456 * b') (hd1 : d < 268435456) (hb' : b' ≤ 1) :
    LessW w a b (i + 1) b' v (O ++ [d]) w2 := by
  have hsz : w.heap.size ≤ (wr.alloc o).heap.size := (h.bel.alloc h.bel.size o).size
  refine ⟨lessI_step ha hb h.inv d b' hd hd1 hb', ?_, (h.bel.alloc h.bel.size o).grown hgrow hsz (fun k hk => (h.own.lt k hk).1)⟩
  rw [hD] at hown
  simpa [dv] using hown

set_option maxHeartbeats 2000000 in
theorem less_any (A B : Option Addr) (n m c d : Nat) (a b : List Nat) (w : World) (ha : Dig w A n c a) (hb : Dig w B m d b) (ca : Dok a) (cb : Can b) (hv : val b ≤ val a) (h1 : a.length ≤ 2000000) (h2 : b.length ≤ 2000000) :
    Calls Tryd.prog 41 #[.slice A n c, .slice B m d] w (Ret w (dgs (val a - val b))) := by
  obtain ⟨i0, hi, hz0, hz1, hz2⟩ := info_parts Tryd.infoI
  have hla := ha.len
  have hlb := hb.len
  have HA := Lib.hid ha
  have HB := Lib.hid hb
  have CA := Lib.hid ca
  have CB := Lib.hid cb
  have HLE := Lib.hid hv
  clear ha hb ca cb hv
  have LA := Lib.hid hla
  have LB := Lib.hid hlb
  have n1 : n ≤ 2000000 := by omega
  have n2 : m ≤ 2000000 := by omega
  clear hla hlb h1 h2
  go_enter Tryd.func41, Tryd.ntmps41
  go_wp2_with fail
  go_loopw [5, 6, 7] (fun v cv iv wr => ∃ i br : Nat, ∃ O : List Nat, i ≤ n ∧ iv = .int .i64 (i : Int) ∧ cv = .int .i64 (br : Int) ∧ LessW w a b i br v O wr) (fun _ _ iv _ => n - (intOf iv).toNat)
  case atStart => exact ⟨0, 0, [], Nat.zero_le _, rfl, rfl, ⟨lessI_start a b, World.ownsRow_nil _ _ _ _, Below.refl _ _⟩⟩
  case round =>
    obtain ⟨i, br, O, hin, rfl, rfl, hW⟩ := hrel
    have hbr := hW.inv.b1
    have hOl := hW.inv.len
    obtain ⟨Au, cu, rfl⟩ := own_shape hW.own
    have HW := Lib.hid hW
    have HO := Lib.hid hOl
    clear hW hOl
    by_cases q1 : i < n
    · have z1 : (i : Int) < (n : Int) := by omega
      obtain ⟨g, rfl, hg, hcl⟩ := (HA.out.keep HW.out.bel).cell (k := i) (by rw [← LA.out]; exact q1)
      obtain ⟨x, hx⟩ : ∃ x, x = a.getD i 0 := ⟨_, rfl⟩
      have hxb := CA.out.get i
      rw [← hx] at hcl hxb
      have HX := Lib.hid hx
      have hol : O.length ≤ 2000001 := by have := HO.out; omega
      clear hx
      by_cases q2 : i < m
      · have z2 : (i : Int) < (m : Int) := by omega
        obtain ⟨g', rfl, hg', hcl'⟩ := (HB.out.keep HW.out.bel).cell (k := i) (by rw [← LB.out]; exact q2)
        obtain ⟨y, hy⟩ : ∃ y, y = b.getD i 0 := ⟨_, rfl⟩
        have hyb := CB.out.ok.get i
        rw [← hy] at hcl' hyb
        have HY := Lib.hid hy
        clear hy
        by_cases q3 : (x : Int) - (br : Int) - (y : Int) < 0
        · skip
          have z3 : (x : Int) - (br : Int) - (y : Int) < 0 := by omega
          go_wp2_with (at_builtin; refine wpList_append_own _ rfl _ _ _ rfl w.heap.size 3 i0 (.int .i64 0) 1 8 Tryd.underlying42 hi hz0 hz1 hz2 rfl (by omega) _ _ _ rfl (HW.out.own.alloc _) ⟨wr.heap.size, 0, none⟩ 1 1 [.int .i64 ((x : Int) - (br : Int) - (y : Int) + 268435456)] rfl rfl (World.news_of_block (heap_alloc_new wr _)) (by simp [Value.oneCell']) (by unfold maxLen; omega) (by omega) (HW.out.bel.alloc HW.out.bel.size _).size ?_)
          intro v w2 hown hgrow hnil
          obtain ⟨Av, cv, rfl⟩ := own_shape hown
          have HN := Lib.hid hgrow
          have HV := Lib.hid hown
          clear hgrow hown hnil
          go_wp2_with fail
          go_roundw
          case rel => exact ⟨i + 1, 1, _, by omega, by go_num, rfl, HW.out.step (d := ((x : Int) - (br : Int) - (y : Int) + 268435456).toNat) CA.out CB.out.ok HV.out HN.out (by omega) (by rw [← HX.out, ← HY.out]; omega) (by omega) (by omega)⟩
          case measure => simp [intOf]; omega
        · skip
          have z3 : ¬ (x : Int) - (br : Int) - (y : Int) < 0 := by omega
          go_wp2_with (at_builtin; refine wpList_append_own _ rfl _ _ _ rfl w.heap.size 3 i0 (.int .i64 0) 1 8 Tryd.underlying42 hi hz0 hz1 hz2 rfl (by omega) _ _ _ rfl (HW.out.own.alloc _) ⟨wr.heap.size, 0, none⟩ 1 1 [.int .i64 ((x : Int) - (br : Int) - (y : Int))] rfl rfl (World.news_of_block (heap_alloc_new wr _)) (by simp [Value.oneCell']) (by unfold maxLen; omega) (by omega) (HW.out.bel.alloc HW.out.bel.size _).size ?_)
          intro v w2 hown hgrow hnil
          obtain ⟨Av, cv, rfl⟩ := own_shape hown
          have HN := Lib.hid hgrow
          have HV := Lib.hid hown
          clear hgrow hown hnil
          go_wp2_with fail
          go_roundw
          case rel => exact ⟨i + 1, 0, _, by omega, by go_num, rfl, HW.out.step (d := ((x : Int) - (br : Int) - (y : Int)).toNat) CA.out CB.out.ok HV.out HN.out (by omega) (by rw [← HX.out, ← HY.out]; omega) (by omega) (by omega)⟩
          case measure => simp [intOf]; omega
      · have z2 : ¬ (i : Int) < (m : Int) := by omega
        obtain ⟨y, hy⟩ : ∃ y, y = b.getD i 0 := ⟨_, rfl⟩
        have hy0 : y = 0 := by rw [hy, List.getD_eq_getElem?_getD, List.getElem?_eq_none (by rw [← LB.out]; omega)]; rfl
        have HY := Lib.hid hy
        have HY0 := Lib.hid hy0
        clear hy hy0
        by_cases q3 : (x : Int) - (br : Int) < 0
        · skip
          have z3 : (x : Int) - (br : Int) < 0 := by omega
          go_wp2_with (at_builtin; refine wpList_append_own _ rfl _ _ _ rfl w.heap.size 3 i0 (.int .i64 0) 1 8 Tryd.underlying42 hi hz0 hz1 hz2 rfl (by omega) _ _ _ rfl (HW.out.own.alloc _) ⟨wr.heap.size, 0, none⟩ 1 1 [.int .i64 ((x : Int) - (br : Int) + 268435456)] rfl rfl (World.news_of_block (heap_alloc_new wr _)) (by simp [Value.oneCell']) (by unfold maxLen; omega) (by omega) (HW.out.bel.alloc HW.out.bel.size _).size ?_)
          intro v w2 hown hgrow hnil
          obtain ⟨Av, cv, rfl⟩ := own_shape hown
          have HN := Lib.hid hgrow
          have HV := Lib.hid hown
          clear hgrow hown hnil
          go_wp2_with fail
          go_roundw
          case rel => exact ⟨i + 1, 1, _, by omega, by go_num, rfl, HW.out.step (d := ((x : Int) - (br : Int) + 268435456).toNat) CA.out CB.out.ok HV.out HN.out (by omega) (by rw [← HX.out, ← HY.out]; have := HY0.out; omega) (by omega) (by omega)⟩
          case measure => simp [intOf]; omega
        · skip
          have z3 : ¬ (x : Int) - (br : Int) < 0 := by omega
          go_wp2_with (at_builtin; refine wpList_append_own _ rfl _ _ _ rfl w.heap.size 3 i0 (.int .i64 0) 1 8 Tryd.underlying42 hi hz0 hz1 hz2 rfl (by omega) _ _ _ rfl (HW.out.own.alloc _) ⟨wr.heap.size, 0, none⟩ 1 1 [.int .i64 ((x : Int) - (br : Int))] rfl rfl (World.news_of_block (heap_alloc_new wr _)) (by simp [Value.oneCell']) (by unfold maxLen; omega) (by omega) (HW.out.bel.alloc HW.out.bel.size _).size ?_)
          intro v w2 hown hgrow hnil
          obtain ⟨Av, cv, rfl⟩ := own_shape hown
          have HN := Lib.hid hgrow
          have HV := Lib.hid hown
          clear hgrow hown hnil
          go_wp2_with fail
          go_roundw
          case rel => exact ⟨i + 1, 0, _, by omega, by go_num, rfl, HW.out.step (d := ((x : Int) - (br : Int)).toNat) CA.out CB.out.ok HV.out HN.out (by omega) (by rw [← HX.out, ← HY.out]; have := HY0.out; omega) (by omega) (by omega)⟩
          case measure => simp [intOf]; omega
    · have e : i = n := by omega
      subst e
      have E : Hid (val O = val a - val b) := by
        have h := HW.out.inv
        rw [LA.out] at h
        exact lessI_end CA.out CB.out HLE.out h
      have hol : O.length ≤ 2000001 := by have := HO.out; omega
      go_wp2_with (go_at_call 38; refine (trim_any Au _ cu O _ (dig_of_own HW.out.own) HW.out.inv.ok (by omega)).mono ?_; rintro e w2 ⟨Ar, nr, cr, rfl, hdr, hfr, hbr⟩)
      go_ret
      rw [E.out] at hdr
      exact Ret.under HW.out.bel ⟨Ar, nr, cr, rfl, hdr, hfr, hbr⟩
end Go.Proofs.YtpneahdbiikonaaDoor
