/- Contract of the reference's Times. -/
import Derived.Test.YtpneahdbiikonaaDoorDgL
namespace Go.Proofs.YtpneahdbiikonaaDoor
open Go.RowKit
set_option linter.unusedVariables false

/-- the block that Times fills -/
structure TimW (w : World) (L : Nat) (O : List Nat) (wr : World) : Prop where
  own : wr.ownsRow w.heap.size 3 1 (.slice (some ⟨w.heap.size, 0, none⟩) L L) L (O.map dv)
  bel : Below w.heap.size w wr
theorem TimW.cell {w wr : World} {L : Nat} {O : List Nat} (h : TimW w L O wr) {j : Nat} (hj : j < L) : wr.cell? ⟨w.heap.size, j, none⟩ = some (.int .i64 ((O.getD j 0 : Nat) : Int)) := by
  have hl : O.length = L := by have := h.own.1; simpa using this
  have := h.own.cellAt j (by omega)
  rw [this, List.getElem?_map, List.getElem?_eq_getElem (by omega : j < O.length), List.getD_eq_getElem?_getD, List.getElem?_eq_getElem (by omega : j < O.length)]; rfl
theorem TimW.froz {w wr : World} {L : Nat} {O : List Nat} (h : TimW w L O wr) (j : Nat) : wr.frozen? ⟨w.heap.size, j, none⟩ = false := h.own.frozenAt j
theorem TimW.store {w wr : World} {L : Nat} {O : List Nat} (h : TimW w L O wr) (j x : Nat) {X : Int} (hX : X = (x : Int)) : TimW w L (O.set j x) (wr.setCell ⟨w.heap.size, j, none⟩ (.int .i64 X)) := by
  refine ⟨?_, h.bel.setCell (Nat.le_refl _) _⟩
  have := (h.own.stored j (.int .i64 X)).1
  rw [hX] at this ⊢
  rw [List.map_set]
  exact this
theorem TimW.keep {w wr ws : World} {L : Nat} {O : List Nat} (h : TimW w L O wr) (hb : Below wr.heap.size wr ws) : TimW w L O ws := by
  refine ⟨⟨h.own.1, ?_⟩, h.bel.trans (hb.mono h.bel.size)⟩
  rcases h.own.2 with ⟨hv, _⟩ | ⟨g, cap, cur, hv, hb0, hg, r⟩
  · simp at hv
  · exact .inr ⟨g, cap, cur, hv, hb0, (hb.block g (Array.getElem?_eq_some_iff.1 hg).1).trans hg, r⟩
theorem TimW.lt {w wr : World} {L : Nat} {O : List Nat} (h : TimW w L O wr) : w.heap.size < wr.heap.size := (h.own.lt _ rfl).2
theorem TimW.drew {w wr : World} {L : Nat} {O : List Nat} (h : TimW w L O wr) : TimW w L O wr.drew := ⟨h.own.drew, h.bel.drew⟩

set_option maxHeartbeats 4000000 in
theorem times_any (A B : Option Addr) (n m c d : Nat) (a b : List Nat) (w : World) (ha : Dig w A n c a) (hb : Dig w B m d b) (ca : Dok a) (cb : Dok b) (h1 : a.length ≤ 2000000) (h2 : b.length ≤ 2000000) :
    Calls Tryd.prog 40 #[.slice A n c, .slice B m d] w (Ret w (dgs (val a * val b))) := by
  obtain ⟨i0, hi, hz0, hz1, hz2⟩ := info_parts Tryd.infoI
  have hla := ha.len
  have hlb := hb.len
  have HA := Lib.hid ha
  have HB := Lib.hid hb
  have CA := Lib.hid ca
  have CB := Lib.hid cb
  clear ha hb ca cb
  have LA := Lib.hid hla
  have LB := Lib.hid hlb
  have n1 : n ≤ 2000000 := by omega
  have n2 : m ≤ 2000000 := by omega
  clear hla hlb h1 h2
  go_enter Tryd.func40, Tryd.ntmps40
  go_wp2_with (at_make; refine wpList_make_full _ rfl _ _ 42 rfl w.heap.size 3 i0 (.int .i64 0) 1 Tryd.underlying42 hi hz0 hz1 _ _ _ _ (n + m) rfl rfl (by first | rfl | go_num) (by first | rfl | go_num) (by rw [hz2]; omega) (by unfold maxLen; omega) (Nat.le_refl _) ?_)
  intro w1 hown hgrow
  have hB : Below w.heap.size w w1 := (Below.refl _ _).grown hgrow (Nat.le_refl _) (by intro k hk; cases hk)
  have T0 : Hid (TimW w (n + m) (List.replicate (a.length + b.length) 0) w1) := by
    refine ⟨?_, hB⟩
    have e : (List.replicate (a.length + b.length) 0).map dv = (madeCells #[Value.int .i64 0] (n + m)).toList := by rw [toList_madeCells_one, List.map_replicate, LA.out, LB.out]; rfl
    rw [e]
    simpa [Value.cells] using hown
  clear hgrow hown hB
  go_wp2_with fail
  go_loopw [6] (fun iv wr => ∃ i : Nat, ∃ O : List Nat, i ≤ n ∧ iv = .int .i64 (i : Int) ∧ Hid (TimI a b i O) ∧ Hid (TimW w (n + m) O wr)) (fun iv _ => n - (intOf iv).toNat)
  case atStart => exact ⟨0, _, Nat.zero_le _, rfl, timI_start a b, T0⟩
  case round =>
    clear T0
    obtain ⟨i, O, hin, rfl, hI, hT⟩ := hrel
    by_cases q1 : i < n
    · have z1 : (i : Int) < (n : Int) := by omega
      have hia : i < a.length := by rw [← LA.out]; exact q1
      have J0 : Hid (TimJ a b i 0 0 O) := timJ_start CA.out CB.out hia hI.out
      clear hI
      go_wp2_with fail
      go_loopw [7, 8] (fun cv kv ws => ∃ k cy : Nat, ∃ O' : List Nat, k ≤ m ∧ cv = .int .i64 (cy : Int) ∧ kv = .int .i64 (k : Int) ∧ Hid (TimJ a b i k cy O') ∧ Hid (TimW w (n + m) O' ws)) (fun _ kv _ => m - (intOf kv).toNat)
      case atStart => exact ⟨0, 0, O, Nat.zero_le _, rfl, rfl, J0, hT⟩
      case round =>
        clear hT
        obtain ⟨k, cy, O', hkm, rfl, rfl, hJ, hT⟩ := hrel
        have hcy := hJ.out.c1
        by_cases q2 : k < m
        · have z2 : (k : Int) < (m : Int) := by omega
          have hkb : k < b.length := by rw [← LB.out]; exact q2
          obtain ⟨ga, rfl, hga, hca⟩ := (HA.out.keep hT.out.bel).cell hia
          obtain ⟨gb, rfl, hgb, hcb⟩ := (HB.out.keep hT.out.bel).cell hkb
          have hco := hT.out.cell (j := i + k) (by omega)
          have hfo := hT.out.froz (i + k)
          obtain ⟨x, hx⟩ : ∃ x, x = a.getD i 0 := ⟨_, rfl⟩
          obtain ⟨y, hy⟩ : ∃ y, y = b.getD k 0 := ⟨_, rfl⟩
          obtain ⟨o, ho⟩ : ∃ o, o = O'.getD (i + k) 0 := ⟨_, rfl⟩
          have hxb := CA.out.get i
          have hyb := CB.out.get k
          have hob := hJ.out.ok.get (i + k)
          rw [← hx] at hca hxb
          rw [← hy] at hcb hyb
          rw [← ho] at hco hob
          obtain ⟨z, hz⟩ : ∃ z, z = x * y := ⟨_, rfl⟩
          have hzb : z ≤ 72057593501057025 := by rw [hz]; exact mul_digit hxb hyb
          have E : (x : Int) * (y : Int) = (z : Int) := by rw [hz, Int.natCast_mul]
          have J2 : Hid (TimJ a b i (k + 1) ((o + z + cy) / 268435456) (O'.set (i + k) ((o + z + cy) % 268435456))) := by
            have := timJ_step CA.out CB.out hia hkb hJ.out
            rw [← hx, ← hy, ← ho, ← hz] at this
            exact this
          clear hx hy ho hz hkb
          have W1 : IntKind.i64.wrap ((i : Int) + (k : Int)) = (i : Int) + (k : Int) := IntWalk.i64_in _ (by omega)
          have W2 : IntKind.i64.wrap (z : Int) = (z : Int) := IntWalk.i64_in _ (by omega)
          have W3 : IntKind.i64.wrap ((o : Int) + (z : Int)) = (o : Int) + (z : Int) := IntWalk.i64_in _ (by omega)
          have W4 : IntKind.i64.wrap ((o : Int) + (z : Int) + (cy : Int)) = (o : Int) + (z : Int) + (cy : Int) := IntWalk.i64_in _ (by omega)
          have b0 : (0 : Int) ≤ (i : Int) + (k : Int) := by omega
          have b1 : (i : Int) + (k : Int) < (n : Int) + (m : Int) := by omega
          have b2 : ((i : Int) + (k : Int)).toNat = i + k := by omega
          go_wp2_with fail
          go_region
          all_goals
            clear W1 W2 W3 W4 b2
            go_wp2_with fail
            go_roundw
            case rel => exact ⟨k + 1, (o + z + cy) / 268435456, _, by omega, by go_num, by go_num, J2, (hT.out.drew).store (i + k) ((o + z + cy) % 268435456) (by omega)⟩
            case measure => simp [intOf]; omega
        · have e : k = m := by omega
          subst e
          have z2 : ¬ (k : Int) < (k : Int) := by omega
          have hco := hT.out.cell (j := i + k) (by omega)
          have hfo := hT.out.froz (i + k)
          have I2 : Hid (TimI a b (i + 1) (O'.set (i + k) cy)) := by
            have h := hJ.out
            rw [LB.out] at h ⊢
            exact timJ_end hia h
          go_wp2_with fail
          go_roundw
          case rel => exact ⟨i + 1, _, by omega, by go_num, I2, hT.out.store (i + k) cy rfl⟩
          case measure => simp [intOf]; omega
    · have e : i = n := by omega
      subst e
      have z1 : ¬ (i : Int) < (i : Int) := by omega
      have E : Hid (val O = val a * val b) := by
        have h := hI.out
        rw [LA.out] at h
        exact timI_end h
      have hl : O.length = i + m := by have := hT.out.own.1; simpa using this
      have HL := Lib.hid hl
      clear hl
      go_wp2_with (go_at_call 38; refine (trim_any _ _ _ O _ (dig_of_own hT.out.own) hI.out.ok (by rw [HL.out]; omega)).mono ?_; rintro e w2 ⟨Ar, nr, cr, rfl, hdr, hfr, hbr⟩)
      go_ret
      rw [E.out] at hdr
      exact Ret.under hT.out.bel ⟨Ar, nr, cr, rfl, hdr, hfr, hbr⟩
end Go.Proofs.YtpneahdbiikonaaDoor
