/- Place: contracts of the program's texts of points. -/
import Derived.Test.YtndcjldnnfhedaaDoorPcQ
import Derived.Test.YtndcjldnnfhedaaDoorPcD
import Derived.Test.YtndcjldnnfhedaaDoorAnX
namespace Go.Proofs.YtndcjldnnfhedaaDoor
open Go.RowKit
set_option linter.unusedVariables false
set_option maxRecDepth 100000

theorem ret_s8 {s t : ByteArray} (h : s = t) : Ending.returned (.string s) = .returned (.string t) := by rw [h]
set_option maxHeartbeats 1000000 in
theorem pCoNS (n : Int) (w : World) (h1 : -10800000 ≤ n) (h2 : n ≤ 10800000) (htab : Tab w) :
    Calls Tryd.prog 41 #[.int .i64 n, .string ⟨#[78, 83]⟩] w fun e w' => e = .returned (.string (ba (coT n 78 83))) ∧ Below w.heap.size w w' := by
  obtain ⟨a, ha⟩ : ∃ a : Int, (n.natAbs : Int) = a := ⟨_, rfl⟩
  have hin : inA a = true := (inA_iff _).2 (by omega)
  have CT := Lib.hid (fun wx (hb : Below w.heap.size w wx) => toldT (s := ba (textT a)) (y := 0) (if_pos hin) (if_pos hin) (pText a wx (Lib.tabBelow_of_tabIs htab wx hb)))
  have ht : (ba (textT a)).size ≤ 31 := by rw [ba_size]; exact textT_len a
  have E : Hid (ba (coT n 78 83) = ba (textT a) ++ (if n < 0 then ⟨#[83]⟩ else ⟨#[78]⟩)) := by
    show _ = _
    unfold coT
    rw [ha, ← ba_app]
    split <;> rfl
  generalize ba (coT n 78 83) = R at *
  generalize ba (textT a) = T at *
  clear hin htab
  have HB := Lib.hid (Below.refl w.heap.size w)
  by_cases hn : n < 0
  · rw [if_pos hn] at E
    have e1 : -n = a := by omega
    clear ha
    go_enter Tryd.func41, Tryd.ntmps41
    go_wp2_with fail
    go_region
    all_goals
      go_wp2_with fail
      go_region
      all_goals
        go_wp2_with fail
        refine (CT.out _ (Below.refl _ _).drew.drew).mono ?_
        rintro e w1 ⟨rfl, hb⟩
        go_wp2_with fail
        go_ret
        exact ⟨ret_s8 E.out.symm, bdrew (bdrew hb)⟩
  · rw [if_neg hn] at E
    have e1 : n = a := by omega
    subst e1
    clear ha
    go_enter Tryd.func41, Tryd.ntmps41
    go_wp2_with fail
    go_region
    all_goals
      go_wp2_with fail
      refine (CT.out _ (Below.refl _ _).drew).mono ?_
      rintro e w1 ⟨rfl, hb⟩
      go_wp2_with fail
      go_ret
      exact ⟨ret_s8 E.out.symm, bdrew hb⟩
set_option maxHeartbeats 1000000 in
theorem pCoEW (n : Int) (w : World) (h1 : -10800000 ≤ n) (h2 : n ≤ 10800000) (htab : Tab w) :
    Calls Tryd.prog 41 #[.int .i64 n, .string ⟨#[69, 87]⟩] w fun e w' => e = .returned (.string (ba (coT n 69 87))) ∧ Below w.heap.size w w' := by
  obtain ⟨a, ha⟩ : ∃ a : Int, (n.natAbs : Int) = a := ⟨_, rfl⟩
  have hin : inA a = true := (inA_iff _).2 (by omega)
  have CT := Lib.hid (fun wx (hb : Below w.heap.size w wx) => toldT (s := ba (textT a)) (y := 0) (if_pos hin) (if_pos hin) (pText a wx (Lib.tabBelow_of_tabIs htab wx hb)))
  have ht : (ba (textT a)).size ≤ 31 := by rw [ba_size]; exact textT_len a
  have E : Hid (ba (coT n 69 87) = ba (textT a) ++ (if n < 0 then ⟨#[87]⟩ else ⟨#[69]⟩)) := by
    show _ = _
    unfold coT
    rw [ha, ← ba_app]
    split <;> rfl
  generalize ba (coT n 69 87) = R at *
  generalize ba (textT a) = T at *
  clear hin htab
  have HB := Lib.hid (Below.refl w.heap.size w)
  by_cases hn : n < 0
  · rw [if_pos hn] at E
    have e1 : -n = a := by omega
    clear ha
    go_enter Tryd.func41, Tryd.ntmps41
    go_wp2_with fail
    go_region
    all_goals
      go_wp2_with fail
      go_region
      all_goals
        go_wp2_with fail
        refine (CT.out _ (Below.refl _ _).drew.drew).mono ?_
        rintro e w1 ⟨rfl, hb⟩
        go_wp2_with fail
        go_ret
        exact ⟨ret_s8 E.out.symm, bdrew (bdrew hb)⟩
  · rw [if_neg hn] at E
    have e1 : n = a := by omega
    subst e1
    clear ha
    go_enter Tryd.func41, Tryd.ntmps41
    go_wp2_with fail
    go_region
    all_goals
      go_wp2_with fail
      refine (CT.out _ (Below.refl _ _).drew).mono ?_
      rintro e w1 ⟨rfl, hb⟩
      go_wp2_with fail
      go_ret
      exact ⟨ret_s8 E.out.symm, bdrew hb⟩
def ptS (x y : Int) : ByteArray := if ptOk x y = true then ba (ptT x y) else ba []
def ptE (x y : Int) : Int := if ptOk x y = true then 0 else 1
set_option maxHeartbeats 2000000 in
theorem pPtText (x y : Int) (w : World) (htab : Tab w) :
    Calls Tryd.prog 28 #[.agg #[.int .i64 x, .int .i64 y]] w fun e w' => e = .returned (.tuple #[.string (ptS x y), .int .i64 (ptE x y)]) ∧ Below w.heap.size w w' := by
  have A := At2.new w (.int .i64 x) (.int .i64 y) 35
  have HB := Lib.hid (below1 w (.cells #[.int .i64 x, .int .i64 y] 35))
  have CV := Lib.hid (fun wx => pPtValid x y wx)
  obtain ⟨A0, A1, -, -, -⟩ := id A
  cases hp : ptOk x y
  · rw [show ptS x y = ⟨#[]⟩ from if_neg (by rw [hp]; simp), show ptE x y = 1 from if_neg (by rw [hp]; simp)]
    rw [hp] at CV
    go_enter Tryd.func28, Tryd.ntmps28
    go_wp2_with fail
    refine ((CV).out _).mono ?_
    rintro e w1 ⟨rfl, hb⟩
    clear A0 A1
    have A := A.keep hb
    have HB := Lib.hid (bstep HB.out hb)
    clear hb
    obtain ⟨A0, A1, -, -, -⟩ := id A
    go_wp2_with fail
    go_ret2
    exact ⟨rfl, HB.out⟩
  · have kp := (ptOk_iff _ _).1 hp
    rw [show ptS x y = ba (ptT x y) from if_pos hp, show ptE x y = 0 from if_pos hp]
    rw [hp] at CV
    have C1 := Lib.hid (fun wx (hb : Below w.heap.size w wx) => pCoNS x wx (by omega) (by omega) (Lib.tabBelow_of_tabIs htab wx hb))
    have C2 := Lib.hid (fun wx (hb : Below w.heap.size w wx) => pCoEW y wx (by omega) (by omega) (Lib.tabBelow_of_tabIs htab wx hb))
    have E : Hid (ba (ptT x y) = (ba (coT x 78 83) ++ ⟨#[32]⟩) ++ ba (coT y 69 87)) := by
      show _ = _
      unfold ptT
      rw [show (⟨#[32]⟩ : ByteArray) = ba [32] from rfl, ba_app, ba_app]
      simp
    have s1 : (ba (coT x 78 83)).size ≤ 32 := by rw [ba_size]; exact coT_len _ _ _
    have s2 : (ba (coT y 69 87)).size ≤ 32 := by rw [ba_size]; exact coT_len _ _ _
    generalize ba (ptT x y) = R at *
    generalize ba (coT x 78 83) = T at *
    generalize ba (coT y 69 87) = U at *
    clear kp hp htab
    go_enter Tryd.func28, Tryd.ntmps28
    go_wp2_with fail
    refine ((CV).out _).mono ?_
    rintro e w1 ⟨rfl, hb⟩
    clear A0 A1
    have A := A.keep hb
    have HB := Lib.hid (bstep HB.out hb)
    clear hb
    obtain ⟨A0, A1, -, -, -⟩ := id A
    go_upto_region 3 with fail
    clear A0 A1
    obtain ⟨A0, A1⟩ := A.bel
    refine wp_region_bel (by kernel_rfl) (by kernel_rfl) ?_
    repeat (go_big_quiet_step (first | (go_at_call 41; first | (with_reducible refine bel_of (C1.out _ (bstep HB.out (Bel.h _)))) | (with_reducible refine bel_of (C2.out _ (bstep HB.out (Bel.h _)))))))
    refine wpQuiet_nil ?_
    intro _ hw'
    obtain ⟨pq, hw''⟩ := hw'
    subst hw''
    have HB := Lib.hid (bstep HB.out pq.h)
    go_wp2_with fail
    go_ret2
    exact ⟨congrArg (fun r => Ending.returned (Value.tuple #[Value.string r, Value.int .i64 0])) E.out.symm, HB.out⟩
end Go.Proofs.YtndcjldnnfhedaaDoor
