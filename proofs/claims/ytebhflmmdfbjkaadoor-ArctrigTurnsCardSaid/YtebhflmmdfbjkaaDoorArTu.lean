/- ArctrigTurns: the walk of the law. -/
import Derived.Test.YtebhflmmdfbjkaaDoorArTv
import Derived.Test.YtebhflmmdfbjkaaDoorArAg
import Derived.Test.YtebhflmmdfbjkaaDoorArd
namespace Go.Proofs.YtebhflmmdfbjkaaDoor
open Go.RowKit
set_option linter.unusedVariables false
set_option maxRecDepth 100000

theorem turns7_b1 (a b c d f : Int) (w : World) (h : fok a b = false)
    (C0 : Hid (∀ wx, Below w.heap.size w wx → Calls Tryd.prog 11 #[] wx fun e w' => e = .returned (.bool true) ∧ Below wx.heap.size wx w'))
    : Calls Tryd.prog 9 #[.agg #[.int .i64 a, .int .i64 b], .agg #[.int .i64 c, .int .i64 d], .int .u8 f] w fun e w' => e = .returned (.bool true) ∧ Below w.heap.size w w' := by
  have V1 := Lib.hid (fun wx => rValid7_is a b false h wx)
  clear h
  have Y := At2.new w (.int .i64 a) (.int .i64 b) 23
  have HB := Lib.hid (below1 w (.cells #[.int .i64 a, .int .i64 b] 23))
  have Y := Y.alloc (.cells #[.int .i64 c, .int .i64 d] 23)
  have X := At2.new (w.alloc (.cells #[.int .i64 a, .int .i64 b] 23)) (.int .i64 c) (.int .i64 d) 23
  have HB := Lib.hid (bstep HB.out (below1 (w.alloc (.cells #[.int .i64 a, .int .i64 b] 23)) (.cells #[.int .i64 c, .int .i64 d] 23)))
  simp at X
  obtain ⟨Y0, Y1, -, -, -⟩ := id Y
  obtain ⟨X0, X1, -, -, -⟩ := id X
  go_enter Tryd.func9, Tryd.ntmps9
  go_wp2_with fail
  refine (C0.out _ HB.out).mono ?_
  rintro e1 wz1 ⟨rfl, hb⟩
  clear Y0 Y1 X0 X1
  have Y := Y.keep hb
  have X := X.keep hb
  have HB := Lib.hid (bstep HB.out hb)
  clear hb
  obtain ⟨Y0, Y1, -, -, -⟩ := id Y
  obtain ⟨X0, X1, -, -, -⟩ := id X
  go_wp2_with fail
  refine (V1.out _).mono ?_
  rintro e2 wz2 ⟨rfl, hb⟩
  clear Y0 Y1 X0 X1
  have Y := Y.keep hb
  have X := X.keep hb
  have HB := Lib.hid (bstep HB.out hb)
  clear hb
  obtain ⟨Y0, Y1, -, -, -⟩ := id Y
  obtain ⟨X0, X1, -, -, -⟩ := id X
  go_wp2_with fail
  go_ret
  exact ⟨rfl, HB.out⟩
theorem turns7_b2 (a b c d f : Int) (w : World) (h : fok a b = true) (k : fok c d = false)
    (C0 : Hid (∀ wx, Below w.heap.size w wx → Calls Tryd.prog 11 #[] wx fun e w' => e = .returned (.bool true) ∧ Below wx.heap.size wx w'))
    : Calls Tryd.prog 9 #[.agg #[.int .i64 a, .int .i64 b], .agg #[.int .i64 c, .int .i64 d], .int .u8 f] w fun e w' => e = .returned (.bool true) ∧ Below w.heap.size w w' := by
  have V1 := Lib.hid (fun wx => rValid7_is a b true h wx)
  have V2 := Lib.hid (fun wx => rValid7_is c d false k wx)
  clear h k
  have Y := At2.new w (.int .i64 a) (.int .i64 b) 23
  have HB := Lib.hid (below1 w (.cells #[.int .i64 a, .int .i64 b] 23))
  have Y := Y.alloc (.cells #[.int .i64 c, .int .i64 d] 23)
  have X := At2.new (w.alloc (.cells #[.int .i64 a, .int .i64 b] 23)) (.int .i64 c) (.int .i64 d) 23
  have HB := Lib.hid (bstep HB.out (below1 (w.alloc (.cells #[.int .i64 a, .int .i64 b] 23)) (.cells #[.int .i64 c, .int .i64 d] 23)))
  simp at X
  obtain ⟨Y0, Y1, -, -, -⟩ := id Y
  obtain ⟨X0, X1, -, -, -⟩ := id X
  go_enter Tryd.func9, Tryd.ntmps9
  go_wp2_with fail
  refine (C0.out _ HB.out).mono ?_
  rintro e1 wz1 ⟨rfl, hb⟩
  clear Y0 Y1 X0 X1
  have Y := Y.keep hb
  have X := X.keep hb
  have HB := Lib.hid (bstep HB.out hb)
  clear hb
  obtain ⟨Y0, Y1, -, -, -⟩ := id Y
  obtain ⟨X0, X1, -, -, -⟩ := id X
  go_wp2_with fail
  refine (V1.out _).mono ?_
  rintro e2 wz2 ⟨rfl, hb⟩
  clear Y0 Y1 X0 X1
  have Y := Y.keep hb
  have X := X.keep hb
  have HB := Lib.hid (bstep HB.out hb)
  clear hb
  obtain ⟨Y0, Y1, -, -, -⟩ := id Y
  obtain ⟨X0, X1, -, -, -⟩ := id X
  go_wp2_with fail
  refine (V2.out _).mono ?_
  rintro e3 wz3 ⟨rfl, hb⟩
  clear Y0 Y1 X0 X1
  have Y := Y.keep hb
  have X := X.keep hb
  have HB := Lib.hid (bstep HB.out hb)
  clear hb
  obtain ⟨Y0, Y1, -, -, -⟩ := id Y
  obtain ⟨X0, X1, -, -, -⟩ := id X
  go_wp2_with fail
  go_ret
  exact ⟨rfl, HB.out⟩
set_option maxHeartbeats 4000000 in
theorem turns7_main (a b c d f r m na nb l h l1 h1 l2 h2 lp hp nl nh ya yb xa xb : Int) (w : World) (hv : fok a b = true) (kv : fok c d = true) (n1 : ¬ l > h) (n2 : ¬ l < 0) (n3 : ¬ h > 43200000) (hlp : l + 5400000 = lp) (hhp : h + 5400000 = hp) (hnl : -l = nl) (hnh : -h = nh) (f1 : 0 ≤ f) (f2 : f ≤ 255) (hr : f.tmod 9 = r) (r1 : 0 ≤ r) (r2 : r ≤ 8) (hm : 1 + r = m)
    (KN : Hid (∀ wx, Calls Tryd.prog 28 #[.agg #[.int .i64 a, .int .i64 b]] wx fun e w' => e = .returned (.agg #[.int .i64 nb, .int .i64 na]) ∧ Below wx.heap.size wx w'))
    (C0 : Hid (∀ wx, Below w.heap.size w wx → Calls Tryd.prog 11 #[] wx fun e w' => e = .returned (.bool true) ∧ Below wx.heap.size wx w'))
    (K1 : Hid (∀ wx, Below w.heap.size w wx → Calls Tryd.prog 18 #[.agg #[.int .i64 a, .int .i64 b], .agg #[.int .i64 c, .int .i64 d]] wx fun e w' => e = .returned (.tuple #[.agg #[.int .i64 l, .int .i64 h], .int .i64 0]) ∧ Below wx.heap.size wx w'))
    (K2 : Hid (∀ wx, Below w.heap.size w wx → Calls Tryd.prog 18 #[.agg #[.int .i64 c, .int .i64 d], .agg #[.int .i64 nb, .int .i64 na]] wx fun e w' => e = .returned (.tuple #[.agg #[.int .i64 l1, .int .i64 h1], .int .i64 0]) ∧ Below wx.heap.size wx w'))
    (K3 : Hid (∀ wx, Below w.heap.size w wx → Calls Tryd.prog 18 #[.agg #[.int .i64 nb, .int .i64 na], .agg #[.int .i64 c, .int .i64 d]] wx fun e w' => e = .returned (.tuple #[.agg #[.int .i64 l2, .int .i64 h2], .int .i64 0]) ∧ Below wx.heap.size wx w'))
    (T1 : Hid (∀ wx, Calls Tryd.prog 29 #[.agg #[.int .i64 lp, .int .i64 hp]] wx fun e w' => e = .returned (.tuple #[.agg #[.int .i64 l1, .int .i64 h1], .int .i64 0]) ∧ Below wx.heap.size wx w'))
    (T2 : Hid (∀ wx, Calls Tryd.prog 29 #[.agg #[.int .i64 nh, .int .i64 nl]] wx fun e w' => e = .returned (.tuple #[.agg #[.int .i64 l2, .int .i64 h2], .int .i64 0]) ∧ Below wx.heap.size wx w'))
    (S1 : Hid (∀ (g : Nat) (wx : World), At1 wx g (.int .i64 m) → Calls Tryd.prog 30 #[.agg #[.int .i64 a, .int .i64 b], .pointer (some ⟨g, 0, none⟩)] wx fun e w' => e = .returned (.agg #[.int .i64 ya, .int .i64 yb]) ∧ Below wx.heap.size wx w'))
    (S2 : Hid (∀ (g : Nat) (wx : World), At1 wx g (.int .i64 m) → Calls Tryd.prog 30 #[.agg #[.int .i64 c, .int .i64 d], .pointer (some ⟨g, 0, none⟩)] wx fun e w' => e = .returned (.agg #[.int .i64 xa, .int .i64 xb]) ∧ Below wx.heap.size wx w'))
    (S3 : Hid (fok ya yb = true → fok xa xb = true → ∀ wx, Below w.heap.size w wx → Calls Tryd.prog 18 #[.agg #[.int .i64 ya, .int .i64 yb], .agg #[.int .i64 xa, .int .i64 xb]] wx fun e w' => e = .returned (.tuple #[.agg #[.int .i64 l, .int .i64 h], .int .i64 0]) ∧ Below wx.heap.size wx w'))
    : Calls Tryd.prog 9 #[.agg #[.int .i64 a, .int .i64 b], .agg #[.int .i64 c, .int .i64 d], .int .u8 f] w fun e w' => e = .returned (.bool true) ∧ Below w.heap.size w w' := by
  have V1 := Lib.hid (fun wx => rValid7_is a b true hv wx)
  have V2 := Lib.hid (fun wx => rValid7_is c d true kv wx)
  clear hv kv
  have Y := At2.new w (.int .i64 a) (.int .i64 b) 23
  have HB := Lib.hid (below1 w (.cells #[.int .i64 a, .int .i64 b] 23))
  have Y := Y.alloc (.cells #[.int .i64 c, .int .i64 d] 23)
  have X := At2.new (w.alloc (.cells #[.int .i64 a, .int .i64 b] 23)) (.int .i64 c) (.int .i64 d) 23
  have HB := Lib.hid (bstep HB.out (below1 (w.alloc (.cells #[.int .i64 a, .int .i64 b] 23)) (.cells #[.int .i64 c, .int .i64 d] 23)))
  simp at X
  obtain ⟨Y0, Y1, -, -, -⟩ := id Y
  obtain ⟨X0, X1, -, -, -⟩ := id X
  go_enter Tryd.func9, Tryd.ntmps9
  go_wp2_with fail
  refine (C0.out _ HB.out).mono ?_
  rintro e1 wz1 ⟨rfl, hb⟩
  clear Y0 Y1 X0 X1
  have Y := Y.keep hb
  have X := X.keep hb
  have HB := Lib.hid (bstep HB.out hb)
  clear hb
  obtain ⟨Y0, Y1, -, -, -⟩ := id Y
  obtain ⟨X0, X1, -, -, -⟩ := id X
  go_wp2_with fail
  refine (V1.out _).mono ?_
  rintro e2 wz2 ⟨rfl, hb⟩
  clear Y0 Y1 X0 X1
  have Y := Y.keep hb
  have X := X.keep hb
  have HB := Lib.hid (bstep HB.out hb)
  clear hb
  obtain ⟨Y0, Y1, -, -, -⟩ := id Y
  obtain ⟨X0, X1, -, -, -⟩ := id X
  go_wp2_with fail
  refine (V2.out _).mono ?_
  rintro e3 wz3 ⟨rfl, hb⟩
  clear Y0 Y1 X0 X1
  have Y := Y.keep hb
  have X := X.keep hb
  have HB := Lib.hid (bstep HB.out hb)
  clear hb
  obtain ⟨Y0, Y1, -, -, -⟩ := id Y
  obtain ⟨X0, X1, -, -, -⟩ := id X
  go_wp2_with fail
  refine (K1.out _ HB.out).mono ?_
  rintro e4 wz4 ⟨rfl, hb⟩
  clear Y0 Y1 X0 X1
  have Y := Y.keep hb
  have X := X.keep hb
  have HB := Lib.hid (bstep HB.out hb)
  clear hb
  have Y := Y.alloc (.cells #[.int .i64 l, .int .i64 h] 25)
  have X := X.alloc (.cells #[.int .i64 l, .int .i64 h] 25)
  have P := At2.new wz4 (.int .i64 l) (.int .i64 h) 25
  have HB := Lib.hid (bstep HB.out (below1 wz4 (.cells #[.int .i64 l, .int .i64 h] 25)))
  obtain ⟨Y0, Y1, -, -, -⟩ := id Y
  obtain ⟨X0, X1, -, -, -⟩ := id X
  obtain ⟨P0, P1, -, -, -⟩ := id P
  go_upto_region 7 with fail
  generalize (wz4.alloc (.cells #[.int .i64 l, .int .i64 h] 25)) = W at *
  generalize wz4.heap.size = bp at *
  go_cut [10, 11] from 39 to 45 (fun v10 v11 wx => v11 = .int .i64 0 ∧ ∃ gq : Nat, v10 = .pointer (some ⟨gq, 0, none⟩) ∧ Hid (At2 wx gq (.int .i64 l1) (.int .i64 h1)) ∧ Hid (At2 wx w.heap.size (.int .i64 a) (.int .i64 b)) ∧ Hid (At2 wx (w.heap.size + 1) (.int .i64 c) (.int .i64 d)) ∧ Hid (At2 wx bp (.int .i64 l) (.int .i64 h)) ∧ Hid (Below w.heap.size w wx))
  case first =>
    have iYw : ¬ w.heap.size = W.heap.size := (by have := Y.lt; omega)
    have oYw : ¬ W.heap.size = w.heap.size := (by have := Y.lt; omega)
    have iXw : ¬ (w.heap.size + 1) = W.heap.size := (by have := X.lt; omega)
    have oXw : ¬ W.heap.size = (w.heap.size + 1) := (by have := X.lt; omega)
    have iPw : ¬ bp = W.heap.size := (by have := P.lt; omega)
    have oPw : ¬ W.heap.size = bp := (by have := P.lt; omega)
    have lw : w.heap.size ≤ W.heap.size := HB.out.size
    go_region_held3 (fun w' => w'.cell? ⟨w.heap.size, 0, none⟩ = some (.int .i64 a) ∧ w'.cell? ⟨w.heap.size, 1, none⟩ = some (.int .i64 b) ∧ w'.cell? ⟨(w.heap.size + 1), 0, none⟩ = some (.int .i64 c) ∧ w'.cell? ⟨(w.heap.size + 1), 1, none⟩ = some (.int .i64 d) ∧ w'.cell? ⟨bp, 0, none⟩ = some (.int .i64 l) ∧ w'.cell? ⟨bp, 1, none⟩ = some (.int .i64 h)) (go_keep)
      (first
      | (go_at_call 28; (with_reducible refine (KN.out (World.drew W)).mono ?_); rintro e vw1 ⟨rfl, hb⟩; clear Y0 Y1 X0 X1 P0 P1; have Y := Y.drq.keep hb; have X := X.drq.keep hb; have P := P.drq.keep hb; have HB := Lib.hid (bstep HB.out (bdrew hb)); obtain ⟨Y0, Y1, -, -, -⟩ := id Y; obtain ⟨X0, X1, -, -, -⟩ := id X; obtain ⟨P0, P1, -, -, -⟩ := id P; clear hb; have iY1 : ¬ w.heap.size = vw1.heap.size := (by have := Y.lt; omega); have oY1 : ¬ vw1.heap.size = w.heap.size := (by have := Y.lt; omega); have iX1 : ¬ (w.heap.size + 1) = vw1.heap.size := (by have := X.lt; omega); have oX1 : ¬ vw1.heap.size = (w.heap.size + 1) := (by have := X.lt; omega); have iP1 : ¬ bp = vw1.heap.size := (by have := P.lt; omega); have oP1 : ¬ vw1.heap.size = bp := (by have := P.lt; omega); have l1 : w.heap.size ≤ vw1.heap.size := HB.out.size; have N := At2.new vw1 (.int .i64 0) (.int .i64 0) 25)
      | (go_at_call 28; (with_reducible refine (KN.out (World.drew (World.alloc W _))).mono ?_); rintro e vw1 ⟨rfl, hb⟩; clear Y0 Y1 X0 X1 P0 P1; have Y := (Y.alloc _).drq.keep hb; have X := (X.alloc _).drq.keep hb; have P := (P.alloc _).drq.keep hb; have HB := Lib.hid (bstep HB.out (alloc_below (bdrew hb))); obtain ⟨Y0, Y1, -, -, -⟩ := id Y; obtain ⟨X0, X1, -, -, -⟩ := id X; obtain ⟨P0, P1, -, -, -⟩ := id P; have N := (At2.new W (.int .i64 0) (.int .i64 0) 25).drq.keep hb; obtain ⟨N0, N1, Nf, Ng, -⟩ := id N; clear hb)
      | (go_at_call 18; (with_reducible refine (K2.out (World.alloc vw1 _) (bstep HB.out (below1 _ _))).mono ?_); rintro e vw2 ⟨rfl, hb⟩; clear Y0 Y1 X0 X1 P0 P1; have Y := (Y.alloc _).keep hb; have X := (X.alloc _).keep hb; have P := (P.alloc _).keep hb; have HB := Lib.hid (bstep HB.out (alloc_below hb)); obtain ⟨Y0, Y1, -, -, -⟩ := id Y; obtain ⟨X0, X1, -, -, -⟩ := id X; obtain ⟨P0, P1, -, -, -⟩ := id P; have N := N.keep hb; obtain ⟨N0, N1, Nf, Ng, -⟩ := id N; clear hb)
      | (go_at_call 18; (with_reducible refine (K2.out vw1 HB.out).mono ?_); rintro e vw2 ⟨rfl, hb⟩; clear Y0 Y1 X0 X1 P0 P1; have Y := Y.keep hb; have X := X.keep hb; have P := P.keep hb; have HB := Lib.hid (bstep HB.out hb); obtain ⟨Y0, Y1, -, -, -⟩ := id Y; obtain ⟨X0, X1, -, -, -⟩ := id X; obtain ⟨P0, P1, -, -, -⟩ := id P; have iY2 : ¬ w.heap.size = vw2.heap.size := (by have := Y.lt; omega); have oY2 : ¬ vw2.heap.size = w.heap.size := (by have := Y.lt; omega); have iX2 : ¬ (w.heap.size + 1) = vw2.heap.size := (by have := X.lt; omega); have oX2 : ¬ vw2.heap.size = (w.heap.size + 1) := (by have := X.lt; omega); have iP2 : ¬ bp = vw2.heap.size := (by have := P.lt; omega); have oP2 : ¬ vw2.heap.size = bp := (by have := P.lt; omega); have l2 : w.heap.size ≤ vw2.heap.size := HB.out.size; (first | (have N := N.keep hb; obtain ⟨N0, N1, Nf, Ng, -⟩ := id N) | (have N := At2.new vw2 (.int .i64 0) (.int .i64 0) 25)); clear hb))
    all_goals
      go_wp2_with fail
      go_meet
    all_goals
      first
      | (with_reducible exact ⟨rfl, _, rfl, Lib.hid (At2.new _ _ _ 25), Lib.hid (Y.alloc _), Lib.hid (X.alloc _), Lib.hid (P.alloc _), Lib.hid (bstep HB.out (below1 _ _))⟩)
      | (with_reducible exact ⟨rfl, _, rfl, Lib.hid (N.put _ _), Lib.hid (Y.far (by assumption) _ _), Lib.hid (X.far (by assumption) _ _), Lib.hid (P.far (by assumption) _ _), Lib.hid (below_set2 HB.out (by assumption) _ _)⟩)
  case rest =>
    obtain ⟨rfl, g, rfl, Gh, Yh, Xh, Ph, HB'⟩ := hcut
    clear Y0 Y1 X0 X1 P0 P1 Y X P HB
    have Y := Yh.out
    have X := Xh.out
    have P := Ph.out
    have G := Gh.out
    have HB := Lib.hid HB'.out
    clear Yh Xh Ph Gh HB'
    obtain ⟨Y0, Y1, -, -, -⟩ := id Y
    obtain ⟨X0, X1, -, -, -⟩ := id X
    obtain ⟨P0, P1, -, -, -⟩ := id P
    obtain ⟨G0, G1, -, -, -⟩ := id G
    go_upto_region 8 with fail
    go_cut [12, 13] from 47 to 53 (fun v12 v13 wx => v13 = .int .i64 0 ∧ ∃ gq : Nat, v12 = .pointer (some ⟨gq, 0, none⟩) ∧ Hid (At2 wx gq (.int .i64 l2) (.int .i64 h2)) ∧ Hid (At2 wx w.heap.size (.int .i64 a) (.int .i64 b)) ∧ Hid (At2 wx (w.heap.size + 1) (.int .i64 c) (.int .i64 d)) ∧ Hid (At2 wx bp (.int .i64 l) (.int .i64 h)) ∧ Hid (At2 wx g (.int .i64 l1) (.int .i64 h1)) ∧ Hid (Below w.heap.size w wx))
    case first =>
      have iYw : ¬ w.heap.size = wc.heap.size := (by have := Y.lt; omega)
      have oYw : ¬ wc.heap.size = w.heap.size := (by have := Y.lt; omega)
      have iXw : ¬ (w.heap.size + 1) = wc.heap.size := (by have := X.lt; omega)
      have oXw : ¬ wc.heap.size = (w.heap.size + 1) := (by have := X.lt; omega)
      have iPw : ¬ bp = wc.heap.size := (by have := P.lt; omega)
      have oPw : ¬ wc.heap.size = bp := (by have := P.lt; omega)
      have iGw : ¬ g = wc.heap.size := (by have := G.lt; omega)
      have oGw : ¬ wc.heap.size = g := (by have := G.lt; omega)
      have lw : w.heap.size ≤ wc.heap.size := HB.out.size
      go_region_held3 (fun w' => w'.cell? ⟨w.heap.size, 0, none⟩ = some (.int .i64 a) ∧ w'.cell? ⟨w.heap.size, 1, none⟩ = some (.int .i64 b) ∧ w'.cell? ⟨(w.heap.size + 1), 0, none⟩ = some (.int .i64 c) ∧ w'.cell? ⟨(w.heap.size + 1), 1, none⟩ = some (.int .i64 d) ∧ w'.cell? ⟨bp, 0, none⟩ = some (.int .i64 l) ∧ w'.cell? ⟨bp, 1, none⟩ = some (.int .i64 h) ∧ w'.cell? ⟨g, 0, none⟩ = some (.int .i64 l1) ∧ w'.cell? ⟨g, 1, none⟩ = some (.int .i64 h1)) (go_keep)
        (first
        | (go_at_call 28; (with_reducible refine (KN.out (World.drew wc)).mono ?_); rintro e vw1 ⟨rfl, hb⟩; clear Y0 Y1 X0 X1 P0 P1 G0 G1; have Y := Y.drq.keep hb; have X := X.drq.keep hb; have P := P.drq.keep hb; have G := G.drq.keep hb; have HB := Lib.hid (bstep HB.out (bdrew hb)); obtain ⟨Y0, Y1, -, -, -⟩ := id Y; obtain ⟨X0, X1, -, -, -⟩ := id X; obtain ⟨P0, P1, -, -, -⟩ := id P; obtain ⟨G0, G1, -, -, -⟩ := id G; clear hb; have iY1 : ¬ w.heap.size = vw1.heap.size := (by have := Y.lt; omega); have oY1 : ¬ vw1.heap.size = w.heap.size := (by have := Y.lt; omega); have iX1 : ¬ (w.heap.size + 1) = vw1.heap.size := (by have := X.lt; omega); have oX1 : ¬ vw1.heap.size = (w.heap.size + 1) := (by have := X.lt; omega); have iP1 : ¬ bp = vw1.heap.size := (by have := P.lt; omega); have oP1 : ¬ vw1.heap.size = bp := (by have := P.lt; omega); have iG1 : ¬ g = vw1.heap.size := (by have := G.lt; omega); have oG1 : ¬ vw1.heap.size = g := (by have := G.lt; omega); have l1 : w.heap.size ≤ vw1.heap.size := HB.out.size; have N := At2.new vw1 (.int .i64 0) (.int .i64 0) 25)
        | (go_at_call 28; (with_reducible refine (KN.out (World.drew (World.alloc wc _))).mono ?_); rintro e vw1 ⟨rfl, hb⟩; clear Y0 Y1 X0 X1 P0 P1 G0 G1; have Y := (Y.alloc _).drq.keep hb; have X := (X.alloc _).drq.keep hb; have P := (P.alloc _).drq.keep hb; have G := (G.alloc _).drq.keep hb; have HB := Lib.hid (bstep HB.out (alloc_below (bdrew hb))); obtain ⟨Y0, Y1, -, -, -⟩ := id Y; obtain ⟨X0, X1, -, -, -⟩ := id X; obtain ⟨P0, P1, -, -, -⟩ := id P; obtain ⟨G0, G1, -, -, -⟩ := id G; have N := (At2.new wc (.int .i64 0) (.int .i64 0) 25).drq.keep hb; obtain ⟨N0, N1, Nf, Ng, -⟩ := id N; clear hb)
        | (go_at_call 18; (with_reducible refine (K3.out (World.alloc vw1 _) (bstep HB.out (below1 _ _))).mono ?_); rintro e vw2 ⟨rfl, hb⟩; clear Y0 Y1 X0 X1 P0 P1 G0 G1; have Y := (Y.alloc _).keep hb; have X := (X.alloc _).keep hb; have P := (P.alloc _).keep hb; have G := (G.alloc _).keep hb; have HB := Lib.hid (bstep HB.out (alloc_below hb)); obtain ⟨Y0, Y1, -, -, -⟩ := id Y; obtain ⟨X0, X1, -, -, -⟩ := id X; obtain ⟨P0, P1, -, -, -⟩ := id P; obtain ⟨G0, G1, -, -, -⟩ := id G; have N := N.keep hb; obtain ⟨N0, N1, Nf, Ng, -⟩ := id N; clear hb)
        | (go_at_call 18; (with_reducible refine (K3.out vw1 HB.out).mono ?_); rintro e vw2 ⟨rfl, hb⟩; clear Y0 Y1 X0 X1 P0 P1 G0 G1; have Y := Y.keep hb; have X := X.keep hb; have P := P.keep hb; have G := G.keep hb; have HB := Lib.hid (bstep HB.out hb); obtain ⟨Y0, Y1, -, -, -⟩ := id Y; obtain ⟨X0, X1, -, -, -⟩ := id X; obtain ⟨P0, P1, -, -, -⟩ := id P; obtain ⟨G0, G1, -, -, -⟩ := id G; have iY2 : ¬ w.heap.size = vw2.heap.size := (by have := Y.lt; omega); have oY2 : ¬ vw2.heap.size = w.heap.size := (by have := Y.lt; omega); have iX2 : ¬ (w.heap.size + 1) = vw2.heap.size := (by have := X.lt; omega); have oX2 : ¬ vw2.heap.size = (w.heap.size + 1) := (by have := X.lt; omega); have iP2 : ¬ bp = vw2.heap.size := (by have := P.lt; omega); have oP2 : ¬ vw2.heap.size = bp := (by have := P.lt; omega); have iG2 : ¬ g = vw2.heap.size := (by have := G.lt; omega); have oG2 : ¬ vw2.heap.size = g := (by have := G.lt; omega); have l2 : w.heap.size ≤ vw2.heap.size := HB.out.size; (first | (have N := N.keep hb; obtain ⟨N0, N1, Nf, Ng, -⟩ := id N) | (have N := At2.new vw2 (.int .i64 0) (.int .i64 0) 25)); clear hb))
      all_goals
        go_wp2_with fail
        go_meet
      all_goals
        first
        | (with_reducible exact ⟨rfl, _, rfl, Lib.hid (At2.new _ _ _ 25), Lib.hid (Y.alloc _), Lib.hid (X.alloc _), Lib.hid (P.alloc _), Lib.hid (G.alloc _), Lib.hid (bstep HB.out (below1 _ _))⟩)
        | (with_reducible exact ⟨rfl, _, rfl, Lib.hid (N.put _ _), Lib.hid (Y.far (by assumption) _ _), Lib.hid (X.far (by assumption) _ _), Lib.hid (P.far (by assumption) _ _), Lib.hid (G.far (by assumption) _ _), Lib.hid (below_set2 HB.out (by assumption) _ _)⟩)
    case rest =>
      obtain ⟨rfl, g', rfl, Mh, Yh, Xh, Ph, Gh, HB'⟩ := hcut
      clear Y0 Y1 X0 X1 P0 P1 G0 G1 Y X P G HB
      have Y := Yh.out
      have X := Xh.out
      have P := Ph.out
      have G := Gh.out
      have M := Mh.out
      have HB := Lib.hid HB'.out
      clear Yh Xh Ph Gh Mh HB' KN K1 K2 K3
      have hmf : ∀ (fn : Fn) (first cap : Array Value) (w : World), (Instr.makeFunc fn first cap).run Tryd.prog w = .ok (.func fn first cap) w := fun _ _ _ _ => rfl
      obtain ⟨Y0, Y1, -, -, -⟩ := id Y
      obtain ⟨X0, X1, -, -, -⟩ := id X
      obtain ⟨P0, P1, -, -, -⟩ := id P
      obtain ⟨G0, G1, -, -, -⟩ := id G
      obtain ⟨M0, M1, -, -, -⟩ := id M
      go_wp2_with fail
      refine (T1.out _).mono ?_
      rintro e21 wz21 ⟨rfl, hb⟩
      clear Y0 Y1 X0 X1 P0 P1 G0 G1 M0 M1
      have Y := Y.keep hb
      have X := X.keep hb
      have P := P.keep hb
      have G := G.keep hb
      have M := M.keep hb
      have HB := Lib.hid (bstep HB.out hb)
      clear hb
      have Y := Y.alloc (.cells #[.int .i64 l1, .int .i64 h1] 25)
      have X := X.alloc (.cells #[.int .i64 l1, .int .i64 h1] 25)
      have P := P.alloc (.cells #[.int .i64 l1, .int .i64 h1] 25)
      have G := G.alloc (.cells #[.int .i64 l1, .int .i64 h1] 25)
      have M := M.alloc (.cells #[.int .i64 l1, .int .i64 h1] 25)
      have A := At2.new wz21 (.int .i64 l1) (.int .i64 h1) 25
      have HB := Lib.hid (bstep HB.out (below1 wz21 (.cells #[.int .i64 l1, .int .i64 h1] 25)))
      obtain ⟨Y0, Y1, -, -, -⟩ := id Y
      obtain ⟨X0, X1, -, -, -⟩ := id X
      obtain ⟨P0, P1, -, -, -⟩ := id P
      obtain ⟨G0, G1, -, -, -⟩ := id G
      obtain ⟨M0, M1, -, -, -⟩ := id M
      obtain ⟨A0, A1, -, -, -⟩ := id A
      go_wp2_with fail
      refine (T2.out _).mono ?_
      rintro e22 wz22 ⟨rfl, hb⟩
      clear Y0 Y1 X0 X1 P0 P1 G0 G1 M0 M1 A0 A1
      have Y := Y.keep hb
      have X := X.keep hb
      have P := P.keep hb
      have G := G.keep hb
      have M := M.keep hb
      have A := A.keep hb
      have HB := Lib.hid (bstep HB.out hb)
      clear hb
      have Y := Y.alloc (.cells #[.int .i64 l2, .int .i64 h2] 25)
      have X := X.alloc (.cells #[.int .i64 l2, .int .i64 h2] 25)
      have P := P.alloc (.cells #[.int .i64 l2, .int .i64 h2] 25)
      have G := G.alloc (.cells #[.int .i64 l2, .int .i64 h2] 25)
      have M := M.alloc (.cells #[.int .i64 l2, .int .i64 h2] 25)
      have A := A.alloc (.cells #[.int .i64 l2, .int .i64 h2] 25)
      have B := At2.new wz22 (.int .i64 l2) (.int .i64 h2) 25
      have HB := Lib.hid (bstep HB.out (below1 wz22 (.cells #[.int .i64 l2, .int .i64 h2] 25)))
      obtain ⟨Y0, Y1, -, -, -⟩ := id Y
      obtain ⟨X0, X1, -, -, -⟩ := id X
      obtain ⟨P0, P1, -, -, -⟩ := id P
      obtain ⟨G0, G1, -, -, -⟩ := id G
      obtain ⟨M0, M1, -, -, -⟩ := id M
      obtain ⟨A0, A1, -, -, -⟩ := id A
      obtain ⟨B0, B1, -, -, -⟩ := id B
      skip
      have Y' := Y.alloc (.cells #[.int .i64 m] 3)
      have X' := X.alloc (.cells #[.int .i64 m] 3)
      have P' := P.alloc (.cells #[.int .i64 m] 3)
      have K' := At1.new (wz22.alloc (.cells #[.int .i64 l2, .int .i64 h2] 25)) (.int .i64 m) 3
      have HB' := Lib.hid (bstep HB.out (below1 (wz22.alloc (.cells #[.int .i64 l2, .int .i64 h2] 25)) (.cells #[.int .i64 m] 3)))
      simp at K'
      obtain ⟨Yq0, Yq1, -, -, -⟩ := id Y'
      obtain ⟨Xq0, Xq1, -, -, -⟩ := id X'
      rcases Bool.eq_false_or_eq_true (fok ya yb) with s1 | s1
      · have VS1 := Lib.hid (fun wx => rValid7_is ya yb true s1 wx)
        rcases Bool.eq_false_or_eq_true (fok xa xb) with s2 | s2
        · have VS2 := Lib.hid (fun wx => rValid7_is xa xb true s2 wx)
          have S3 := Lib.hid (S3.out s1 s2)
          clear s1 s2
          go_wp2_with fail
          refine (S1.out _ _ K').mono ?_
          rintro e31 wz31 ⟨rfl, hb⟩
          clear Yq0 Yq1 Xq0 Xq1 Y0 Y1 X0 X1 P0 P1 G0 G1 M0 M1 A0 A1 B0 B1 G M A B
          have Y := Y'.keep hb
          have X := X'.keep hb
          have P := P'.keep hb
          have K := K'.keep hb
          have HB := Lib.hid (bstep HB'.out hb)
          clear hb HB' K' Y' X' P'
          obtain ⟨Y0, Y1, -, -, -⟩ := id Y
          obtain ⟨X0, X1, -, -, -⟩ := id X
          obtain ⟨P0, P1, -, -, -⟩ := id P
          have K0 := K.c0
          go_wp2_with fail
          refine (VS1.out _).mono ?_
          rintro e32 wz32 ⟨rfl, hb⟩
          clear Y0 Y1 X0 X1 P0 P1 K0
          have Y := Y.keep hb
          have X := X.keep hb
          have P := P.keep hb
          have K := K.keep hb
          have HB := Lib.hid (bstep HB.out hb)
          clear hb
          obtain ⟨Y0, Y1, -, -, -⟩ := id Y
          obtain ⟨X0, X1, -, -, -⟩ := id X
          obtain ⟨P0, P1, -, -, -⟩ := id P
          have K0 := K.c0
          go_wp2_with fail
          refine (S2.out _ _ K).mono ?_
          rintro e33 wz33 ⟨rfl, hb⟩
          clear Y0 Y1 X0 X1 P0 P1 K0
          have Y := Y.keep hb
          have X := X.keep hb
          have P := P.keep hb
          have K := K.keep hb
          have HB := Lib.hid (bstep HB.out hb)
          clear hb
          obtain ⟨Y0, Y1, -, -, -⟩ := id Y
          obtain ⟨X0, X1, -, -, -⟩ := id X
          obtain ⟨P0, P1, -, -, -⟩ := id P
          have K0 := K.c0
          go_wp2_with fail
          refine (VS2.out _).mono ?_
          rintro e34 wz34 ⟨rfl, hb⟩
          clear Y0 Y1 X0 X1 P0 P1 K0
          have Y := Y.keep hb
          have X := X.keep hb
          have P := P.keep hb
          have K := K.keep hb
          have HB := Lib.hid (bstep HB.out hb)
          clear hb
          obtain ⟨Y0, Y1, -, -, -⟩ := id Y
          obtain ⟨X0, X1, -, -, -⟩ := id X
          obtain ⟨P0, P1, -, -, -⟩ := id P
          have K0 := K.c0
          go_upto_region 19 with fail
          generalize hbk : wz22.heap.size + 1 = bk at *
          clear hbk
          go_cut [20, 21] from 137 to 145 (fun v20 v21 wx => v21 = .int .i64 0 ∧ ∃ gq : Nat, v20 = .pointer (some ⟨gq, 0, none⟩) ∧ Hid (At2 wx gq (.int .i64 l) (.int .i64 h)) ∧ Hid (At2 wx w.heap.size (.int .i64 a) (.int .i64 b)) ∧ Hid (At2 wx (w.heap.size + 1) (.int .i64 c) (.int .i64 d)) ∧ Hid (At2 wx bp (.int .i64 l) (.int .i64 h)) ∧ Hid (At1 wx bk (.int .i64 m)) ∧ Hid (Below w.heap.size w wx))
          case first =>
            have iYw : ¬ w.heap.size = wz34.heap.size := (by have := Y.lt; omega)
            have oYw : ¬ wz34.heap.size = w.heap.size := (by have := Y.lt; omega)
            have iXw : ¬ (w.heap.size + 1) = wz34.heap.size := (by have := X.lt; omega)
            have oXw : ¬ wz34.heap.size = (w.heap.size + 1) := (by have := X.lt; omega)
            have iPw : ¬ bp = wz34.heap.size := (by have := P.lt; omega)
            have oPw : ¬ wz34.heap.size = bp := (by have := P.lt; omega)
            have iKw : ¬ bk = wz34.heap.size := (by have := K.lt; omega)
            have oKw : ¬ wz34.heap.size = bk := (by have := K.lt; omega)
            have lw : w.heap.size ≤ wz34.heap.size := HB.out.size
            go_region_held3 (fun w' => w'.cell? ⟨w.heap.size, 0, none⟩ = some (.int .i64 a) ∧ w'.cell? ⟨w.heap.size, 1, none⟩ = some (.int .i64 b) ∧ w'.cell? ⟨(w.heap.size + 1), 0, none⟩ = some (.int .i64 c) ∧ w'.cell? ⟨(w.heap.size + 1), 1, none⟩ = some (.int .i64 d) ∧ w'.cell? ⟨bp, 0, none⟩ = some (.int .i64 l) ∧ w'.cell? ⟨bp, 1, none⟩ = some (.int .i64 h) ∧ w'.cell? ⟨bk, 0, none⟩ = some (.int .i64 m)) (go_keep)
              (first
              | (go_at_call 30; (with_reducible refine (S1.out _ (World.drew wz34) (by first | exact K.drq | exact (K.alloc _).drq)).mono ?_); rintro e vw1 ⟨rfl, hb⟩; clear Y0 Y1 X0 X1 P0 P1 K0; have Y := Y.drq.keep hb; have X := X.drq.keep hb; have P := P.drq.keep hb; have K := K.drq.keep hb; have HB := Lib.hid (bstep HB.out (bdrew hb)); obtain ⟨Y0, Y1, -, -, -⟩ := id Y; obtain ⟨X0, X1, -, -, -⟩ := id X; obtain ⟨P0, P1, -, -, -⟩ := id P; have K0 := K.c0; clear hb; have iY1 : ¬ w.heap.size = vw1.heap.size := (by have := Y.lt; omega); have oY1 : ¬ vw1.heap.size = w.heap.size := (by have := Y.lt; omega); have iX1 : ¬ (w.heap.size + 1) = vw1.heap.size := (by have := X.lt; omega); have oX1 : ¬ vw1.heap.size = (w.heap.size + 1) := (by have := X.lt; omega); have iP1 : ¬ bp = vw1.heap.size := (by have := P.lt; omega); have oP1 : ¬ vw1.heap.size = bp := (by have := P.lt; omega); have iK1 : ¬ bk = vw1.heap.size := (by have := K.lt; omega); have oK1 : ¬ vw1.heap.size = bk := (by have := K.lt; omega); have l1 : w.heap.size ≤ vw1.heap.size := HB.out.size; have N := At2.new vw1 (.int .i64 0) (.int .i64 0) 25)
              | (go_at_call 30; (with_reducible refine (S1.out _ (World.drew (World.alloc wz34 _)) (by first | exact K.drq | exact (K.alloc _).drq)).mono ?_); rintro e vw1 ⟨rfl, hb⟩; clear Y0 Y1 X0 X1 P0 P1 K0; have Y := (Y.alloc _).drq.keep hb; have X := (X.alloc _).drq.keep hb; have P := (P.alloc _).drq.keep hb; have K := (K.alloc _).drq.keep hb; have HB := Lib.hid (bstep HB.out (alloc_below (bdrew hb))); obtain ⟨Y0, Y1, -, -, -⟩ := id Y; obtain ⟨X0, X1, -, -, -⟩ := id X; obtain ⟨P0, P1, -, -, -⟩ := id P; have K0 := K.c0; have N := (At2.new wz34 (.int .i64 0) (.int .i64 0) 25).drq.keep hb; obtain ⟨N0, N1, Nf, Ng, -⟩ := id N; clear hb)
              | (go_at_call 30; (with_reducible refine (S2.out _ (World.alloc vw1 _) (by first | exact K | exact K.alloc _)).mono ?_); rintro e vw2 ⟨rfl, hb⟩; clear Y0 Y1 X0 X1 P0 P1 K0; have Y := (Y.alloc _).keep hb; have X := (X.alloc _).keep hb; have P := (P.alloc _).keep hb; have K := (K.alloc _).keep hb; have HB := Lib.hid (bstep HB.out (alloc_below hb)); obtain ⟨Y0, Y1, -, -, -⟩ := id Y; obtain ⟨X0, X1, -, -, -⟩ := id X; obtain ⟨P0, P1, -, -, -⟩ := id P; have K0 := K.c0; have N := N.keep hb; obtain ⟨N0, N1, Nf, Ng, -⟩ := id N; clear hb)
              | (go_at_call 30; (with_reducible refine (S2.out _ vw1 (by first | exact K | exact K.alloc _)).mono ?_); rintro e vw2 ⟨rfl, hb⟩; clear Y0 Y1 X0 X1 P0 P1 K0; have Y := Y.keep hb; have X := X.keep hb; have P := P.keep hb; have K := K.keep hb; have HB := Lib.hid (bstep HB.out hb); obtain ⟨Y0, Y1, -, -, -⟩ := id Y; obtain ⟨X0, X1, -, -, -⟩ := id X; obtain ⟨P0, P1, -, -, -⟩ := id P; have K0 := K.c0; have iY2 : ¬ w.heap.size = vw2.heap.size := (by have := Y.lt; omega); have oY2 : ¬ vw2.heap.size = w.heap.size := (by have := Y.lt; omega); have iX2 : ¬ (w.heap.size + 1) = vw2.heap.size := (by have := X.lt; omega); have oX2 : ¬ vw2.heap.size = (w.heap.size + 1) := (by have := X.lt; omega); have iP2 : ¬ bp = vw2.heap.size := (by have := P.lt; omega); have oP2 : ¬ vw2.heap.size = bp := (by have := P.lt; omega); have iK2 : ¬ bk = vw2.heap.size := (by have := K.lt; omega); have oK2 : ¬ vw2.heap.size = bk := (by have := K.lt; omega); have l2 : w.heap.size ≤ vw2.heap.size := HB.out.size; (first | (have N := N.keep hb; obtain ⟨N0, N1, Nf, Ng, -⟩ := id N) | (have N := At2.new vw2 (.int .i64 0) (.int .i64 0) 25)); clear hb)
              | (go_at_call 18; (with_reducible refine (S3.out (World.alloc vw2 _) (bstep HB.out (below1 _ _))).mono ?_); rintro e vw3 ⟨rfl, hb⟩; clear Y0 Y1 X0 X1 P0 P1 K0; have Y := (Y.alloc _).keep hb; have X := (X.alloc _).keep hb; have P := (P.alloc _).keep hb; have K := (K.alloc _).keep hb; have HB := Lib.hid (bstep HB.out (alloc_below hb)); obtain ⟨Y0, Y1, -, -, -⟩ := id Y; obtain ⟨X0, X1, -, -, -⟩ := id X; obtain ⟨P0, P1, -, -, -⟩ := id P; have K0 := K.c0; have N := N.keep hb; obtain ⟨N0, N1, Nf, Ng, -⟩ := id N; clear hb)
              | (go_at_call 18; (with_reducible refine (S3.out vw2 HB.out).mono ?_); rintro e vw3 ⟨rfl, hb⟩; clear Y0 Y1 X0 X1 P0 P1 K0; have Y := Y.keep hb; have X := X.keep hb; have P := P.keep hb; have K := K.keep hb; have HB := Lib.hid (bstep HB.out hb); obtain ⟨Y0, Y1, -, -, -⟩ := id Y; obtain ⟨X0, X1, -, -, -⟩ := id X; obtain ⟨P0, P1, -, -, -⟩ := id P; have K0 := K.c0; have iY3 : ¬ w.heap.size = vw3.heap.size := (by have := Y.lt; omega); have oY3 : ¬ vw3.heap.size = w.heap.size := (by have := Y.lt; omega); have iX3 : ¬ (w.heap.size + 1) = vw3.heap.size := (by have := X.lt; omega); have oX3 : ¬ vw3.heap.size = (w.heap.size + 1) := (by have := X.lt; omega); have iP3 : ¬ bp = vw3.heap.size := (by have := P.lt; omega); have oP3 : ¬ vw3.heap.size = bp := (by have := P.lt; omega); have iK3 : ¬ bk = vw3.heap.size := (by have := K.lt; omega); have oK3 : ¬ vw3.heap.size = bk := (by have := K.lt; omega); have l3 : w.heap.size ≤ vw3.heap.size := HB.out.size; (first | (have N := N.keep hb; obtain ⟨N0, N1, Nf, Ng, -⟩ := id N) | (have N := At2.new vw3 (.int .i64 0) (.int .i64 0) 25)); clear hb))
            all_goals
              go_wp2_with fail
              go_meet
            all_goals
              first
              | (with_reducible exact ⟨rfl, _, rfl, Lib.hid (At2.new _ _ _ 25), Lib.hid (Y.alloc _), Lib.hid (X.alloc _), Lib.hid (P.alloc _), Lib.hid (K.alloc _), Lib.hid (bstep HB.out (below1 _ _))⟩)
              | (with_reducible exact ⟨rfl, _, rfl, Lib.hid (N.put _ _), Lib.hid (Y.far (by assumption) _ _), Lib.hid (X.far (by assumption) _ _), Lib.hid (P.far (by assumption) _ _), Lib.hid (K.far (by assumption) _ _), Lib.hid (below_set2 HB.out (by assumption) _ _)⟩)
          case rest =>
            obtain ⟨rfl, gz, rfl, Zh, Yh, Xh, Ph, Kh, HZ⟩ := hcut
            clear Y0 Y1 X0 X1 P0 P1 K0 Y X P K HB
            obtain ⟨P0, P1, -, -, -⟩ := Ph.out
            obtain ⟨Z0, Z1, -, -, -⟩ := Zh.out
            go_wp2_with fail
            go_ret
            exact ⟨rfl, HZ.out⟩
        · have VS2 := Lib.hid (fun wx => rValid7_is xa xb false s2 wx)
          clear s1 s2 S3
          go_wp2_with fail
          refine (S1.out _ _ K').mono ?_
          rintro e31 wz31 ⟨rfl, hb⟩
          clear Yq0 Yq1 Xq0 Xq1 Y0 Y1 X0 X1 P0 P1 G0 G1 M0 M1 A0 A1 B0 B1 G M A B
          have Y := Y'.keep hb
          have X := X'.keep hb
          have P := P'.keep hb
          have K := K'.keep hb
          have HB := Lib.hid (bstep HB'.out hb)
          clear hb HB' K' Y' X' P'
          obtain ⟨Y0, Y1, -, -, -⟩ := id Y
          obtain ⟨X0, X1, -, -, -⟩ := id X
          obtain ⟨P0, P1, -, -, -⟩ := id P
          have K0 := K.c0
          go_wp2_with fail
          refine (VS1.out _).mono ?_
          rintro e32 wz32 ⟨rfl, hb⟩
          clear Y0 Y1 X0 X1 P0 P1 K0
          have Y := Y.keep hb
          have X := X.keep hb
          have P := P.keep hb
          have K := K.keep hb
          have HB := Lib.hid (bstep HB.out hb)
          clear hb
          obtain ⟨Y0, Y1, -, -, -⟩ := id Y
          obtain ⟨X0, X1, -, -, -⟩ := id X
          obtain ⟨P0, P1, -, -, -⟩ := id P
          have K0 := K.c0
          go_wp2_with fail
          refine (S2.out _ _ K).mono ?_
          rintro e33 wz33 ⟨rfl, hb⟩
          clear Y0 Y1 X0 X1 P0 P1 K0
          have Y := Y.keep hb
          have X := X.keep hb
          have P := P.keep hb
          have K := K.keep hb
          have HB := Lib.hid (bstep HB.out hb)
          clear hb
          obtain ⟨Y0, Y1, -, -, -⟩ := id Y
          obtain ⟨X0, X1, -, -, -⟩ := id X
          obtain ⟨P0, P1, -, -, -⟩ := id P
          have K0 := K.c0
          go_wp2_with fail
          refine (VS2.out _).mono ?_
          rintro e34 wz34 ⟨rfl, hb⟩
          clear Y0 Y1 X0 X1 P0 P1 K0
          have Y := Y.keep hb
          have X := X.keep hb
          have P := P.keep hb
          have K := K.keep hb
          have HB := Lib.hid (bstep HB.out hb)
          clear hb
          obtain ⟨Y0, Y1, -, -, -⟩ := id Y
          obtain ⟨X0, X1, -, -, -⟩ := id X
          obtain ⟨P0, P1, -, -, -⟩ := id P
          have K0 := K.c0
          go_wp2_with fail
          go_ret
          exact ⟨rfl, HB.out⟩
      · have VS1 := Lib.hid (fun wx => rValid7_is ya yb false s1 wx)
        clear s1 S3
        go_wp2_with fail
        refine (S1.out _ _ K').mono ?_
        rintro e31 wz31 ⟨rfl, hb⟩
        clear Yq0 Yq1 Xq0 Xq1 Y0 Y1 X0 X1 P0 P1 G0 G1 M0 M1 A0 A1 B0 B1 G M A B
        have Y := Y'.keep hb
        have X := X'.keep hb
        have P := P'.keep hb
        have K := K'.keep hb
        have HB := Lib.hid (bstep HB'.out hb)
        clear hb HB' K' Y' X' P'
        obtain ⟨Y0, Y1, -, -, -⟩ := id Y
        obtain ⟨X0, X1, -, -, -⟩ := id X
        obtain ⟨P0, P1, -, -, -⟩ := id P
        have K0 := K.c0
        go_wp2_with fail
        refine (VS1.out _).mono ?_
        rintro e32 wz32 ⟨rfl, hb⟩
        clear Y0 Y1 X0 X1 P0 P1 K0
        have Y := Y.keep hb
        have X := X.keep hb
        have P := P.keep hb
        have K := K.keep hb
        have HB := Lib.hid (bstep HB.out hb)
        clear hb
        obtain ⟨Y0, Y1, -, -, -⟩ := id Y
        obtain ⟨X0, X1, -, -, -⟩ := id X
        obtain ⟨P0, P1, -, -, -⟩ := id P
        have K0 := K.c0
        go_wp2_with fail
        go_ret
        exact ⟨rfl, HB.out⟩
theorem turns7_walk (w : World) (H : Held w) (a b c d f : Int) (ha : I64 a) (hb : I64 b) (hc : I64 c) (hd : I64 d) (f1 : 0 ≤ f) (f2 : f ≤ 255) : Calls Tryd.prog 9 #[.agg #[.int .i64 a, .int .i64 b], .agg #[.int .i64 c, .int .i64 d], .int .u8 f] w fun e w' => e = .returned (.bool true) ∧ Below w.heap.size w w' := by
  have P := arProg w H
  have C0 := Lib.hid (fun wx (hb : Below w.heap.size w wx) => awake7 w P wx hb)
  rcases Bool.eq_false_or_eq_true (fok a b) with h | h
  · rcases Bool.eq_false_or_eq_true (fok c d) with k | k
    · obtain ⟨h1, h2, h3⟩ := (fok_iff _ _).1 h
      obtain ⟨k1, k2, k3⟩ := (fok_iff _ _).1 k
      obtain ⟨t1, t2, t3, t4, t5, t6, t7, t8⟩ := turn_arc h k
      obtain ⟨m1, m2, m3⟩ := mirror_arc h k
      have r1 : 0 ≤ f.tmod 9 := Int.tmod_nonneg 9 f1
      have r2 : f.tmod 9 < 9 := Int.tmod_lt_of_pos f (by decide)
      obtain ⟨m, hm⟩ : ∃ m, 1 + f.tmod 9 = m := ⟨_, rfl⟩
      have m0 : 0 < m := by omega
      have K1 := fun wx (hx : Below w.heap.size w wx) => pBearing a b c d wx (H.keep hx)
      have K2 := fun wx (hx : Below w.heap.size w wx) => pBearing c d (-b) (-a) wx (H.keep hx)
      have K3 := fun wx (hx : Below w.heap.size w wx) => pBearing (-b) (-a) c d wx (H.keep hx)
      have T1 := fun wx => pTurn (beL a b c d + 5400000) (beH a b c d + 5400000) wx
      have T2 := fun wx => pTurn (-beH a b c d) (-beL a b c d) wx
      unfold tAr at K1 K2 K3
      rw [t5] at K1
      rw [t6] at K2
      rw [m1] at K3
      rw [vA_yes _ (aok_mk (by omega) (by omega) (by omega))] at T1 T2
      unfold vR aturnR at T1 T2
      change ∀ wx, Calls _ _ _ wx fun e w' => e = .returned (.tuple #[.agg #[.int .i64 (trL _ _), .int .i64 (trH _ _)], .int .i64 0]) ∧ _ at T1 T2
      rw [← t7, ← t8] at T1
      rw [← m2, ← m3] at T2
      have bd : ∀ x : Int, -2147483648 ≤ x → x ≤ 2147483648 → -4611686018427387904 ≤ m * x ∧ m * x ≤ 4611686018427387904 := by
        intro x x1 x2
        have := mul_abs (a := m) (b := x) (A := 9) (B := 2147483648) (by omega) (by omega) (by omega) (by omega)
        omega
      have S3 : fok (m * a) (m * b) = true → fok (m * c) (m * d) = true → ∀ wx, Below w.heap.size w wx → Calls Tryd.prog 18 #[.agg #[.int .i64 (m * a), .int .i64 (m * b)], .agg #[.int .i64 (m * c), .int .i64 (m * d)]] wx fun e w' => e = .returned (.tuple #[.agg #[.int .i64 (beL a b c d), .int .i64 (beH a b c d)], .int .i64 0]) ∧ Below wx.heap.size wx w' := by
        intro s1 s2 wx hx
        obtain ⟨u1, u2, u3⟩ := scl_arc m0 h k s1 s2
        have := pBearing (m * a) (m * b) (m * c) (m * d) wx (H.keep hx)
        unfold tAr at this
        rwa [u1, u2, u3] at this
      exact turns7_main a b c d f _ m _ _ _ _ _ _ _ _ _ _ _ _ _ _ _ _ w h k (by omega) (by omega) (by omega) rfl rfl rfl rfl f1 f2 rfl r1 (by omega) hm (Lib.hid fun wx => neg7_any a b _ _ rfl rfl (by omega) (by omega) (by omega) (by omega) wx) C0 (Lib.hid K1) (Lib.hid K2) (Lib.hid K3) (Lib.hid T1) (Lib.hid T2)
        (Lib.hid fun g wx M => str7_any a b m _ _ g rfl rfl (bd a (by omega) (by omega)) (bd b (by omega) (by omega)) wx M) (Lib.hid fun g wx M => str7_any c d m _ _ g rfl rfl (bd c (by omega) (by omega)) (bd d (by omega) (by omega)) wx M) (Lib.hid S3)
    · exact turns7_b2 a b c d f w h k C0
  · exact turns7_b1 a b c d f w h C0
end Go.Proofs.YtebhflmmdfbjkaaDoor
