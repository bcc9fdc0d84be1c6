/- Trig: what the laws ask of boxes, by bounds. -/
import Derived.Test.YtglmkpnnbgkndaaDoorTrS
namespace Go.Proofs.YtglmkpnnbgkndaaDoor
open Go.RowKit
set_option linter.unusedVariables false
set_option maxRecDepth 100000

structure Stg (n : Nat) : Prop where
  ok : True
/-- bounds of whole numbers -/
abbrev B31 (x : Int) : Prop := -2147483648 ≤ x ∧ x ≤ 2147483648
abbrev B62 (x : Int) : Prop := -4611686018427387904 ≤ x ∧ x ≤ 4611686018427387904
def RetV (w : World) (l h : Int) (e : Ending) (w' : World) : Prop := ∃ v, e = .returned v ∧ Bx w' v l h ∧ Below w.heap.size w w'
theorem retv {w : World} {l h : Int} {e : Ending} {w' : World} (r : RetB w l h e w') : RetV w l h e w' := by
  obtain ⟨A, n, c, g, B, m, d, k, rfl, x, y, -, -, b⟩ := r
  exact ⟨_, rfl, ⟨A, n, c, g, B, m, d, k, rfl, x, y⟩, b⟩
theorem b62_mul {x y : Int} (hx : B31 x) (hy : B31 y) : B62 (x * y) := by
  have a : (x * y).natAbs ≤ 2147483648 * 2147483648 := by rw [Int.natAbs_mul]; exact Nat.mul_le_mul (by omega) (by omega)
  constructor <;> omega
theorem sm62 {x : Int} (h : B62 x) : wd2.Sm x := wd2.sm_i64 (by omega) (by omega)
theorem b62_31 {x : Int} (h : B31 x) : B62 x := ⟨by omega, by omega⟩
theorem b62_L {l h l' h' : Int} (a : B31 l) (b : B31 h) (c : B31 l') (d : B31 h') : B62 (mulL l h l' h') ∧ B62 (mulH l h l' h') := by
  have p1 := b62_mul a c
  have p2 := b62_mul a d
  have p3 := b62_mul b c
  have p4 := b62_mul b d
  unfold mulL mulH
  refine ⟨⟨?_, ?_⟩, ?_, ?_⟩ <;> omega
theorem of_v {l h : Int} (a : B31 l) (b : B31 h) (w : World) : Calls Tryd.prog 30 #[.agg #[.int .i64 l, .int .i64 h]] w (RetV w l h) :=
  (of_any l h w (by omega) (by omega) (by omega) (by omega)).mono fun _ _ => retv
theorem one_v {z : Int} (a : B31 z) (w : World) : Calls Tryd.prog 27 #[.int .i64 z] w (RetV w z z) :=
  (one_any z w (by omega) (by omega)).mono fun _ _ => retv
theorem plus_v {v1 v2 : Value} {l h l' h' : Int} {w : World} (b1 : Bx w v1 l h) (b2 : Bx w v2 l' h') (s1 : B62 l) (s2 : B62 h) (s3 : B62 l') (s4 : B62 h') : Calls Tryd.prog 29 #[v1, v2] w (RetV w (l + l') (h + h')) :=
  (plus_any v1 v2 l h l' h' w b1 b2 (sm62 s1) (sm62 s2) (sm62 s3) (sm62 s4)).mono fun _ _ => retv
theorem minus_v {v1 v2 : Value} {l h l' h' : Int} {w : World} (b1 : Bx w v1 l h) (b2 : Bx w v2 l' h') (s1 : B62 l) (s2 : B62 h) (s3 : B62 l') (s4 : B62 h') : Calls Tryd.prog 31 #[v1, v2] w (RetV w (l - h') (h - l')) :=
  (minus_box v1 v2 l h l' h' w b1 b2 (sm62 s1) (sm62 s2) (sm62 s3) (sm62 s4)).mono fun _ _ => retv
theorem times_v {v1 v2 : Value} {l h l' h' : Int} {w : World} (b1 : Bx w v1 l h) (b2 : Bx w v2 l' h') (s1 : B31 l) (s2 : B31 h) (s3 : B31 l') (s4 : B31 h') : Calls Tryd.prog 26 #[v1, v2] w (RetV w (mulL l h l' h') (mulH l h l' h')) :=
  (times_box v1 v2 l h l' h' w b1 b2 (sm62 (b62_31 s1)) (sm62 (b62_31 s2)) (sm62 (b62_31 s3)) (sm62 (b62_31 s4)) (sm62 (b62_mul s1 s3)) (sm62 (b62_mul s1 s4)) (sm62 (b62_mul s2 s3)) (sm62 (b62_mul s2 s4))).mono fun _ _ => retv
theorem sm63 {x : Int} (h : -9223372036854775808 ≤ x ∧ x ≤ 9223372036854775808) : wd2.Sm x := wd2.sm_i64 h.1 h.2
theorem meet_v {v1 v2 : Value} {l h l' h' : Int} {w : World} (b1 : Bx w v1 l h) (b2 : Bx w v2 l' h') (s : (-9223372036854775808 ≤ l ∧ l ≤ 9223372036854775808) ∧ (-9223372036854775808 ≤ h ∧ h ≤ 9223372036854775808) ∧ (-9223372036854775808 ≤ l' ∧ l' ≤ 9223372036854775808) ∧ (-9223372036854775808 ≤ h' ∧ h' ≤ 9223372036854775808)) (m1 : l ≤ h') (m2 : l' ≤ h) :
    Calls Tryd.prog 28 #[v1, v2] w fun e w' => e = .returned (.bool true) ∧ Below w.heap.size w w' :=
  meet_any v1 v2 l h l' h' w b1 b2 (sm63 s.1) (sm63 s.2.1) (sm63 s.2.2.1) (sm63 s.2.2.2) m1 m2

set_option maxHeartbeats 8000000 in
theorem squares_in (w : World) (n m sl sh cl ch hl hh dl dh : Int) (n1 : -274877906944 ≤ n) (n2 : n ≤ 274877906944) (hm : 2 * n = m)
    (Bsl : B31 sl) (Bsh : B31 sh) (Bcl : B31 cl) (Bch : B31 ch) (Bhl : B31 hl) (Bhh : B31 hh) (Bdl : B31 dl) (Bdh : B31 dh)
    (C0 : Hid (∀ wx, Below w.heap.size w wx → Calls Tryd.prog 12 #[] wx fun e w' => e = .returned (.bool true) ∧ Below wx.heap.size wx w'))
    (CS : Hid (∀ wx, Below w.heap.size w wx → Calls Tryd.prog 13 #[.agg #[.int .i64 n, .int .i64 n]] wx fun e w' => e = .returned (.tuple #[.agg #[.int .i64 sl, .int .i64 sh], .int .i64 0]) ∧ Below wx.heap.size wx w'))
    (CC : Hid (∀ wx, Below w.heap.size w wx → Calls Tryd.prog 14 #[.agg #[.int .i64 n, .int .i64 n]] wx fun e w' => e = .returned (.tuple #[.agg #[.int .i64 cl, .int .i64 ch], .int .i64 0]) ∧ Below wx.heap.size wx w'))
    (CH : Hid (∀ wx, Below w.heap.size w wx → Calls Tryd.prog 18 #[.agg #[.int .i64 n, .int .i64 n]] wx fun e w' => e = .returned (.tuple #[.agg #[.int .i64 hl, .int .i64 hh], .int .i64 0]) ∧ Below wx.heap.size wx w'))
    (CD : Hid (∀ wx, Below w.heap.size w wx → Calls Tryd.prog 18 #[.agg #[.int .i64 m, .int .i64 m]] wx fun e w' => e = .returned (.tuple #[.agg #[.int .i64 dl, .int .i64 dh], .int .i64 0]) ∧ Below wx.heap.size wx w'))
    (q1 : mulL sl sh sl sh + mulL cl ch cl ch ≤ 1152921504606846976) (q2 : 1152921504606846976 ≤ mulH sl sh sl sh + mulH cl ch cl ch)
    (q3 : mulL 2 2 hl hh ≤ 1073741824 - cl) (q4 : 1073741824 - ch ≤ mulH 2 2 hl hh)
    (q5 : mulL dl dh 1073741824 1073741824 ≤ mulH sl sh sl sh) (q6 : mulL sl sh sl sh ≤ mulH dl dh 1073741824 1073741824) :
    Calls Tryd.prog 9 #[.int .i64 n] w fun e w' => e = .returned (.bool true) ∧ Below w.heap.size w w' := by
  have BO : B31 1073741824 := ⟨by decide, by decide⟩
  have BT : B31 2 := ⟨by decide, by decide⟩
  have bss := b62_L Bsl Bsh Bsl Bsh
  have bcc := b62_L Bcl Bch Bcl Bch
  have b2h := b62_L BT BT Bhl Bhh
  have bd1 := b62_L Bdl Bdh BO BO
  have mb1 : -9223372036854775808 ≤ m := by omega
  have mb2 : m ≤ 9223372036854775807 := by omega
  have KA := Lib.hid (fun wx => at_any n wx)
  have KB := Lib.hid (fun wx => at_any m wx)
  have HB := Lib.hid (Below.refl w.heap.size w)
  go_enter Tryd.func9, Tryd.ntmps9
  go_wp2_with fail
  refine (C0.out _ HB.out).mono ?_
  rintro e w2 ⟨rfl, hb⟩
  have HB := Lib.hid (bstep HB.out hb)
  clear hb
  go_wp2_with fail
  refine (KA.out _).mono ?_
  rintro e w3 ⟨rfl, hb⟩
  have HB := Lib.hid (bstep HB.out hb)
  clear hb
  go_wp2_with fail
  refine (CS.out _ HB.out).mono ?_
  rintro e w4 ⟨rfl, hb⟩
  have HB := Lib.hid (bstep HB.out hb)
  clear hb
  have S := At2.new w4 (.int .i64 sl) (.int .i64 sh) 25
  have HB := Lib.hid (bstep HB.out (below1 w4 (.cells #[.int .i64 sl, .int .i64 sh] 25)))
  go_wp2_with fail
  refine (KA.out _).mono ?_
  rintro e w5 ⟨rfl, hb⟩
  have S := S.keep hb
  have HB := Lib.hid (bstep HB.out hb)
  clear hb
  go_wp2_with fail
  refine (CC.out _ HB.out).mono ?_
  rintro e w6 ⟨rfl, hb⟩
  have S := S.keep hb
  have HB := Lib.hid (bstep HB.out hb)
  clear hb
  have S := S.alloc (.cells #[.int .i64 cl, .int .i64 ch] 25)
  have C := At2.new w6 (.int .i64 cl) (.int .i64 ch) 25
  have HB := Lib.hid (bstep HB.out (below1 w6 (.cells #[.int .i64 cl, .int .i64 ch] 25)))
  go_wp2_with fail
  refine (KA.out _).mono ?_
  rintro e w7 ⟨rfl, hb⟩
  have S := S.keep hb
  have C := C.keep hb
  have HB := Lib.hid (bstep HB.out hb)
  clear hb
  go_wp2_with fail
  refine (CH.out _ HB.out).mono ?_
  rintro e w8 ⟨rfl, hb⟩
  have S := S.keep hb
  have C := C.keep hb
  have HB := Lib.hid (bstep HB.out hb)
  clear hb
  have S := S.alloc (.cells #[.int .i64 hl, .int .i64 hh] 25)
  have C := C.alloc (.cells #[.int .i64 hl, .int .i64 hh] 25)
  have H := At2.new w8 (.int .i64 hl) (.int .i64 hh) 25
  have HB := Lib.hid (bstep HB.out (below1 w8 (.cells #[.int .i64 hl, .int .i64 hh] 25)))
  go_wp2_with fail
  refine (KB.out _).mono ?_
  rintro e w9 ⟨rfl, hb⟩
  have S := S.keep hb
  have C := C.keep hb
  have H := H.keep hb
  have HB := Lib.hid (bstep HB.out hb)
  clear hb
  go_wp2_with fail
  refine (CD.out _ HB.out).mono ?_
  rintro e w10 ⟨rfl, hb⟩
  have S := S.keep hb
  have C := C.keep hb
  have H := H.keep hb
  have HB := Lib.hid (bstep HB.out hb)
  clear hb
  have S := S.alloc (.cells #[.int .i64 dl, .int .i64 dh] 25)
  have C := C.alloc (.cells #[.int .i64 dl, .int .i64 dh] 25)
  have H := H.alloc (.cells #[.int .i64 dl, .int .i64 dh] 25)
  have D := At2.new w10 (.int .i64 dl) (.int .i64 dh) 25
  have HB := Lib.hid (bstep HB.out (below1 w10 (.cells #[.int .i64 dl, .int .i64 dh] 25)))
  go_wp2_with fail
  refine (one_v BO _).mono ?_
  rintro e v1 ⟨x1, rfl, o1, hb⟩
  have S := S.keep hb
  have C := C.keep hb
  have H := H.keep hb
  have D := D.keep hb
  have HB := Lib.hid (bstep HB.out hb)
  clear hb
  go_wp2_with fail
  refine (one_v BO _).mono ?_
  rintro e v2 ⟨x2, rfl, o2, hb⟩
  have S := S.keep hb
  have C := C.keep hb
  have H := H.keep hb
  have D := D.keep hb
  have o1 := o1.keep hb
  have HB := Lib.hid (bstep HB.out hb)
  clear hb
  go_wp2_with fail
  refine (times_v o1 o2 BO BO BO BO).mono ?_
  rintro e v3 ⟨x3, rfl, ⟨AU, nU, cU, gU, BU, mU, dU, kU, rfl, NA, NB⟩, hb⟩
  rw [show mulL 1073741824 1073741824 1073741824 1073741824 = 1152921504606846976 by decide] at NA
  rw [show mulH 1073741824 1073741824 1073741824 1073741824 = 1152921504606846976 by decide] at NB
  have S := S.keep hb
  have C := C.keep hb
  have H := H.keep hb
  have D := D.keep hb
  have HB := Lib.hid (bstep HB.out hb)
  clear hb o1 o2
  have S := S.alloc (.cells #[.slice AU nU cU, .bool gU, .slice BU mU dU, .bool kU] 44)
  have C := C.alloc (.cells #[.slice AU nU cU, .bool gU, .slice BU mU dU, .bool kU] 44)
  have H := H.alloc (.cells #[.slice AU nU cU, .bool gU, .slice BU mU dU, .bool kU] 44)
  have D := D.alloc (.cells #[.slice AU nU cU, .bool gU, .slice BU mU dU, .bool kU] 44)
  have U := At4.new v3 (.slice AU nU cU) (.bool gU) (.slice BU mU dU) (.bool kU) 44
  have HB := Lib.hid (bstep HB.out (below1 v3 (.cells #[.slice AU nU cU, .bool gU, .slice BU mU dU, .bool kU] 44)))
  have bU : Bx (v3.alloc (.cells #[.slice AU nU cU, .bool gU, .slice BU mU dU, .bool kU] 44)) (.agg #[.slice AU nU cU, .bool gU, .slice BU mU dU, .bool kU]) 1152921504606846976 1152921504606846976 := ⟨_, _, _, _, _, _, _, _, rfl, NA.alloc _, NB.alloc _⟩
  clear NA NB
  obtain ⟨S0, S1, -, -, -⟩ := id S
  obtain ⟨C0, C1, -, -, -⟩ := id C
  obtain ⟨H0, H1, -, -, -⟩ := id H
  obtain ⟨D0, D1, -, -, -⟩ := id D
  obtain ⟨U0, U1, U2, U3, -⟩ := id U
  go_upto_region 12 with fail
  generalize w4.heap.size = bS at *
  generalize w6.heap.size = bC at *
  generalize w8.heap.size = bH at *
  generalize w10.heap.size = bD at *
  generalize v3.heap.size = bU' at *
  generalize v3.alloc (.cells #[.slice AU nU cU, .bool gU, .slice BU mU dU, .bool kU] 44) = V at *
  have st : Stg 0 := ⟨trivial⟩
  go_region_held3 (fun w' => w'.cell? ⟨bS, 0, none⟩ = some (.int .i64 sl) ∧ w'.cell? ⟨bS, 1, none⟩ = some (.int .i64 sh) ∧ w'.cell? ⟨bC, 0, none⟩ = some (.int .i64 cl) ∧ w'.cell? ⟨bC, 1, none⟩ = some (.int .i64 ch) ∧ w'.cell? ⟨bH, 0, none⟩ = some (.int .i64 hl) ∧ w'.cell? ⟨bH, 1, none⟩ = some (.int .i64 hh) ∧ w'.cell? ⟨bD, 0, none⟩ = some (.int .i64 dl) ∧ w'.cell? ⟨bD, 1, none⟩ = some (.int .i64 dh) ∧ w'.cell? ⟨bU', 0, none⟩ = some (.slice AU nU cU) ∧ w'.cell? ⟨bU', 1, none⟩ = some (.bool gU) ∧ w'.cell? ⟨bU', 2, none⟩ = some (.slice BU mU dU) ∧ w'.cell? ⟨bU', 3, none⟩ = some (.bool kU)) (go_keep)
    (first
    | (go_at_call 30; (have ck : Stg 0 := st); clear ck; ((with_reducible refine (of_v Bsl Bsh _).mono ?_)); rintro e v ⟨xp0, rfl, p0, hb⟩; (try (replace hb := bdrew hb)); clear S0 S1 C0 C1 H0 H1 D0 D1 U0 U1 U2 U3; have S := S.keep hb; have C := C.keep hb; have H := H.keep hb; have D := D.keep hb; have U := U.keep hb; have bU := bU.keep hb; have HB := Lib.hid (bstep HB.out hb); obtain ⟨S0, S1, -, -, -⟩ := id S; obtain ⟨C0, C1, -, -, -⟩ := id C; obtain ⟨H0, H1, -, -, -⟩ := id H; obtain ⟨D0, D1, -, -, -⟩ := id D; obtain ⟨U0, U1, U2, U3, -⟩ := id U; clear hb st; have st : Stg 1 := ⟨trivial⟩)
    | (go_at_call 30; (have ck : Stg 1 := st); clear ck; ((with_reducible refine (of_v Bsl Bsh _).mono ?_)); rintro e v ⟨xp1, rfl, p1, hb⟩; (try (replace hb := bdrew hb)); clear S0 S1 C0 C1 H0 H1 D0 D1 U0 U1 U2 U3; have S := S.keep hb; have C := C.keep hb; have H := H.keep hb; have D := D.keep hb; have U := U.keep hb; have bU := bU.keep hb; have p0 := p0.keep hb; have HB := Lib.hid (bstep HB.out hb); obtain ⟨S0, S1, -, -, -⟩ := id S; obtain ⟨C0, C1, -, -, -⟩ := id C; obtain ⟨H0, H1, -, -, -⟩ := id H; obtain ⟨D0, D1, -, -, -⟩ := id D; obtain ⟨U0, U1, U2, U3, -⟩ := id U; clear hb st; have st : Stg 2 := ⟨trivial⟩)
    | (go_at_call 26; (have ck : Stg 2 := st); clear ck; ((with_reducible refine (times_v p0 p1 Bsl Bsh Bsl Bsh).mono ?_)); rintro e v ⟨xp2, rfl, p2, hb⟩; (try (replace hb := bdrew hb)); clear S0 S1 C0 C1 H0 H1 D0 D1 U0 U1 U2 U3; have S := S.keep hb; have C := C.keep hb; have H := H.keep hb; have D := D.keep hb; have U := U.keep hb; have bU := bU.keep hb; have p0 := p0.keep hb; have p1 := p1.keep hb; have HB := Lib.hid (bstep HB.out hb); obtain ⟨S0, S1, -, -, -⟩ := id S; obtain ⟨C0, C1, -, -, -⟩ := id C; obtain ⟨H0, H1, -, -, -⟩ := id H; obtain ⟨D0, D1, -, -, -⟩ := id D; obtain ⟨U0, U1, U2, U3, -⟩ := id U; clear hb st; have st : Stg 3 := ⟨trivial⟩)
    | (go_at_call 30; (have ck : Stg 3 := st); clear ck; ((with_reducible refine (of_v Bcl Bch _).mono ?_)); rintro e v ⟨xp3, rfl, p3, hb⟩; (try (replace hb := bdrew hb)); clear S0 S1 C0 C1 H0 H1 D0 D1 U0 U1 U2 U3; have S := S.keep hb; have C := C.keep hb; have H := H.keep hb; have D := D.keep hb; have U := U.keep hb; have bU := bU.keep hb; have p0 := p0.keep hb; have p1 := p1.keep hb; have p2 := p2.keep hb; have HB := Lib.hid (bstep HB.out hb); obtain ⟨S0, S1, -, -, -⟩ := id S; obtain ⟨C0, C1, -, -, -⟩ := id C; obtain ⟨H0, H1, -, -, -⟩ := id H; obtain ⟨D0, D1, -, -, -⟩ := id D; obtain ⟨U0, U1, U2, U3, -⟩ := id U; clear hb st; have st : Stg 4 := ⟨trivial⟩)
    | (go_at_call 30; (have ck : Stg 4 := st); clear ck; ((with_reducible refine (of_v Bcl Bch _).mono ?_)); rintro e v ⟨xp4, rfl, p4, hb⟩; (try (replace hb := bdrew hb)); clear S0 S1 C0 C1 H0 H1 D0 D1 U0 U1 U2 U3; have S := S.keep hb; have C := C.keep hb; have H := H.keep hb; have D := D.keep hb; have U := U.keep hb; have bU := bU.keep hb; have p0 := p0.keep hb; have p1 := p1.keep hb; have p2 := p2.keep hb; have p3 := p3.keep hb; have HB := Lib.hid (bstep HB.out hb); obtain ⟨S0, S1, -, -, -⟩ := id S; obtain ⟨C0, C1, -, -, -⟩ := id C; obtain ⟨H0, H1, -, -, -⟩ := id H; obtain ⟨D0, D1, -, -, -⟩ := id D; obtain ⟨U0, U1, U2, U3, -⟩ := id U; clear hb st; have st : Stg 5 := ⟨trivial⟩)
    | (go_at_call 26; (have ck : Stg 5 := st); clear ck; ((with_reducible refine (times_v p3 p4 Bcl Bch Bcl Bch).mono ?_)); rintro e v ⟨xp5, rfl, p5, hb⟩; (try (replace hb := bdrew hb)); clear S0 S1 C0 C1 H0 H1 D0 D1 U0 U1 U2 U3; have S := S.keep hb; have C := C.keep hb; have H := H.keep hb; have D := D.keep hb; have U := U.keep hb; have bU := bU.keep hb; have p0 := p0.keep hb; have p1 := p1.keep hb; have p2 := p2.keep hb; have p3 := p3.keep hb; have p4 := p4.keep hb; have HB := Lib.hid (bstep HB.out hb); obtain ⟨S0, S1, -, -, -⟩ := id S; obtain ⟨C0, C1, -, -, -⟩ := id C; obtain ⟨H0, H1, -, -, -⟩ := id H; obtain ⟨D0, D1, -, -, -⟩ := id D; obtain ⟨U0, U1, U2, U3, -⟩ := id U; clear hb st; have st : Stg 6 := ⟨trivial⟩)
    | (go_at_call 29; (have ck : Stg 6 := st); clear ck; ((with_reducible refine (plus_v p2 p5 bss.1 bss.2 bcc.1 bcc.2).mono ?_)); rintro e v ⟨xp6, rfl, p6, hb⟩; (try (replace hb := bdrew hb)); clear S0 S1 C0 C1 H0 H1 D0 D1 U0 U1 U2 U3; have S := S.keep hb; have C := C.keep hb; have H := H.keep hb; have D := D.keep hb; have U := U.keep hb; have bU := bU.keep hb; have p0 := p0.keep hb; have p1 := p1.keep hb; have p2 := p2.keep hb; have p3 := p3.keep hb; have p4 := p4.keep hb; have p5 := p5.keep hb; have HB := Lib.hid (bstep HB.out hb); obtain ⟨S0, S1, -, -, -⟩ := id S; obtain ⟨C0, C1, -, -, -⟩ := id C; obtain ⟨H0, H1, -, -, -⟩ := id H; obtain ⟨D0, D1, -, -, -⟩ := id D; obtain ⟨U0, U1, U2, U3, -⟩ := id U; clear hb st; have st : Stg 7 := ⟨trivial⟩)
    | (go_at_call 28; (have ck : Stg 7 := st); clear ck; ((with_reducible refine (meet_v p6 bU (by omega) q1 q2).mono ?_)); rintro e v ⟨rfl, hb⟩; (try (replace hb := bdrew hb)); clear S0 S1 C0 C1 H0 H1 D0 D1 U0 U1 U2 U3; have S := S.keep hb; have C := C.keep hb; have H := H.keep hb; have D := D.keep hb; have U := U.keep hb; have bU := bU.keep hb; have p0 := p0.keep hb; have p1 := p1.keep hb; have p2 := p2.keep hb; have p3 := p3.keep hb; have p4 := p4.keep hb; have p5 := p5.keep hb; have p6 := p6.keep hb; have HB := Lib.hid (bstep HB.out hb); obtain ⟨S0, S1, -, -, -⟩ := id S; obtain ⟨C0, C1, -, -, -⟩ := id C; obtain ⟨H0, H1, -, -, -⟩ := id H; obtain ⟨D0, D1, -, -, -⟩ := id D; obtain ⟨U0, U1, U2, U3, -⟩ := id U; clear hb st; have st : Stg 8 := ⟨trivial⟩))
  clear st p0 p1 p2 p3 p4 p5 p6
  go_upto_region 14 with fail
  have st : Stg 0 := ⟨trivial⟩
  go_region_held3 (fun w' => w'.cell? ⟨bS, 0, none⟩ = some (.int .i64 sl) ∧ w'.cell? ⟨bS, 1, none⟩ = some (.int .i64 sh) ∧ w'.cell? ⟨bC, 0, none⟩ = some (.int .i64 cl) ∧ w'.cell? ⟨bC, 1, none⟩ = some (.int .i64 ch) ∧ w'.cell? ⟨bH, 0, none⟩ = some (.int .i64 hl) ∧ w'.cell? ⟨bH, 1, none⟩ = some (.int .i64 hh) ∧ w'.cell? ⟨bD, 0, none⟩ = some (.int .i64 dl) ∧ w'.cell? ⟨bD, 1, none⟩ = some (.int .i64 dh) ∧ w'.cell? ⟨bU', 0, none⟩ = some (.slice AU nU cU) ∧ w'.cell? ⟨bU', 1, none⟩ = some (.bool gU) ∧ w'.cell? ⟨bU', 2, none⟩ = some (.slice BU mU dU) ∧ w'.cell? ⟨bU', 3, none⟩ = some (.bool kU)) (go_keep)
    (first
    | (go_at_call 27; (have ck : Stg 0 := st); clear ck; ((with_reducible refine (one_v BT _).mono ?_)); rintro e v ⟨xr0, rfl, r0, hb⟩; (try (replace hb := bdrew hb)); clear S0 S1 C0 C1 H0 H1 D0 D1 U0 U1 U2 U3; have S := S.keep hb; have C := C.keep hb; have H := H.keep hb; have D := D.keep hb; have U := U.keep hb; have HB := Lib.hid (bstep HB.out hb); obtain ⟨S0, S1, -, -, -⟩ := id S; obtain ⟨C0, C1, -, -, -⟩ := id C; obtain ⟨H0, H1, -, -, -⟩ := id H; obtain ⟨D0, D1, -, -, -⟩ := id D; obtain ⟨U0, U1, U2, U3, -⟩ := id U; clear hb st; have st : Stg 1 := ⟨trivial⟩)
    | (go_at_call 30; (have ck : Stg 1 := st); clear ck; ((with_reducible refine (of_v Bhl Bhh _).mono ?_)); rintro e v ⟨xr1, rfl, r1, hb⟩; (try (replace hb := bdrew hb)); clear S0 S1 C0 C1 H0 H1 D0 D1 U0 U1 U2 U3; have S := S.keep hb; have C := C.keep hb; have H := H.keep hb; have D := D.keep hb; have U := U.keep hb; have r0 := r0.keep hb; have HB := Lib.hid (bstep HB.out hb); obtain ⟨S0, S1, -, -, -⟩ := id S; obtain ⟨C0, C1, -, -, -⟩ := id C; obtain ⟨H0, H1, -, -, -⟩ := id H; obtain ⟨D0, D1, -, -, -⟩ := id D; obtain ⟨U0, U1, U2, U3, -⟩ := id U; clear hb st; have st : Stg 2 := ⟨trivial⟩)
    | (go_at_call 26; (have ck : Stg 2 := st); clear ck; ((with_reducible refine (times_v r0 r1 BT BT Bhl Bhh).mono ?_)); rintro e v ⟨xr2, rfl, r2, hb⟩; (try (replace hb := bdrew hb)); clear S0 S1 C0 C1 H0 H1 D0 D1 U0 U1 U2 U3; have S := S.keep hb; have C := C.keep hb; have H := H.keep hb; have D := D.keep hb; have U := U.keep hb; have r0 := r0.keep hb; have r1 := r1.keep hb; have HB := Lib.hid (bstep HB.out hb); obtain ⟨S0, S1, -, -, -⟩ := id S; obtain ⟨C0, C1, -, -, -⟩ := id C; obtain ⟨H0, H1, -, -, -⟩ := id H; obtain ⟨D0, D1, -, -, -⟩ := id D; obtain ⟨U0, U1, U2, U3, -⟩ := id U; clear hb st; have st : Stg 3 := ⟨trivial⟩)
    | (go_at_call 27; (have ck : Stg 3 := st); clear ck; ((with_reducible refine (one_v BO _).mono ?_)); rintro e v ⟨xr3, rfl, r3, hb⟩; (try (replace hb := bdrew hb)); clear S0 S1 C0 C1 H0 H1 D0 D1 U0 U1 U2 U3; have S := S.keep hb; have C := C.keep hb; have H := H.keep hb; have D := D.keep hb; have U := U.keep hb; have r0 := r0.keep hb; have r1 := r1.keep hb; have r2 := r2.keep hb; have HB := Lib.hid (bstep HB.out hb); obtain ⟨S0, S1, -, -, -⟩ := id S; obtain ⟨C0, C1, -, -, -⟩ := id C; obtain ⟨H0, H1, -, -, -⟩ := id H; obtain ⟨D0, D1, -, -, -⟩ := id D; obtain ⟨U0, U1, U2, U3, -⟩ := id U; clear hb st; have st : Stg 4 := ⟨trivial⟩)
    | (go_at_call 30; (have ck : Stg 4 := st); clear ck; ((with_reducible refine (of_v Bcl Bch _).mono ?_)); rintro e v ⟨xr4, rfl, r4, hb⟩; (try (replace hb := bdrew hb)); clear S0 S1 C0 C1 H0 H1 D0 D1 U0 U1 U2 U3; have S := S.keep hb; have C := C.keep hb; have H := H.keep hb; have D := D.keep hb; have U := U.keep hb; have r0 := r0.keep hb; have r1 := r1.keep hb; have r2 := r2.keep hb; have r3 := r3.keep hb; have HB := Lib.hid (bstep HB.out hb); obtain ⟨S0, S1, -, -, -⟩ := id S; obtain ⟨C0, C1, -, -, -⟩ := id C; obtain ⟨H0, H1, -, -, -⟩ := id H; obtain ⟨D0, D1, -, -, -⟩ := id D; obtain ⟨U0, U1, U2, U3, -⟩ := id U; clear hb st; have st : Stg 5 := ⟨trivial⟩)
    | (go_at_call 31; (have ck : Stg 5 := st); clear ck; ((with_reducible refine (minus_v r3 r4 (b62_31 BO) (b62_31 BO) (b62_31 Bcl) (b62_31 Bch)).mono ?_)); rintro e v ⟨xr5, rfl, r5, hb⟩; (try (replace hb := bdrew hb)); clear S0 S1 C0 C1 H0 H1 D0 D1 U0 U1 U2 U3; have S := S.keep hb; have C := C.keep hb; have H := H.keep hb; have D := D.keep hb; have U := U.keep hb; have r0 := r0.keep hb; have r1 := r1.keep hb; have r2 := r2.keep hb; have r3 := r3.keep hb; have r4 := r4.keep hb; have HB := Lib.hid (bstep HB.out hb); obtain ⟨S0, S1, -, -, -⟩ := id S; obtain ⟨C0, C1, -, -, -⟩ := id C; obtain ⟨H0, H1, -, -, -⟩ := id H; obtain ⟨D0, D1, -, -, -⟩ := id D; obtain ⟨U0, U1, U2, U3, -⟩ := id U; clear hb st; have st : Stg 6 := ⟨trivial⟩)
    | (go_at_call 28; (have ck : Stg 6 := st); clear ck; ((with_reducible refine (meet_v r2 r5 (by omega) q3 q4).mono ?_)); rintro e v ⟨rfl, hb⟩; (try (replace hb := bdrew hb)); clear S0 S1 C0 C1 H0 H1 D0 D1 U0 U1 U2 U3; have S := S.keep hb; have C := C.keep hb; have H := H.keep hb; have D := D.keep hb; have U := U.keep hb; have r0 := r0.keep hb; have r1 := r1.keep hb; have r2 := r2.keep hb; have r3 := r3.keep hb; have r4 := r4.keep hb; have r5 := r5.keep hb; have HB := Lib.hid (bstep HB.out hb); obtain ⟨S0, S1, -, -, -⟩ := id S; obtain ⟨C0, C1, -, -, -⟩ := id C; obtain ⟨H0, H1, -, -, -⟩ := id H; obtain ⟨D0, D1, -, -, -⟩ := id D; obtain ⟨U0, U1, U2, U3, -⟩ := id U; clear hb st; have st : Stg 7 := ⟨trivial⟩)
    | (go_at_call 30; (have ck : Stg 7 := st); clear ck; ((with_reducible refine (of_v Bdl Bdh _).mono ?_)); rintro e v ⟨xr6, rfl, r6, hb⟩; (try (replace hb := bdrew hb)); clear S0 S1 C0 C1 H0 H1 D0 D1 U0 U1 U2 U3; have S := S.keep hb; have C := C.keep hb; have H := H.keep hb; have D := D.keep hb; have U := U.keep hb; have r0 := r0.keep hb; have r1 := r1.keep hb; have r2 := r2.keep hb; have r3 := r3.keep hb; have r4 := r4.keep hb; have r5 := r5.keep hb; have HB := Lib.hid (bstep HB.out hb); obtain ⟨S0, S1, -, -, -⟩ := id S; obtain ⟨C0, C1, -, -, -⟩ := id C; obtain ⟨H0, H1, -, -, -⟩ := id H; obtain ⟨D0, D1, -, -, -⟩ := id D; obtain ⟨U0, U1, U2, U3, -⟩ := id U; clear hb st; have st : Stg 8 := ⟨trivial⟩)
    | (go_at_call 27; (have ck : Stg 8 := st); clear ck; ((with_reducible refine (one_v BO _).mono ?_)); rintro e v ⟨xr7, rfl, r7, hb⟩; (try (replace hb := bdrew hb)); clear S0 S1 C0 C1 H0 H1 D0 D1 U0 U1 U2 U3; have S := S.keep hb; have C := C.keep hb; have H := H.keep hb; have D := D.keep hb; have U := U.keep hb; have r0 := r0.keep hb; have r1 := r1.keep hb; have r2 := r2.keep hb; have r3 := r3.keep hb; have r4 := r4.keep hb; have r5 := r5.keep hb; have r6 := r6.keep hb; have HB := Lib.hid (bstep HB.out hb); obtain ⟨S0, S1, -, -, -⟩ := id S; obtain ⟨C0, C1, -, -, -⟩ := id C; obtain ⟨H0, H1, -, -, -⟩ := id H; obtain ⟨D0, D1, -, -, -⟩ := id D; obtain ⟨U0, U1, U2, U3, -⟩ := id U; clear hb st; have st : Stg 9 := ⟨trivial⟩)
    | (go_at_call 26; (have ck : Stg 9 := st); clear ck; ((with_reducible refine (times_v r6 r7 Bdl Bdh BO BO).mono ?_)); rintro e v ⟨xr8, rfl, r8, hb⟩; (try (replace hb := bdrew hb)); clear S0 S1 C0 C1 H0 H1 D0 D1 U0 U1 U2 U3; have S := S.keep hb; have C := C.keep hb; have H := H.keep hb; have D := D.keep hb; have U := U.keep hb; have r0 := r0.keep hb; have r1 := r1.keep hb; have r2 := r2.keep hb; have r3 := r3.keep hb; have r4 := r4.keep hb; have r5 := r5.keep hb; have r6 := r6.keep hb; have r7 := r7.keep hb; have HB := Lib.hid (bstep HB.out hb); obtain ⟨S0, S1, -, -, -⟩ := id S; obtain ⟨C0, C1, -, -, -⟩ := id C; obtain ⟨H0, H1, -, -, -⟩ := id H; obtain ⟨D0, D1, -, -, -⟩ := id D; obtain ⟨U0, U1, U2, U3, -⟩ := id U; clear hb st; have st : Stg 10 := ⟨trivial⟩)
    | (go_at_call 30; (have ck : Stg 10 := st); clear ck; ((with_reducible refine (of_v Bsl Bsh _).mono ?_)); rintro e v ⟨xr9, rfl, r9, hb⟩; (try (replace hb := bdrew hb)); clear S0 S1 C0 C1 H0 H1 D0 D1 U0 U1 U2 U3; have S := S.keep hb; have C := C.keep hb; have H := H.keep hb; have D := D.keep hb; have U := U.keep hb; have r0 := r0.keep hb; have r1 := r1.keep hb; have r2 := r2.keep hb; have r3 := r3.keep hb; have r4 := r4.keep hb; have r5 := r5.keep hb; have r6 := r6.keep hb; have r7 := r7.keep hb; have r8 := r8.keep hb; have HB := Lib.hid (bstep HB.out hb); obtain ⟨S0, S1, -, -, -⟩ := id S; obtain ⟨C0, C1, -, -, -⟩ := id C; obtain ⟨H0, H1, -, -, -⟩ := id H; obtain ⟨D0, D1, -, -, -⟩ := id D; obtain ⟨U0, U1, U2, U3, -⟩ := id U; clear hb st; have st : Stg 11 := ⟨trivial⟩)
    | (go_at_call 30; (have ck : Stg 11 := st); clear ck; ((with_reducible refine (of_v Bsl Bsh _).mono ?_)); rintro e v ⟨xra, rfl, ra, hb⟩; (try (replace hb := bdrew hb)); clear S0 S1 C0 C1 H0 H1 D0 D1 U0 U1 U2 U3; have S := S.keep hb; have C := C.keep hb; have H := H.keep hb; have D := D.keep hb; have U := U.keep hb; have r0 := r0.keep hb; have r1 := r1.keep hb; have r2 := r2.keep hb; have r3 := r3.keep hb; have r4 := r4.keep hb; have r5 := r5.keep hb; have r6 := r6.keep hb; have r7 := r7.keep hb; have r8 := r8.keep hb; have r9 := r9.keep hb; have HB := Lib.hid (bstep HB.out hb); obtain ⟨S0, S1, -, -, -⟩ := id S; obtain ⟨C0, C1, -, -, -⟩ := id C; obtain ⟨H0, H1, -, -, -⟩ := id H; obtain ⟨D0, D1, -, -, -⟩ := id D; obtain ⟨U0, U1, U2, U3, -⟩ := id U; clear hb st; have st : Stg 12 := ⟨trivial⟩)
    | (go_at_call 26; (have ck : Stg 12 := st); clear ck; ((with_reducible refine (times_v r9 ra Bsl Bsh Bsl Bsh).mono ?_)); rintro e v ⟨xrb, rfl, rb, hb⟩; (try (replace hb := bdrew hb)); clear S0 S1 C0 C1 H0 H1 D0 D1 U0 U1 U2 U3; have S := S.keep hb; have C := C.keep hb; have H := H.keep hb; have D := D.keep hb; have U := U.keep hb; have r0 := r0.keep hb; have r1 := r1.keep hb; have r2 := r2.keep hb; have r3 := r3.keep hb; have r4 := r4.keep hb; have r5 := r5.keep hb; have r6 := r6.keep hb; have r7 := r7.keep hb; have r8 := r8.keep hb; have r9 := r9.keep hb; have ra := ra.keep hb; have HB := Lib.hid (bstep HB.out hb); obtain ⟨S0, S1, -, -, -⟩ := id S; obtain ⟨C0, C1, -, -, -⟩ := id C; obtain ⟨H0, H1, -, -, -⟩ := id H; obtain ⟨D0, D1, -, -, -⟩ := id D; obtain ⟨U0, U1, U2, U3, -⟩ := id U; clear hb st; have st : Stg 13 := ⟨trivial⟩)
    | (go_at_call 28; (have ck : Stg 13 := st); clear ck; ((with_reducible refine (meet_v r8 rb (by omega) q5 q6).mono ?_)); rintro e v ⟨rfl, hb⟩; (try (replace hb := bdrew hb)); clear S0 S1 C0 C1 H0 H1 D0 D1 U0 U1 U2 U3; have S := S.keep hb; have C := C.keep hb; have H := H.keep hb; have D := D.keep hb; have U := U.keep hb; have r0 := r0.keep hb; have r1 := r1.keep hb; have r2 := r2.keep hb; have r3 := r3.keep hb; have r4 := r4.keep hb; have r5 := r5.keep hb; have r6 := r6.keep hb; have r7 := r7.keep hb; have r8 := r8.keep hb; have r9 := r9.keep hb; have ra := ra.keep hb; have rb := rb.keep hb; have HB := Lib.hid (bstep HB.out hb); obtain ⟨S0, S1, -, -, -⟩ := id S; obtain ⟨C0, C1, -, -, -⟩ := id C; obtain ⟨H0, H1, -, -, -⟩ := id H; obtain ⟨D0, D1, -, -, -⟩ := id D; obtain ⟨U0, U1, U2, U3, -⟩ := id U; clear hb st; have st : Stg 14 := ⟨trivial⟩))
  go_wp2_with fail
  go_ret
  exact ⟨rfl, HB.out⟩
theorem squares_out (w : World) (P : TrProg w) (n : Int) (h : n < -274877906944 ∨ n > 274877906944) :
    Calls Tryd.prog 9 #[.int .i64 n] w fun e w' => e = .returned (.bool true) ∧ Below w.heap.size w w' := by
  have C0 := Lib.hid (fun wx (hb : Below w.heap.size w wx) => awake_any w P wx hb)
  by_cases c : n < -274877906944
  · go_enter Tryd.func9, Tryd.ntmps9
    go_wp2_with fail
    refine (C0.out _ (Below.refl _ _)).mono ?_
    rintro e w1 ⟨rfl, hb⟩
    go_wp2_with fail
    go_ret
    exact ⟨rfl, hb⟩
  · have d : n > 274877906944 := by omega
    clear h
    go_enter Tryd.func9, Tryd.ntmps9
    go_wp2_with fail
    refine (C0.out _ (Below.refl _ _)).mono ?_
    rintro e w1 ⟨rfl, hb⟩
    go_wp2_with fail
    go_ret
    exact ⟨rfl, hb⟩
/-- the program's answers for one angle -/
theorem tell_sin (w : World) (P : TrProg w) (n : Int) (h : -549755813888 ≤ n ∧ n ≤ 549755813888) (wx : World) (hb : Below w.heap.size w wx) :
    Calls Tryd.prog 13 #[.agg #[.int .i64 n, .int .i64 n]] wx fun e w' => e = .returned (.tuple #[.agg #[.int .i64 (L6.lo n), .int .i64 (L6.hi n)], .int .i64 0]) ∧ Below wx.heap.size wx w' := by
  have c := P.sin n n wx hb ⟨by omega, by omega⟩ ⟨by omega, by omega⟩
  rw [vTr_yes _ _ (aok_mk (by omega) (by omega) (by omega)), sL_one, sH_one] at c
  exact c
theorem tell_cos (w : World) (P : TrProg w) (n : Int) (h : -549755813888 ≤ n ∧ n ≤ 549755813888) (wx : World) (hb : Below w.heap.size w wx) :
    Calls Tryd.prog 14 #[.agg #[.int .i64 n, .int .i64 n]] wx fun e w' => e = .returned (.tuple #[.agg #[.int .i64 (L6.lo (n + 5400000)), .int .i64 (L6.hi (n + 5400000))], .int .i64 0]) ∧ Below wx.heap.size wx w' := by
  have c := P.cos n n wx hb ⟨by omega, by omega⟩ ⟨by omega, by omega⟩
  rw [vTr_yes _ _ (aok_mk (by omega) (by omega) (by omega)), sL_one, sH_one] at c
  exact c
theorem tell_hav (w : World) (P : TrProg w) (n : Int) (h : -549755813888 ≤ n ∧ n ≤ 549755813888) (wx : World) (hb : Below w.heap.size w wx) :
    Calls Tryd.prog 18 #[.agg #[.int .i64 n, .int .i64 n]] wx fun e w' => e = .returned (.tuple #[.agg #[.int .i64 (hL n n), .int .i64 (hH n n)], .int .i64 0]) ∧ Below wx.heap.size wx w' := by
  have c := P.hav n n wx hb ⟨by omega, by omega⟩ ⟨by omega, by omega⟩
  rw [vTr_yes _ _ (aok_mk (by omega) (by omega) (by omega))] at c
  exact c
theorem b31_lo (n : Int) : B31 (L6.lo n) ∧ B31 (L6.hi n) := by
  have := lo_in n
  exact ⟨⟨by omega, by omega⟩, by omega, by omega⟩
theorem b31_h (n : Int) : B31 (hL n n) ∧ B31 (hH n n) ∧ 0 ≤ hL n n ∧ hL n n ≤ hH n n := by
  have := lo_in (n + 5400000)
  rw [hL_eq, hH_eq, sL_one, sH_one]
  refine ⟨⟨?_, ?_⟩, ⟨?_, ?_⟩, ?_, ?_⟩ <;> omega
theorem mul_two (l h : Int) (a : 0 ≤ l) (b : l ≤ h) : mulL 2 2 l h = 2 * l ∧ mulH 2 2 l h = 2 * h := by unfold mulL mulH; omega
theorem mul_one (l h : Int) (a : 0 ≤ l) (b : l ≤ h) : mulL l h 1073741824 1073741824 = 1073741824 * l ∧ mulH l h 1073741824 1073741824 = 1073741824 * h := by unfold mulL mulH; omega
theorem mul_one' (l h : Int) (b : l ≤ h) : mulL l h 1073741824 1073741824 = 1073741824 * l ∧ mulH l h 1073741824 1073741824 = 1073741824 * h := by unfold mulL mulH; omega
theorem squares_walk (w : World) (P : TrProg w) (n : Int) (hn : I64 n) :
    Calls Tryd.prog 9 #[.int .i64 n] w fun e w' => e = .returned (.bool true) ∧ Below w.heap.size w w' := by
  by_cases c : n < -274877906944 ∨ n > 274877906944
  · exact squares_out w P n c
  · have n1 : -274877906944 ≤ n := by omega
    have n2 : n ≤ 274877906944 := by omega
    have ok : L6.Ok n := by unfold L6.Ok; omega
    have okc : L6.Ok (n + 5400000) := by unfold L6.Ok; omega
    have okd : L6.Ok (n + n + 5400000) := by unfold L6.Ok; omega
    obtain ⟨a1, a2⟩ := b31_lo n
    obtain ⟨b1, b2⟩ := b31_lo (n + 5400000)
    obtain ⟨h1, h2, h3, h4⟩ := b31_h n
    obtain ⟨d1, d2, d3, d4⟩ := b31_h (n + n)
    obtain ⟨q1, q2⟩ := squares_one n ok okc
    obtain ⟨q3, q4⟩ := squares_half n
    obtain ⟨q5, q6⟩ := squares_double n ok okd
    obtain ⟨e1, e2⟩ := mul_two _ _ h3 h4
    obtain ⟨e3, e4⟩ := mul_one _ _ d3 d4
    exact squares_in w n (n + n) _ _ _ _ _ _ _ _ n1 n2 (by omega) a1 a2 b1 b2 h1 h2 d1 d2 (fun wx hb => awake_any w P wx hb)
      (tell_sin w P n ⟨by omega, by omega⟩) (tell_cos w P n ⟨by omega, by omega⟩) (tell_hav w P n ⟨by omega, by omega⟩) (tell_hav w P (n + n) ⟨by omega, by omega⟩)
      q1 q2 (by rw [e1]; exact q3) (by rw [e2]; exact q4) (by rw [e3]; exact q5) (by rw [e4]; exact q6)
end Go.Proofs.YtglmkpnnbgkndaaDoor
