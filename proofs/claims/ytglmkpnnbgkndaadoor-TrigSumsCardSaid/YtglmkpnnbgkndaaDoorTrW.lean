/- TrigSums: the law's walk. -/
import Derived.Test.YtglmkpnnbgkndaaDoorTrV
namespace Go.Proofs.YtglmkpnnbgkndaaDoor
open Go.RowKit
set_option linter.unusedVariables false
set_option maxRecDepth 100000

set_option maxHeartbeats 8000000 in
theorem sums_in (w : World) (a b c al ah el eh bl bh fl fh sl sh cl ch : Int) (a1 : -274877906944 ≤ a) (a2 : a ≤ 274877906944) (b1 : -274877906944 ≤ b) (b2 : b ≤ 274877906944) (hc : a + b = c)
    (Bal : B31 al) (Bah : B31 ah) (Bel : B31 el) (Beh : B31 eh) (Bbl : B31 bl) (Bbh : B31 bh) (Bfl : B31 fl) (Bfh : B31 fh) (Bsl : B31 sl) (Bsh : B31 sh) (Bcl : B31 cl) (Bch : B31 ch)
    (C0 : Hid (∀ wx, Below w.heap.size w wx → Calls Tryd.prog 12 #[] wx fun e w' => e = .returned (.bool true) ∧ Below wx.heap.size wx w'))
    (CA : Hid (∀ wx, Below w.heap.size w wx → Calls Tryd.prog 13 #[.agg #[.int .i64 a, .int .i64 a]] wx fun e w' => e = .returned (.tuple #[.agg #[.int .i64 al, .int .i64 ah], .int .i64 0]) ∧ Below wx.heap.size wx w'))
    (CE : Hid (∀ wx, Below w.heap.size w wx → Calls Tryd.prog 14 #[.agg #[.int .i64 a, .int .i64 a]] wx fun e w' => e = .returned (.tuple #[.agg #[.int .i64 el, .int .i64 eh], .int .i64 0]) ∧ Below wx.heap.size wx w'))
    (CB : Hid (∀ wx, Below w.heap.size w wx → Calls Tryd.prog 13 #[.agg #[.int .i64 b, .int .i64 b]] wx fun e w' => e = .returned (.tuple #[.agg #[.int .i64 bl, .int .i64 bh], .int .i64 0]) ∧ Below wx.heap.size wx w'))
    (CF : Hid (∀ wx, Below w.heap.size w wx → Calls Tryd.prog 14 #[.agg #[.int .i64 b, .int .i64 b]] wx fun e w' => e = .returned (.tuple #[.agg #[.int .i64 fl, .int .i64 fh], .int .i64 0]) ∧ Below wx.heap.size wx w'))
    (CS : Hid (∀ wx, Below w.heap.size w wx → Calls Tryd.prog 13 #[.agg #[.int .i64 c, .int .i64 c]] wx fun e w' => e = .returned (.tuple #[.agg #[.int .i64 sl, .int .i64 sh], .int .i64 0]) ∧ Below wx.heap.size wx w'))
    (CC : Hid (∀ wx, Below w.heap.size w wx → Calls Tryd.prog 14 #[.agg #[.int .i64 c, .int .i64 c]] wx fun e w' => e = .returned (.tuple #[.agg #[.int .i64 cl, .int .i64 ch], .int .i64 0]) ∧ Below wx.heap.size wx w'))
    (q1 : mulL sl sh 1073741824 1073741824 ≤ mulH al ah fl fh + mulH el eh bl bh) (q2 : mulL al ah fl fh + mulL el eh bl bh ≤ mulH sl sh 1073741824 1073741824)
    (q3 : mulL cl ch 1073741824 1073741824 ≤ mulH el eh fl fh - mulL al ah bl bh) (q4 : mulL el eh fl fh - mulH al ah bl bh ≤ mulH cl ch 1073741824 1073741824) :
    Calls Tryd.prog 10 #[.int .i64 a, .int .i64 b] w fun e w' => e = .returned (.bool true) ∧ Below w.heap.size w w' := by
  have BO : B31 1073741824 := ⟨by decide, by decide⟩
  have t1 := b62_L Bsl Bsh BO BO
  have t2 := b62_L Bal Bah Bfl Bfh
  have t3 := b62_L Bel Beh Bbl Bbh
  have t4 := b62_L Bcl Bch BO BO
  have t5 := b62_L Bel Beh Bfl Bfh
  have t6 := b62_L Bal Bah Bbl Bbh
  have mb1 : -9223372036854775808 ≤ c := by omega
  have mb2 : c ≤ 9223372036854775807 := by omega
  have KA := Lib.hid (fun wx => at_any a wx)
  have KB := Lib.hid (fun wx => at_any b wx)
  have KC := Lib.hid (fun wx => at_any c wx)
  have HB := Lib.hid (Below.refl w.heap.size w)
  go_enter Tryd.func10, Tryd.ntmps10
  go_wp2_with fail
  refine (C0.out _ HB.out).mono ?_
  rintro e w2 ⟨rfl, hb⟩
  have HB := Lib.hid (bstep HB.out hb)
  clear hb
  go_wp2_with fail
  refine (KA.out _).mono ?_
  rintro e w3 ⟨rfl, hb⟩
  have HB := Lib.hid (bstep HB.out hb)
  clear hb
  go_wp2_with fail
  refine (CA.out _ HB.out).mono ?_
  rintro e w4 ⟨rfl, hb⟩
  have HB := Lib.hid (bstep HB.out hb)
  clear hb
  have A := At2.new w4 (.int .i64 al) (.int .i64 ah) 25
  have HB := Lib.hid (bstep HB.out (below1 w4 (.cells #[.int .i64 al, .int .i64 ah] 25)))
  go_wp2_with fail
  refine (KA.out _).mono ?_
  rintro e w5 ⟨rfl, hb⟩
  have A := A.keep hb
  have HB := Lib.hid (bstep HB.out hb)
  clear hb
  go_wp2_with fail
  refine (CE.out _ HB.out).mono ?_
  rintro e w6 ⟨rfl, hb⟩
  have A := A.keep hb
  have HB := Lib.hid (bstep HB.out hb)
  clear hb
  have A := A.alloc (.cells #[.int .i64 el, .int .i64 eh] 25)
  have E := At2.new w6 (.int .i64 el) (.int .i64 eh) 25
  have HB := Lib.hid (bstep HB.out (below1 w6 (.cells #[.int .i64 el, .int .i64 eh] 25)))
  go_wp2_with fail
  refine (KB.out _).mono ?_
  rintro e w7 ⟨rfl, hb⟩
  have A := A.keep hb
  have E := E.keep hb
  have HB := Lib.hid (bstep HB.out hb)
  clear hb
  go_wp2_with fail
  refine (CB.out _ HB.out).mono ?_
  rintro e w8 ⟨rfl, hb⟩
  have A := A.keep hb
  have E := E.keep hb
  have HB := Lib.hid (bstep HB.out hb)
  clear hb
  have A := A.alloc (.cells #[.int .i64 bl, .int .i64 bh] 25)
  have E := E.alloc (.cells #[.int .i64 bl, .int .i64 bh] 25)
  have B := At2.new w8 (.int .i64 bl) (.int .i64 bh) 25
  have HB := Lib.hid (bstep HB.out (below1 w8 (.cells #[.int .i64 bl, .int .i64 bh] 25)))
  go_wp2_with fail
  refine (KB.out _).mono ?_
  rintro e w9 ⟨rfl, hb⟩
  have A := A.keep hb
  have E := E.keep hb
  have B := B.keep hb
  have HB := Lib.hid (bstep HB.out hb)
  clear hb
  go_wp2_with fail
  refine (CF.out _ HB.out).mono ?_
  rintro e w10 ⟨rfl, hb⟩
  have A := A.keep hb
  have E := E.keep hb
  have B := B.keep hb
  have HB := Lib.hid (bstep HB.out hb)
  clear hb
  have A := A.alloc (.cells #[.int .i64 fl, .int .i64 fh] 25)
  have E := E.alloc (.cells #[.int .i64 fl, .int .i64 fh] 25)
  have B := B.alloc (.cells #[.int .i64 fl, .int .i64 fh] 25)
  have F := At2.new w10 (.int .i64 fl) (.int .i64 fh) 25
  have HB := Lib.hid (bstep HB.out (below1 w10 (.cells #[.int .i64 fl, .int .i64 fh] 25)))
  go_wp2_with fail
  refine (KC.out _).mono ?_
  rintro e w11 ⟨rfl, hb⟩
  have A := A.keep hb
  have E := E.keep hb
  have B := B.keep hb
  have F := F.keep hb
  have HB := Lib.hid (bstep HB.out hb)
  clear hb
  go_wp2_with fail
  refine (CS.out _ HB.out).mono ?_
  rintro e w12 ⟨rfl, hb⟩
  have A := A.keep hb
  have E := E.keep hb
  have B := B.keep hb
  have F := F.keep hb
  have HB := Lib.hid (bstep HB.out hb)
  clear hb
  have A := A.alloc (.cells #[.int .i64 sl, .int .i64 sh] 25)
  have E := E.alloc (.cells #[.int .i64 sl, .int .i64 sh] 25)
  have B := B.alloc (.cells #[.int .i64 sl, .int .i64 sh] 25)
  have F := F.alloc (.cells #[.int .i64 sl, .int .i64 sh] 25)
  have S := At2.new w12 (.int .i64 sl) (.int .i64 sh) 25
  have HB := Lib.hid (bstep HB.out (below1 w12 (.cells #[.int .i64 sl, .int .i64 sh] 25)))
  go_wp2_with fail
  refine (KC.out _).mono ?_
  rintro e w13 ⟨rfl, hb⟩
  have A := A.keep hb
  have E := E.keep hb
  have B := B.keep hb
  have F := F.keep hb
  have S := S.keep hb
  have HB := Lib.hid (bstep HB.out hb)
  clear hb
  go_wp2_with fail
  refine (CC.out _ HB.out).mono ?_
  rintro e w14 ⟨rfl, hb⟩
  have A := A.keep hb
  have E := E.keep hb
  have B := B.keep hb
  have F := F.keep hb
  have S := S.keep hb
  have HB := Lib.hid (bstep HB.out hb)
  clear hb
  have A := A.alloc (.cells #[.int .i64 cl, .int .i64 ch] 25)
  have E := E.alloc (.cells #[.int .i64 cl, .int .i64 ch] 25)
  have B := B.alloc (.cells #[.int .i64 cl, .int .i64 ch] 25)
  have F := F.alloc (.cells #[.int .i64 cl, .int .i64 ch] 25)
  have S := S.alloc (.cells #[.int .i64 cl, .int .i64 ch] 25)
  have C := At2.new w14 (.int .i64 cl) (.int .i64 ch) 25
  have HB := Lib.hid (bstep HB.out (below1 w14 (.cells #[.int .i64 cl, .int .i64 ch] 25)))
  go_wp2_with fail
  refine (one_v BO _).mono ?_
  rintro e v3 ⟨x3, rfl, ⟨AU, nU, cU, gU, BU, mU, dU, kU, rfl, NA, NB⟩, hb⟩
  have A := A.keep hb
  have E := E.keep hb
  have B := B.keep hb
  have F := F.keep hb
  have S := S.keep hb
  have C := C.keep hb
  have HB := Lib.hid (bstep HB.out hb)
  clear hb
  have A := A.alloc (.cells #[.slice AU nU cU, .bool gU, .slice BU mU dU, .bool kU] 44)
  have E := E.alloc (.cells #[.slice AU nU cU, .bool gU, .slice BU mU dU, .bool kU] 44)
  have B := B.alloc (.cells #[.slice AU nU cU, .bool gU, .slice BU mU dU, .bool kU] 44)
  have F := F.alloc (.cells #[.slice AU nU cU, .bool gU, .slice BU mU dU, .bool kU] 44)
  have S := S.alloc (.cells #[.slice AU nU cU, .bool gU, .slice BU mU dU, .bool kU] 44)
  have C := C.alloc (.cells #[.slice AU nU cU, .bool gU, .slice BU mU dU, .bool kU] 44)
  have U := At4.new v3 (.slice AU nU cU) (.bool gU) (.slice BU mU dU) (.bool kU) 44
  have HB := Lib.hid (bstep HB.out (below1 v3 (.cells #[.slice AU nU cU, .bool gU, .slice BU mU dU, .bool kU] 44)))
  have bU : Bx (v3.alloc (.cells #[.slice AU nU cU, .bool gU, .slice BU mU dU, .bool kU] 44)) (.agg #[.slice AU nU cU, .bool gU, .slice BU mU dU, .bool kU]) 1073741824 1073741824 := ⟨_, _, _, _, _, _, _, _, rfl, NA.alloc _, NB.alloc _⟩
  clear NA NB
  obtain ⟨A0, A1, -, -, -⟩ := id A
  obtain ⟨E0, E1, -, -, -⟩ := id E
  obtain ⟨B0, B1, -, -, -⟩ := id B
  obtain ⟨F0, F1, -, -, -⟩ := id F
  obtain ⟨S0, S1, -, -, -⟩ := id S
  obtain ⟨C0, C1, -, -, -⟩ := id C
  obtain ⟨U0, U1, U2, U3, -⟩ := id U
  go_upto_region 14 with fail
  generalize w4.heap.size = bA at *
  generalize w6.heap.size = bE at *
  generalize w8.heap.size = bB at *
  generalize w10.heap.size = bF at *
  generalize w12.heap.size = bS at *
  generalize w14.heap.size = bC at *
  generalize v3.heap.size = bU' at *
  generalize v3.alloc (.cells #[.slice AU nU cU, .bool gU, .slice BU mU dU, .bool kU] 44) = V at *
  have st : Stg 0 := ⟨trivial⟩
  go_region_held3 (fun w' => w'.cell? ⟨bA, 0, none⟩ = some (.int .i64 al) ∧ w'.cell? ⟨bA, 1, none⟩ = some (.int .i64 ah) ∧ w'.cell? ⟨bE, 0, none⟩ = some (.int .i64 el) ∧ w'.cell? ⟨bE, 1, none⟩ = some (.int .i64 eh) ∧ w'.cell? ⟨bB, 0, none⟩ = some (.int .i64 bl) ∧ w'.cell? ⟨bB, 1, none⟩ = some (.int .i64 bh) ∧ w'.cell? ⟨bF, 0, none⟩ = some (.int .i64 fl) ∧ w'.cell? ⟨bF, 1, none⟩ = some (.int .i64 fh) ∧ w'.cell? ⟨bS, 0, none⟩ = some (.int .i64 sl) ∧ w'.cell? ⟨bS, 1, none⟩ = some (.int .i64 sh) ∧ w'.cell? ⟨bC, 0, none⟩ = some (.int .i64 cl) ∧ w'.cell? ⟨bC, 1, none⟩ = some (.int .i64 ch) ∧ w'.cell? ⟨bU', 0, none⟩ = some (.slice AU nU cU) ∧ w'.cell? ⟨bU', 1, none⟩ = some (.bool gU) ∧ w'.cell? ⟨bU', 2, none⟩ = some (.slice BU mU dU) ∧ w'.cell? ⟨bU', 3, none⟩ = some (.bool kU)) (go_keep)
    (first
    | (go_at_call 30; (have ck : Stg 0 := st); clear ck; ((with_reducible refine (of_v Bsl Bsh _).mono ?_)); rintro e v ⟨xp0, rfl, p0, hb⟩; (try (replace hb := bdrew hb)); clear A0 A1 E0 E1 B0 B1 F0 F1 S0 S1 C0 C1 U0 U1 U2 U3; have A := A.keep hb; have E := E.keep hb; have B := B.keep hb; have F := F.keep hb; have S := S.keep hb; have C := C.keep hb; have U := U.keep hb; have bU := bU.keep hb; have HB := Lib.hid (bstep HB.out hb); obtain ⟨A0, A1, -, -, -⟩ := id A; obtain ⟨E0, E1, -, -, -⟩ := id E; obtain ⟨B0, B1, -, -, -⟩ := id B; obtain ⟨F0, F1, -, -, -⟩ := id F; obtain ⟨S0, S1, -, -, -⟩ := id S; obtain ⟨C0, C1, -, -, -⟩ := id C; obtain ⟨U0, U1, U2, U3, -⟩ := id U; clear hb st; have st : Stg 1 := ⟨trivial⟩)
    | (go_at_call 26; (have ck : Stg 1 := st); clear ck; ((with_reducible refine (times_v p0 bU Bsl Bsh BO BO).mono ?_)); rintro e v ⟨xp1, rfl, p1, hb⟩; (try (replace hb := bdrew hb)); clear A0 A1 E0 E1 B0 B1 F0 F1 S0 S1 C0 C1 U0 U1 U2 U3; have A := A.keep hb; have E := E.keep hb; have B := B.keep hb; have F := F.keep hb; have S := S.keep hb; have C := C.keep hb; have U := U.keep hb; have bU := bU.keep hb; have p0 := p0.keep hb; have HB := Lib.hid (bstep HB.out hb); obtain ⟨A0, A1, -, -, -⟩ := id A; obtain ⟨E0, E1, -, -, -⟩ := id E; obtain ⟨B0, B1, -, -, -⟩ := id B; obtain ⟨F0, F1, -, -, -⟩ := id F; obtain ⟨S0, S1, -, -, -⟩ := id S; obtain ⟨C0, C1, -, -, -⟩ := id C; obtain ⟨U0, U1, U2, U3, -⟩ := id U; clear hb st; have st : Stg 2 := ⟨trivial⟩)
    | (go_at_call 30; (have ck : Stg 2 := st); clear ck; ((with_reducible refine (of_v Bal Bah _).mono ?_)); rintro e v ⟨xp2, rfl, p2, hb⟩; (try (replace hb := bdrew hb)); clear A0 A1 E0 E1 B0 B1 F0 F1 S0 S1 C0 C1 U0 U1 U2 U3; have A := A.keep hb; have E := E.keep hb; have B := B.keep hb; have F := F.keep hb; have S := S.keep hb; have C := C.keep hb; have U := U.keep hb; have bU := bU.keep hb; have p0 := p0.keep hb; have p1 := p1.keep hb; have HB := Lib.hid (bstep HB.out hb); obtain ⟨A0, A1, -, -, -⟩ := id A; obtain ⟨E0, E1, -, -, -⟩ := id E; obtain ⟨B0, B1, -, -, -⟩ := id B; obtain ⟨F0, F1, -, -, -⟩ := id F; obtain ⟨S0, S1, -, -, -⟩ := id S; obtain ⟨C0, C1, -, -, -⟩ := id C; obtain ⟨U0, U1, U2, U3, -⟩ := id U; clear hb st; have st : Stg 3 := ⟨trivial⟩)
    | (go_at_call 30; (have ck : Stg 3 := st); clear ck; ((with_reducible refine (of_v Bfl Bfh _).mono ?_)); rintro e v ⟨xp3, rfl, p3, hb⟩; (try (replace hb := bdrew hb)); clear A0 A1 E0 E1 B0 B1 F0 F1 S0 S1 C0 C1 U0 U1 U2 U3; have A := A.keep hb; have E := E.keep hb; have B := B.keep hb; have F := F.keep hb; have S := S.keep hb; have C := C.keep hb; have U := U.keep hb; have bU := bU.keep hb; have p0 := p0.keep hb; have p1 := p1.keep hb; have p2 := p2.keep hb; have HB := Lib.hid (bstep HB.out hb); obtain ⟨A0, A1, -, -, -⟩ := id A; obtain ⟨E0, E1, -, -, -⟩ := id E; obtain ⟨B0, B1, -, -, -⟩ := id B; obtain ⟨F0, F1, -, -, -⟩ := id F; obtain ⟨S0, S1, -, -, -⟩ := id S; obtain ⟨C0, C1, -, -, -⟩ := id C; obtain ⟨U0, U1, U2, U3, -⟩ := id U; clear hb st; have st : Stg 4 := ⟨trivial⟩)
    | (go_at_call 26; (have ck : Stg 4 := st); clear ck; ((with_reducible refine (times_v p2 p3 Bal Bah Bfl Bfh).mono ?_)); rintro e v ⟨xp4, rfl, p4, hb⟩; (try (replace hb := bdrew hb)); clear A0 A1 E0 E1 B0 B1 F0 F1 S0 S1 C0 C1 U0 U1 U2 U3; have A := A.keep hb; have E := E.keep hb; have B := B.keep hb; have F := F.keep hb; have S := S.keep hb; have C := C.keep hb; have U := U.keep hb; have bU := bU.keep hb; have p0 := p0.keep hb; have p1 := p1.keep hb; have p2 := p2.keep hb; have p3 := p3.keep hb; have HB := Lib.hid (bstep HB.out hb); obtain ⟨A0, A1, -, -, -⟩ := id A; obtain ⟨E0, E1, -, -, -⟩ := id E; obtain ⟨B0, B1, -, -, -⟩ := id B; obtain ⟨F0, F1, -, -, -⟩ := id F; obtain ⟨S0, S1, -, -, -⟩ := id S; obtain ⟨C0, C1, -, -, -⟩ := id C; obtain ⟨U0, U1, U2, U3, -⟩ := id U; clear hb st; have st : Stg 5 := ⟨trivial⟩)
    | (go_at_call 30; (have ck : Stg 5 := st); clear ck; ((with_reducible refine (of_v Bel Beh _).mono ?_)); rintro e v ⟨xp5, rfl, p5, hb⟩; (try (replace hb := bdrew hb)); clear A0 A1 E0 E1 B0 B1 F0 F1 S0 S1 C0 C1 U0 U1 U2 U3; have A := A.keep hb; have E := E.keep hb; have B := B.keep hb; have F := F.keep hb; have S := S.keep hb; have C := C.keep hb; have U := U.keep hb; have bU := bU.keep hb; have p0 := p0.keep hb; have p1 := p1.keep hb; have p2 := p2.keep hb; have p3 := p3.keep hb; have p4 := p4.keep hb; have HB := Lib.hid (bstep HB.out hb); obtain ⟨A0, A1, -, -, -⟩ := id A; obtain ⟨E0, E1, -, -, -⟩ := id E; obtain ⟨B0, B1, -, -, -⟩ := id B; obtain ⟨F0, F1, -, -, -⟩ := id F; obtain ⟨S0, S1, -, -, -⟩ := id S; obtain ⟨C0, C1, -, -, -⟩ := id C; obtain ⟨U0, U1, U2, U3, -⟩ := id U; clear hb st; have st : Stg 6 := ⟨trivial⟩)
    | (go_at_call 30; (have ck : Stg 6 := st); clear ck; ((with_reducible refine (of_v Bbl Bbh _).mono ?_)); rintro e v ⟨xp6, rfl, p6, hb⟩; (try (replace hb := bdrew hb)); clear A0 A1 E0 E1 B0 B1 F0 F1 S0 S1 C0 C1 U0 U1 U2 U3; have A := A.keep hb; have E := E.keep hb; have B := B.keep hb; have F := F.keep hb; have S := S.keep hb; have C := C.keep hb; have U := U.keep hb; have bU := bU.keep hb; have p0 := p0.keep hb; have p1 := p1.keep hb; have p2 := p2.keep hb; have p3 := p3.keep hb; have p4 := p4.keep hb; have p5 := p5.keep hb; have HB := Lib.hid (bstep HB.out hb); obtain ⟨A0, A1, -, -, -⟩ := id A; obtain ⟨E0, E1, -, -, -⟩ := id E; obtain ⟨B0, B1, -, -, -⟩ := id B; obtain ⟨F0, F1, -, -, -⟩ := id F; obtain ⟨S0, S1, -, -, -⟩ := id S; obtain ⟨C0, C1, -, -, -⟩ := id C; obtain ⟨U0, U1, U2, U3, -⟩ := id U; clear hb st; have st : Stg 7 := ⟨trivial⟩)
    | (go_at_call 26; (have ck : Stg 7 := st); clear ck; ((with_reducible refine (times_v p5 p6 Bel Beh Bbl Bbh).mono ?_)); rintro e v ⟨xp7, rfl, p7, hb⟩; (try (replace hb := bdrew hb)); clear A0 A1 E0 E1 B0 B1 F0 F1 S0 S1 C0 C1 U0 U1 U2 U3; have A := A.keep hb; have E := E.keep hb; have B := B.keep hb; have F := F.keep hb; have S := S.keep hb; have C := C.keep hb; have U := U.keep hb; have bU := bU.keep hb; have p0 := p0.keep hb; have p1 := p1.keep hb; have p2 := p2.keep hb; have p3 := p3.keep hb; have p4 := p4.keep hb; have p5 := p5.keep hb; have p6 := p6.keep hb; have HB := Lib.hid (bstep HB.out hb); obtain ⟨A0, A1, -, -, -⟩ := id A; obtain ⟨E0, E1, -, -, -⟩ := id E; obtain ⟨B0, B1, -, -, -⟩ := id B; obtain ⟨F0, F1, -, -, -⟩ := id F; obtain ⟨S0, S1, -, -, -⟩ := id S; obtain ⟨C0, C1, -, -, -⟩ := id C; obtain ⟨U0, U1, U2, U3, -⟩ := id U; clear hb st; have st : Stg 8 := ⟨trivial⟩)
    | (go_at_call 29; (have ck : Stg 8 := st); clear ck; ((with_reducible refine (plus_v p4 p7 t2.1 t2.2 t3.1 t3.2).mono ?_)); rintro e v ⟨xp8, rfl, p8, hb⟩; (try (replace hb := bdrew hb)); clear A0 A1 E0 E1 B0 B1 F0 F1 S0 S1 C0 C1 U0 U1 U2 U3; have A := A.keep hb; have E := E.keep hb; have B := B.keep hb; have F := F.keep hb; have S := S.keep hb; have C := C.keep hb; have U := U.keep hb; have bU := bU.keep hb; have p0 := p0.keep hb; have p1 := p1.keep hb; have p2 := p2.keep hb; have p3 := p3.keep hb; have p4 := p4.keep hb; have p5 := p5.keep hb; have p6 := p6.keep hb; have p7 := p7.keep hb; have HB := Lib.hid (bstep HB.out hb); obtain ⟨A0, A1, -, -, -⟩ := id A; obtain ⟨E0, E1, -, -, -⟩ := id E; obtain ⟨B0, B1, -, -, -⟩ := id B; obtain ⟨F0, F1, -, -, -⟩ := id F; obtain ⟨S0, S1, -, -, -⟩ := id S; obtain ⟨C0, C1, -, -, -⟩ := id C; obtain ⟨U0, U1, U2, U3, -⟩ := id U; clear hb st; have st : Stg 9 := ⟨trivial⟩)
    | (go_at_call 28; (have ck : Stg 9 := st); clear ck; ((with_reducible refine (meet_v p1 p8 (by omega) q1 q2).mono ?_)); rintro e v ⟨rfl, hb⟩; (try (replace hb := bdrew hb)); clear A0 A1 E0 E1 B0 B1 F0 F1 S0 S1 C0 C1 U0 U1 U2 U3; have A := A.keep hb; have E := E.keep hb; have B := B.keep hb; have F := F.keep hb; have S := S.keep hb; have C := C.keep hb; have U := U.keep hb; have bU := bU.keep hb; have p0 := p0.keep hb; have p1 := p1.keep hb; have p2 := p2.keep hb; have p3 := p3.keep hb; have p4 := p4.keep hb; have p5 := p5.keep hb; have p6 := p6.keep hb; have p7 := p7.keep hb; have p8 := p8.keep hb; have HB := Lib.hid (bstep HB.out hb); obtain ⟨A0, A1, -, -, -⟩ := id A; obtain ⟨E0, E1, -, -, -⟩ := id E; obtain ⟨B0, B1, -, -, -⟩ := id B; obtain ⟨F0, F1, -, -, -⟩ := id F; obtain ⟨S0, S1, -, -, -⟩ := id S; obtain ⟨C0, C1, -, -, -⟩ := id C; obtain ⟨U0, U1, U2, U3, -⟩ := id U; clear hb st; have st : Stg 10 := ⟨trivial⟩)
    | (go_at_call 30; (have ck : Stg 10 := st); clear ck; ((with_reducible refine (of_v Bcl Bch _).mono ?_)); rintro e v ⟨xq5, rfl, q5, hb⟩; (try (replace hb := bdrew hb)); clear A0 A1 E0 E1 B0 B1 F0 F1 S0 S1 C0 C1 U0 U1 U2 U3; have A := A.keep hb; have E := E.keep hb; have B := B.keep hb; have F := F.keep hb; have S := S.keep hb; have C := C.keep hb; have U := U.keep hb; have bU := bU.keep hb; have p0 := p0.keep hb; have p1 := p1.keep hb; have p2 := p2.keep hb; have p3 := p3.keep hb; have p4 := p4.keep hb; have p5 := p5.keep hb; have p6 := p6.keep hb; have p7 := p7.keep hb; have p8 := p8.keep hb; have HB := Lib.hid (bstep HB.out hb); obtain ⟨A0, A1, -, -, -⟩ := id A; obtain ⟨E0, E1, -, -, -⟩ := id E; obtain ⟨B0, B1, -, -, -⟩ := id B; obtain ⟨F0, F1, -, -, -⟩ := id F; obtain ⟨S0, S1, -, -, -⟩ := id S; obtain ⟨C0, C1, -, -, -⟩ := id C; obtain ⟨U0, U1, U2, U3, -⟩ := id U; clear hb st; have st : Stg 11 := ⟨trivial⟩)
    | (go_at_call 26; (have ck : Stg 11 := st); clear ck; ((with_reducible refine (times_v q5 bU Bcl Bch BO BO).mono ?_)); rintro e v ⟨xq6, rfl, q6, hb⟩; (try (replace hb := bdrew hb)); clear A0 A1 E0 E1 B0 B1 F0 F1 S0 S1 C0 C1 U0 U1 U2 U3; have A := A.keep hb; have E := E.keep hb; have B := B.keep hb; have F := F.keep hb; have S := S.keep hb; have C := C.keep hb; have U := U.keep hb; have bU := bU.keep hb; have p0 := p0.keep hb; have p1 := p1.keep hb; have p2 := p2.keep hb; have p3 := p3.keep hb; have p4 := p4.keep hb; have p5 := p5.keep hb; have p6 := p6.keep hb; have p7 := p7.keep hb; have p8 := p8.keep hb; have q5 := q5.keep hb; have HB := Lib.hid (bstep HB.out hb); obtain ⟨A0, A1, -, -, -⟩ := id A; obtain ⟨E0, E1, -, -, -⟩ := id E; obtain ⟨B0, B1, -, -, -⟩ := id B; obtain ⟨F0, F1, -, -, -⟩ := id F; obtain ⟨S0, S1, -, -, -⟩ := id S; obtain ⟨C0, C1, -, -, -⟩ := id C; obtain ⟨U0, U1, U2, U3, -⟩ := id U; clear hb st; have st : Stg 12 := ⟨trivial⟩)
    | (go_at_call 30; (have ck : Stg 12 := st); clear ck; ((with_reducible refine (of_v Bel Beh _).mono ?_)); rintro e v ⟨xq7, rfl, q7, hb⟩; (try (replace hb := bdrew hb)); clear A0 A1 E0 E1 B0 B1 F0 F1 S0 S1 C0 C1 U0 U1 U2 U3; have A := A.keep hb; have E := E.keep hb; have B := B.keep hb; have F := F.keep hb; have S := S.keep hb; have C := C.keep hb; have U := U.keep hb; have bU := bU.keep hb; have p0 := p0.keep hb; have p1 := p1.keep hb; have p2 := p2.keep hb; have p3 := p3.keep hb; have p4 := p4.keep hb; have p5 := p5.keep hb; have p6 := p6.keep hb; have p7 := p7.keep hb; have p8 := p8.keep hb; have q5 := q5.keep hb; have q6 := q6.keep hb; have HB := Lib.hid (bstep HB.out hb); obtain ⟨A0, A1, -, -, -⟩ := id A; obtain ⟨E0, E1, -, -, -⟩ := id E; obtain ⟨B0, B1, -, -, -⟩ := id B; obtain ⟨F0, F1, -, -, -⟩ := id F; obtain ⟨S0, S1, -, -, -⟩ := id S; obtain ⟨C0, C1, -, -, -⟩ := id C; obtain ⟨U0, U1, U2, U3, -⟩ := id U; clear hb st; have st : Stg 13 := ⟨trivial⟩)
    | (go_at_call 30; (have ck : Stg 13 := st); clear ck; ((with_reducible refine (of_v Bfl Bfh _).mono ?_)); rintro e v ⟨xq8, rfl, q8, hb⟩; (try (replace hb := bdrew hb)); clear A0 A1 E0 E1 B0 B1 F0 F1 S0 S1 C0 C1 U0 U1 U2 U3; have A := A.keep hb; have E := E.keep hb; have B := B.keep hb; have F := F.keep hb; have S := S.keep hb; have C := C.keep hb; have U := U.keep hb; have bU := bU.keep hb; have p0 := p0.keep hb; have p1 := p1.keep hb; have p2 := p2.keep hb; have p3 := p3.keep hb; have p4 := p4.keep hb; have p5 := p5.keep hb; have p6 := p6.keep hb; have p7 := p7.keep hb; have p8 := p8.keep hb; have q5 := q5.keep hb; have q6 := q6.keep hb; have q7 := q7.keep hb; have HB := Lib.hid (bstep HB.out hb); obtain ⟨A0, A1, -, -, -⟩ := id A; obtain ⟨E0, E1, -, -, -⟩ := id E; obtain ⟨B0, B1, -, -, -⟩ := id B; obtain ⟨F0, F1, -, -, -⟩ := id F; obtain ⟨S0, S1, -, -, -⟩ := id S; obtain ⟨C0, C1, -, -, -⟩ := id C; obtain ⟨U0, U1, U2, U3, -⟩ := id U; clear hb st; have st : Stg 14 := ⟨trivial⟩)
    | (go_at_call 26; (have ck : Stg 14 := st); clear ck; ((with_reducible refine (times_v q7 q8 Bel Beh Bfl Bfh).mono ?_)); rintro e v ⟨xq9, rfl, q9, hb⟩; (try (replace hb := bdrew hb)); clear A0 A1 E0 E1 B0 B1 F0 F1 S0 S1 C0 C1 U0 U1 U2 U3; have A := A.keep hb; have E := E.keep hb; have B := B.keep hb; have F := F.keep hb; have S := S.keep hb; have C := C.keep hb; have U := U.keep hb; have bU := bU.keep hb; have p0 := p0.keep hb; have p1 := p1.keep hb; have p2 := p2.keep hb; have p3 := p3.keep hb; have p4 := p4.keep hb; have p5 := p5.keep hb; have p6 := p6.keep hb; have p7 := p7.keep hb; have p8 := p8.keep hb; have q5 := q5.keep hb; have q6 := q6.keep hb; have q7 := q7.keep hb; have q8 := q8.keep hb; have HB := Lib.hid (bstep HB.out hb); obtain ⟨A0, A1, -, -, -⟩ := id A; obtain ⟨E0, E1, -, -, -⟩ := id E; obtain ⟨B0, B1, -, -, -⟩ := id B; obtain ⟨F0, F1, -, -, -⟩ := id F; obtain ⟨S0, S1, -, -, -⟩ := id S; obtain ⟨C0, C1, -, -, -⟩ := id C; obtain ⟨U0, U1, U2, U3, -⟩ := id U; clear hb st; have st : Stg 15 := ⟨trivial⟩)
    | (go_at_call 30; (have ck : Stg 15 := st); clear ck; ((with_reducible refine (of_v Bal Bah _).mono ?_)); rintro e v ⟨xr0, rfl, r0, hb⟩; (try (replace hb := bdrew hb)); clear A0 A1 E0 E1 B0 B1 F0 F1 S0 S1 C0 C1 U0 U1 U2 U3; have A := A.keep hb; have E := E.keep hb; have B := B.keep hb; have F := F.keep hb; have S := S.keep hb; have C := C.keep hb; have U := U.keep hb; have bU := bU.keep hb; have p0 := p0.keep hb; have p1 := p1.keep hb; have p2 := p2.keep hb; have p3 := p3.keep hb; have p4 := p4.keep hb; have p5 := p5.keep hb; have p6 := p6.keep hb; have p7 := p7.keep hb; have p8 := p8.keep hb; have q5 := q5.keep hb; have q6 := q6.keep hb; have q7 := q7.keep hb; have q8 := q8.keep hb; have q9 := q9.keep hb; have HB := Lib.hid (bstep HB.out hb); obtain ⟨A0, A1, -, -, -⟩ := id A; obtain ⟨E0, E1, -, -, -⟩ := id E; obtain ⟨B0, B1, -, -, -⟩ := id B; obtain ⟨F0, F1, -, -, -⟩ := id F; obtain ⟨S0, S1, -, -, -⟩ := id S; obtain ⟨C0, C1, -, -, -⟩ := id C; obtain ⟨U0, U1, U2, U3, -⟩ := id U; clear hb st; have st : Stg 16 := ⟨trivial⟩)
    | (go_at_call 30; (have ck : Stg 16 := st); clear ck; ((with_reducible refine (of_v Bbl Bbh _).mono ?_)); rintro e v ⟨xr1, rfl, r1, hb⟩; (try (replace hb := bdrew hb)); clear A0 A1 E0 E1 B0 B1 F0 F1 S0 S1 C0 C1 U0 U1 U2 U3; have A := A.keep hb; have E := E.keep hb; have B := B.keep hb; have F := F.keep hb; have S := S.keep hb; have C := C.keep hb; have U := U.keep hb; have bU := bU.keep hb; have p0 := p0.keep hb; have p1 := p1.keep hb; have p2 := p2.keep hb; have p3 := p3.keep hb; have p4 := p4.keep hb; have p5 := p5.keep hb; have p6 := p6.keep hb; have p7 := p7.keep hb; have p8 := p8.keep hb; have q5 := q5.keep hb; have q6 := q6.keep hb; have q7 := q7.keep hb; have q8 := q8.keep hb; have q9 := q9.keep hb; have r0 := r0.keep hb; have HB := Lib.hid (bstep HB.out hb); obtain ⟨A0, A1, -, -, -⟩ := id A; obtain ⟨E0, E1, -, -, -⟩ := id E; obtain ⟨B0, B1, -, -, -⟩ := id B; obtain ⟨F0, F1, -, -, -⟩ := id F; obtain ⟨S0, S1, -, -, -⟩ := id S; obtain ⟨C0, C1, -, -, -⟩ := id C; obtain ⟨U0, U1, U2, U3, -⟩ := id U; clear hb st; have st : Stg 17 := ⟨trivial⟩)
    | (go_at_call 26; (have ck : Stg 17 := st); clear ck; ((with_reducible refine (times_v r0 r1 Bal Bah Bbl Bbh).mono ?_)); rintro e v ⟨xr2, rfl, r2, hb⟩; (try (replace hb := bdrew hb)); clear A0 A1 E0 E1 B0 B1 F0 F1 S0 S1 C0 C1 U0 U1 U2 U3; have A := A.keep hb; have E := E.keep hb; have B := B.keep hb; have F := F.keep hb; have S := S.keep hb; have C := C.keep hb; have U := U.keep hb; have bU := bU.keep hb; have p0 := p0.keep hb; have p1 := p1.keep hb; have p2 := p2.keep hb; have p3 := p3.keep hb; have p4 := p4.keep hb; have p5 := p5.keep hb; have p6 := p6.keep hb; have p7 := p7.keep hb; have p8 := p8.keep hb; have q5 := q5.keep hb; have q6 := q6.keep hb; have q7 := q7.keep hb; have q8 := q8.keep hb; have q9 := q9.keep hb; have r0 := r0.keep hb; have r1 := r1.keep hb; have HB := Lib.hid (bstep HB.out hb); obtain ⟨A0, A1, -, -, -⟩ := id A; obtain ⟨E0, E1, -, -, -⟩ := id E; obtain ⟨B0, B1, -, -, -⟩ := id B; obtain ⟨F0, F1, -, -, -⟩ := id F; obtain ⟨S0, S1, -, -, -⟩ := id S; obtain ⟨C0, C1, -, -, -⟩ := id C; obtain ⟨U0, U1, U2, U3, -⟩ := id U; clear hb st; have st : Stg 18 := ⟨trivial⟩)
    | (go_at_call 31; (have ck : Stg 18 := st); clear ck; ((with_reducible refine (minus_v q9 r2 t5.1 t5.2 t6.1 t6.2).mono ?_)); rintro e v ⟨xr3, rfl, r3, hb⟩; (try (replace hb := bdrew hb)); clear A0 A1 E0 E1 B0 B1 F0 F1 S0 S1 C0 C1 U0 U1 U2 U3; have A := A.keep hb; have E := E.keep hb; have B := B.keep hb; have F := F.keep hb; have S := S.keep hb; have C := C.keep hb; have U := U.keep hb; have bU := bU.keep hb; have p0 := p0.keep hb; have p1 := p1.keep hb; have p2 := p2.keep hb; have p3 := p3.keep hb; have p4 := p4.keep hb; have p5 := p5.keep hb; have p6 := p6.keep hb; have p7 := p7.keep hb; have p8 := p8.keep hb; have q5 := q5.keep hb; have q6 := q6.keep hb; have q7 := q7.keep hb; have q8 := q8.keep hb; have q9 := q9.keep hb; have r0 := r0.keep hb; have r1 := r1.keep hb; have r2 := r2.keep hb; have HB := Lib.hid (bstep HB.out hb); obtain ⟨A0, A1, -, -, -⟩ := id A; obtain ⟨E0, E1, -, -, -⟩ := id E; obtain ⟨B0, B1, -, -, -⟩ := id B; obtain ⟨F0, F1, -, -, -⟩ := id F; obtain ⟨S0, S1, -, -, -⟩ := id S; obtain ⟨C0, C1, -, -, -⟩ := id C; obtain ⟨U0, U1, U2, U3, -⟩ := id U; clear hb st; have st : Stg 19 := ⟨trivial⟩)
    | (go_at_call 28; (have ck : Stg 19 := st); clear ck; ((with_reducible refine (meet_v q6 r3 (by omega) q3 q4).mono ?_)); rintro e v ⟨rfl, hb⟩; (try (replace hb := bdrew hb)); clear A0 A1 E0 E1 B0 B1 F0 F1 S0 S1 C0 C1 U0 U1 U2 U3; have A := A.keep hb; have E := E.keep hb; have B := B.keep hb; have F := F.keep hb; have S := S.keep hb; have C := C.keep hb; have U := U.keep hb; have bU := bU.keep hb; have p0 := p0.keep hb; have p1 := p1.keep hb; have p2 := p2.keep hb; have p3 := p3.keep hb; have p4 := p4.keep hb; have p5 := p5.keep hb; have p6 := p6.keep hb; have p7 := p7.keep hb; have p8 := p8.keep hb; have q5 := q5.keep hb; have q6 := q6.keep hb; have q7 := q7.keep hb; have q8 := q8.keep hb; have q9 := q9.keep hb; have r0 := r0.keep hb; have r1 := r1.keep hb; have r2 := r2.keep hb; have r3 := r3.keep hb; have HB := Lib.hid (bstep HB.out hb); obtain ⟨A0, A1, -, -, -⟩ := id A; obtain ⟨E0, E1, -, -, -⟩ := id E; obtain ⟨B0, B1, -, -, -⟩ := id B; obtain ⟨F0, F1, -, -, -⟩ := id F; obtain ⟨S0, S1, -, -, -⟩ := id S; obtain ⟨C0, C1, -, -, -⟩ := id C; obtain ⟨U0, U1, U2, U3, -⟩ := id U; clear hb st; have st : Stg 20 := ⟨trivial⟩))
  go_wp2_with fail
  go_ret
  exact ⟨rfl, HB.out⟩
theorem sums_o1 (w : World) (P : TrProg w) (a b : Int) (h : a < -274877906944) :
    Calls Tryd.prog 10 #[.int .i64 a, .int .i64 b] w fun e w' => e = .returned (.bool true) ∧ Below w.heap.size w w' := by
  have C0 := Lib.hid (fun wx (hb : Below w.heap.size w wx) => awake_any w P wx hb)
  go_enter Tryd.func10, Tryd.ntmps10
  go_wp2_with fail
  refine (C0.out _ (Below.refl _ _)).mono ?_
  rintro e w1 ⟨rfl, hb⟩
  go_wp2_with fail
  go_ret
  exact ⟨rfl, hb⟩
theorem sums_o2 (w : World) (P : TrProg w) (a b : Int) (h : ¬ a < -274877906944) (k : a > 274877906944) :
    Calls Tryd.prog 10 #[.int .i64 a, .int .i64 b] w fun e w' => e = .returned (.bool true) ∧ Below w.heap.size w w' := by
  have C0 := Lib.hid (fun wx (hb : Below w.heap.size w wx) => awake_any w P wx hb)
  go_enter Tryd.func10, Tryd.ntmps10
  go_wp2_with fail
  refine (C0.out _ (Below.refl _ _)).mono ?_
  rintro e w1 ⟨rfl, hb⟩
  go_wp2_with fail
  go_ret
  exact ⟨rfl, hb⟩
theorem sums_o3 (w : World) (P : TrProg w) (a b : Int) (h : ¬ a < -274877906944) (k : ¬ a > 274877906944) (i : b < -274877906944) :
    Calls Tryd.prog 10 #[.int .i64 a, .int .i64 b] w fun e w' => e = .returned (.bool true) ∧ Below w.heap.size w w' := by
  have C0 := Lib.hid (fun wx (hb : Below w.heap.size w wx) => awake_any w P wx hb)
  go_enter Tryd.func10, Tryd.ntmps10
  go_wp2_with fail
  refine (C0.out _ (Below.refl _ _)).mono ?_
  rintro e w1 ⟨rfl, hb⟩
  go_wp2_with fail
  go_ret
  exact ⟨rfl, hb⟩
theorem sums_o4 (w : World) (P : TrProg w) (a b : Int) (h : ¬ a < -274877906944) (k : ¬ a > 274877906944) (i : ¬ b < -274877906944) (j : b > 274877906944) :
    Calls Tryd.prog 10 #[.int .i64 a, .int .i64 b] w fun e w' => e = .returned (.bool true) ∧ Below w.heap.size w w' := by
  have C0 := Lib.hid (fun wx (hb : Below w.heap.size w wx) => awake_any w P wx hb)
  go_enter Tryd.func10, Tryd.ntmps10
  go_wp2_with fail
  refine (C0.out _ (Below.refl _ _)).mono ?_
  rintro e w1 ⟨rfl, hb⟩
  go_wp2_with fail
  go_ret
  exact ⟨rfl, hb⟩
theorem sums_walk (w : World) (P : TrProg w) (a b : Int) (ha : I64 a) (hb : I64 b) :
    Calls Tryd.prog 10 #[.int .i64 a, .int .i64 b] w fun e w' => e = .returned (.bool true) ∧ Below w.heap.size w w' := by
  by_cases c1 : a < -274877906944
  · exact sums_o1 w P a b c1
  · by_cases c2 : a > 274877906944
    · exact sums_o2 w P a b c1 c2
    · by_cases c3 : b < -274877906944
      · exact sums_o3 w P a b c1 c2 c3
      · by_cases c4 : b > 274877906944
        · exact sums_o4 w P a b c1 c2 c3 c4
        · have ok : ∀ n, -600000000000 ≤ n → n ≤ 600000000000 → L6.Ok n := fun n h1 h2 => by unfold L6.Ok; omega
          obtain ⟨x1, x2⟩ := b31_lo a
          obtain ⟨x3, x4⟩ := b31_lo (a + 5400000)
          obtain ⟨x5, x6⟩ := b31_lo b
          obtain ⟨x7, x8⟩ := b31_lo (b + 5400000)
          obtain ⟨x9, xa⟩ := b31_lo (a + b)
          obtain ⟨xb, xc⟩ := b31_lo (a + b + 5400000)
          obtain ⟨q1, q2⟩ := sums_sin a b (ok _ (by omega) (by omega)) (ok _ (by omega) (by omega)) (ok _ (by omega) (by omega)) (ok _ (by omega) (by omega)) (ok _ (by omega) (by omega))
          obtain ⟨q3, q4⟩ := sums_cos a b (ok _ (by omega) (by omega)) (ok _ (by omega) (by omega)) (ok _ (by omega) (by omega)) (ok _ (by omega) (by omega)) (ok _ (by omega) (by omega))
          obtain ⟨e1, e2⟩ := mul_one' (L6.lo (a + b)) (L6.hi (a + b)) (lo_in _).2.1
          obtain ⟨e3, e4⟩ := mul_one' (L6.lo (a + b + 5400000)) (L6.hi (a + b + 5400000)) (lo_in _).2.1
          exact sums_in w a b (a + b) _ _ _ _ _ _ _ _ _ _ _ _ (by omega) (by omega) (by omega) (by omega) rfl x1 x2 x3 x4 x5 x6 x7 x8 x9 xa xb xc (fun wx hb => awake_any w P wx hb)
            (tell_sin w P a ⟨by omega, by omega⟩) (tell_cos w P a ⟨by omega, by omega⟩) (tell_sin w P b ⟨by omega, by omega⟩) (tell_cos w P b ⟨by omega, by omega⟩) (tell_sin w P (a + b) ⟨by omega, by omega⟩) (tell_cos w P (a + b) ⟨by omega, by omega⟩)
            (by rw [e1]; exact q1) (by rw [e2]; exact q2) (by rw [e3]; exact q3) (by rw [e4]; exact q4)
end Go.Proofs.YtglmkpnnbgkndaaDoor
