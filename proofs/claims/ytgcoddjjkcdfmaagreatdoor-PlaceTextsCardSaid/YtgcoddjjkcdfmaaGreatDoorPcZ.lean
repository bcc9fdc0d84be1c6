/- Place: contracts of the program's reading of points. -/
import Derived.Test.YtgcoddjjkcdfmaaGreatDoorPcY
import Derived.Test.YtgcoddjjkcdfmaaGreatDoorAnPa
namespace Go.Proofs.YtgcoddjjkcdfmaaGreatDoor
open Go.RowKit
set_option linter.unusedVariables false
set_option maxRecDepth 100000

theorem hasPre (l : List UInt8) : Lib.hasPrefix l [45] = decide (l.head? = some 45) := by
  cases l with
  | nil => rfl
  | cons c r =>
    unfold Lib.hasPrefix
    by_cases h : c = 45
    · subst h; rfl
    · rw [List.head?_cons, decide_eq_false (by simpa using h)]
      simp [List.isPrefixOf]
      exact fun k => h k.symm
theorem pre_any (s : ByteArray) (w : World) :
    Calls Tryz.prog 34 #[.string s, .string ⟨#[45]⟩] w fun e w' => e = .returned (.bool (decide (s.data.toList.head? = some 45))) ∧ w' = w := by
  have C := Tryz.strings_HasPrefix s ⟨#[45]⟩ w
  rw [show (⟨#[45]⟩ : ByteArray).data.toList = [45] from rfl, hasPre] at C
  exact C
theorem ext_last (v : List UInt8) (c : UInt8) : (ba (v ++ [c])).extract v.length (v.length + 1) = ⟨#[c]⟩ := by
  apply ByteArray.ext
  simp [ba]
theorem ext_init (v : List UInt8) (c : UInt8) : (ba (v ++ [c])).extract 0 v.length = ba v := by
  apply ByteArray.ext
  simp [ba]
theorem co_nil (p m : UInt8) (w : World) :
    Calls Tryz.prog 20 #[.string ⟨#[]⟩, .string ⟨#[p, m]⟩] w fun e w' => e = .returned (.tuple #[.int .i64 0, .int .i64 7]) ∧ Below w.heap.size w w' := by
  have hmx : max (0 : Int) (-1) = 0 := by decide
  have hl1 : (⟨#[p, m]⟩ : ByteArray).extract 0 1 = ⟨#[p]⟩ := rfl
  have hl2 : (⟨#[p, m]⟩ : ByteArray).extract 1 2 = ⟨#[m]⟩ := rfl
  have hx : (⟨#[]⟩ : ByteArray).extract 0 0 = ⟨#[]⟩ := rfl
  go_enter Tryz.func20, Tryz.ntmps20
  go_wp2_with fail
  go_ret2
  exact ⟨rfl, Below.refl _ _⟩
theorem co_other (s T : ByteArray) (n : Nat) (c p m : UInt8) (V E : Int) (w : World) (hs : s.size = n + 1) (hn : n ≤ 900) (hx : s.extract n s.size = ⟨#[c]⟩) (hy : s.extract 0 n = T) (hp : ¬ c = p) (hc : ¬ c = m) :
    Calls Tryz.prog 20 #[.string s, .string ⟨#[p, m]⟩] w fun e w' => e = .returned (.tuple #[.int .i64 (0), .int .i64 (7)]) ∧ Below w.heap.size w w' := by
  have hl1 : (⟨#[p, m]⟩ : ByteArray).extract 0 1 = ⟨#[p]⟩ := rfl
  have hl2 : (⟨#[p, m]⟩ : ByteArray).extract 1 2 = ⟨#[m]⟩ := rfl
  have hz : (s.size : Int) = (n : Int) + 1 := by omega
  have hmx : max (0 : Int) ((s.size : Int) - 1) = (n : Int) := by omega
  have hmy : max (0 : Int) (n : Int) = (n : Int) := by omega
  have hle : (n : Int) ≤ (s.size : Int) := by omega
  have hx2 : s.extract n (n + 1) = ⟨#[c]⟩ := by rw [← hs]; exact hx
  have b1 : (c == p) = false := beq_eq_false_iff_ne.2 hp
  have b2 : (c == m) = false := beq_eq_false_iff_ne.2 hc
  go_enter Tryz.func20, Tryz.ntmps20
  go_wp2_with fail
  go_ret2
  exact ⟨rfl, Below.refl _ _⟩
theorem co_pre1 (s T : ByteArray) (n : Nat) (c p m : UInt8) (V E : Int) (w : World) (hs : s.size = n + 1) (hn : n ≤ 900) (hx : s.extract n s.size = ⟨#[c]⟩) (hy : s.extract 0 n = T) (hc : c = p) (C1 : Hid (∀ wx, Calls Tryz.prog 34 #[.string s, .string ⟨#[45]⟩] wx fun e w' => e = .returned (.bool true) ∧ w' = wx)) :
    Calls Tryz.prog 20 #[.string s, .string ⟨#[p, m]⟩] w fun e w' => e = .returned (.tuple #[.int .i64 (0), .int .i64 (7)]) ∧ Below w.heap.size w w' := by
  have hl1 : (⟨#[p, m]⟩ : ByteArray).extract 0 1 = ⟨#[p]⟩ := rfl
  have hl2 : (⟨#[p, m]⟩ : ByteArray).extract 1 2 = ⟨#[m]⟩ := rfl
  have hz : (s.size : Int) = (n : Int) + 1 := by omega
  have hmx : max (0 : Int) ((s.size : Int) - 1) = (n : Int) := by omega
  have hmy : max (0 : Int) (n : Int) = (n : Int) := by omega
  have hle : (n : Int) ≤ (s.size : Int) := by omega
  have hx2 : s.extract n (n + 1) = ⟨#[c]⟩ := by rw [← hs]; exact hx
  have b1 : (c == p) = true := beq_iff_eq.2 hc
  subst hc
  go_enter Tryz.func20, Tryz.ntmps20
  go_wp2_with fail
  refine (C1.out _).mono ?_
  rintro e wz ⟨rfl, rfl⟩
  go_wp2_with fail
  go_ret2
  exact ⟨rfl, Below.refl _ _⟩
theorem co_pre2 (s T : ByteArray) (n : Nat) (c p m : UInt8) (V E : Int) (w : World) (hs : s.size = n + 1) (hn : n ≤ 900) (hx : s.extract n s.size = ⟨#[c]⟩) (hy : s.extract 0 n = T) (hp : ¬ c = p) (hc : c = m) (C1 : Hid (∀ wx, Calls Tryz.prog 34 #[.string s, .string ⟨#[45]⟩] wx fun e w' => e = .returned (.bool true) ∧ w' = wx)) :
    Calls Tryz.prog 20 #[.string s, .string ⟨#[p, m]⟩] w fun e w' => e = .returned (.tuple #[.int .i64 (0), .int .i64 (7)]) ∧ Below w.heap.size w w' := by
  have hl1 : (⟨#[p, m]⟩ : ByteArray).extract 0 1 = ⟨#[p]⟩ := rfl
  have hl2 : (⟨#[p, m]⟩ : ByteArray).extract 1 2 = ⟨#[m]⟩ := rfl
  have hz : (s.size : Int) = (n : Int) + 1 := by omega
  have hmx : max (0 : Int) ((s.size : Int) - 1) = (n : Int) := by omega
  have hmy : max (0 : Int) (n : Int) = (n : Int) := by omega
  have hle : (n : Int) ≤ (s.size : Int) := by omega
  have hx2 : s.extract n (n + 1) = ⟨#[c]⟩ := by rw [← hs]; exact hx
  have b1 : (c == p) = false := beq_eq_false_iff_ne.2 hp
  have b2 : (c == m) = true := beq_iff_eq.2 hc
  subst hc
  go_enter Tryz.func20, Tryz.ntmps20
  go_wp2_with fail
  refine (C1.out _).mono ?_
  rintro e wz ⟨rfl, rfl⟩
  go_wp2_with fail
  go_ret2
  exact ⟨rfl, Below.refl _ _⟩
theorem co_plus (s T : ByteArray) (n : Nat) (c p m : UInt8) (V E : Int) (w : World) (hs : s.size = n + 1) (hn : n ≤ 900) (hx : s.extract n s.size = ⟨#[c]⟩) (hy : s.extract 0 n = T) (hc : c = p) (C1 : Hid (∀ wx, Calls Tryz.prog 34 #[.string s, .string ⟨#[45]⟩] wx fun e w' => e = .returned (.bool false) ∧ w' = wx)) (C2 : Hid (∀ wx, Below w.heap.size w wx → Calls Tryz.prog 35 #[.string T] wx fun e w' => e = .returned (.tuple #[.int .i64 V, .int .i64 E]) ∧ Below wx.heap.size wx w')) (v1 : -1099511627776 ≤ V) (v2 : V ≤ 1099511627776) :
    Calls Tryz.prog 20 #[.string s, .string ⟨#[p, m]⟩] w fun e w' => e = .returned (.tuple #[.int .i64 (V), .int .i64 (E)]) ∧ Below w.heap.size w w' := by
  have hl1 : (⟨#[p, m]⟩ : ByteArray).extract 0 1 = ⟨#[p]⟩ := rfl
  have hl2 : (⟨#[p, m]⟩ : ByteArray).extract 1 2 = ⟨#[m]⟩ := rfl
  have hz : (s.size : Int) = (n : Int) + 1 := by omega
  have hmx : max (0 : Int) ((s.size : Int) - 1) = (n : Int) := by omega
  have hmy : max (0 : Int) (n : Int) = (n : Int) := by omega
  have hle : (n : Int) ≤ (s.size : Int) := by omega
  have hx2 : s.extract n (n + 1) = ⟨#[c]⟩ := by rw [← hs]; exact hx
  have b1 : (c == p) = true := beq_iff_eq.2 hc
  subst hc
  go_enter Tryz.func20, Tryz.ntmps20
  go_wp2_with fail
  refine (C1.out _).mono ?_
  rintro e wz ⟨rfl, rfl⟩
  go_wp2_with fail
  refine (C2.out _ (Below.refl _ _)).mono ?_
  rintro e w1 ⟨rfl, hb⟩
  go_wp2_with fail
  go_ret2
  exact ⟨rfl, hb⟩
theorem co_minus (s T : ByteArray) (n : Nat) (c p m : UInt8) (V E : Int) (w : World) (hs : s.size = n + 1) (hn : n ≤ 900) (hx : s.extract n s.size = ⟨#[c]⟩) (hy : s.extract 0 n = T) (hp : ¬ c = p) (hc : c = m) (C1 : Hid (∀ wx, Calls Tryz.prog 34 #[.string s, .string ⟨#[45]⟩] wx fun e w' => e = .returned (.bool false) ∧ w' = wx)) (C2 : Hid (∀ wx, Below w.heap.size w wx → Calls Tryz.prog 35 #[.string T] wx fun e w' => e = .returned (.tuple #[.int .i64 V, .int .i64 E]) ∧ Below wx.heap.size wx w')) (v1 : -1099511627776 ≤ V) (v2 : V ≤ 1099511627776) :
    Calls Tryz.prog 20 #[.string s, .string ⟨#[p, m]⟩] w fun e w' => e = .returned (.tuple #[.int .i64 (-V), .int .i64 (E)]) ∧ Below w.heap.size w w' := by
  have hl1 : (⟨#[p, m]⟩ : ByteArray).extract 0 1 = ⟨#[p]⟩ := rfl
  have hl2 : (⟨#[p, m]⟩ : ByteArray).extract 1 2 = ⟨#[m]⟩ := rfl
  have hz : (s.size : Int) = (n : Int) + 1 := by omega
  have hmx : max (0 : Int) ((s.size : Int) - 1) = (n : Int) := by omega
  have hmy : max (0 : Int) (n : Int) = (n : Int) := by omega
  have hle : (n : Int) ≤ (s.size : Int) := by omega
  have hx2 : s.extract n (n + 1) = ⟨#[c]⟩ := by rw [← hs]; exact hx
  have b1 : (c == p) = false := beq_eq_false_iff_ne.2 hp
  have b2 : (c == m) = true := beq_iff_eq.2 hc
  subst hc
  go_enter Tryz.func20, Tryz.ntmps20
  go_wp2_with fail
  refine (C1.out _).mono ?_
  rintro e wz ⟨rfl, rfl⟩
  go_wp2_with fail
  refine (C2.out _ (Below.refl _ _)).mono ?_
  rintro e w1 ⟨rfl, hb⟩
  go_wp2_with fail
  go_ret2
  exact ⟨rfl, hb⟩
theorem pParseCo (u : List UInt8) (p m : UInt8) (hpm : p ≠ m) (w : World) (hl : u.length ≤ 900) (hm : HasMax w) (he : HasErr w) :
    Calls Tryz.prog 20 #[.string (ba u), .string ⟨#[p, m]⟩] w fun e w' => e = .returned (.tuple #[.int .i64 (coV u p m), .int .i64 (coE u p m)]) ∧ Below w.heap.size w w' := by
  rcases List.eq_nil_or_concat u with rfl | ⟨v, c, rfl⟩
  · exact co_nil p m w
  · simp only [List.concat_eq_append] at hl ⊢
    have hlen : v.length ≤ 900 := by simp at hl; omega
    have hs : (ba (v ++ [c])).size = v.length + 1 := by rw [ba_size]; simp
    have hx : (ba (v ++ [c])).extract v.length (ba (v ++ [c])).size = ⟨#[c]⟩ := by rw [hs]; exact ext_last v c
    have hy := ext_init v c
    have gl : (v ++ [c]).getLast? = some c := by simp
    have dl : (v ++ [c]).dropLast = v := by simp
    have C1 := Lib.hid (fun wx => pre_any (ba (v ++ [c])) wx)
    rw [ba_list] at C1
    have C2 := Lib.hid (fun wx (hb : Below w.heap.size w wx) => pParse (ba v) wx (by rw [ba_size]; omega) (hm.below hb) (he.below hb))
    rw [ba_list] at C2
    have vb := paV_bd v
    have cE : coE (v ++ [c]) p m = if c = p ∨ c = m then (if (v ++ [c]).head? = some 45 then 7 else paE v) else 7 := by
      unfold coE
      rw [gl, dl]
      simp only [Option.some.injEq]
    have cV : coV (v ++ [c]) p m = if c = p ∨ c = m then (if (v ++ [c]).head? = some 45 then 0 else if c = p then paV v else -paV v) else 0 := by
      unfold coV
      rw [gl, dl]
      simp only [Option.some.injEq]
    by_cases hp : c = p
    · rw [if_pos (Or.inl hp)] at cE cV
      by_cases hh : (v ++ [c]).head? = some 45
      · rw [if_pos hh] at cE cV
        rw [cE, cV]
        rw [decide_eq_true hh] at C1
        exact co_pre1 _ (ba v) v.length c p m 0 0 w hs hlen hx hy hp C1
      · rw [if_neg hh] at cE cV
        rw [if_pos hp] at cV
        rw [cE, cV]
        rw [decide_eq_false hh] at C1
        exact co_plus _ (ba v) v.length c p m _ _ w hs hlen hx hy hp C1 C2 vb.1 vb.2
    · by_cases hc : c = m
      · rw [if_pos (Or.inr hc)] at cE cV
        by_cases hh : (v ++ [c]).head? = some 45
        · rw [if_pos hh] at cE cV
          rw [cE, cV]
          rw [decide_eq_true hh] at C1
          exact co_pre2 _ (ba v) v.length c p m 0 0 w hs hlen hx hy hp hc C1
        · rw [if_neg hh] at cE cV
          rw [if_neg hp] at cV
          rw [cE, cV]
          rw [decide_eq_false hh] at C1
          exact co_minus _ (ba v) v.length c p m _ _ w hs hlen hx hy hp hc C1 C2 vb.1 vb.2
      · rw [if_neg (fun q => q.elim hp hc)] at cE cV
        rw [cE, cV]
        exact co_other _ (ba v) v.length c p m 0 0 w hs hlen hx hy hp hc
theorem parse_walk (s X Y : ByteArray) (f vb : Bool) (x y e1 e2 rx ry re : Int) (w : World)
    (C0 : Hid (∀ wx, Below w.heap.size w wx → Calls Tryz.prog 19 #[.string s, .string ⟨#[32]⟩] wx fun e w' => e = .returned (.tuple #[.string X, .string Y, .bool f]) ∧ Below wx.heap.size wx w'))
    (C1 : Hid (∀ wx, Below w.heap.size w wx → Calls Tryz.prog 20 #[.string X, .string ⟨#[78, 83]⟩] wx fun e w' => e = .returned (.tuple #[.int .i64 x, .int .i64 e1]) ∧ Below wx.heap.size wx w'))
    (C2 : Hid (∀ wx, Below w.heap.size w wx → Calls Tryz.prog 20 #[.string Y, .string ⟨#[69, 87]⟩] wx fun e w' => e = .returned (.tuple #[.int .i64 y, .int .i64 e2]) ∧ Below wx.heap.size wx w'))
    (CV : Hid (∀ wx, Calls Tryz.prog 16 #[.agg #[.int .i64 x, .int .i64 y]] wx fun e w' => e = .returned (.bool vb) ∧ Below wx.heap.size wx w'))
    (K : (e1 = 7 ∧ rx = 0 ∧ ry = 0 ∧ re = 7) ∨ (e1 ≠ 7 ∧ e2 = 7 ∧ rx = 0 ∧ ry = 0 ∧ re = 7) ∨ (e1 ≠ 7 ∧ e2 ≠ 7 ∧ e1 ≠ 0 ∧ rx = 0 ∧ ry = 0 ∧ re = 2) ∨ (e1 = 0 ∧ e2 ≠ 7 ∧ e2 ≠ 0 ∧ rx = 0 ∧ ry = 0 ∧ re = 2) ∨ (e1 = 0 ∧ e2 = 0 ∧ vb = false ∧ rx = 0 ∧ ry = 0 ∧ re = 2) ∨ (e1 = 0 ∧ e2 = 0 ∧ vb = true ∧ rx = x ∧ ry = y ∧ re = 0)) :
    Calls Tryz.prog 8 #[.string s] w fun e w' => e = .returned (.tuple #[.agg #[.int .i64 rx, .int .i64 ry], .int .i64 re]) ∧ Below w.heap.size w w' := by
  have R := At2.new w (.int .i64 0) (.int .i64 0) 23
  have HB := Lib.hid (below1 w (.cells #[.int .i64 0, .int .i64 0] 23))
  obtain ⟨R0, R1, Rf0, Rf1, -⟩ := id R
  rcases K with ⟨h1, rfl, rfl, rfl⟩ | ⟨h1, h2, rfl, rfl, rfl⟩ | ⟨h1, h2, h3, rfl, rfl, rfl⟩ | ⟨h1, h2, h3, rfl, rfl, rfl⟩ | ⟨h1, h2, rfl, rfl, rfl, rfl⟩ | ⟨h1, h2, rfl, rfl, rfl, rfl⟩
  · subst h1
    go_enter Tryz.func8, Tryz.ntmps8
    go_wp2_with fail
    refine ((C0).out _ HB.out).mono ?_
    rintro e w1 ⟨rfl, hb⟩
    clear R0 R1 Rf0 Rf1
    have R := R.keep hb
    have HB := Lib.hid (bstep HB.out hb)
    clear hb
    obtain ⟨R0, R1, Rf0, Rf1, -⟩ := id R
    go_wp2_with fail
    refine ((C1).out _ HB.out).mono ?_
    rintro e w2 ⟨rfl, hb⟩
    clear R0 R1 Rf0 Rf1
    have R := R.keep hb
    have HB := Lib.hid (bstep HB.out hb)
    clear hb
    obtain ⟨R0, R1, Rf0, Rf1, -⟩ := id R
    go_wp2_with fail
    refine ((C2).out _ HB.out).mono ?_
    rintro e w3 ⟨rfl, hb⟩
    clear R0 R1 Rf0 Rf1
    have R := R.keep hb
    have HB := Lib.hid (bstep HB.out hb)
    clear hb
    obtain ⟨R0, R1, Rf0, Rf1, -⟩ := id R
    obtain ⟨z0, z1⟩ := set2 R0 R1 (.int .i64 (0)) (.int .i64 (0))
    go_wp2_with fail
    refine bodyPost_ret (v := .tuple #[.agg #[.int .i64 (0), .int .i64 (0)], .int .i64 7]) (by simp [results, Tryz.results8, go_sem, z0, z1]) rfl ⟨rfl, ?_⟩
    exact below_set2 HB.out (by omega) _ _
  · have e17 : (e1 == 7) = false := beq_eq_false_iff_ne.2 h1
    subst h2
    clear h1
    go_enter Tryz.func8, Tryz.ntmps8
    go_wp2_with fail
    refine ((C0).out _ HB.out).mono ?_
    rintro e w1 ⟨rfl, hb⟩
    clear R0 R1 Rf0 Rf1
    have R := R.keep hb
    have HB := Lib.hid (bstep HB.out hb)
    clear hb
    obtain ⟨R0, R1, Rf0, Rf1, -⟩ := id R
    go_wp2_with fail
    refine ((C1).out _ HB.out).mono ?_
    rintro e w2 ⟨rfl, hb⟩
    clear R0 R1 Rf0 Rf1
    have R := R.keep hb
    have HB := Lib.hid (bstep HB.out hb)
    clear hb
    obtain ⟨R0, R1, Rf0, Rf1, -⟩ := id R
    go_wp2_with fail
    refine ((C2).out _ HB.out).mono ?_
    rintro e w3 ⟨rfl, hb⟩
    clear R0 R1 Rf0 Rf1
    have R := R.keep hb
    have HB := Lib.hid (bstep HB.out hb)
    clear hb
    obtain ⟨R0, R1, Rf0, Rf1, -⟩ := id R
    obtain ⟨z0, z1⟩ := set2 R0 R1 (.int .i64 (0)) (.int .i64 (0))
    go_wp2_with fail
    refine bodyPost_ret (v := .tuple #[.agg #[.int .i64 (0), .int .i64 (0)], .int .i64 7]) (by simp [results, Tryz.results8, go_sem, z0, z1]) rfl ⟨rfl, ?_⟩
    exact below_set2 HB.out (by omega) _ _
  · have e17 : (e1 == 7) = false := beq_eq_false_iff_ne.2 h1
    have e27 : (e2 == 7) = false := beq_eq_false_iff_ne.2 h2
    have e10 : (e1 == 0) = false := beq_eq_false_iff_ne.2 h3
    have e1n : (e1 != 0) = true := by rw [bne, e10]; rfl

    go_enter Tryz.func8, Tryz.ntmps8
    go_wp2_with fail
    refine ((C0).out _ HB.out).mono ?_
    rintro e w1 ⟨rfl, hb⟩
    clear R0 R1 Rf0 Rf1
    have R := R.keep hb
    have HB := Lib.hid (bstep HB.out hb)
    clear hb
    obtain ⟨R0, R1, Rf0, Rf1, -⟩ := id R
    go_wp2_with fail
    refine ((C1).out _ HB.out).mono ?_
    rintro e w2 ⟨rfl, hb⟩
    clear R0 R1 Rf0 Rf1
    have R := R.keep hb
    have HB := Lib.hid (bstep HB.out hb)
    clear hb
    obtain ⟨R0, R1, Rf0, Rf1, -⟩ := id R
    go_wp2_with fail
    refine ((C2).out _ HB.out).mono ?_
    rintro e w3 ⟨rfl, hb⟩
    clear R0 R1 Rf0 Rf1
    have R := R.keep hb
    have HB := Lib.hid (bstep HB.out hb)
    clear hb
    obtain ⟨R0, R1, Rf0, Rf1, -⟩ := id R
    clear R0 R1 Rf0 Rf1
    have R := R.alloc (.cells #[.int .i64 x, .int .i64 y] 23)
    have P := At2.new w3 (.int .i64 x) (.int .i64 y) 23
    have HB := Lib.hid (bstep HB.out (below1 w3 (.cells #[.int .i64 x, .int .i64 y] 23)))
    obtain ⟨R0, R1, Rf0, Rf1, -⟩ := id R
    obtain ⟨P0, P1, -, -, -⟩ := id P
    obtain ⟨z0, z1⟩ := set2 R0 R1 (.int .i64 (0)) (.int .i64 (0))
    go_wp2_with fail
    refine bodyPost_ret (v := .tuple #[.agg #[.int .i64 (0), .int .i64 (0)], .int .i64 2]) (by simp [results, Tryz.results8, go_sem, z0, z1]) rfl ⟨rfl, ?_⟩
    exact below_set2 HB.out (by omega) _ _
  · have e27 : (e2 == 7) = false := beq_eq_false_iff_ne.2 h2
    have e20 : (e2 == 0) = false := beq_eq_false_iff_ne.2 h3
    have e2n : (e2 != 0) = true := by rw [bne, e20]; rfl
    subst h1
    go_enter Tryz.func8, Tryz.ntmps8
    go_wp2_with fail
    refine ((C0).out _ HB.out).mono ?_
    rintro e w1 ⟨rfl, hb⟩
    clear R0 R1 Rf0 Rf1
    have R := R.keep hb
    have HB := Lib.hid (bstep HB.out hb)
    clear hb
    obtain ⟨R0, R1, Rf0, Rf1, -⟩ := id R
    go_wp2_with fail
    refine ((C1).out _ HB.out).mono ?_
    rintro e w2 ⟨rfl, hb⟩
    clear R0 R1 Rf0 Rf1
    have R := R.keep hb
    have HB := Lib.hid (bstep HB.out hb)
    clear hb
    obtain ⟨R0, R1, Rf0, Rf1, -⟩ := id R
    go_wp2_with fail
    refine ((C2).out _ HB.out).mono ?_
    rintro e w3 ⟨rfl, hb⟩
    clear R0 R1 Rf0 Rf1
    have R := R.keep hb
    have HB := Lib.hid (bstep HB.out hb)
    clear hb
    obtain ⟨R0, R1, Rf0, Rf1, -⟩ := id R
    clear R0 R1 Rf0 Rf1
    have R := R.alloc (.cells #[.int .i64 x, .int .i64 y] 23)
    have P := At2.new w3 (.int .i64 x) (.int .i64 y) 23
    have HB := Lib.hid (bstep HB.out (below1 w3 (.cells #[.int .i64 x, .int .i64 y] 23)))
    obtain ⟨R0, R1, Rf0, Rf1, -⟩ := id R
    obtain ⟨P0, P1, -, -, -⟩ := id P
    obtain ⟨z0, z1⟩ := set2 R0 R1 (.int .i64 (0)) (.int .i64 (0))
    go_wp2_with fail
    refine bodyPost_ret (v := .tuple #[.agg #[.int .i64 (0), .int .i64 (0)], .int .i64 2]) (by simp [results, Tryz.results8, go_sem, z0, z1]) rfl ⟨rfl, ?_⟩
    exact below_set2 HB.out (by omega) _ _
  · subst h1 h2
    go_enter Tryz.func8, Tryz.ntmps8
    go_wp2_with fail
    refine ((C0).out _ HB.out).mono ?_
    rintro e w1 ⟨rfl, hb⟩
    clear R0 R1 Rf0 Rf1
    have R := R.keep hb
    have HB := Lib.hid (bstep HB.out hb)
    clear hb
    obtain ⟨R0, R1, Rf0, Rf1, -⟩ := id R
    go_wp2_with fail
    refine ((C1).out _ HB.out).mono ?_
    rintro e w2 ⟨rfl, hb⟩
    clear R0 R1 Rf0 Rf1
    have R := R.keep hb
    have HB := Lib.hid (bstep HB.out hb)
    clear hb
    obtain ⟨R0, R1, Rf0, Rf1, -⟩ := id R
    go_wp2_with fail
    refine ((C2).out _ HB.out).mono ?_
    rintro e w3 ⟨rfl, hb⟩
    clear R0 R1 Rf0 Rf1
    have R := R.keep hb
    have HB := Lib.hid (bstep HB.out hb)
    clear hb
    obtain ⟨R0, R1, Rf0, Rf1, -⟩ := id R
    clear R0 R1 Rf0 Rf1
    have R := R.alloc (.cells #[.int .i64 x, .int .i64 y] 23)
    have P := At2.new w3 (.int .i64 x) (.int .i64 y) 23
    have HB := Lib.hid (bstep HB.out (below1 w3 (.cells #[.int .i64 x, .int .i64 y] 23)))
    obtain ⟨R0, R1, Rf0, Rf1, -⟩ := id R
    obtain ⟨P0, P1, -, -, -⟩ := id P
    go_wp2_with fail
    refine ((CV).out _).mono ?_
    rintro e w4 ⟨rfl, hb⟩
    clear R0 R1 Rf0 Rf1 P0 P1
    have R := R.keep hb
    have P := P.keep hb
    have HB := Lib.hid (bstep HB.out hb)
    clear hb
    obtain ⟨R0, R1, Rf0, Rf1, -⟩ := id R
    obtain ⟨P0, P1, -, -, -⟩ := id P
    obtain ⟨z0, z1⟩ := set2 R0 R1 (.int .i64 (0)) (.int .i64 (0))
    go_wp2_with fail
    refine bodyPost_ret (v := .tuple #[.agg #[.int .i64 (0), .int .i64 (0)], .int .i64 2]) (by simp [results, Tryz.results8, go_sem, z0, z1]) rfl ⟨rfl, ?_⟩
    exact below_set2 HB.out (by omega) _ _
  · subst h1 h2
    go_enter Tryz.func8, Tryz.ntmps8
    go_wp2_with fail
    refine ((C0).out _ HB.out).mono ?_
    rintro e w1 ⟨rfl, hb⟩
    clear R0 R1 Rf0 Rf1
    have R := R.keep hb
    have HB := Lib.hid (bstep HB.out hb)
    clear hb
    obtain ⟨R0, R1, Rf0, Rf1, -⟩ := id R
    go_wp2_with fail
    refine ((C1).out _ HB.out).mono ?_
    rintro e w2 ⟨rfl, hb⟩
    clear R0 R1 Rf0 Rf1
    have R := R.keep hb
    have HB := Lib.hid (bstep HB.out hb)
    clear hb
    obtain ⟨R0, R1, Rf0, Rf1, -⟩ := id R
    go_wp2_with fail
    refine ((C2).out _ HB.out).mono ?_
    rintro e w3 ⟨rfl, hb⟩
    clear R0 R1 Rf0 Rf1
    have R := R.keep hb
    have HB := Lib.hid (bstep HB.out hb)
    clear hb
    obtain ⟨R0, R1, Rf0, Rf1, -⟩ := id R
    clear R0 R1 Rf0 Rf1
    have R := R.alloc (.cells #[.int .i64 rx, .int .i64 ry] 23)
    have P := At2.new w3 (.int .i64 rx) (.int .i64 ry) 23
    have HB := Lib.hid (bstep HB.out (below1 w3 (.cells #[.int .i64 rx, .int .i64 ry] 23)))
    obtain ⟨R0, R1, Rf0, Rf1, -⟩ := id R
    obtain ⟨P0, P1, -, -, -⟩ := id P
    go_wp2_with fail
    refine ((CV).out _).mono ?_
    rintro e w4 ⟨rfl, hb⟩
    clear R0 R1 Rf0 Rf1 P0 P1
    have R := R.keep hb
    have P := P.keep hb
    have HB := Lib.hid (bstep HB.out hb)
    clear hb
    obtain ⟨R0, R1, Rf0, Rf1, -⟩ := id R
    obtain ⟨P0, P1, -, -, -⟩ := id P
    obtain ⟨z0, z1⟩ := set2 R0 R1 (.int .i64 (rx)) (.int .i64 (ry))
    go_wp2_with fail
    refine bodyPost_ret (v := .tuple #[.agg #[.int .i64 (rx), .int .i64 (ry)], .int .i64 0]) (by simp [results, Tryz.results8, go_sem, z0, z1]) rfl ⟨rfl, ?_⟩
    exact below_set2 HB.out (by omega) _ _
theorem pPtParse (l : List UInt8) (w : World) (hl : l.length ≤ 900) (hm : HasMax w) (he : HasErr w) :
    Calls Tryz.prog 8 #[.string (ba l)] w fun e w' => e = .returned (.tuple #[.agg #[.int .i64 (rdX l), .int .i64 (rdY l)], .int .i64 (rdE l)]) ∧ Below w.heap.size w w' := by
  obtain ⟨X, Y, f, hc⟩ : ∃ X Y f, Lib.cut l [32] = (X, Y, f) := ⟨_, _, _, rfl⟩
  obtain ⟨c1, c2⟩ := cut_facts 32 l X Y f hc
  have e1 := coE_or X 78 83
  have e2 := coE_or Y 69 87
  refine parse_walk (ba l) (ba X) (ba Y) f (ptOk (coV X 78 83) (coV Y 69 87)) (coV X 78 83) (coV Y 69 87) (coE X 78 83) (coE Y 69 87) (rdX l) (rdY l) (rdE l) w (Lib.hid fun wx hb => cut_any l 32 X Y f hc (by omega) wx (hm.below hb)) (Lib.hid fun wx hb => pParseCo X 78 83 (by decide) wx (by omega) (hm.below hb) (he.below hb)) (Lib.hid fun wx hb => pParseCo Y 69 87 (by decide) wx (by omega) (hm.below hb) (he.below hb)) (Lib.hid fun wx => pPtValid _ _ wx) ?_
  have hE : rdE l = if coE X 78 83 = 7 ∨ coE Y 69 87 = 7 then 7 else if coE X 78 83 = 0 ∧ coE Y 69 87 = 0 ∧ ptOk (coV X 78 83) (coV Y 69 87) = true then 0 else 2 := by unfold rdE; rw [hc]
  have hX : rdX l = if rdE l = 0 then coV X 78 83 else 0 := by unfold rdX; rw [hc]
  have hY : rdY l = if rdE l = 0 then coV Y 69 87 else 0 := by unfold rdY; rw [hc]
  rw [hX, hY]
  generalize coE X 78 83 = a at *
  generalize coE Y 69 87 = b at *
  generalize ptOk (coV X 78 83) (coV Y 69 87) = v at *
  clear hX hY hc
  by_cases h7 : a = 7 ∨ b = 7
  · rw [if_pos h7] at hE
    rw [hE, if_neg (by decide), if_neg (by decide)]
    by_cases ha : a = 7
    · exact .inl ⟨ha, rfl, rfl, rfl⟩
    · exact .inr (.inl ⟨ha, h7.resolve_left ha, rfl, rfl, rfl⟩)
  · rw [if_neg h7] at hE
    by_cases h0 : a = 0 ∧ b = 0 ∧ v = true
    · rw [if_pos h0] at hE
      rw [hE, if_pos rfl, if_pos rfl]
      exact .inr (.inr (.inr (.inr (.inr ⟨h0.1, h0.2.1, h0.2.2, rfl, rfl, rfl⟩))))
    · rw [if_neg h0] at hE
      rw [hE, if_neg (by decide), if_neg (by decide)]
      by_cases ha : a = 0
      · by_cases hb : b = 0
        · exact .inr (.inr (.inr (.inr (.inl ⟨ha, hb, by cases v; rfl; exact absurd ⟨ha, hb, rfl⟩ h0, rfl, rfl, rfl⟩))))
        · exact .inr (.inr (.inr (.inl ⟨ha, fun q => h7 (.inr q), hb, rfl, rfl, rfl⟩)))
      · exact .inr (.inr (.inl ⟨fun q => h7 (.inl q), fun q => h7 (.inr q), ha, rfl, rfl, rfl⟩))
end Go.Proofs.YtgcoddjjkcdfmaaGreatDoor
