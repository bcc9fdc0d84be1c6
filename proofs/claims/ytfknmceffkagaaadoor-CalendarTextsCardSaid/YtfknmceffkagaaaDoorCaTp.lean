/- Calendar: plain facts on the texts of dates. -/
import Derived.Test.YtfknmceffkagaaaDoorCaP
import Derived.Test.YtfknmceffkagaaaDoorFmtM
import Derived.Lib.CutLaws
import Derived.Lib.Strings
namespace Go.Proofs.YtfknmceffkagaaaDoor
open dc
set_option linter.unusedVariables false

def ba (l : List UInt8) : ByteArray := ⟨l.toArray⟩
theorem ba_size (l : List UInt8) : (ba l).size = l.length := by unfold ba; simp [ByteArray.size]
theorem ba_list (s : ByteArray) : ba s.data.toList = s := by unfold ba; simp
theorem ba_inj {a b : List UInt8} (h : ba a = ba b) : a = b := by
  have := congrArg (fun s : ByteArray => s.data.toList) h
  simpa [ba] using this
theorem ba_add (a b : List UInt8) : ba a ++ ba b = ba (a ++ b) := dc.ba_app a b

theorem idx_hit (b : UInt8) : ∀ (X Y : List UInt8), (∀ c ∈ X, c ≠ b) → Lib.index (X ++ b :: Y) [b] = (X.length : Int)
  | [], Y, _ => by rw [List.nil_append, Lib.index, if_pos (by simp [List.isPrefixOf])]; rfl
  | c :: X, Y, h => by
    have hb : c ≠ b := h c (List.mem_cons_self ..)
    have ih := idx_hit b X Y (fun d hd => h d (List.mem_cons_of_mem _ hd))
    rw [List.cons_append, Lib.index, if_neg (by simp [List.isPrefixOf]; exact fun e => hb e.symm), ih, if_neg (by simp)]
    simp
theorem idx_no (b : UInt8) : ∀ (X : List UInt8), (∀ c ∈ X, c ≠ b) → Lib.index X [b] = -1
  | [], _ => by rw [Lib.index]; rfl
  | c :: X, h => by
    have hb : c ≠ b := h c (List.mem_cons_self ..)
    have ih := idx_no b X (fun d hd => h d (List.mem_cons_of_mem _ hd))
    rw [Lib.index, ih, if_neg (by simp [List.isPrefixOf]; exact fun e => hb e.symm)]
    rfl
theorem cut_cases (b : UInt8) (u : List UInt8) : (∃ X Y, u = X ++ b :: Y ∧ (∀ c ∈ X, c ≠ b) ∧ Lib.cut u [b] = (X, Y, true)) ∨ ((∀ c ∈ u, c ≠ b) ∧ Lib.cut u [b] = (u, [], false)) := by
  by_cases h : b ∈ u
  · obtain ⟨X, Y, e, hn⟩ := List.eq_append_cons_of_mem h
    have hX : ∀ c ∈ X, c ≠ b := fun c hc e => hn (e ▸ hc)
    refine .inl ⟨X, Y, e, hX, ?_⟩
    rw [e]
    unfold Lib.cut
    rw [idx_hit b X Y hX, if_pos (by omega)]
    simp
  · have hX : ∀ c ∈ u, c ≠ b := fun c hc e => h (e ▸ hc)
    refine .inr ⟨hX, ?_⟩
    unfold Lib.cut
    rw [idx_no b u hX, if_neg (by omega)]
theorem cut_hit (b : UInt8) (X Y : List UInt8) (h : ∀ c ∈ X, c ≠ b) : Lib.cut (X ++ b :: Y) [b] = (X, Y, true) := by
  unfold Lib.cut
  rw [idx_hit b X Y h, if_pos (by omega)]
  simp

/-- a number that is below a power of ten, as the decimals of a fraction -/
theorem decT_small (n d : Nat) (hd : 0 < d) (hn : n < 10 ^ d) : decT (n : Int) d = 48 :: 46 :: digs d n := by
  have hz : n / 10 ^ d = 0 := Nat.div_eq_of_lt hn
  have h1 : rnds d n = d + 1 + 0 := by
    have := ndF_le_of 20 n d hz
    unfold rnds ndig
    omega
  unfold decT
  rw [if_neg (by omega), Int.natAbs_natCast, h1, outD_high, if_pos hd, hz]
  rfl
theorem trim_small (l : List UInt8) : Lib.trimPrefix (48 :: 46 :: l) [48, 46] = l := by
  unfold Lib.trimPrefix
  rw [if_pos (by simp [Lib.hasPrefix, List.isPrefixOf])]
  rfl
/-- digits of a whole number, as the reference writes it, with zeros in front -/
theorem decT_whole (n : Nat) : decT (n : Int) 0 = digs (rnds 0 n) n := by
  unfold decT
  rw [if_neg (by omega), Int.natAbs_natCast]
  have h := rnds_gt 0 n
  obtain ⟨j, hj⟩ : ∃ j, rnds 0 n = 0 + 1 + j := ⟨rnds 0 n - 1, by omega⟩
  rw [hj, outD_high]
  simp [Nat.add_comm]
theorem rnds_small (n k : Nat) (hk : 1 ≤ k) (hn : n < 10 ^ k) : rnds 0 n ≤ k := by
  have := ndF_le_of 20 n k (Nat.div_eq_of_lt hn)
  unfold rnds ndig
  omega
theorem rnds_div (n : Nat) (hn : n ≤ 1152921504606846976) (j : Nat) (hj : rnds 0 n ≤ j) : n / 10 ^ j = 0 := by
  have h := rnds_zero 0 n hn
  have : n < 10 ^ rnds 0 n := (Nat.div_eq_zero_iff.1 h).resolve_left (by have := Nat.pow_pos (a := 10) (n := rnds 0 n) (by omega); omega)
  exact Nat.div_eq_of_lt (Nat.lt_of_lt_of_le this (Nat.pow_le_pow_right (by omega) hj))
theorem digs_pad (n : Nat) (hn : n ≤ 1152921504606846976) (j : Nat) (hj : rnds 0 n ≤ j) : digs (j + 1) n = 48 :: digs j n := by
  rw [digs_cons, rnds_div n hn j hj]
  rfl

/-- the digits of a text as a number, if there are as many as asked for -/
def unp (x : List UInt8) (k : Nat) : Int := if x.length = k ∧ x.all isDig = true then (val x : Int) else 0
/-- the same by the reference: -1 if there is another byte -/
def rnm (x : List UInt8) : Int := if x.all isDig = true then (val x : Int) else -1
theorem snoc_rec {p : List UInt8 → Prop} (h0 : p []) (h1 : ∀ l c, p l → p (l ++ [c])) (l : List UInt8) : p l := by
  have key : ∀ n (l : List UInt8), l.length = n → p l := by
    intro n
    induction n with
    | zero => intro l h; rw [List.length_eq_zero_iff.1 h]; exact h0
    | succ n ih =>
      intro l h
      obtain ⟨q, x, e⟩ := last_of (l := l) (by omega)
      subst e
      exact h1 q x (ih q (by simpa using h))
  exact key _ l rfl
theorem val_lt (x : List UInt8) : x.all isDig = true → val x < 10 ^ x.length := by
  refine snoc_rec (p := fun x => x.all isDig = true → val x < 10 ^ x.length) (fun _ => by decide) (fun l c ih h => ?_) x
  rw [List.all_append, Bool.and_eq_true] at h
  have := ih h.1
  rw [val_snoc, List.length_append, List.length_singleton, Nat.pow_succ]
  have hc := h.2
  simp only [List.all_cons, List.all_nil, Bool.and_true] at hc
  unfold isDig at hc
  rw [decide_eq_true_eq] at hc
  omega
/-- what layer 1 reads behind a zero and a point -/
theorem read_small (x : List UInt8) (k : Nat) (hk : 1 ≤ k) (k9 : k ≤ 9) (hx : x.length = k) :
    (x.all isDig = true → pErr (48 :: 46 :: x) k = 0 ∧ pVal (48 :: 46 :: x) k = val x) ∧ (x.all isDig = false → pErr (48 :: 46 :: x) k = 7 ∧ pVal (48 :: 46 :: x) k = 0) := by
  have hp : Lib.hasPrefix (48 :: 46 :: x) [45] = false := by simp [Lib.hasPrefix, List.isPrefixOf]
  have hU : pU (48 :: 46 :: x) = 48 :: 46 :: x := by unfold pU Lib.trimPrefix; rw [if_neg (by rw [hp]; simp)]
  have hc : Lib.cut (48 :: 46 :: x) [46] = ([48], x, true) := cut_hit 46 [48] x (by simp)
  have hA : pAll (48 :: 46 :: x) k = 48 :: x := by unfold pAll; rw [hU, hc, hx]; simp
  have hw : whlB [48] = true := by decide
  have hv : val (48 :: x) = val x := by
    have := val_app [48] x
    rw [show [48] ++ x = 48 :: x from rfl] at this
    rw [this]
    have : val [48] = 0 := by decide
    rw [this]; omega
  have he : x.isEmpty = false := by cases x with
    | nil => simp at hx; omega
    | cons c r => rfl
  constructor
  · intro h
    have hf : frcB x k = true := by unfold frcB digB; rw [h, he, hx]; simp
    have hm : magB (48 :: x) = true := by
      unfold magB
      rw [hv]
      have := val_lt x h
      have : 10 ^ x.length ≤ 10 ^ 9 := Nat.pow_le_pow_right (by omega) (by omega)
      rw [decide_eq_true_eq]
      omega
    have e : pErr (48 :: 46 :: x) k = 0 := by
      unfold pErr
      rw [hU, hc, hA]
      simp only
      rw [if_neg (by rw [hw, hf]; simp), if_pos hm]
    refine ⟨e, ?_⟩
    unfold pVal
    rw [if_pos e, hp, hA, hv]
    simp
  · intro h
    have hf : frcB x k = false := by unfold frcB digB; rw [h]; simp
    have e : pErr (48 :: 46 :: x) k = 7 := by
      unfold pErr
      rw [hU, hc]
      simp only
      rw [if_pos (Or.inr ⟨trivial, hf⟩)]
    refine ⟨e, ?_⟩
    unfold pVal
    rw [if_neg (by rw [e]; decide)]
theorem dig_ne45 {c : UInt8} (h : isDig c = true) : c ≠ 45 := by
  intro e
  subst e
  exact absurd h (by decide)
/-- the three parts of a text, as the program cuts it -/
def ptY (l : List UInt8) : List UInt8 := (Lib.cut l [45]).1
def ptR (l : List UInt8) : List UInt8 := (Lib.cut l [45]).2.1
def dY (l : List UInt8) : Int := unp (ptY l) 4
def dM (l : List UInt8) : Int := unp (ptY (ptR l)) 2
def dD (l : List UInt8) : Int := unp (ptR (ptR l)) 2
/-- the form of a text -/
def frm (l : List UInt8) : Prop := ∃ a b c, l = a ++ 45 :: (b ++ 45 :: c) ∧ a.length = 4 ∧ b.length = 2 ∧ c.length = 2
theorem unp_pos {x : List UInt8} {k : Nat} (h : 1 ≤ unp x k) : x.length = k ∧ x.all isDig = true ∧ unp x k = val x := by
  unfold unp at h ⊢
  by_cases c : x.length = k ∧ x.all isDig = true
  · rw [if_pos c]; exact ⟨c.1, c.2, rfl⟩
  · rw [if_neg c] at h; omega
theorem all_ne {x : List UInt8} (h : x.all isDig = true) : ∀ c ∈ x, c ≠ 45 := fun c hc => dig_ne45 (List.all_eq_true.1 h c hc)
theorem rnm_pos {x : List UInt8} (h : 1 ≤ rnm x) : x.all isDig = true ∧ rnm x = val x := by
  unfold rnm at h ⊢
  by_cases c : x.all isDig = true
  · rw [if_pos c]; exact ⟨c, rfl⟩
  · rw [if_neg c] at h; omega
theorem unp_all {x : List UInt8} {k : Nat} (h1 : x.length = k) (h2 : x.all isDig = true) : unp x k = val x := by unfold unp; rw [if_pos ⟨h1, h2⟩]
/-- a valid date that the program reads has the form -/
theorem prog_frm {l : List UInt8} (h1 : 1 ≤ dY l) (h2 : 1 ≤ dM l) (h3 : 1 ≤ dD l) : frm l := by
  obtain ⟨a1, a2, -⟩ := unp_pos h1
  obtain ⟨b1, b2, -⟩ := unp_pos h2
  obtain ⟨c1, c2, -⟩ := unp_pos h3
  rcases cut_cases 45 l with ⟨X, Y, e, hX, hc⟩ | ⟨hX, hc⟩
  · have y1 : ptY l = X := by unfold ptY; rw [hc]
    have y2 : ptR l = Y := by unfold ptR; rw [hc]
    rw [y1] at a1
    rw [y2] at b1 c1
    rcases cut_cases 45 Y with ⟨Z, V, f, hZ, hd⟩ | ⟨hZ, hd⟩
    · have z1 : ptY Y = Z := by unfold ptY; rw [hd]
      have z2 : ptR Y = V := by unfold ptR; rw [hd]
      rw [z1] at b1
      rw [z2] at c1
      exact ⟨X, Z, V, by rw [e, f], a1, b1, c1⟩
    · have z2 : ptR Y = [] := by unfold ptR; rw [hd]
      rw [z2] at c1
      simp at c1
  · have y2 : ptR l = [] := by unfold ptR; rw [hc]
    have z1 : ptY ([] : List UInt8) = [] := by decide
    rw [y2, z1] at b1
    simp at b1
/-- on texts of the form the program and the reference read the same valid dates -/
theorem frm_ok {a b c : List UInt8} (ha : a.length = 4) (hb : b.length = 2) (hc : c.length = 2) :
    okD (dY (a ++ 45 :: (b ++ 45 :: c))) (dM (a ++ 45 :: (b ++ 45 :: c))) (dD (a ++ 45 :: (b ++ 45 :: c))) = okD (rnm a) (rnm b) (rnm c) ∧
    (okD (rnm a) (rnm b) (rnm c) = true → dY (a ++ 45 :: (b ++ 45 :: c)) = rnm a ∧ dM (a ++ 45 :: (b ++ 45 :: c)) = rnm b ∧ dD (a ++ 45 :: (b ++ 45 :: c)) = rnm c) := by
  have pos : ∀ {y m d : Int}, okD y m d = true → 1 ≤ y ∧ 1 ≤ m ∧ 1 ≤ d := fun h => by have := okD_iff.1 h; omega
  have key : a.all isDig = true → b.all isDig = true → c.all isDig = true → dY (a ++ 45 :: (b ++ 45 :: c)) = rnm a ∧ dM (a ++ 45 :: (b ++ 45 :: c)) = rnm b ∧ dD (a ++ 45 :: (b ++ 45 :: c)) = rnm c := by
    intro h1 h2 h3
    have e1 := cut_hit 45 a (b ++ 45 :: c) (all_ne h1)
    have e2 := cut_hit 45 b c (all_ne h2)
    have y1 : ptY (a ++ 45 :: (b ++ 45 :: c)) = a := by unfold ptY; rw [e1]
    have y2 : ptR (a ++ 45 :: (b ++ 45 :: c)) = b ++ 45 :: c := by unfold ptR; rw [e1]
    have z1 : ptY (b ++ 45 :: c) = b := by unfold ptY; rw [e2]
    have z2 : ptR (b ++ 45 :: c) = c := by unfold ptR; rw [e2]
    unfold dY dM dD rnm
    rw [y1, y2, z1, z2, unp_all ha h1, unp_all hb h2, unp_all hc h3, if_pos h1, if_pos h2, if_pos h3]
    exact ⟨rfl, rfl, rfl⟩
  have all : okD (rnm a) (rnm b) (rnm c) = true → a.all isDig = true ∧ b.all isDig = true ∧ c.all isDig = true := fun h =>
    have p := pos h
    ⟨(rnm_pos p.1).1, (rnm_pos p.2.1).1, (rnm_pos p.2.2).1⟩
  refine ⟨?_, fun h => key (all h).1 (all h).2.1 (all h).2.2⟩
  rcases Bool.eq_false_or_eq_true (okD (rnm a) (rnm b) (rnm c)) with h | h
  · obtain ⟨k1, k2, k3⟩ := key (all h).1 (all h).2.1 (all h).2.2
    rw [k1, k2, k3]
  · rw [h]
    rcases Bool.eq_false_or_eq_true (okD (dY (a ++ 45 :: (b ++ 45 :: c))) (dM (a ++ 45 :: (b ++ 45 :: c))) (dD (a ++ 45 :: (b ++ 45 :: c)))) with g | g
    · exfalso
      have p := pos g
      obtain ⟨a1, a2, -⟩ := unp_pos p.1
      obtain ⟨b1, b2, -⟩ := unp_pos p.2.1
      obtain ⟨c1, c2, -⟩ := unp_pos p.2.2
      -- the first part is the digits before the first hyphen
      have first : ∀ (x r : List UInt8) (k : Nat), x.length = k → (ptY (x ++ 45 :: r)).length = k → x.all isDig = true ∨ (∃ c ∈ ptY (x ++ 45 :: r), isDig c = false) := by
        intro x r k hx hk
        by_cases hn : ∀ c ∈ x, c ≠ 45
        · have e := cut_hit 45 x r hn
          have y1 : ptY (x ++ 45 :: r) = x := by unfold ptY; rw [e]
          rw [y1]
          rcases Bool.eq_false_or_eq_true (x.all isDig) with q | q
          · exact Or.inl q
          · obtain ⟨c, hc, hd⟩ := List.all_eq_false.1 q
            exact Or.inr ⟨c, hc, by simpa using hd⟩
        · exfalso
          rcases cut_cases 45 (x ++ 45 :: r) with ⟨X, Y, e, hX, hc⟩ | ⟨hX, hc⟩
          · have y1 : ptY (x ++ 45 :: r) = X := by unfold ptY; rw [hc]
            rw [y1] at hk
            have := List.append_inj_left e (by omega)
            exact hn (this ▸ hX)
          · exact hX 45 (by simp) rfl
      have q1 : a.all isDig = true := by
        rcases first a (b ++ 45 :: c) 4 ha a1 with q | ⟨x, hx, hd⟩
        · exact q
        · rw [List.all_eq_true.1 a2 x hx] at hd; exact absurd hd (by decide)
      have e1 := cut_hit 45 a (b ++ 45 :: c) (all_ne q1)
      have y2 : ptR (a ++ 45 :: (b ++ 45 :: c)) = b ++ 45 :: c := by unfold ptR; rw [e1]
      rw [y2] at b1 b2 c1 c2
      have q2 : b.all isDig = true := by
        rcases first b c 2 hb b1 with q | ⟨x, hx, hd⟩
        · exact q
        · rw [List.all_eq_true.1 b2 x hx] at hd; exact absurd hd (by decide)
      have e2 := cut_hit 45 b c (all_ne q2)
      have z2 : ptR (b ++ 45 :: c) = c := by unfold ptR; rw [e2]
      rw [z2] at c2
      obtain ⟨k1, k2, k3⟩ := key q1 q2 c2
      rw [k1, k2, k3, h] at g
      exact absurd g (by decide)
    · exact g
/-- the text of a date -/
def txt (y m d : Nat) : List UInt8 := digs 4 y ++ 45 :: (digs 2 m ++ 45 :: digs 2 d)
theorem txt_read (y m d : Nat) (hy : y < 10000) (hm : m < 100) (hd : d < 100) : dY (txt y m d) = y ∧ dM (txt y m d) = m ∧ dD (txt y m d) = d := by
  have h1 := digs_all 4 y
  have h2 := digs_all 2 m
  have h3 := digs_all 2 d
  have e1 := cut_hit 45 (digs 4 y) (digs 2 m ++ 45 :: digs 2 d) (all_ne h1)
  have e2 := cut_hit 45 (digs 2 m) (digs 2 d) (all_ne h2)
  have y1 : ptY (txt y m d) = digs 4 y := by unfold ptY txt; rw [e1]
  have y2 : ptR (txt y m d) = digs 2 m ++ 45 :: digs 2 d := by unfold ptR txt; rw [e1]
  have z1 : ptY (digs 2 m ++ 45 :: digs 2 d) = digs 2 m := by unfold ptY; rw [e2]
  have z2 : ptR (digs 2 m ++ 45 :: digs 2 d) = digs 2 d := by unfold ptR; rw [e2]
  unfold dY dM dD
  rw [y1, y2, z1, z2, unp_all (digs_length 4 y) h1, unp_all (digs_length 2 m) h2, unp_all (digs_length 2 d) h3, val_digs, val_digs, val_digs]
  rw [Nat.mod_eq_of_lt hy, Nat.mod_eq_of_lt hm, Nat.mod_eq_of_lt hd]
  exact ⟨rfl, rfl, rfl⟩
theorem txt_len (y m d : Nat) : (txt y m d).length = 10 := by unfold txt; simp [digs_length]
end Go.Proofs.YtfknmceffkagaaaDoor
