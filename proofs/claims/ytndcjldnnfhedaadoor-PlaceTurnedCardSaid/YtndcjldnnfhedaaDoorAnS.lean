/- Angle: a printed text is cut into its one or two angles. No run of the model here. -/
import Derived.Test.YtndcjldnnfhedaaDoorAnF
import Derived.Lib.Split
import Derived.Lib.SplitLaws
namespace Go.Proofs.YtndcjldnnfhedaaDoor
set_option linter.unusedVariables false

def sep4 : List UInt8 := [32, 46, 46, 32]
theorem dig_32 {c : UInt8} (h : isDig c = true) : c ≠ 32 := by
  intro e; subst e; exact absurd h (by decide)
theorem digs_32 (k n : Nat) : ∀ b ∈ digs k n, b ≠ 32 := fun b hb => dig_32 (List.all_eq_true.1 (digs_all k n) b hb)
theorem frac_32 (f : Nat) : ∀ b ∈ fracT f, b ≠ 32 := by
  unfold fracT; split
  · exact digs_32 _ _
  · exact digs_32 _ _
theorem body_32 (a : Nat) : ∀ b ∈ bodyT a, b ≠ 32 := by
  intro b hb
  unfold bodyT at hb
  rcases List.mem_append.1 hb with h | h
  · exact digs_32 _ _ b h
  · rcases List.mem_cons.1 h with rfl | h
    · decide
    · rcases List.mem_append.1 h with h | h
      · exact digs_32 _ _ b h
      · rcases List.mem_cons.1 h with rfl | h
        · decide
        · exact frac_32 _ b h
theorem text_32 (n : Int) : ∀ b ∈ textT n, b ≠ 32 := by
  intro b hb
  unfold textT at hb
  split at hb
  · rcases List.mem_cons.1 hb with rfl | h
    · decide
    · exact body_32 _ b h
  · exact body_32 _ b hb
theorem index_32 : ∀ (X Y : List UInt8), (∀ b ∈ X, b ≠ 32) → Lib.index (X ++ (sep4 ++ Y)) sep4 = X.length
  | [], Y, _ => by
    rw [List.nil_append, show sep4 ++ Y = 32 :: (46 :: 46 :: 32 :: Y) from rfl, Lib.index]
    simp [sep4, List.isPrefixOf]
  | b :: X, Y, h => by
    have hb : b ≠ 32 := h b (List.mem_cons_self ..)
    have ih := index_32 X Y (fun c hc => h c (List.mem_cons_of_mem _ hc))
    rw [List.cons_append, Lib.index, ih, if_neg (by simp [sep4, List.isPrefixOf]; exact fun e => absurd e.symm hb)]
    have : ((X.length : Int) == -1) = false := by rw [beq_eq_false_iff_ne]; omega
    rw [this]
    simp
theorem index_no32 : ∀ (X : List UInt8), (∀ b ∈ X, b ≠ 32) → Lib.index X sep4 = -1
  | [], _ => by rw [Lib.index]; rfl
  | b :: X, h => by
    have hb : b ≠ 32 := h b (List.mem_cons_self ..)
    have ih := index_no32 X (fun c hc => h c (List.mem_cons_of_mem _ hc))
    rw [Lib.index, ih, if_neg (by simp [sep4, List.isPrefixOf]; exact fun e => absurd e.symm hb)]
    rfl
theorem ba_list (l : List UInt8) : (ba l).data.toList = l := rfl
theorem ba_is (s : ByteArray) (l : List UInt8) (h : s.data.toList = l) : s = ba l := by
  subst h; unfold ba; apply ByteArray.ext; simp
/-- one angle -/
theorem split_one (T : List UInt8) (h : ∀ b ∈ T, b ≠ 32) : Lib.countB (ba T) (ba sep4) = 0 ∧ Lib.splitB (ba sep4) 0 0 (ba T) = [ba T] :=
  ⟨Lib.countB_miss _ _ (index_no32 T h), rfl⟩
/-- two angles -/
theorem split_two (T U : List UInt8) (h : ∀ b ∈ T, b ≠ 32) (k : ∀ b ∈ U, b ≠ 32) : Lib.countB (ba (T ++ sep4 ++ U)) (ba sep4) = 1 ∧ Lib.splitB (ba sep4) 0 1 (ba (T ++ sep4 ++ U)) = [ba T, ba U] := by
  have hi : Lib.indexB (ba (T ++ sep4 ++ U)) (ba sep4) = T.length := by
    rw [List.append_assoc]; exact index_32 T U h
  have hsz : (ba (T ++ sep4 ++ U)).size = T.length + 4 + U.length := by
    show (T ++ sep4 ++ U).length = _
    simp [sep4]
    omega
  have e1 : (ba (T ++ sep4 ++ U)).extract 0 (T.length + 0) = ba T := by
    apply ba_is
    rw [Lib.extract_data, ba_list]
    simp
  have e2 : (ba (T ++ sep4 ++ U)).extract (T.length + (ba sep4).size) (ba (T ++ sep4 ++ U)).size = ba U := by
    apply ba_is
    rw [Lib.extract_data, ba_list, hsz, show (ba sep4).size = 4 from rfl]
    rw [show T.length + 4 = (T ++ sep4).length by simp [sep4], List.drop_left]
    exact List.take_of_length_le (by simp)
  constructor
  · rw [Lib.countB_hit _ _ _ (by decide) hi, e2, Lib.countB_miss _ _ (index_no32 U k)]
  · rw [Lib.splitB_hit _ _ _ _ _ hi, e1, e2]
    rfl
theorem rnd_100 (n : Int) : rndT n % 100 = 0 ∧ -50 ≤ n - rndT n ∧ n - rndT n < 50 := by unfold rndT; omega
end Go.Proofs.YtndcjldnnfhedaaDoor
