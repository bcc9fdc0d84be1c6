/- slices.Equal at two lists of tokens that are one list. -/
import Derived.Test.YtijgaenfhmgcoaaTokH
import Derived.Deep.Draws
namespace Go.Proofs.Ytijgaenfhmgcoaa
open Go.RowKit
set_option linter.unusedVariables false

theorem flat_at (ts : List Tok) (k j : Nat) (h : k < ts.length) (hj : j < 4) : (ts.flatMap Tok.cells)[k * 4 + j]? = (ts[k].cells)[j]? := by
  induction ts generalizing k with
  | nil => cases h
  | cons t ts ih =>
    rw [List.flatMap_cons]
    cases k with
    | zero =>
      rw [List.getElem?_append_left (by show 0 * 4 + j < 4; omega), Nat.zero_mul, Nat.zero_add]; rfl
    | succ k =>
      rw [List.getElem?_append_right (by show 4 ≤ (k + 1) * 4 + j; omega)]
      have e : (k + 1) * 4 + j - t.cells.length = k * 4 + j := by show (k + 1) * 4 + j - 4 = _; omega
      rw [e, ih k (by simpa using h)]; rfl

theorem row_at {w : World} {B g cap : Nat} {ts : List Tok} (h : w.ownsRow B 53 4 (.slice (some ⟨g, 0, none⟩) ts.length cap) ts.length (ts.flatMap Tok.cells)) (k : Nat) (hk : k < ts.length) :
    w.cell? ⟨g, k * 4, none⟩ = some (.int .i64 ts[k].kind) ∧ w.cell? ⟨g, k * 4 + 1, none⟩ = some (.string ⟨ts[k].text.toArray⟩) ∧ w.cell? ⟨g, k * 4 + 2, none⟩ = some (.int .i64 ts[k].line) ∧ w.cell? ⟨g, k * 4 + 3, none⟩ = some (.int .i64 ts[k].col) := by
  obtain ⟨-, h | ⟨g', cap', cur, hv, -, hg, h1, -, h3, h4⟩⟩ := h
  · omega
  cases hv
  have key : ∀ j, j < 4 → w.cell? ⟨g, k * 4 + j, none⟩ = (ts[k].cells)[j]? := by
    intro j hj
    rw [cell_of_row w g _ _ _ _ hg, ← flat_at ts k j hk hj, ← h4]
    rw [List.getElem?_take, if_pos (by omega), Array.getElem?_toList]
  exact ⟨key 0 (by omega), key 1 (by omega), key 2 (by omega), key 3 (by omega)⟩

set_option maxHeartbeats 1000000 in
set_option maxRecDepth 100000 in
theorem equal_some (g1 c1 g2 c2 B1 B2 : Nat) (ts : List Tok) (w : World) (hl : ts.length ≤ 70000)
    (h1 : w.ownsRow B1 53 4 (.slice (some ⟨g1, 0, none⟩) ts.length c1) ts.length (ts.flatMap Tok.cells)) (h2 : w.ownsRow B2 53 4 (.slice (some ⟨g2, 0, none⟩) ts.length c2) ts.length (ts.flatMap Tok.cells)) :
    Calls Try.prog 20 #[.slice (some ⟨g1, 0, none⟩) ts.length c1, .slice (some ⟨g2, 0, none⟩) ts.length c2] w fun e w' => e = .returned (.bool true) ∧ ∃ q, w' = w.drewN q := by
  obtain ⟨n, hn⟩ : ∃ n, n = ts.length := ⟨_, rfl⟩
  have H1 := Lib.hid (fun k hk => row_at h1 k hk)
  have H2 := Lib.hid (fun k hk => row_at h2 k hk)
  have HNN := Lib.hid hn
  rw [← hn]
  rw [← hn] at hl
  clear h1 h2 hn
  go_enter Try.func20, Try.ntmps20
  go_wp2_with fail
  go_loopg [13] n (fun m v wr => ∃ k q : Nat, k ≤ n ∧ m = n - k ∧ v = .int .i64 (k : Int) ∧ wr = w.drewN q)
  case atStart => exact ⟨0, 0, Nat.zero_le _, rfl, rfl, rfl⟩
  case round =>
    obtain ⟨k, q, hk, hgk, rfl, rfl⟩ := hrel
    have HGK := Lib.hid hgk
    clear hgk
    by_cases hlt : k < n
    · obtain ⟨x1, x2, x3, x4⟩ := H1.out k (by have := HNN.out; omega)
      obtain ⟨y1, y2, y3, y4⟩ := H2.out k (by have := HNN.out; omega)
      go_wp2_with fail
      go_region
      go_wp2
      go_roundg (n - (k + 1))
      case measure => have := HGK.out; omega
      case rel => exact ⟨k + 1, q + 1, by omega, rfl, by go_num, rfl⟩
    · go_wp2_with fail
      go_ret
      exact ⟨rfl, q, rfl⟩

end Go.Proofs.Ytijgaenfhmgcoaa
