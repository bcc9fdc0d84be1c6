/- WideTexts: the walk of the law. -/
import Derived.Test.YtpneahdbiikonaaDoorTxW
import Derived.Test.YtpneahdbiikonaaDoorAwk
namespace Go.Proofs.YtpneahdbiikonaaDoor
open Go.RowKit
set_option linter.unusedVariables false

theorem rvalid_is (h l : Int) (b : Bool) (hk : wok h l = b) (w : World) : Calls Tryd.prog 6 #[.agg #[.int .i64 h, .int .i64 l]] w fun e w' => e = .returned (.bool b) ∧ Below w.heap.size w w' := by
  have := rvalid_any h l w; rw [hk] at this; exact this

set_option maxRecDepth 100000 in
set_option maxHeartbeats 4000000 in
theorem txts_bad (h l : Int) (w : World) (hk : wok h l = false) :
    Calls Tryd.prog 3 #[.agg #[.int .i64 h, .int .i64 l]] w fun e w' => e = .returned (.bool true) ∧ Below w.heap.size w w' := by
  have T := Lib.hid (One.new w (.int .i64 h) (.int .i64 l) 23)
  have HV := Lib.hid (fun (wx : World) => rvalid_is h l false hk wx)
  have HT := Lib.hid (fun (wx : World) => text_bad h l wx hk)
  clear hk
  go_enter Tryd.func3, Tryd.ntmps3
  go_wp2_with fail
  refine (awake_any _).mono ?_
  rintro e w1 ⟨rfl, hb⟩
  have T := Lib.hid (T.out.keep hb)
  clear hb
  obtain ⟨⟨i0, i1, _, _, _⟩, _⟩ := id T.out
  go_wp2_with fail
  refine (HT.out _).mono ?_
  rintro e w2 ⟨rfl, hb⟩
  have T := Lib.hid (T.out.keep hb)
  clear hb i0 i1
  obtain ⟨⟨i0, i1, _, _, _⟩, _⟩ := id T.out
  go_wp2_with fail
  refine (HV.out _).mono ?_
  rintro e w3 ⟨rfl, hb⟩
  have T := Lib.hid (T.out.keep hb)
  clear hb i0 i1
  go_wp2_with fail
  go_ret
  exact ⟨rfl, T.out.bel⟩

set_option maxRecDepth 100000 in
set_option maxHeartbeats 4000000 in
theorem txts_ok (h l : Int) (w : World) (hk : wok h l = true) (htab : Lib.TabIs Tryd.prog w "internal/strconv.uint64pow10" .u64 Lib.pow10Tab) :
    Calls Tryd.prog 3 #[.agg #[.int .i64 h, .int .i64 l]] w fun e w' => e = .returned (.bool true) ∧ Below w.heap.size w w' := by
  have T := Lib.hid (One.new w (.int .i64 h) (.int .i64 l) 23)
  have HV := Lib.hid (fun (wx : World) => rvalid_is h l true hk wx)
  have HT := Lib.hid (fun (wx : World) (hb : Below w.heap.size w wx) => text_ok h l wx hk (Lib.tabBelow_of_tabIs htab wx hb))
  have HR := Lib.hid (fun (wx : World) => rtext_any h l wx hk)
  obtain ⟨S, hS⟩ : ∃ S, S = ba (txt (wv h l)) := ⟨_, rfl⟩
  rw [← hS] at HT HR
  clear hk htab hS
  go_enter Tryd.func3, Tryd.ntmps3
  go_wp2_with fail
  refine (awake_any _).mono ?_
  rintro e w1 ⟨rfl, hb⟩
  have T := Lib.hid (T.out.keep hb)
  clear hb
  obtain ⟨⟨i0, i1, _, _, _⟩, _⟩ := id T.out
  go_wp2_with fail
  refine (HT.out _ T.out.bel).mono ?_
  rintro e w2 ⟨rfl, hb⟩
  have T := Lib.hid (T.out.keep hb)
  clear hb i0 i1
  obtain ⟨⟨i0, i1, _, _, _⟩, _⟩ := id T.out
  go_wp2_with fail
  refine (HV.out _).mono ?_
  rintro e w3 ⟨rfl, hb⟩
  have T := Lib.hid (T.out.keep hb)
  clear hb i0 i1
  obtain ⟨⟨i0, i1, _, _, _⟩, _⟩ := id T.out
  go_wp2_with fail
  refine (HR.out _).mono ?_
  rintro e w4 ⟨rfl, hb⟩
  have T := Lib.hid (T.out.keep hb)
  clear hb i0 i1
  go_wp2_with fail
  go_ret
  exact ⟨rfl, T.out.bel⟩

theorem txts_any (h l : Int) (w : World) (htab : Lib.TabIs Tryd.prog w "internal/strconv.uint64pow10" .u64 Lib.pow10Tab) :
    Calls Tryd.prog 3 #[.agg #[.int .i64 h, .int .i64 l]] w fun e w' => e = .returned (.bool true) ∧ Below w.heap.size w w' := by
  cases hk : wok h l
  · exact txts_bad h l w hk
  · exact txts_ok h l w hk htab
end Go.Proofs.YtpneahdbiikonaaDoor
