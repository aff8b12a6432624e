/-
  The walk of the law of StepText.
-/
import Derived.Test.YtbmonndpblnjkaaDoorIText2
namespace Go.Proofs.YtbmonndpblnjkaaDoor
open Go.ChangeShapes Go.WideShapes Go.ChangeAt Go.RowKit

theorem Below.tr {w w1 w2 : World} (h : Below w.heap.size w w1) (k : Below w1.heap.size w1 w2) : Below w.heap.size w w2 := h.trans (k.mono h.size)

theorem names_below {w w' : World} (h : NamesIn w) (hz : 0 < w.heap.size) (hb : Below w.heap.size w w') : NamesIn w' :=
  fun j v hv => ((bcell hb).1 0 j hz).trans (h j v hv)

set_option maxHeartbeats 1000000 in
theorem lawStepText (k o d s i t : Int) (w : World) (ht0 : Lib.TabIs Tryd.prog w "internal/strconv.uint64pow10" .u64 Lib.pow10Tab) (hz0 : 0 < w.heap.size) (hkn0 : NamesIn w) :
    Calls Tryd.prog 4 #[.agg #[.int .i64 k, .int .i64 o, .int .i64 d, .int .i64 s, .int .i64 i, .int .i64 t]] w fun e w' => e = .returned (.bool true) ∧ Below w.heap.size w w' := by
  obtain ⟨b, hb⟩ : ∃ b, okB k o d s i t = b := ⟨_, rfl⟩
  have HK := Lib.hid hb
  have HT := Lib.hid ht0
  have HZ := Lib.hid hz0
  have HN := Lib.hid hkn0
  clear hb ht0 hz0 hkn0
  go_enter Tryd.func4, Tryd.ntmps4
  go_wp2_with fail
  refine (toStep_any _ _ _ _ _ _ _).mono ?_
  rintro e w1 ⟨rfl, hb1⟩
  have H1 := Lib.hid (box_keep (box_new w 38 k o d s i t) hb1)
  clear hb1
  obtain ⟨-, z1, c0, c1, c2, c3, c4, c5⟩ := H1.out
  go_wp2_with fail
  refine (specStepText_any _ _ _ _ _ _ _ _ HK.out).mono ?_
  rintro e w2 ⟨rfl, hb2⟩
  have H2 := Lib.hid (box_keep H1.out hb2)
  clear hb2 c0 c1 c2 c3 c4 c5 z1
  obtain ⟨-, z1, c0, c1, c2, c3, c4, c5⟩ := H2.out
  go_wp2_with fail
  refine (toStep_any _ _ _ _ _ _ _).mono ?_
  rintro e w3 ⟨rfl, hb3⟩
  have H3 := Lib.hid (box_keep H2.out hb3)
  clear hb3 c0 c1 c2 c3 c4 c5 z1
  obtain ⟨-, z1, c0, c1, c2, c3, c4, c5⟩ := H3.out
  go_wp2_with fail
  refine (implStepText_any _ _ _ _ _ _ _ _ HK.out (tab_below HT.out H3.out.1) (Nat.lt_of_lt_of_le HZ.out H3.out.1.size) (names_below HN.out HZ.out H3.out.1)).mono ?_
  rintro e w4 ⟨rfl, hb4⟩
  have H4 := Lib.hid (box_keep H3.out hb4)
  clear hb4 c0 c1 c2 c3 c4 c5 z1
  go_wp2
  go_ret
  exact ⟨rfl, H4.out.1⟩
end Go.Proofs.YtbmonndpblnjkaaDoor
