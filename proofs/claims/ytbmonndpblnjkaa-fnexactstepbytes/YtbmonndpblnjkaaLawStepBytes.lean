/-
  The walk of the law of StepBytes.
-/
import Derived.Test.YtbmonndpblnjkaaEnc2
namespace Go.Proofs.Ytbmonndpblnjkaa
open Go.ChangeShapes Go.WideShapes Go.ChangeAt Go.RowKit

theorem Below.tr {w w1 w2 : World} (h : Below w.heap.size w w1) (k : Below w1.heap.size w1 w2) : Below w.heap.size w w2 := h.trans (k.mono h.size)

set_option maxHeartbeats 1000000 in
theorem lawStepBytes (k o d s i t : Int) (w : World) :
    Calls Try.prog 5 #[.agg #[.int .i64 k, .int .i64 o, .int .i64 d, .int .i64 s, .int .i64 i, .int .i64 t]] w fun e w' => e = .returned (.bool true) ∧ Below w.heap.size w w' := by
  obtain ⟨b, hb⟩ : ∃ b, okB k o d s i t = b := ⟨_, rfl⟩
  have HK := Lib.hid hb
  clear hb
  go_enter Try.func5, Try.ntmps5
  go_wp2_with fail
  refine (toStep_any _ _ _ _ _ _ _).mono ?_
  rintro e w1 ⟨rfl, hb1⟩
  have H1 := Lib.hid (box_keep (box_new w 43 k o d s i t) hb1)
  clear hb1
  obtain ⟨-, z1, c0, c1, c2, c3, c4, c5⟩ := H1.out
  go_wp2_with fail
  refine (specStepBytes_any _ _ _ _ _ _ _ _ HK.out).mono ?_
  rintro e w2 ⟨rfl, hb2⟩
  have H2 := Lib.hid (box_keep H1.out hb2)
  clear hb2 c0 c1 c2 c3 c4 c5 z1
  obtain ⟨-, z1, c0, c1, c2, c3, c4, c5⟩ := H2.out
  go_wp2_with fail
  refine (toStep_any _ _ _ _ _ _ _).mono ?_
  rintro e w3 ⟨rfl, hb3⟩
  have H3 := Lib.hid (box_keep H2.out hb3)
  clear hb3 c0 c1 c2 c3 c4 c5 z1
  obtain ⟨-, z1, c0, c1, c2, c3, c4, c5⟩ := H3.out
  go_wp2_with fail
  refine (stepBytes_any _ _ _ _ _ _ _ _ HK.out).mono ?_
  rintro e w4 ⟨rfl, hb4⟩
  have H4 := Lib.hid (box_keep H3.out hb4)
  clear hb4 c0 c1 c2 c3 c4 c5 z1
  go_wp2
  go_ret
  exact ⟨rfl, H4.out.1⟩
end Go.Proofs.Ytbmonndpblnjkaa
