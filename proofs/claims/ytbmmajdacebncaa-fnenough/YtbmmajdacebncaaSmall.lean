/-
  Contracts of the small tests of chapter 2, and of equality of steps.
-/
import Derived.Test.YtbmmajdacebncaaRows
import Derived.Test.YtbmmajdacebncaaStepMath
import Derived.WalkKit
import Derived.ProofKit
import Derived.OpenShut
import Derived.Outline
import Derived.IntWalk
import Derived.Lib.Hide
namespace Go.Proofs.Ytbmmajdacebncaa
open Go.ChangeShapes Go.WideShapes Go.ChangeAt Go.RowKit

set_option maxRecDepth 100000 in
set_option maxHeartbeats 400000 in
theorem l1In_any (a lo hi : Int) (w : World) :
    Calls Try.prog 54 #[.int .i64 a, .int .i64 lo, .int .i64 hi] w fun e w' => e = .returned (.bool (inB lo hi a)) ∧ w = w' := by
  by_cases h1 : lo ≤ a
  all_goals
    by_cases h2 : a ≤ hi
    all_goals
      go_enter Try.func54, Try.ntmps54
      go_wp2
      go_ret
      exact ⟨ret_bool (by rw [eq_comm]; apply inB_mk; simp; omega), rfl⟩

end Go.Proofs.Ytbmmajdacebncaa
