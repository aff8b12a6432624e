/-
  Contracts of the small tests of chapter 2, and of equality of steps.
-/
import Derived.Test.YtmfganodnlnjcaaDoorRows
import Derived.Test.YtmfganodnlnjcaaDoorStepMath
import Derived.WalkKit
import Derived.ProofKit
import Derived.OpenShut
import Derived.Outline
import Derived.IntWalk
import Derived.Lib.Hide
namespace Go.Proofs.YtmfganodnlnjcaaDoor
open Go.ChangeShapes Go.WideShapes Go.ChangeAt Go.RowKit

set_option maxRecDepth 100000 in
set_option maxHeartbeats 400000 in
theorem isWord_any (a : Int) (w : World) :
    Calls Tryd.prog 40 #[.int .i64 a] w fun e w' => e = .returned (.bool (inB 0 65535 a)) ∧ w = w' := by
  by_cases h1 : 0 ≤ a
  all_goals
    by_cases h2 : a < 65536
    all_goals
      go_enter Tryd.func40, Tryd.ntmps40
      go_wp2
      go_ret
      exact ⟨ret_bool (by rw [eq_comm]; apply inB_mk; simp; omega), rfl⟩

set_option maxRecDepth 100000 in
set_option maxHeartbeats 400000 in
theorem l1In_any (a lo hi : Int) (w : World) :
    Calls Tryd.prog 38 #[.int .i64 a, .int .i64 lo, .int .i64 hi] w fun e w' => e = .returned (.bool (inB lo hi a)) ∧ w = w' := by
  by_cases h1 : lo ≤ a
  all_goals
    by_cases h2 : a ≤ hi
    all_goals
      go_enter Tryd.func38, Tryd.ntmps38
      go_wp2
      go_ret
      exact ⟨ret_bool (by rw [eq_comm]; apply inB_mk; simp; omega), rfl⟩

end Go.Proofs.YtmfganodnlnjcaaDoor
