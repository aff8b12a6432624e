/-
  Contracts of the small tests of chapter 2, and of equality of steps.
-/
import Derived.Test.YtkffggnajoohfaaDoorRows
import Derived.Test.YtkffggnajoohfaaDoorStepMath
import Derived.WalkKit
import Derived.ProofKit
import Derived.OpenShut
import Derived.Outline
import Derived.IntWalk
import Derived.Lib.Hide
namespace Go.Proofs.YtkffggnajoohfaaDoor
open Go.ChangeShapes Go.WideShapes Go.ChangeAt Go.RowKit

set_option maxRecDepth 100000 in
set_option maxHeartbeats 400000 in
theorem isOp_any (a : Int) (w : World) :
    Calls Tryd.prog 103 #[.int .i64 a] w fun e w' => e = .returned (.bool (inB 1 10 a)) ∧ w = w' := by
  by_cases h1 : 1 ≤ a
  all_goals
    by_cases h2 : a ≤ 10
    all_goals
      go_enter Tryd.func103, Tryd.ntmps103
      go_wp2
      go_ret
      exact ⟨ret_bool (by rw [eq_comm]; apply inB_mk; simp; omega), rfl⟩

set_option maxRecDepth 100000 in
set_option maxHeartbeats 400000 in
theorem isReg_any (a : Int) (w : World) :
    Calls Tryd.prog 104 #[.int .i64 a] w fun e w' => e = .returned (.bool (inB 0 5 a)) ∧ w = w' := by
  by_cases h1 : 0 ≤ a
  all_goals
    by_cases h2 : a < 6
    all_goals
      go_enter Tryd.func104, Tryd.ntmps104
      go_wp2
      go_ret
      exact ⟨ret_bool (by rw [eq_comm]; apply inB_mk; simp; omega), rfl⟩

set_option maxRecDepth 100000 in
set_option maxHeartbeats 400000 in
theorem isByte_any (a : Int) (w : World) :
    Calls Tryd.prog 78 #[.int .i64 a] w fun e w' => e = .returned (.bool (inB 0 255 a)) ∧ w = w' := by
  by_cases h1 : 0 ≤ a
  all_goals
    by_cases h2 : a < 256
    all_goals
      go_enter Tryd.func78, Tryd.ntmps78
      go_wp2
      go_ret
      exact ⟨ret_bool (by rw [eq_comm]; apply inB_mk; simp; omega), rfl⟩

set_option maxRecDepth 100000 in
set_option maxHeartbeats 400000 in
theorem isWord_any (a : Int) (w : World) :
    Calls Tryd.prog 65 #[.int .i64 a] w fun e w' => e = .returned (.bool (inB 0 65535 a)) ∧ w = w' := by
  by_cases h1 : 0 ≤ a
  all_goals
    by_cases h2 : a < 65536
    all_goals
      go_enter Tryd.func65, Tryd.ntmps65
      go_wp2
      go_ret
      exact ⟨ret_bool (by rw [eq_comm]; apply inB_mk; simp; omega), rfl⟩

set_option maxRecDepth 100000 in
set_option maxHeartbeats 400000 in
theorem isSkip_any (a : Int) (w : World) :
    Calls Tryd.prog 105 #[.int .i64 a] w fun e w' => e = .returned (.bool (inB 1 19 a)) ∧ w = w' := by
  by_cases h1 : 1 ≤ a
  all_goals
    by_cases h2 : a < 20
    all_goals
      go_enter Tryd.func105, Tryd.ntmps105
      go_wp2
      go_ret
      exact ⟨ret_bool (by rw [eq_comm]; apply inB_mk; simp; omega), rfl⟩

set_option maxRecDepth 100000 in
set_option maxHeartbeats 400000 in
theorem l1In_any (a lo hi : Int) (w : World) :
    Calls Tryd.prog 47 #[.int .i64 a, .int .i64 lo, .int .i64 hi] w fun e w' => e = .returned (.bool (inB lo hi a)) ∧ w = w' := by
  by_cases h1 : lo ≤ a
  all_goals
    by_cases h2 : a ≤ hi
    all_goals
      go_enter Tryd.func47, Tryd.ntmps47
      go_wp2
      go_ret
      exact ⟨ret_bool (by rw [eq_comm]; apply inB_mk; simp; omega), rfl⟩

set_option maxRecDepth 100000 in
set_option maxHeartbeats 400000 in
theorem l2Reg_any (a : Int) (w : World) :
    Calls Tryd.prog 100 #[.int .i64 a] w fun e w' => e = .returned (.bool (inB 0 5 a)) ∧ w = w' := by
  go_enter Tryd.func100, Tryd.ntmps100
  go_wp2_with (go_at_call 47; refine (l1In_any _ _ _ _).mono ?_; rintro e w' ⟨rfl, rfl⟩)
  go_ret
  exact ⟨rfl, rfl⟩

end Go.Proofs.YtkffggnajoohfaaDoor
