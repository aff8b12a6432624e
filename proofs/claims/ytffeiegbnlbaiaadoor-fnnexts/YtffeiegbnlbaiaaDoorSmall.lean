/-
  Contracts of the small tests of chapter 2, and of equality of steps.
-/
import Derived.Test.YtffeiegbnlbaiaaDoorRows
import Derived.Test.YtffeiegbnlbaiaaDoorStepMath
import Derived.WalkKit
import Derived.ProofKit
import Derived.OpenShut
import Derived.Outline
import Derived.IntWalk
import Derived.Lib.Hide
namespace Go.Proofs.YtffeiegbnlbaiaaDoor
open Go.ChangeShapes Go.WideShapes Go.ChangeAt Go.RowKit

set_option maxRecDepth 100000 in
set_option maxHeartbeats 400000 in
theorem isOp_any (a : Int) (w : World) :
    Calls Tryd.prog 41 #[.int .i64 a] w fun e w' => e = .returned (.bool (inB 1 10 a)) ∧ w = w' := by
  by_cases h1 : 1 ≤ a
  all_goals
    by_cases h2 : a ≤ 10
    all_goals
      go_enter Tryd.func41, Tryd.ntmps41
      go_wp2
      go_ret
      exact ⟨ret_bool (by rw [eq_comm]; apply inB_mk; simp; omega), rfl⟩

set_option maxRecDepth 100000 in
set_option maxHeartbeats 400000 in
theorem isReg_any (a : Int) (w : World) :
    Calls Tryd.prog 42 #[.int .i64 a] w fun e w' => e = .returned (.bool (inB 0 5 a)) ∧ w = w' := by
  by_cases h1 : 0 ≤ a
  all_goals
    by_cases h2 : a < 6
    all_goals
      go_enter Tryd.func42, Tryd.ntmps42
      go_wp2
      go_ret
      exact ⟨ret_bool (by rw [eq_comm]; apply inB_mk; simp; omega), rfl⟩

set_option maxRecDepth 100000 in
set_option maxHeartbeats 400000 in
theorem isByte_any (a : Int) (w : World) :
    Calls Tryd.prog 43 #[.int .i64 a] w fun e w' => e = .returned (.bool (inB 0 255 a)) ∧ w = w' := by
  by_cases h1 : 0 ≤ a
  all_goals
    by_cases h2 : a < 256
    all_goals
      go_enter Tryd.func43, Tryd.ntmps43
      go_wp2
      go_ret
      exact ⟨ret_bool (by rw [eq_comm]; apply inB_mk; simp; omega), rfl⟩

set_option maxRecDepth 100000 in
set_option maxHeartbeats 400000 in
theorem isWord_any (a : Int) (w : World) :
    Calls Tryd.prog 44 #[.int .i64 a] w fun e w' => e = .returned (.bool (inB 0 65535 a)) ∧ w = w' := by
  by_cases h1 : 0 ≤ a
  all_goals
    by_cases h2 : a < 65536
    all_goals
      go_enter Tryd.func44, Tryd.ntmps44
      go_wp2
      go_ret
      exact ⟨ret_bool (by rw [eq_comm]; apply inB_mk; simp; omega), rfl⟩

set_option maxRecDepth 100000 in
set_option maxHeartbeats 400000 in
theorem isSkip_any (a : Int) (w : World) :
    Calls Tryd.prog 45 #[.int .i64 a] w fun e w' => e = .returned (.bool (inB 1 19 a)) ∧ w = w' := by
  by_cases h1 : 1 ≤ a
  all_goals
    by_cases h2 : a < 20
    all_goals
      go_enter Tryd.func45, Tryd.ntmps45
      go_wp2
      go_ret
      exact ⟨ret_bool (by rw [eq_comm]; apply inB_mk; simp; omega), rfl⟩

set_option maxRecDepth 100000 in
set_option maxHeartbeats 400000 in
theorem l1In_any (a lo hi : Int) (w : World) :
    Calls Tryd.prog 36 #[.int .i64 a, .int .i64 lo, .int .i64 hi] w fun e w' => e = .returned (.bool (inB lo hi a)) ∧ w = w' := by
  by_cases h1 : lo ≤ a
  all_goals
    by_cases h2 : a ≤ hi
    all_goals
      go_enter Tryd.func36, Tryd.ntmps36
      go_wp2
      go_ret
      exact ⟨ret_bool (by rw [eq_comm]; apply inB_mk; simp; omega), rfl⟩

set_option maxRecDepth 100000 in
set_option maxHeartbeats 400000 in
theorem l2Reg_any (a : Int) (w : World) :
    Calls Tryd.prog 37 #[.int .i64 a] w fun e w' => e = .returned (.bool (inB 0 5 a)) ∧ w = w' := by
  go_enter Tryd.func37, Tryd.ntmps37
  go_wp2_with (go_at_call 36; refine (l1In_any _ _ _ _).mono ?_; rintro e w' ⟨rfl, rfl⟩)
  go_ret
  exact ⟨rfl, rfl⟩

end Go.Proofs.YtffeiegbnlbaiaaDoor
