/-
  Contracts of functions of chapter 1: each returns what the plain function beside it says, and leaves the world as it was.
-/
import Derived.Test.YtilnegmjnbffhaaDoorRows
import Derived.Test.YtilnegmjnbffhaaDoorOBits
import Derived.WalkKit
import Derived.ProofKit
import Derived.OpenShut
import Derived.Outline
import Derived.IntWalk
import Derived.Lib.Hide
namespace Go.Proofs.YtilnegmjnbffhaaDoor.Op
open Go.ChangeShapes Go.WideShapes Go.ChangeAt Go.RowKit

set_option maxRecDepth 100000 in
set_option maxHeartbeats 400000 in
theorem isWord_any (a : Int) (w : World) (b : Bool) (hb : isW a = b) :
    Calls Tryd.prog 72 #[.int .i64 a] w fun e w' => e = .returned (.bool b) ∧ w = w' := by
  subst hb
  by_cases h1 : 0 ≤ a
  · by_cases h2 : a < 65536
    all_goals
      go_enter Tryd.func72, Tryd.ntmps72
      go_wp2
      go_ret
      exact ⟨ret_bool (by simp [isW]; omega), rfl⟩
  · go_enter Tryd.func72, Tryd.ntmps72
    go_wp2
    go_ret
    exact ⟨ret_bool (by simp [isW]; omega), rfl⟩

set_option maxRecDepth 100000 in
set_option maxHeartbeats 400000 in
theorem l1In_any (a lo hi : Int) (w : World) (b : Bool) (hb : decide (lo ≤ a ∧ a ≤ hi) = b) :
    Calls Tryd.prog 44 #[.int .i64 a, .int .i64 lo, .int .i64 hi] w fun e w' => e = .returned (.bool b) ∧ w = w' := by
  subst hb
  by_cases h1 : lo ≤ a
  · by_cases h2 : a ≤ hi
    all_goals
      go_enter Tryd.func44, Tryd.ntmps44
      go_wp2
      go_ret
      exact ⟨ret_bool (by simp; omega), rfl⟩
  · go_enter Tryd.func44, Tryd.ntmps44
    go_wp2
    go_ret
    exact ⟨ret_bool (by simp; omega), rfl⟩

set_option maxRecDepth 100000 in
set_option maxHeartbeats 400000 in
theorem wordOf_any (n : Int) (w : World) :
    Calls Tryd.prog 79 #[.int .i64 n] w fun e w' => e = .returned (.int .i64 (wd n)) ∧ w = w' := by
  go_enter Tryd.func79, Tryd.ntmps79
  go_wp2
  · go_ret
    exact ⟨ret_int (wd_neg n ‹_›), rfl⟩
  · go_ret
    exact ⟨ret_int (wd_pos n ‹_›), rfl⟩

end Go.Proofs.YtilnegmjnbffhaaDoor.Op
