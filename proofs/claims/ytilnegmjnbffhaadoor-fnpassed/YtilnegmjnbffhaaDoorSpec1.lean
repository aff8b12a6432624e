/-
  Contracts of the model's tests of a step, and of equality and copies of steps.
-/
import Derived.Test.YtilnegmjnbffhaaDoorFormAny
namespace Go.Proofs.YtilnegmjnbffhaaDoor
open Go.ChangeShapes Go.WideShapes Go.ChangeAt Go.RowKit

set_option maxRecDepth 100000 in
set_option maxHeartbeats 1000000 in
theorem l2Zero_tttff (k o d s i t : Int) (w : World) :
    Calls Tryd.prog 62 #[.agg #[.int .i64 k, .int .i64 o, .int .i64 d, .int .i64 s, .int .i64 i, .int .i64 t], .bool true, .bool true, .bool true, .bool false, .bool false] w fun e w' => e = .returned (.bool (i == 0 && t == 0)) ∧ Below w.heap.size w w' := by
  cases h0 : (i == 0)
  all_goals
    cases h1 : (t == 0)
    all_goals
      go_enter Tryd.func62, Tryd.ntmps62
      go_wp2
      go_ret
      exact ⟨rfl, below1 _ _⟩

set_option maxRecDepth 100000 in
set_option maxHeartbeats 1000000 in
theorem l2Zero_ttftf (k o d s i t : Int) (w : World) :
    Calls Tryd.prog 62 #[.agg #[.int .i64 k, .int .i64 o, .int .i64 d, .int .i64 s, .int .i64 i, .int .i64 t], .bool true, .bool true, .bool false, .bool true, .bool false] w fun e w' => e = .returned (.bool (s == 0 && t == 0)) ∧ Below w.heap.size w w' := by
  cases h0 : (s == 0)
  all_goals
    cases h1 : (t == 0)
    all_goals
      go_enter Tryd.func62, Tryd.ntmps62
      go_wp2
      go_ret
      exact ⟨rfl, below1 _ _⟩

set_option maxRecDepth 100000 in
set_option maxHeartbeats 1000000 in
theorem l2Zero_ftftf (k o d s i t : Int) (w : World) :
    Calls Tryd.prog 62 #[.agg #[.int .i64 k, .int .i64 o, .int .i64 d, .int .i64 s, .int .i64 i, .int .i64 t], .bool false, .bool true, .bool false, .bool true, .bool false] w fun e w' => e = .returned (.bool (o == 0 && s == 0 && t == 0)) ∧ Below w.heap.size w w' := by
  cases h0 : (o == 0)
  all_goals
    cases h1 : (s == 0)
    all_goals
      cases h2 : (t == 0)
      all_goals
        go_enter Tryd.func62, Tryd.ntmps62
        go_wp2
        go_ret
        exact ⟨rfl, below1 _ _⟩

set_option maxRecDepth 100000 in
set_option maxHeartbeats 1000000 in
theorem l2Zero_ftttf (k o d s i t : Int) (w : World) :
    Calls Tryd.prog 62 #[.agg #[.int .i64 k, .int .i64 o, .int .i64 d, .int .i64 s, .int .i64 i, .int .i64 t], .bool false, .bool true, .bool true, .bool true, .bool false] w fun e w' => e = .returned (.bool (o == 0 && t == 0)) ∧ Below w.heap.size w w' := by
  cases h0 : (o == 0)
  all_goals
    cases h1 : (t == 0)
    all_goals
      go_enter Tryd.func62, Tryd.ntmps62
      go_wp2
      go_ret
      exact ⟨rfl, below1 _ _⟩

set_option maxRecDepth 100000 in
set_option maxHeartbeats 1000000 in
theorem l2Zero_fffft (k o d s i t : Int) (w : World) :
    Calls Tryd.prog 62 #[.agg #[.int .i64 k, .int .i64 o, .int .i64 d, .int .i64 s, .int .i64 i, .int .i64 t], .bool false, .bool false, .bool false, .bool false, .bool true] w fun e w' => e = .returned (.bool (o == 0 && d == 0 && s == 0 && i == 0)) ∧ Below w.heap.size w w' := by
  cases h0 : (o == 0)
  all_goals
    cases h1 : (d == 0)
    all_goals
      cases h2 : (s == 0)
      all_goals
        cases h3 : (i == 0)
        all_goals
          go_enter Tryd.func62, Tryd.ntmps62
          go_wp2
          go_ret
          exact ⟨rfl, below1 _ _⟩

set_option maxRecDepth 100000 in
set_option maxHeartbeats 1000000 in
theorem l2Zero_fttft (k o d s i t : Int) (w : World) :
    Calls Tryd.prog 62 #[.agg #[.int .i64 k, .int .i64 o, .int .i64 d, .int .i64 s, .int .i64 i, .int .i64 t], .bool false, .bool true, .bool true, .bool false, .bool true] w fun e w' => e = .returned (.bool (o == 0 && i == 0)) ∧ Below w.heap.size w w' := by
  cases h0 : (o == 0)
  all_goals
    cases h1 : (i == 0)
    all_goals
      go_enter Tryd.func62, Tryd.ntmps62
      go_wp2
      go_ret
      exact ⟨rfl, below1 _ _⟩

set_option maxRecDepth 100000 in
set_option maxHeartbeats 1000000 in
theorem l2Zero_fffff (k o d s i t : Int) (w : World) :
    Calls Tryd.prog 62 #[.agg #[.int .i64 k, .int .i64 o, .int .i64 d, .int .i64 s, .int .i64 i, .int .i64 t], .bool false, .bool false, .bool false, .bool false, .bool false] w fun e w' => e = .returned (.bool (o == 0 && d == 0 && s == 0 && i == 0 && t == 0)) ∧ Below w.heap.size w w' := by
  cases h0 : (o == 0)
  all_goals
    cases h1 : (d == 0)
    all_goals
      cases h2 : (s == 0)
      all_goals
        cases h3 : (i == 0)
        all_goals
          cases h4 : (t == 0)
          all_goals
            go_enter Tryd.func62, Tryd.ntmps62
            go_wp2
            go_ret
            exact ⟨rfl, below1 _ _⟩

/-- are two steps equal? -/
def eqB (k o d s i t k2 o2 d2 s2 i2 t2 : Int) : Bool := k == k2 && o == o2 && d == d2 && s == s2 && i == i2 && t == t2
end Go.Proofs.YtilnegmjnbffhaaDoor
