/-
  Contracts of the model's tests of a step, and of equality and copies of steps.
-/
import Derived.Test.YtilnegmjnbffhaaFormAny
namespace Go.Proofs.Ytilnegmjnbffhaa
open Go.ChangeShapes Go.WideShapes Go.ChangeAt Go.RowKit

set_option maxRecDepth 100000 in
set_option maxHeartbeats 1000000 in
theorem l2Zero_tttff (k o d s i t : Int) (w : World) :
    Calls Try.prog 76 #[.agg #[.int .i64 k, .int .i64 o, .int .i64 d, .int .i64 s, .int .i64 i, .int .i64 t], .bool true, .bool true, .bool true, .bool false, .bool false] w fun e w' => e = .returned (.bool (i == 0 && t == 0)) ∧ Below w.heap.size w w' := by
  cases h0 : (i == 0)
  all_goals
    cases h1 : (t == 0)
    all_goals
      go_enter Try.func76, Try.ntmps76
      go_wp2
      go_ret
      exact ⟨rfl, below1 _ _⟩

set_option maxRecDepth 100000 in
set_option maxHeartbeats 1000000 in
theorem l2Zero_ttftf (k o d s i t : Int) (w : World) :
    Calls Try.prog 76 #[.agg #[.int .i64 k, .int .i64 o, .int .i64 d, .int .i64 s, .int .i64 i, .int .i64 t], .bool true, .bool true, .bool false, .bool true, .bool false] w fun e w' => e = .returned (.bool (s == 0 && t == 0)) ∧ Below w.heap.size w w' := by
  cases h0 : (s == 0)
  all_goals
    cases h1 : (t == 0)
    all_goals
      go_enter Try.func76, Try.ntmps76
      go_wp2
      go_ret
      exact ⟨rfl, below1 _ _⟩

set_option maxRecDepth 100000 in
set_option maxHeartbeats 1000000 in
theorem l2Zero_ftftf (k o d s i t : Int) (w : World) :
    Calls Try.prog 76 #[.agg #[.int .i64 k, .int .i64 o, .int .i64 d, .int .i64 s, .int .i64 i, .int .i64 t], .bool false, .bool true, .bool false, .bool true, .bool false] w fun e w' => e = .returned (.bool (o == 0 && s == 0 && t == 0)) ∧ Below w.heap.size w w' := by
  cases h0 : (o == 0)
  all_goals
    cases h1 : (s == 0)
    all_goals
      cases h2 : (t == 0)
      all_goals
        go_enter Try.func76, Try.ntmps76
        go_wp2
        go_ret
        exact ⟨rfl, below1 _ _⟩

set_option maxRecDepth 100000 in
set_option maxHeartbeats 1000000 in
theorem l2Zero_ftttf (k o d s i t : Int) (w : World) :
    Calls Try.prog 76 #[.agg #[.int .i64 k, .int .i64 o, .int .i64 d, .int .i64 s, .int .i64 i, .int .i64 t], .bool false, .bool true, .bool true, .bool true, .bool false] w fun e w' => e = .returned (.bool (o == 0 && t == 0)) ∧ Below w.heap.size w w' := by
  cases h0 : (o == 0)
  all_goals
    cases h1 : (t == 0)
    all_goals
      go_enter Try.func76, Try.ntmps76
      go_wp2
      go_ret
      exact ⟨rfl, below1 _ _⟩

set_option maxRecDepth 100000 in
set_option maxHeartbeats 1000000 in
theorem l2Zero_fffft (k o d s i t : Int) (w : World) :
    Calls Try.prog 76 #[.agg #[.int .i64 k, .int .i64 o, .int .i64 d, .int .i64 s, .int .i64 i, .int .i64 t], .bool false, .bool false, .bool false, .bool false, .bool true] w fun e w' => e = .returned (.bool (o == 0 && d == 0 && s == 0 && i == 0)) ∧ Below w.heap.size w w' := by
  cases h0 : (o == 0)
  all_goals
    cases h1 : (d == 0)
    all_goals
      cases h2 : (s == 0)
      all_goals
        cases h3 : (i == 0)
        all_goals
          go_enter Try.func76, Try.ntmps76
          go_wp2
          go_ret
          exact ⟨rfl, below1 _ _⟩

set_option maxRecDepth 100000 in
set_option maxHeartbeats 1000000 in
theorem l2Zero_fttft (k o d s i t : Int) (w : World) :
    Calls Try.prog 76 #[.agg #[.int .i64 k, .int .i64 o, .int .i64 d, .int .i64 s, .int .i64 i, .int .i64 t], .bool false, .bool true, .bool true, .bool false, .bool true] w fun e w' => e = .returned (.bool (o == 0 && i == 0)) ∧ Below w.heap.size w w' := by
  cases h0 : (o == 0)
  all_goals
    cases h1 : (i == 0)
    all_goals
      go_enter Try.func76, Try.ntmps76
      go_wp2
      go_ret
      exact ⟨rfl, below1 _ _⟩

set_option maxRecDepth 100000 in
set_option maxHeartbeats 1000000 in
theorem l2Zero_fffff (k o d s i t : Int) (w : World) :
    Calls Try.prog 76 #[.agg #[.int .i64 k, .int .i64 o, .int .i64 d, .int .i64 s, .int .i64 i, .int .i64 t], .bool false, .bool false, .bool false, .bool false, .bool false] w fun e w' => e = .returned (.bool (o == 0 && d == 0 && s == 0 && i == 0 && t == 0)) ∧ Below w.heap.size w w' := by
  cases h0 : (o == 0)
  all_goals
    cases h1 : (d == 0)
    all_goals
      cases h2 : (s == 0)
      all_goals
        cases h3 : (i == 0)
        all_goals
          cases h4 : (t == 0)
          all_goals
            go_enter Try.func76, Try.ntmps76
            go_wp2
            go_ret
            exact ⟨rfl, below1 _ _⟩

set_option maxRecDepth 100000 in
set_option maxHeartbeats 1000000 in
theorem toStep_any (k o d s i t : Int) (w : World) :
    Calls Try.prog 52 #[.agg #[.int .i64 k, .int .i64 o, .int .i64 d, .int .i64 s, .int .i64 i, .int .i64 t]] w fun e w' => e = .returned (.agg #[.int .i64 k, .int .i64 o, .int .i64 d, .int .i64 s, .int .i64 i, .int .i64 t]) ∧ Below w.heap.size w w' := by
  go_enter Try.func52, Try.ntmps52
  go_wp2
  exact bodyPost_ret (v := .agg #[.int .i64 k, .int .i64 o, .int .i64 d, .int .i64 s, .int .i64 i, .int .i64 t]) (by simp [results, Try.results52, go_sem]) rfl ⟨rfl, below3 _ _ _ _⟩

/-- are two steps equal? -/
def eqB (k o d s i t k2 o2 d2 s2 i2 t2 : Int) : Bool := k == k2 && o == o2 && d == d2 && s == s2 && i == i2 && t == t2
set_option maxRecDepth 100000 in
set_option maxHeartbeats 1000000 in
theorem eqStep_any (k o d s i t k2 o2 d2 s2 i2 t2 : Int) (w : World) :
    Calls Try.prog 53 #[.agg #[.int .i64 k, .int .i64 o, .int .i64 d, .int .i64 s, .int .i64 i, .int .i64 t], .agg #[.int .i64 k2, .int .i64 o2, .int .i64 d2, .int .i64 s2, .int .i64 i2, .int .i64 t2]] w fun e w' => e = .returned (.bool (eqB k o d s i t k2 o2 d2 s2 i2 t2)) ∧ Below w.heap.size w w' := by
  cases h0 : (k == k2)
  · have g0 : (k != k2) = true := by simp [bne, h0]
    go_enter Try.func53, Try.ntmps53
    go_wp2
    go_ret
    exact ⟨ret_bool (by simp [eqB, *]), below2 _ _ _⟩
  · have g0 : (k != k2) = false := by simp [bne, h0]
    cases h1 : (o == o2)
    · have g1 : (o != o2) = true := by simp [bne, h1]
      go_enter Try.func53, Try.ntmps53
      go_wp2
      go_ret
      exact ⟨ret_bool (by simp [eqB, *]), below2 _ _ _⟩
    · have g1 : (o != o2) = false := by simp [bne, h1]
      cases h2 : (d == d2)
      · have g2 : (d != d2) = true := by simp [bne, h2]
        go_enter Try.func53, Try.ntmps53
        go_wp2
        go_ret
        exact ⟨ret_bool (by simp [eqB, *]), below2 _ _ _⟩
      · have g2 : (d != d2) = false := by simp [bne, h2]
        cases h3 : (s == s2)
        · have g3 : (s != s2) = true := by simp [bne, h3]
          go_enter Try.func53, Try.ntmps53
          go_wp2
          go_ret
          exact ⟨ret_bool (by simp [eqB, *]), below2 _ _ _⟩
        · have g3 : (s != s2) = false := by simp [bne, h3]
          cases h4 : (i == i2)
          · have g4 : (i != i2) = true := by simp [bne, h4]
            go_enter Try.func53, Try.ntmps53
            go_wp2
            go_ret
            exact ⟨ret_bool (by simp [eqB, *]), below2 _ _ _⟩
          · have g4 : (i != i2) = false := by simp [bne, h4]
            cases h5 : (t == t2)
            · have g5 : (t != t2) = true := by simp [bne, h5]
              go_enter Try.func53, Try.ntmps53
              go_wp2
              go_ret
              exact ⟨ret_bool (by simp [eqB, *]), below2 _ _ _⟩
            · have g5 : (t != t2) = false := by simp [bne, h5]
              go_enter Try.func53, Try.ntmps53
              go_wp2
              go_ret
              exact ⟨ret_bool (by simp [eqB, *]), below2 _ _ _⟩

end Go.Proofs.Ytilnegmjnbffhaa
