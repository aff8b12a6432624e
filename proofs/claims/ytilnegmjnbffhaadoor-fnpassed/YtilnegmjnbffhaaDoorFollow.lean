/-
  Contracts of the successors of a step: the program's and the model's.
-/
import Derived.Test.YtilnegmjnbffhaaDoorCopy
namespace Go.Proofs.YtilnegmjnbffhaaDoor
open Go.ChangeShapes Go.WideShapes Go.ChangeAt Go.RowKit

/-- the steps that may follow the step at an index -/
def nextsI (k t at_ : Int) : List Int := if k = 11 then [] else if k = 8 then [at_ + t + 1] else if k = 9 ∨ k = 10 then [at_ + 1, at_ + t + 1] else [at_ + 1]

set_option maxRecDepth 100000 in
set_option maxHeartbeats 1000000 in
theorem follow_op (o d s : Int) (at_ : Int) (w : World) (ha : 0 ≤ at_ ∧ at_ ≤ 10000000) :
    Calls Tryd.prog 55 #[.iface 116 (.agg #[.int .i64 o, .int .i64 d, .int .i64 s]), .int .i64 at_] w (GaveInts w [at_ + 1]) := by
  have q0 := as_op_jump
  have q1 := as_op_branch
  have q2 := as_op_exit
  go_enter Tryd.func55, Tryd.ntmps55
  go_wp2
  go_ret
  exact gave_of (w1 := w) [at_ + 1] (Below.refl _ _) (by simp) (by simp) (by simp)

set_option maxRecDepth 100000 in
set_option maxHeartbeats 1000000 in
theorem follow_opi (o d i : Int) (at_ : Int) (w : World) (ha : 0 ≤ at_ ∧ at_ ≤ 10000000) :
    Calls Tryd.prog 55 #[.iface 118 (.agg #[.int .i64 o, .int .i64 d, .int .i64 i]), .int .i64 at_] w (GaveInts w [at_ + 1]) := by
  have q0 := as_opi_jump
  have q1 := as_opi_branch
  have q2 := as_opi_exit
  go_enter Tryd.func55, Tryd.ntmps55
  go_wp2
  go_ret
  exact gave_of (w1 := w) [at_ + 1] (Below.refl _ _) (by simp) (by simp) (by simp)

set_option maxRecDepth 100000 in
set_option maxHeartbeats 1000000 in
theorem follow_byte (k d i : Int) (at_ : Int) (w : World) (ha : 0 ≤ at_ ∧ at_ ≤ 10000000) :
    Calls Tryd.prog 55 #[.iface 120 (.agg #[.int .i64 k, .int .i64 d, .int .i64 i]), .int .i64 at_] w (GaveInts w [at_ + 1]) := by
  have q0 := as_byte_jump
  have q1 := as_byte_branch
  have q2 := as_byte_exit
  go_enter Tryd.func55, Tryd.ntmps55
  go_wp2
  go_ret
  exact gave_of (w1 := w) [at_ + 1] (Below.refl _ _) (by simp) (by simp) (by simp)

set_option maxRecDepth 100000 in
set_option maxHeartbeats 1000000 in
theorem follow_wide (d i : Int) (at_ : Int) (w : World) (ha : 0 ≤ at_ ∧ at_ ≤ 10000000) :
    Calls Tryd.prog 55 #[.iface 122 (.agg #[.int .i64 d, .int .i64 i]), .int .i64 at_] w (GaveInts w [at_ + 1]) := by
  have q0 := as_wide_jump
  have q1 := as_wide_branch
  have q2 := as_wide_exit
  go_enter Tryd.func55, Tryd.ntmps55
  go_wp2
  go_ret
  exact gave_of (w1 := w) [at_ + 1] (Below.refl _ _) (by simp) (by simp) (by simp)

set_option maxRecDepth 100000 in
set_option maxHeartbeats 1000000 in
theorem follow_ctx (d s i : Int) (at_ : Int) (w : World) (ha : 0 ≤ at_ ∧ at_ ≤ 10000000) :
    Calls Tryd.prog 55 #[.iface 124 (.agg #[.int .i64 d, .int .i64 s, .int .i64 i]), .int .i64 at_] w (GaveInts w [at_ + 1]) := by
  have q0 := as_ctx_jump
  have q1 := as_ctx_branch
  have q2 := as_ctx_exit
  go_enter Tryd.func55, Tryd.ntmps55
  go_wp2
  go_ret
  exact gave_of (w1 := w) [at_ + 1] (Below.refl _ _) (by simp) (by simp) (by simp)

set_option maxRecDepth 100000 in
set_option maxHeartbeats 1000000 in
theorem follow_jump (t : Int) (at_ : Int) (w : World) (ha : 0 ≤ at_ ∧ at_ ≤ 10000000) (ht : 0 ≤ t ∧ t ≤ 100) :
    Calls Tryd.prog 55 #[.iface 102 (.agg #[.int .i64 t]), .int .i64 at_] w (GaveInts w [at_ + t + 1]) := by
  have q0 := as_jump_jump
  go_enter Tryd.func55, Tryd.ntmps55
  go_wp2
  go_ret
  exact gave_of (w1 := w.alloc (.cells #[.int .i64 t] 102)) [at_ + t + 1] (below1 _ _) (by simp) (by simp) (by simp)

set_option maxRecDepth 100000 in
set_option maxHeartbeats 1000000 in
theorem follow_branch (k d s t : Int) (at_ : Int) (w : World) (ha : 0 ≤ at_ ∧ at_ ≤ 10000000) (ht : 0 ≤ t ∧ t ≤ 100) :
    Calls Tryd.prog 55 #[.iface 104 (.agg #[.int .i64 k, .int .i64 d, .int .i64 s, .int .i64 t]), .int .i64 at_] w (GaveInts w [at_ + 1, at_ + t + 1]) := by
  have q0 := as_branch_jump
  have q1 := as_branch_branch
  go_enter Tryd.func55, Tryd.ntmps55
  go_wp2
  go_ret
  exact gave_of (w1 := w.alloc (.cells #[.int .i64 k, .int .i64 d, .int .i64 s, .int .i64 t] 104)) [at_ + 1, at_ + t + 1] (below1 _ _) (by simp) (by simp) (by simp)

set_option maxRecDepth 100000 in
set_option maxHeartbeats 1000000 in
theorem follow_exit (at_ : Int) (w : World) (_ha : 0 ≤ at_ ∧ at_ ≤ 10000000) :
    Calls Tryd.prog 55 #[.iface 106 (.agg #[]), .int .i64 at_] w (GaveInts w []) := by
  have q0 := as_exit_jump
  have q1 := as_exit_branch
  have q2 := as_exit_exit
  go_enter Tryd.func55, Tryd.ntmps55
  go_wp2
  go_ret
  exact gave_nil w _ (below1 _ _)

theorem followers_any (k o d s i t at_ : Int) (w : World) (h : okP k o d s i t) (ha : 0 ≤ at_ ∧ at_ ≤ 10000000) :
    Calls Tryd.prog 55 #[frmV k o d s i t, .int .i64 at_] w (GaveInts w (nextsI k t at_)) := by
  obtain ⟨hk, _, _, _, _, ht⟩ := okP_bounds h
  have hkn : knB k = true := by simp [knB]; omega
  rcases kinds_of hkn with rfl | rfl | rfl | rfl | rfl | rfl | rfl | rfl | rfl | rfl | rfl
  · rw [frm1]; exact follow_op o d s at_ w ha
  · rw [frm2]; exact follow_opi o d i at_ w ha
  · rw [frm3]; exact follow_byte 3 d i at_ w ha
  · rw [frm4]; exact follow_wide d i at_ w ha
  · rw [frm5]; exact follow_ctx d s i at_ w ha
  · rw [frm6]; exact follow_byte 6 d i at_ w ha
  · rw [frm7]; exact follow_byte 7 d i at_ w ha
  · rw [frm8]; exact follow_jump t at_ w ha (by omega)
  · rw [frm9]; exact follow_branch 9 d s t at_ w ha (by omega)
  · rw [frm10]; exact follow_branch 10 d s t at_ w ha (by omega)
  · rw [frm11]; exact follow_exit  at_ w ha
end Go.Proofs.YtilnegmjnbffhaaDoor
