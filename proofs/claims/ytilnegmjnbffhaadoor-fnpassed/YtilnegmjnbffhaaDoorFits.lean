/-
  Contract of the test whether the fields of a form are in their ranges.
-/
import Derived.Test.YtilnegmjnbffhaaDoorForms
namespace Go.Proofs.YtilnegmjnbffhaaDoor
open Go.ChangeShapes Go.WideShapes Go.ChangeAt Go.RowKit

set_option maxRecDepth 100000 in
set_option maxHeartbeats 1000000 in
theorem fits_op (o d s : Int) (w : World) :
    Calls Tryd.prog 64 #[.iface 116 (.agg #[.int .i64 o, .int .i64 d, .int .i64 s])] w fun e w' => e = .returned (.bool (inB 1 10 o && inB 0 5 d && inB 0 5 s)) ∧ Below w.heap.size w w' := by
  cases h0 : inB 1 10 o
  all_goals
    cases h1 : inB 0 5 d
    all_goals
      cases h2 : inB 0 5 s
      all_goals
        have q0 := as_op_op
        go_enter Tryd.func64, Tryd.ntmps64
        go_wp2_with (first | (go_at_call 70; refine (isOp_any _ _).mono ?_; rintro e w' ⟨rfl, rfl⟩) | (go_at_call 71; refine (isReg_any _ _).mono ?_; rintro e w' ⟨rfl, rfl⟩) | (go_at_call 56; refine (isByte_any _ _).mono ?_; rintro e w' ⟨rfl, rfl⟩) | (go_at_call 72; refine (isWord_any _ _).mono ?_; rintro e w' ⟨rfl, rfl⟩) | (go_at_call 73; refine (isSkip_any _ _).mono ?_; rintro e w' ⟨rfl, rfl⟩))
        go_ret
        exact ⟨ret_bool (by simp [*]), below1 _ _⟩

set_option maxRecDepth 100000 in
set_option maxHeartbeats 1000000 in
theorem fits_opi (o d i : Int) (w : World) :
    Calls Tryd.prog 64 #[.iface 118 (.agg #[.int .i64 o, .int .i64 d, .int .i64 i])] w fun e w' => e = .returned (.bool (inB 1 10 o && inB 0 5 d && inB 0 255 i)) ∧ Below w.heap.size w w' := by
  cases h0 : inB 1 10 o
  all_goals
    cases h1 : inB 0 5 d
    all_goals
      cases h2 : inB 0 255 i
      all_goals
        have q0 := as_opi_op
        have q1 := as_opi_opi
        go_enter Tryd.func64, Tryd.ntmps64
        go_wp2_with (first | (go_at_call 70; refine (isOp_any _ _).mono ?_; rintro e w' ⟨rfl, rfl⟩) | (go_at_call 71; refine (isReg_any _ _).mono ?_; rintro e w' ⟨rfl, rfl⟩) | (go_at_call 56; refine (isByte_any _ _).mono ?_; rintro e w' ⟨rfl, rfl⟩) | (go_at_call 72; refine (isWord_any _ _).mono ?_; rintro e w' ⟨rfl, rfl⟩) | (go_at_call 73; refine (isSkip_any _ _).mono ?_; rintro e w' ⟨rfl, rfl⟩))
        go_ret
        exact ⟨ret_bool (by simp [*]), below1 _ _⟩

set_option maxRecDepth 100000 in
set_option maxHeartbeats 1000000 in
theorem fits_byte (k d i : Int) (w : World) :
    Calls Tryd.prog 64 #[.iface 120 (.agg #[.int .i64 k, .int .i64 d, .int .i64 i])] w fun e w' => e = .returned (.bool (inB 0 5 d && inB 0 255 i)) ∧ Below w.heap.size w w' := by
  cases h0 : inB 0 5 d
  all_goals
    cases h1 : inB 0 255 i
    all_goals
      have q0 := as_byte_op
      have q1 := as_byte_opi
      have q2 := as_byte_byte
      go_enter Tryd.func64, Tryd.ntmps64
      go_wp2_with (first | (go_at_call 70; refine (isOp_any _ _).mono ?_; rintro e w' ⟨rfl, rfl⟩) | (go_at_call 71; refine (isReg_any _ _).mono ?_; rintro e w' ⟨rfl, rfl⟩) | (go_at_call 56; refine (isByte_any _ _).mono ?_; rintro e w' ⟨rfl, rfl⟩) | (go_at_call 72; refine (isWord_any _ _).mono ?_; rintro e w' ⟨rfl, rfl⟩) | (go_at_call 73; refine (isSkip_any _ _).mono ?_; rintro e w' ⟨rfl, rfl⟩))
      go_ret
      exact ⟨ret_bool (by simp [*]), below1 _ _⟩

set_option maxRecDepth 100000 in
set_option maxHeartbeats 1000000 in
theorem fits_wide (d i : Int) (w : World) :
    Calls Tryd.prog 64 #[.iface 122 (.agg #[.int .i64 d, .int .i64 i])] w fun e w' => e = .returned (.bool (inB 0 5 d && inB 0 65535 i && !inB 0 255 i)) ∧ Below w.heap.size w w' := by
  cases h0 : inB 0 5 d
  all_goals
    cases h1 : inB 0 65535 i
    all_goals
      cases h2 : inB 0 255 i
      all_goals
        have q0 := as_wide_op
        have q1 := as_wide_opi
        have q2 := as_wide_byte
        have q3 := as_wide_wide
        go_enter Tryd.func64, Tryd.ntmps64
        go_wp2_with (first | (go_at_call 70; refine (isOp_any _ _).mono ?_; rintro e w' ⟨rfl, rfl⟩) | (go_at_call 71; refine (isReg_any _ _).mono ?_; rintro e w' ⟨rfl, rfl⟩) | (go_at_call 56; refine (isByte_any _ _).mono ?_; rintro e w' ⟨rfl, rfl⟩) | (go_at_call 72; refine (isWord_any _ _).mono ?_; rintro e w' ⟨rfl, rfl⟩) | (go_at_call 73; refine (isSkip_any _ _).mono ?_; rintro e w' ⟨rfl, rfl⟩))
        go_ret
        exact ⟨ret_bool (by simp [*]), below1 _ _⟩

set_option maxRecDepth 100000 in
set_option maxHeartbeats 1000000 in
theorem fits_ctx (d s i : Int) (w : World) :
    Calls Tryd.prog 64 #[.iface 124 (.agg #[.int .i64 d, .int .i64 s, .int .i64 i])] w fun e w' => e = .returned (.bool (inB 0 5 d && inB 0 5 s && inB 0 7 i)) ∧ Below w.heap.size w w' := by
  cases e0 : decide (0 ≤ i)
  all_goals
    cases e7 : decide (i ≤ 7)
    all_goals
      have h3 : inB 0 7 i = decide (0 ≤ i ∧ i ≤ 7) := rfl
      cases h1 : inB 0 5 d
      all_goals
        cases h2 : inB 0 5 s
        all_goals
          have H3 := Lib.hid h3
          clear h3
          have q0 := as_ctx_op
          have q1 := as_ctx_opi
          have q2 := as_ctx_byte
          have q3 := as_ctx_wide
          have q4 := as_ctx_ctx
          go_enter Tryd.func64, Tryd.ntmps64
          go_wp2_with (first | (go_at_call 70; refine (isOp_any _ _).mono ?_; rintro e w' ⟨rfl, rfl⟩) | (go_at_call 71; refine (isReg_any _ _).mono ?_; rintro e w' ⟨rfl, rfl⟩) | (go_at_call 56; refine (isByte_any _ _).mono ?_; rintro e w' ⟨rfl, rfl⟩) | (go_at_call 72; refine (isWord_any _ _).mono ?_; rintro e w' ⟨rfl, rfl⟩) | (go_at_call 73; refine (isSkip_any _ _).mono ?_; rintro e w' ⟨rfl, rfl⟩))
          go_ret
          exact ⟨ret_bool (by rw [H3.out, Bool.decide_and, e0, e7]; first | rfl | simp [*]), below1 _ _⟩

set_option maxRecDepth 100000 in
set_option maxHeartbeats 1000000 in
theorem fits_jump (t : Int) (w : World) :
    Calls Tryd.prog 64 #[.iface 102 (.agg #[.int .i64 t])] w fun e w' => e = .returned (.bool (inB 1 19 t)) ∧ Below w.heap.size w w' := by
  cases h0 : inB 1 19 t
  all_goals
    have q0 := as_jump_op
    have q1 := as_jump_opi
    have q2 := as_jump_byte
    have q3 := as_jump_wide
    have q4 := as_jump_ctx
    have q5 := as_jump_jump
    go_enter Tryd.func64, Tryd.ntmps64
    go_wp2_with (first | (go_at_call 70; refine (isOp_any _ _).mono ?_; rintro e w' ⟨rfl, rfl⟩) | (go_at_call 71; refine (isReg_any _ _).mono ?_; rintro e w' ⟨rfl, rfl⟩) | (go_at_call 56; refine (isByte_any _ _).mono ?_; rintro e w' ⟨rfl, rfl⟩) | (go_at_call 72; refine (isWord_any _ _).mono ?_; rintro e w' ⟨rfl, rfl⟩) | (go_at_call 73; refine (isSkip_any _ _).mono ?_; rintro e w' ⟨rfl, rfl⟩))
    go_ret
    exact ⟨ret_bool (by simp [*]), below1 _ _⟩

set_option maxRecDepth 100000 in
set_option maxHeartbeats 1000000 in
theorem fits_branch (k d s t : Int) (w : World) :
    Calls Tryd.prog 64 #[.iface 104 (.agg #[.int .i64 k, .int .i64 d, .int .i64 s, .int .i64 t])] w fun e w' => e = .returned (.bool (inB 0 5 d && inB 0 5 s && inB 1 19 t)) ∧ Below w.heap.size w w' := by
  cases h0 : inB 0 5 d
  all_goals
    cases h1 : inB 0 5 s
    all_goals
      cases h2 : inB 1 19 t
      all_goals
        have q0 := as_branch_op
        have q1 := as_branch_opi
        have q2 := as_branch_byte
        have q3 := as_branch_wide
        have q4 := as_branch_ctx
        have q5 := as_branch_jump
        have q6 := as_branch_branch
        go_enter Tryd.func64, Tryd.ntmps64
        go_wp2_with (first | (go_at_call 70; refine (isOp_any _ _).mono ?_; rintro e w' ⟨rfl, rfl⟩) | (go_at_call 71; refine (isReg_any _ _).mono ?_; rintro e w' ⟨rfl, rfl⟩) | (go_at_call 56; refine (isByte_any _ _).mono ?_; rintro e w' ⟨rfl, rfl⟩) | (go_at_call 72; refine (isWord_any _ _).mono ?_; rintro e w' ⟨rfl, rfl⟩) | (go_at_call 73; refine (isSkip_any _ _).mono ?_; rintro e w' ⟨rfl, rfl⟩))
        go_ret
        exact ⟨ret_bool (by simp [*]), below1 _ _⟩

set_option maxRecDepth 100000 in
set_option maxHeartbeats 1000000 in
theorem fits_exit (w : World) :
    Calls Tryd.prog 64 #[.iface 106 (.agg #[])] w fun e w' => e = .returned (.bool (true)) ∧ Below w.heap.size w w' := by
  have q0 := as_exit_op
  have q1 := as_exit_opi
  have q2 := as_exit_byte
  have q3 := as_exit_wide
  have q4 := as_exit_ctx
  have q5 := as_exit_jump
  have q6 := as_exit_branch
  have q7 := as_exit_exit
  go_enter Tryd.func64, Tryd.ntmps64
  go_wp2_with (first | (go_at_call 70; refine (isOp_any _ _).mono ?_; rintro e w' ⟨rfl, rfl⟩) | (go_at_call 71; refine (isReg_any _ _).mono ?_; rintro e w' ⟨rfl, rfl⟩) | (go_at_call 56; refine (isByte_any _ _).mono ?_; rintro e w' ⟨rfl, rfl⟩) | (go_at_call 72; refine (isWord_any _ _).mono ?_; rintro e w' ⟨rfl, rfl⟩) | (go_at_call 73; refine (isSkip_any _ _).mono ?_; rintro e w' ⟨rfl, rfl⟩))
  go_ret
  exact ⟨ret_bool (by simp [*]), below1 _ _⟩

/-- are the fields that the kind has in their ranges? -/
def fitB (k o d s i t : Int) : Bool :=
  if k = 1 then (inB 1 10 o && inB 0 5 d && inB 0 5 s)
  else if k = 2 then (inB 1 10 o && inB 0 5 d && inB 0 255 i)
  else if k = 3 then (inB 0 5 d && inB 0 255 i)
  else if k = 4 then (inB 0 5 d && inB 0 65535 i && !inB 0 255 i)
  else if k = 5 then (inB 0 5 d && inB 0 5 s && inB 0 7 i)
  else if k = 6 then (inB 0 5 d && inB 0 255 i)
  else if k = 7 then (inB 0 5 d && inB 0 255 i)
  else if k = 8 then (inB 1 19 t)
  else if k = 9 then (inB 0 5 d && inB 0 5 s && inB 1 19 t)
  else if k = 10 then (inB 0 5 d && inB 0 5 s && inB 1 19 t)
  else if k = 11 then (true)
  else false
theorem fits_any (k o d s i t : Int) (w : World) (h : knB k = true) :
    Calls Tryd.prog 64 #[frmV k o d s i t] w fun e w' => e = .returned (.bool (fitB k o d s i t)) ∧ Below w.heap.size w w' := by
  rcases kinds_of h with rfl | rfl | rfl | rfl | rfl | rfl | rfl | rfl | rfl | rfl | rfl
  · rw [frm1]; exact fits_op o d s w
  · rw [frm2]; exact fits_opi o d i w
  · rw [frm3]; exact fits_byte 3 d i w
  · rw [frm4]; exact fits_wide d i w
  · rw [frm5]; exact fits_ctx d s i w
  · rw [frm6]; exact fits_byte 6 d i w
  · rw [frm7]; exact fits_byte 7 d i w
  · rw [frm8]; exact fits_jump t w
  · rw [frm9]; exact fits_branch 9 d s t w
  · rw [frm10]; exact fits_branch 10 d s t w
  · rw [frm11]; exact fits_exit  w
end Go.Proofs.YtilnegmjnbffhaaDoor
