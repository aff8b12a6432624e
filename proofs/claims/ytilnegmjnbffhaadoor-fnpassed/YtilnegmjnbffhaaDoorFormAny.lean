/-
  The form of a step, every kind.
-/
import Derived.Test.YtilnegmjnbffhaaDoorFormOf
namespace Go.Proofs.YtilnegmjnbffhaaDoor
open Go.ChangeShapes Go.WideShapes Go.ChangeAt Go.RowKit

theorem ok1 (o d s i t : Int) : okB 1 o d s i t = (inB 1 10 o && inB 0 5 d && inB 0 5 s && i == 0 && t == 0) := by
  rw [Bool.eq_iff_iff]
  simp [okB, okP, inB]
  try omega
theorem eq_of_pure1 {o d s i t : Int} {b : Bool} (h : (i == 0 && t == 0) = b) : (!((1 : Int) == 1 && (o : Int) == o && (d : Int) == d && (s : Int) == s && (0 : Int) == i && (0 : Int) == t)) = !b := by
  rw [← h]
  congr 1
  rw [Bool.eq_iff_iff]
  simp only [Bool.and_eq_true, beq_iff_eq, true_and, and_true]
  omega
theorem fa1 (o d s i t : Int) (w : World) :
    Calls Tryd.prog 54 #[.agg #[.int .i64 1, .int .i64 o, .int .i64 d, .int .i64 s, .int .i64 i, .int .i64 t]] w fun e w' => e = .returned (.tuple #[if okB 1 o d s i t then frmV 1 o d s i t else .nilIface, .bool (okB 1 o d s i t)]) ∧ Below w.heap.size w w' := by
  rw [ok1, frm1]
  cases hf : (inB 1 10 o && inB 0 5 d && inB 0 5 s)
  · simp only [Bool.false_and, Bool.false_eq_true, if_false]
    exact fo_op_f o d s i t w hf
  · simp only [Bool.true_and]
    cases hp : (i == 0 && t == 0)
    · simp only [Bool.false_eq_true, if_false]
      exact fo_op_n o d s i t w hf (fun w => by rw [neq_step, eq_of_pure1 hp]; rfl)
    · simp only [if_true]
      exact fo_op_y o d s i t w hf (fun w => by rw [neq_step, eq_of_pure1 hp]; rfl)
theorem ok2 (o d s i t : Int) : okB 2 o d s i t = (inB 1 10 o && inB 0 5 d && inB 0 255 i && s == 0 && t == 0) := by
  rw [Bool.eq_iff_iff]
  simp [okB, okP, inB]
  try omega
theorem eq_of_pure2 {o d s i t : Int} {b : Bool} (h : (s == 0 && t == 0) = b) : (!((2 : Int) == 2 && (o : Int) == o && (d : Int) == d && (0 : Int) == s && (i : Int) == i && (0 : Int) == t)) = !b := by
  rw [← h]
  congr 1
  rw [Bool.eq_iff_iff]
  simp only [Bool.and_eq_true, beq_iff_eq, true_and, and_true]
  omega
theorem fa2 (o d s i t : Int) (w : World) :
    Calls Tryd.prog 54 #[.agg #[.int .i64 2, .int .i64 o, .int .i64 d, .int .i64 s, .int .i64 i, .int .i64 t]] w fun e w' => e = .returned (.tuple #[if okB 2 o d s i t then frmV 2 o d s i t else .nilIface, .bool (okB 2 o d s i t)]) ∧ Below w.heap.size w w' := by
  rw [ok2, frm2]
  cases hf : (inB 1 10 o && inB 0 5 d && inB 0 255 i)
  · simp only [Bool.false_and, Bool.false_eq_true, if_false]
    exact fo_opi_f o d s i t w hf
  · simp only [Bool.true_and]
    cases hp : (s == 0 && t == 0)
    · simp only [Bool.false_eq_true, if_false]
      exact fo_opi_n o d s i t w hf (fun w => by rw [neq_step, eq_of_pure2 hp]; rfl)
    · simp only [if_true]
      exact fo_opi_y o d s i t w hf (fun w => by rw [neq_step, eq_of_pure2 hp]; rfl)
theorem ok3 (o d s i t : Int) : okB 3 o d s i t = (inB 0 5 d && inB 0 255 i && o == 0 && s == 0 && t == 0) := by
  rw [Bool.eq_iff_iff]
  simp [okB, okP, inB]
  try omega
theorem eq_of_pure3 {o d s i t : Int} {b : Bool} (h : (o == 0 && s == 0 && t == 0) = b) : (!((3 : Int) == 3 && (0 : Int) == o && (d : Int) == d && (0 : Int) == s && (i : Int) == i && (0 : Int) == t)) = !b := by
  rw [← h]
  congr 1
  rw [Bool.eq_iff_iff]
  simp only [Bool.and_eq_true, beq_iff_eq, true_and, and_true]
  omega
theorem fa3 (o d s i t : Int) (w : World) :
    Calls Tryd.prog 54 #[.agg #[.int .i64 3, .int .i64 o, .int .i64 d, .int .i64 s, .int .i64 i, .int .i64 t]] w fun e w' => e = .returned (.tuple #[if okB 3 o d s i t then frmV 3 o d s i t else .nilIface, .bool (okB 3 o d s i t)]) ∧ Below w.heap.size w w' := by
  rw [ok3, frm3]
  cases hf : (inB 0 5 d && inB 0 255 i)
  · simp only [Bool.false_and, Bool.false_eq_true, if_false]
    exact fo_byte_f 3 o d s i t w (Lib.hid (fun w => fbk3 o d s i t w)) hf
  · simp only [Bool.true_and]
    cases hp : (o == 0 && s == 0 && t == 0)
    · simp only [Bool.false_eq_true, if_false]
      exact fo_byte_n 3 o d s i t w (Lib.hid (fun w => fbk3 o d s i t w)) hf (fun w => by rw [neq_step, eq_of_pure3 hp]; rfl)
    · simp only [if_true]
      exact fo_byte_y 3 o d s i t w (Lib.hid (fun w => fbk3 o d s i t w)) hf (fun w => by rw [neq_step, eq_of_pure3 hp]; rfl)
theorem ok4 (o d s i t : Int) : okB 4 o d s i t = (inB 0 5 d && inB 0 65535 i && !inB 0 255 i && o == 0 && s == 0 && t == 0) := by
  rw [Bool.eq_iff_iff]
  simp [okB, okP, inB]
  try omega
theorem eq_of_pure4 {o d s i t : Int} {b : Bool} (h : (o == 0 && s == 0 && t == 0) = b) : (!((4 : Int) == 4 && (0 : Int) == o && (d : Int) == d && (0 : Int) == s && (i : Int) == i && (0 : Int) == t)) = !b := by
  rw [← h]
  congr 1
  rw [Bool.eq_iff_iff]
  simp only [Bool.and_eq_true, beq_iff_eq, true_and, and_true]
  omega
theorem fa4 (o d s i t : Int) (w : World) :
    Calls Tryd.prog 54 #[.agg #[.int .i64 4, .int .i64 o, .int .i64 d, .int .i64 s, .int .i64 i, .int .i64 t]] w fun e w' => e = .returned (.tuple #[if okB 4 o d s i t then frmV 4 o d s i t else .nilIface, .bool (okB 4 o d s i t)]) ∧ Below w.heap.size w w' := by
  rw [ok4, frm4]
  cases hf : (inB 0 5 d && inB 0 65535 i && !inB 0 255 i)
  · simp only [Bool.false_and, Bool.false_eq_true, if_false]
    exact fo_wide_f o d s i t w hf
  · simp only [Bool.true_and]
    cases hp : (o == 0 && s == 0 && t == 0)
    · simp only [Bool.false_eq_true, if_false]
      exact fo_wide_n o d s i t w hf (fun w => by rw [neq_step, eq_of_pure4 hp]; rfl)
    · simp only [if_true]
      exact fo_wide_y o d s i t w hf (fun w => by rw [neq_step, eq_of_pure4 hp]; rfl)
theorem ok5 (o d s i t : Int) : okB 5 o d s i t = (inB 0 5 d && inB 0 5 s && inB 0 7 i && o == 0 && t == 0) := by
  rw [Bool.eq_iff_iff]
  simp [okB, okP, inB]
  try omega
theorem eq_of_pure5 {o d s i t : Int} {b : Bool} (h : (o == 0 && t == 0) = b) : (!((5 : Int) == 5 && (0 : Int) == o && (d : Int) == d && (s : Int) == s && (i : Int) == i && (0 : Int) == t)) = !b := by
  rw [← h]
  congr 1
  rw [Bool.eq_iff_iff]
  simp only [Bool.and_eq_true, beq_iff_eq, true_and, and_true]
  omega
theorem fa5 (o d s i t : Int) (w : World) :
    Calls Tryd.prog 54 #[.agg #[.int .i64 5, .int .i64 o, .int .i64 d, .int .i64 s, .int .i64 i, .int .i64 t]] w fun e w' => e = .returned (.tuple #[if okB 5 o d s i t then frmV 5 o d s i t else .nilIface, .bool (okB 5 o d s i t)]) ∧ Below w.heap.size w w' := by
  rw [ok5, frm5]
  cases hf : (inB 0 5 d && inB 0 5 s && inB 0 7 i)
  · simp only [Bool.false_and, Bool.false_eq_true, if_false]
    exact fo_ctx_f o d s i t w hf
  · simp only [Bool.true_and]
    cases hp : (o == 0 && t == 0)
    · simp only [Bool.false_eq_true, if_false]
      exact fo_ctx_n o d s i t w hf (fun w => by rw [neq_step, eq_of_pure5 hp]; rfl)
    · simp only [if_true]
      exact fo_ctx_y o d s i t w hf (fun w => by rw [neq_step, eq_of_pure5 hp]; rfl)
theorem ok6 (o d s i t : Int) : okB 6 o d s i t = (inB 0 5 d && inB 0 255 i && o == 0 && s == 0 && t == 0) := by
  rw [Bool.eq_iff_iff]
  simp [okB, okP, inB]
  try omega
theorem eq_of_pure6 {o d s i t : Int} {b : Bool} (h : (o == 0 && s == 0 && t == 0) = b) : (!((6 : Int) == 6 && (0 : Int) == o && (d : Int) == d && (0 : Int) == s && (i : Int) == i && (0 : Int) == t)) = !b := by
  rw [← h]
  congr 1
  rw [Bool.eq_iff_iff]
  simp only [Bool.and_eq_true, beq_iff_eq, true_and, and_true]
  omega
theorem fa6 (o d s i t : Int) (w : World) :
    Calls Tryd.prog 54 #[.agg #[.int .i64 6, .int .i64 o, .int .i64 d, .int .i64 s, .int .i64 i, .int .i64 t]] w fun e w' => e = .returned (.tuple #[if okB 6 o d s i t then frmV 6 o d s i t else .nilIface, .bool (okB 6 o d s i t)]) ∧ Below w.heap.size w w' := by
  rw [ok6, frm6]
  cases hf : (inB 0 5 d && inB 0 255 i)
  · simp only [Bool.false_and, Bool.false_eq_true, if_false]
    exact fo_byte_f 6 o d s i t w (Lib.hid (fun w => fbk6 o d s i t w)) hf
  · simp only [Bool.true_and]
    cases hp : (o == 0 && s == 0 && t == 0)
    · simp only [Bool.false_eq_true, if_false]
      exact fo_byte_n 6 o d s i t w (Lib.hid (fun w => fbk6 o d s i t w)) hf (fun w => by rw [neq_step, eq_of_pure6 hp]; rfl)
    · simp only [if_true]
      exact fo_byte_y 6 o d s i t w (Lib.hid (fun w => fbk6 o d s i t w)) hf (fun w => by rw [neq_step, eq_of_pure6 hp]; rfl)
theorem ok7 (o d s i t : Int) : okB 7 o d s i t = (inB 0 5 d && inB 0 255 i && o == 0 && s == 0 && t == 0) := by
  rw [Bool.eq_iff_iff]
  simp [okB, okP, inB]
  try omega
theorem eq_of_pure7 {o d s i t : Int} {b : Bool} (h : (o == 0 && s == 0 && t == 0) = b) : (!((7 : Int) == 7 && (0 : Int) == o && (d : Int) == d && (0 : Int) == s && (i : Int) == i && (0 : Int) == t)) = !b := by
  rw [← h]
  congr 1
  rw [Bool.eq_iff_iff]
  simp only [Bool.and_eq_true, beq_iff_eq, true_and, and_true]
  omega
theorem fa7 (o d s i t : Int) (w : World) :
    Calls Tryd.prog 54 #[.agg #[.int .i64 7, .int .i64 o, .int .i64 d, .int .i64 s, .int .i64 i, .int .i64 t]] w fun e w' => e = .returned (.tuple #[if okB 7 o d s i t then frmV 7 o d s i t else .nilIface, .bool (okB 7 o d s i t)]) ∧ Below w.heap.size w w' := by
  rw [ok7, frm7]
  cases hf : (inB 0 5 d && inB 0 255 i)
  · simp only [Bool.false_and, Bool.false_eq_true, if_false]
    exact fo_byte_f 7 o d s i t w (Lib.hid (fun w => fbk7 o d s i t w)) hf
  · simp only [Bool.true_and]
    cases hp : (o == 0 && s == 0 && t == 0)
    · simp only [Bool.false_eq_true, if_false]
      exact fo_byte_n 7 o d s i t w (Lib.hid (fun w => fbk7 o d s i t w)) hf (fun w => by rw [neq_step, eq_of_pure7 hp]; rfl)
    · simp only [if_true]
      exact fo_byte_y 7 o d s i t w (Lib.hid (fun w => fbk7 o d s i t w)) hf (fun w => by rw [neq_step, eq_of_pure7 hp]; rfl)
theorem ok8 (o d s i t : Int) : okB 8 o d s i t = (inB 1 19 t && o == 0 && d == 0 && s == 0 && i == 0) := by
  rw [Bool.eq_iff_iff]
  simp [okB, okP, inB]
  try omega
theorem eq_of_pure8 {o d s i t : Int} {b : Bool} (h : (o == 0 && d == 0 && s == 0 && i == 0) = b) : (!((8 : Int) == 8 && (0 : Int) == o && (0 : Int) == d && (0 : Int) == s && (0 : Int) == i && (t : Int) == t)) = !b := by
  rw [← h]
  congr 1
  rw [Bool.eq_iff_iff]
  simp only [Bool.and_eq_true, beq_iff_eq, true_and, and_true]
  omega
theorem fa8 (o d s i t : Int) (w : World) :
    Calls Tryd.prog 54 #[.agg #[.int .i64 8, .int .i64 o, .int .i64 d, .int .i64 s, .int .i64 i, .int .i64 t]] w fun e w' => e = .returned (.tuple #[if okB 8 o d s i t then frmV 8 o d s i t else .nilIface, .bool (okB 8 o d s i t)]) ∧ Below w.heap.size w w' := by
  rw [ok8, frm8]
  cases hf : (inB 1 19 t)
  · simp only [Bool.false_and, Bool.false_eq_true, if_false]
    exact fo_jump_f o d s i t w hf
  · simp only [Bool.true_and]
    cases hp : (o == 0 && d == 0 && s == 0 && i == 0)
    · simp only [Bool.false_eq_true, if_false]
      exact fo_jump_n o d s i t w hf (fun w => by rw [neq_step, eq_of_pure8 hp]; rfl)
    · simp only [if_true]
      exact fo_jump_y o d s i t w hf (fun w => by rw [neq_step, eq_of_pure8 hp]; rfl)
theorem ok9 (o d s i t : Int) : okB 9 o d s i t = (inB 0 5 d && inB 0 5 s && inB 1 19 t && o == 0 && i == 0) := by
  rw [Bool.eq_iff_iff]
  simp [okB, okP, inB]
  try omega
theorem eq_of_pure9 {o d s i t : Int} {b : Bool} (h : (o == 0 && i == 0) = b) : (!((9 : Int) == 9 && (0 : Int) == o && (d : Int) == d && (s : Int) == s && (0 : Int) == i && (t : Int) == t)) = !b := by
  rw [← h]
  congr 1
  rw [Bool.eq_iff_iff]
  simp only [Bool.and_eq_true, beq_iff_eq, true_and, and_true]
  omega
theorem fa9 (o d s i t : Int) (w : World) :
    Calls Tryd.prog 54 #[.agg #[.int .i64 9, .int .i64 o, .int .i64 d, .int .i64 s, .int .i64 i, .int .i64 t]] w fun e w' => e = .returned (.tuple #[if okB 9 o d s i t then frmV 9 o d s i t else .nilIface, .bool (okB 9 o d s i t)]) ∧ Below w.heap.size w w' := by
  rw [ok9, frm9]
  cases hf : (inB 0 5 d && inB 0 5 s && inB 1 19 t)
  · simp only [Bool.false_and, Bool.false_eq_true, if_false]
    exact fo_branch_f 9 o d s i t w (Lib.hid (fun w => fbk9 o d s i t w)) hf
  · simp only [Bool.true_and]
    cases hp : (o == 0 && i == 0)
    · simp only [Bool.false_eq_true, if_false]
      exact fo_branch_n 9 o d s i t w (Lib.hid (fun w => fbk9 o d s i t w)) hf (fun w => by rw [neq_step, eq_of_pure9 hp]; rfl)
    · simp only [if_true]
      exact fo_branch_y 9 o d s i t w (Lib.hid (fun w => fbk9 o d s i t w)) hf (fun w => by rw [neq_step, eq_of_pure9 hp]; rfl)
theorem ok10 (o d s i t : Int) : okB 10 o d s i t = (inB 0 5 d && inB 0 5 s && inB 1 19 t && o == 0 && i == 0) := by
  rw [Bool.eq_iff_iff]
  simp [okB, okP, inB]
  try omega
theorem eq_of_pure10 {o d s i t : Int} {b : Bool} (h : (o == 0 && i == 0) = b) : (!((10 : Int) == 10 && (0 : Int) == o && (d : Int) == d && (s : Int) == s && (0 : Int) == i && (t : Int) == t)) = !b := by
  rw [← h]
  congr 1
  rw [Bool.eq_iff_iff]
  simp only [Bool.and_eq_true, beq_iff_eq, true_and, and_true]
  omega
theorem fa10 (o d s i t : Int) (w : World) :
    Calls Tryd.prog 54 #[.agg #[.int .i64 10, .int .i64 o, .int .i64 d, .int .i64 s, .int .i64 i, .int .i64 t]] w fun e w' => e = .returned (.tuple #[if okB 10 o d s i t then frmV 10 o d s i t else .nilIface, .bool (okB 10 o d s i t)]) ∧ Below w.heap.size w w' := by
  rw [ok10, frm10]
  cases hf : (inB 0 5 d && inB 0 5 s && inB 1 19 t)
  · simp only [Bool.false_and, Bool.false_eq_true, if_false]
    exact fo_branch_f 10 o d s i t w (Lib.hid (fun w => fbk10 o d s i t w)) hf
  · simp only [Bool.true_and]
    cases hp : (o == 0 && i == 0)
    · simp only [Bool.false_eq_true, if_false]
      exact fo_branch_n 10 o d s i t w (Lib.hid (fun w => fbk10 o d s i t w)) hf (fun w => by rw [neq_step, eq_of_pure10 hp]; rfl)
    · simp only [if_true]
      exact fo_branch_y 10 o d s i t w (Lib.hid (fun w => fbk10 o d s i t w)) hf (fun w => by rw [neq_step, eq_of_pure10 hp]; rfl)
theorem ok11 (o d s i t : Int) : okB 11 o d s i t = (o == 0 && d == 0 && s == 0 && i == 0 && t == 0) := by
  rw [Bool.eq_iff_iff]
  simp [okB, okP]
  try omega
theorem eq_of_pure11 {o d s i t : Int} {b : Bool} (h : (o == 0 && d == 0 && s == 0 && i == 0 && t == 0) = b) : (!((11 : Int) == 11 && (0 : Int) == o && (0 : Int) == d && (0 : Int) == s && (0 : Int) == i && (0 : Int) == t)) = !b := by
  rw [← h]
  congr 1
  rw [Bool.eq_iff_iff]
  simp only [Bool.and_eq_true, beq_iff_eq, true_and]
  omega
theorem fa11 (o d s i t : Int) (w : World) :
    Calls Tryd.prog 54 #[.agg #[.int .i64 11, .int .i64 o, .int .i64 d, .int .i64 s, .int .i64 i, .int .i64 t]] w fun e w' => e = .returned (.tuple #[if okB 11 o d s i t then frmV 11 o d s i t else .nilIface, .bool (okB 11 o d s i t)]) ∧ Below w.heap.size w w' := by
  rw [ok11, frm11]
  cases hp : (o == 0 && d == 0 && s == 0 && i == 0 && t == 0)
  · simp only [Bool.false_eq_true, if_false]
    exact fo_exit_n o d s i t w (fun w => by rw [neq_step, eq_of_pure11 hp]; rfl)
  · simp only [if_true]
    exact fo_exit_y o d s i t w (fun w => by rw [neq_step, eq_of_pure11 hp]; rfl)
theorem formOf_any (k o d s i t : Int) (w : World) :
    Calls Tryd.prog 54 #[.agg #[.int .i64 k, .int .i64 o, .int .i64 d, .int .i64 s, .int .i64 i, .int .i64 t]] w fun e w' => e = .returned (.tuple #[if okB k o d s i t then frmV k o d s i t else .nilIface, .bool (okB k o d s i t)]) ∧ Below w.heap.size w w' := by
  cases h : knB k
  · have e : okB k o d s i t = false := by
      have h' : ¬ (1 ≤ k ∧ k ≤ 11) := by simpa [knB] using h
      apply okB_f
      unfold okP
      omega
    rw [e]
    exact fo_no k o d s i t w h
  · rcases kinds_of h with rfl | rfl | rfl | rfl | rfl | rfl | rfl | rfl | rfl | rfl | rfl
    · exact fa1 o d s i t w
    · exact fa2 o d s i t w
    · exact fa3 o d s i t w
    · exact fa4 o d s i t w
    · exact fa5 o d s i t w
    · exact fa6 o d s i t w
    · exact fa7 o d s i t w
    · exact fa8 o d s i t w
    · exact fa9 o d s i t w
    · exact fa10 o d s i t w
    · exact fa11 o d s i t w
end Go.Proofs.YtilnegmjnbffhaaDoor
