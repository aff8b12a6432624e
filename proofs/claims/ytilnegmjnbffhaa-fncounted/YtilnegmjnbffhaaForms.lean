/-
  Contracts of the forms of chapter 2: the step of a form, the form of a step.
-/
import Derived.Test.YtilnegmjnbffhaaMem
import Derived.Deep.RegionHeld3
namespace Go.Proofs.Ytilnegmjnbffhaa
open Go.ChangeShapes Go.WideShapes Go.ChangeAt Go.RowKit

set_option maxRecDepth 100000 in
set_option maxHeartbeats 400000 in
theorem opStep_any (o d s : Int) (w : World) :
    Calls Try.prog 106 #[.agg #[.int .i64 o, .int .i64 d, .int .i64 s]] w fun e w' => e = .returned (.agg #[.int .i64 1, .int .i64 o, .int .i64 d, .int .i64 s, .int .i64 0, .int .i64 0]) ∧ Below w.heap.size w w' := by
  go_enter Try.func106, Try.ntmps106
  go_wp2
  exact bodyPost_ret (v := .agg #[.int .i64 1, .int .i64 o, .int .i64 d, .int .i64 s, .int .i64 0, .int .i64 0]) (by simp [results, Try.results106, go_sem]) rfl ⟨rfl, below2 _ _ _⟩

set_option maxRecDepth 100000 in
set_option maxHeartbeats 400000 in
theorem opiStep_any (o d i : Int) (w : World) :
    Calls Try.prog 107 #[.agg #[.int .i64 o, .int .i64 d, .int .i64 i]] w fun e w' => e = .returned (.agg #[.int .i64 2, .int .i64 o, .int .i64 d, .int .i64 0, .int .i64 i, .int .i64 0]) ∧ Below w.heap.size w w' := by
  go_enter Try.func107, Try.ntmps107
  go_wp2
  exact bodyPost_ret (v := .agg #[.int .i64 2, .int .i64 o, .int .i64 d, .int .i64 0, .int .i64 i, .int .i64 0]) (by simp [results, Try.results107, go_sem]) rfl ⟨rfl, below2 _ _ _⟩

set_option maxRecDepth 100000 in
set_option maxHeartbeats 400000 in
theorem byteStep_any (k d i : Int) (w : World) :
    Calls Try.prog 108 #[.agg #[.int .i64 k, .int .i64 d, .int .i64 i]] w fun e w' => e = .returned (.agg #[.int .i64 k, .int .i64 0, .int .i64 d, .int .i64 0, .int .i64 i, .int .i64 0]) ∧ Below w.heap.size w w' := by
  go_enter Try.func108, Try.ntmps108
  go_wp2
  exact bodyPost_ret (v := .agg #[.int .i64 k, .int .i64 0, .int .i64 d, .int .i64 0, .int .i64 i, .int .i64 0]) (by simp [results, Try.results108, go_sem]) rfl ⟨rfl, below2 _ _ _⟩

set_option maxRecDepth 100000 in
set_option maxHeartbeats 400000 in
theorem wideStep_any (d i : Int) (w : World) :
    Calls Try.prog 109 #[.agg #[.int .i64 d, .int .i64 i]] w fun e w' => e = .returned (.agg #[.int .i64 4, .int .i64 0, .int .i64 d, .int .i64 0, .int .i64 i, .int .i64 0]) ∧ Below w.heap.size w w' := by
  go_enter Try.func109, Try.ntmps109
  go_wp2
  exact bodyPost_ret (v := .agg #[.int .i64 4, .int .i64 0, .int .i64 d, .int .i64 0, .int .i64 i, .int .i64 0]) (by simp [results, Try.results109, go_sem]) rfl ⟨rfl, below2 _ _ _⟩

set_option maxRecDepth 100000 in
set_option maxHeartbeats 400000 in
theorem ctxStep_any (d s i : Int) (w : World) :
    Calls Try.prog 110 #[.agg #[.int .i64 d, .int .i64 s, .int .i64 i]] w fun e w' => e = .returned (.agg #[.int .i64 5, .int .i64 0, .int .i64 d, .int .i64 s, .int .i64 i, .int .i64 0]) ∧ Below w.heap.size w w' := by
  go_enter Try.func110, Try.ntmps110
  go_wp2
  exact bodyPost_ret (v := .agg #[.int .i64 5, .int .i64 0, .int .i64 d, .int .i64 s, .int .i64 i, .int .i64 0]) (by simp [results, Try.results110, go_sem]) rfl ⟨rfl, below2 _ _ _⟩

set_option maxRecDepth 100000 in
set_option maxHeartbeats 400000 in
theorem jumpStep_any (t : Int) (w : World) :
    Calls Try.prog 103 #[.agg #[.int .i64 t]] w fun e w' => e = .returned (.agg #[.int .i64 8, .int .i64 0, .int .i64 0, .int .i64 0, .int .i64 0, .int .i64 t]) ∧ Below w.heap.size w w' := by
  go_enter Try.func103, Try.ntmps103
  go_wp2
  exact bodyPost_ret (v := .agg #[.int .i64 8, .int .i64 0, .int .i64 0, .int .i64 0, .int .i64 0, .int .i64 t]) (by simp [results, Try.results103, go_sem]) rfl ⟨rfl, below2 _ _ _⟩

set_option maxRecDepth 100000 in
set_option maxHeartbeats 400000 in
theorem branchStep_any (k d s t : Int) (w : World) :
    Calls Try.prog 104 #[.agg #[.int .i64 k, .int .i64 d, .int .i64 s, .int .i64 t]] w fun e w' => e = .returned (.agg #[.int .i64 k, .int .i64 0, .int .i64 d, .int .i64 s, .int .i64 0, .int .i64 t]) ∧ Below w.heap.size w w' := by
  go_enter Try.func104, Try.ntmps104
  go_wp2
  exact bodyPost_ret (v := .agg #[.int .i64 k, .int .i64 0, .int .i64 d, .int .i64 s, .int .i64 0, .int .i64 t]) (by simp [results, Try.results104, go_sem]) rfl ⟨rfl, below2 _ _ _⟩

set_option maxRecDepth 100000 in
set_option maxHeartbeats 400000 in
theorem exitStep_any (w : World) :
    Calls Try.prog 105 #[.agg #[]] w fun e w' => e = .returned (.agg #[.int .i64 11, .int .i64 0, .int .i64 0, .int .i64 0, .int .i64 0, .int .i64 0]) ∧ Below w.heap.size w w' := by
  go_enter Try.func105, Try.ntmps105
  go_wp2
  exact bodyPost_ret (v := .agg #[.int .i64 11, .int .i64 0, .int .i64 0, .int .i64 0, .int .i64 0, .int .i64 0]) (by simp [results, Try.results105, go_sem]) rfl ⟨rfl, below2 _ _ _⟩

/-- the form that a step's kind asks, nil where there is no such kind -/
def frmV (k o d s i t : Int) : Value :=
  if k = 1 then .iface 108 (.agg #[.int .i64 o, .int .i64 d, .int .i64 s])
  else if k = 2 then .iface 110 (.agg #[.int .i64 o, .int .i64 d, .int .i64 i])
  else if k = 3 then .iface 112 (.agg #[.int .i64 k, .int .i64 d, .int .i64 i])
  else if k = 4 then .iface 114 (.agg #[.int .i64 d, .int .i64 i])
  else if k = 5 then .iface 116 (.agg #[.int .i64 d, .int .i64 s, .int .i64 i])
  else if k = 6 then .iface 112 (.agg #[.int .i64 k, .int .i64 d, .int .i64 i])
  else if k = 7 then .iface 112 (.agg #[.int .i64 k, .int .i64 d, .int .i64 i])
  else if k = 8 then .iface 97 (.agg #[.int .i64 t])
  else if k = 9 then .iface 99 (.agg #[.int .i64 k, .int .i64 d, .int .i64 s, .int .i64 t])
  else if k = 10 then .iface 99 (.agg #[.int .i64 k, .int .i64 d, .int .i64 s, .int .i64 t])
  else if k = 11 then .iface 101 (.agg #[])
  else .nilIface
/-- is there such a kind? -/
def knB (k : Int) : Bool := decide (1 ≤ k ∧ k ≤ 11)
theorem frm1 (o d s i t : Int) : frmV 1 o d s i t = .iface 108 (.agg #[.int .i64 o, .int .i64 d, .int .i64 s]) := by simp [frmV]
theorem frm2 (o d s i t : Int) : frmV 2 o d s i t = .iface 110 (.agg #[.int .i64 o, .int .i64 d, .int .i64 i]) := by simp [frmV]
theorem frm3 (o d s i t : Int) : frmV 3 o d s i t = .iface 112 (.agg #[.int .i64 3, .int .i64 d, .int .i64 i]) := by simp [frmV]
theorem frm4 (o d s i t : Int) : frmV 4 o d s i t = .iface 114 (.agg #[.int .i64 d, .int .i64 i]) := by simp [frmV]
theorem frm5 (o d s i t : Int) : frmV 5 o d s i t = .iface 116 (.agg #[.int .i64 d, .int .i64 s, .int .i64 i]) := by simp [frmV]
theorem frm6 (o d s i t : Int) : frmV 6 o d s i t = .iface 112 (.agg #[.int .i64 6, .int .i64 d, .int .i64 i]) := by simp [frmV]
theorem frm7 (o d s i t : Int) : frmV 7 o d s i t = .iface 112 (.agg #[.int .i64 7, .int .i64 d, .int .i64 i]) := by simp [frmV]
theorem frm8 (o d s i t : Int) : frmV 8 o d s i t = .iface 97 (.agg #[.int .i64 t]) := by simp [frmV]
theorem frm9 (o d s i t : Int) : frmV 9 o d s i t = .iface 99 (.agg #[.int .i64 9, .int .i64 d, .int .i64 s, .int .i64 t]) := by simp [frmV]
theorem frm10 (o d s i t : Int) : frmV 10 o d s i t = .iface 99 (.agg #[.int .i64 10, .int .i64 d, .int .i64 s, .int .i64 t]) := by simp [frmV]
theorem frm11 (o d s i t : Int) : frmV 11 o d s i t = .iface 101 (.agg #[]) := by simp [frmV]
theorem frm_no (k o d s i t : Int) (h : knB k = false) : frmV k o d s i t = .nilIface := by
  have h' : ¬ (1 ≤ k ∧ k ≤ 11) := by simpa [knB] using h
  unfold frmV
  rw [if_neg (by omega), if_neg (by omega), if_neg (by omega), if_neg (by omega), if_neg (by omega), if_neg (by omega), if_neg (by omega), if_neg (by omega), if_neg (by omega), if_neg (by omega), if_neg (by omega)]
/-- the kinds, one by one -/
theorem kinds_of {k : Int} (h : knB k = true) : k = 1 ∨ k = 2 ∨ k = 3 ∨ k = 4 ∨ k = 5 ∨ k = 6 ∨ k = 7 ∨ k = 8 ∨ k = 9 ∨ k = 10 ∨ k = 11 := by
  have h' : 1 ≤ k ∧ k ≤ 11 := by simpa [knB] using h
  omega

set_option maxRecDepth 100000 in
set_option maxHeartbeats 400000 in
theorem fbk1 (o d s i t : Int) (w : World) :
    Calls Try.prog 79 #[.agg #[.int .i64 1, .int .i64 o, .int .i64 d, .int .i64 s, .int .i64 i, .int .i64 t]] w fun e w' => e = .returned (.tuple #[.iface 108 (.agg #[.int .i64 o, .int .i64 d, .int .i64 s]), .bool true]) ∧ Below w.heap.size w w' := by
  go_enter Try.func79, Try.ntmps79
  go_wp2
  go_ret2
  exact ⟨rfl, below1 _ _⟩

set_option maxRecDepth 100000 in
set_option maxHeartbeats 400000 in
theorem fbk2 (o d s i t : Int) (w : World) :
    Calls Try.prog 79 #[.agg #[.int .i64 2, .int .i64 o, .int .i64 d, .int .i64 s, .int .i64 i, .int .i64 t]] w fun e w' => e = .returned (.tuple #[.iface 110 (.agg #[.int .i64 o, .int .i64 d, .int .i64 i]), .bool true]) ∧ Below w.heap.size w w' := by
  go_enter Try.func79, Try.ntmps79
  go_wp2
  go_ret2
  exact ⟨rfl, below1 _ _⟩

set_option maxRecDepth 100000 in
set_option maxHeartbeats 400000 in
theorem fbk3 (o d s i t : Int) (w : World) :
    Calls Try.prog 79 #[.agg #[.int .i64 3, .int .i64 o, .int .i64 d, .int .i64 s, .int .i64 i, .int .i64 t]] w fun e w' => e = .returned (.tuple #[.iface 112 (.agg #[.int .i64 3, .int .i64 d, .int .i64 i]), .bool true]) ∧ Below w.heap.size w w' := by
  go_enter Try.func79, Try.ntmps79
  go_wp2
  go_ret2
  exact ⟨rfl, below1 _ _⟩

set_option maxRecDepth 100000 in
set_option maxHeartbeats 400000 in
theorem fbk4 (o d s i t : Int) (w : World) :
    Calls Try.prog 79 #[.agg #[.int .i64 4, .int .i64 o, .int .i64 d, .int .i64 s, .int .i64 i, .int .i64 t]] w fun e w' => e = .returned (.tuple #[.iface 114 (.agg #[.int .i64 d, .int .i64 i]), .bool true]) ∧ Below w.heap.size w w' := by
  go_enter Try.func79, Try.ntmps79
  go_wp2
  go_ret2
  exact ⟨rfl, below1 _ _⟩

set_option maxRecDepth 100000 in
set_option maxHeartbeats 400000 in
theorem fbk5 (o d s i t : Int) (w : World) :
    Calls Try.prog 79 #[.agg #[.int .i64 5, .int .i64 o, .int .i64 d, .int .i64 s, .int .i64 i, .int .i64 t]] w fun e w' => e = .returned (.tuple #[.iface 116 (.agg #[.int .i64 d, .int .i64 s, .int .i64 i]), .bool true]) ∧ Below w.heap.size w w' := by
  go_enter Try.func79, Try.ntmps79
  go_wp2
  go_ret2
  exact ⟨rfl, below1 _ _⟩

set_option maxRecDepth 100000 in
set_option maxHeartbeats 400000 in
theorem fbk6 (o d s i t : Int) (w : World) :
    Calls Try.prog 79 #[.agg #[.int .i64 6, .int .i64 o, .int .i64 d, .int .i64 s, .int .i64 i, .int .i64 t]] w fun e w' => e = .returned (.tuple #[.iface 112 (.agg #[.int .i64 6, .int .i64 d, .int .i64 i]), .bool true]) ∧ Below w.heap.size w w' := by
  go_enter Try.func79, Try.ntmps79
  go_wp2
  go_ret2
  exact ⟨rfl, below1 _ _⟩

set_option maxRecDepth 100000 in
set_option maxHeartbeats 400000 in
theorem fbk7 (o d s i t : Int) (w : World) :
    Calls Try.prog 79 #[.agg #[.int .i64 7, .int .i64 o, .int .i64 d, .int .i64 s, .int .i64 i, .int .i64 t]] w fun e w' => e = .returned (.tuple #[.iface 112 (.agg #[.int .i64 7, .int .i64 d, .int .i64 i]), .bool true]) ∧ Below w.heap.size w w' := by
  go_enter Try.func79, Try.ntmps79
  go_wp2
  go_ret2
  exact ⟨rfl, below1 _ _⟩

set_option maxRecDepth 100000 in
set_option maxHeartbeats 400000 in
theorem fbk8 (o d s i t : Int) (w : World) :
    Calls Try.prog 79 #[.agg #[.int .i64 8, .int .i64 o, .int .i64 d, .int .i64 s, .int .i64 i, .int .i64 t]] w fun e w' => e = .returned (.tuple #[.iface 97 (.agg #[.int .i64 t]), .bool true]) ∧ Below w.heap.size w w' := by
  go_enter Try.func79, Try.ntmps79
  go_wp2
  go_ret2
  exact ⟨rfl, below1 _ _⟩

set_option maxRecDepth 100000 in
set_option maxHeartbeats 400000 in
theorem fbk9 (o d s i t : Int) (w : World) :
    Calls Try.prog 79 #[.agg #[.int .i64 9, .int .i64 o, .int .i64 d, .int .i64 s, .int .i64 i, .int .i64 t]] w fun e w' => e = .returned (.tuple #[.iface 99 (.agg #[.int .i64 9, .int .i64 d, .int .i64 s, .int .i64 t]), .bool true]) ∧ Below w.heap.size w w' := by
  go_enter Try.func79, Try.ntmps79
  go_wp2
  go_ret2
  exact ⟨rfl, below1 _ _⟩

set_option maxRecDepth 100000 in
set_option maxHeartbeats 400000 in
theorem fbk10 (o d s i t : Int) (w : World) :
    Calls Try.prog 79 #[.agg #[.int .i64 10, .int .i64 o, .int .i64 d, .int .i64 s, .int .i64 i, .int .i64 t]] w fun e w' => e = .returned (.tuple #[.iface 99 (.agg #[.int .i64 10, .int .i64 d, .int .i64 s, .int .i64 t]), .bool true]) ∧ Below w.heap.size w w' := by
  go_enter Try.func79, Try.ntmps79
  go_wp2
  go_ret2
  exact ⟨rfl, below1 _ _⟩

set_option maxRecDepth 100000 in
set_option maxHeartbeats 400000 in
theorem fbk11 (o d s i t : Int) (w : World) :
    Calls Try.prog 79 #[.agg #[.int .i64 11, .int .i64 o, .int .i64 d, .int .i64 s, .int .i64 i, .int .i64 t]] w fun e w' => e = .returned (.tuple #[.iface 101 (.agg #[]), .bool true]) ∧ Below w.heap.size w w' := by
  go_enter Try.func79, Try.ntmps79
  go_wp2
  go_ret2
  exact ⟨rfl, below1 _ _⟩

set_option maxRecDepth 100000 in
set_option maxHeartbeats 400000 in
theorem fbk_no (k o d s i t : Int) (w : World) (h : knB k = false) :
    Calls Try.prog 79 #[.agg #[.int .i64 k, .int .i64 o, .int .i64 d, .int .i64 s, .int .i64 i, .int .i64 t]] w fun e w' => e = .returned (.tuple #[.nilIface, .bool false]) ∧ Below w.heap.size w w' := by
  have h' : ¬ (1 ≤ k ∧ k ≤ 11) := by simpa [knB] using h
  have n1 : (k == 1) = false := by simp; omega
  have n2 : (k == 2) = false := by simp; omega
  have n3 : (k == 3) = false := by simp; omega
  have n4 : (k == 4) = false := by simp; omega
  have n5 : (k == 5) = false := by simp; omega
  have n6 : (k == 6) = false := by simp; omega
  have n7 : (k == 7) = false := by simp; omega
  have n8 : (k == 8) = false := by simp; omega
  have n9 : (k == 9) = false := by simp; omega
  have n10 : (k == 10) = false := by simp; omega
  have n11 : (k == 11) = false := by simp; omega
  clear h h'
  go_enter Try.func79, Try.ntmps79
  go_wp2
  go_ret2
  exact ⟨rfl, below1 _ _⟩

theorem formByKind_any (k o d s i t : Int) (w : World) :
    Calls Try.prog 79 #[.agg #[.int .i64 k, .int .i64 o, .int .i64 d, .int .i64 s, .int .i64 i, .int .i64 t]] w fun e w' => e = .returned (.tuple #[frmV k o d s i t, .bool (knB k)]) ∧ Below w.heap.size w w' := by
  cases h : knB k
  · rw [frm_no _ _ _ _ _ _ h]; exact fbk_no k o d s i t w h
  · rcases kinds_of h with rfl | rfl | rfl | rfl | rfl | rfl | rfl | rfl | rfl | rfl | rfl
    · rw [frm1]; exact fbk1 o d s i t w
    · rw [frm2]; exact fbk2 o d s i t w
    · rw [frm3]; exact fbk3 o d s i t w
    · rw [frm4]; exact fbk4 o d s i t w
    · rw [frm5]; exact fbk5 o d s i t w
    · rw [frm6]; exact fbk6 o d s i t w
    · rw [frm7]; exact fbk7 o d s i t w
    · rw [frm8]; exact fbk8 o d s i t w
    · rw [frm9]; exact fbk9 o d s i t w
    · rw [frm10]; exact fbk10 o d s i t w
    · rw [frm11]; exact fbk11 o d s i t w
theorem as_op_op (v : Value) (w : World) : (Instr.typeAssert (.iface 108 v) 85 108 true).run Try.prog w = .ok (.tuple #[v, .bool true]) w := by kernel_rfl
theorem as_op_opi (v : Value) (w : World) : (Instr.typeAssert (.iface 108 v) 85 110 true).run Try.prog w = .ok (.tuple #[.agg #[.int .i64 0, .int .i64 0, .int .i64 0], .bool false]) w := by kernel_rfl
theorem as_op_byte (v : Value) (w : World) : (Instr.typeAssert (.iface 108 v) 85 112 true).run Try.prog w = .ok (.tuple #[.agg #[.int .i64 0, .int .i64 0, .int .i64 0], .bool false]) w := by kernel_rfl
theorem as_op_wide (v : Value) (w : World) : (Instr.typeAssert (.iface 108 v) 85 114 true).run Try.prog w = .ok (.tuple #[.agg #[.int .i64 0, .int .i64 0], .bool false]) w := by kernel_rfl
theorem as_op_ctx (v : Value) (w : World) : (Instr.typeAssert (.iface 108 v) 85 116 true).run Try.prog w = .ok (.tuple #[.agg #[.int .i64 0, .int .i64 0, .int .i64 0], .bool false]) w := by kernel_rfl
theorem as_op_jump (v : Value) (w : World) : (Instr.typeAssert (.iface 108 v) 85 97 true).run Try.prog w = .ok (.tuple #[.agg #[.int .i64 0], .bool false]) w := by kernel_rfl
theorem as_op_branch (v : Value) (w : World) : (Instr.typeAssert (.iface 108 v) 85 99 true).run Try.prog w = .ok (.tuple #[.agg #[.int .i64 0, .int .i64 0, .int .i64 0, .int .i64 0], .bool false]) w := by kernel_rfl
theorem as_op_exit (v : Value) (w : World) : (Instr.typeAssert (.iface 108 v) 85 101 true).run Try.prog w = .ok (.tuple #[.agg #[], .bool false]) w := by kernel_rfl
theorem as_opi_op (v : Value) (w : World) : (Instr.typeAssert (.iface 110 v) 85 108 true).run Try.prog w = .ok (.tuple #[.agg #[.int .i64 0, .int .i64 0, .int .i64 0], .bool false]) w := by kernel_rfl
theorem as_opi_opi (v : Value) (w : World) : (Instr.typeAssert (.iface 110 v) 85 110 true).run Try.prog w = .ok (.tuple #[v, .bool true]) w := by kernel_rfl
theorem as_opi_byte (v : Value) (w : World) : (Instr.typeAssert (.iface 110 v) 85 112 true).run Try.prog w = .ok (.tuple #[.agg #[.int .i64 0, .int .i64 0, .int .i64 0], .bool false]) w := by kernel_rfl
theorem as_opi_wide (v : Value) (w : World) : (Instr.typeAssert (.iface 110 v) 85 114 true).run Try.prog w = .ok (.tuple #[.agg #[.int .i64 0, .int .i64 0], .bool false]) w := by kernel_rfl
theorem as_opi_ctx (v : Value) (w : World) : (Instr.typeAssert (.iface 110 v) 85 116 true).run Try.prog w = .ok (.tuple #[.agg #[.int .i64 0, .int .i64 0, .int .i64 0], .bool false]) w := by kernel_rfl
theorem as_opi_jump (v : Value) (w : World) : (Instr.typeAssert (.iface 110 v) 85 97 true).run Try.prog w = .ok (.tuple #[.agg #[.int .i64 0], .bool false]) w := by kernel_rfl
theorem as_opi_branch (v : Value) (w : World) : (Instr.typeAssert (.iface 110 v) 85 99 true).run Try.prog w = .ok (.tuple #[.agg #[.int .i64 0, .int .i64 0, .int .i64 0, .int .i64 0], .bool false]) w := by kernel_rfl
theorem as_opi_exit (v : Value) (w : World) : (Instr.typeAssert (.iface 110 v) 85 101 true).run Try.prog w = .ok (.tuple #[.agg #[], .bool false]) w := by kernel_rfl
theorem as_byte_op (v : Value) (w : World) : (Instr.typeAssert (.iface 112 v) 85 108 true).run Try.prog w = .ok (.tuple #[.agg #[.int .i64 0, .int .i64 0, .int .i64 0], .bool false]) w := by kernel_rfl
theorem as_byte_opi (v : Value) (w : World) : (Instr.typeAssert (.iface 112 v) 85 110 true).run Try.prog w = .ok (.tuple #[.agg #[.int .i64 0, .int .i64 0, .int .i64 0], .bool false]) w := by kernel_rfl
theorem as_byte_byte (v : Value) (w : World) : (Instr.typeAssert (.iface 112 v) 85 112 true).run Try.prog w = .ok (.tuple #[v, .bool true]) w := by kernel_rfl
theorem as_byte_wide (v : Value) (w : World) : (Instr.typeAssert (.iface 112 v) 85 114 true).run Try.prog w = .ok (.tuple #[.agg #[.int .i64 0, .int .i64 0], .bool false]) w := by kernel_rfl
theorem as_byte_ctx (v : Value) (w : World) : (Instr.typeAssert (.iface 112 v) 85 116 true).run Try.prog w = .ok (.tuple #[.agg #[.int .i64 0, .int .i64 0, .int .i64 0], .bool false]) w := by kernel_rfl
theorem as_byte_jump (v : Value) (w : World) : (Instr.typeAssert (.iface 112 v) 85 97 true).run Try.prog w = .ok (.tuple #[.agg #[.int .i64 0], .bool false]) w := by kernel_rfl
theorem as_byte_branch (v : Value) (w : World) : (Instr.typeAssert (.iface 112 v) 85 99 true).run Try.prog w = .ok (.tuple #[.agg #[.int .i64 0, .int .i64 0, .int .i64 0, .int .i64 0], .bool false]) w := by kernel_rfl
theorem as_byte_exit (v : Value) (w : World) : (Instr.typeAssert (.iface 112 v) 85 101 true).run Try.prog w = .ok (.tuple #[.agg #[], .bool false]) w := by kernel_rfl
theorem as_wide_op (v : Value) (w : World) : (Instr.typeAssert (.iface 114 v) 85 108 true).run Try.prog w = .ok (.tuple #[.agg #[.int .i64 0, .int .i64 0, .int .i64 0], .bool false]) w := by kernel_rfl
theorem as_wide_opi (v : Value) (w : World) : (Instr.typeAssert (.iface 114 v) 85 110 true).run Try.prog w = .ok (.tuple #[.agg #[.int .i64 0, .int .i64 0, .int .i64 0], .bool false]) w := by kernel_rfl
theorem as_wide_byte (v : Value) (w : World) : (Instr.typeAssert (.iface 114 v) 85 112 true).run Try.prog w = .ok (.tuple #[.agg #[.int .i64 0, .int .i64 0, .int .i64 0], .bool false]) w := by kernel_rfl
theorem as_wide_wide (v : Value) (w : World) : (Instr.typeAssert (.iface 114 v) 85 114 true).run Try.prog w = .ok (.tuple #[v, .bool true]) w := by kernel_rfl
theorem as_wide_ctx (v : Value) (w : World) : (Instr.typeAssert (.iface 114 v) 85 116 true).run Try.prog w = .ok (.tuple #[.agg #[.int .i64 0, .int .i64 0, .int .i64 0], .bool false]) w := by kernel_rfl
theorem as_wide_jump (v : Value) (w : World) : (Instr.typeAssert (.iface 114 v) 85 97 true).run Try.prog w = .ok (.tuple #[.agg #[.int .i64 0], .bool false]) w := by kernel_rfl
theorem as_wide_branch (v : Value) (w : World) : (Instr.typeAssert (.iface 114 v) 85 99 true).run Try.prog w = .ok (.tuple #[.agg #[.int .i64 0, .int .i64 0, .int .i64 0, .int .i64 0], .bool false]) w := by kernel_rfl
theorem as_wide_exit (v : Value) (w : World) : (Instr.typeAssert (.iface 114 v) 85 101 true).run Try.prog w = .ok (.tuple #[.agg #[], .bool false]) w := by kernel_rfl
theorem as_ctx_op (v : Value) (w : World) : (Instr.typeAssert (.iface 116 v) 85 108 true).run Try.prog w = .ok (.tuple #[.agg #[.int .i64 0, .int .i64 0, .int .i64 0], .bool false]) w := by kernel_rfl
theorem as_ctx_opi (v : Value) (w : World) : (Instr.typeAssert (.iface 116 v) 85 110 true).run Try.prog w = .ok (.tuple #[.agg #[.int .i64 0, .int .i64 0, .int .i64 0], .bool false]) w := by kernel_rfl
theorem as_ctx_byte (v : Value) (w : World) : (Instr.typeAssert (.iface 116 v) 85 112 true).run Try.prog w = .ok (.tuple #[.agg #[.int .i64 0, .int .i64 0, .int .i64 0], .bool false]) w := by kernel_rfl
theorem as_ctx_wide (v : Value) (w : World) : (Instr.typeAssert (.iface 116 v) 85 114 true).run Try.prog w = .ok (.tuple #[.agg #[.int .i64 0, .int .i64 0], .bool false]) w := by kernel_rfl
theorem as_ctx_ctx (v : Value) (w : World) : (Instr.typeAssert (.iface 116 v) 85 116 true).run Try.prog w = .ok (.tuple #[v, .bool true]) w := by kernel_rfl
theorem as_ctx_jump (v : Value) (w : World) : (Instr.typeAssert (.iface 116 v) 85 97 true).run Try.prog w = .ok (.tuple #[.agg #[.int .i64 0], .bool false]) w := by kernel_rfl
theorem as_ctx_branch (v : Value) (w : World) : (Instr.typeAssert (.iface 116 v) 85 99 true).run Try.prog w = .ok (.tuple #[.agg #[.int .i64 0, .int .i64 0, .int .i64 0, .int .i64 0], .bool false]) w := by kernel_rfl
theorem as_ctx_exit (v : Value) (w : World) : (Instr.typeAssert (.iface 116 v) 85 101 true).run Try.prog w = .ok (.tuple #[.agg #[], .bool false]) w := by kernel_rfl
theorem as_jump_op (v : Value) (w : World) : (Instr.typeAssert (.iface 97 v) 85 108 true).run Try.prog w = .ok (.tuple #[.agg #[.int .i64 0, .int .i64 0, .int .i64 0], .bool false]) w := by kernel_rfl
theorem as_jump_opi (v : Value) (w : World) : (Instr.typeAssert (.iface 97 v) 85 110 true).run Try.prog w = .ok (.tuple #[.agg #[.int .i64 0, .int .i64 0, .int .i64 0], .bool false]) w := by kernel_rfl
theorem as_jump_byte (v : Value) (w : World) : (Instr.typeAssert (.iface 97 v) 85 112 true).run Try.prog w = .ok (.tuple #[.agg #[.int .i64 0, .int .i64 0, .int .i64 0], .bool false]) w := by kernel_rfl
theorem as_jump_wide (v : Value) (w : World) : (Instr.typeAssert (.iface 97 v) 85 114 true).run Try.prog w = .ok (.tuple #[.agg #[.int .i64 0, .int .i64 0], .bool false]) w := by kernel_rfl
theorem as_jump_ctx (v : Value) (w : World) : (Instr.typeAssert (.iface 97 v) 85 116 true).run Try.prog w = .ok (.tuple #[.agg #[.int .i64 0, .int .i64 0, .int .i64 0], .bool false]) w := by kernel_rfl
theorem as_jump_jump (v : Value) (w : World) : (Instr.typeAssert (.iface 97 v) 85 97 true).run Try.prog w = .ok (.tuple #[v, .bool true]) w := by kernel_rfl
theorem as_jump_branch (v : Value) (w : World) : (Instr.typeAssert (.iface 97 v) 85 99 true).run Try.prog w = .ok (.tuple #[.agg #[.int .i64 0, .int .i64 0, .int .i64 0, .int .i64 0], .bool false]) w := by kernel_rfl
theorem as_jump_exit (v : Value) (w : World) : (Instr.typeAssert (.iface 97 v) 85 101 true).run Try.prog w = .ok (.tuple #[.agg #[], .bool false]) w := by kernel_rfl
theorem as_branch_op (v : Value) (w : World) : (Instr.typeAssert (.iface 99 v) 85 108 true).run Try.prog w = .ok (.tuple #[.agg #[.int .i64 0, .int .i64 0, .int .i64 0], .bool false]) w := by kernel_rfl
theorem as_branch_opi (v : Value) (w : World) : (Instr.typeAssert (.iface 99 v) 85 110 true).run Try.prog w = .ok (.tuple #[.agg #[.int .i64 0, .int .i64 0, .int .i64 0], .bool false]) w := by kernel_rfl
theorem as_branch_byte (v : Value) (w : World) : (Instr.typeAssert (.iface 99 v) 85 112 true).run Try.prog w = .ok (.tuple #[.agg #[.int .i64 0, .int .i64 0, .int .i64 0], .bool false]) w := by kernel_rfl
theorem as_branch_wide (v : Value) (w : World) : (Instr.typeAssert (.iface 99 v) 85 114 true).run Try.prog w = .ok (.tuple #[.agg #[.int .i64 0, .int .i64 0], .bool false]) w := by kernel_rfl
theorem as_branch_ctx (v : Value) (w : World) : (Instr.typeAssert (.iface 99 v) 85 116 true).run Try.prog w = .ok (.tuple #[.agg #[.int .i64 0, .int .i64 0, .int .i64 0], .bool false]) w := by kernel_rfl
theorem as_branch_jump (v : Value) (w : World) : (Instr.typeAssert (.iface 99 v) 85 97 true).run Try.prog w = .ok (.tuple #[.agg #[.int .i64 0], .bool false]) w := by kernel_rfl
theorem as_branch_branch (v : Value) (w : World) : (Instr.typeAssert (.iface 99 v) 85 99 true).run Try.prog w = .ok (.tuple #[v, .bool true]) w := by kernel_rfl
theorem as_branch_exit (v : Value) (w : World) : (Instr.typeAssert (.iface 99 v) 85 101 true).run Try.prog w = .ok (.tuple #[.agg #[], .bool false]) w := by kernel_rfl
theorem as_exit_op (v : Value) (w : World) : (Instr.typeAssert (.iface 101 v) 85 108 true).run Try.prog w = .ok (.tuple #[.agg #[.int .i64 0, .int .i64 0, .int .i64 0], .bool false]) w := by kernel_rfl
theorem as_exit_opi (v : Value) (w : World) : (Instr.typeAssert (.iface 101 v) 85 110 true).run Try.prog w = .ok (.tuple #[.agg #[.int .i64 0, .int .i64 0, .int .i64 0], .bool false]) w := by kernel_rfl
theorem as_exit_byte (v : Value) (w : World) : (Instr.typeAssert (.iface 101 v) 85 112 true).run Try.prog w = .ok (.tuple #[.agg #[.int .i64 0, .int .i64 0, .int .i64 0], .bool false]) w := by kernel_rfl
theorem as_exit_wide (v : Value) (w : World) : (Instr.typeAssert (.iface 101 v) 85 114 true).run Try.prog w = .ok (.tuple #[.agg #[.int .i64 0, .int .i64 0], .bool false]) w := by kernel_rfl
theorem as_exit_ctx (v : Value) (w : World) : (Instr.typeAssert (.iface 101 v) 85 116 true).run Try.prog w = .ok (.tuple #[.agg #[.int .i64 0, .int .i64 0, .int .i64 0], .bool false]) w := by kernel_rfl
theorem as_exit_jump (v : Value) (w : World) : (Instr.typeAssert (.iface 101 v) 85 97 true).run Try.prog w = .ok (.tuple #[.agg #[.int .i64 0], .bool false]) w := by kernel_rfl
theorem as_exit_branch (v : Value) (w : World) : (Instr.typeAssert (.iface 101 v) 85 99 true).run Try.prog w = .ok (.tuple #[.agg #[.int .i64 0, .int .i64 0, .int .i64 0, .int .i64 0], .bool false]) w := by kernel_rfl
theorem as_exit_exit (v : Value) (w : World) : (Instr.typeAssert (.iface 101 v) 85 101 true).run Try.prog w = .ok (.tuple #[v, .bool true]) w := by kernel_rfl
end Go.Proofs.Ytilnegmjnbffhaa
