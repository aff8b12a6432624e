/-
  Contracts of the forms of chapter 2: the step of a form, the form of a step.
-/
import Derived.Test.YtilnegmjnbffhaaDoorMem
import Derived.Deep.RegionHeld3
namespace Go.Proofs.YtilnegmjnbffhaaDoor
open Go.ChangeShapes Go.WideShapes Go.ChangeAt Go.RowKit

set_option maxRecDepth 100000 in
set_option maxHeartbeats 400000 in
theorem opStep_any (o d s : Int) (w : World) :
    Calls Tryd.prog 102 #[.agg #[.int .i64 o, .int .i64 d, .int .i64 s]] w fun e w' => e = .returned (.agg #[.int .i64 1, .int .i64 o, .int .i64 d, .int .i64 s, .int .i64 0, .int .i64 0]) ∧ Below w.heap.size w w' := by
  go_enter Tryd.func102, Tryd.ntmps102
  go_wp2
  exact bodyPost_ret (v := .agg #[.int .i64 1, .int .i64 o, .int .i64 d, .int .i64 s, .int .i64 0, .int .i64 0]) (by simp [results, Tryd.results102, go_sem]) rfl ⟨rfl, below2 _ _ _⟩

set_option maxRecDepth 100000 in
set_option maxHeartbeats 400000 in
theorem opiStep_any (o d i : Int) (w : World) :
    Calls Tryd.prog 103 #[.agg #[.int .i64 o, .int .i64 d, .int .i64 i]] w fun e w' => e = .returned (.agg #[.int .i64 2, .int .i64 o, .int .i64 d, .int .i64 0, .int .i64 i, .int .i64 0]) ∧ Below w.heap.size w w' := by
  go_enter Tryd.func103, Tryd.ntmps103
  go_wp2
  exact bodyPost_ret (v := .agg #[.int .i64 2, .int .i64 o, .int .i64 d, .int .i64 0, .int .i64 i, .int .i64 0]) (by simp [results, Tryd.results103, go_sem]) rfl ⟨rfl, below2 _ _ _⟩

set_option maxRecDepth 100000 in
set_option maxHeartbeats 400000 in
theorem byteStep_any (k d i : Int) (w : World) :
    Calls Tryd.prog 104 #[.agg #[.int .i64 k, .int .i64 d, .int .i64 i]] w fun e w' => e = .returned (.agg #[.int .i64 k, .int .i64 0, .int .i64 d, .int .i64 0, .int .i64 i, .int .i64 0]) ∧ Below w.heap.size w w' := by
  go_enter Tryd.func104, Tryd.ntmps104
  go_wp2
  exact bodyPost_ret (v := .agg #[.int .i64 k, .int .i64 0, .int .i64 d, .int .i64 0, .int .i64 i, .int .i64 0]) (by simp [results, Tryd.results104, go_sem]) rfl ⟨rfl, below2 _ _ _⟩

set_option maxRecDepth 100000 in
set_option maxHeartbeats 400000 in
theorem wideStep_any (d i : Int) (w : World) :
    Calls Tryd.prog 105 #[.agg #[.int .i64 d, .int .i64 i]] w fun e w' => e = .returned (.agg #[.int .i64 4, .int .i64 0, .int .i64 d, .int .i64 0, .int .i64 i, .int .i64 0]) ∧ Below w.heap.size w w' := by
  go_enter Tryd.func105, Tryd.ntmps105
  go_wp2
  exact bodyPost_ret (v := .agg #[.int .i64 4, .int .i64 0, .int .i64 d, .int .i64 0, .int .i64 i, .int .i64 0]) (by simp [results, Tryd.results105, go_sem]) rfl ⟨rfl, below2 _ _ _⟩

set_option maxRecDepth 100000 in
set_option maxHeartbeats 400000 in
theorem ctxStep_any (d s i : Int) (w : World) :
    Calls Tryd.prog 106 #[.agg #[.int .i64 d, .int .i64 s, .int .i64 i]] w fun e w' => e = .returned (.agg #[.int .i64 5, .int .i64 0, .int .i64 d, .int .i64 s, .int .i64 i, .int .i64 0]) ∧ Below w.heap.size w w' := by
  go_enter Tryd.func106, Tryd.ntmps106
  go_wp2
  exact bodyPost_ret (v := .agg #[.int .i64 5, .int .i64 0, .int .i64 d, .int .i64 s, .int .i64 i, .int .i64 0]) (by simp [results, Tryd.results106, go_sem]) rfl ⟨rfl, below2 _ _ _⟩

set_option maxRecDepth 100000 in
set_option maxHeartbeats 400000 in
theorem jumpStep_any (t : Int) (w : World) :
    Calls Tryd.prog 99 #[.agg #[.int .i64 t]] w fun e w' => e = .returned (.agg #[.int .i64 8, .int .i64 0, .int .i64 0, .int .i64 0, .int .i64 0, .int .i64 t]) ∧ Below w.heap.size w w' := by
  go_enter Tryd.func99, Tryd.ntmps99
  go_wp2
  exact bodyPost_ret (v := .agg #[.int .i64 8, .int .i64 0, .int .i64 0, .int .i64 0, .int .i64 0, .int .i64 t]) (by simp [results, Tryd.results99, go_sem]) rfl ⟨rfl, below2 _ _ _⟩

set_option maxRecDepth 100000 in
set_option maxHeartbeats 400000 in
theorem branchStep_any (k d s t : Int) (w : World) :
    Calls Tryd.prog 100 #[.agg #[.int .i64 k, .int .i64 d, .int .i64 s, .int .i64 t]] w fun e w' => e = .returned (.agg #[.int .i64 k, .int .i64 0, .int .i64 d, .int .i64 s, .int .i64 0, .int .i64 t]) ∧ Below w.heap.size w w' := by
  go_enter Tryd.func100, Tryd.ntmps100
  go_wp2
  exact bodyPost_ret (v := .agg #[.int .i64 k, .int .i64 0, .int .i64 d, .int .i64 s, .int .i64 0, .int .i64 t]) (by simp [results, Tryd.results100, go_sem]) rfl ⟨rfl, below2 _ _ _⟩

set_option maxRecDepth 100000 in
set_option maxHeartbeats 400000 in
theorem exitStep_any (w : World) :
    Calls Tryd.prog 101 #[.agg #[]] w fun e w' => e = .returned (.agg #[.int .i64 11, .int .i64 0, .int .i64 0, .int .i64 0, .int .i64 0, .int .i64 0]) ∧ Below w.heap.size w w' := by
  go_enter Tryd.func101, Tryd.ntmps101
  go_wp2
  exact bodyPost_ret (v := .agg #[.int .i64 11, .int .i64 0, .int .i64 0, .int .i64 0, .int .i64 0, .int .i64 0]) (by simp [results, Tryd.results101, go_sem]) rfl ⟨rfl, below2 _ _ _⟩

/-- the form that a step's kind asks, nil where there is no such kind -/
def frmV (k o d s i t : Int) : Value :=
  if k = 1 then .iface 116 (.agg #[.int .i64 o, .int .i64 d, .int .i64 s])
  else if k = 2 then .iface 118 (.agg #[.int .i64 o, .int .i64 d, .int .i64 i])
  else if k = 3 then .iface 120 (.agg #[.int .i64 k, .int .i64 d, .int .i64 i])
  else if k = 4 then .iface 122 (.agg #[.int .i64 d, .int .i64 i])
  else if k = 5 then .iface 124 (.agg #[.int .i64 d, .int .i64 s, .int .i64 i])
  else if k = 6 then .iface 120 (.agg #[.int .i64 k, .int .i64 d, .int .i64 i])
  else if k = 7 then .iface 120 (.agg #[.int .i64 k, .int .i64 d, .int .i64 i])
  else if k = 8 then .iface 102 (.agg #[.int .i64 t])
  else if k = 9 then .iface 104 (.agg #[.int .i64 k, .int .i64 d, .int .i64 s, .int .i64 t])
  else if k = 10 then .iface 104 (.agg #[.int .i64 k, .int .i64 d, .int .i64 s, .int .i64 t])
  else if k = 11 then .iface 106 (.agg #[])
  else .nilIface
/-- is there such a kind? -/
def knB (k : Int) : Bool := decide (1 ≤ k ∧ k ≤ 11)
theorem frm1 (o d s i t : Int) : frmV 1 o d s i t = .iface 116 (.agg #[.int .i64 o, .int .i64 d, .int .i64 s]) := by simp [frmV]
theorem frm2 (o d s i t : Int) : frmV 2 o d s i t = .iface 118 (.agg #[.int .i64 o, .int .i64 d, .int .i64 i]) := by simp [frmV]
theorem frm3 (o d s i t : Int) : frmV 3 o d s i t = .iface 120 (.agg #[.int .i64 3, .int .i64 d, .int .i64 i]) := by simp [frmV]
theorem frm4 (o d s i t : Int) : frmV 4 o d s i t = .iface 122 (.agg #[.int .i64 d, .int .i64 i]) := by simp [frmV]
theorem frm5 (o d s i t : Int) : frmV 5 o d s i t = .iface 124 (.agg #[.int .i64 d, .int .i64 s, .int .i64 i]) := by simp [frmV]
theorem frm6 (o d s i t : Int) : frmV 6 o d s i t = .iface 120 (.agg #[.int .i64 6, .int .i64 d, .int .i64 i]) := by simp [frmV]
theorem frm7 (o d s i t : Int) : frmV 7 o d s i t = .iface 120 (.agg #[.int .i64 7, .int .i64 d, .int .i64 i]) := by simp [frmV]
theorem frm8 (o d s i t : Int) : frmV 8 o d s i t = .iface 102 (.agg #[.int .i64 t]) := by simp [frmV]
theorem frm9 (o d s i t : Int) : frmV 9 o d s i t = .iface 104 (.agg #[.int .i64 9, .int .i64 d, .int .i64 s, .int .i64 t]) := by simp [frmV]
theorem frm10 (o d s i t : Int) : frmV 10 o d s i t = .iface 104 (.agg #[.int .i64 10, .int .i64 d, .int .i64 s, .int .i64 t]) := by simp [frmV]
theorem frm11 (o d s i t : Int) : frmV 11 o d s i t = .iface 106 (.agg #[]) := by simp [frmV]
theorem frm_no (k o d s i t : Int) (h : knB k = false) : frmV k o d s i t = .nilIface := by
  have h' : ¬ (1 ≤ k ∧ k ≤ 11) := by simpa [knB] using h
  unfold frmV
  rw [if_neg (by omega), if_neg (by omega), if_neg (by omega), if_neg (by omega), if_neg (by omega), if_neg (by omega), if_neg (by omega), if_neg (by omega), if_neg (by omega), if_neg (by omega), if_neg (by omega)]
/-- the kinds, one by one -/
theorem kinds_of {k : Int} (h : knB k = true) : k = 1 ∨ k = 2 ∨ k = 3 ∨ k = 4 ∨ k = 5 ∨ k = 6 ∨ k = 7 ∨ k = 8 ∨ k = 9 ∨ k = 10 ∨ k = 11 := by
  have h' : 1 ≤ k ∧ k ≤ 11 := by simpa [knB] using h
  omega

set_option maxRecDepth 100000 in
set_option maxHeartbeats 400000 in
theorem fbk1 (o d s i t : Int) (w : World) :
    Calls Tryd.prog 63 #[.agg #[.int .i64 1, .int .i64 o, .int .i64 d, .int .i64 s, .int .i64 i, .int .i64 t]] w fun e w' => e = .returned (.tuple #[.iface 116 (.agg #[.int .i64 o, .int .i64 d, .int .i64 s]), .bool true]) ∧ Below w.heap.size w w' := by
  go_enter Tryd.func63, Tryd.ntmps63
  go_wp2
  go_ret2
  exact ⟨rfl, below1 _ _⟩

set_option maxRecDepth 100000 in
set_option maxHeartbeats 400000 in
theorem fbk2 (o d s i t : Int) (w : World) :
    Calls Tryd.prog 63 #[.agg #[.int .i64 2, .int .i64 o, .int .i64 d, .int .i64 s, .int .i64 i, .int .i64 t]] w fun e w' => e = .returned (.tuple #[.iface 118 (.agg #[.int .i64 o, .int .i64 d, .int .i64 i]), .bool true]) ∧ Below w.heap.size w w' := by
  go_enter Tryd.func63, Tryd.ntmps63
  go_wp2
  go_ret2
  exact ⟨rfl, below1 _ _⟩

set_option maxRecDepth 100000 in
set_option maxHeartbeats 400000 in
theorem fbk3 (o d s i t : Int) (w : World) :
    Calls Tryd.prog 63 #[.agg #[.int .i64 3, .int .i64 o, .int .i64 d, .int .i64 s, .int .i64 i, .int .i64 t]] w fun e w' => e = .returned (.tuple #[.iface 120 (.agg #[.int .i64 3, .int .i64 d, .int .i64 i]), .bool true]) ∧ Below w.heap.size w w' := by
  go_enter Tryd.func63, Tryd.ntmps63
  go_wp2
  go_ret2
  exact ⟨rfl, below1 _ _⟩

set_option maxRecDepth 100000 in
set_option maxHeartbeats 400000 in
theorem fbk4 (o d s i t : Int) (w : World) :
    Calls Tryd.prog 63 #[.agg #[.int .i64 4, .int .i64 o, .int .i64 d, .int .i64 s, .int .i64 i, .int .i64 t]] w fun e w' => e = .returned (.tuple #[.iface 122 (.agg #[.int .i64 d, .int .i64 i]), .bool true]) ∧ Below w.heap.size w w' := by
  go_enter Tryd.func63, Tryd.ntmps63
  go_wp2
  go_ret2
  exact ⟨rfl, below1 _ _⟩

set_option maxRecDepth 100000 in
set_option maxHeartbeats 400000 in
theorem fbk5 (o d s i t : Int) (w : World) :
    Calls Tryd.prog 63 #[.agg #[.int .i64 5, .int .i64 o, .int .i64 d, .int .i64 s, .int .i64 i, .int .i64 t]] w fun e w' => e = .returned (.tuple #[.iface 124 (.agg #[.int .i64 d, .int .i64 s, .int .i64 i]), .bool true]) ∧ Below w.heap.size w w' := by
  go_enter Tryd.func63, Tryd.ntmps63
  go_wp2
  go_ret2
  exact ⟨rfl, below1 _ _⟩

set_option maxRecDepth 100000 in
set_option maxHeartbeats 400000 in
theorem fbk6 (o d s i t : Int) (w : World) :
    Calls Tryd.prog 63 #[.agg #[.int .i64 6, .int .i64 o, .int .i64 d, .int .i64 s, .int .i64 i, .int .i64 t]] w fun e w' => e = .returned (.tuple #[.iface 120 (.agg #[.int .i64 6, .int .i64 d, .int .i64 i]), .bool true]) ∧ Below w.heap.size w w' := by
  go_enter Tryd.func63, Tryd.ntmps63
  go_wp2
  go_ret2
  exact ⟨rfl, below1 _ _⟩

set_option maxRecDepth 100000 in
set_option maxHeartbeats 400000 in
theorem fbk7 (o d s i t : Int) (w : World) :
    Calls Tryd.prog 63 #[.agg #[.int .i64 7, .int .i64 o, .int .i64 d, .int .i64 s, .int .i64 i, .int .i64 t]] w fun e w' => e = .returned (.tuple #[.iface 120 (.agg #[.int .i64 7, .int .i64 d, .int .i64 i]), .bool true]) ∧ Below w.heap.size w w' := by
  go_enter Tryd.func63, Tryd.ntmps63
  go_wp2
  go_ret2
  exact ⟨rfl, below1 _ _⟩

set_option maxRecDepth 100000 in
set_option maxHeartbeats 400000 in
theorem fbk8 (o d s i t : Int) (w : World) :
    Calls Tryd.prog 63 #[.agg #[.int .i64 8, .int .i64 o, .int .i64 d, .int .i64 s, .int .i64 i, .int .i64 t]] w fun e w' => e = .returned (.tuple #[.iface 102 (.agg #[.int .i64 t]), .bool true]) ∧ Below w.heap.size w w' := by
  go_enter Tryd.func63, Tryd.ntmps63
  go_wp2
  go_ret2
  exact ⟨rfl, below1 _ _⟩

set_option maxRecDepth 100000 in
set_option maxHeartbeats 400000 in
theorem fbk9 (o d s i t : Int) (w : World) :
    Calls Tryd.prog 63 #[.agg #[.int .i64 9, .int .i64 o, .int .i64 d, .int .i64 s, .int .i64 i, .int .i64 t]] w fun e w' => e = .returned (.tuple #[.iface 104 (.agg #[.int .i64 9, .int .i64 d, .int .i64 s, .int .i64 t]), .bool true]) ∧ Below w.heap.size w w' := by
  go_enter Tryd.func63, Tryd.ntmps63
  go_wp2
  go_ret2
  exact ⟨rfl, below1 _ _⟩

set_option maxRecDepth 100000 in
set_option maxHeartbeats 400000 in
theorem fbk10 (o d s i t : Int) (w : World) :
    Calls Tryd.prog 63 #[.agg #[.int .i64 10, .int .i64 o, .int .i64 d, .int .i64 s, .int .i64 i, .int .i64 t]] w fun e w' => e = .returned (.tuple #[.iface 104 (.agg #[.int .i64 10, .int .i64 d, .int .i64 s, .int .i64 t]), .bool true]) ∧ Below w.heap.size w w' := by
  go_enter Tryd.func63, Tryd.ntmps63
  go_wp2
  go_ret2
  exact ⟨rfl, below1 _ _⟩

set_option maxRecDepth 100000 in
set_option maxHeartbeats 400000 in
theorem fbk11 (o d s i t : Int) (w : World) :
    Calls Tryd.prog 63 #[.agg #[.int .i64 11, .int .i64 o, .int .i64 d, .int .i64 s, .int .i64 i, .int .i64 t]] w fun e w' => e = .returned (.tuple #[.iface 106 (.agg #[]), .bool true]) ∧ Below w.heap.size w w' := by
  go_enter Tryd.func63, Tryd.ntmps63
  go_wp2
  go_ret2
  exact ⟨rfl, below1 _ _⟩

set_option maxRecDepth 100000 in
set_option maxHeartbeats 400000 in
theorem fbk_no (k o d s i t : Int) (w : World) (h : knB k = false) :
    Calls Tryd.prog 63 #[.agg #[.int .i64 k, .int .i64 o, .int .i64 d, .int .i64 s, .int .i64 i, .int .i64 t]] w fun e w' => e = .returned (.tuple #[.nilIface, .bool false]) ∧ Below w.heap.size w w' := by
  have h' : ¬ (1 ≤ k ∧ k ≤ 11) := by simpa [knB] using h
  have n1 : (k == 1) = false := by simp; omega
  have n2 : (k == 2) = false := by simp; omega
  have n3 : (k == 3) = false := by simp; omega
  have n4 : (k == 4) = false := by simp; omega
  have n5 : (k == 5) = false := by simp; omega
  have n6 : (k == 6) = false := by simp; omega
  have n7 : (k == 7) = false := by simp; omega
  have n8 : (k == 8) = false := by simp; omega
  have n9 : (k == 9) = false := by simp; omega
  have n10 : (k == 10) = false := by simp; omega
  have n11 : (k == 11) = false := by simp; omega
  clear h h'
  go_enter Tryd.func63, Tryd.ntmps63
  go_wp2
  go_ret2
  exact ⟨rfl, below1 _ _⟩

theorem formByKind_any (k o d s i t : Int) (w : World) :
    Calls Tryd.prog 63 #[.agg #[.int .i64 k, .int .i64 o, .int .i64 d, .int .i64 s, .int .i64 i, .int .i64 t]] w fun e w' => e = .returned (.tuple #[frmV k o d s i t, .bool (knB k)]) ∧ Below w.heap.size w w' := by
  cases h : knB k
  · rw [frm_no _ _ _ _ _ _ h]; exact fbk_no k o d s i t w h
  · rcases kinds_of h with rfl | rfl | rfl | rfl | rfl | rfl | rfl | rfl | rfl | rfl | rfl
    · rw [frm1]; exact fbk1 o d s i t w
    · rw [frm2]; exact fbk2 o d s i t w
    · rw [frm3]; exact fbk3 o d s i t w
    · rw [frm4]; exact fbk4 o d s i t w
    · rw [frm5]; exact fbk5 o d s i t w
    · rw [frm6]; exact fbk6 o d s i t w
    · rw [frm7]; exact fbk7 o d s i t w
    · rw [frm8]; exact fbk8 o d s i t w
    · rw [frm9]; exact fbk9 o d s i t w
    · rw [frm10]; exact fbk10 o d s i t w
    · rw [frm11]; exact fbk11 o d s i t w
theorem as_op_op (v : Value) (w : World) : (Instr.typeAssert (.iface 116 v) 86 116 true).run Tryd.prog w = .ok (.tuple #[v, .bool true]) w := by kernel_rfl
theorem as_op_opi (v : Value) (w : World) : (Instr.typeAssert (.iface 116 v) 86 118 true).run Tryd.prog w = .ok (.tuple #[.agg #[.int .i64 0, .int .i64 0, .int .i64 0], .bool false]) w := by kernel_rfl
theorem as_op_byte (v : Value) (w : World) : (Instr.typeAssert (.iface 116 v) 86 120 true).run Tryd.prog w = .ok (.tuple #[.agg #[.int .i64 0, .int .i64 0, .int .i64 0], .bool false]) w := by kernel_rfl
theorem as_op_wide (v : Value) (w : World) : (Instr.typeAssert (.iface 116 v) 86 122 true).run Tryd.prog w = .ok (.tuple #[.agg #[.int .i64 0, .int .i64 0], .bool false]) w := by kernel_rfl
theorem as_op_ctx (v : Value) (w : World) : (Instr.typeAssert (.iface 116 v) 86 124 true).run Tryd.prog w = .ok (.tuple #[.agg #[.int .i64 0, .int .i64 0, .int .i64 0], .bool false]) w := by kernel_rfl
theorem as_op_jump (v : Value) (w : World) : (Instr.typeAssert (.iface 116 v) 86 102 true).run Tryd.prog w = .ok (.tuple #[.agg #[.int .i64 0], .bool false]) w := by kernel_rfl
theorem as_op_branch (v : Value) (w : World) : (Instr.typeAssert (.iface 116 v) 86 104 true).run Tryd.prog w = .ok (.tuple #[.agg #[.int .i64 0, .int .i64 0, .int .i64 0, .int .i64 0], .bool false]) w := by kernel_rfl
theorem as_op_exit (v : Value) (w : World) : (Instr.typeAssert (.iface 116 v) 86 106 true).run Tryd.prog w = .ok (.tuple #[.agg #[], .bool false]) w := by kernel_rfl
theorem as_opi_op (v : Value) (w : World) : (Instr.typeAssert (.iface 118 v) 86 116 true).run Tryd.prog w = .ok (.tuple #[.agg #[.int .i64 0, .int .i64 0, .int .i64 0], .bool false]) w := by kernel_rfl
theorem as_opi_opi (v : Value) (w : World) : (Instr.typeAssert (.iface 118 v) 86 118 true).run Tryd.prog w = .ok (.tuple #[v, .bool true]) w := by kernel_rfl
theorem as_opi_byte (v : Value) (w : World) : (Instr.typeAssert (.iface 118 v) 86 120 true).run Tryd.prog w = .ok (.tuple #[.agg #[.int .i64 0, .int .i64 0, .int .i64 0], .bool false]) w := by kernel_rfl
theorem as_opi_wide (v : Value) (w : World) : (Instr.typeAssert (.iface 118 v) 86 122 true).run Tryd.prog w = .ok (.tuple #[.agg #[.int .i64 0, .int .i64 0], .bool false]) w := by kernel_rfl
theorem as_opi_ctx (v : Value) (w : World) : (Instr.typeAssert (.iface 118 v) 86 124 true).run Tryd.prog w = .ok (.tuple #[.agg #[.int .i64 0, .int .i64 0, .int .i64 0], .bool false]) w := by kernel_rfl
theorem as_opi_jump (v : Value) (w : World) : (Instr.typeAssert (.iface 118 v) 86 102 true).run Tryd.prog w = .ok (.tuple #[.agg #[.int .i64 0], .bool false]) w := by kernel_rfl
theorem as_opi_branch (v : Value) (w : World) : (Instr.typeAssert (.iface 118 v) 86 104 true).run Tryd.prog w = .ok (.tuple #[.agg #[.int .i64 0, .int .i64 0, .int .i64 0, .int .i64 0], .bool false]) w := by kernel_rfl
theorem as_opi_exit (v : Value) (w : World) : (Instr.typeAssert (.iface 118 v) 86 106 true).run Tryd.prog w = .ok (.tuple #[.agg #[], .bool false]) w := by kernel_rfl
theorem as_byte_op (v : Value) (w : World) : (Instr.typeAssert (.iface 120 v) 86 116 true).run Tryd.prog w = .ok (.tuple #[.agg #[.int .i64 0, .int .i64 0, .int .i64 0], .bool false]) w := by kernel_rfl
theorem as_byte_opi (v : Value) (w : World) : (Instr.typeAssert (.iface 120 v) 86 118 true).run Tryd.prog w = .ok (.tuple #[.agg #[.int .i64 0, .int .i64 0, .int .i64 0], .bool false]) w := by kernel_rfl
theorem as_byte_byte (v : Value) (w : World) : (Instr.typeAssert (.iface 120 v) 86 120 true).run Tryd.prog w = .ok (.tuple #[v, .bool true]) w := by kernel_rfl
theorem as_byte_wide (v : Value) (w : World) : (Instr.typeAssert (.iface 120 v) 86 122 true).run Tryd.prog w = .ok (.tuple #[.agg #[.int .i64 0, .int .i64 0], .bool false]) w := by kernel_rfl
theorem as_byte_ctx (v : Value) (w : World) : (Instr.typeAssert (.iface 120 v) 86 124 true).run Tryd.prog w = .ok (.tuple #[.agg #[.int .i64 0, .int .i64 0, .int .i64 0], .bool false]) w := by kernel_rfl
theorem as_byte_jump (v : Value) (w : World) : (Instr.typeAssert (.iface 120 v) 86 102 true).run Tryd.prog w = .ok (.tuple #[.agg #[.int .i64 0], .bool false]) w := by kernel_rfl
theorem as_byte_branch (v : Value) (w : World) : (Instr.typeAssert (.iface 120 v) 86 104 true).run Tryd.prog w = .ok (.tuple #[.agg #[.int .i64 0, .int .i64 0, .int .i64 0, .int .i64 0], .bool false]) w := by kernel_rfl
theorem as_byte_exit (v : Value) (w : World) : (Instr.typeAssert (.iface 120 v) 86 106 true).run Tryd.prog w = .ok (.tuple #[.agg #[], .bool false]) w := by kernel_rfl
theorem as_wide_op (v : Value) (w : World) : (Instr.typeAssert (.iface 122 v) 86 116 true).run Tryd.prog w = .ok (.tuple #[.agg #[.int .i64 0, .int .i64 0, .int .i64 0], .bool false]) w := by kernel_rfl
theorem as_wide_opi (v : Value) (w : World) : (Instr.typeAssert (.iface 122 v) 86 118 true).run Tryd.prog w = .ok (.tuple #[.agg #[.int .i64 0, .int .i64 0, .int .i64 0], .bool false]) w := by kernel_rfl
theorem as_wide_byte (v : Value) (w : World) : (Instr.typeAssert (.iface 122 v) 86 120 true).run Tryd.prog w = .ok (.tuple #[.agg #[.int .i64 0, .int .i64 0, .int .i64 0], .bool false]) w := by kernel_rfl
theorem as_wide_wide (v : Value) (w : World) : (Instr.typeAssert (.iface 122 v) 86 122 true).run Tryd.prog w = .ok (.tuple #[v, .bool true]) w := by kernel_rfl
theorem as_wide_ctx (v : Value) (w : World) : (Instr.typeAssert (.iface 122 v) 86 124 true).run Tryd.prog w = .ok (.tuple #[.agg #[.int .i64 0, .int .i64 0, .int .i64 0], .bool false]) w := by kernel_rfl
theorem as_wide_jump (v : Value) (w : World) : (Instr.typeAssert (.iface 122 v) 86 102 true).run Tryd.prog w = .ok (.tuple #[.agg #[.int .i64 0], .bool false]) w := by kernel_rfl
theorem as_wide_branch (v : Value) (w : World) : (Instr.typeAssert (.iface 122 v) 86 104 true).run Tryd.prog w = .ok (.tuple #[.agg #[.int .i64 0, .int .i64 0, .int .i64 0, .int .i64 0], .bool false]) w := by kernel_rfl
theorem as_wide_exit (v : Value) (w : World) : (Instr.typeAssert (.iface 122 v) 86 106 true).run Tryd.prog w = .ok (.tuple #[.agg #[], .bool false]) w := by kernel_rfl
theorem as_ctx_op (v : Value) (w : World) : (Instr.typeAssert (.iface 124 v) 86 116 true).run Tryd.prog w = .ok (.tuple #[.agg #[.int .i64 0, .int .i64 0, .int .i64 0], .bool false]) w := by kernel_rfl
theorem as_ctx_opi (v : Value) (w : World) : (Instr.typeAssert (.iface 124 v) 86 118 true).run Tryd.prog w = .ok (.tuple #[.agg #[.int .i64 0, .int .i64 0, .int .i64 0], .bool false]) w := by kernel_rfl
theorem as_ctx_byte (v : Value) (w : World) : (Instr.typeAssert (.iface 124 v) 86 120 true).run Tryd.prog w = .ok (.tuple #[.agg #[.int .i64 0, .int .i64 0, .int .i64 0], .bool false]) w := by kernel_rfl
theorem as_ctx_wide (v : Value) (w : World) : (Instr.typeAssert (.iface 124 v) 86 122 true).run Tryd.prog w = .ok (.tuple #[.agg #[.int .i64 0, .int .i64 0], .bool false]) w := by kernel_rfl
theorem as_ctx_ctx (v : Value) (w : World) : (Instr.typeAssert (.iface 124 v) 86 124 true).run Tryd.prog w = .ok (.tuple #[v, .bool true]) w := by kernel_rfl
theorem as_ctx_jump (v : Value) (w : World) : (Instr.typeAssert (.iface 124 v) 86 102 true).run Tryd.prog w = .ok (.tuple #[.agg #[.int .i64 0], .bool false]) w := by kernel_rfl
theorem as_ctx_branch (v : Value) (w : World) : (Instr.typeAssert (.iface 124 v) 86 104 true).run Tryd.prog w = .ok (.tuple #[.agg #[.int .i64 0, .int .i64 0, .int .i64 0, .int .i64 0], .bool false]) w := by kernel_rfl
theorem as_ctx_exit (v : Value) (w : World) : (Instr.typeAssert (.iface 124 v) 86 106 true).run Tryd.prog w = .ok (.tuple #[.agg #[], .bool false]) w := by kernel_rfl
theorem as_jump_op (v : Value) (w : World) : (Instr.typeAssert (.iface 102 v) 86 116 true).run Tryd.prog w = .ok (.tuple #[.agg #[.int .i64 0, .int .i64 0, .int .i64 0], .bool false]) w := by kernel_rfl
theorem as_jump_opi (v : Value) (w : World) : (Instr.typeAssert (.iface 102 v) 86 118 true).run Tryd.prog w = .ok (.tuple #[.agg #[.int .i64 0, .int .i64 0, .int .i64 0], .bool false]) w := by kernel_rfl
theorem as_jump_byte (v : Value) (w : World) : (Instr.typeAssert (.iface 102 v) 86 120 true).run Tryd.prog w = .ok (.tuple #[.agg #[.int .i64 0, .int .i64 0, .int .i64 0], .bool false]) w := by kernel_rfl
theorem as_jump_wide (v : Value) (w : World) : (Instr.typeAssert (.iface 102 v) 86 122 true).run Tryd.prog w = .ok (.tuple #[.agg #[.int .i64 0, .int .i64 0], .bool false]) w := by kernel_rfl
theorem as_jump_ctx (v : Value) (w : World) : (Instr.typeAssert (.iface 102 v) 86 124 true).run Tryd.prog w = .ok (.tuple #[.agg #[.int .i64 0, .int .i64 0, .int .i64 0], .bool false]) w := by kernel_rfl
theorem as_jump_jump (v : Value) (w : World) : (Instr.typeAssert (.iface 102 v) 86 102 true).run Tryd.prog w = .ok (.tuple #[v, .bool true]) w := by kernel_rfl
theorem as_jump_branch (v : Value) (w : World) : (Instr.typeAssert (.iface 102 v) 86 104 true).run Tryd.prog w = .ok (.tuple #[.agg #[.int .i64 0, .int .i64 0, .int .i64 0, .int .i64 0], .bool false]) w := by kernel_rfl
theorem as_jump_exit (v : Value) (w : World) : (Instr.typeAssert (.iface 102 v) 86 106 true).run Tryd.prog w = .ok (.tuple #[.agg #[], .bool false]) w := by kernel_rfl
theorem as_branch_op (v : Value) (w : World) : (Instr.typeAssert (.iface 104 v) 86 116 true).run Tryd.prog w = .ok (.tuple #[.agg #[.int .i64 0, .int .i64 0, .int .i64 0], .bool false]) w := by kernel_rfl
theorem as_branch_opi (v : Value) (w : World) : (Instr.typeAssert (.iface 104 v) 86 118 true).run Tryd.prog w = .ok (.tuple #[.agg #[.int .i64 0, .int .i64 0, .int .i64 0], .bool false]) w := by kernel_rfl
theorem as_branch_byte (v : Value) (w : World) : (Instr.typeAssert (.iface 104 v) 86 120 true).run Tryd.prog w = .ok (.tuple #[.agg #[.int .i64 0, .int .i64 0, .int .i64 0], .bool false]) w := by kernel_rfl
theorem as_branch_wide (v : Value) (w : World) : (Instr.typeAssert (.iface 104 v) 86 122 true).run Tryd.prog w = .ok (.tuple #[.agg #[.int .i64 0, .int .i64 0], .bool false]) w := by kernel_rfl
theorem as_branch_ctx (v : Value) (w : World) : (Instr.typeAssert (.iface 104 v) 86 124 true).run Tryd.prog w = .ok (.tuple #[.agg #[.int .i64 0, .int .i64 0, .int .i64 0], .bool false]) w := by kernel_rfl
theorem as_branch_jump (v : Value) (w : World) : (Instr.typeAssert (.iface 104 v) 86 102 true).run Tryd.prog w = .ok (.tuple #[.agg #[.int .i64 0], .bool false]) w := by kernel_rfl
theorem as_branch_branch (v : Value) (w : World) : (Instr.typeAssert (.iface 104 v) 86 104 true).run Tryd.prog w = .ok (.tuple #[v, .bool true]) w := by kernel_rfl
theorem as_branch_exit (v : Value) (w : World) : (Instr.typeAssert (.iface 104 v) 86 106 true).run Tryd.prog w = .ok (.tuple #[.agg #[], .bool false]) w := by kernel_rfl
theorem as_exit_op (v : Value) (w : World) : (Instr.typeAssert (.iface 106 v) 86 116 true).run Tryd.prog w = .ok (.tuple #[.agg #[.int .i64 0, .int .i64 0, .int .i64 0], .bool false]) w := by kernel_rfl
theorem as_exit_opi (v : Value) (w : World) : (Instr.typeAssert (.iface 106 v) 86 118 true).run Tryd.prog w = .ok (.tuple #[.agg #[.int .i64 0, .int .i64 0, .int .i64 0], .bool false]) w := by kernel_rfl
theorem as_exit_byte (v : Value) (w : World) : (Instr.typeAssert (.iface 106 v) 86 120 true).run Tryd.prog w = .ok (.tuple #[.agg #[.int .i64 0, .int .i64 0, .int .i64 0], .bool false]) w := by kernel_rfl
theorem as_exit_wide (v : Value) (w : World) : (Instr.typeAssert (.iface 106 v) 86 122 true).run Tryd.prog w = .ok (.tuple #[.agg #[.int .i64 0, .int .i64 0], .bool false]) w := by kernel_rfl
theorem as_exit_ctx (v : Value) (w : World) : (Instr.typeAssert (.iface 106 v) 86 124 true).run Tryd.prog w = .ok (.tuple #[.agg #[.int .i64 0, .int .i64 0, .int .i64 0], .bool false]) w := by kernel_rfl
theorem as_exit_jump (v : Value) (w : World) : (Instr.typeAssert (.iface 106 v) 86 102 true).run Tryd.prog w = .ok (.tuple #[.agg #[.int .i64 0], .bool false]) w := by kernel_rfl
theorem as_exit_branch (v : Value) (w : World) : (Instr.typeAssert (.iface 106 v) 86 104 true).run Tryd.prog w = .ok (.tuple #[.agg #[.int .i64 0, .int .i64 0, .int .i64 0, .int .i64 0], .bool false]) w := by kernel_rfl
theorem as_exit_exit (v : Value) (w : World) : (Instr.typeAssert (.iface 106 v) 86 106 true).run Tryd.prog w = .ok (.tuple #[v, .bool true]) w := by kernel_rfl
end Go.Proofs.YtilnegmjnbffhaaDoor
