/-
  Contract of the numbers of a form, in the order of the text.
-/
import Derived.Test.YtffeiegbnlbaiaaDoorFormAny
namespace Go.Proofs.YtffeiegbnlbaiaaDoor
open Go.ChangeShapes Go.WideShapes Go.ChangeAt Go.RowKit

/-- it answers a slice of ints in a block of its own -/
def FGave (w : World) (l : List Int) (e : Ending) (w' : World) : Prop :=
  ∃ g, e = .returned (.slice (some ⟨g, 0, none⟩) l.length l.length) ∧ g < w'.heap.size ∧ (∀ j y, l[j]? = some y → w'.cell? ⟨g, j, none⟩ = some (.int .i64 y)) ∧ Below w.heap.size w w'
theorem fgave_of {w w1 : World} {g n : Nat} {cs : Array Value} {ty : TypeId} (l : List Int) (h : Below w.heap.size w w1) (hg : g = w1.heap.size) (hn : l.length = n) (hc : cs = (l.map (Value.int .i64)).toArray) :
    FGave w l (.returned (.slice (some ⟨g, 0, none⟩) n n)) (w1.alloc (.cells cs ty)) := by
  subst hg hn hc
  refine ⟨w1.heap.size, rfl, by simp, ?_, h.trans ((below1 w1 _).mono h.size)⟩
  intro j y hy
  have hb := heap_alloc_new w1 (.cells (l.map (Value.int .i64)).toArray ty)
  simp only [World.cell?, hb]
  simp [hy]

set_option maxRecDepth 20000 in
set_option maxHeartbeats 1000000 in
theorem fields_op (o d s : Int) (w : World) :
    Calls Tryd.prog 25 #[.iface 72 (.agg #[.int .i64 o, .int .i64 d, .int .i64 s])] w (FGave w [o, d, s]) := by
  have q0 := as_op_op
  go_enter Tryd.func25, Tryd.ntmps25
  go_wp2
  go_ret
  exact fgave_of (w1 := w.alloc _) [o, d, s] (below1 _ _) (by simp) rfl (by simp)

set_option maxRecDepth 20000 in
set_option maxHeartbeats 1000000 in
theorem fields_opi (o d i : Int) (w : World) :
    Calls Tryd.prog 25 #[.iface 74 (.agg #[.int .i64 o, .int .i64 d, .int .i64 i])] w (FGave w [o, d, i]) := by
  have q0 := as_opi_op
  have q1 := as_opi_opi
  go_enter Tryd.func25, Tryd.ntmps25
  go_wp2
  go_ret
  exact fgave_of (w1 := w.alloc _) [o, d, i] (below1 _ _) (by simp) rfl (by simp)

set_option maxRecDepth 20000 in
set_option maxHeartbeats 1000000 in
theorem fields_byte (k d i : Int) (w : World) :
    Calls Tryd.prog 25 #[.iface 76 (.agg #[.int .i64 k, .int .i64 d, .int .i64 i])] w (FGave w [d, i]) := by
  have q0 := as_byte_op
  have q1 := as_byte_opi
  have q2 := as_byte_byte
  go_enter Tryd.func25, Tryd.ntmps25
  go_wp2
  go_ret
  exact fgave_of (w1 := w.alloc _) [d, i] (below1 _ _) (by simp) rfl (by simp)

set_option maxRecDepth 20000 in
set_option maxHeartbeats 1000000 in
theorem fields_wide (d i : Int) (w : World) :
    Calls Tryd.prog 25 #[.iface 78 (.agg #[.int .i64 d, .int .i64 i])] w (FGave w [d, i]) := by
  have q0 := as_wide_op
  have q1 := as_wide_opi
  have q2 := as_wide_byte
  have q3 := as_wide_wide
  go_enter Tryd.func25, Tryd.ntmps25
  go_wp2
  go_ret
  exact fgave_of (w1 := w.alloc _) [d, i] (below1 _ _) (by simp) rfl (by simp)

set_option maxRecDepth 20000 in
set_option maxHeartbeats 1000000 in
theorem fields_ctx (d s i : Int) (w : World) :
    Calls Tryd.prog 25 #[.iface 80 (.agg #[.int .i64 d, .int .i64 s, .int .i64 i])] w (FGave w [d, s, i]) := by
  have q0 := as_ctx_op
  have q1 := as_ctx_opi
  have q2 := as_ctx_byte
  have q3 := as_ctx_wide
  have q4 := as_ctx_ctx
  go_enter Tryd.func25, Tryd.ntmps25
  go_wp2
  go_ret
  exact fgave_of (w1 := w.alloc _) [d, s, i] (below1 _ _) (by simp) rfl (by simp)

set_option maxRecDepth 20000 in
set_option maxHeartbeats 1000000 in
theorem fields_jump (t : Int) (w : World) :
    Calls Tryd.prog 25 #[.iface 64 (.agg #[.int .i64 t])] w (FGave w [t]) := by
  have q0 := as_jump_op
  have q1 := as_jump_opi
  have q2 := as_jump_byte
  have q3 := as_jump_wide
  have q4 := as_jump_ctx
  have q5 := as_jump_jump
  go_enter Tryd.func25, Tryd.ntmps25
  go_wp2
  go_ret
  exact fgave_of (w1 := w.alloc _) [t] (below1 _ _) (by simp) rfl (by simp)

set_option maxRecDepth 20000 in
set_option maxHeartbeats 1000000 in
theorem fields_branch (k d s t : Int) (w : World) :
    Calls Tryd.prog 25 #[.iface 66 (.agg #[.int .i64 k, .int .i64 d, .int .i64 s, .int .i64 t])] w (FGave w [d, s, t]) := by
  have q0 := as_branch_op
  have q1 := as_branch_opi
  have q2 := as_branch_byte
  have q3 := as_branch_wide
  have q4 := as_branch_ctx
  have q5 := as_branch_jump
  have q6 := as_branch_branch
  go_enter Tryd.func25, Tryd.ntmps25
  go_wp2
  go_ret
  exact fgave_of (w1 := w.alloc _) [d, s, t] (below1 _ _) (by simp) rfl (by simp)

set_option maxRecDepth 20000 in
set_option maxHeartbeats 1000000 in
theorem fields_exit (w : World) :
    Calls Tryd.prog 25 #[.iface 68 (.agg #[])] w fun e w' => e = .returned (.slice none 0 0) ∧ Below w.heap.size w w' := by
  have q0 := as_exit_op
  have q1 := as_exit_opi
  have q2 := as_exit_byte
  have q3 := as_exit_wide
  have q4 := as_exit_ctx
  have q5 := as_exit_jump
  have q6 := as_exit_branch
  go_enter Tryd.func25, Tryd.ntmps25
  go_wp2
  go_ret
  exact ⟨rfl, Below.refl _ _⟩

end Go.Proofs.YtffeiegbnlbaiaaDoor
