/-
  Contracts of the successors of a step: the program's and the model's.
-/
import Derived.Test.YtbmonndpblnjkaaCopy
namespace Go.Proofs.Ytbmonndpblnjkaa
open Go.ChangeShapes Go.WideShapes Go.ChangeAt Go.RowKit

/-- a slice of ints that reads as the list l -/
def ILies (w : World) (A : Option Addr) (l : List Int) : Prop :=
  ∀ i y, l[i]? = some y → ∃ b off, A = some ⟨b, off, none⟩ ∧ b < w.heap.size ∧ w.cell? ⟨b, off + i, none⟩ = some (.int .i64 y)
theorem ILies.below {w w' : World} {A : Option Addr} {l : List Int} (h : ILies w A l) (hb : Below w.heap.size w w') : ILies w' A l := by
  intro i x hx
  obtain ⟨b, off, hA, hlt, ha⟩ := h i x hx
  exact ⟨b, off, hA, Nat.lt_of_lt_of_le hlt hb.size, ((bcell hb).1 b _ hlt).trans ha⟩
theorem own_ilies {w : World} {base n c : Nat} {A : Option Addr} {l : List Int} (h : w.ownsRow base 3 1 (.slice A n c) n (l.map (Value.int .i64))) : ILies w A l := by
  intro i y hy
  have hlt : i < l.length := (List.getElem?_eq_some_iff.1 hy).1
  have hl := h.1
  obtain ⟨g, cap, hv, _, hg⟩ := h.form (by simp at hl; omega)
  have hA : A = some ⟨g, 0, none⟩ := by injection hv
  subst hA
  refine ⟨g, 0, rfl, hg, ?_⟩
  have := h.cells (g := g) rfl i (.int .i64 y) (by simp [hy])
  rw [add_plain] at this
  exact this
/-- it answers a slice of ints of its own -/
def GaveInts (w : World) (l : List Int) (e : Ending) (w' : World) : Prop :=
  ∃ A c, e = .returned (.slice A l.length c) ∧ w'.ownsRow w.heap.size 3 1 (.slice A l.length c) l.length (l.map (Value.int .i64)) ∧ Below w.heap.size w w'
/-- the steps that may follow the step at an index -/
def nextsI (k t at_ : Int) : List Int := if k = 11 then [] else if k = 8 then [at_ + t + 1] else if k = 9 ∨ k = 10 then [at_ + 1, at_ + t + 1] else [at_ + 1]

theorem own_row (w : World) (l : List Int) (base : Nat) (hb : base ≤ w.heap.size) (hm : l.length ≤ maxLen) :
    (w.alloc (.cells (l.map (Value.int .i64)).toArray 3)).ownsRow base 3 1 (.slice (some ⟨w.heap.size, 0, none⟩) l.length l.length) l.length (l.map (Value.int .i64)) := by
  refine ⟨by simp, .inr ⟨w.heap.size, l.length, _, rfl, hb, heap_alloc_new w _, Nat.le_refl _, hm, by simp, ?_⟩⟩
  exact List.take_of_length_le (by simp)
theorem gave_alloc (w w1 : World) (l : List Int) (h : Below w.heap.size w w1) (hm : l.length ≤ maxLen) :
    GaveInts w l (.returned (.slice (some ⟨w1.heap.size, 0, none⟩) l.length l.length)) (w1.alloc (.cells (l.map (Value.int .i64)).toArray 3)) :=
  ⟨_, _, rfl, own_row w1 l _ h.size hm, Below.tr h (below1 _ _)⟩
theorem gave_nil (w w1 : World) (h : Below w.heap.size w w1) : GaveInts w [] (.returned (.slice none 0 0)) w1 :=
  ⟨none, 0, rfl, World.ownsRow_nil _ _ _ _, h⟩

theorem gave_of {w w1 : World} {g n : Nat} {cs : Array Value} (l : List Int) (h : Below w.heap.size w w1) (hg : g = w1.heap.size) (hn : l.length = n ∧ n ≤ 1000000) (hc : cs = (l.map (Value.int .i64)).toArray) :
    GaveInts w l (.returned (.slice (some ⟨g, 0, none⟩) n n)) (w1.alloc (.cells cs 3)) := by
  obtain ⟨rfl, hm⟩ := hn
  subst hg hc
  exact gave_alloc w w1 l h (by unfold maxLen; omega)

set_option maxHeartbeats 1000000 in
theorem follow_op (o d s : Int) (at_ : Int) (w : World) (ha : 0 ≤ at_ ∧ at_ ≤ 10000000) :
    Calls Try.prog 37 #[.iface 83 (.agg #[.int .i64 o, .int .i64 d, .int .i64 s]), .int .i64 at_] w (GaveInts w [at_ + 1]) := by
  have q0 := as_op_jump
  have q1 := as_op_branch
  have q2 := as_op_exit
  go_enter Try.func37, Try.ntmps37
  go_wp2
  go_ret
  exact gave_of (w1 := w) [at_ + 1] (Below.refl _ _) (by simp) (by simp) (by simp)

set_option maxHeartbeats 1000000 in
theorem follow_opi (o d i : Int) (at_ : Int) (w : World) (ha : 0 ≤ at_ ∧ at_ ≤ 10000000) :
    Calls Try.prog 37 #[.iface 85 (.agg #[.int .i64 o, .int .i64 d, .int .i64 i]), .int .i64 at_] w (GaveInts w [at_ + 1]) := by
  have q0 := as_opi_jump
  have q1 := as_opi_branch
  have q2 := as_opi_exit
  go_enter Try.func37, Try.ntmps37
  go_wp2
  go_ret
  exact gave_of (w1 := w) [at_ + 1] (Below.refl _ _) (by simp) (by simp) (by simp)

set_option maxHeartbeats 1000000 in
theorem follow_byte (k d i : Int) (at_ : Int) (w : World) (ha : 0 ≤ at_ ∧ at_ ≤ 10000000) :
    Calls Try.prog 37 #[.iface 87 (.agg #[.int .i64 k, .int .i64 d, .int .i64 i]), .int .i64 at_] w (GaveInts w [at_ + 1]) := by
  have q0 := as_byte_jump
  have q1 := as_byte_branch
  have q2 := as_byte_exit
  go_enter Try.func37, Try.ntmps37
  go_wp2
  go_ret
  exact gave_of (w1 := w) [at_ + 1] (Below.refl _ _) (by simp) (by simp) (by simp)

set_option maxHeartbeats 1000000 in
theorem follow_wide (d i : Int) (at_ : Int) (w : World) (ha : 0 ≤ at_ ∧ at_ ≤ 10000000) :
    Calls Try.prog 37 #[.iface 89 (.agg #[.int .i64 d, .int .i64 i]), .int .i64 at_] w (GaveInts w [at_ + 1]) := by
  have q0 := as_wide_jump
  have q1 := as_wide_branch
  have q2 := as_wide_exit
  go_enter Try.func37, Try.ntmps37
  go_wp2
  go_ret
  exact gave_of (w1 := w) [at_ + 1] (Below.refl _ _) (by simp) (by simp) (by simp)

set_option maxHeartbeats 1000000 in
theorem follow_ctx (d s i : Int) (at_ : Int) (w : World) (ha : 0 ≤ at_ ∧ at_ ≤ 10000000) :
    Calls Try.prog 37 #[.iface 91 (.agg #[.int .i64 d, .int .i64 s, .int .i64 i]), .int .i64 at_] w (GaveInts w [at_ + 1]) := by
  have q0 := as_ctx_jump
  have q1 := as_ctx_branch
  have q2 := as_ctx_exit
  go_enter Try.func37, Try.ntmps37
  go_wp2
  go_ret
  exact gave_of (w1 := w) [at_ + 1] (Below.refl _ _) (by simp) (by simp) (by simp)

set_option maxHeartbeats 1000000 in
theorem follow_jump (t : Int) (at_ : Int) (w : World) (ha : 0 ≤ at_ ∧ at_ ≤ 10000000) (ht : 0 ≤ t ∧ t ≤ 100) :
    Calls Try.prog 37 #[.iface 74 (.agg #[.int .i64 t]), .int .i64 at_] w (GaveInts w [at_ + t + 1]) := by
  have q0 := as_jump_jump
  go_enter Try.func37, Try.ntmps37
  go_wp2
  go_ret
  exact gave_of (w1 := w.alloc (.cells #[.int .i64 t] 74)) [at_ + t + 1] (below1 _ _) (by simp) (by simp) (by simp)

set_option maxHeartbeats 1000000 in
theorem follow_branch (k d s t : Int) (at_ : Int) (w : World) (ha : 0 ≤ at_ ∧ at_ ≤ 10000000) (ht : 0 ≤ t ∧ t ≤ 100) :
    Calls Try.prog 37 #[.iface 76 (.agg #[.int .i64 k, .int .i64 d, .int .i64 s, .int .i64 t]), .int .i64 at_] w (GaveInts w [at_ + 1, at_ + t + 1]) := by
  have q0 := as_branch_jump
  have q1 := as_branch_branch
  go_enter Try.func37, Try.ntmps37
  go_wp2
  go_ret
  exact gave_of (w1 := w.alloc (.cells #[.int .i64 k, .int .i64 d, .int .i64 s, .int .i64 t] 76)) [at_ + 1, at_ + t + 1] (below1 _ _) (by simp) (by simp) (by simp)

set_option maxHeartbeats 1000000 in
theorem follow_exit (at_ : Int) (w : World) (_ha : 0 ≤ at_ ∧ at_ ≤ 10000000) :
    Calls Try.prog 37 #[.iface 78 (.agg #[]), .int .i64 at_] w (GaveInts w []) := by
  have q0 := as_exit_jump
  have q1 := as_exit_branch
  have q2 := as_exit_exit
  go_enter Try.func37, Try.ntmps37
  go_wp2
  go_ret
  exact gave_nil w _ (below1 _ _)

theorem followers_any (k o d s i t at_ : Int) (w : World) (h : okP k o d s i t) (ha : 0 ≤ at_ ∧ at_ ≤ 10000000) :
    Calls Try.prog 37 #[frmV k o d s i t, .int .i64 at_] w (GaveInts w (nextsI k t at_)) := by
  obtain ⟨hk, _, _, _, _, ht⟩ := okP_bounds h
  have hkn : knB k = true := by simp [knB]; omega
  rcases kinds_of hkn with rfl | rfl | rfl | rfl | rfl | rfl | rfl | rfl | rfl | rfl | rfl
  · rw [frm1]; exact follow_op o d s at_ w ha
  · rw [frm2]; exact follow_opi o d i at_ w ha
  · rw [frm3]; exact follow_byte 3 d i at_ w ha
  · rw [frm4]; exact follow_wide d i at_ w ha
  · rw [frm5]; exact follow_ctx d s i at_ w ha
  · rw [frm6]; exact follow_byte 6 d i at_ w ha
  · rw [frm7]; exact follow_byte 7 d i at_ w ha
  · rw [frm8]; exact follow_jump t at_ w ha (by omega)
  · rw [frm9]; exact follow_branch 9 d s t at_ w ha (by omega)
  · rw [frm10]; exact follow_branch 10 d s t at_ w ha (by omega)
  · rw [frm11]; exact follow_exit  at_ w ha
end Go.Proofs.Ytbmonndpblnjkaa
