/-
  NewMachine: the model's and the program's.
-/
import Derived.Test.YtilnegmjnbffhaaDoorMach
namespace Go.Proofs.YtilnegmjnbffhaaDoor
open Go.ChangeShapes Go.WideShapes Go.ChangeAt Go.RowKit

def newV (g1 g2 g3 : Nat) : Value := .agg #[.int .i64 0, .slice (some ⟨g1, 0, none⟩) 6 6, .slice (some ⟨g2, 0, none⟩) 16 16, .slice (some ⟨g3, 0, none⟩) 16 16]
theorem nb3 (w : World) (o0 o1 o2 o3 : Obj) : ((((w.alloc o0).alloc o1).alloc o2).alloc o3).drew.heap[w.heap.size + 1 + 1 + 1]? = some o3 := by
  have := heap_alloc_new (((w.alloc o0).alloc o1).alloc o2) o3
  show ((((w.alloc o0).alloc o1).alloc o2).alloc o3).heap[w.heap.size + 1 + 1 + 1]? = some o3
  simpa using this
theorem nb2 (w : World) (o0 o1 o2 o3 : Obj) : ((((w.alloc o0).alloc o1).alloc o2).alloc o3).drew.heap[w.heap.size + 1 + 1]? = some o2 := by
  have := heap_alloc_new ((w.alloc o0).alloc o1) o2
  refine (Below.heap_alloc _ _ _ (by simp)).trans ?_
  simpa using this
theorem nb1 (w : World) (o0 o1 o2 o3 : Obj) : ((((w.alloc o0).alloc o1).alloc o2).alloc o3).drew.heap[w.heap.size + 1]? = some o1 := by
  have := heap_alloc_new (w.alloc o0) o1
  refine (Below.heap_alloc _ _ _ (by simp <;> omega)).trans ((Below.heap_alloc _ _ _ (by simp)).trans ?_)
  simpa using this
theorem nbb (w : World) (o0 o1 o2 o3 : Obj) : Below w.heap.size w ((((w.alloc o0).alloc o1).alloc o2).alloc o3).drew := ((below3 w o0 o1 o2).alloc (by simp; omega) o3).drew
theorem made6 : madeCells #[.int .i64 0] 6 = (newM.r.map (Value.int .i64)).toArray := by kernel_rfl
theorem made16 : madeCells #[.int .i64 0] 16 = (newM.c.map (Value.int .i64)).toArray := by kernel_rfl
theorem madeb16 : madeCells #[.bool false] 16 = (newM.s.map Value.bool).toArray := by kernel_rfl
theorem new_shut {w W : World} {g1 g2 g3 : Nat} (h1 : W.heap[g1]? = some (.cells (madeCells #[.int .i64 0] 6) 3)) (h2 : W.heap[g2]? = some (.cells (madeCells #[.int .i64 0] 16) 3)) (h3 : W.heap[g3]? = some (.cells (madeCells #[.bool false] 16) 4))
    (hge : w.heap.size ≤ g1 ∧ w.heap.size ≤ g2 ∧ w.heap.size ≤ g3) (hne : g1 ≠ g2 ∧ g1 ≠ g3 ∧ g2 ≠ g3) (hb : Below w.heap.size w W) : GaveNew w (.returned (newV g1 g2 g3)) W :=
  ⟨g1, g2, g3, rfl, ⟨by rw [made6] at h1; exact h1, by rw [made16] at h2; exact h2, by rw [madeb16] at h3; exact h3, hne⟩, hge, hb⟩
set_option maxRecDepth 100000 in
set_option maxHeartbeats 2000000 in
theorem implNewM_any (w : World) : Calls Tryd.prog 38 #[] w (GaveNew w) := by
  have h6 := mk6
  have h16 := mk16
  have hb16 := mkb16
  go_enter Tryd.func38, Tryd.ntmps38
  go_wp2_with fail
  go_region
  all_goals (try go_wp2)
  all_goals first
    | exact bodyPost_ret (v := newV (w.heap.size + 1) (w.heap.size + 1 + 1) (w.heap.size + 1 + 1 + 1)) (by simp [newV, results, Tryd.results38, go_sem]) rfl (new_shut (by first | exact nb1 _ _ _ _ _ | exact nb2 _ _ _ _ _ | exact nb3 _ _ _ _ _) (by first | exact nb1 _ _ _ _ _ | exact nb2 _ _ _ _ _ | exact nb3 _ _ _ _ _) (by first | exact nb1 _ _ _ _ _ | exact nb2 _ _ _ _ _ | exact nb3 _ _ _ _ _) (by omega) (by omega) (nbb _ _ _ _ _))
    | exact bodyPost_ret (v := newV (w.heap.size + 1) (w.heap.size + 1 + 1 + 1) (w.heap.size + 1 + 1)) (by simp [newV, results, Tryd.results38, go_sem]) rfl (new_shut (by first | exact nb1 _ _ _ _ _ | exact nb2 _ _ _ _ _ | exact nb3 _ _ _ _ _) (by first | exact nb1 _ _ _ _ _ | exact nb2 _ _ _ _ _ | exact nb3 _ _ _ _ _) (by first | exact nb1 _ _ _ _ _ | exact nb2 _ _ _ _ _ | exact nb3 _ _ _ _ _) (by omega) (by omega) (nbb _ _ _ _ _))
    | exact bodyPost_ret (v := newV (w.heap.size + 1 + 1) (w.heap.size + 1) (w.heap.size + 1 + 1 + 1)) (by simp [newV, results, Tryd.results38, go_sem]) rfl (new_shut (by first | exact nb1 _ _ _ _ _ | exact nb2 _ _ _ _ _ | exact nb3 _ _ _ _ _) (by first | exact nb1 _ _ _ _ _ | exact nb2 _ _ _ _ _ | exact nb3 _ _ _ _ _) (by first | exact nb1 _ _ _ _ _ | exact nb2 _ _ _ _ _ | exact nb3 _ _ _ _ _) (by omega) (by omega) (nbb _ _ _ _ _))
    | exact bodyPost_ret (v := newV (w.heap.size + 1 + 1) (w.heap.size + 1 + 1 + 1) (w.heap.size + 1)) (by simp [newV, results, Tryd.results38, go_sem]) rfl (new_shut (by first | exact nb1 _ _ _ _ _ | exact nb2 _ _ _ _ _ | exact nb3 _ _ _ _ _) (by first | exact nb1 _ _ _ _ _ | exact nb2 _ _ _ _ _ | exact nb3 _ _ _ _ _) (by first | exact nb1 _ _ _ _ _ | exact nb2 _ _ _ _ _ | exact nb3 _ _ _ _ _) (by omega) (by omega) (nbb _ _ _ _ _))
    | exact bodyPost_ret (v := newV (w.heap.size + 1 + 1 + 1) (w.heap.size + 1) (w.heap.size + 1 + 1)) (by simp [newV, results, Tryd.results38, go_sem]) rfl (new_shut (by first | exact nb1 _ _ _ _ _ | exact nb2 _ _ _ _ _ | exact nb3 _ _ _ _ _) (by first | exact nb1 _ _ _ _ _ | exact nb2 _ _ _ _ _ | exact nb3 _ _ _ _ _) (by first | exact nb1 _ _ _ _ _ | exact nb2 _ _ _ _ _ | exact nb3 _ _ _ _ _) (by omega) (by omega) (nbb _ _ _ _ _))
    | exact bodyPost_ret (v := newV (w.heap.size + 1 + 1 + 1) (w.heap.size + 1 + 1) (w.heap.size + 1)) (by simp [newV, results, Tryd.results38, go_sem]) rfl (new_shut (by first | exact nb1 _ _ _ _ _ | exact nb2 _ _ _ _ _ | exact nb3 _ _ _ _ _) (by first | exact nb1 _ _ _ _ _ | exact nb2 _ _ _ _ _ | exact nb3 _ _ _ _ _) (by first | exact nb1 _ _ _ _ _ | exact nb2 _ _ _ _ _ | exact nb3 _ _ _ _ _) (by omega) (by omega) (nbb _ _ _ _ _))

end Go.Proofs.YtilnegmjnbffhaaDoor
