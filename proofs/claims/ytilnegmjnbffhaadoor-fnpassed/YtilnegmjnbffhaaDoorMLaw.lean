/-
  The laws' own helpers over machines: the copy, the size, the comparison, the marks.
-/
import Derived.Test.YtilnegmjnbffhaaDoorNewM
import Derived.Test.YtilnegmjnbffhaaDoorKept
import Derived.Deep.RegionWith
namespace Go.Proofs.YtilnegmjnbffhaaDoor
open Go.ChangeShapes Go.WideShapes Go.ChangeAt Go.RowKit

theorem Kept.mblk {w w' : World} {S : Nat → Prop} (h : Kept w w' S) {g1 g2 g3 : Nat} {m : Mch} (hm : MBlk w g1 g2 g3 m) (n1 : ¬ S g1) (n2 : ¬ S g2) (n3 : ¬ S g3) : MBlk w' g1 g2 g3 m :=
  ⟨h.blk hm.1 n1, h.blk hm.2.1 n2, h.blk hm.2.2.1 n3, hm.2.2.2⟩
def three (g1 g2 g3 : Nat) (i : Nat) : Prop := i = g1 ∨ i = g2 ∨ i = g3

theorem n32 (w : World) (o0 o1 o2 : Obj) : (((w.alloc o0).alloc o1).alloc o2).heap[w.heap.size + 1 + 1]? = some o2 := by
  have := heap_alloc_new ((w.alloc o0).alloc o1) o2
  simpa using this
theorem n31 (w : World) (o0 o1 o2 : Obj) : (((w.alloc o0).alloc o1).alloc o2).heap[w.heap.size + 1]? = some o1 := by
  have := heap_alloc_new (w.alloc o0) o1
  refine (Below.heap_alloc _ _ _ (by simp)).trans ?_
  simpa using this
theorem n30 (w : World) (o0 o1 o2 : Obj) : (((w.alloc o0).alloc o1).alloc o2).heap[w.heap.size]? = some o0 := by
  refine (Below.heap_alloc _ _ _ (by simp <;> omega)).trans ((Below.heap_alloc _ _ _ (by simp)).trans (heap_alloc_new w o0))

theorem n21 (w : World) (o0 o1 : Obj) : ((w.alloc o0).alloc o1).heap[w.heap.size + 1]? = some o1 := by
  have := heap_alloc_new (w.alloc o0) o1
  simpa using this
theorem n20 (w : World) (o0 o1 : Obj) : ((w.alloc o0).alloc o1).heap[w.heap.size]? = some o0 := (Below.heap_alloc _ _ _ (by simp)).trans (heap_alloc_new w o0)

/-- what the marking leaves of a machine -/
def markM (a k : Int) (n1 n2 n3 : Nat) : Mch := ⟨a, iota k n1, iota (k + n1) n2, biota (k + n1 + n2) n3⟩
theorem markM_lens (a k : Int) (n1 n2 n3 : Nat) : Lens (markM a k n1 n2 n3) n1 n2 n3 := ⟨iota_len _ _, iota_len _ _, biota_len _ _⟩

end Go.Proofs.YtilnegmjnbffhaaDoor
