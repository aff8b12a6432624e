/-
  Contracts of StepBytes: the model's and the program's.
-/
import Derived.Test.YtilnegmjnbffhaaDoorEnc
namespace Go.Proofs.YtilnegmjnbffhaaDoor
open Go.ChangeShapes Go.WideShapes Go.ChangeAt Go.RowKit

/-- what StepBytes returns -/
def sbS (k o d s i t : Int) : ByteArray := if okB k o d s i t then encS k o d s i t else ⟨#[]⟩
theorem sbS_yes {k o d s i t : Int} (h : okB k o d s i t = true) : encS k o d s i t = sbS k o d s i t := by rw [sbS, if_pos h]
theorem sbS_no {k o d s i t : Int} (h : okB k o d s i t = false) : (⟨#[]⟩ : ByteArray) = sbS k o d s i t := by rw [sbS, if_neg (by simp [h])]
theorem ret_sb {a b : ByteArray} {c : Bool} (h : a = b) : Ending.returned (.tuple #[.string a, .bool c]) = .returned (.tuple #[.string b, .bool c]) := by rw [h]

theorem own_built1 (w : World) (C : Obj) (cs : Array Value) (n : Nat) (hn : cs.size = n) (hm : n ≤ maxLen) :
    ((w.alloc (.cells cs 5)).alloc C).ownsRow w.heap.size 5 1 (.slice (some ⟨w.heap.size, 0, none⟩) n n) n cs.toList := by
  refine ⟨by simp [hn], .inr ⟨w.heap.size, n, cs, rfl, by omega, ?_, Nat.le_refl _, hm, by simp [hn], List.take_of_length_le (by simp [hn])⟩⟩
  rw [Below.heap_alloc _ _ _ (by simp)]
  exact heap_alloc_new w (.cells cs 5)
theorem news2 (w : World) (B : Obj) (l : List Value) (t : TypeId) : ∀ j u, l[j]? = some u → ((w.alloc B).alloc (.cells l.toArray t)).cell? ((⟨w.heap.size + 1, 0, none⟩ : Addr).add j) = some u := by
  have h := heap_alloc_new (w.alloc B) (.cells l.toArray t)
  have hs : (w.alloc B).heap.size = w.heap.size + 1 := by simp
  rw [hs] at h
  exact World.news_of_block h
theorem below2g {w w1 : World} {A B : Obj} {n c : Nat} (h : ((w.alloc A).alloc B).grownBy w1 (Value.slice (some ⟨w.heap.size, 0, none⟩) n c).ownBlock) : Below w.heap.size w w1 :=
  (below2 w A B).grown h (by simp; omega) (fun k hk => by have := Option.some.inj hk; simp only at this; omega)

end Go.Proofs.YtilnegmjnbffhaaDoor
