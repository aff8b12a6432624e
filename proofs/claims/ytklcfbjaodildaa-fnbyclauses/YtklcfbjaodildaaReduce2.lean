/-
  Contracts of Reduce: the model's.
-/
import Derived.Test.YtklcfbjaodildaaReduce
namespace Go.Proofs.Ytklcfbjaodildaa
open Go.ChangeShapes Go.WideShapes Go.ChangeAt Go.RowKit

theorem any_take_snoc {p : Int → Bool} {c : List Int} {j : Nat} {x : Int} (hx : c[j]? = some x) : (c.take (j + 1)).any p = ((c.take j).any p || p x) := by
  rw [take_snoc hx, List.any_append]
  simp
/-- it answers a slice of slices of its own -/
def GaveS (w : World) (R : List (List Int)) (e : Ending) (w' : World) : Prop :=
  ∃ A c vs, e = .returned (.slice A R.length c) ∧ OwnSS w' w.heap.size (.slice A R.length c) vs R ∧ Below w.heap.size w w'
end Go.Proofs.Ytklcfbjaodildaa
