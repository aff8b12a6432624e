/-
  Contracts of the laws' own helpers that write a slice through and look whether it still holds what was written; and of the comparison of slices of ints.
-/
import Derived.Test.YtilnegmjnbffhaaDoorLawGood
import Derived.Deep.QuietTactic
import Derived.BigQuiet
namespace Go.Proofs.YtilnegmjnbffhaaDoor
open Go.ChangeShapes Go.WideShapes Go.ChangeAt Go.RowKit

/-- the steps from m on -/
def stI (m : Int) (j : Nat) : Stp := ⟨m + j * 6, m + j * 6 + 1, m + j * 6 + 2, m + j * 6 + 3, m + j * 6 + 4, m + j * 6 + 5⟩
def stIs (m : Int) (n : Nat) : List Stp := (List.range n).map (stI m)
theorem stIs_len (m : Int) (n : Nat) : (stIs m n).length = n := by simp [stIs]
theorem stIs_at (m : Int) (n j : Nat) (h : j < n) : (stIs m n)[j]? = some (stI m j) := by simp [stIs, h]
theorem stIs_succ (m : Int) (n : Nat) : cellsOf (stIs m (n + 1)) = cellsOf (stIs m n) ++ (stI m n).cells := by simp [stIs, List.range_succ, cellsOf]

end Go.Proofs.YtilnegmjnbffhaaDoor
