/-
  The walks of the laws of GoodProgram and of the comparison behind it.
-/
import Derived.Test.YtilnegmjnbffhaaDoorGood
namespace Go.Proofs.YtilnegmjnbffhaaDoor
open Go.ChangeShapes Go.WideShapes Go.ChangeAt Go.RowKit

theorem good_bool (xs : List Stp) : ∃ b : Bool, b = true ↔ Good xs := by
  rcases Classical.em (Good xs) with h | h
  · exact ⟨true, fun _ => h, fun _ => rfl⟩
  · exact ⟨false, (fun e => by cases e), fun e => absurd e h⟩
end Go.Proofs.YtilnegmjnbffhaaDoor
