/-
  The walks of the laws of GoodProgram and of the comparison behind it.
-/
import Derived.Test.YtilnegmjnbffhaaGood
namespace Go.Proofs.Ytilnegmjnbffhaa
open Go.ChangeShapes Go.WideShapes Go.ChangeAt Go.RowKit

theorem good_bool (xs : List Stp) : ∃ b : Bool, b = true ↔ Good xs := by
  rcases Classical.em (Good xs) with h | h
  · exact ⟨true, fun _ => h, fun _ => rfl⟩
  · exact ⟨false, (fun e => by cases e), fun e => absurd e h⟩
theorem toStepS_n (A : Option Addr) (n cap : Nat) (xs : List Stp) (w : World) (hl : Hid (Lies w A xs)) (hx : Hid (xs.length = n)) (hn : n ≤ 1048576) :
    Calls Try.prog 27 #[.slice A n cap] w fun e w' => e = .returned (.slice (some ⟨w.heap.size, 0, none⟩) n n) ∧ Blk w' w.heap.size 61 (cellsOf xs) ∧ Below w.heap.size w w' := by
  obtain rfl := hx.out
  exact toStepS_any A cap xs w hl hn
end Go.Proofs.Ytilnegmjnbffhaa
