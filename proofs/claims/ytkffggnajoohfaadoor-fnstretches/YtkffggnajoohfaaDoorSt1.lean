/-
  Contracts of the functions of chapter 9 over intervals, of the program and of the model.
-/
import Derived.Test.YtkffggnajoohfaaDoorStrMath
import Derived.Test.YtkffggnajoohfaaDoorMem
namespace Go.Proofs.YtkffggnajoohfaaDoor.Op
open Go.ChangeShapes Go.WideShapes Go.ChangeAt Go.RowKit

/-- what the functions answer -/
def joinR (a b : St) : St × Bool := if goodS a && goodS b then (joinSt a b, true) else (⟨0, 0⟩, false)
def meetR (a b : St) : St × Bool := if goodS a && goodS b && meetB a b then (meetSt a b, true) else (⟨0, 0⟩, false)
def splitR2 (a b : St) : St × St × Bool := if goodS a && goodS b && splitB a b then (splitL a b, splitR a b, true) else (⟨0, 0⟩, ⟨0, 0⟩, false)
def withinR (a b : St) : Bool × Bool := (goodS a && goodS b && withinB a b, goodS a && goodS b)
def inR (a : St) (n : Int) : Bool × Bool := (goodS a && isW n && inSt a n, goodS a && isW n)
def sizeR (a : St) : Int × Bool := if goodS a then (sizeSt a, true) else (0, false)
def doR (op : Int) (a b : St) : St × Bool := if isOp op && goodS a && goodS b then (doSt op a b, true) else (⟨0, 0⟩, false)
theorem goodS_parts (l h : Int) : goodS ⟨l, h⟩ = (isW l && isW h && decide (l ≤ h)) := by
  simp only [goodS, isW, Bool.decide_and]
  by_cases h1 : 0 ≤ l <;> by_cases h2 : l ≤ h <;> by_cases h3 : h < 65536 <;> by_cases h4 : l < 65536 <;> by_cases h5 : 0 ≤ h <;> simp [h1, h2, h3, h4, h5] <;> omega

set_option maxRecDepth 100000 in
set_option maxHeartbeats 1000000 in
theorem goodI_any (l h : Int) (w : World) :
    Calls Tryd.prog 22 #[.agg #[.int .i64 l, .int .i64 h]] w fun e w' => e = .returned (.bool (goodS ⟨l, h⟩)) ∧ Below w.heap.size w w' := by
  rw [goodS_parts]
  obtain ⟨b1, h1⟩ : ∃ b, isW l = b := ⟨_, rfl⟩
  obtain ⟨b2, h2⟩ : ∃ b, isW h = b := ⟨_, rfl⟩
  rw [h1, h2]
  have H1 := Lib.hid h1
  have H2 := Lib.hid h2
  clear h1 h2
  cases b1 <;> cases b2
  all_goals
    go_enter Tryd.func22, Tryd.ntmps22
    go_wp2_with (go_at_call 65; refine (isWord_any _ _ _ (by first | exact H1.out | exact H2.out)).mono ?_; rintro e w' ⟨rfl, rfl⟩)
    go_ret
    exact ⟨ret_bool (by simp), by first | exact Below.refl _ _ | exact below1 _ _⟩

set_option maxRecDepth 100000 in
set_option maxHeartbeats 1000000 in
theorem goodM_any (l h : Int) (w : World) :
    Calls Tryd.prog 23 #[.agg #[.int .i64 l, .int .i64 h]] w fun e w' => e = .returned (.bool (goodS ⟨l, h⟩)) ∧ Below w.heap.size w w' := by
  rw [goodS_parts]
  obtain ⟨b1, h1⟩ : ∃ b, isW l = b := ⟨_, rfl⟩
  obtain ⟨b2, h2⟩ : ∃ b, isW h = b := ⟨_, rfl⟩
  rw [h1, h2]
  have H1 := Lib.hid h1
  have H2 := Lib.hid h2
  clear h1 h2
  cases b1 <;> cases b2
  all_goals
    go_enter Tryd.func23, Tryd.ntmps23
    go_wp2_with (go_at_call 66; refine (l1Word_any _ _ _ (by first | exact H1.out | exact H2.out)).mono ?_; rintro e w' ⟨rfl, rfl⟩)
    go_ret
    exact ⟨ret_bool (by simp), by first | exact Below.refl _ _ | exact below1 _ _⟩
end Go.Proofs.YtkffggnajoohfaaDoor.Op
