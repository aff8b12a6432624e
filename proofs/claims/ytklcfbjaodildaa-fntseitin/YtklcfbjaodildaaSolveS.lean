/-
  The model's Solve.
-/
import Derived.Test.YtklcfbjaodildaaSolveI
namespace Go.Proofs.Ytklcfbjaodildaa
open Go.ChangeShapes Go.WideShapes Go.ChangeAt Go.RowKit

theorem OwnSS.rows0 {w : World} {base : Nat} {v : Value} {vs : List Value} {L : List (List Int)} (h : OwnSS w base v vs L) : Rows0 w (blks vs) vs L := by
  refine ⟨h.inner.len, fun i l hl => ?_⟩
  obtain ⟨a, c, h1, h2⟩ := h.inner.row i l hl
  exact ⟨a, c, h1, own_cap h2, own_maxlen h2, own_ilies h2, fun ad e _ => ⟨i, _, h1, by rw [e]; rfl⟩⟩
theorem Roles.start {w : World} {base : Nat} {A : Option Addr} {n c : Nat} {vs : List Value} {L : List (List Int)} (h : OwnSS w base (.slice A n c) vs L) : Roles w base (blks vs) L [] [] (.slice A n c) (.slice none 0 0) (.slice none 0 0) vs [] :=
  ⟨by rw [List.append_nil]; exact h.outer, h.rows0, OwnSS.nil _ _, World.ownsRow_nil _ _ _ _, fun g e => (h.inner.lt g e).2,
    fun g e => ⟨fun q => h.off g q e, fun q => by obtain ⟨i, x, hx, _⟩ := q; simp at hx, by simp [Value.ownBlock], by simp [Value.ownBlock]⟩, fun g e => by simp [Value.ownBlock] at e, fun g e => by simp [Value.ownBlock] at e⟩
/-- where the model's search stands -/
def StandM (w0 : World) (I0 : Nat → Prop) (V : Nat) (L : List (List Int)) (vsL : List Value) (res : Option (Bool × List Bool × List (List Int))) (all lrn dec : Value) (w : World) : Prop :=
  ∃ P D Ac cc Al cl Ad cd vsP, all = .slice Ac (L.length + P.length) cc ∧ lrn = .slice Al P.length cl ∧ dec = .slice Ad D.length cd ∧
    Roles w w0.heap.size I0 L P D (.slice Ac (L.length + P.length) cc) (.slice Al P.length cl) (.slice Ad D.length cd) vsL vsP ∧ SInv V L res P D ∧ Below w0.heap.size w0 w
end Go.Proofs.Ytklcfbjaodildaa
