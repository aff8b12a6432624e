/-
  Contracts of Propagate: the model's; Propagate itself, of both.
-/
import Derived.Test.YtklcfbjaodildaaProp
namespace Go.Proofs.Ytklcfbjaodildaa
open Go.ChangeShapes Go.WideShapes Go.ChangeAt Go.RowKit

/-- what l4Unit answers -/
def unitX : Left → Int
  | .unit x => x
  | _ => 0
def unitB : Left → Bool
  | .bad => true
  | _ => false
/-- behind j literals: what the model has counted -/
def MInv (known c : List Int) (j : Nat) (left : Int) (many : Nat) : Prop :=
  (∀ x ∈ c.take j, x ∉ known) ∧ many = (lf known (c.take j)).length ∧ left = (lf known (c.take j)).getLast?.getD 0
theorem MInv.skip {known c : List Int} {j many : Nat} {left x : Int} (h : MInv known c j left many) (hx : c[j]? = some x) (hk : -x ∈ known) (hn : x ∉ known) : MInv known c (j + 1) left many := by
  obtain ⟨h1, h2, h3⟩ := h
  have e : lf known (c.take (j + 1)) = lf known (c.take j) := by rw [lf_at known c j x hx, if_pos hk, List.append_nil]
  refine ⟨?_, by rw [e]; exact h2, by rw [e]; exact h3⟩
  rw [take_snoc hx]
  intro y hy
  simp at hy
  rcases hy with hy | rfl
  · exact h1 y hy
  · exact hn
theorem MInv.more {known c : List Int} {j many : Nat} {left x : Int} (h : MInv known c j left many) (hx : c[j]? = some x) (hk : -x ∉ known) (hn : x ∉ known) : MInv known c (j + 1) x (many + 1) := by
  obtain ⟨h1, h2, h3⟩ := h
  have e : lf known (c.take (j + 1)) = lf known (c.take j) ++ [x] := by rw [lf_at known c j x hx, if_neg hk]
  refine ⟨?_, by rw [e, List.length_append, ← h2]; rfl, by rw [e]; simp⟩
  rw [take_snoc hx]
  intro y hy
  simp at hy
  rcases hy with hy | rfl
  · exact h1 y hy
  · exact hn
theorem MInv.end0 {known c : List Int} {left : Int} (h : MInv known c c.length left 0) : unitF known c = .bad := by
  obtain ⟨h1, h2, h3⟩ := h
  rw [List.take_of_length_le (Nat.le_refl _)] at h1 h2
  exact unitF_bad' h1 (List.eq_nil_of_length_eq_zero h2.symm)
theorem MInv.end1 {known c : List Int} {left : Int} (h : MInv known c c.length left 1) : unitF known c = .unit left := by
  obtain ⟨h1, h2, h3⟩ := h
  rw [List.take_of_length_le (Nat.le_refl _)] at h1 h2 h3
  obtain ⟨u, hu⟩ := List.length_eq_one_iff.1 h2.symm
  rw [hu] at h3
  simp at h3
  rw [h3]
  exact unitF_unit' h1 hu
theorem MInv.end2 {known c : List Int} {left : Int} {many : Nat} (h : MInv known c c.length left many) (hm : 2 ≤ many) : unitF known c = .pass := by
  obtain ⟨h1, h2, h3⟩ := h
  rw [List.take_of_length_le (Nat.le_refl _)] at h2
  exact unitF_two (by omega)
def boolN : Value → Nat
  | .bool true => 1
  | _ => 0
end Go.Proofs.Ytklcfbjaodildaa
