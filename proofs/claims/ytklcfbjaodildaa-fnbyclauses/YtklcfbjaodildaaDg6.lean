/-
  The program's functions over diagrams: EvalDiagram, OnesOf.
-/
import Derived.Test.YtklcfbjaodildaaDg5
namespace Go.Proofs.Ytklcfbjaodildaa
open Go.ChangeShapes Go.WideShapes Go.ChangeAt Go.RowKit Go.Maps

/-- the index of a model -/
def idxK : Nat → (Nat → Bool) → Nat
  | 0, _ => 0
  | k + 1, f => idxK k f + (if f k then 2 ^ k else 0)
theorem idxK_lt (f : Nat → Bool) : ∀ k, idxK k f < 2 ^ k
  | 0 => by simp [idxK]
  | k + 1 => by
    have := idxK_lt f k
    unfold idxK
    rw [Nat.pow_succ]
    split <;> omega
theorem idxK_bit (f : Nat → Bool) : ∀ (k i : Nat), (idxK k f).testBit i = (decide (i < k) && f i)
  | 0, i => by simp [idxK]
  | k + 1, i => by
    have hlt := idxK_lt f k
    unfold idxK
    cases hf : f k
    · simp only [Bool.false_eq_true, if_false, Nat.add_zero]
      rw [idxK_bit f k i]
      by_cases h : i = k
      · subst h
        simp [hf]
      · rw [show decide (i < k + 1) = decide (i < k) by rw [decide_eq_decide]; omega]
    · simp only [if_true]
      have e := Nat.two_pow_add_eq_or_of_lt hlt 1
      rw [Nat.mul_one] at e
      rw [Nat.add_comm, e, Nat.testBit_or, Nat.testBit_two_pow, idxK_bit f k i]
      by_cases h : k = i
      · subst h
        simp [hf]
      · rw [show decide (i < k + 1) = decide (i < k) by rw [decide_eq_decide]; omega]
        simp [h]
def idxM (M : List Bool) : Nat := idxK M.length (tabF M)
theorem idxM_bit {M : List Bool} {i : Nat} {b : Bool} (h : M[i]? = some b) : (idxM M).testBit i = b := by
  have hlt := (List.getElem?_eq_some_iff.1 h).1
  unfold idxM
  rw [idxK_bit]
  simp [hlt, tabF]
  exact (List.getElem?_eq_some_iff.1 h).2
theorem idxM_model (v N : Nat) (h : N < 2 ^ v) : idxM (modelN v N) = N := by
  apply Nat.eq_of_testBit_eq
  intro i
  by_cases hi : i < v
  · exact idxM_bit (by simp [modelN, hi])
  · have h1 : idxM (modelN v N) < 2 ^ v := by have := idxK_lt (tabF (modelN v N)) (modelN v N).length; rw [modelN_len] at this; unfold idxM; rw [modelN_len]; exact this
    rw [Nat.testBit_lt_two_pow (Nat.lt_of_lt_of_le h1 (Nat.pow_le_pow_right (by omega) (by omega))), Nat.testBit_lt_two_pow (Nat.lt_of_lt_of_le h (Nat.pow_le_pow_right (by omega) (by omega)))]
/-- what EvalDiagram answers -/
def rEval (a : Int) (ns : List Nd) (r : Int) (M : List Bool) (b ok : Bool) : Prop := ok = (goodDB a ns r && decide ((M.length : Int) = a)) ∧ b = (ok && ev ns r (idxM M))
end Go.Proofs.Ytklcfbjaodildaa
