/-
  Contracts of ProgramBytes: the model's and the program's.
-/
import Derived.Test.YtffeiegbnlbaiaaDoorEnc2
import Derived.Test.YtffeiegbnlbaiaaDoorLawGood
import Derived.Laws.Concat
namespace Go.Proofs.YtffeiegbnlbaiaaDoor
open Go.ChangeShapes Go.WideShapes Go.ChangeAt Go.RowKit

/-- the bytes of a program -/
def progL (xs : List Stp) : List Int := xs.flatMap fun x => encL x.k x.o x.d x.s x.i x.t
def progS (xs : List Stp) : ByteArray := strOfNums (progL xs)
def pbS (b : Bool) (xs : List Stp) : ByteArray := bif b then progS xs else ⟨#[]⟩

theorem strOfNums_append (a b : List Int) : strOfNums (a ++ b) = strOfNums a ++ strOfNums b := by
  apply ByteArray.ext
  simp [strOfNums]
theorem encL_len (k o d s i t : Int) : (encL k o d s i t).length ≤ 8 := by unfold encL; split <;> simp
theorem encS_size (k o d s i t : Int) : (encS k o d s i t).size ≤ 8 := by rw [encS, strOfNums_size]; exact encL_len _ _ _ _ _ _
theorem progL_len (xs : List Stp) : (progL xs).length ≤ xs.length * 8 := by
  induction xs with
  | nil => simp [progL]
  | cons x xs ih =>
    have := encL_len x.k x.o x.d x.s x.i x.t
    simp only [progL, List.flatMap_cons, List.length_append, List.length_cons] at ih ⊢
    omega
theorem progS_size (xs : List Stp) : (progS xs).size ≤ xs.length * 8 := by rw [progS, strOfNums_size]; exact progL_len xs
theorem progS_snoc (xs : List Stp) (k : Nat) (x : Stp) (hx : xs[k]? = some x) : progS (xs.take (k + 1)) = progS (xs.take k) ++ encS x.k x.o x.d x.s x.i x.t := by
  have hlt : k < xs.length := (List.getElem?_eq_some_iff.1 hx).1
  have e : xs[k] = x := (List.getElem?_eq_some_iff.1 hx).2
  rw [List.take_succ_eq_append_getElem hlt, e, encS, progS, progS, ← strOfNums_append]
  simp [progL]
theorem progS_take_size (xs : List Stp) (k : Nat) (h : xs.length ≤ 20) : (progS (xs.take k)).size ≤ 160 := by
  have := progS_size (xs.take k)
  have h2 : (xs.take k).length ≤ xs.length := by rw [List.length_take]; omega
  omega
theorem str_val {a b : ByteArray} (h : a = b) : Value.string a = .string b := by rw [h]

end Go.Proofs.YtffeiegbnlbaiaaDoor
