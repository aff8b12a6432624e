/-
  Steps in memory: a slice of steps that reads as a list; a block of steps that the call itself made.
-/
import Derived.Test.YtilnegmjnbffhaaDoorSpec2
import Derived.Deep.Slices
import Derived.ChangeArms
import Derived.OwnWalk
import Derived.Laws.OwnMore
namespace Go.Proofs.YtilnegmjnbffhaaDoor
open Go.ChangeShapes Go.WideShapes Go.ChangeAt Go.RowKit

/-- a step -/
structure Stp where
  k : Int
  o : Int
  d : Int
  s : Int
  i : Int
  t : Int
def Stp.cells (x : Stp) : List Value := [.int .i64 x.k, .int .i64 x.o, .int .i64 x.d, .int .i64 x.s, .int .i64 x.i, .int .i64 x.t]
def cellsOf (xs : List Stp) : List Value := xs.flatMap Stp.cells
/-- the six cells of a step from an offset on -/
def At (w : World) (b f : Nat) (x : Stp) : Prop :=
  w.cell? ⟨b, f, none⟩ = some (.int .i64 x.k) ∧ w.cell? ⟨b, f + 1, none⟩ = some (.int .i64 x.o) ∧ w.cell? ⟨b, f + 2, none⟩ = some (.int .i64 x.d) ∧
  w.cell? ⟨b, f + 3, none⟩ = some (.int .i64 x.s) ∧ w.cell? ⟨b, f + 4, none⟩ = some (.int .i64 x.i) ∧ w.cell? ⟨b, f + 5, none⟩ = some (.int .i64 x.t)
/-- a slice of steps that reads as the list xs -/
def Lies (w : World) (A : Option Addr) (xs : List Stp) : Prop :=
  ∀ i x, xs[i]? = some x → ∃ b off, A = some ⟨b, off, none⟩ ∧ b < w.heap.size ∧ At w b (off + i * 6) x
theorem At.below {w w' : World} {b f : Nat} {x : Stp} (h : At w b f x) (hb : Below w.heap.size w w') (hlt : b < w.heap.size) : At w' b f x := by
  have q := (bcell hb).1 b
  obtain ⟨h0, h1, h2, h3, h4, h5⟩ := h
  exact ⟨(q _ hlt).trans h0, (q _ hlt).trans h1, (q _ hlt).trans h2, (q _ hlt).trans h3, (q _ hlt).trans h4, (q _ hlt).trans h5⟩
theorem Lies.below {w w' : World} {A : Option Addr} {xs : List Stp} (h : Lies w A xs) (hb : Below w.heap.size w w') : Lies w' A xs := by
  intro i x hx
  obtain ⟨b, off, hA, hlt, ha⟩ := h i x hx
  exact ⟨b, off, hA, Nat.lt_of_lt_of_le hlt hb.size, ha.below hb hlt⟩
theorem cellsOf_len (xs : List Stp) : (cellsOf xs).length = xs.length * 6 := by
  induction xs with
  | nil => rfl
  | cons x xs ih => simp only [cellsOf, List.flatMap_cons, List.length_append, List.length_cons] at ih ⊢; simp only [Stp.cells, List.length_cons, List.length_nil]; omega
theorem cellsOf_at (xs : List Stp) (i : Nat) (x : Stp) (hx : xs[i]? = some x) (j : Nat) (hj : j < 6) : (cellsOf xs)[i * 6 + j]? = x.cells[j]? := by
  induction xs generalizing i with
  | nil => simp at hx
  | cons y ys ih =>
    have e : cellsOf (y :: ys) = y.cells ++ cellsOf ys := by simp [cellsOf]
    rw [e]
    cases i with
    | zero =>
      simp at hx
      subst hx
      rw [List.getElem?_append_left (by simp [Stp.cells]; omega)]
      simp
    | succ i =>
      rw [List.getElem?_append_right (by simp [Stp.cells]; omega)]
      have := ih i (by simpa using hx)
      rw [← this]
      congr 1
      simp [Stp.cells]
      omega
theorem at_of_cells {w : World} {b f : Nat} {x : Stp} (h : ∀ j, j < 6 → w.cell? ⟨b, f + j, none⟩ = x.cells[j]?) : At w b f x :=
  ⟨h 0 (by omega), h 1 (by omega), h 2 (by omega), h 3 (by omega), h 4 (by omega), h 5 (by omega)⟩
theorem Blk.lies {w : World} {g : Nat} {t : TypeId} {xs : List Stp} (h : Blk w g t (cellsOf xs)) : Lies w (some ⟨g, 0, none⟩) xs := by
  intro i x hx
  refine ⟨g, 0, rfl, h.lt, at_of_cells fun j hj => ?_⟩
  rw [h.cell, Nat.zero_add]
  exact cellsOf_at xs i x hx j hj
theorem own_lies {w : World} {base n cap g : Nat} {t : TypeId} {xs : List Stp} (h : w.ownsRow base t 6 (.slice (some ⟨g, 0, none⟩) n cap) n (cellsOf xs)) : Lies w (some ⟨g, 0, none⟩) xs := by
  intro i x hx
  have hlt := (h.lt g rfl).2
  refine ⟨g, 0, rfl, hlt, at_of_cells fun j hj => ?_⟩
  have e := cellsOf_at xs i x hx j hj
  have hc : x.cells[j]? = some (x.cells[j]'(by simp [Stp.cells]; omega)) := List.getElem?_eq_getElem _
  have := h.cells (g := g) rfl (i * 6 + j) _ (e.trans hc)
  rw [add_plain] at this
  rw [hc, Nat.add_assoc]
  exact this
/-- six cells written at their place -/
theorem take_six (l : List Value) (k : Nat) (a b c d e f : Value) (h : k * 6 + 6 ≤ l.length) :
    ((((((l.set (k * 6) a).set (k * 6 + 1) b).set (k * 6 + 2) c).set (k * 6 + 3) d).set (k * 6 + 4) e).set (k * 6 + 5) f).take ((k + 1) * 6) = l.take (k * 6) ++ [a, b, c, d, e, f] := by
  apply List.ext_getElem?
  intro j
  rw [List.getElem?_take, List.getElem?_append, List.length_take, Nat.min_eq_left (by omega)]
  simp only [List.getElem?_set, List.length_set, List.getElem?_take]
  by_cases h1 : j < k * 6
  · rw [if_pos h1, if_pos (by omega), if_pos h1]
    rw [if_neg (by omega), if_neg (by omega), if_neg (by omega), if_neg (by omega), if_neg (by omega), if_neg (by omega)]
  · rw [if_neg h1]
    by_cases h2 : j < (k + 1) * 6
    · rw [if_pos h2]
      obtain ⟨q, rfl⟩ : ∃ q, j = k * 6 + q := ⟨j - k * 6, by omega⟩
      have hq : q = 0 ∨ q = 1 ∨ q = 2 ∨ q = 3 ∨ q = 4 ∨ q = 5 := by omega
      rcases hq with rfl | rfl | rfl | rfl | rfl | rfl <;> simp <;> omega
    · rw [if_neg h2, List.getElem?_eq_none (by simp; omega)]

section
variable {H : Type} {enc : TypeId × Value → H} {W : World} {base : Nat} {spare : Nat → Bool} {held : Bool}
theorem cells_int : Tryd.prog.cellsOf 3 = 1 := by kernel_rfl
end
end Go.Proofs.YtilnegmjnbffhaaDoor
