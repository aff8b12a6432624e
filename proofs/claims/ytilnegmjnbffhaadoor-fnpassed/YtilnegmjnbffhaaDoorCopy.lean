/-
  Contracts of the laws' own helpers over slices of steps: the copy, the size, the comparison.
-/
import Derived.Test.YtilnegmjnbffhaaDoorSteps
import Derived.Deep.RegionHeld3
import Derived.StillTailTactics
namespace Go.Proofs.YtilnegmjnbffhaaDoor
open Go.ChangeShapes Go.WideShapes Go.ChangeAt Go.RowKit

theorem info_step : (Tryd.prog.info? 67).map (fun i => (i.zero, i.size, i.bytes)) = some (some (.agg #[.int .i64 0, .int .i64 0, .int .i64 0, .int .i64 0, .int .i64 0, .int .i64 0]), 6, 48) := by kernel_rfl

/-- behind k rounds of the copy -/
def Copied (g : Nat) (xs : List Stp) (k : Nat) (w : World) : Prop :=
  ∃ cur : List Value, Blk w g 67 cur ∧ cur.length = xs.length * 6 ∧ cur.take (k * 6) = cellsOf (xs.take k)
theorem Copied.start {w : World} {base n : Nat} {l : List Value} {xs : List Stp} {g : Nat} (hn : xs.length = n) (h : w.ownsRow base 67 6 (.slice (some ⟨g, 0, none⟩) n n) n l) : Copied g xs 0 w := by
  rcases h.2 with ⟨h', _⟩ | ⟨g', cap', cur, h', hb, hg, hnc, hcm, hcs, htake⟩
  · simp at h'
  · simp only [Value.slice.injEq, Option.some.injEq, Addr.mk.injEq, and_true, true_and] at h'
    obtain ⟨rfl, rfl⟩ := h'
    exact ⟨cur.toList, by simpa [Blk] using hg, by simp [hcs, hn], by simp [cellsOf]⟩
theorem Copied.below {w w' : World} {g k : Nat} {xs : List Stp} (h : Copied g xs k w) (hb : Below w.heap.size w w') : Copied g xs k w' := by
  obtain ⟨cur, h1, h2, h3⟩ := h
  exact ⟨cur, h1.below hb, h2, h3⟩
theorem Copied.end_ {w : World} {g : Nat} {xs : List Stp} (h : Copied g xs xs.length w) : Blk w g 67 (cellsOf xs) := by
  obtain ⟨cur, h1, h2, h3⟩ := h
  rw [List.take_of_length_le (by omega), List.take_of_length_le (Nat.le_refl _)] at h3
  rw [← h3]
  exact h1
theorem cellsOf_snoc (xs : List Stp) (k : Nat) (x : Stp) (hx : xs[k]? = some x) : cellsOf (xs.take (k + 1)) = cellsOf (xs.take k) ++ x.cells := by
  have hlt : k < xs.length := (List.getElem?_eq_some_iff.1 hx).1
  have e : xs[k] = x := (List.getElem?_eq_some_iff.1 hx).2
  rw [List.take_succ_eq_append_getElem hlt, e]
  simp [cellsOf]
theorem Copied.step {w : World} {g k : Nat} {xs : List Stp} {x : Stp} (h : Copied g xs k w) (hx : xs[k]? = some x) :
    Copied g xs (k + 1) ((((((w.setCell ⟨g, k * 6, none⟩ (.int .i64 x.k)).setCell ⟨g, k * 6 + 1, none⟩ (.int .i64 x.o)).setCell ⟨g, k * 6 + 2, none⟩ (.int .i64 x.d)).setCell ⟨g, k * 6 + 3, none⟩ (.int .i64 x.s)).setCell ⟨g, k * 6 + 4, none⟩ (.int .i64 x.i)).setCell ⟨g, k * 6 + 5, none⟩ (.int .i64 x.t)) := by
  obtain ⟨cur, h1, h2, h3⟩ := h
  have hlt : k < xs.length := (List.getElem?_eq_some_iff.1 hx).1
  refine ⟨_, (((((h1.set _ _).set _ _).set _ _).set _ _).set _ _).set _ _, by simp [h2], ?_⟩
  rw [take_six cur k _ _ _ _ _ _ (by omega), h3, cellsOf_snoc xs k x hx]
  rfl
/-- the cells of the copy's own row are there and may be written -/
theorem Copied.there {w : World} {g k : Nat} {xs : List Stp} (h : Copied g xs k w) (j : Nat) (hj : j < xs.length * 6) : ∃ v, w.cell? ⟨g, j, none⟩ = some v := by
  obtain ⟨cur, h1, h2, h3⟩ := h
  exact ⟨_, (h1.cell j).trans (List.getElem?_eq_getElem (by omega))⟩
theorem Copied.free {w : World} {g k : Nat} {xs : List Stp} (h : Copied g xs k w) (j : Nat) : w.frozen? ⟨g, j, none⟩ = false := by
  obtain ⟨cur, h1, h2, h3⟩ := h
  exact h1.frozen j
theorem below6 {w0 w : World} {g : Nat} (h : Below w0.heap.size w0 w) (hg : w0.heap.size ≤ g) (a b c d e f : Nat) (u v x y z q : Value) :
    Below w0.heap.size w0 ((((((w.setCell ⟨g, a, none⟩ u).setCell ⟨g, b, none⟩ v).setCell ⟨g, c, none⟩ x).setCell ⟨g, d, none⟩ y).setCell ⟨g, e, none⟩ z).setCell ⟨g, f, none⟩ q) :=
  (((((h.setCell hg _).setCell hg _).setCell hg _).setCell hg _).setCell hg _).setCell hg _

end Go.Proofs.YtilnegmjnbffhaaDoor
