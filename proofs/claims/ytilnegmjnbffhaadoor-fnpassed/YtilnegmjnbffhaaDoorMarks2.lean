/-
  The same for slices of steps.
-/
import Derived.Test.YtilnegmjnbffhaaDoorMarks
namespace Go.Proofs.YtilnegmjnbffhaaDoor
open Go.ChangeShapes Go.WideShapes Go.ChangeAt Go.RowKit

/-- behind j rounds of the marking -/
def Marked (base n c g : Nat) (m : Int) (j : Nat) (w : World) : Prop :=
  ∃ cur : List Value, w.ownsRow base 67 6 (.slice (some ⟨g, 0, none⟩) n c) n cur ∧ cur.take (j * 6) = cellsOf (stIs m j)
theorem Marked.there {base n c g : Nat} {m : Int} {j : Nat} {w : World} (h : Marked base n c g m j w) (i : Nat) (hi : i < n * 6) : ∃ v, w.cell? ⟨g, i, none⟩ = some v := by
  obtain ⟨cur, h1, _⟩ := h
  have := h1.cells (g := g) rfl i _ (List.getElem?_eq_getElem (by have := h1.1; omega))
  rw [add_plain, Nat.zero_add] at this
  exact ⟨_, this⟩
theorem Marked.free {base n c g : Nat} {m : Int} {j : Nat} {w : World} (h : Marked base n c g m j w) (i : Nat) : w.frozen? ⟨g, i, none⟩ = false := by
  obtain ⟨cur, h1, _⟩ := h
  rcases h1.2 with ⟨h', _⟩ | ⟨g', cap', cur', h', hb, hg, hnc, hcm, hcs, htake⟩
  · simp at h'
  · simp only [Value.slice.injEq, Option.some.injEq, Addr.mk.injEq, and_true, true_and] at h'
    obtain ⟨rfl, rfl⟩ := h'
    simp [World.frozen?, hg]
theorem six_cells (m : Int) (j : Nat) (K : Int) (hK : m + (j : Int) * 6 = K) :
    [Value.int .i64 K, .int .i64 (K + 1), .int .i64 (K + 1 + 1), .int .i64 (K + 1 + 1 + 1), .int .i64 (K + 1 + 1 + 1 + 1), .int .i64 (K + 1 + 1 + 1 + 1 + 1)] = (stI m j).cells := by
  subst hK
  simp [Stp.cells, stI, Int.add_assoc]
theorem Marked.step {base n c g : Nat} {m : Int} {j : Nat} {w : World} (h : Marked base n c g m j w) (hj : j < n) (K : Int) (hK : m + (j : Int) * 6 = K) :
    Marked base n c g m (j + 1) ((((((w.setCell ⟨g, j * 6, none⟩ (.int .i64 K)).setCell ⟨g, j * 6 + 1, none⟩ (.int .i64 (K + 1))).setCell ⟨g, j * 6 + 2, none⟩ (.int .i64 (K + 1 + 1))).setCell ⟨g, j * 6 + 3, none⟩ (.int .i64 (K + 1 + 1 + 1))).setCell ⟨g, j * 6 + 4, none⟩ (.int .i64 (K + 1 + 1 + 1 + 1))).setCell ⟨g, j * 6 + 5, none⟩ (.int .i64 (K + 1 + 1 + 1 + 1 + 1))) ∧
    w.grownBy ((((((w.setCell ⟨g, j * 6, none⟩ (.int .i64 K)).setCell ⟨g, j * 6 + 1, none⟩ (.int .i64 (K + 1))).setCell ⟨g, j * 6 + 2, none⟩ (.int .i64 (K + 1 + 1))).setCell ⟨g, j * 6 + 3, none⟩ (.int .i64 (K + 1 + 1 + 1))).setCell ⟨g, j * 6 + 4, none⟩ (.int .i64 (K + 1 + 1 + 1 + 1))).setCell ⟨g, j * 6 + 5, none⟩ (.int .i64 (K + 1 + 1 + 1 + 1 + 1))) (some g) := by
  obtain ⟨cur, h1, h2⟩ := h
  obtain ⟨a1, b1⟩ := h1.stored (j * 6) (.int .i64 K)
  obtain ⟨a2, b2⟩ := a1.stored (j * 6 + 1) (.int .i64 (K + 1))
  obtain ⟨a3, b3⟩ := a2.stored (j * 6 + 2) (.int .i64 (K + 1 + 1))
  obtain ⟨a4, b4⟩ := a3.stored (j * 6 + 3) (.int .i64 (K + 1 + 1 + 1))
  obtain ⟨a5, b5⟩ := a4.stored (j * 6 + 4) (.int .i64 (K + 1 + 1 + 1 + 1))
  obtain ⟨a6, b6⟩ := a5.stored (j * 6 + 5) (.int .i64 (K + 1 + 1 + 1 + 1 + 1))
  refine ⟨⟨_, a6, ?_⟩, grown_trans b1 (grown_trans b2 (grown_trans b3 (grown_trans b4 (grown_trans b5 b6))))⟩
  rw [take_six cur j _ _ _ _ _ _ (by have := h1.1; omega), h2, stIs_succ, six_cells m j K hK]

theorem ne_self (a : Int) : (a != a) = false := by simp
end Go.Proofs.YtilnegmjnbffhaaDoor
