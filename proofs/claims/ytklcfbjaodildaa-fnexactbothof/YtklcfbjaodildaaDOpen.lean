/-
  Arguments that are diagrams, opened.
-/
import Derived.Test.YtklcfbjaodildaaDLaw
namespace Go.Proofs.Ytklcfbjaodildaa
open Go.ChangeShapes Go.WideShapes Go.ChangeAt Go.RowKit

section
variable {H : Type} {enc : TypeId × Value → H} {W : World} {base : Nat} {spare : Nat → Bool} {held : Bool}
set_option maxRecDepth 100000 in
theorem cells_lnode : Try.prog.cellsOf 172 = 3 := by kernel_rfl
set_option maxRecDepth 100000 in
theorem node_cells {fuel : Nat} {cs : List Value} {x : DataW H × List MemPlace} (h : DataW.trod enc Try.prog W base spare held fuel 172 cs = some x) : ∃ y : Nd, cs = y.cells := by
  obtain ⟨xs, n, _, _, hlen, hxl, hf⟩ := DataW.trod_struct Try.underlying172 h
  rw [cells_lnode] at hlen
  match cs, hlen, xs, hxl with
  | [c0, c1, c2], _, [y0, y1, y2], _ =>
    have h0 : DataW.trod enc Try.prog W base spare held n 3 (List.take (Try.prog.cellsOf 3) (List.drop 0 [c0, c1, c2])) = some y0 := hf 0 _ rfl
    rw [nd_cells1] at h0
    have h1 : DataW.trod enc Try.prog W base spare held n 3 (List.take (Try.prog.cellsOf 3) (List.drop 1 [c0, c1, c2])) = some y1 := hf 1 _ rfl
    rw [nd_cells1] at h1
    have h2 : DataW.trod enc Try.prog W base spare held n 3 (List.take (Try.prog.cellsOf 3) (List.drop 2 [c0, c1, c2])) = some y2 := hf 2 _ rfl
    rw [nd_cells1] at h2
    obtain ⟨a0, e0, _⟩ := DataW.trod_int Try.underlying3 h0
    obtain ⟨a1, e1, _⟩ := DataW.trod_int Try.underlying3 h1
    obtain ⟨a2, e2, _⟩ := DataW.trod_int Try.underlying3 h2
    refine ⟨⟨a0, a1, a2⟩, ?_⟩
    simp at e0 e1 e2
    simp [Nd.cells, e0, e1, e2]
set_option maxRecDepth 100000 in
theorem nodes_cells {fuel : Nat} {cs : List Value} {x : DataW H × List MemPlace} (h : DataW.trod enc Try.prog W 0 (fun _ => true) true fuel 77 cs = some x) :
    ∃ a0 cap, ∃ xs : List Nd, cs = [.slice a0 xs.length cap] ∧ xs.length ≤ 9223372036854775807 ∧ NLies W a0 xs := by
  rcases Go.Deep.open_slice Try.underlying77 h with ⟨hcs, _⟩ | ⟨a, len, cap', m, n, D, Pl, hcs, _, hl, hm, hmm, _, hi⟩
  · subst hcs
    exact ⟨none, 0, [], rfl, by simp, fun i x hx => by simp at hx⟩
  · subst hcs
    simp only [if_true] at hmm
    subst hmm
    rw [cells_lnode] at hi
    have hy : ∀ i, ∃ y : Nd, i < len → ∀ j, j < 3 → W.cell? ((a.add (i * 3)).add j) = y.cells[j]? := by
      intro i
      by_cases hlt : i < len
      · obtain ⟨cs', hc, ht⟩ := hi i (by omega)
        obtain ⟨y, rfl⟩ := node_cells ht
        obtain ⟨_, _, hat⟩ := World.cells?_some hc
        exact ⟨y, fun _ j hj => hat j hj⟩
      · exact ⟨⟨0, 0, 0⟩, fun h => absurd h hlt⟩
    obtain ⟨Y, hY⟩ := Classical.axiomOfChoice hy
    refine ⟨some a, m, (List.range len).map Y, by simp, by simp; unfold maxLen at hm; omega, fun i x hx => ?_⟩
    have hlt : i < len := by
      have := (List.getElem?_eq_some_iff.1 hx).1
      simpa using this
    have hxy : x = Y i := by
      simp [List.getElem?_map, List.getElem?_range hlt] at hx
      exact hx.symm
    subst hxy
    have h0 := hY i hlt 0 (by omega)
    obtain ⟨b, off, spot⟩ := a
    have hspot : spot = none := by
      have e := hY 0 (by omega) 0 (by omega)
      have e' : W.cell? ⟨b, off, spot⟩ = some (.int .i64 (Y 0).v) := by simpa [Addr.add, Nd.cells] using e
      exact World.cell?_spot e'
    subst hspot
    refine ⟨b, off, rfl, ?_, nat_of_cells fun j hj => ?_⟩
    · have e : W.cell? ((⟨b, off, none⟩ : Addr).add (i * 3 + 0)) = some (.int .i64 (Y i).v) := by
        rw [← Go.Deep.add_add, h0]
        rfl
      rw [add_plain] at e
      exact World.block_lt_of_cell? W _ e
    · have := hY i hlt j hj
      rw [add_plain, add_plain] at this
      exact this
set_option maxRecDepth 100000 in
/-- an argument that is a diagram -/
theorem diagram_of {base' : Nat} {v : Value} {dd : DataW H} {p : List MemPlace} (hv : Value.okWide Try.prog W .any base' 79 v) (h : DataW.Trod enc Try.prog W 0 (fun _ => true) true 79 v dd p) :
    ∃ (a r : Int) (A : Option Addr) (c : Nat) (xs : List Nd), v = .agg #[.int .i64 a, .slice A xs.length c, .int .i64 r] ∧ xs.length ≤ 9223372036854775807 ∧ NLies W A xs := by
  obtain ⟨cs, rfl, _⟩ := okWide_struct Try.underlying79 hv
  obtain ⟨fuel, hf0⟩ := h
  obtain ⟨xs, n, _, _, hlen, hxl, hf⟩ := DataW.trod_struct Try.underlying79 hf0
  rw [show Try.prog.cellsOf 79 = 3 by kernel_rfl] at hlen
  obtain ⟨cl, hcl⟩ : ∃ cl, cs.toList = cl := ⟨_, rfl⟩
  simp only [Value.cells, hcl] at hlen hf
  match cl, hlen, xs, hxl, hcl, hf with
  | [c0, c1, c2], _, [y0, y1, y2], _, hcl, hf =>
    have h0 : DataW.trod enc Try.prog W 0 (fun _ => true) true n 3 (List.take (Try.prog.cellsOf 3) (List.drop 0 [c0, c1, c2])) = some y0 := hf 0 _ rfl
    have h1 : DataW.trod enc Try.prog W 0 (fun _ => true) true n 77 (List.take (Try.prog.cellsOf 77) (List.drop 1 [c0, c1, c2])) = some y1 := hf 1 _ rfl
    have h2 : DataW.trod enc Try.prog W 0 (fun _ => true) true n 3 (List.take (Try.prog.cellsOf 3) (List.drop 2 [c0, c1, c2])) = some y2 := hf 2 _ rfl
    rw [nd_cells1] at h0 h2
    rw [show Try.prog.cellsOf 77 = 1 by kernel_rfl] at h1
    obtain ⟨a, e0, _⟩ := DataW.trod_int Try.underlying3 h0
    obtain ⟨A1, cp1, s, e1, m1, l1⟩ := nodes_cells h1
    obtain ⟨r, e2, _⟩ := DataW.trod_int Try.underlying3 h2
    simp at e0 e1 e2
    subst e0 e1 e2
    refine ⟨a, r, A1, cp1, s, ?_, m1, l1⟩
    rw [← Array.toArray_toList (xs := cs), hcl]
end
end Go.Proofs.Ytklcfbjaodildaa
