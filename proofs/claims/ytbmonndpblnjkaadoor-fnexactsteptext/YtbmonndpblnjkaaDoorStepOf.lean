/-
  An argument that is a step.
-/
import Derived.Test.YtbmonndpblnjkaaDoorLawStepText
import Derived.ChangeArms
import Derived.OwnWalk
import Derived.OpenShut
namespace Go.Proofs.YtbmonndpblnjkaaDoor
open Go.ChangeShapes Go.WideShapes Go.ChangeAt Go.RowKit

/-- a step -/
structure Stp where
  k : Int
  o : Int
  d : Int
  s : Int
  i : Int
  t : Int
def Stp.cells (x : Stp) : List Value := [.int .i64 x.k, .int .i64 x.o, .int .i64 x.d, .int .i64 x.s, .int .i64 x.i, .int .i64 x.t]

section
variable {H : Type} {enc : TypeId × Value → H} {W : World} {base : Nat} {spare : Nat → Bool} {held : Bool}
theorem cells_laws : Tryd.prog.cellsOf 38 = 6 := by kernel_rfl
theorem cells_int : Tryd.prog.cellsOf 3 = 1 := by kernel_rfl
theorem step_cells {fuel : Nat} {cs : List Value} {x : DataW H × List MemPlace} (h : DataW.trod enc Tryd.prog W base spare held fuel 38 cs = some x) : ∃ y : Stp, cs = y.cells := by
  obtain ⟨xs, n, _, _, hlen, hxl, hf⟩ := DataW.trod_struct Tryd.underlying38 h
  rw [cells_laws] at hlen
  match cs, hlen, xs, hxl with
  | [c0, c1, c2, c3, c4, c5], _, [y0, y1, y2, y3, y4, y5], _ =>
    have h0 : DataW.trod enc Tryd.prog W base spare held n 3 (List.take (Tryd.prog.cellsOf 3) (List.drop 0 [c0, c1, c2, c3, c4, c5])) = some y0 := hf 0 _ rfl
    rw [cells_int] at h0
    have h1 : DataW.trod enc Tryd.prog W base spare held n 3 (List.take (Tryd.prog.cellsOf 3) (List.drop 1 [c0, c1, c2, c3, c4, c5])) = some y1 := hf 1 _ rfl
    rw [cells_int] at h1
    have h2 : DataW.trod enc Tryd.prog W base spare held n 3 (List.take (Tryd.prog.cellsOf 3) (List.drop 2 [c0, c1, c2, c3, c4, c5])) = some y2 := hf 2 _ rfl
    rw [cells_int] at h2
    have h3 : DataW.trod enc Tryd.prog W base spare held n 3 (List.take (Tryd.prog.cellsOf 3) (List.drop 3 [c0, c1, c2, c3, c4, c5])) = some y3 := hf 3 _ rfl
    rw [cells_int] at h3
    have h4 : DataW.trod enc Tryd.prog W base spare held n 3 (List.take (Tryd.prog.cellsOf 3) (List.drop 4 [c0, c1, c2, c3, c4, c5])) = some y4 := hf 4 _ rfl
    rw [cells_int] at h4
    have h5 : DataW.trod enc Tryd.prog W base spare held n 3 (List.take (Tryd.prog.cellsOf 3) (List.drop 5 [c0, c1, c2, c3, c4, c5])) = some y5 := hf 5 _ rfl
    rw [cells_int] at h5
    obtain ⟨a0, e0, _⟩ := DataW.trod_int Tryd.underlying3 h0
    obtain ⟨a1, e1, _⟩ := DataW.trod_int Tryd.underlying3 h1
    obtain ⟨a2, e2, _⟩ := DataW.trod_int Tryd.underlying3 h2
    obtain ⟨a3, e3, _⟩ := DataW.trod_int Tryd.underlying3 h3
    obtain ⟨a4, e4, _⟩ := DataW.trod_int Tryd.underlying3 h4
    obtain ⟨a5, e5, _⟩ := DataW.trod_int Tryd.underlying3 h5
    refine ⟨⟨a0, a1, a2, a3, a4, a5⟩, ?_⟩
    simp at e0 e1 e2 e3 e4 e5
    simp [Stp.cells, e0, e1, e2, e3, e4, e5]
/-- an argument that is a step -/
theorem step_of {base' : Nat} {v : Value} {dd : DataW H} {p : List MemPlace} (hv : Value.okWide Tryd.prog W .any base' 38 v) (h : DataW.Trod enc Tryd.prog W base spare held 38 v dd p) :
    ∃ k o d s i t : Int, v = .agg #[.int .i64 k, .int .i64 o, .int .i64 d, .int .i64 s, .int .i64 i, .int .i64 t] := by
  obtain ⟨cs, rfl, _⟩ := okWide_struct Tryd.underlying38 hv
  obtain ⟨fuel, hf⟩ := h
  obtain ⟨y, hy⟩ := step_cells hf
  refine ⟨y.k, y.o, y.d, y.s, y.i, y.t, ?_⟩
  have : cs.toList = y.cells := by simpa [Value.cells] using hy
  rw [← Array.toArray_toList (xs := cs), this]
  rfl
end
end Go.Proofs.YtbmonndpblnjkaaDoor
