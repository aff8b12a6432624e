/-
  Steps in memory: a slice of steps that reads as a list; a block of steps that the call itself made.
-/
import Derived.Test.YtilnegmjnbffhaaSpec2
import Derived.Deep.Slices
import Derived.ChangeArms
import Derived.OwnWalk
import Derived.Laws.OwnMore
namespace Go.Proofs.Ytilnegmjnbffhaa
open Go.ChangeShapes Go.WideShapes Go.ChangeAt Go.RowKit

/-- a step -/
structure Stp where
  k : Int
  o : Int
  d : Int
  s : Int
  i : Int
  t : Int
def Stp.cells (x : Stp) : List Value := [.int .i64 x.k, .int .i64 x.o, .int .i64 x.d, .int .i64 x.s, .int .i64 x.i, .int .i64 x.t]
def cellsOf (xs : List Stp) : List Value := xs.flatMap Stp.cells
/-- the six cells of a step from an offset on -/
def At (w : World) (b f : Nat) (x : Stp) : Prop :=
  w.cell? ⟨b, f, none⟩ = some (.int .i64 x.k) ∧ w.cell? ⟨b, f + 1, none⟩ = some (.int .i64 x.o) ∧ w.cell? ⟨b, f + 2, none⟩ = some (.int .i64 x.d) ∧
  w.cell? ⟨b, f + 3, none⟩ = some (.int .i64 x.s) ∧ w.cell? ⟨b, f + 4, none⟩ = some (.int .i64 x.i) ∧ w.cell? ⟨b, f + 5, none⟩ = some (.int .i64 x.t)
/-- a slice of steps that reads as the list xs -/
def Lies (w : World) (A : Option Addr) (xs : List Stp) : Prop :=
  ∀ i x, xs[i]? = some x → ∃ b off, A = some ⟨b, off, none⟩ ∧ b < w.heap.size ∧ At w b (off + i * 6) x
theorem At.below {w w' : World} {b f : Nat} {x : Stp} (h : At w b f x) (hb : Below w.heap.size w w') (hlt : b < w.heap.size) : At w' b f x := by
  have q := (bcell hb).1 b
  obtain ⟨h0, h1, h2, h3, h4, h5⟩ := h
  exact ⟨(q _ hlt).trans h0, (q _ hlt).trans h1, (q _ hlt).trans h2, (q _ hlt).trans h3, (q _ hlt).trans h4, (q _ hlt).trans h5⟩
theorem Lies.below {w w' : World} {A : Option Addr} {xs : List Stp} (h : Lies w A xs) (hb : Below w.heap.size w w') : Lies w' A xs := by
  intro i x hx
  obtain ⟨b, off, hA, hlt, ha⟩ := h i x hx
  exact ⟨b, off, hA, Nat.lt_of_lt_of_le hlt hb.size, ha.below hb hlt⟩
theorem cellsOf_len (xs : List Stp) : (cellsOf xs).length = xs.length * 6 := by
  induction xs with
  | nil => rfl
  | cons x xs ih => simp only [cellsOf, List.flatMap_cons, List.length_append, List.length_cons] at ih ⊢; simp only [Stp.cells, List.length_cons, List.length_nil]; omega
theorem cellsOf_at (xs : List Stp) (i : Nat) (x : Stp) (hx : xs[i]? = some x) (j : Nat) (hj : j < 6) : (cellsOf xs)[i * 6 + j]? = x.cells[j]? := by
  induction xs generalizing i with
  | nil => simp at hx
  | cons y ys ih =>
    have e : cellsOf (y :: ys) = y.cells ++ cellsOf ys := by simp [cellsOf]
    rw [e]
    cases i with
    | zero =>
      simp at hx
      subst hx
      rw [List.getElem?_append_left (by simp [Stp.cells]; omega)]
      simp
    | succ i =>
      rw [List.getElem?_append_right (by simp [Stp.cells]; omega)]
      have := ih i (by simpa using hx)
      rw [← this]
      congr 1
      simp [Stp.cells]
      omega
theorem at_of_cells {w : World} {b f : Nat} {x : Stp} (h : ∀ j, j < 6 → w.cell? ⟨b, f + j, none⟩ = x.cells[j]?) : At w b f x :=
  ⟨h 0 (by omega), h 1 (by omega), h 2 (by omega), h 3 (by omega), h 4 (by omega), h 5 (by omega)⟩
theorem Blk.lies {w : World} {g : Nat} {t : TypeId} {xs : List Stp} (h : Blk w g t (cellsOf xs)) : Lies w (some ⟨g, 0, none⟩) xs := by
  intro i x hx
  refine ⟨g, 0, rfl, h.lt, at_of_cells fun j hj => ?_⟩
  rw [h.cell, Nat.zero_add]
  exact cellsOf_at xs i x hx j hj
theorem own_lies {w : World} {base n cap g : Nat} {t : TypeId} {xs : List Stp} (h : w.ownsRow base t 6 (.slice (some ⟨g, 0, none⟩) n cap) n (cellsOf xs)) : Lies w (some ⟨g, 0, none⟩) xs := by
  intro i x hx
  have hlt := (h.lt g rfl).2
  refine ⟨g, 0, rfl, hlt, at_of_cells fun j hj => ?_⟩
  have e := cellsOf_at xs i x hx j hj
  have hc : x.cells[j]? = some (x.cells[j]'(by simp [Stp.cells]; omega)) := List.getElem?_eq_getElem _
  have := h.cells (g := g) rfl (i * 6 + j) _ (e.trans hc)
  rw [add_plain] at this
  rw [hc, Nat.add_assoc]
  exact this
/-- six cells written at their place -/
theorem take_six (l : List Value) (k : Nat) (a b c d e f : Value) (h : k * 6 + 6 ≤ l.length) :
    ((((((l.set (k * 6) a).set (k * 6 + 1) b).set (k * 6 + 2) c).set (k * 6 + 3) d).set (k * 6 + 4) e).set (k * 6 + 5) f).take ((k + 1) * 6) = l.take (k * 6) ++ [a, b, c, d, e, f] := by
  apply List.ext_getElem?
  intro j
  rw [List.getElem?_take, List.getElem?_append, List.length_take, Nat.min_eq_left (by omega)]
  simp only [List.getElem?_set, List.length_set, List.getElem?_take]
  by_cases h1 : j < k * 6
  · rw [if_pos h1, if_pos (by omega), if_pos h1]
    rw [if_neg (by omega), if_neg (by omega), if_neg (by omega), if_neg (by omega), if_neg (by omega), if_neg (by omega)]
  · rw [if_neg h1]
    by_cases h2 : j < (k + 1) * 6
    · rw [if_pos h2]
      obtain ⟨q, rfl⟩ : ∃ q, j = k * 6 + q := ⟨j - k * 6, by omega⟩
      have hq : q = 0 ∨ q = 1 ∨ q = 2 ∨ q = 3 ∨ q = 4 ∨ q = 5 := by omega
      rcases hq with rfl | rfl | rfl | rfl | rfl | rfl <;> simp <;> omega
    · rw [if_neg h2, List.getElem?_eq_none (by simp; omega)]

section
variable {H : Type} {enc : TypeId × Value → H} {W : World} {base : Nat} {spare : Nat → Bool} {held : Bool}
theorem cells_laws : Try.prog.cellsOf 65 = 6 := by kernel_rfl
theorem cells_int : Try.prog.cellsOf 3 = 1 := by kernel_rfl
set_option maxRecDepth 100000 in
theorem step_cells {fuel : Nat} {cs : List Value} {x : DataW H × List MemPlace} (h : DataW.trod enc Try.prog W base spare held fuel 65 cs = some x) : ∃ y : Stp, cs = y.cells := by
  obtain ⟨xs, n, _, _, hlen, hxl, hf⟩ := DataW.trod_struct Try.underlying65 h
  rw [cells_laws] at hlen
  match cs, hlen, xs, hxl with
  | [c0, c1, c2, c3, c4, c5], _, [y0, y1, y2, y3, y4, y5], _ =>
    have h0 : DataW.trod enc Try.prog W base spare held n 3 (List.take (Try.prog.cellsOf 3) (List.drop 0 [c0, c1, c2, c3, c4, c5])) = some y0 := hf 0 _ rfl
    rw [cells_int] at h0
    have h1 : DataW.trod enc Try.prog W base spare held n 3 (List.take (Try.prog.cellsOf 3) (List.drop 1 [c0, c1, c2, c3, c4, c5])) = some y1 := hf 1 _ rfl
    rw [cells_int] at h1
    have h2 : DataW.trod enc Try.prog W base spare held n 3 (List.take (Try.prog.cellsOf 3) (List.drop 2 [c0, c1, c2, c3, c4, c5])) = some y2 := hf 2 _ rfl
    rw [cells_int] at h2
    have h3 : DataW.trod enc Try.prog W base spare held n 3 (List.take (Try.prog.cellsOf 3) (List.drop 3 [c0, c1, c2, c3, c4, c5])) = some y3 := hf 3 _ rfl
    rw [cells_int] at h3
    have h4 : DataW.trod enc Try.prog W base spare held n 3 (List.take (Try.prog.cellsOf 3) (List.drop 4 [c0, c1, c2, c3, c4, c5])) = some y4 := hf 4 _ rfl
    rw [cells_int] at h4
    have h5 : DataW.trod enc Try.prog W base spare held n 3 (List.take (Try.prog.cellsOf 3) (List.drop 5 [c0, c1, c2, c3, c4, c5])) = some y5 := hf 5 _ rfl
    rw [cells_int] at h5
    obtain ⟨a0, e0, _⟩ := DataW.trod_int Try.underlying3 h0
    obtain ⟨a1, e1, _⟩ := DataW.trod_int Try.underlying3 h1
    obtain ⟨a2, e2, _⟩ := DataW.trod_int Try.underlying3 h2
    obtain ⟨a3, e3, _⟩ := DataW.trod_int Try.underlying3 h3
    obtain ⟨a4, e4, _⟩ := DataW.trod_int Try.underlying3 h4
    obtain ⟨a5, e5, _⟩ := DataW.trod_int Try.underlying3 h5
    refine ⟨⟨a0, a1, a2, a3, a4, a5⟩, ?_⟩
    simp at e0 e1 e2 e3 e4 e5
    simp [Stp.cells, e0, e1, e2, e3, e4, e5]
set_option maxRecDepth 100000 in
/-- an argument that is a step -/
theorem step_of {base' : Nat} {v : Value} {dd : DataW H} {p : List MemPlace} (hv : Value.okWide Try.prog W .any base' 65 v) (h : DataW.Trod enc Try.prog W base spare held 65 v dd p) :
    ∃ k o d s i t : Int, v = .agg #[.int .i64 k, .int .i64 o, .int .i64 d, .int .i64 s, .int .i64 i, .int .i64 t] := by
  obtain ⟨cs, rfl, _⟩ := okWide_struct Try.underlying65 hv
  obtain ⟨fuel, hf⟩ := h
  obtain ⟨y, hy⟩ := step_cells hf
  refine ⟨y.k, y.o, y.d, y.s, y.i, y.t, ?_⟩
  have : cs.toList = y.cells := by simpa [Value.cells] using hy
  rw [← Array.toArray_toList (xs := cs), this]
  rfl
set_option maxRecDepth 100000 in
/-- an argument that is a slice of steps -/
theorem steps_of {base' : Nat} {v : Value} {dd : DataW H} {p : List MemPlace} (hv : Value.okWide Try.prog W .any base' 36 v) (h : DataW.Trod enc Try.prog W 0 (fun _ => true) true 36 v dd p) :
    ∃ a0 cap, ∃ xs : List Stp, v = .slice a0 xs.length cap ∧ xs.length ≤ 9223372036854775807 ∧ Lies W a0 xs := by
  obtain ⟨a0, len, cap, rfl⟩ := okWide_slice Try.underlying36 hv
  obtain ⟨fuel, hf⟩ := h
  rcases Go.Deep.open_slice Try.underlying36 hf with ⟨hcs, _⟩ | ⟨a, len', cap', m, n, D, Pl, hcs, _, hl, hm, hmm, _, hi⟩
  · simp [Value.cells] at hcs
    obtain ⟨rfl, rfl, rfl⟩ := hcs
    exact ⟨none, 0, [], rfl, by simp, fun i x hx => by simp at hx⟩
  · simp [Value.cells] at hcs
    obtain ⟨rfl, rfl, rfl⟩ := hcs
    simp only [if_true] at hmm
    subst hmm
    rw [cells_laws] at hi
    have hy : ∀ i, ∃ y : Stp, i < len → ∀ j, j < 6 → W.cell? ((a.add (i * 6)).add j) = y.cells[j]? := by
      intro i
      by_cases hlt : i < len
      · obtain ⟨cs', hc, ht⟩ := hi i (by omega)
        obtain ⟨y, rfl⟩ := step_cells ht
        obtain ⟨_, _, hat⟩ := World.cells?_some hc
        exact ⟨y, fun _ j hj => hat j hj⟩
      · exact ⟨⟨0, 0, 0, 0, 0, 0⟩, fun h => absurd h hlt⟩
    obtain ⟨Y, hY⟩ := Classical.axiomOfChoice hy
    refine ⟨some a, m, (List.range len).map Y, by simp, by simp; unfold maxLen at hm; omega, fun i x hx => ?_⟩
    have hlt : i < len := by
      have := (List.getElem?_eq_some_iff.1 hx).1
      simpa using this
    have hxy : x = Y i := by
      simp [List.getElem?_map, List.getElem?_range hlt] at hx
      exact hx.symm
    subst hxy
    have h0 := hY i hlt 0 (by omega)
    obtain ⟨b, off, spot⟩ := a
    have hspot : spot = none := by
      have e := hY 0 (by omega) 0 (by omega)
      have e' : W.cell? ⟨b, off, spot⟩ = some (.int .i64 (Y 0).k) := by simpa [Addr.add, Stp.cells] using e
      exact World.cell?_spot e'
    subst hspot
    refine ⟨b, off, rfl, ?_, at_of_cells fun j hj => ?_⟩
    · have e : W.cell? ((⟨b, off, none⟩ : Addr).add (i * 6 + 0)) = some (.int .i64 (Y i).k) := by
        rw [← Go.Deep.add_add, h0]
        rfl
      rw [add_plain] at e
      exact World.block_lt_of_cell? W _ e
    · have := hY i hlt j hj
      rw [add_plain, add_plain] at this
      exact this
end
end Go.Proofs.Ytilnegmjnbffhaa
