/-
  The drawing of a step: whatever the bytes, it answers a step, and turns the reader's own block alone.
-/
import Derived.Test.YtilnegmjnbffhaaDoorCur0
import Derived.Test.YtilnegmjnbffhaaDoorSteps
namespace Go.Proofs.YtilnegmjnbffhaaDoor
open Go.ChangeShapes Go.WideShapes Go.ChangeAt Go.RowKit

/-- in the midst of a drawn step: the reader, the result's block, the step's own block -/
def Dr (w0 : World) (c g K : Nat) (y : Stp) (w : World) : Prop :=
  Cur w c K ∧ Blk w w0.heap.size 67 [.int .i64 0, .int .i64 0, .int .i64 0, .int .i64 0, .int .i64 0, .int .i64 0] ∧ Blk w g 67 y.cells ∧ w0.grownBy w (some c) ∧ c < w0.heap.size ∧ w0.heap.size < g
theorem Dr.lt {w0 w : World} {c g K : Nat} {y : Stp} (h : Dr w0 c g K y w) : g < w.heap.size := h.2.2.1.lt
theorem Dr.step {w0 w w' : World} {c g K K' : Nat} {y : Stp} (h : Dr w0 c g K y w) (hc : Cur w' c K') (hg : w.grownBy w' (some c)) : Dr w0 c g K' y w' := by
  obtain ⟨_, h1, h2, h3, h4, h5⟩ := h
  refine ⟨hc, (hg.block _ h1.lt (by simp; omega)).trans h1, (hg.block _ h2.lt (by simp; omega)).trans h2, grownC_trans h3 hg, h4, h5⟩
theorem Dr.alloc {w0 w : World} {c g K : Nat} {y : Stp} (h : Dr w0 c g K y w) (o : Obj) : Dr w0 c g K y (w.alloc o) :=
  h.step (h.1.alloc o) (World.grownBy_alloc w o _)
theorem Dr.cells {w0 w : World} {c g K : Nat} {y : Stp} (h : Dr w0 c g K y w) : At w g 0 y ∧ (∀ j, w.frozen? ⟨g, j, none⟩ = false) ∧ At w w0.heap.size 0 ⟨0, 0, 0, 0, 0, 0⟩ ∧ (∀ j, w.frozen? ⟨w0.heap.size, j, none⟩ = false) := by
  obtain ⟨_, h1, h2, _⟩ := h
  refine ⟨at_of_cells fun j hj => ?_, fun j => h2.frozen j, at_of_cells fun j hj => ?_, fun j => h1.frozen j⟩
  · rw [h2.cell, Nat.zero_add]
  · rw [h1.cell, Nat.zero_add]
    rfl
theorem Dr.set {w0 w : World} {c g K : Nat} {y : Stp} (h : Dr w0 c g K y w) (j : Nat) (v : Int) (y' : Stp) (hy : y.cells.set j (.int .i64 v) = y'.cells) : Dr w0 c g K y' (w.setCell ⟨g, j, none⟩ (.int .i64 v)) := by
  have hlt := h.lt
  obtain ⟨hc, h1, h2, h3, h4, h5⟩ := h
  have hset := h2.set j (.int .i64 v)
  rw [hy] at hset
  refine ⟨?_, h1.far (by omega) _, hset, ?_, h4, h5⟩
  · obtain ⟨a0, len, cap, k, s, hk, hl, hcc, hb⟩ := hc
    refine ⟨a0, len, cap, k, s, hk, hl, ?_, fun i hi => ?_⟩
    · rw [Below.heap_setCell _ _ _ _ (by show c ≠ g; omega)]
      exact hcc
    · obtain ⟨b, off, n, e1, e2, e3, e4⟩ := hb i hi
      have hne : b ≠ g := by
        rintro rfl
        rw [h2.cell] at e3
        have : (Value.int .u8 n) ∈ y.cells := List.mem_of_getElem? e3
        simp [Stp.cells] at this
      exact ⟨b, off, n, e1, e2, (World.cell?_of_block (a := ⟨b, off + i, none⟩) (Below.heap_setCell w ⟨g, j, none⟩ _ b hne)).trans e3, e4⟩
  · refine ⟨h3.os, h3.tape, h3.output, by rw [World.size_setCell]; exact h3.size, fun k hk hne => ?_⟩
    rw [Below.heap_setCell _ _ _ _ (by show k ≠ g; omega)]
    exact h3.block k hk hne
theorem cur_far {w : World} {c K g : Nat} {t : TypeId} {cs : List Value} (h : Cur w c K) (hb : Blk w g t cs) (hcs : ∀ u ∈ cs, ∃ z, u = Value.int .i64 z) (hne : c ≠ g) (j : Nat) (v : Value) : Cur (w.setCell ⟨g, j, none⟩ v) c K := by
  obtain ⟨a0, len, cap, k, s, hk, hl, hcc, hb'⟩ := h
  refine ⟨a0, len, cap, k, s, hk, hl, ?_, fun i hi => ?_⟩
  · rw [Below.heap_setCell _ _ _ _ hne]
    exact hcc
  · obtain ⟨b, off, n, e1, e2, e3, e4⟩ := hb' i hi
    have hbg : b ≠ g := by
      rintro rfl
      rw [hb.cell] at e3
      obtain ⟨z, hz⟩ := hcs _ (List.mem_of_getElem? e3)
      cases hz
    exact ⟨b, off, n, e1, e2, (World.cell?_of_block (a := ⟨b, off + i, none⟩) (Below.heap_setCell w ⟨g, j, none⟩ _ b hbg)).trans e3, e4⟩
theorem ints_set {cs : List Value} (h : ∀ u ∈ cs, ∃ z, u = Value.int .i64 z) (j : Nat) (v : Int) : ∀ u ∈ cs.set j (.int .i64 v), ∃ z, u = Value.int .i64 z := by
  intro u hu
  rcases List.mem_or_eq_of_mem_set hu with h1 | h1
  · exact h u h1
  · exact ⟨v, h1⟩
/-- the result's block written over -/
theorem Dr.put {w0 w : World} {c K : Nat} {cs : List Value} (hc : Cur w c K) (hb : Blk w w0.heap.size 67 cs) (hcs : ∀ u ∈ cs, ∃ z, u = Value.int .i64 z) (hg : w0.grownBy w (some c)) (hlt : c < w0.heap.size) (j : Nat) (v : Int) :
    Cur (w.setCell ⟨w0.heap.size, j, none⟩ (.int .i64 v)) c K ∧ Blk (w.setCell ⟨w0.heap.size, j, none⟩ (.int .i64 v)) w0.heap.size 67 (cs.set j (.int .i64 v)) ∧ (∀ u ∈ cs.set j (.int .i64 v), ∃ z, u = Value.int .i64 z) ∧ w0.grownBy (w.setCell ⟨w0.heap.size, j, none⟩ (.int .i64 v)) (some c) := by
  refine ⟨cur_far hc hb hcs (by omega) j _, hb.set j _, ints_set hcs j v, hg.os, hg.tape, hg.output, by rw [World.size_setCell]; exact hg.size, fun k hk hne => ?_⟩
  rw [Below.heap_setCell _ _ _ _ (by show k ≠ w0.heap.size; omega)]
  exact hg.block k hk hne
theorem Dr.fin {w0 w : World} {c g K : Nat} {y : Stp} (h : Dr w0 c g K y w) :
    Cur ((((((w.setCell ⟨w0.heap.size, 0, none⟩ (.int .i64 y.k)).setCell ⟨w0.heap.size, 1, none⟩ (.int .i64 y.o)).setCell ⟨w0.heap.size, 2, none⟩ (.int .i64 y.d)).setCell ⟨w0.heap.size, 3, none⟩ (.int .i64 y.s)).setCell ⟨w0.heap.size, 4, none⟩ (.int .i64 y.i)).setCell ⟨w0.heap.size, 5, none⟩ (.int .i64 y.t)) c K ∧
    w0.grownBy ((((((w.setCell ⟨w0.heap.size, 0, none⟩ (.int .i64 y.k)).setCell ⟨w0.heap.size, 1, none⟩ (.int .i64 y.o)).setCell ⟨w0.heap.size, 2, none⟩ (.int .i64 y.d)).setCell ⟨w0.heap.size, 3, none⟩ (.int .i64 y.s)).setCell ⟨w0.heap.size, 4, none⟩ (.int .i64 y.i)).setCell ⟨w0.heap.size, 5, none⟩ (.int .i64 y.t)) (some c) := by
  obtain ⟨hc, h1, _, h3, h4, _⟩ := h
  have i0 : ∀ u ∈ [Value.int .i64 0, .int .i64 0, .int .i64 0, .int .i64 0, .int .i64 0, .int .i64 0], ∃ z, u = Value.int .i64 z := fun u hu => ⟨0, by simpa using hu⟩
  obtain ⟨a1, b1, c1, d1⟩ := Dr.put hc h1 i0 h3 h4 0 y.k
  obtain ⟨a2, b2, c2, d2⟩ := Dr.put a1 b1 c1 d1 h4 1 y.o
  obtain ⟨a3, b3, c3, d3⟩ := Dr.put a2 b2 c2 d2 h4 2 y.d
  obtain ⟨a4, b4, c4, d4⟩ := Dr.put a3 b3 c3 d3 h4 3 y.s
  obtain ⟨a5, b5, c5, d5⟩ := Dr.put a4 b4 c4 d4 h4 4 y.i
  obtain ⟨a6, _, _, d6⟩ := Dr.put a5 b5 c5 d5 h4 5 y.t
  exact ⟨a6, d6⟩
def GaveN (w0 : World) (c g K : Nat) (y : Stp) (P : Int → Prop) (e : Ending) (w' : World) : Prop := ∃ n : Int, P n ∧ e = .returned (.int .i64 n) ∧ Dr w0 c g K y w'
theorem pickD (w0 : World) (c g K : Nat) (y : Stp) (m : Int) (w : World) (h : Hid (Dr w0 c g K y w)) (hK : K ≤ 900000000000) (h1 : 1 ≤ m) (h2 : m ≤ 100000) :
    Calls Tryd.prog 32 #[.pointer (some ⟨c, 0, none⟩), .int .i64 m] w (GaveN w0 c g (K + 2) y fun n => 0 ≤ n ∧ n < m) :=
  (pick_any c K m w h.out.1 hK h1 h2).mono fun _ _ ⟨n, hp, he, hc, hg⟩ => ⟨n, hp, he, h.out.step hc hg⟩
theorem amongD (w0 : World) (c g K : Nat) (y : Stp) (vs : List Int) (len : Nat) (w : World) (h : Hid (Dr w0 c g K y w)) (hK : K ≤ 900000000000) (hl : vs.length = len) (h1 : 1 ≤ len) (h2 : len ≤ 100000) :
    Calls Tryd.prog 35 #[.pointer (some ⟨c, 0, none⟩), .slice (some ⟨w.heap.size, 0, none⟩) len len] (w.alloc (.cells (vs.map fun z => Value.int .i64 z).toArray 3)) (GaveN w0 c g (K + 2) y fun n => n ∈ vs) :=
  (among_any c K w.heap.size len vs _ (h.out.1.alloc _) hK h1 h2 (by have := h.out.1.lt; omega) ⟨hl, fun i hi => cells_new w vs 3 i (by omega)⟩).mono
    fun _ _ ⟨n, hp, he, hc, hg⟩ => ⟨n, hp, he, (h.out.alloc _).step hc hg⟩
theorem least_any (a b : Int) (w : World) : Calls Tryd.prog 53 #[.int .i64 a, .int .i64 b] w fun e w' => e = .returned (.int .i64 (min a b)) ∧ w = w' := by
  by_cases h : a < b
  · have e : Hid (min a b = a) := Int.min_eq_left (by omega)
    go_enter Tryd.func53, Tryd.ntmps53
    go_wp2
    go_ret
    exact ⟨ret_int e.out.symm, rfl⟩
  · have e : Hid (min a b = b) := Int.min_eq_right (by omega)
    go_enter Tryd.func53, Tryd.ntmps53
    go_wp2
    go_ret
    exact ⟨ret_int e.out.symm, rfl⟩
end Go.Proofs.YtilnegmjnbffhaaDoor
