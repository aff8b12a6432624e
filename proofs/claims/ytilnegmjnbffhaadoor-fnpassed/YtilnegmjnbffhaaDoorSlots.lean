/-
  Contracts of SlotsOf: the model's and the program's.
-/
import Derived.Test.YtilnegmjnbffhaaDoorNexts
import Derived.Test.YtilnegmjnbffhaaDoorEnc2
namespace Go.Proofs.YtilnegmjnbffhaaDoor
open Go.ChangeShapes Go.WideShapes Go.ChangeAt Go.RowKit

/-- how many units a step takes -/
def unitsI (k : Int) : Int := if k = 4 then 2 else 1
/-- how many units lie ahead of the step at an index -/
def bef (xs : List Stp) (j : Nat) : Int := ((xs.take j).map fun x => unitsI x.k).sum
def slotsL (xs : List Stp) (k : Nat) : List Int := (List.range k).map (bef xs)
theorem unitsI_bd (k : Int) : 1 ≤ unitsI k ∧ unitsI k ≤ 2 := by unfold unitsI; split <;> omega
theorem bef_succ (xs : List Stp) (k : Nat) (x : Stp) (hx : xs[k]? = some x) : bef xs (k + 1) = bef xs k + unitsI x.k := by
  have hlt : k < xs.length := (List.getElem?_eq_some_iff.1 hx).1
  have e : xs[k] = x := (List.getElem?_eq_some_iff.1 hx).2
  unfold bef
  rw [List.take_succ_eq_append_getElem hlt, e]
  simp
theorem bef_bd (xs : List Stp) : ∀ k, k ≤ xs.length → 0 ≤ bef xs k ∧ bef xs k ≤ 2 * k
  | 0, _ => by simp [bef]
  | k + 1, h => by
    have ih := bef_bd xs k (by omega)
    have hx : xs[k]? = some (xs[k]'(by omega)) := List.getElem?_eq_getElem _
    have := bef_succ xs k _ hx
    have := unitsI_bd (xs[k]'(by omega)).k
    omega
theorem slotsL_succ (xs : List Stp) (k : Nat) : slotsL xs (k + 1) = slotsL xs k ++ [bef xs k] := by simp [slotsL, List.range_succ]
theorem slotsL_len (xs : List Stp) (k : Nat) : (slotsL xs k).length = k := by simp [slotsL]
/-- what SlotsOf answers -/
def SlotsRes (xs : List Stp) (b : Bool) (l : List Int) : Prop :=
  (b = true ↔ Good xs) ∧ (b = false → l = []) ∧ (b = true → l = slotsL xs xs.length)
theorem slots_res (xs : List Stp) : ∃ b l, SlotsRes xs b l := by
  obtain ⟨b, hb⟩ := good_bool xs
  cases b
  · exact ⟨false, [], hb, fun _ => rfl, (fun e => by cases e)⟩
  · exact ⟨true, _, hb, (fun e => by cases e), fun _ => rfl⟩
theorem SlotsRes.len {xs : List Stp} {b : Bool} {l : List Int} (h : SlotsRes xs b l) : l.length ≤ 20 := by
  cases b
  · rw [h.2.1 rfl]; simp
  · rw [h.2.2 rfl, slotsL_len]; exact (h.1.1 rfl).1.2

/-- what has been gathered so far -/
def Got (base : Nat) (xs : List Stp) (k : Nat) (v : Value) (w : World) : Prop :=
  ∃ A c, v = .slice A k c ∧ w.ownsRow base 3 1 (.slice A k c) k ((slotsL xs k).map (Value.int .i64))
theorem one_new (w : World) (B : Obj) (v : Value) (t : TypeId) : ∀ j u, [v][j]? = some u → ((w.alloc B).alloc (.cells #[v] t)).cell? ((⟨w.heap.size + 1, 0, none⟩ : Addr).add j) = some u := news2 w B [v] t

theorem encS_units (k o d s i t : Int) : (encS k o d s i t).size = 4 * (unitsI k).toNat := by
  rw [encS, strOfNums_size]
  unfold encL unitsI
  split <;> simp
/-- a round's append -/
theorem got_step {w wr w3 : World} {xs : List Stp} {k c2 g3 cap3 : Nat} {A2 : Option Addr} {x : Stp} {B : Int}
    (O2 : wr.ownsRow w.heap.size 3 1 (.slice A2 k c2) k ((slotsL xs k).map (Value.int .i64)))
    (hown3 : w3.ownsRow w.heap.size 3 1 (.slice (some ⟨g3, 0, none⟩) (k + 1) cap3) (k + 1) ((slotsL xs k).map (Value.int .i64) ++ [.int .i64 B]))
    (hg3 : ((wr.alloc (.cells #[.int .i64 x.k, .int .i64 x.o, .int .i64 x.d, .int .i64 x.s, .int .i64 x.i, .int .i64 x.t] 67)).alloc (.cells #[.int .i64 B] 3)).grownBy w3 (Value.slice A2 k c2).ownBlock)
    (B2 : Below w.heap.size w wr) (hB : bef xs k = B) :
    w3.ownsRow w.heap.size 3 1 (.slice (some ⟨g3, 0, none⟩) (k + 1) cap3) (k + 1) ((slotsL xs (k + 1)).map (Value.int .i64)) ∧ Below w.heap.size w w3 ∧ At w3 wr.heap.size 0 x := by
  have hlt := O2.lt
  refine ⟨by rw [slotsL_succ, hB, List.map_append]; exact hown3, ?_, ?_⟩
  · exact ((Below.tr B2 (below2 wr _ _)).grown hg3 (by have := B2.size; simp; omega) (fun g hg => (hlt g hg).1))
  · have h0 := (box_new wr 67 x.k x.o x.d x.s x.i x.t).2.2
    have hne : (Value.slice A2 k c2).ownBlock ≠ some wr.heap.size := fun e => by have := (hlt _ e).2; omega
    refine at_of_cells fun j hj => ?_
    have e1 : w3.cell? ⟨wr.heap.size, 0 + j, none⟩ = ((wr.alloc (.cells #[.int .i64 x.k, .int .i64 x.o, .int .i64 x.d, .int .i64 x.s, .int .i64 x.i, .int .i64 x.t] 67)).alloc (.cells #[.int .i64 B] 3)).cell? ⟨wr.heap.size, 0 + j, none⟩ :=
      World.cell?_of_block (hg3.block wr.heap.size (by simp; omega) (fun e => hne e.symm))
    have e2 : ((wr.alloc (.cells #[.int .i64 x.k, .int .i64 x.o, .int .i64 x.d, .int .i64 x.s, .int .i64 x.i, .int .i64 x.t] 67)).alloc (.cells #[.int .i64 B] 3)).cell? ⟨wr.heap.size, 0 + j, none⟩ = (wr.alloc (.cells #[.int .i64 x.k, .int .i64 x.o, .int .i64 x.d, .int .i64 x.s, .int .i64 x.i, .int .i64 x.t] 67)).cell? ⟨wr.heap.size, 0 + j, none⟩ :=
      World.cell?_alloc_lt _ _ _ (by simp)
    rw [e1, e2, Nat.zero_add]
    obtain ⟨c0, c1, c2, c3, c4, c5⟩ := h0
    have hq : j = 0 ∨ j = 1 ∨ j = 2 ∨ j = 3 ∨ j = 4 ∨ j = 5 := by omega
    rcases hq with rfl | rfl | rfl | rfl | rfl | rfl
    · exact c0
    · exact c1
    · exact c2
    · exact c3
    · exact c4
    · exact c5

theorem int_val {a b : Int} (h : a = b) : Value.int .i64 a = .int .i64 b := by rw [h]
end Go.Proofs.YtilnegmjnbffhaaDoor
