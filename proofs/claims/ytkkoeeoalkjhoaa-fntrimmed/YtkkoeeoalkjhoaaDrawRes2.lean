/-
  Drawn clauses to resolve.
-/
import Derived.Test.YtkkoeeoalkjhoaaDrawRes
namespace Go.Proofs.Ytkkoeeoalkjhoaa
open Go.ChangeShapes Go.WideShapes Go.ChangeAt Go.RowKit

/-- an append of a slice of ints, nil and empty let in, onto a row of one's own -/
theorem wpList_append_ints {w1 : World} {base g k cap m c2 : Nat} {B : Option Addr} {xs l : List Int} {ops : Array Oper} {rest : List Oper} {o : Oper} {a : Act} {Q : Exit → Act → World → Prop} (s x : Operand)
    (hg : o.guard = none) (hop : o.op = Op.call { callee := Callee.builtin Builtin.append, args := #[s, x], argTypes := #[40, 40] })
    (hs : a.eval s = .slice (some ⟨g, 0, none⟩) k cap) (hx : a.eval x = .slice B m c2) (ho : w1.ownsRow base 3 1 (.slice (some ⟨g, 0, none⟩) k cap) k (xs.map (Value.int .i64)))
    (hl : ILies w1 B l) (hm : l.length = m) (HN : B = none → m = 0 ∧ c2 = 0) (hb : base ≤ w1.heap.size) (hk : k ≤ 10000) (hmm : m ≤ 10000)
    (hK : ∀ A2 cc w2, w2.ownsRow base 3 1 (.slice A2 (k + m) cc) (k + m) ((xs ++ l).map (Value.int .i64)) → w1.grownBy w2 (some g) → wpList Try.prog ops Q rest (a.put o.dst (.slice A2 (k + m) cc)) w2) : wpList Try.prog ops Q (o :: rest) a w1 := by
  obtain ⟨i0, hi0, hz0, hz1, hz2⟩ := info_parts info_int
  by_cases hz : m = 0
  · subst hz
    have hg0 : l = [] := List.eq_nil_of_length_eq_zero hm
    refine wpList_append_fits_any _ hg _ _ 40 hop base 3 i0 1 Try.underlying40 hi0 hz1 g k cap _ hs ho B 0 c2 [] hx rfl (fun e => HN e) (fun ad _ j u hu => by simp at hu) (fun u hu => by simp at hu) (by have := own_cap ho; omega) ?_
    intro w2 h2 hg2
    exact hK _ _ w2 (by rw [hg0]; simpa using h2) hg2
  · obtain ⟨y, hy⟩ : ∃ y, l[0]? = some y := ⟨_, List.getElem?_eq_getElem (by omega)⟩
    obtain ⟨b1, off1, hB, _, _⟩ := hl 0 y hy
    refine wpList_append_lies _ hg _ _ 40 hop base 3 i0 (.int .i64 0) 1 8 Try.underlying40 hi0 hz0 hz1 hz2 rfl (by omega) _ k _ hs ho ⟨b1, off1, none⟩ m c2 (l.map (Value.int .i64)) (by rw [hx, hB]) (by simp [hm]) (ilies_cells hl _ hB) (ints_oneCell _ _) (by omega) (by unfold maxLen; omega) (by omega) hb _ rfl ?_
    intro g' cap' w2 h2 hg2 _ _
    exact hK (some ⟨g', 0, none⟩) cap' w2 (by rw [List.map_append]; exact h2) hg2
theorem lit2 (w : World) (v : Int) : ILies ((w.alloc (.cells #[.int .i64 v] 3)).alloc (.cells #[.int .i64 (-v)] 3)) (some ⟨w.heap.size + 1, 0, none⟩) [-v] := by
  have h := own_ilies (own_row (w.alloc (.cells #[.int .i64 v] 3)) [-v] 0 (by omega) (by simp [maxLen]))
  simpa using h
/-- a literal of one list, of two -/
theorem llies_one {w : World} {A : Option Addr} {n c : Nat} {a : List Int} (h : ILies w A a) (hn : a.length = n) (hc : n ≤ c) (hb : n ≤ 1000) : LLies (w.alloc (.cells #[.slice A n c] 40)) (some ⟨w.heap.size, 0, none⟩) [a] := by
  have hk : Blk (w.alloc (.cells #[.slice A n c] 40)) w.heap.size 40 [.slice A n c] := heap_alloc_new w _
  intro i l hl
  have hi : i = 0 := by have := (List.getElem?_eq_some_iff.1 hl).1; simp at this; exact this
  subst hi
  simp at hl
  subst hl
  exact ⟨w.heap.size, 0, A, c, rfl, hk.lt, by rw [hn]; exact hk.there rfl, by omega, by omega, h.below (below1 w _)⟩
theorem llies_two {w : World} {A B : Option Addr} {n m c1 c2 : Nat} {a b : List Int} (h : ILies w A a) (k : ILies w B b) (hn : a.length = n) (hm : b.length = m) (hc : n ≤ c1) (hd : m ≤ c2) (hb : n ≤ 1000) (hb2 : m ≤ 1000) : LLies (w.alloc (.cells #[.slice A n c1, .slice B m c2] 40)) (some ⟨w.heap.size, 0, none⟩) [a, b] := by
  have hk : Blk (w.alloc (.cells #[.slice A n c1, .slice B m c2] 40)) w.heap.size 40 [.slice A n c1, .slice B m c2] := heap_alloc_new w _
  intro i l hl
  have hi : i = 0 ∨ i = 1 := by have := (List.getElem?_eq_some_iff.1 hl).1; simp at this; omega
  rcases hi with rfl | rfl
  · simp at hl
    subst hl
    exact ⟨w.heap.size, 0, A, c1, rfl, hk.lt, by rw [hn]; exact hk.there rfl, by omega, by omega, h.below (below1 w _)⟩
  · simp at hl
    subst hl
    exact ⟨w.heap.size, 0, B, c2, rfl, hk.lt, by rw [hm]; exact hk.there rfl, by omega, by omega, k.below (below1 w _)⟩
/-- two drawn lists and a variable -/
def DrewR (w : World) (e : Ending) (w' : World) : Prop :=
  ∃ (a b : List Int) (v : Int) (A B : Option Addr) (n m c1 c2 : Nat), e = .returned (.tuple #[.slice A n c1, .slice B m c2, .int .i64 v]) ∧ (a.length = n ∧ b.length = m) ∧ (n ≤ 1000 ∧ m ≤ 1000) ∧ (n ≤ c1 ∧ m ≤ c2) ∧ (1 ≤ v ∧ v ≤ 100) ∧ ILies w' A a ∧ ILies w' B b ∧ Below w.heap.size w w'
end Go.Proofs.Ytkkoeeoalkjhoaa
