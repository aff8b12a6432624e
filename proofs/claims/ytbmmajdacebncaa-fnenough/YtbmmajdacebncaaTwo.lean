/-
  Answers of a slice of ints and a bool; a slice of ints that grows by one.
-/
import Derived.Test.YtbmmajdacebncaaKept
namespace Go.Proofs.Ytbmmajdacebncaa
open Go.ChangeShapes Go.WideShapes Go.ChangeAt Go.RowKit

/-- it answers a slice of ints of its own, and a bool -/
def GaveTwo (w : World) (l : List Int) (b : Bool) (e : Ending) (w' : World) : Prop :=
  ∃ A c, e = .returned (.tuple #[.slice A l.length c, .bool b]) ∧ w'.ownsRow w.heap.size 3 1 (.slice A l.length c) l.length (l.map (Value.int .i64)) ∧ Below w.heap.size w w'
theorem two_nil (w w1 : World) (h : Below w.heap.size w w1) : GaveTwo w [] false (.returned (.tuple #[.slice none 0 0, .bool false])) w1 :=
  ⟨none, 0, rfl, World.ownsRow_nil _ _ _ _, h⟩
theorem two_of {w wr : World} {A2 : Option Addr} {c2 k : Nat} {l : List Int} (hl : l.length = k) (h : wr.ownsRow w.heap.size 3 1 (.slice A2 k c2) k (l.map (Value.int .i64))) (hb : Below w.heap.size w wr) :
    GaveTwo w l true (.returned (.tuple #[.slice A2 k c2, .bool true])) wr := by
  subst hl
  exact ⟨_, _, rfl, h, hb⟩
theorem one_new1 (w : World) (v : Value) (t : TypeId) : ∀ j u, [v][j]? = some u → (w.alloc (.cells #[v] t)).cell? ((⟨w.heap.size, 0, none⟩ : Addr).add j) = some u :=
  World.news_of_block (heap_alloc_new w (.cells [v].toArray t))
/-- behind the append of one number -/
theorem app1 {w wr w3 : World} {bs : Nat} {l : List Int} {k c2 g3 cap3 : Nat} {A2 : Option Addr} {x : Int}
    (O2 : wr.ownsRow bs 3 1 (.slice A2 k c2) k (l.map (Value.int .i64)))
    (hown3 : w3.ownsRow bs 3 1 (.slice (some ⟨g3, 0, none⟩) (k + 1) cap3) (k + 1) (l.map (Value.int .i64) ++ [.int .i64 x]))
    (hg3 : (wr.alloc (.cells #[.int .i64 x] 3)).grownBy w3 (Value.slice A2 k c2).ownBlock)
    (B2 : Below w.heap.size w wr) (hbs : w.heap.size ≤ bs) :
    w3.ownsRow bs 3 1 (.slice (some ⟨g3, 0, none⟩) (k + 1) cap3) (k + 1) ((l ++ [x]).map (Value.int .i64)) ∧ Below w.heap.size w w3 := by
  have hlt := O2.lt
  refine ⟨by rw [List.map_append]; exact hown3, ?_⟩
  exact ((Below.tr B2 (below1 wr _)).grown hg3 (by have := B2.size; simp; omega) (fun g hg => Nat.le_trans hbs (hlt g hg).1))
end Go.Proofs.Ytbmmajdacebncaa
