/-
  Contracts of the encoding of a step: the model's and the program's.
-/
import Derived.Test.YtilnegmjnbffhaaDoorSpec2
import Derived.Laws.BytesArg
import Derived.Deep.AppendLies
import Derived.OwnWalk
namespace Go.Proofs.YtilnegmjnbffhaaDoor
open Go.ChangeShapes Go.WideShapes Go.ChangeAt Go.RowKit

theorem ret_str {a b : ByteArray} (h : a = b) : Ending.returned (.string a) = .returned (.string b) := by rw [h]
/-- the bytes of a step -/
def encL (k o d s i t : Int) : List Int := if k = 4 then [k + 16 * o, 16 * d + s, t, i % 256] ++ [0, 0, 0, i / 256] else [k + 16 * o, 16 * d + s, t, i % 256]
def encS (k o d s i t : Int) : ByteArray := strOfNums (encL k o d s i t)

theorem conv_new (w : World) (l : List Int) (n c : Nat) (hn : l.length = n) :
    (convert 22 9 (.slice (some ⟨w.heap.size, 0, none⟩) n c)).run Tryd.prog (w.alloc (.cells (l.map (Value.int .u8)).toArray 5)) = .ok (.string (strOfNums l)) (w.alloc (.cells (l.map (Value.int .u8)).toArray 5)) := by
  refine run_convert_bytes_arg _ 22 5 Tryd.underlying22 Tryd.underlying5 _ _ _ _ l hn (fun i hi => ?_) 9 Tryd.underlying9
  have hb : (w.alloc (.cells (l.map (Value.int .u8)).toArray 5)).heap[w.heap.size]? = some (.cells (l.map (Value.int .u8)).toArray 5) := heap_alloc_new w _
  simp only [World.cell?, hb]
  have : i < l.length := by omega
  simp [this]
theorem conv_own (w : World) (base g n cap : Nat) (l : List Int) (h : w.ownsRow base 5 1 (.slice (some ⟨g, 0, none⟩) n cap) n (l.map (Value.int .u8))) :
    (convert 22 9 (.slice (some ⟨g, 0, none⟩) n cap)).run Tryd.prog w = .ok (.string (strOfNums l)) w := by
  have hl : l.length = n := by have := h.1; simpa using this
  refine run_convert_bytes_arg _ 22 5 Tryd.underlying22 Tryd.underlying5 _ _ _ _ l hl (fun i hi => ?_) 9 Tryd.underlying9
  have hg : (l.map (Value.int .u8))[i]? = some (.int .u8 (l.getD i 0)) := by
    have : i < l.length := by omega
    simp [this]
  have := h.cells (g := g) rfl i _ hg
  rw [add_plain] at this
  exact this
/-- a row just laid, one block behind it -/
theorem own_built (w : World) (A C : Obj) (cs : Array Value) (n : Nat) (hn : cs.size = n) (hm : n ≤ maxLen) :
    (((w.alloc A).alloc (.cells cs 5)).alloc C).ownsRow w.heap.size 5 1 (.slice (some ⟨w.heap.size + 1, 0, none⟩) n n) n cs.toList := by
  refine ⟨by simp [hn], .inr ⟨w.heap.size + 1, n, cs, rfl, by omega, ?_, Nat.le_refl _, hm, by simp [hn], List.take_of_length_le (by simp [hn])⟩⟩
  rw [Below.heap_alloc _ _ _ (by simp)]
  have := heap_alloc_new (w.alloc A) (.cells cs 5)
  simpa using this
theorem news3 (w : World) (A B : Obj) (l : List Value) (t : TypeId) : ∀ j u, l[j]? = some u → (((w.alloc A).alloc B).alloc (.cells l.toArray t)).cell? ((⟨w.heap.size + 1 + 1, 0, none⟩ : Addr).add j) = some u := by
  have h := heap_alloc_new ((w.alloc A).alloc B) (.cells l.toArray t)
  have hs : ((w.alloc A).alloc B).heap.size = w.heap.size + 1 + 1 := by simp
  rw [hs] at h
  exact World.news_of_block h
theorem below3g {w w1 : World} {A B C : Obj} {n c : Nat} (h : (((w.alloc A).alloc B).alloc C).grownBy w1 (Value.slice (some ⟨w.heap.size + 1, 0, none⟩) n c).ownBlock) : Below w.heap.size w w1 :=
  (below3 w A B C).grown h (by simp; omega) (fun k hk => by have := Option.some.inj hk; simp only at this; omega)
theorem info_u8 : (Tryd.prog.info? 5).map (fun i => (i.zero, i.size, i.bytes)) = some (some (.int .u8 0), 1, 1) := by kernel_rfl

end Go.Proofs.YtilnegmjnbffhaaDoor
