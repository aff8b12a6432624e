/-
  Known bits in memory: a block of two numbers; the ends of functions that answer known bits.
-/
import Derived.Test.YtmfganodnlnjcaaDoorKnI
import Derived.Test.YtmfganodnlnjcaaDoorMem
import Derived.StillTailTactics
import Derived.Deep.DeepCutAuto
namespace Go.Proofs.YtmfganodnlnjcaaDoor.Op
open Go.Proofs.YtmfganodnlnjcaaDoor
open Go.ChangeShapes Go.WideShapes Go.ChangeAt Go.RowKit

/-- an interval's block -/
def KB (w : World) (g : Nat) (l h : Int) : Prop := Blk w g 24 [.int .i64 l, .int .i64 h]
theorem KB.c0 {w : World} {g : Nat} {l h : Int} (k : KB w g l h) : w.cell? ⟨g, 0, none⟩ = some (.int .i64 l) := Blk.cell k 0
theorem KB.c1 {w : World} {g : Nat} {l h : Int} (k : KB w g l h) : w.cell? ⟨g, 1, none⟩ = some (.int .i64 h) := Blk.cell k 1
theorem KB.f {w : World} {g : Nat} {l h : Int} (k : KB w g l h) (j : Nat) : w.frozen? ⟨g, j, none⟩ = false := Blk.frozen k j
theorem KB.below {w w' : World} {g : Nat} {l h : Int} (k : KB w g l h) (hb : Below w.heap.size w w') : KB w' g l h := Blk.below k hb
theorem KB.new (w : World) (l h : Int) : KB (w.alloc (.cells #[.int .i64 l, .int .i64 h] 24)) w.heap.size l h := heap_alloc_new w _
theorem KB.lt {w : World} {g : Nat} {l h : Int} (k : KB w g l h) : g < w.heap.size := Blk.lt k
abbrev kO (l h : Int) : Obj := .cells #[.int .i64 l, .int .i64 h] 24
theorem belowK2 {w0 w : World} {g a b : Nat} {u v : Value} (h : Below w0.heap.size w0 w) (hg : w0.heap.size ≤ g) :
    Below w0.heap.size w0 ((w.setCell ⟨g, a, none⟩ u).setCell ⟨g, b, none⟩ v) := (h.setCell (p := ⟨g, a, none⟩) hg _).setCell (p := ⟨g, b, none⟩) hg _
theorem one_newk (w : World) (al ah : Int) : Hid (KB (w.alloc (kO al ah)) w.heap.size al ah ∧ Below w.heap.size w (w.alloc (kO al ah))) := Lib.hid ⟨KB.new w al ah, below1 _ _⟩
theorem two_newk (w : World) (al ah bl bh : Int) :
    Hid (KB ((w.alloc (kO al ah)).alloc (kO bl bh)) w.heap.size al ah ∧ KB ((w.alloc (kO al ah)).alloc (kO bl bh)) (w.heap.size + 1) bl bh ∧ Below w.heap.size w ((w.alloc (kO al ah)).alloc (kO bl bh))) := by
  refine Lib.hid ⟨(KB.new w al ah).below (below1 _ _), ?_, below2 _ _ _⟩
  have := KB.new (w.alloc (kO al ah)) bl bh
  simpa using this
theorem three_newk (w : World) (al ah bl bh cl ch : Int) :
    Hid (KB (((w.alloc (kO al ah)).alloc (kO bl bh)).alloc (kO cl ch)) w.heap.size al ah ∧ KB (((w.alloc (kO al ah)).alloc (kO bl bh)).alloc (kO cl ch)) (w.heap.size + 1) bl bh ∧ KB (((w.alloc (kO al ah)).alloc (kO bl bh)).alloc (kO cl ch)) (w.heap.size + 1 + 1) cl ch ∧ Below w.heap.size w (((w.alloc (kO al ah)).alloc (kO bl bh)).alloc (kO cl ch))) := by
  refine Lib.hid ⟨(KB.new w al ah).below (below2 _ _ _), ?_, ?_, below3 _ _ _ _⟩
  · have := (KB.new (w.alloc (kO al ah)) bl bh).below (below1 _ (kO cl ch))
    simpa using this
  · have := KB.new ((w.alloc (kO al ah)).alloc (kO bl bh)) cl ch
    simpa using this
theorem four_newk (w : World) (al ah bl bh cl ch dl dh : Int) :
    Hid (KB ((((w.alloc (kO al ah)).alloc (kO bl bh)).alloc (kO cl ch)).alloc (kO dl dh)) w.heap.size al ah ∧ KB ((((w.alloc (kO al ah)).alloc (kO bl bh)).alloc (kO cl ch)).alloc (kO dl dh)) (w.heap.size + 1) bl bh ∧ KB ((((w.alloc (kO al ah)).alloc (kO bl bh)).alloc (kO cl ch)).alloc (kO dl dh)) (w.heap.size + 1 + 1) cl ch ∧ KB ((((w.alloc (kO al ah)).alloc (kO bl bh)).alloc (kO cl ch)).alloc (kO dl dh)) (w.heap.size + 1 + 1 + 1) dl dh ∧ Below w.heap.size w ((((w.alloc (kO al ah)).alloc (kO bl bh)).alloc (kO cl ch)).alloc (kO dl dh))) := by
  obtain ⟨h1, h2, h3, h4⟩ := (three_newk w al ah bl bh cl ch).out
  refine Lib.hid ⟨h1.below (below1 _ _), h2.below (below1 _ _), h3.below (below1 _ _), ?_, h4.alloc (by simp; omega) _⟩
  have := KB.new (((w.alloc (kO al ah)).alloc (kO bl bh)).alloc (kO cl ch)) dl dh
  simpa using this

set_option maxRecDepth 100000 in
set_option maxHeartbeats 400000 in
theorem eql_kn0 (a b c d : Int) (w : World) : (binOp .eql 24 (.agg #[.int .i64 a, .int .i64 b]) (.agg #[.int .i64 c, .int .i64 d])).run Tryd.prog w = .ok (.bool (a == c && b == d)) w := by
  cases h1 : (a == c)
  · go_simp
  · cases h2 : (b == d) <;> go_simp
theorem eql_kn (a b c d : Int) (w : World) : (binOp .eql 24 (.agg #[.int .i64 a, .int .i64 b]) (.agg #[.int .i64 c, .int .i64 d])).run Tryd.prog w = .ok (.bool (decide (a = c ∧ b = d))) w := by
  rw [eql_kn0]
  by_cases h1 : a = c <;> by_cases h2 : b = d <;> simp [h1, h2]
set_option maxRecDepth 100000 in
set_option maxHeartbeats 400000 in
theorem neq_kn0 (a b c d : Int) (w : World) : (binOp .neq 24 (.agg #[.int .i64 a, .int .i64 b]) (.agg #[.int .i64 c, .int .i64 d])).run Tryd.prog w = .ok (.bool (!(a == c && b == d))) w := by
  cases h1 : (a == c)
  · go_simp
  · cases h2 : (b == d) <;> go_simp
theorem neq_kn (a b c d : Int) (w : World) : (binOp .neq 24 (.agg #[.int .i64 a, .int .i64 b]) (.agg #[.int .i64 c, .int .i64 d])).run Tryd.prog w = .ok (.bool (!decide (a = c ∧ b = d))) w := by
  rw [neq_kn0]
  by_cases h1 : a = c <;> by_cases h2 : b = d <;> simp [h1, h2]
theorem KB.set2 {w : World} {g : Nat} {l h x y : Int} (k : KB w g l h) : KB ((w.setCell ⟨g, 0, none⟩ (.int .i64 x)).setCell ⟨g, 1, none⟩ (.int .i64 y)) g x y := by
  have := Blk.set (Blk.set k 0 (.int .i64 x)) 1 (.int .i64 y)
  exact this
theorem KB.far2 {w : World} {g g' : Nat} {l h : Int} {u v : Value} {i j : Nat} (k : KB w g l h) (hn : g ≠ g') : KB ((w.setCell ⟨g', i, none⟩ u).setCell ⟨g', j, none⟩ v) g l h :=
  Blk.far (Blk.far k hn u) hn v
/-- the end of a function that answers an interval (in a cell) and whether -/
theorem kshut1 {P : Program} {fn : Func} {a : Act} {w W : World} {g : Nat} {x y : Int} {ok : Bool} {T : Value} (k : KB W g x y) (hb : Below w.heap.size w W)
    (hr : W.cell? ⟨g, 0, none⟩ = some (.int .i64 x) → W.cell? ⟨g, 1, none⟩ = some (.int .i64 y) → (results fn a.tmps).run P W = .ok (.tuple #[.agg #[.int .i64 x, .int .i64 y], .bool ok]) W)
    (hv : Value.tuple #[.agg #[.int .i64 x, .int .i64 y], .bool ok] = T) (hd : a.defers = [] := by rfl) : bodyPost P fn (fun e w' => e = .returned T ∧ Below w.heap.size w w') .ret a W :=
  bodyPost_ret (hr k.c0 k.c1) hd ⟨by rw [hv], hb⟩
/-- the end of a function that answers an interval (in a cell) -/
theorem kshut0 {P : Program} {fn : Func} {a : Act} {w W : World} {g : Nat} {x y : Int} {T : Value} (k : KB W g x y) (hb : Below w.heap.size w W)
    (hr : W.cell? ⟨g, 0, none⟩ = some (.int .i64 x) → W.cell? ⟨g, 1, none⟩ = some (.int .i64 y) → (results fn a.tmps).run P W = .ok (.agg #[.int .i64 x, .int .i64 y]) W)
    (hv : Value.agg #[.int .i64 x, .int .i64 y] = T) (hd : a.defers = [] := by rfl) : bodyPost P fn (fun e w' => e = .returned T ∧ Below w.heap.size w w') .ret a W :=
  bodyPost_ret (hr k.c0 k.c1) hd ⟨by rw [hv], hb⟩
/-- the end of a function that answers two intervals (in cells) and whether -/
theorem kshut2 {P : Program} {fn : Func} {a : Act} {w W : World} {g g' : Nat} {x y x' y' : Int} {ok : Bool} {T : Value} (k : KB W g x y) (k' : KB W g' x' y') (hb : Below w.heap.size w W)
    (hr : W.cell? ⟨g, 0, none⟩ = some (.int .i64 x) → W.cell? ⟨g, 1, none⟩ = some (.int .i64 y) → W.cell? ⟨g', 0, none⟩ = some (.int .i64 x') → W.cell? ⟨g', 1, none⟩ = some (.int .i64 y') →
      (results fn a.tmps).run P W = .ok (.tuple #[.agg #[.int .i64 x, .int .i64 y], .agg #[.int .i64 x', .int .i64 y'], .bool ok]) W)
    (hv : Value.tuple #[.agg #[.int .i64 x, .int .i64 y], .agg #[.int .i64 x', .int .i64 y'], .bool ok] = T) (hd : a.defers = [] := by rfl) : bodyPost P fn (fun e w' => e = .returned T ∧ Below w.heap.size w w') .ret a W :=
  bodyPost_ret (hr k.c0 k.c1 k'.c0 k'.c1) hd ⟨by rw [hv], hb⟩
theorem KB.drewn {w : World} {g : Nat} {l h : Int} (k : KB w g l h) : KB w.drew g l h := k
theorem KB.newAt {w : World} {g : Nat} {l h : Int} (hg : w.heap.size = g) : KB (w.alloc (.cells #[.int .i64 l, .int .i64 h] 24)) g l h := by
  subst hg; exact KB.new w l h
theorem KB.newAt1 {w : World} {o : Obj} {g : Nat} {l h : Int} (hg : w.heap.size + 1 = g) : KB ((w.alloc o).alloc (.cells #[.int .i64 l, .int .i64 h] 24)) g l h := by
  subst hg
  have := KB.new (w.alloc o) l h
  simpa using this
end Go.Proofs.YtmfganodnlnjcaaDoor.Op
