/-
  The laws' own helpers over known bits; arguments that are known bits, opened.
-/
import Derived.Test.YtmfganodnlnjcaaDoorKb
import Derived.Deep.DeepCutAuto
namespace Go.Proofs.YtmfganodnlnjcaaDoor.Op
open Go.Proofs.YtmfganodnlnjcaaDoor
open Go.ChangeShapes Go.WideShapes Go.ChangeAt Go.RowKit

/-- a law's Known's block -/
def KL (w : World) (g : Nat) (l h : Int) : Prop := Blk w g 46 [.int .i64 l, .int .i64 h]
theorem KL.c0 {w : World} {g : Nat} {l h : Int} (k : KL w g l h) : w.cell? ⟨g, 0, none⟩ = some (.int .i64 l) := Blk.cell k 0
theorem KL.c1 {w : World} {g : Nat} {l h : Int} (k : KL w g l h) : w.cell? ⟨g, 1, none⟩ = some (.int .i64 h) := Blk.cell k 1
theorem KL.below {w w' : World} {g : Nat} {l h : Int} (k : KL w g l h) (hb : Below w.heap.size w w') : KL w' g l h := Blk.below k hb
theorem KL.new (w : World) (l h : Int) : KL (w.alloc (.cells #[.int .i64 l, .int .i64 h] 46)) w.heap.size l h := heap_alloc_new w _
theorem KL.lt {w : World} {g : Nat} {l h : Int} (k : KL w g l h) : g < w.heap.size := Blk.lt k
abbrev klO (l h : Int) : Obj := .cells #[.int .i64 l, .int .i64 h] 46
theorem one_newKL (w : World) (al ah : Int) : Hid (KL (w.alloc (klO al ah)) w.heap.size al ah ∧ Below w.heap.size w (w.alloc (klO al ah))) := Lib.hid ⟨KL.new w al ah, below1 _ _⟩
theorem two_newKL (w : World) (al ah bl bh : Int) :
    Hid (KL ((w.alloc (klO al ah)).alloc (klO bl bh)) w.heap.size al ah ∧ KL ((w.alloc (klO al ah)).alloc (klO bl bh)) (w.heap.size + 1) bl bh ∧ Below w.heap.size w ((w.alloc (klO al ah)).alloc (klO bl bh))) := by
  refine Lib.hid ⟨(KL.new w al ah).below (below1 _ _), ?_, below2 _ _ _⟩
  have := KL.new (w.alloc (klO al ah)) bl bh
  simpa using this
set_option maxRecDepth 100000 in
set_option maxHeartbeats 400000 in
theorem toKn_any (l h : Int) (w : World) :
    Calls Tryd.prog 32 #[.agg #[.int .i64 l, .int .i64 h]] w fun e w' => e = .returned (.agg #[.int .i64 l, .int .i64 h]) ∧ Below w.heap.size w w' := by
  go_enter Tryd.func32, Tryd.ntmps32
  go_wp2
  exact bodyPost_ret (v := .agg #[.int .i64 l, .int .i64 h]) (by simp [results, Tryd.results32, go_sem]) rfl ⟨rfl, below3 _ _ _ _⟩
set_option maxRecDepth 100000 in
set_option maxHeartbeats 400000 in
theorem eqKn_any (l h : Int) (w : World) :
    Calls Tryd.prog 33 #[.agg #[.int .i64 l, .int .i64 h], .agg #[.int .i64 l, .int .i64 h]] w fun e w' => e = .returned (.bool true) ∧ Below w.heap.size w w' := by
  have e1 : (l != l) = false := by simp
  have e2 : (h != h) = false := by simp
  go_enter Tryd.func33, Tryd.ntmps33
  go_wp2
  go_ret
  exact ⟨rfl, below2 _ _ _⟩
section
variable {H : Type} {enc : TypeId × Value → H} {W : World} {base : Nat} {spare : Nat → Bool} {held : Bool}
theorem cellsKL : Tryd.prog.cellsOf 46 = 2 := by kernel_rfl
theorem cellsKI : Tryd.prog.cellsOf 3 = 1 := by kernel_rfl
set_option maxRecDepth 100000 in
theorem kn_cells {fuel : Nat} {cs : List Value} {x : DataW H × List MemPlace} (h : DataW.trod enc Tryd.prog W base spare held fuel 46 cs = some x) : ∃ l h : Int, cs = [.int .i64 l, .int .i64 h] := by
  obtain ⟨xs, n, _, _, hlen, hxl, hf⟩ := DataW.trod_struct Tryd.underlying46 h
  rw [cellsKL] at hlen
  match cs, hlen, xs, hxl with
  | [c0, c1], _, [y0, y1], _ =>
    have h0 : DataW.trod enc Tryd.prog W base spare held n 3 (List.take (Tryd.prog.cellsOf 3) (List.drop 0 [c0, c1])) = some y0 := hf 0 _ rfl
    rw [cellsKI] at h0
    have h1 : DataW.trod enc Tryd.prog W base spare held n 3 (List.take (Tryd.prog.cellsOf 3) (List.drop 1 [c0, c1])) = some y1 := hf 1 _ rfl
    rw [cellsKI] at h1
    obtain ⟨a0, e0, _⟩ := DataW.trod_int Tryd.underlying3 h0
    obtain ⟨a1, e1, _⟩ := DataW.trod_int Tryd.underlying3 h1
    refine ⟨a0, a1, ?_⟩
    simp at e0 e1
    simp [e0, e1]
set_option maxRecDepth 100000 in
/-- an argument that is a Known -/
theorem known_of {base' : Nat} {v : Value} {dd : DataW H} {p : List MemPlace} (hv : Value.okWide Tryd.prog W .any base' 46 v) (h : DataW.Trod enc Tryd.prog W base spare held 46 v dd p) :
    ∃ l h : Int, v = .agg #[.int .i64 l, .int .i64 h] := by
  obtain ⟨cs, rfl, _⟩ := okWide_struct Tryd.underlying46 hv
  obtain ⟨fuel, hf⟩ := h
  obtain ⟨l, h, hy⟩ := kn_cells hf
  refine ⟨l, h, ?_⟩
  have : cs.toList = [.int .i64 l, .int .i64 h] := by simpa [Value.cells] using hy
  rw [← Array.toArray_toList (xs := cs), this]
end
end Go.Proofs.YtmfganodnlnjcaaDoor.Op
