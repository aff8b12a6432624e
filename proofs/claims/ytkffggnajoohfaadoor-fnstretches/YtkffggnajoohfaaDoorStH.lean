/-
  The laws' own helpers over intervals; arguments that are intervals, opened.
-/
import Derived.Test.YtkffggnajoohfaaDoorSt2
import Derived.Deep.DeepCutAuto
namespace Go.Proofs.YtkffggnajoohfaaDoor.Op
open Go.Proofs.YtkffggnajoohfaaDoor
open Go.ChangeShapes Go.WideShapes Go.ChangeAt Go.RowKit

/-- a law's interval's block -/
def LB (w : World) (g : Nat) (l h : Int) : Prop := Blk w g 59 [.int .i64 l, .int .i64 h]
theorem LB.c0 {w : World} {g : Nat} {l h : Int} (k : LB w g l h) : w.cell? ⟨g, 0, none⟩ = some (.int .i64 l) := Blk.cell k 0
theorem LB.c1 {w : World} {g : Nat} {l h : Int} (k : LB w g l h) : w.cell? ⟨g, 1, none⟩ = some (.int .i64 h) := Blk.cell k 1
theorem LB.below {w w' : World} {g : Nat} {l h : Int} (k : LB w g l h) (hb : Below w.heap.size w w') : LB w' g l h := Blk.below k hb
theorem LB.new (w : World) (l h : Int) : LB (w.alloc (.cells #[.int .i64 l, .int .i64 h] 59)) w.heap.size l h := heap_alloc_new w _
theorem LB.lt {w : World} {g : Nat} {l h : Int} (k : LB w g l h) : g < w.heap.size := Blk.lt k
theorem SB.drewn {w : World} {g : Nat} {l h : Int} (k : SB w g l h) : SB w.drew g l h := k
theorem SB.newAt {w : World} {g : Nat} {l h : Int} (hg : w.heap.size = g) : SB (w.alloc (.cells #[.int .i64 l, .int .i64 h] 46)) g l h := by
  subst hg; exact SB.new w l h
theorem SB.newAt1 {w : World} {o : Obj} {g : Nat} {l h : Int} (hg : w.heap.size + 1 = g) : SB ((w.alloc o).alloc (.cells #[.int .i64 l, .int .i64 h] 46)) g l h := by
  subst hg
  have := SB.new (w.alloc o) l h
  simpa using this
abbrev lO (l h : Int) : Obj := .cells #[.int .i64 l, .int .i64 h] 59
theorem one_newL (w : World) (al ah : Int) : Hid (LB (w.alloc (lO al ah)) w.heap.size al ah ∧ Below w.heap.size w (w.alloc (lO al ah))) := Lib.hid ⟨LB.new w al ah, below1 _ _⟩
theorem two_newL (w : World) (al ah bl bh : Int) :
    Hid (LB ((w.alloc (lO al ah)).alloc (lO bl bh)) w.heap.size al ah ∧ LB ((w.alloc (lO al ah)).alloc (lO bl bh)) (w.heap.size + 1) bl bh ∧ Below w.heap.size w ((w.alloc (lO al ah)).alloc (lO bl bh))) := by
  refine Lib.hid ⟨(LB.new w al ah).below (below1 _ _), ?_, below2 _ _ _⟩
  have := LB.new (w.alloc (lO al ah)) bl bh
  simpa using this
set_option maxRecDepth 100000 in
set_option maxHeartbeats 400000 in
theorem toSt_any (l h : Int) (w : World) :
    Calls Tryd.prog 31 #[.agg #[.int .i64 l, .int .i64 h]] w fun e w' => e = .returned (.agg #[.int .i64 l, .int .i64 h]) ∧ Below w.heap.size w w' := by
  go_enter Tryd.func31, Tryd.ntmps31
  go_wp2
  exact bodyPost_ret (v := .agg #[.int .i64 l, .int .i64 h]) (by simp [results, Tryd.results31, go_sem]) rfl ⟨rfl, below3 _ _ _ _⟩
set_option maxRecDepth 100000 in
set_option maxHeartbeats 400000 in
theorem eqSt_any (l h : Int) (w : World) :
    Calls Tryd.prog 32 #[.agg #[.int .i64 l, .int .i64 h], .agg #[.int .i64 l, .int .i64 h]] w fun e w' => e = .returned (.bool true) ∧ Below w.heap.size w w' := by
  have e1 : (l != l) = false := by simp
  have e2 : (h != h) = false := by simp
  go_enter Tryd.func32, Tryd.ntmps32
  go_wp2
  go_ret
  exact ⟨rfl, below2 _ _ _⟩
section
variable {H : Type} {enc : TypeId × Value → H} {W : World} {base : Nat} {spare : Nat → Bool} {held : Bool}
theorem cellsL : Tryd.prog.cellsOf 59 = 2 := by kernel_rfl
theorem cellsI : Tryd.prog.cellsOf 3 = 1 := by kernel_rfl
set_option maxRecDepth 100000 in
theorem st_cells {fuel : Nat} {cs : List Value} {x : DataW H × List MemPlace} (h : DataW.trod enc Tryd.prog W base spare held fuel 59 cs = some x) : ∃ l h : Int, cs = [.int .i64 l, .int .i64 h] := by
  obtain ⟨xs, n, _, _, hlen, hxl, hf⟩ := DataW.trod_struct Tryd.underlying59 h
  rw [cellsL] at hlen
  match cs, hlen, xs, hxl with
  | [c0, c1], _, [y0, y1], _ =>
    have h0 : DataW.trod enc Tryd.prog W base spare held n 3 (List.take (Tryd.prog.cellsOf 3) (List.drop 0 [c0, c1])) = some y0 := hf 0 _ rfl
    rw [cellsI] at h0
    have h1 : DataW.trod enc Tryd.prog W base spare held n 3 (List.take (Tryd.prog.cellsOf 3) (List.drop 1 [c0, c1])) = some y1 := hf 1 _ rfl
    rw [cellsI] at h1
    obtain ⟨a0, e0, _⟩ := DataW.trod_int Tryd.underlying3 h0
    obtain ⟨a1, e1, _⟩ := DataW.trod_int Tryd.underlying3 h1
    refine ⟨a0, a1, ?_⟩
    simp at e0 e1
    simp [e0, e1]
set_option maxRecDepth 100000 in
/-- an argument that is an interval -/
theorem stretch_of {base' : Nat} {v : Value} {dd : DataW H} {p : List MemPlace} (hv : Value.okWide Tryd.prog W .any base' 59 v) (h : DataW.Trod enc Tryd.prog W base spare held 59 v dd p) :
    ∃ l h : Int, v = .agg #[.int .i64 l, .int .i64 h] := by
  obtain ⟨cs, rfl, _⟩ := okWide_struct Tryd.underlying59 hv
  obtain ⟨fuel, hf⟩ := h
  obtain ⟨l, h, hy⟩ := st_cells hf
  refine ⟨l, h, ?_⟩
  have : cs.toList = [.int .i64 l, .int .i64 h] := by simpa [Value.cells] using hy
  rw [← Array.toArray_toList (xs := cs), this]
end
end Go.Proofs.YtkffggnajoohfaaDoor.Op
