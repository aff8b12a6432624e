/-
  The program's small helpers of a step: an element of the context, a cell loaded, a cell stored, the next index.
-/
import Derived.Test.YtilnegmjnbffhaaDoorOwnM
import Derived.WalkLawsBesides
import Derived.StillTailTactics
namespace Go.Proofs.YtilnegmjnbffhaaDoor
open Go.ChangeShapes Go.WideShapes Go.ChangeAt Go.RowKit

/-- a fault as a step panics with it -/
def faultC (f : Int) : List PanicEntry := [{ v := .iface 107 (.int .i64 f), recovered := false }]

set_option maxRecDepth 100000 in
set_option maxHeartbeats 1000000 in
theorem elementAt_ok (cb co cc j : Nat) (v : Int) (w : World) (hj : j < 8) (hc : w.cell? ⟨cb, co + j, none⟩ = some (.int .i64 v)) :
    Calls Tryd.prog 75 #[.slice (some ⟨cb, co, none⟩) 8 cc, .int .i64 j] w fun e w' => e = .returned (.int .i64 v) ∧ w = w' := by
  go_enter Tryd.func75, Tryd.ntmps75
  go_wp2
  go_ret
  exact ⟨rfl, rfl⟩
set_option maxRecDepth 100000 in
set_option maxHeartbeats 1000000 in
theorem elementAt_fault (C : Option Addr) (cn cc : Nat) (n : Int) (w : World) (h : 8 ≤ n) :
    Calls Tryd.prog 75 #[.slice C cn cc, .int .i64 n] w fun e w' => e = .panicked (faultC 1) ∧ w = w' := by
  go_enter Tryd.func75, Tryd.ntmps75
  go_wp2
  exact ⟨rfl, rfl, rfl⟩

set_option maxRecDepth 100000 in
set_option maxHeartbeats 1000000 in
theorem loadCell_far (nb : Nat) (n : Int) (w : World) (h : 16 ≤ n) :
    Calls Tryd.prog 76 #[.pointer (some ⟨nb, 0, none⟩), .int .i64 n] w fun e w' => e = .panicked (faultC 2) ∧ w = w' := by
  go_enter Tryd.func76, Tryd.ntmps76
  go_wp2
  exact ⟨rfl, rfl, rfl⟩
set_option maxRecDepth 100000 in
set_option maxHeartbeats 1000000 in
theorem loadCell_unset (nb i g3 c3 : Nat) (w : World) (hi : i < 16) (k3 : w.cell? ⟨nb, 3, none⟩ = some (.slice (some ⟨g3, 0, none⟩) 16 c3)) (t2 : w.cell? ⟨g3, i, none⟩ = some (.bool false)) :
    Calls Tryd.prog 76 #[.pointer (some ⟨nb, 0, none⟩), .int .i64 i] w fun e w' => e = .panicked (faultC 3) ∧ w = w' := by
  go_enter Tryd.func76, Tryd.ntmps76
  go_wp2
  exact ⟨rfl, rfl, rfl⟩
set_option maxRecDepth 100000 in
set_option maxHeartbeats 1000000 in
theorem loadCell_ok (nb i g2 g3 c2 c3 : Nat) (v : Int) (w : World) (hi : i < 16) (k2 : w.cell? ⟨nb, 2, none⟩ = some (.slice (some ⟨g2, 0, none⟩) 16 c2)) (k3 : w.cell? ⟨nb, 3, none⟩ = some (.slice (some ⟨g3, 0, none⟩) 16 c3)) (t1 : w.cell? ⟨g2, i, none⟩ = some (.int .i64 v)) (t2 : w.cell? ⟨g3, i, none⟩ = some (.bool true)) :
    Calls Tryd.prog 76 #[.pointer (some ⟨nb, 0, none⟩), .int .i64 i] w fun e w' => e = .returned (.int .i64 v) ∧ w = w' := by
  go_enter Tryd.func76, Tryd.ntmps76
  go_wp2
  go_ret
  exact ⟨rfl, rfl⟩
set_option maxRecDepth 100000 in
set_option maxHeartbeats 1000000 in
theorem storeCell_far (nb : Nat) (n v : Int) (w : World) (h : 16 ≤ n) :
    Calls Tryd.prog 77 #[.pointer (some ⟨nb, 0, none⟩), .int .i64 n, .int .i64 v] w fun e w' => e = .panicked (faultC 2) ∧ w = w' := by
  go_enter Tryd.func77, Tryd.ntmps77
  go_wp2
  exact ⟨rfl, rfl, rfl⟩
set_option maxRecDepth 100000 in
set_option maxHeartbeats 1000000 in
theorem storeCell_ok (nb i g2 g3 c2 c3 : Nat) (v : Int) (u1 u2 : Value) (w : World) (hi : i < 16) (ne2 : nb ≠ g2) (ne3 : nb ≠ g3) (ne23 : g2 ≠ g3) (k2 : w.cell? ⟨nb, 2, none⟩ = some (.slice (some ⟨g2, 0, none⟩) 16 c2)) (k3 : w.cell? ⟨nb, 3, none⟩ = some (.slice (some ⟨g3, 0, none⟩) 16 c3))
    (t1 : w.cell? ⟨g2, i, none⟩ = some u1) (t2 : w.cell? ⟨g3, i, none⟩ = some u2) (f1 : w.frozen? ⟨g2, i, none⟩ = false) (f2 : w.frozen? ⟨g3, i, none⟩ = false) :
    Calls Tryd.prog 77 #[.pointer (some ⟨nb, 0, none⟩), .int .i64 i, .int .i64 v] w fun e w' => e = .returned (.tuple #[]) ∧ w' = (w.setCell ⟨g2, i, none⟩ (.int .i64 v)).setCell ⟨g3, i, none⟩ (.bool true) := by
  go_enter Tryd.func77, Tryd.ntmps77
  go_wp2
  go_end0
  exact ⟨rfl, rfl⟩

set_option maxRecDepth 100000 in
set_option maxHeartbeats 1000000 in
theorem isTaken_no (k o i t d s : Int) (R : Option Addr) (rn rc : Nat) (w : World) (h8 : (k == 8) = false) (h9 : (k == 9) = false) (h10 : (k == 10) = false) :
    Calls Tryd.prog 83 #[.agg #[.int .i64 k, .int .i64 o, .int .i64 d, .int .i64 s, .int .i64 i, .int .i64 t], .slice R rn rc] w fun e w' => e = .returned (.bool false) ∧ Below w.heap.size w w' := by
  go_enter Tryd.func83, Tryd.ntmps83
  go_wp2
  go_ret
  exact ⟨rfl, below1 _ _⟩
set_option maxRecDepth 100000 in
set_option maxHeartbeats 1000000 in
theorem isTaken_jump (o i t d s : Int) (R : Option Addr) (rn rc : Nat) (w : World) :
    Calls Tryd.prog 83 #[.agg #[.int .i64 8, .int .i64 o, .int .i64 d, .int .i64 s, .int .i64 i, .int .i64 t], .slice R rn rc] w fun e w' => e = .returned (.bool true) ∧ Below w.heap.size w w' := by
  go_enter Tryd.func83, Tryd.ntmps83
  go_wp2
  go_ret
  exact ⟨rfl, below1 _ _⟩
set_option maxRecDepth 100000 in
set_option maxHeartbeats 1000000 in
theorem isTaken_eq (o i t : Int) (d s g1 c1 : Nat) (rd rs : Int) (w : World) (hd : d < 6) (hs : s < 6) (hg : g1 < w.heap.size) (r1 : w.cell? ⟨g1, d, none⟩ = some (.int .i64 rd)) (r2 : w.cell? ⟨g1, s, none⟩ = some (.int .i64 rs)) :
    Calls Tryd.prog 83 #[.agg #[.int .i64 9, .int .i64 o, .int .i64 d, .int .i64 s, .int .i64 i, .int .i64 t], .slice (some ⟨g1, 0, none⟩) 6 c1] w fun e w' => e = .returned (.bool (rd == rs)) ∧ Below w.heap.size w w' := by
  go_enter Tryd.func83, Tryd.ntmps83
  go_wp2_with fail
  go_quiet (fail)
  go_wp2
  go_ret
  exact ⟨rfl, bdrewN (below1 _ _) _⟩
set_option maxRecDepth 100000 in
set_option maxHeartbeats 1000000 in
theorem isTaken_less (o i t : Int) (d s g1 c1 : Nat) (rd rs : Int) (w : World) (hd : d < 6) (hs : s < 6) (hg : g1 < w.heap.size) (r1 : w.cell? ⟨g1, d, none⟩ = some (.int .i64 rd)) (r2 : w.cell? ⟨g1, s, none⟩ = some (.int .i64 rs)) :
    Calls Tryd.prog 83 #[.agg #[.int .i64 10, .int .i64 o, .int .i64 d, .int .i64 s, .int .i64 i, .int .i64 t], .slice (some ⟨g1, 0, none⟩) 6 c1] w fun e w' => e = .returned (.bool (decide (rd < rs))) ∧ Below w.heap.size w w' := by
  go_enter Tryd.func83, Tryd.ntmps83
  go_wp2_with fail
  go_quiet (fail)
  go_wp2
  go_ret
  exact ⟨rfl, bdrewN (below1 _ _) _⟩

set_option maxRecDepth 100000 in
set_option maxHeartbeats 1000000 in
theorem nextAt_of (k o d s i t : Int) (nb g1 c1 at_ : Nat) (b : Bool) (w : World) (hnb : nb < w.heap.size) (hat : at_ < 20) (ht : 0 ≤ t ∧ t ≤ 19) (k0 : w.cell? ⟨nb, 0, none⟩ = some (.int .i64 at_)) (k1 : w.cell? ⟨nb, 1, none⟩ = some (.slice (some ⟨g1, 0, none⟩) 6 c1))
    (hT : ∀ W, Below w.heap.size w W → Calls Tryd.prog 83 #[.agg #[.int .i64 k, .int .i64 o, .int .i64 d, .int .i64 s, .int .i64 i, .int .i64 t], .slice (some ⟨g1, 0, none⟩) 6 c1] W fun e w' => e = .returned (.bool b) ∧ Below W.heap.size W w') :
    Calls Tryd.prog 78 #[.agg #[.int .i64 k, .int .i64 o, .int .i64 d, .int .i64 s, .int .i64 i, .int .i64 t], .pointer (some ⟨nb, 0, none⟩)] w fun e w' => e = .returned (.int .i64 (if b = true then (at_ : Int) + t + 1 else (at_ : Int) + 1)) ∧ Below w.heap.size w w' := by
  have HT := Lib.hid hT
  clear hT
  have hb0 := below1 w (.cells #[.int .i64 k, .int .i64 o, .int .i64 d, .int .i64 s, .int .i64 i, .int .i64 t] 67)
  have KS : Hid (Blk (w.alloc (.cells #[.int .i64 k, .int .i64 o, .int .i64 d, .int .i64 s, .int .i64 i, .int .i64 t] 67)) w.heap.size 67 [.int .i64 k, .int .i64 o, .int .i64 d, .int .i64 s, .int .i64 i, .int .i64 t]) := Lib.hid (heap_alloc_new w _)
  have B0 := Lib.hid hb0
  clear hb0
  go_enter Tryd.func78, Tryd.ntmps78
  go_wp2_with fail
  refine wp_region_still_tail 5 (by kernel_rfl) (by kernel_rfl) ?_
  simp only [List.take_succ_cons, List.take_zero, List.drop_succ_cons, List.drop_zero]
  change wpStill _ _ (World.drew (w.alloc (.cells #[.int .i64 k, .int .i64 o, .int .i64 d, .int .i64 s, .int .i64 i, .int .i64 t] 67))) _ _ _
  repeat still_step
  refine wpStill_nil ?_
  change wpList _ _ _ _ _ (World.drew (w.alloc (.cells #[.int .i64 k, .int .i64 o, .int .i64 d, .int .i64 s, .int .i64 i, .int .i64 t] 67)))
  have B1 : Hid (Below w.heap.size w (World.drew (w.alloc (.cells #[.int .i64 k, .int .i64 o, .int .i64 d, .int .i64 s, .int .i64 i, .int .i64 t] 67)))) := Lib.hid B0.out.drew
  have KS1 : Hid (Blk (World.drew (w.alloc (.cells #[.int .i64 k, .int .i64 o, .int .i64 d, .int .i64 s, .int .i64 i, .int .i64 t] 67))) w.heap.size 67 [.int .i64 k, .int .i64 o, .int .i64 d, .int .i64 s, .int .i64 i, .int .i64 t]) := KS
  clear B0 KS
  generalize World.drew (w.alloc (.cells #[.int .i64 k, .int .i64 o, .int .i64 d, .int .i64 s, .int .i64 i, .int .i64 t] 67)) = w1 at B1 KS1 ⊢
  go_wp2_with fail
  refine (HT.out _ B1.out).mono ?_
  rintro e w2 ⟨rfl, hb2⟩
  have B2 := Lib.hid (Below.tr B1.out hb2)
  have KS2 := Lib.hid (KS1.out.below hb2)
  clear hb2
  have x5 : w2.cell? ⟨w.heap.size, 5, none⟩ = some (.int .i64 t) := KS2.out.there rfl
  have y0 : w2.cell? ⟨nb, 0, none⟩ = some (.int .i64 at_) := ((bcell B2.out).1 nb 0 hnb).trans k0
  clear k0 k1
  cases b
  · go_wp2
    go_ret
    exact ⟨rfl, B2.out⟩
  · go_wp2_with fail
    go_quiet (fail)
    go_wp2
    go_ret
    exact ⟨rfl, bdrewN B2.out _⟩
end Go.Proofs.YtilnegmjnbffhaaDoor
