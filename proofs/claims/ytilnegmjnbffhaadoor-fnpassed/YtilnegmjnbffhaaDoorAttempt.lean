/-
  The deferred call that recovers a fault, and the attempt of a step.
-/
import Derived.Test.YtilnegmjnbffhaaDoorExec3
import Derived.Test.YtilnegmjnbffhaaDoorExec4
import Derived.Defers
import Derived.Recover
import Derived.Laws.Pointers
namespace Go.Proofs.YtilnegmjnbffhaaDoor
open Go.ChangeShapes Go.WideShapes Go.ChangeAt Go.RowKit

theorem as_fault (v : Value) (w : World) : (Instr.typeAssert (.iface 107 v) 20 107 true).run Tryd.prog w = .ok (.tuple #[v, .bool true]) w := by kernel_rfl
theorem as_none (w : World) : (Instr.typeAssert .nilIface 20 107 true).run Tryd.prog w = .ok (.tuple #[.int .i64 0, .bool false]) w := by kernel_rfl

set_option maxRecDepth 100000 in
set_option maxHeartbeats 1000000 in
theorem catch_panicking (p q : Nat) (f x : Int) (y : Bool) (w : World) (hne : p ≠ q) (hc : w.cell? ⟨p, 0, none⟩ = some (.int .i64 x)) (hz : w.frozen? ⟨p, 0, none⟩ = false) (hc2 : w.cell? ⟨q, 0, none⟩ = some (.bool y)) (hz2 : w.frozen? ⟨q, 0, none⟩ = false) :
    CallsD Tryd.prog 66 #[.pointer (some ⟨p, 0, none⟩), .pointer (some ⟨q, 0, none⟩)] (.panicking (faultC f)) w fun e u' w' =>
      e = .returned (.tuple #[]) ∧ u' = .panicking [{ v := .iface 107 (.int .i64 f), recovered := true }] ∧ w' = (w.setCell ⟨p, 0, none⟩ (.int .i64 f)).setCell ⟨q, 0, none⟩ (.bool true) := by
  have h1 := as_fault
  refine callsD_of_wpS Tryd.func66 rfl fun c₀ cs hu => ?_
  unfold faultC at hu
  apply wpS_seq
  apply wpS_region
  simp [wpOpsS, go_sem, recoverD, hu, Tryd.ntmps66, Exit.thenS, h1]
  apply wpS_seq
  apply wpS_region
  simp [wpOpsS, go_sem, Exit.thenS, Array.replicate]
  refine wpS_cond (t := true) (by simp [Act.eval]) ?_
  simp only [if_true]
  apply wpS_region
  simp [wpOpsS, go_sem, hc, hz, hc2, hz2, bodyPostS, results, Tryd.results66]
set_option maxRecDepth 100000 in
set_option maxHeartbeats 1000000 in
theorem catch_idle (p q : Nat) (w : World) :
    CallsD Tryd.prog 66 #[.pointer (some ⟨p, 0, none⟩), .pointer (some ⟨q, 0, none⟩)] .returning w fun e u' w' => e = .returned (.tuple #[]) ∧ u' = .returning ∧ w' = w := by
  have h1 := as_none
  refine callsD_of_wpS Tryd.func66 rfl fun c₀ cs hu => ?_
  apply wpS_seq
  apply wpS_region
  simp [wpOpsS, go_sem, recoverD, hu, Tryd.ntmps66, Exit.thenS, h1]
  apply wpS_seq
  apply wpS_region
  simp [wpOpsS, go_sem, Exit.thenS, Array.replicate]
  refine wpS_cond (t := false) (by simp [Act.eval]) ?_
  simp only [Bool.false_eq_true, if_false]
  refine wpS_of_wp (wp_skip ?_)
  cases c₀
  simp_all [bodyPostS, results, Tryd.results66]

set_option maxRecDepth 100000 in
set_option maxHeartbeats 2000000 in
theorem attempt_ok (k o d s i t : Int) (C : Option Addr) (cn cc base nb g1 g2 g3 c1 c2 c3 : Nat) (r : Mch × Int × Bool) (w : World) (hnb : nb < w.heap.size) (hg : g1 < w.heap.size ∧ g2 < w.heap.size ∧ g3 < w.heap.size)
    (hE : ∀ W, Below w.heap.size w W → Calls Tryd.prog 67 #[.agg #[.int .i64 k, .int .i64 o, .int .i64 d, .int .i64 s, .int .i64 i, .int .i64 t], .slice C cn cc, .pointer (some ⟨nb, 0, none⟩)] W (GaveEx W base nb g1 g2 g3 c1 c2 c3 r)) :
    Calls Tryd.prog 59 #[.agg #[.int .i64 k, .int .i64 o, .int .i64 d, .int .i64 s, .int .i64 i, .int .i64 t], .slice C cn cc, .pointer (some ⟨nb, 0, none⟩)] w fun e w' => e = .returned (.tuple #[.bool r.2.2, .int .i64 0, .bool true]) ∧
      Blk w' nb 73 [.int .i64 r.1.a, .slice (some ⟨g1, 0, none⟩) 6 c1, .slice (some ⟨g2, 0, none⟩) 16 c2, .slice (some ⟨g3, 0, none⟩) 16 c3] ∧ OwnM w' base g1 g2 g3 c1 c2 c3 r.1 ∧ Kept w w' (four nb g1 g2 g3) := by
  have hmf : ∀ (fn : Fn) (first cap : Array Value) (w : World), (Instr.makeFunc fn first cap).run Tryd.prog w = .ok (.func fn first cap) w := fun _ _ _ _ => rfl
  have HE := Lib.hid hE
  clear hE
  have B0 := Lib.hid (below3 w (.cells #[.int .i64 k, .int .i64 o, .int .i64 d, .int .i64 s, .int .i64 i, .int .i64 t] 67) (.cells #[.int .i64 0] 3) (.cells #[.bool false] 4))
  have KC : Hid (Blk (((w.alloc (.cells #[.int .i64 k, .int .i64 o, .int .i64 d, .int .i64 s, .int .i64 i, .int .i64 t] 67)).alloc (.cells #[.int .i64 0] 3)).alloc (.cells #[.bool false] 4)) (w.heap.size + 1) 3 [.int .i64 0]) := Lib.hid (n31 w _ _ _)
  have KO : Hid (Blk (((w.alloc (.cells #[.int .i64 k, .int .i64 o, .int .i64 d, .int .i64 s, .int .i64 i, .int .i64 t] 67)).alloc (.cells #[.int .i64 0] 3)).alloc (.cells #[.bool false] 4)) (w.heap.size + 1 + 1) 4 [.bool false]) := Lib.hid (n32 w _ _ _)
  go_enter_defers Tryd.func59, Tryd.ntmps59
  go_wp2_with fail
  generalize ((w.alloc (.cells #[.int .i64 k, .int .i64 o, .int .i64 d, .int .i64 s, .int .i64 i, .int .i64 t] 67)).alloc (.cells #[.int .i64 0] 3)).alloc (.cells #[.bool false] 4) = W at B0 KC KO ⊢
  refine (HE.out W B0.out).mono ?_
  rintro e w1 ⟨rfl, kb, om, kp⟩
  have KB1 := Lib.hid kb
  have O1 := Lib.hid om
  have NN : Hid (¬ four nb g1 g2 g3 (w.heap.size + 1) ∧ ¬ four nb g1 g2 g3 (w.heap.size + 1 + 1)) := Lib.hid (by unfold four; omega)
  have P1 := Lib.hid ((Kept.of_below (S := four nb g1 g2 g3) B0.out).trans kp)
  have KC1 := Lib.hid (kp.blk KC.out NN.out.1)
  have KO1 := Lib.hid (kp.blk KO.out NN.out.2)
  clear kb om kp KC KO
  have y0 : w1.cell? ⟨w.heap.size + 1, 0, none⟩ = some (.int .i64 0) := KC1.out.there rfl
  have y1 : w1.cell? ⟨w.heap.size + 1 + 1, 0, none⟩ = some (.bool false) := KO1.out.there rfl
  have z0 := KC1.out.frozen 0
  have z1 := KO1.out.frozen 0
  go_wp2
  refine leaves_cons (f := 66) (args := #[.pointer (some ⟨w.heap.size + 1, 0, none⟩), .pointer (some ⟨w.heap.size + 1 + 1, 0, none⟩)]) (by simp) (by simp [go_sem]) ?_
  refine (catch_idle _ _ _).mono ?_
  rintro e u' w'' ⟨rfl, rfl, rfl⟩
  refine ⟨.tuple #[.bool r.2.2, .int .i64 0, .bool true], by simp [results, Tryd.results59, go_sem, y0, y1], rfl, ?_, ?_, ?_⟩
  · exact (KB1.out.far (by omega) _).far (by omega) _
  · exact (O1.out.far _ (by omega) (by omega) (by omega)).far _ (by omega) (by omega) (by omega)
  · exact ⟨P1.out.os, P1.out.tape, P1.out.output, by simpa [World.setCell] using P1.out.size, fun q hq hn => ((Below.heap_setCell _ _ _ _ (by simp; omega)).trans (Below.heap_setCell _ _ _ _ (by simp; omega))).trans (P1.out.block q hq hn)⟩

set_option maxRecDepth 100000 in
set_option maxHeartbeats 2000000 in
theorem attempt_fault (k o d s i t : Int) (C : Option Addr) (cn cc nb : Nat) (f : Int) (w : World)
    (hE : ∀ W, Below w.heap.size w W → Calls Tryd.prog 67 #[.agg #[.int .i64 k, .int .i64 o, .int .i64 d, .int .i64 s, .int .i64 i, .int .i64 t], .slice C cn cc, .pointer (some ⟨nb, 0, none⟩)] W fun e w' => e = .panicked (faultC f) ∧ Below W.heap.size W w') :
    Calls Tryd.prog 59 #[.agg #[.int .i64 k, .int .i64 o, .int .i64 d, .int .i64 s, .int .i64 i, .int .i64 t], .slice C cn cc, .pointer (some ⟨nb, 0, none⟩)] w fun e w' => e = .returned (.tuple #[.bool false, .int .i64 f, .bool true]) ∧ Below w.heap.size w w' := by
  have hmf : ∀ (fn : Fn) (first cap : Array Value) (w : World), (Instr.makeFunc fn first cap).run Tryd.prog w = .ok (.func fn first cap) w := fun _ _ _ _ => rfl
  have HE := Lib.hid hE
  clear hE
  have B0 := Lib.hid (below3 w (.cells #[.int .i64 k, .int .i64 o, .int .i64 d, .int .i64 s, .int .i64 i, .int .i64 t] 67) (.cells #[.int .i64 0] 3) (.cells #[.bool false] 4))
  have KC : Hid (Blk (((w.alloc (.cells #[.int .i64 k, .int .i64 o, .int .i64 d, .int .i64 s, .int .i64 i, .int .i64 t] 67)).alloc (.cells #[.int .i64 0] 3)).alloc (.cells #[.bool false] 4)) (w.heap.size + 1) 3 [.int .i64 0]) := Lib.hid (n31 w _ _ _)
  have KO : Hid (Blk (((w.alloc (.cells #[.int .i64 k, .int .i64 o, .int .i64 d, .int .i64 s, .int .i64 i, .int .i64 t] 67)).alloc (.cells #[.int .i64 0] 3)).alloc (.cells #[.bool false] 4)) (w.heap.size + 1 + 1) 4 [.bool false]) := Lib.hid (n32 w _ _ _)
  go_enter_defers Tryd.func59, Tryd.ntmps59
  go_wp2_with fail
  generalize ((w.alloc (.cells #[.int .i64 k, .int .i64 o, .int .i64 d, .int .i64 s, .int .i64 i, .int .i64 t] 67)).alloc (.cells #[.int .i64 0] 3)).alloc (.cells #[.bool false] 4) = W at B0 KC KO ⊢
  refine (HE.out W B0.out).mono ?_
  rintro e w1 ⟨rfl, hb1⟩
  have B1 := Lib.hid (Below.tr B0.out hb1)
  have KC1 := Lib.hid (KC.out.below hb1)
  have KO1 := Lib.hid (KO.out.below hb1)
  clear hb1 KC KO
  have y0 : w1.cell? ⟨w.heap.size + 1, 0, none⟩ = some (.int .i64 0) := KC1.out.there rfl
  have y1 : w1.cell? ⟨w.heap.size + 1 + 1, 0, none⟩ = some (.bool false) := KO1.out.there rfl
  have z0 := KC1.out.frozen 0
  have z1 := KO1.out.frozen 0
  go_wp2
  refine leaves_cons (f := 66) (args := #[.pointer (some ⟨w.heap.size + 1, 0, none⟩), .pointer (some ⟨w.heap.size + 1 + 1, 0, none⟩)]) (by simp) (by simp [go_sem]) ?_
  refine (catch_panicking _ _ f 0 false _ (by omega) y0 z0 y1 z1).mono ?_
  rintro e u' w'' ⟨rfl, rfl, rfl⟩
  refine ⟨.tuple #[.bool false, .int .i64 f, .bool true], by simp [results, Tryd.results59, go_sem, y0, y1], rfl, ?_⟩
  exact (B1.out.setCell (by simp) _).setCell (by simp; omega) _
end Go.Proofs.YtilnegmjnbffhaaDoor
