/-
  Drawn arguments: intervals, numbers.
-/
import Derived.Test.YtkffggnajoohfaaDoorStD1
namespace Go.Proofs.YtkffggnajoohfaaDoor.Op
open Go.Proofs.YtkffggnajoohfaaDoor
open Go.ChangeShapes Go.WideShapes Go.ChangeAt Go.RowKit

theorem shut2n {P : Program} {fn : Func} {a : Act} {w W : World} {g g' : Nat} {x y x' y' : Int} (k : SB W g x y) (k' : SB W g' x' y') (hb : Below w.heap.size w W)
    (hr : W.cell? ⟨g, 0, none⟩ = some (.int .i64 x) → W.cell? ⟨g, 1, none⟩ = some (.int .i64 y) → W.cell? ⟨g', 0, none⟩ = some (.int .i64 x') → W.cell? ⟨g', 1, none⟩ = some (.int .i64 y') →
      (results fn a.tmps).run P W = .ok (.tuple #[.agg #[.int .i64 x, .int .i64 y], .agg #[.int .i64 x', .int .i64 y']]) W)
    (hd : a.defers = [] := by rfl) : bodyPost P fn (Drew2 w) .ret a W :=
  bodyPost_ret (hr k.c0 k.c1 k'.c0 k'.c1) hd ⟨x, y, x', y', rfl, hb⟩
/-- an operation and two drawn intervals; an interval and a number -/
def DrewO2 (w : World) (e : Ending) (w' : World) : Prop := ∃ op al ah bl bh : Int, e = .returned (.tuple #[.int .i64 op, .agg #[.int .i64 al, .int .i64 ah], .agg #[.int .i64 bl, .int .i64 bh]]) ∧ Below w.heap.size w w'
def DrewSN (w : World) (e : Ending) (w' : World) : Prop := ∃ al ah n : Int, e = .returned (.tuple #[.agg #[.int .i64 al, .int .i64 ah], .int .i64 n]) ∧ Below w.heap.size w w'
theorem cur_over (w : World) (a0 : Option Addr) (len cap : Nat) (h : Bytes w a0 len) (x y : Int) (W : World) (hW : W = w.alloc (sO x y)) : Cur (W.alloc (.cells #[.slice a0 len cap, .int .i64 0, .int .u64 0] 66)) (w.heap.size + 1) 0 := by
  subst hW
  have := Cur.new (cap := cap) (h.below (below1 w (sO x y)))
  simpa using this
theorem cur_over2 (w : World) (a0 : Option Addr) (len cap : Nat) (h : Bytes w a0 len) (x y x' y' : Int) : Cur (((w.alloc (sO x y)).alloc (sO x' y')).alloc (.cells #[.slice a0 len cap, .int .i64 0, .int .u64 0] 66)) (w.heap.size + 1 + 1) 0 := by
  have := Cur.new (cap := cap) (h.below (below2 w (sO x y) (sO x' y')))
  simpa using this

set_option maxRecDepth 100000 in
set_option maxHeartbeats 4000000 in
theorem drawDoSt_any (a0 : Option Addr) (len cap : Nat) (w : World) (h : Hid (Bytes w a0 len)) :
    Calls Tryd.prog 19 #[.slice a0 len cap] w (DrewO2 w) := by
  have N0 := two_news w 0 0 0 0
  have C0 : Hid (Cur (((w.alloc (.cells #[.int .i64 0, .int .i64 0] 46)).alloc (.cells #[.int .i64 0, .int .i64 0] 46)).alloc (.cells #[.slice a0 len cap, .int .i64 0, .int .u64 0] 66)) (w.heap.size + 1 + 1) 0) := Lib.hid (cur_over2 w a0 len cap h.out 0 0 0 0)
  have R0 : Hid (SB (((w.alloc (.cells #[.int .i64 0, .int .i64 0] 46)).alloc (.cells #[.int .i64 0, .int .i64 0] 46)).alloc (.cells #[.slice a0 len cap, .int .i64 0, .int .u64 0] 66)) w.heap.size 0 0) := Lib.hid (N0.out.1.below (below1 _ _))
  have T0 : Hid (SB (((w.alloc (.cells #[.int .i64 0, .int .i64 0] 46)).alloc (.cells #[.int .i64 0, .int .i64 0] 46)).alloc (.cells #[.slice a0 len cap, .int .i64 0, .int .u64 0] 66)) (w.heap.size + 1) 0 0) := Lib.hid (N0.out.2.1.below (below1 _ _))
  have B0 : Hid (Below w.heap.size w (((w.alloc (.cells #[.int .i64 0, .int .i64 0] 46)).alloc (.cells #[.int .i64 0, .int .i64 0] 46)).alloc (.cells #[.slice a0 len cap, .int .i64 0, .int .u64 0] 66))) := Lib.hid (Below.tr N0.out.2.2 (below1 _ _))
  clear N0 h
  go_enter Tryd.func19, Tryd.ntmps19
  go_wp2_with fail
  generalize (((w.alloc (.cells #[.int .i64 0, .int .i64 0] 46)).alloc (.cells #[.int .i64 0, .int .i64 0] 46)).alloc (.cells #[.slice a0 len cap, .int .i64 0, .int .u64 0] 66)) = v0 at C0 R0 T0 B0 ⊢
  refine (pick_any (w.heap.size + 1 + 1) 0 10 _ C0 (by omega) (by omega) (by omega)).mono ?_
  rintro e v1 ⟨n1, ⟨a1, b1⟩, rfl, hc, hg⟩
  have C1 : Hid (Cur v1 (w.heap.size + 1 + 1) 2) := Lib.hid (hc.mono (by omega))
  have B1 := Lib.hid (B0.out.grown hg B0.out.size (fun k hk => by cases hk; omega))
  have R1 := Lib.hid (SB.grown R0.out hg (by omega))
  have T1 := Lib.hid (SB.grown T0.out hg (by omega))
  clear hc hg
  go_wp2_with fail
  refine (pick_any (w.heap.size + 1 + 1) 2 20 _ C1 (by omega) (by omega) (by omega)).mono ?_
  rintro e v2 ⟨n2, ⟨a2, b2⟩, rfl, hc, hg⟩
  have C2 : Hid (Cur v2 (w.heap.size + 1 + 1) 4) := Lib.hid (hc.mono (by omega))
  have B2 := Lib.hid (B1.out.grown hg B1.out.size (fun k hk => by cases hk; omega))
  have R2 := Lib.hid (SB.grown R1.out hg (by omega))
  have T2 := Lib.hid (SB.grown T1.out hg (by omega))
  clear hc hg
  go_wp2_with fail
  refine (stretch_any (w.heap.size + 1 + 1) 4 _ C2 (by omega)).mono ?_
  rintro e v3 ⟨al, ah, rfl, hc, hg⟩
  have C3 : Hid (Cur v3 (w.heap.size + 1 + 1) 104) := Lib.hid (hc.mono (by omega))
  have B3 := Lib.hid (B2.out.grown hg B2.out.size (fun k hk => by cases hk; omega))
  have R3 := Lib.hid (SB.grown R2.out hg (by omega))
  have T3 := Lib.hid (SB.grown T2.out hg (by omega))
  clear hc hg
  go_wp2_with fail
  refine (stretch_any (w.heap.size + 1 + 1) 104 _ C3 (by omega)).mono ?_
  rintro e v4 ⟨bl, bh, rfl, hc, hg⟩
  have C4 : Hid (Cur v4 (w.heap.size + 1 + 1) 204) := Lib.hid (hc.mono (by omega))
  have B4 := Lib.hid (B3.out.grown hg B3.out.size (fun k hk => by cases hk; omega))
  have R4 := Lib.hid (SB.grown R3.out hg (by omega))
  have T4 := Lib.hid (SB.grown T3.out hg (by omega))
  clear hc hg
  have r0 := R4.out.c0
  have r1 := R4.out.c1
  have rf0 := R4.out.f 0
  have rf1 := R4.out.f 1
  have t0 := T4.out.c0
  have t1 := T4.out.c1
  have tf0 := T4.out.f 0
  have tf1 := T4.out.f 1
  go_wp2
  have K1 := SB.far2 (u := .int .i64 bl) (v := .int .i64 bh) (i := 0) (j := 1) (SB.set2 (x := al) (y := ah) R4.out) (show w.heap.size ≠ w.heap.size + 1 by omega)
  have K2 := SB.set2 (x := bl) (y := bh) (SB.far2 (u := .int .i64 al) (v := .int .i64 ah) (i := 0) (j := 1) T4.out (show w.heap.size + 1 ≠ w.heap.size by omega))
  have c0 := K1.c0
  have c1 := K1.c1
  have c2 := K2.c0
  have c3 := K2.c1
  exact bodyPost_ret (v := .tuple #[.int .i64 _, .agg #[.int .i64 al, .int .i64 ah], .agg #[.int .i64 bl, .int .i64 bh]]) (by simp [results, Tryd.results19, go_sem, c0, c1, c2, c3]; rfl) rfl ⟨_, al, ah, bl, bh, rfl, belowS2 (belowS2 B4.out (by omega)) (by omega)⟩
set_option maxRecDepth 100000 in
set_option maxHeartbeats 4000000 in
theorem drawInSt_any (a0 : Option Addr) (len cap : Nat) (w : World) (h : Hid (Bytes w a0 len)) :
    Calls Tryd.prog 28 #[.slice a0 len cap] w (DrewSN w) := by
  have N0 := one_news w 0 0
  have C0 : Hid (Cur ((w.alloc (.cells #[.int .i64 0, .int .i64 0] 46)).alloc (.cells #[.slice a0 len cap, .int .i64 0, .int .u64 0] 66)) (w.heap.size + 1) 0) := Lib.hid (cur_over w a0 len cap h.out 0 0 _ rfl)
  have R0 : Hid (SB ((w.alloc (.cells #[.int .i64 0, .int .i64 0] 46)).alloc (.cells #[.slice a0 len cap, .int .i64 0, .int .u64 0] 66)) w.heap.size 0 0) := Lib.hid (N0.out.1.below (below1 _ _))
  have B0 : Hid (Below w.heap.size w ((w.alloc (.cells #[.int .i64 0, .int .i64 0] 46)).alloc (.cells #[.slice a0 len cap, .int .i64 0, .int .u64 0] 66))) := Lib.hid (Below.tr N0.out.2 (below1 _ _))
  clear N0 h
  go_enter Tryd.func28, Tryd.ntmps28
  go_wp2_with fail
  generalize ((w.alloc (.cells #[.int .i64 0, .int .i64 0] 46)).alloc (.cells #[.slice a0 len cap, .int .i64 0, .int .u64 0] 66)) = v0 at C0 R0 B0 ⊢
  refine (stretch_any (w.heap.size + 1) 0 _ C0 (by omega)).mono ?_
  rintro e v1 ⟨al, ah, rfl, hc, hg⟩
  have C1 : Hid (Cur v1 (w.heap.size + 1) 100) := Lib.hid (hc.mono (by omega))
  have B1 := Lib.hid (B0.out.grown hg B0.out.size (fun k hk => by cases hk; omega))
  have R1 := Lib.hid (SB.grown R0.out hg (by omega))
  clear hc hg
  go_wp2_with fail
  refine (rawWord_any (w.heap.size + 1) 100 _ C1 (by omega)).mono ?_
  rintro e v2 ⟨n, _, rfl, hc, hg⟩
  have C2 : Hid (Cur v2 (w.heap.size + 1) 114) := Lib.hid (hc.mono (by omega))
  have B2 := Lib.hid (B1.out.grown hg B1.out.size (fun k hk => by cases hk; omega))
  have R2 := Lib.hid (SB.grown R1.out hg (by omega))
  clear hc hg
  have r0 := R2.out.c0
  have r1 := R2.out.c1
  have rf0 := R2.out.f 0
  have rf1 := R2.out.f 1
  go_wp2
  have K1 := SB.set2 (x := al) (y := ah) R2.out
  have c0 := K1.c0
  have c1 := K1.c1
  exact bodyPost_ret (v := .tuple #[.agg #[.int .i64 al, .int .i64 ah], .int .i64 n]) (by simp [results, Tryd.results28, go_sem, c0, c1]) rfl ⟨al, ah, n, rfl, belowS2 B2.out (by omega)⟩
end Go.Proofs.YtkffggnajoohfaaDoor.Op
