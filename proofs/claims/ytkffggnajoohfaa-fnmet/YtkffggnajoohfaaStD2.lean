/-
  Drawn arguments: intervals, numbers.
-/
import Derived.Test.YtkffggnajoohfaaStD1
namespace Go.Proofs.Ytkffggnajoohfaa.Op
open Go.Proofs.Ytkffggnajoohfaa
open Go.ChangeShapes Go.WideShapes Go.ChangeAt Go.RowKit

theorem shut2n {P : Program} {fn : Func} {a : Act} {w W : World} {g g' : Nat} {x y x' y' : Int} (k : SB W g x y) (k' : SB W g' x' y') (hb : Below w.heap.size w W)
    (hr : W.cell? ⟨g, 0, none⟩ = some (.int .i64 x) → W.cell? ⟨g, 1, none⟩ = some (.int .i64 y) → W.cell? ⟨g', 0, none⟩ = some (.int .i64 x') → W.cell? ⟨g', 1, none⟩ = some (.int .i64 y') →
      (results fn a.tmps).run P W = .ok (.tuple #[.agg #[.int .i64 x, .int .i64 y], .agg #[.int .i64 x', .int .i64 y']]) W)
    (hd : a.defers = [] := by rfl) : bodyPost P fn (Drew2 w) .ret a W :=
  bodyPost_ret (hr k.c0 k.c1 k'.c0 k'.c1) hd ⟨x, y, x', y', rfl, hb⟩
/-- an operation and two drawn intervals; an interval and a number -/
def DrewO2 (w : World) (e : Ending) (w' : World) : Prop := ∃ op al ah bl bh : Int, e = .returned (.tuple #[.int .i64 op, .agg #[.int .i64 al, .int .i64 ah], .agg #[.int .i64 bl, .int .i64 bh]]) ∧ Below w.heap.size w w'
def DrewSN (w : World) (e : Ending) (w' : World) : Prop := ∃ al ah n : Int, e = .returned (.tuple #[.agg #[.int .i64 al, .int .i64 ah], .int .i64 n]) ∧ Below w.heap.size w w'
theorem cur_over (w : World) (a0 : Option Addr) (len cap : Nat) (h : Bytes w a0 len) (x y : Int) (W : World) (hW : W = w.alloc (sO x y)) : Cur (W.alloc (.cells #[.slice a0 len cap, .int .i64 0, .int .u64 0] 52)) (w.heap.size + 1) 0 := by
  subst hW
  have := Cur.new (cap := cap) (h.below (below1 w (sO x y)))
  simpa using this
theorem cur_over2 (w : World) (a0 : Option Addr) (len cap : Nat) (h : Bytes w a0 len) (x y x' y' : Int) : Cur (((w.alloc (sO x y)).alloc (sO x' y')).alloc (.cells #[.slice a0 len cap, .int .i64 0, .int .u64 0] 52)) (w.heap.size + 1 + 1) 0 := by
  have := Cur.new (cap := cap) (h.below (below2 w (sO x y) (sO x' y')))
  simpa using this

set_option maxRecDepth 100000 in
set_option maxHeartbeats 4000000 in
theorem drawJoinSt_any (a0 : Option Addr) (len cap : Nat) (w : World) (h : Hid (Bytes w a0 len)) :
    Calls Try.prog 30 #[.slice a0 len cap] w (Drew2 w) := by
  have N0 := two_news w 0 0 0 0
  have C0 : Hid (Cur (((w.alloc (.cells #[.int .i64 0, .int .i64 0] 24)).alloc (.cells #[.int .i64 0, .int .i64 0] 24)).alloc (.cells #[.slice a0 len cap, .int .i64 0, .int .u64 0] 52)) (w.heap.size + 1 + 1) 0) := Lib.hid (cur_over2 w a0 len cap h.out 0 0 0 0)
  have R0 : Hid (SB (((w.alloc (.cells #[.int .i64 0, .int .i64 0] 24)).alloc (.cells #[.int .i64 0, .int .i64 0] 24)).alloc (.cells #[.slice a0 len cap, .int .i64 0, .int .u64 0] 52)) w.heap.size 0 0) := Lib.hid (N0.out.1.below (below1 _ _))
  have T0 : Hid (SB (((w.alloc (.cells #[.int .i64 0, .int .i64 0] 24)).alloc (.cells #[.int .i64 0, .int .i64 0] 24)).alloc (.cells #[.slice a0 len cap, .int .i64 0, .int .u64 0] 52)) (w.heap.size + 1) 0 0) := Lib.hid (N0.out.2.1.below (below1 _ _))
  have B0 : Hid (Below w.heap.size w (((w.alloc (.cells #[.int .i64 0, .int .i64 0] 24)).alloc (.cells #[.int .i64 0, .int .i64 0] 24)).alloc (.cells #[.slice a0 len cap, .int .i64 0, .int .u64 0] 52))) := Lib.hid (Below.tr N0.out.2.2 (below1 _ _))
  clear N0 h
  go_enter Try.func30, Try.ntmps30
  go_wp2_with fail
  generalize (((w.alloc (.cells #[.int .i64 0, .int .i64 0] 24)).alloc (.cells #[.int .i64 0, .int .i64 0] 24)).alloc (.cells #[.slice a0 len cap, .int .i64 0, .int .u64 0] 52)) = v0 at C0 R0 T0 B0 ⊢
  refine (stretch_any (w.heap.size + 1 + 1) 0 _ C0 (by omega)).mono ?_
  rintro e v1 ⟨al, ah, rfl, hc, hg⟩
  have C1 : Hid (Cur v1 (w.heap.size + 1 + 1) 100) := Lib.hid (hc.mono (by omega))
  have B1 := Lib.hid (B0.out.grown hg B0.out.size (fun k hk => by cases hk; omega))
  have R1 := Lib.hid (SB.grown R0.out hg (by omega))
  have T1 := Lib.hid (SB.grown T0.out hg (by omega))
  clear hc hg
  go_wp2_with fail
  refine (stretch_any (w.heap.size + 1 + 1) 100 _ C1 (by omega)).mono ?_
  rintro e v2 ⟨bl, bh, rfl, hc, hg⟩
  have C2 : Hid (Cur v2 (w.heap.size + 1 + 1) 200) := Lib.hid (hc.mono (by omega))
  have B2 := Lib.hid (B1.out.grown hg B1.out.size (fun k hk => by cases hk; omega))
  have R2 := Lib.hid (SB.grown R1.out hg (by omega))
  have T2 := Lib.hid (SB.grown T1.out hg (by omega))
  clear hc hg
  have r0 := R2.out.c0
  have r1 := R2.out.c1
  have rf0 := R2.out.f 0
  have rf1 := R2.out.f 1
  have t0 := T2.out.c0
  have t1 := T2.out.c1
  have tf0 := T2.out.f 0
  have tf1 := T2.out.f 1
  go_wp2
  refine shut2n (SB.far2 (SB.set2 R2.out) (by omega)) (SB.set2 (SB.far2 T2.out (by omega))) (belowS2 (belowS2 B2.out (by omega)) (by omega)) ?_
  intro c0 c1 c2 c3; simp [results, Try.results30, go_sem, c0, c1, c2, c3]
set_option maxRecDepth 100000 in
set_option maxHeartbeats 4000000 in
theorem drawMeetSt_any (a0 : Option Addr) (len cap : Nat) (w : World) (h : Hid (Bytes w a0 len)) :
    Calls Try.prog 11 #[.slice a0 len cap] w (Drew2 w) := by
  have N0 := two_news w 0 0 0 0
  have H0 : Hid (Bytes ((w.alloc (sO 0 0)).alloc (sO 0 0)) a0 len) := Lib.hid (h.out.below N0.out.2.2)
  clear h
  unfold sO at N0 H0
  go_enter Try.func11, Try.ntmps11
  go_wp2_with fail
  generalize ((w.alloc (.cells #[.int .i64 0, .int .i64 0] 24)).alloc (.cells #[.int .i64 0, .int .i64 0] 24)) = v0 at N0 H0 ⊢
  refine (drawJoinSt_any a0 len cap _ H0).mono ?_
  rintro e v1 ⟨al, ah, bl, bh, rfl, hb⟩
  have R1 := Lib.hid (N0.out.1.below hb)
  have T1 := Lib.hid (N0.out.2.1.below hb)
  have B1 := Lib.hid (Below.tr N0.out.2.2 hb)
  clear hb
  have r0 := R1.out.c0
  have r1 := R1.out.c1
  have rf0 := R1.out.f 0
  have rf1 := R1.out.f 1
  have t0 := T1.out.c0
  have t1 := T1.out.c1
  have tf0 := T1.out.f 0
  have tf1 := T1.out.f 1
  go_wp2
  refine shut2n (SB.far2 (SB.set2 R1.out) (by omega)) (SB.set2 (SB.far2 T1.out (by omega))) (belowS2 (belowS2 B1.out (by omega)) (by omega)) ?_
  intro c0 c1 c2 c3; simp [results, Try.results11, go_sem, c0, c1, c2, c3]
set_option maxRecDepth 100000 in
set_option maxHeartbeats 4000000 in
theorem drawWithinSt_any (a0 : Option Addr) (len cap : Nat) (w : World) (h : Hid (Bytes w a0 len)) :
    Calls Try.prog 20 #[.slice a0 len cap] w (Drew2 w) := by
  have N0 := two_news w 0 0 0 0
  have H0 : Hid (Bytes ((w.alloc (sO 0 0)).alloc (sO 0 0)) a0 len) := Lib.hid (h.out.below N0.out.2.2)
  clear h
  unfold sO at N0 H0
  go_enter Try.func20, Try.ntmps20
  go_wp2_with fail
  generalize ((w.alloc (.cells #[.int .i64 0, .int .i64 0] 24)).alloc (.cells #[.int .i64 0, .int .i64 0] 24)) = v0 at N0 H0 ⊢
  refine (drawJoinSt_any a0 len cap _ H0).mono ?_
  rintro e v1 ⟨al, ah, bl, bh, rfl, hb⟩
  have R1 := Lib.hid (N0.out.1.below hb)
  have T1 := Lib.hid (N0.out.2.1.below hb)
  have B1 := Lib.hid (Below.tr N0.out.2.2 hb)
  clear hb
  have r0 := R1.out.c0
  have r1 := R1.out.c1
  have rf0 := R1.out.f 0
  have rf1 := R1.out.f 1
  have t0 := T1.out.c0
  have t1 := T1.out.c1
  have tf0 := T1.out.f 0
  have tf1 := T1.out.f 1
  go_wp2
  refine shut2n (SB.far2 (SB.set2 R1.out) (by omega)) (SB.set2 (SB.far2 T1.out (by omega))) (belowS2 (belowS2 B1.out (by omega)) (by omega)) ?_
  intro c0 c1 c2 c3; simp [results, Try.results20, go_sem, c0, c1, c2, c3]
end Go.Proofs.Ytkffggnajoohfaa.Op
