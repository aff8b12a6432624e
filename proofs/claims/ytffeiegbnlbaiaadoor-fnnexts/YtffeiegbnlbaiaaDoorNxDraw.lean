/-
  Drawn arguments of the law FnNexts.
-/
import Derived.Test.YtffeiegbnlbaiaaDoorSpoilt
import Derived.Test.YtffeiegbnlbaiaaDoorBytes
namespace Go.Proofs.YtffeiegbnlbaiaaDoor
open Go.ChangeShapes Go.WideShapes Go.ChangeAt Go.RowKit

/-- a drawn program and an index -/
def DrewN (w : World) (e : Ending) (w' : World) : Prop :=
  ∃ (xs : List Stp) (A : Option Addr) (cap : Nat) (at_ : Int), e = .returned (.tuple #[.slice A xs.length cap, .int .i64 at_]) ∧ (1 ≤ xs.length ∧ xs.length ≤ 20) ∧ (-1 ≤ at_ ∧ at_ ≤ xs.length) ∧ w'.ownsRow w.heap.size 31 6 (.slice A xs.length cap) xs.length (cellsOf xs) ∧ Below w.heap.size w w'
set_option maxRecDepth 100000 in
set_option maxHeartbeats 1000000 in
theorem drawNexts_any (a0 : Option Addr) (len cap : Nat) (w : World) (h : Hid (Bytes w a0 len)) :
    Calls Tryd.prog 4 #[.slice a0 len cap] w (DrewN w) := by
  go_enter Tryd.func4, Tryd.ntmps4
  go_wp2_with fail
  refine (program_any w.heap.size 0 _ (Cur.new h.out) (by omega)).mono ?_
  rintro e w1 ⟨xs, A, cp, rfl, hl, hp⟩
  have P1 := Lib.hid hp
  clear hp
  obtain ⟨n, hn⟩ : ∃ n, xs.length = n := ⟨_, rfl⟩
  rw [hn] at hl ⊢
  have HN := Lib.hid hn
  clear hn
  have hn1 : 1 ≤ n := hl.1
  have hn2 : n ≤ 20 := hl.2
  clear hl
  go_wp2_with fail
  refine (pickP _ w.heap.size _ xs A cp _ _ P1 (by omega) (by omega) (by omega)).mono ?_
  rintro e w2 ⟨k, ⟨hk1, hk2⟩, rfl, hp2⟩
  have P2 := Lib.hid hp2
  clear hp2
  go_wp2
  go_ret2
  exact ⟨xs, A, cp, k - 1, by rw [HN.out]; rfl, by rw [HN.out]; omega, by rw [HN.out]; omega, own_base P2.out.2.1 (by simp), below_new P2.out.2.2.1⟩
set_option maxRecDepth 100000 in
set_option maxHeartbeats 1000000 in
theorem drawSlots_any (a0 : Option Addr) (len cap : Nat) (w : World) (h : Hid (Bytes w a0 len)) :
    Calls Tryd.prog 13 #[.slice a0 len cap] w (DrewProg w) := by
  go_enter Tryd.func13, Tryd.ntmps13
  go_wp2_with fail
  refine (drawGood_any a0 len cap _ h).mono ?_
  rintro e w1 ⟨xs, A, cp, rfl, hl, hp⟩
  have P1 := Lib.hid hp
  clear hp
  go_wp2
  go_ret
  exact ⟨xs, A, cp, rfl, hl, P1.out⟩
/-- a drawn step -/
def DrewS (w : World) (e : Ending) (w' : World) : Prop :=
  ∃ y : Stp, e = .returned (.agg #[.int .i64 y.k, .int .i64 y.o, .int .i64 y.d, .int .i64 y.s, .int .i64 y.i, .int .i64 y.t]) ∧ Below w.heap.size w w'
theorem own_liesN {w : World} {base n cap : Nat} {A : Option Addr} {t : TypeId} {xs : List Stp} (h : w.ownsRow base t 6 (.slice A n cap) n (cellsOf xs)) (hx : xs.length = n) : Lies w A xs := by
  intro i x hi
  have hlt : i < xs.length := (List.getElem?_eq_some_iff.1 hi).1
  obtain ⟨g, cp, hv, _, hg⟩ := h.form (by omega)
  have hA : A = some ⟨g, 0, none⟩ := by injection hv
  subst hA
  exact own_lies h i x hi
set_option maxRecDepth 100000 in
set_option maxHeartbeats 4000000 in
theorem drawStepB_any (a0 : Option Addr) (len cap : Nat) (w : World) (h : Hid (Bytes w a0 len)) :
    Calls Tryd.prog 8 #[.slice a0 len cap] w (DrewS w) := by
  obtain ⟨i0, hi0, hz0, hz1, hz2⟩ := info_parts info_step
  have A0 := below1 w (.cells #[.int .i64 0, .int .i64 0, .int .i64 0, .int .i64 0, .int .i64 0, .int .i64 0] 31)
  have BY := Lib.hid (h.out.below A0)
  have KR : Hid (Blk (w.alloc (.cells #[.int .i64 0, .int .i64 0, .int .i64 0, .int .i64 0, .int .i64 0, .int .i64 0] 31)) w.heap.size 31 [.int .i64 0, .int .i64 0, .int .i64 0, .int .i64 0, .int .i64 0, .int .i64 0]) := Lib.hid (heap_alloc_new w _)
  have B0 := Lib.hid A0
  clear A0
  go_enter Tryd.func8, Tryd.ntmps8
  go_wp2_with fail
  have C0 : Hid (Cur ((w.alloc (.cells #[.int .i64 0, .int .i64 0, .int .i64 0, .int .i64 0, .int .i64 0, .int .i64 0] 31)).alloc (.cells #[.slice a0 len cap, .int .i64 0, .int .u64 0] 41)) (w.heap.size + 1) 0) := Lib.hid (by
    have := Cur.new (cap := cap) BY.out
    rw [show (w.alloc (.cells #[.int .i64 0, .int .i64 0, .int .i64 0, .int .i64 0, .int .i64 0, .int .i64 0] 31)).heap.size = w.heap.size + 1 by simp] at this
    exact this)
  refine (program_any (w.heap.size + 1) 0 _ C0 (by omega)).mono ?_
  rintro e w1 ⟨xs, A, cp, rfl, hl, hp⟩
  have P1 := Lib.hid hp
  clear hp
  obtain ⟨n, hn⟩ : ∃ n, xs.length = n := ⟨_, rfl⟩
  rw [hn] at hl ⊢
  have HN := Lib.hid hn
  clear hn
  have hn1 : 1 ≤ n := hl.1
  have hn2 : n ≤ 20 := hl.2
  clear hl
  go_wp2_with fail
  refine (pickP _ (w.heap.size + 1) _ xs A cp _ _ P1 (by omega) (by omega) (by omega)).mono ?_
  rintro e w2 ⟨kk, ⟨hk1, hk2⟩, rfl, hp2⟩
  obtain ⟨k, rfl⟩ : ∃ k : Nat, kk = k := ⟨kk.toNat, by omega⟩
  obtain ⟨x, hx⟩ : ∃ x, xs[k]? = some x := ⟨_, List.getElem?_eq_getElem (by have := HN.out; omega)⟩
  obtain ⟨g, off, hA, hgl, hat⟩ := (own_liesN hp2.2.1 rfl) k x hx
  have hgb : w.heap.size + 2 ≤ g := by
    have := (hp2.2.1.lt g (by rw [hA]; rfl)).1
    simpa using this
  subst hA
  obtain ⟨e0, e1, e2, e3, e4, e5⟩ := hat
  have K2 : Blk w2 w.heap.size 31 [.int .i64 0, .int .i64 0, .int .i64 0, .int .i64 0, .int .i64 0, .int .i64 0] := by
    have hk := (KR.out.below (below1 (w.alloc (.cells #[.int .i64 0, .int .i64 0, .int .i64 0, .int .i64 0, .int .i64 0, .int .i64 0] 31)) (.cells #[.slice a0 len cap, .int .i64 0, .int .u64 0] 41)))
    exact (hp2.2.2.1.block w.heap.size hk.lt (by simp)).trans hk
  have BZ : Hid (Below w.heap.size w w2) := Lib.hid ((B0.out.alloc (by simp) _).grown hp2.2.2.1 (by simp; omega) (fun g e => by have := Option.some.inj e; omega))
  have q0 : w2.cell? ⟨w.heap.size, 0, none⟩ = some (.int .i64 0) := K2.cell 0
  have q1 : w2.cell? ⟨w.heap.size, 1, none⟩ = some (.int .i64 0) := K2.cell 1
  have q2 : w2.cell? ⟨w.heap.size, 2, none⟩ = some (.int .i64 0) := K2.cell 2
  have q3 : w2.cell? ⟨w.heap.size, 3, none⟩ = some (.int .i64 0) := K2.cell 3
  have q4 : w2.cell? ⟨w.heap.size, 4, none⟩ = some (.int .i64 0) := K2.cell 4
  have q5 : w2.cell? ⟨w.heap.size, 5, none⟩ = some (.int .i64 0) := K2.cell 5
  have f0 := K2.frozen 0
  have f1 := K2.frozen 1
  have f2 := K2.frozen 2
  have f3 := K2.frozen 3
  have f4 := K2.frozen 4
  have f5 := K2.frozen 5
  have KZ := Lib.hid K2
  clear hp2 K2 hx
  obtain ⟨kx, ox, dx, sx, ix, tx⟩ := x
  simp only at e0 e1 e2 e3 e4 e5
  have hkn : k < n := by omega
  have HGB := Lib.hid hgb
  clear hgb hk1 hk2 hn1 hn2 hi0 hz1 hz2
  obtain ⟨z, hz⟩ : ∃ z, w.heap.size = z := ⟨_, rfl⟩
  rw [hz] at q0 q1 q2 q3 q4 q5 f0 f1 f2 f3 f4 f5 KZ HGB ⊢
  have hgz : g ≠ z := by have := HGB.out; omega
  have hzg : z ≠ g := by have := HGB.out; omega
  have HZZ := Lib.hid hz
  clear hz
  go_wp2_with fail
  have KF := ((((((KZ.out.set 0 (.int .i64 kx)).set 1 (.int .i64 ox)).set 2 (.int .i64 dx)).set 3 (.int .i64 sx)).set 4 (.int .i64 ix)).set 5 (.int .i64 tx))
  have BF : Below w.heap.size w ((((((w2.setCell ⟨z, 0, none⟩ (.int .i64 kx)).setCell ⟨z, 1, none⟩ (.int .i64 ox)).setCell ⟨z, 2, none⟩ (.int .i64 dx)).setCell ⟨z, 3, none⟩ (.int .i64 sx)).setCell ⟨z, 4, none⟩ (.int .i64 ix)).setCell ⟨z, 5, none⟩ (.int .i64 tx)) := by
    have hle : w.heap.size ≤ z := Nat.le_of_eq HZZ.out
    exact (((((BZ.out.setCell hle _).setCell hle _).setCell hle _).setCell hle _).setCell hle _).setCell hle _
  generalize ((((((w2.setCell ⟨z, 0, none⟩ (.int .i64 kx)).setCell ⟨z, 1, none⟩ (.int .i64 ox)).setCell ⟨z, 2, none⟩ (.int .i64 dx)).setCell ⟨z, 3, none⟩ (.int .i64 sx)).setCell ⟨z, 4, none⟩ (.int .i64 ix)).setCell ⟨z, 5, none⟩ (.int .i64 tx)) = wf at KF BF ⊢
  have r0 : wf.cell? ⟨z, 0, none⟩ = some (.int .i64 kx) := KF.cell 0
  have r1 : wf.cell? ⟨z, 1, none⟩ = some (.int .i64 ox) := KF.cell 1
  have r2 : wf.cell? ⟨z, 2, none⟩ = some (.int .i64 dx) := KF.cell 2
  have r3 : wf.cell? ⟨z, 3, none⟩ = some (.int .i64 sx) := KF.cell 3
  have r4 : wf.cell? ⟨z, 4, none⟩ = some (.int .i64 ix) := KF.cell 4
  have r5 : wf.cell? ⟨z, 5, none⟩ = some (.int .i64 tx) := KF.cell 5
  exact bodyPost_ret (v := .agg #[.int .i64 kx, .int .i64 ox, .int .i64 dx, .int .i64 sx, .int .i64 ix, .int .i64 tx]) (by simp [results, Tryd.results8, go_sem, r0, r1, r2, r3, r4, r5]) rfl ⟨⟨kx, ox, dx, sx, ix, tx⟩, rfl, BF⟩
end Go.Proofs.YtffeiegbnlbaiaaDoor
