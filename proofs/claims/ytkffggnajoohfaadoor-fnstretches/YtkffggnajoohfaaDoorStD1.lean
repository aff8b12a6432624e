/-
  The drawing of intervals.
-/
import Derived.Test.YtkffggnajoohfaaDoorSt2
import Derived.Test.YtkffggnajoohfaaDoorCurW
namespace Go.Proofs.YtkffggnajoohfaaDoor.Op
open Go.Proofs.YtkffggnajoohfaaDoor
open Go.ChangeShapes Go.WideShapes Go.ChangeAt Go.RowKit

theorem SB.grown {w w' : World} {g c : Nat} {l h : Int} (k : SB w g l h) (hg : w.grownBy w' (some c)) (hn : g ≠ c) : SB w' g l h :=
  (hg.block g k.lt (fun e => hn (Option.some.inj e))).trans k
theorem Cur.set2 {w : World} {c K g : Nat} {u v : Value} (h : Cur w c K) (hg : c < g) : Cur ((w.setCell ⟨g, 0, none⟩ u).setCell ⟨g, 1, none⟩ v) c K := by
  have one : ∀ (w : World) (j : Nat) (u : Value), Cur w c K → Cur (w.setCell ⟨g, j, none⟩ u) c K := fun w j u h =>
    h.grown (row := some g) ⟨rfl, rfl, rfl, by simp, fun i _ hne => Below.heap_setCell w ⟨g, j, none⟩ u i (fun e => hne (by rw [e]))⟩ (fun g' e => by have := Option.some.inj e; omega)
  exact one _ _ _ (one _ _ _ h)
theorem grown_set2 {w0 w : World} {c g : Nat} {u v : Value} (h : w0.grownBy w (some c)) (hg : w0.heap.size ≤ g) : w0.grownBy ((w.setCell ⟨g, 0, none⟩ u).setCell ⟨g, 1, none⟩ v) (some c) := by
  have one : ∀ (w : World) (j : Nat) (u : Value), w0.grownBy w (some c) → w0.grownBy (w.setCell ⟨g, j, none⟩ u) (some c) := fun w j u h =>
    ⟨h.os, h.tape, h.output, Nat.le_trans h.size (by simp), fun i hi hne => (Below.heap_setCell w ⟨g, j, none⟩ u i (show i ≠ g by omega)).trans (h.block i hi hne)⟩
  exact one _ _ _ (one _ _ _ h)
/-- it answers an interval, drawn -/
def GaveSt (c K : Nat) (w : World) (e : Ending) (w' : World) : Prop :=
  ∃ l h : Int, e = .returned (.agg #[.int .i64 l, .int .i64 h]) ∧ Cur w' c K ∧ w.grownBy w' (some c)
theorem shutG {P : Program} {fn : Func} {a : Act} {w W : World} {g c K K' : Nat} {x y : Int} (k : SB W g x y) (hc : Cur W c K') (hK : K' ≤ K) (hG : w.grownBy W (some c))
    (hr : W.cell? ⟨g, 0, none⟩ = some (.int .i64 x) → W.cell? ⟨g, 1, none⟩ = some (.int .i64 y) → (results fn a.tmps).run P W = .ok (.agg #[.int .i64 x, .int .i64 y]) W)
    (hd : a.defers = [] := by rfl) : bodyPost P fn (GaveSt c K w) .ret a W :=
  bodyPost_ret (hr k.c0 k.c1) hd ⟨x, y, rfl, hc.mono hK, hG⟩
set_option maxRecDepth 100000 in
set_option maxHeartbeats 4000000 in
theorem stretch_any (c K : Nat) (w : World) (h : Hid (Cur w c K)) (hK : K ≤ 600000000) :
    Calls Tryd.prog 55 #[.pointer (some ⟨c, 0, none⟩)] w (GaveSt c (K + 100) w) := by
  have hcl : c < w.heap.size := h.out.lt
  have N0 := one_news w 0 0
  go_enter Tryd.func55, Tryd.ntmps55
  go_wp2_with fail
  unfold sO at N0
  have C0 : Hid (Cur (w.alloc (.cells #[.int .i64 0, .int .i64 0] 46)) c K) := Lib.hid (h.out.below N0.out.2)
  have G0 : Hid (w.grownBy (w.alloc (.cells #[.int .i64 0, .int .i64 0] 46)) (some c)) := Lib.hid (grown_of_below N0.out.2)
  have R0 := Lib.hid N0.out.1
  clear N0 h
  generalize (w.alloc (.cells #[.int .i64 0, .int .i64 0] 46)) = v0 at C0 G0 R0 ⊢
  refine (word_any c K _ C0 (by omega)).mono ?_
  rintro e v1 ⟨n1, hn1, rfl, hc, hg⟩
  obtain ⟨p1, p2⟩ := hn1
  have C1 := Lib.hid hc
  have G1 := Lib.hid (grownC_trans G0.out hg)
  have R1 := Lib.hid (SB.grown R0.out hg (by omega))
  clear hc hg C0 G0 R0
  go_wp2_with fail
  refine (word_any c _ _ C1 (by omega)).mono ?_
  rintro e v2 ⟨n2, hn2, rfl, hc, hg⟩
  obtain ⟨p3, p4⟩ := hn2
  have C2 := Lib.hid hc
  have G2 := Lib.hid (grownC_trans G1.out hg)
  have R2 := Lib.hid (SB.grown R1.out hg (by omega))
  clear hc hg C1 G1 R1
  go_wp2_with fail
  refine (one_any c _ 3 _ C2 (by omega) (by omega) (by omega)).mono ?_
  rintro e v3 ⟨b, rfl, hc, hg⟩
  have C3 := Lib.hid (hc.mono (show _ ≤ K + 30 by omega))
  have G3 := Lib.hid (grownC_trans G2.out hg)
  have R3 := Lib.hid (SB.grown R2.out hg (by omega))
  have Z3 := G3.out.size
  clear hc hg
  cases b
  · skip
    have RA := Lib.hid (SB.below R3.out (below1 _ (sO (minI n1 n2) (maxI n1 n2))))
    have CA := Lib.hid (C3.out.below (below1 _ (sO (minI n1 n2) (maxI n1 n2))))
    have GA := Lib.hid (grownC_trans G3.out (grown_of_below (below1 _ (sO (minI n1 n2) (maxI n1 n2)))))
    have SA := Lib.hid (SB.new v3 (minI n1 n2) (maxI n1 n2))
    have cz := C3.out.lt
    unfold sO at RA CA GA
    go_wp2_with (first | (go_at_call 87; refine (l1Least_any _ _ _).mono ?_; rintro e v9 ⟨rfl, rfl⟩) | (go_at_call 88; refine (l1Most_any _ _ _).mono ?_; rintro e v9 ⟨rfl, rfl⟩) | fail)
    obtain ⟨gs, hgs⟩ : ∃ q, v3.heap.size = q := ⟨_, rfl⟩
    rw [hgs] at SA ⊢
    generalize (v3.alloc (.cells #[.int .i64 (minI n1 n2), .int .i64 (maxI n1 n2)] 46)) = u3 at RA CA GA SA ⊢
    obtain ⟨mn, hmn⟩ : ∃ q, minI n1 n2 = q := ⟨_, rfl⟩
    obtain ⟨mx, hmx⟩ : ∃ q, maxI n1 n2 = q := ⟨_, rfl⟩
    rw [hmn, hmx] at SA ⊢
    clear hmn hmx
    have hgs2 : c < gs ∧ w.heap.size < gs := by have := R3.out.lt; omega
    have hne : gs ≠ w.heap.size := by omega
    clear hgs
    refine (one_any c _ 30 _ CA (by omega) (by omega) (by omega)).mono ?_
    rintro e v6 ⟨b2, rfl, hc, hg⟩
    have C6 := Lib.hid (hc.mono (show _ ≤ K + 40 by omega))
    have G6 := Lib.hid (grownC_trans GA.out hg)
    have R6 := Lib.hid (SB.grown RA.out hg (by omega))
    have S6 := Lib.hid (SB.grown SA.out hg (by omega))
    clear hc hg
    cases b2
    · skip
      have s0 := S6.out.c0
      have s1 := S6.out.c1
      have sf0 := S6.out.f 0
      have sf1 := S6.out.f 1
      have r0 := R6.out.c0
      have r1 := R6.out.c1
      have rf0 := R6.out.f 0
      have rf1 := R6.out.f 1
      go_wp2
      refine shutG (g := w.heap.size) R6.out.set2 (Cur.set2 C6.out (by omega)) (by omega) (grown_set2 G6.out (Nat.le_refl _)) ?_
      intro c0 c1; simp [results, Tryd.results55, go_sem, c0, c1]
    · go_wp2_with fail
      refine (rawWord_any c _ _ C6 (by omega)).mono ?_
      rintro e v7 ⟨m1, _, rfl, hc, hg⟩
      have C7 := Lib.hid (hc.mono (show _ ≤ K + 60 by omega))
      have G7 := Lib.hid (grownC_trans G6.out hg)
      have R7 := Lib.hid (SB.grown R6.out hg (by omega))
      have S7 := Lib.hid (SB.grown S6.out hg (by omega))
      have Z7 := G7.out.size
      clear hc hg
      go_wp2_with fail
      refine (rawWord_any c _ _ C7 (by omega)).mono ?_
      rintro e v8 ⟨m2, _, rfl, hc, hg⟩
      have C8 := Lib.hid (hc.mono (show _ ≤ K + 80 by omega))
      have G8 := Lib.hid (grownC_trans G7.out hg)
      have R8 := Lib.hid (SB.grown R7.out hg (by omega))
      have S8 := Lib.hid (SB.grown S7.out hg (by omega))
      have Z8 := G8.out.size
      clear hc hg
      have s0 := S8.out.c0
      have s1 := S8.out.c1
      have sf0 := S8.out.f 0
      have sf1 := S8.out.f 1
      have r0 := R8.out.c0
      have r1 := R8.out.c1
      have rf0 := R8.out.f 0
      have rf1 := R8.out.f 1
      go_wp2
      refine shutG (g := w.heap.size) (SB.set2 (SB.far2 R8.out (Ne.symm hne))) (Cur.set2 (Cur.set2 C8.out (by omega)) (by omega)) (by omega) (grown_set2 (grown_set2 G8.out (by omega)) (Nat.le_refl _)) ?_
      intro c0 c1; simp [results, Tryd.results55, go_sem, c0, c1]
  · go_wp2_with fail
    refine (pick_any c _ 9 _ C3 (by omega) (by omega) (by omega)).mono ?_
    rintro e v4 ⟨n4, hn4, rfl, hc, hg⟩
    obtain ⟨p5, p6⟩ := hn4
    have C4 := Lib.hid (hc.mono (show _ ≤ K + 32 by omega))
    have G4 := Lib.hid (grownC_trans G3.out hg)
    have R4 := Lib.hid (SB.grown R3.out hg (by omega))
    have Z4 := G4.out.size
    clear hc hg
    go_wp2_with fail
    refine (l1Least_any _ _ _).mono ?_
    rintro e v9 ⟨rfl, rfl⟩
    obtain ⟨n5, hn5⟩ : ∃ q, minI 65535 (n1 + n4) = q := ⟨_, rfl⟩
    rw [hn5]
    clear hn5
    have RA := Lib.hid (SB.below R4.out (below1 _ (sO (minI n1 n5) (maxI n1 n5))))
    have CA := Lib.hid (C4.out.below (below1 _ (sO (minI n1 n5) (maxI n1 n5))))
    have GA := Lib.hid (grownC_trans G4.out (grown_of_below (below1 _ (sO (minI n1 n5) (maxI n1 n5)))))
    have SA := Lib.hid (SB.new v4 (minI n1 n5) (maxI n1 n5))
    have cz := C4.out.lt
    unfold sO at RA CA GA
    go_wp2_with (first | (go_at_call 87; refine (l1Least_any _ _ _).mono ?_; rintro e v9 ⟨rfl, rfl⟩) | (go_at_call 88; refine (l1Most_any _ _ _).mono ?_; rintro e v9 ⟨rfl, rfl⟩) | fail)
    obtain ⟨gs, hgs⟩ : ∃ q, v4.heap.size = q := ⟨_, rfl⟩
    rw [hgs] at SA ⊢
    generalize (v4.alloc (.cells #[.int .i64 (minI n1 n5), .int .i64 (maxI n1 n5)] 46)) = u4 at RA CA GA SA ⊢
    obtain ⟨mn, hmn⟩ : ∃ q, minI n1 n5 = q := ⟨_, rfl⟩
    obtain ⟨mx, hmx⟩ : ∃ q, maxI n1 n5 = q := ⟨_, rfl⟩
    rw [hmn, hmx] at SA ⊢
    clear hmn hmx
    have hgs2 : c < gs ∧ w.heap.size < gs := by have := R4.out.lt; omega
    have hne : gs ≠ w.heap.size := by omega
    clear hgs
    refine (one_any c _ 30 _ CA (by omega) (by omega) (by omega)).mono ?_
    rintro e v6 ⟨b2, rfl, hc, hg⟩
    have C6 := Lib.hid (hc.mono (show _ ≤ K + 40 by omega))
    have G6 := Lib.hid (grownC_trans GA.out hg)
    have R6 := Lib.hid (SB.grown RA.out hg (by omega))
    have S6 := Lib.hid (SB.grown SA.out hg (by omega))
    clear hc hg
    cases b2
    · skip
      have s0 := S6.out.c0
      have s1 := S6.out.c1
      have sf0 := S6.out.f 0
      have sf1 := S6.out.f 1
      have r0 := R6.out.c0
      have r1 := R6.out.c1
      have rf0 := R6.out.f 0
      have rf1 := R6.out.f 1
      go_wp2
      refine shutG (g := w.heap.size) R6.out.set2 (Cur.set2 C6.out (by omega)) (by omega) (grown_set2 G6.out (Nat.le_refl _)) ?_
      intro c0 c1; simp [results, Tryd.results55, go_sem, c0, c1]
    · go_wp2_with fail
      refine (rawWord_any c _ _ C6 (by omega)).mono ?_
      rintro e v7 ⟨m1, _, rfl, hc, hg⟩
      have C7 := Lib.hid (hc.mono (show _ ≤ K + 60 by omega))
      have G7 := Lib.hid (grownC_trans G6.out hg)
      have R7 := Lib.hid (SB.grown R6.out hg (by omega))
      have S7 := Lib.hid (SB.grown S6.out hg (by omega))
      have Z7 := G7.out.size
      clear hc hg
      go_wp2_with fail
      refine (rawWord_any c _ _ C7 (by omega)).mono ?_
      rintro e v8 ⟨m2, _, rfl, hc, hg⟩
      have C8 := Lib.hid (hc.mono (show _ ≤ K + 80 by omega))
      have G8 := Lib.hid (grownC_trans G7.out hg)
      have R8 := Lib.hid (SB.grown R7.out hg (by omega))
      have S8 := Lib.hid (SB.grown S7.out hg (by omega))
      have Z8 := G8.out.size
      clear hc hg
      have s0 := S8.out.c0
      have s1 := S8.out.c1
      have sf0 := S8.out.f 0
      have sf1 := S8.out.f 1
      have r0 := R8.out.c0
      have r1 := R8.out.c1
      have rf0 := R8.out.f 0
      have rf1 := R8.out.f 1
      go_wp2
      refine shutG (g := w.heap.size) (SB.set2 (SB.far2 R8.out (Ne.symm hne))) (Cur.set2 (Cur.set2 C8.out (by omega)) (by omega)) (by omega) (grown_set2 (grown_set2 G8.out (by omega)) (Nat.le_refl _)) ?_
      intro c0 c1; simp [results, Tryd.results55, go_sem, c0, c1]
/-- two drawn intervals -/
def Drew2 (w : World) (e : Ending) (w' : World) : Prop := ∃ al ah bl bh : Int, e = .returned (.tuple #[.agg #[.int .i64 al, .int .i64 ah], .agg #[.int .i64 bl, .int .i64 bh]]) ∧ Below w.heap.size w w'
end Go.Proofs.YtkffggnajoohfaaDoor.Op
