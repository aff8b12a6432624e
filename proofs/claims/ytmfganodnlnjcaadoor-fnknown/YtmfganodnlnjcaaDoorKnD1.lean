/-
  The drawing of known bits.
-/
import Derived.Test.YtmfganodnlnjcaaDoorKn8
import Derived.Test.YtmfganodnlnjcaaDoorCurW
namespace Go.Proofs.YtmfganodnlnjcaaDoor.Op
open Go.Proofs.YtmfganodnlnjcaaDoor
open Go.ChangeShapes Go.WideShapes Go.ChangeAt Go.RowKit

theorem KB.grown {w w' : World} {g c : Nat} {l h : Int} (k : KB w g l h) (hg : w.grownBy w' (some c)) (hn : g ≠ c) : KB w' g l h :=
  (hg.block g k.lt (fun e => hn (Option.some.inj e))).trans k
theorem Cur.set2 {w : World} {c K g : Nat} {u v : Value} (h : Cur w c K) (hg : c < g) : Cur ((w.setCell ⟨g, 0, none⟩ u).setCell ⟨g, 1, none⟩ v) c K := by
  have one : ∀ (w : World) (j : Nat) (u : Value), Cur w c K → Cur (w.setCell ⟨g, j, none⟩ u) c K := fun w j u h =>
    h.grown (row := some g) ⟨rfl, rfl, rfl, by simp, fun i _ hne => Below.heap_setCell w ⟨g, j, none⟩ u i (fun e => hne (by rw [e]))⟩ (fun g' e => by have := Option.some.inj e; omega)
  exact one _ _ _ (one _ _ _ h)
theorem grown_set2 {w0 w : World} {c g : Nat} {u v : Value} (h : w0.grownBy w (some c)) (hg : w0.heap.size ≤ g) : w0.grownBy ((w.setCell ⟨g, 0, none⟩ u).setCell ⟨g, 1, none⟩ v) (some c) := by
  have one : ∀ (w : World) (j : Nat) (u : Value), w0.grownBy w (some c) → w0.grownBy (w.setCell ⟨g, j, none⟩ u) (some c) := fun w j u h =>
    ⟨h.os, h.tape, h.output, Nat.le_trans h.size (by simp), fun i hi hne => (Below.heap_setCell w ⟨g, j, none⟩ u i (show i ≠ g by omega)).trans (h.block i hi hne)⟩
  exact one _ _ _ (one _ _ _ h)
/-- it answers a Known, drawn -/
def GaveKn (c K : Nat) (w : World) (e : Ending) (w' : World) : Prop :=
  ∃ l h : Int, e = .returned (.agg #[.int .i64 l, .int .i64 h]) ∧ Cur w' c K ∧ w.grownBy w' (some c)
theorem kshutG {P : Program} {fn : Func} {a : Act} {w W : World} {g c K K' : Nat} {x y : Int} (k : KB W g x y) (hc : Cur W c K') (hK : K' ≤ K) (hG : w.grownBy W (some c))
    (hr : W.cell? ⟨g, 0, none⟩ = some (.int .i64 x) → W.cell? ⟨g, 1, none⟩ = some (.int .i64 y) → (results fn a.tmps).run P W = .ok (.agg #[.int .i64 x, .int .i64 y]) W)
    (hd : a.defers = [] := by rfl) : bodyPost P fn (GaveKn c K w) .ret a W :=
  bodyPost_ret (hr k.c0 k.c1) hd ⟨x, y, rfl, hc.mono hK, hG⟩
set_option maxRecDepth 100000 in
set_option maxHeartbeats 8000000 in
theorem known_any (c K : Nat) (w : World) (h : Hid (Cur w c K)) (hK : K ≤ 600000000) :
    Calls Tryd.prog 35 #[.pointer (some ⟨c, 0, none⟩)] w (GaveKn c (K + 100) w) := by
  have hcl : c < w.heap.size := h.out.lt
  have N0 := one_newk w 0 0
  go_enter Tryd.func35, Tryd.ntmps35
  go_wp2_with fail
  unfold kO at N0
  have C0 : Hid (Cur (w.alloc (.cells #[.int .i64 0, .int .i64 0] 24)) c K) := Lib.hid (h.out.below N0.out.2)
  have G0 : Hid (w.grownBy (w.alloc (.cells #[.int .i64 0, .int .i64 0] 24)) (some c)) := Lib.hid (grown_of_below N0.out.2)
  have R0 := Lib.hid N0.out.1
  clear N0 h
  generalize (w.alloc (.cells #[.int .i64 0, .int .i64 0] 24)) = v0 at C0 G0 R0 ⊢
  refine (pick_any c K _ _ C0 (by omega) (by omega) (by omega)).mono ?_
  rintro e v1 ⟨n1, hn1, rfl, hc, hg⟩
  obtain ⟨p1, p2⟩ := hn1
  have C1 := Lib.hid hc
  have G1 := Lib.hid (grownC_trans G0.out hg)
  have R1 := Lib.hid (KB.grown R0.out hg (by omega))
  clear hc hg C0 G0 R0
  obtain ⟨m1, rfl⟩ := Int.eq_ofNat_of_zero_le p1
  have hm1 : m1 ≤ 4 := by omega
  clear p1 p2
  go_wp2_with fail
  go_loopw [3, 4] (fun m i wr => ∃ (M : Int) (k : Nat), k ≤ 4 ∧ m = .int .i64 M ∧ i = .int .i64 k ∧ Cur wr c (K + 10 - 2 * k) ∧ w.grownBy wr (some c) ∧ KB wr w.heap.size 0 0) (fun _ i _ => (intOf i).toNat)
  case atStart => exact ⟨0, m1, hm1, rfl, rfl, C1.out.mono (by omega), G1.out, R1.out⟩
  case round =>
    obtain ⟨M, k, hk, rfl, rfl, hc, hg, hr⟩ := hrel
    have RC := Lib.hid hc
    have RG := Lib.hid hg
    have RR := Lib.hid hr
    clear hc hg hr C1 G1 R1
    by_cases h0 : 0 < k
    · go_wp2_with fail
      refine (pick_any c _ _ _ RC (by omega) (by omega) (by omega)).mono ?_
      rintro e v2 ⟨n2, ⟨q1, q2⟩, rfl, hc, hg⟩
      have C2 := Lib.hid hc
      have G2 := Lib.hid (grownC_trans RG.out hg)
      have R2 := Lib.hid (KB.grown RR.out hg (by omega))
      clear hc hg
      obtain ⟨pp, rfl⟩ := Int.eq_ofNat_of_zero_le q1
      have hpp : pp ≤ 15 := by omega
      clear q1 q2
      go_wp2
      go_roundw
      case rel => exact ⟨_, k - 1, by omega, rfl, by go_num, C2.out.mono (by omega), G2.out, R2.out⟩
      case measure => simp [intOf]; omega
    · obtain rfl : k = 0 := by omega
      have C3 := Lib.hid (RC.out.mono (show _ ≤ K + 10 by omega))
      have G3 := RG
      have R3 := RR
      clear RC RG RR
      go_wp2_with fail
      refine (one_any c _ 8 _ C3 (by omega) (by omega) (by omega)).mono ?_
      rintro e v4 ⟨b, rfl, hc, hg⟩
      have C4 := Lib.hid (hc.mono (show _ ≤ K + 14 by omega))
      have G4 := Lib.hid (grownC_trans G3.out hg)
      have R4 := Lib.hid (KB.grown R3.out hg (by omega))
      have Z4 := G4.out.size
      clear hc hg
      cases b
      · skip
        go_wp2_with fail
        refine (word_any c _ _ C4 (by omega)).mono ?_
        rintro e v6 ⟨n6, _, rfl, hc, hg⟩
        have C6 := Lib.hid (hc.mono (show _ ≤ K + 40 by omega))
        have G6 := Lib.hid (grownC_trans G4.out hg)
        have R6 := Lib.hid (KB.grown R4.out hg (by omega))
        have Z6 := G6.out.size
        clear hc hg
        go_wp2_with fail
        refine (l10Not_any _ _ _).mono ?_
        obtain ⟨x, hx⟩ : ∃ x, bits .andNot .i64 n6 M = x := ⟨_, rfl⟩
        rw [hx]
        clear hx
        rintro e v7 ⟨rfl, hb⟩
        have C7 := Lib.hid (C6.out.below hb)
        have G7 := Lib.hid (grownC_trans G6.out (grown_of_below hb))
        have R7 := Lib.hid (KB.below R6.out hb)
        have Z7 := G7.out.size
        clear hb
        have cz := C7.out.lt
        go_wp2_with fail
        have RA := Lib.hid (KB.below R7.out (below1 _ (kO x M)))
        have CA := Lib.hid (C7.out.below (below1 _ (kO x M)))
        have GA := Lib.hid (grownC_trans G7.out (grown_of_below (below1 _ (kO x M))))
        have SA := Lib.hid (KB.new v7 x M)
        unfold kO at RA CA GA
        obtain ⟨gs, hgs⟩ : ∃ q, v7.heap.size = q := ⟨_, rfl⟩
        rw [hgs] at SA ⊢
        generalize (v7.alloc (.cells #[.int .i64 x, .int .i64 M] 24)) = u7 at RA CA GA SA ⊢
        have hgs2 : c < gs ∧ w.heap.size < gs := by have := R7.out.lt; omega
        have hne : gs ≠ w.heap.size := by omega
        clear hgs
        refine (one_any c _ 30 _ CA (by omega) (by omega) (by omega)).mono ?_
        rintro e v8 ⟨b2, rfl, hc, hg⟩
        have C8 := Lib.hid (hc.mono (show _ ≤ K + 50 by omega))
        have G8 := Lib.hid (grownC_trans GA.out hg)
        have R8 := Lib.hid (KB.grown RA.out hg (by omega))
        have S8 := Lib.hid (KB.grown SA.out hg (by omega))
        clear hc hg
        cases b2
        · skip
          have s0 := S8.out.c0
          have s1 := S8.out.c1
          have sf0 := S8.out.f 0
          have sf1 := S8.out.f 1
          have r0 := R8.out.c0
          have r1 := R8.out.c1
          have rf0 := R8.out.f 0
          have rf1 := R8.out.f 1
          go_wp2
          refine kshutG (g := w.heap.size) R8.out.set2 (Cur.set2 C8.out (by omega)) (by omega) (grown_set2 G8.out (Nat.le_refl _)) ?_
          intro c0 c1; simp [results, Tryd.results35, go_sem, c0, c1]
        · skip
          go_wp2_with fail
          refine (rawWord_any c _ _ C8 (by omega)).mono ?_
          rintro e v9 ⟨m1, _, rfl, hc, hg⟩
          have C9 := Lib.hid (hc.mono (show _ ≤ K + 70 by omega))
          have G9 := Lib.hid (grownC_trans G8.out hg)
          have R9 := Lib.hid (KB.grown R8.out hg (by omega))
          have S9 := Lib.hid (KB.grown S8.out hg (by omega))
          have Z9 := G9.out.size
          clear hc hg
          go_wp2_with fail
          refine (rawWord_any c _ _ C9 (by omega)).mono ?_
          rintro e v10 ⟨m2, _, rfl, hc, hg⟩
          have C10 := Lib.hid (hc.mono (show _ ≤ K + 90 by omega))
          have G10 := Lib.hid (grownC_trans G9.out hg)
          have R10 := Lib.hid (KB.grown R9.out hg (by omega))
          have S10 := Lib.hid (KB.grown S9.out hg (by omega))
          have Z10 := G10.out.size
          clear hc hg
          have s0 := S10.out.c0
          have s1 := S10.out.c1
          have sf0 := S10.out.f 0
          have sf1 := S10.out.f 1
          have r0 := R10.out.c0
          have r1 := R10.out.c1
          have rf0 := R10.out.f 0
          have rf1 := R10.out.f 1
          go_wp2
          refine kshutG (g := w.heap.size) (KB.set2 (KB.far2 R10.out (Ne.symm hne))) (Cur.set2 (Cur.set2 C10.out (by omega)) (by omega)) (by omega) (grown_set2 (grown_set2 G10.out (by omega)) (Nat.le_refl _)) ?_
          intro c0 c1; simp [results, Tryd.results35, go_sem, c0, c1]
      · skip
        go_wp2_with fail
        refine (word_any c _ _ C4 (by omega)).mono ?_
        rintro e v5 ⟨n5, _, rfl, hc, hg⟩
        have C5 := Lib.hid (hc.mono (show _ ≤ K + 26 by omega))
        have G5 := Lib.hid (grownC_trans G4.out hg)
        have R5 := Lib.hid (KB.grown R4.out hg (by omega))
        have Z5 := G5.out.size
        clear hc hg
        go_wp2_with fail
        refine (word_any c _ _ C5 (by omega)).mono ?_
        rintro e v6 ⟨n6, _, rfl, hc, hg⟩
        have C6 := Lib.hid (hc.mono (show _ ≤ K + 40 by omega))
        have G6 := Lib.hid (grownC_trans G5.out hg)
        have R6 := Lib.hid (KB.grown R5.out hg (by omega))
        have Z6 := G6.out.size
        clear hc hg
        go_wp2_with fail
        refine (l10Not_any _ _ _).mono ?_
        obtain ⟨x, hx⟩ : ∃ x, bits .andNot .i64 n6 n5 = x := ⟨_, rfl⟩
        rw [hx]
        clear hx
        rintro e v7 ⟨rfl, hb⟩
        have C7 := Lib.hid (C6.out.below hb)
        have G7 := Lib.hid (grownC_trans G6.out (grown_of_below hb))
        have R7 := Lib.hid (KB.below R6.out hb)
        have Z7 := G7.out.size
        clear hb
        have cz := C7.out.lt
        go_wp2_with fail
        have RA := Lib.hid (KB.below R7.out (below1 _ (kO x n5)))
        have CA := Lib.hid (C7.out.below (below1 _ (kO x n5)))
        have GA := Lib.hid (grownC_trans G7.out (grown_of_below (below1 _ (kO x n5))))
        have SA := Lib.hid (KB.new v7 x n5)
        unfold kO at RA CA GA
        obtain ⟨gs, hgs⟩ : ∃ q, v7.heap.size = q := ⟨_, rfl⟩
        rw [hgs] at SA ⊢
        generalize (v7.alloc (.cells #[.int .i64 x, .int .i64 n5] 24)) = u7 at RA CA GA SA ⊢
        have hgs2 : c < gs ∧ w.heap.size < gs := by have := R7.out.lt; omega
        have hne : gs ≠ w.heap.size := by omega
        clear hgs
        refine (one_any c _ 30 _ CA (by omega) (by omega) (by omega)).mono ?_
        rintro e v8 ⟨b2, rfl, hc, hg⟩
        have C8 := Lib.hid (hc.mono (show _ ≤ K + 50 by omega))
        have G8 := Lib.hid (grownC_trans GA.out hg)
        have R8 := Lib.hid (KB.grown RA.out hg (by omega))
        have S8 := Lib.hid (KB.grown SA.out hg (by omega))
        clear hc hg
        cases b2
        · skip
          have s0 := S8.out.c0
          have s1 := S8.out.c1
          have sf0 := S8.out.f 0
          have sf1 := S8.out.f 1
          have r0 := R8.out.c0
          have r1 := R8.out.c1
          have rf0 := R8.out.f 0
          have rf1 := R8.out.f 1
          go_wp2
          refine kshutG (g := w.heap.size) R8.out.set2 (Cur.set2 C8.out (by omega)) (by omega) (grown_set2 G8.out (Nat.le_refl _)) ?_
          intro c0 c1; simp [results, Tryd.results35, go_sem, c0, c1]
        · skip
          go_wp2_with fail
          refine (rawWord_any c _ _ C8 (by omega)).mono ?_
          rintro e v9 ⟨m1, _, rfl, hc, hg⟩
          have C9 := Lib.hid (hc.mono (show _ ≤ K + 70 by omega))
          have G9 := Lib.hid (grownC_trans G8.out hg)
          have R9 := Lib.hid (KB.grown R8.out hg (by omega))
          have S9 := Lib.hid (KB.grown S8.out hg (by omega))
          have Z9 := G9.out.size
          clear hc hg
          go_wp2_with fail
          refine (rawWord_any c _ _ C9 (by omega)).mono ?_
          rintro e v10 ⟨m2, _, rfl, hc, hg⟩
          have C10 := Lib.hid (hc.mono (show _ ≤ K + 90 by omega))
          have G10 := Lib.hid (grownC_trans G9.out hg)
          have R10 := Lib.hid (KB.grown R9.out hg (by omega))
          have S10 := Lib.hid (KB.grown S9.out hg (by omega))
          have Z10 := G10.out.size
          clear hc hg
          have s0 := S10.out.c0
          have s1 := S10.out.c1
          have sf0 := S10.out.f 0
          have sf1 := S10.out.f 1
          have r0 := R10.out.c0
          have r1 := R10.out.c1
          have rf0 := R10.out.f 0
          have rf1 := R10.out.f 1
          go_wp2
          refine kshutG (g := w.heap.size) (KB.set2 (KB.far2 R10.out (Ne.symm hne))) (Cur.set2 (Cur.set2 C10.out (by omega)) (by omega)) (by omega) (grown_set2 (grown_set2 G10.out (by omega)) (Nat.le_refl _)) ?_
          intro c0 c1; simp [results, Tryd.results35, go_sem, c0, c1]
/-- two drawn knowns -/
def Drew2K (w : World) (e : Ending) (w' : World) : Prop := ∃ al ah bl bh : Int, e = .returned (.tuple #[.agg #[.int .i64 al, .int .i64 ah], .agg #[.int .i64 bl, .int .i64 bh]]) ∧ Below w.heap.size w w'
end Go.Proofs.YtmfganodnlnjcaaDoor.Op
