/-
  The walk of the law FnPassed.
-/
import Derived.Test.YtilnegmjnbffhaaDoorRun
import Derived.Test.YtilnegmjnbffhaaDoorRfMath
import Derived.Test.YtilnegmjnbffhaaDoorDrawProg
import Derived.Test.YtilnegmjnbffhaaDoorTwo
import Derived.Test.YtilnegmjnbffhaaDoorBytes
import Derived.Test.YtilnegmjnbffhaaDoorOwnM
import Derived.Test.YtilnegmjnbffhaaDoorSpMust
namespace Go.Proofs.YtilnegmjnbffhaaDoor
open Go.ChangeShapes Go.WideShapes Go.ChangeAt Go.RowKit

theorem run_way {xs : List Stp} {ctx : List Int} (hG : Good xs) (hc : ctxB ctx = true) : ∀ (N : Nat) (m : Mch), GoodM m → m.a < xs.length →
    (0 < N → (runM xs ctx N m).2.2.2[0]? = some m.a) ∧ ((runM xs ctx N m).2.2.2 ≠ [] → 0 < N) ∧ ∀ (i : Nat) (x y : Int), (runM xs ctx N m).2.2.2[i]? = some x → (runM xs ctx N m).2.2.2[i + 1]? = some y → ∃ (a : Nat) (s : Int × Int), x = a ∧ (ktOf xs)[a]? = some s ∧ y ∈ nxI s.1 s.2 a := by
  intro N
  induction N with
  | zero => intro m _ _; exact ⟨fun h => absurd h (Nat.lt_irrefl 0), fun h => absurd rfl h, fun i x y h => by simp [runM] at h⟩
  | succ N ih =>
    intro m hm hlt
    have h0 := hm.a
    obtain ⟨x, hx⟩ : ∃ x, xs[m.a.toNat]? = some x := ⟨_, List.getElem?_eq_getElem (by omega)⟩
    by_cases hf : (doM x ctx m).2.1 = 0
    · cases he : (doM x ctx m).2.2 with
      | true =>
        rw [run_end hx hf he]
        exact ⟨fun _ => rfl, fun _ => Nat.succ_pos N, fun i y z h h2 => by simp at h2⟩
      | false =>
        have hc' : ctx.length = 8 ∧ allB 0 255 ctx = true := by simpa [ctxB] using hc
        obtain ⟨h1, h2, h3, h4⟩ := doM_good (n := xs.length) hG.1.2 hm hc'.2 hc'.1 (hG.2 _ x hx) hf he
        obtain ⟨i1, i2, i3⟩ := ih _ h1 h3
        rw [run_next hx hf he]
        generalize hT : (runM xs ctx N (doM x ctx m).1).2.2.2 = T at i1 i2 i3
        have eT : (glue [m.a] (runM xs ctx N (doM x ctx m).1)).2.2.2 = m.a :: T := by rw [← hT]; rfl
        rw [eT]
        refine ⟨fun _ => rfl, fun _ => Nat.succ_pos N, fun i y z hy hz => ?_⟩
        cases i with
        | zero =>
          simp only [List.getElem?_cons_zero, Option.some.injEq, Nat.zero_add, List.getElem?_cons_succ] at hy hz
          subst hy
          have hne : T ≠ [] := by rintro rfl; simp at hz
          rw [i1 (i2 hne)] at hz
          refine ⟨m.a.toNat, _, (Int.toNat_of_nonneg h0.1).symm, ktOf_at hx, ?_⟩
          rw [← Option.some.inj hz, Int.toNat_of_nonneg h0.1]
          exact h2
        | succ i =>
          simp only [List.getElem?_cons_succ] at hy hz
          exact i3 i y z hy hz
    · rw [run_fault hx hf]
      exact ⟨fun _ => rfl, fun _ => Nat.succ_pos N, fun i y z h h2 => by simp at h2⟩
theorem trace_way {xs : List Stp} {ctx : List Int} (hG : Good xs) (hc : ctxB ctx = true) : WayI (ktOf xs) (runM xs ctx 100 newM).2.2.2 := by
  obtain ⟨h1, _, h3⟩ := run_way hG hc 100 newM newM_good (by have := hG.1.1; show (0 : Int) < _; omega)
  exact ⟨h1 (by omega), h3⟩

/-- what a run answers: register 0, a fault, where, the steps begun, and whether the arguments are valid -/
def runR (g : Bool) (xs : List Stp) (ctx : List Int) (F : Int) : (Int × Int × Int × List Int) × Bool :=
  if g && ctxB ctx && inB 0 100 F then (runM xs ctx F.toNat newM, true) else ((0, 0, 0, []), false)
theorem runR_yes {g : Bool} {xs : List Stp} {ctx : List Int} {F : Int} (h : (g && ctxB ctx && inB 0 100 F) = true) : runR g xs ctx F = (runM xs ctx F.toNat newM, true) := if_pos h
theorem runR_no {g : Bool} {xs : List Stp} {ctx : List Int} {F : Int} (h : (g && ctxB ctx && inB 0 100 F) = false) : runR g xs ctx F = ((0, 0, 0, []), false) := if_neg (by simp [h])
/-- what the program's run answers -/
def GaveRun (w : World) (q : (Int × Int × Int × List Int) × Bool) (e : Ending) (w' : World) : Prop :=
  ∃ A c, e = .returned (.tuple #[.agg #[.slice A q.1.2.2.2.length c, .int .i64 q.1.1, .int .i64 q.1.2.1, .int .i64 q.1.2.2.1], .bool q.2]) ∧ RowOf w w' A c q.1.2.2.2 ∧ Below w.heap.size w w'

set_option maxRecDepth 100000 in
set_option maxHeartbeats 2000000 in
theorem runFor_all (P : Option Addr) (n cap : Nat) (xs : List Stp) (C : Option Addr) (cn cc : Nat) (ctx : List Int) (F : Int) (g : Bool) (w : World)
    (HG : Hid (g = true ↔ Good xs)) (hl : Hid (Lies w P xs)) (HX : Hid (xs.length = n)) (hn : n ≤ 1048576) (hcl : Hid (ILies w C ctx)) (HCX : Hid (ctx.length = cn)) (hcn : cn ≤ 1048576) (HT : Hid (Op.PowTab w)) :
    Calls Tryd.prog 18 #[.slice P n cap, .slice C cn cc, .int .i64 F] w (GaveRun w (runR g xs ctx F)) := by
  cases hv : (g && ctxB ctx && inB 0 100 F)
  case true =>
    simp only [Bool.and_eq_true] at hv
    obtain ⟨⟨rfl, hc⟩, hf⟩ := hv
    obtain ⟨N, rfl⟩ := Int.eq_ofNat_of_zero_le (inB_yes hf).1
    have hN : N ≤ 100 := by have := (inB_yes hf).2; omega
    rw [runR_yes (by simp [hc, hf])]
    refine (runFor_any P n cap xs C cn cc ctx N w (Lib.hid (HG.out.1 rfl)) hl HX (Lib.hid hc) hcl HCX hN HT).mono ?_
    rintro e w' ⟨A, c, rfl, hr, hb⟩
    exact ⟨A, c, rfl, hr, hb⟩
  have RN := Lib.hid (runR_no (xs := xs) hv)
  have KR0 : Hid (Blk (w.alloc (.cells #[.slice none 0 0, .int .i64 0, .int .i64 0, .int .i64 0] 44)) w.heap.size 44 [.slice none 0 0, .int .i64 0, .int .i64 0, .int .i64 0]) := Lib.hid (heap_alloc_new w _)
  have B0 := Lib.hid (below1 w (.cells #[.slice none 0 0, .int .i64 0, .int .i64 0, .int .i64 0] 44))
  go_enter Tryd.func18, Tryd.ntmps18
  go_wp2_with fail
  generalize w.alloc (.cells #[.slice none 0 0, .int .i64 0, .int .i64 0, .int .i64 0] 44) = w0 at KR0 B0 ⊢
  refine (implGood_any _ _ _ xs _ g HG (hl.out.below B0.out) HX hn).mono ?_
  rintro e w1 ⟨rfl, hb1⟩
  have B1 := Lib.hid (Below.tr B0.out hb1)
  have KR1 := Lib.hid (KR0.out.below hb1)
  clear hb1 B0 KR0
  cases g
  · have KR := KR1
    have B := B1
    have v0 : w1.cell? ⟨w.heap.size, 0, none⟩ = some (.slice none 0 0) := KR.out.there rfl
    have v1 : w1.cell? ⟨w.heap.size, 1, none⟩ = some (.int .i64 0) := KR.out.there rfl
    have v2 : w1.cell? ⟨w.heap.size, 2, none⟩ = some (.int .i64 0) := KR.out.there rfl
    have v3 : w1.cell? ⟨w.heap.size, 3, none⟩ = some (.int .i64 0) := KR.out.there rfl
    have q0 := KR.out.frozen 0
    have q1 := KR.out.frozen 1
    have q2 := KR.out.frozen 2
    have q3 := KR.out.frozen 3
    go_wp2
    refine bodyPost_ret (v := .tuple #[.agg #[.slice none 0 0, .int .i64 0, .int .i64 0, .int .i64 0], .bool false]) (by simp [results, Tryd.results18, go_sem, v0, v1, v2, v3]) rfl ⟨none, 0, by rw [RN.out]; rfl, by rw [RN.out]; exact World.ownsRow_nil _ _ _ _, ?_⟩
    exact (((B.out.setCell (by simp) _).setCell (by simp) _).setCell (by simp) _).setCell (by simp) _
  go_wp2_with fail
  refine (isContext_any _ _ _ ctx _ (hcl.out.below B1.out) HCX hcn).mono ?_
  rintro e w2 ⟨rfl, hb2⟩
  have B2 := Lib.hid (Below.tr B1.out hb2)
  have KR2 := Lib.hid (KR1.out.below hb2)
  clear hb2 B1 KR1
  cases hc : ctxB ctx
  · have KR := KR2
    have B := B2
    have v0 : w2.cell? ⟨w.heap.size, 0, none⟩ = some (.slice none 0 0) := KR.out.there rfl
    have v1 : w2.cell? ⟨w.heap.size, 1, none⟩ = some (.int .i64 0) := KR.out.there rfl
    have v2 : w2.cell? ⟨w.heap.size, 2, none⟩ = some (.int .i64 0) := KR.out.there rfl
    have v3 : w2.cell? ⟨w.heap.size, 3, none⟩ = some (.int .i64 0) := KR.out.there rfl
    have q0 := KR.out.frozen 0
    have q1 := KR.out.frozen 1
    have q2 := KR.out.frozen 2
    have q3 := KR.out.frozen 3
    go_wp2
    refine bodyPost_ret (v := .tuple #[.agg #[.slice none 0 0, .int .i64 0, .int .i64 0, .int .i64 0], .bool false]) (by simp [results, Tryd.results18, go_sem, v0, v1, v2, v3]) rfl ⟨none, 0, by rw [RN.out]; rfl, by rw [RN.out]; exact World.ownsRow_nil _ _ _ _, ?_⟩
    exact (((B.out.setCell (by simp) _).setCell (by simp) _).setCell (by simp) _).setCell (by simp) _
  have hi : ¬ (0 ≤ F ∧ F ≤ 100) := by
    rw [hc] at hv
    exact inB_no (by simpa using hv)
  by_cases h0 : F < 0
  · have KR := KR2
    have B := B2
    clear hv
    have v0 : w2.cell? ⟨w.heap.size, 0, none⟩ = some (.slice none 0 0) := KR.out.there rfl
    have v1 : w2.cell? ⟨w.heap.size, 1, none⟩ = some (.int .i64 0) := KR.out.there rfl
    have v2 : w2.cell? ⟨w.heap.size, 2, none⟩ = some (.int .i64 0) := KR.out.there rfl
    have v3 : w2.cell? ⟨w.heap.size, 3, none⟩ = some (.int .i64 0) := KR.out.there rfl
    have q0 := KR.out.frozen 0
    have q1 := KR.out.frozen 1
    have q2 := KR.out.frozen 2
    have q3 := KR.out.frozen 3
    go_wp2
    refine bodyPost_ret (v := .tuple #[.agg #[.slice none 0 0, .int .i64 0, .int .i64 0, .int .i64 0], .bool false]) (by simp [results, Tryd.results18, go_sem, v0, v1, v2, v3]) rfl ⟨none, 0, by rw [RN.out]; rfl, by rw [RN.out]; exact World.ownsRow_nil _ _ _ _, ?_⟩
    exact (((B.out.setCell (by simp) _).setCell (by simp) _).setCell (by simp) _).setCell (by simp) _
  · have h100 : 100 < F := by omega
    have KR := KR2
    have B := B2
    clear hv
    have v0 : w2.cell? ⟨w.heap.size, 0, none⟩ = some (.slice none 0 0) := KR.out.there rfl
    have v1 : w2.cell? ⟨w.heap.size, 1, none⟩ = some (.int .i64 0) := KR.out.there rfl
    have v2 : w2.cell? ⟨w.heap.size, 2, none⟩ = some (.int .i64 0) := KR.out.there rfl
    have v3 : w2.cell? ⟨w.heap.size, 3, none⟩ = some (.int .i64 0) := KR.out.there rfl
    have q0 := KR.out.frozen 0
    have q1 := KR.out.frozen 1
    have q2 := KR.out.frozen 2
    have q3 := KR.out.frozen 3
    go_wp2
    refine bodyPost_ret (v := .tuple #[.agg #[.slice none 0 0, .int .i64 0, .int .i64 0, .int .i64 0], .bool false]) (by simp [results, Tryd.results18, go_sem, v0, v1, v2, v3]) rfl ⟨none, 0, by rw [RN.out]; rfl, by rw [RN.out]; exact World.ownsRow_nil _ _ _ _, ?_⟩
    exact (((B.out.setCell (by simp) _).setCell (by simp) _).setCell (by simp) _).setCell (by simp) _

set_option maxRecDepth 100000 in
set_option maxHeartbeats 2000000 in
theorem implTrace_any (P : Option Addr) (n cap : Nat) (xs : List Stp) (C : Option Addr) (cn cc : Nat) (ctx : List Int) (g : Bool) (w : World)
    (HG : Hid (g = true ↔ Good xs)) (hl : Hid (Lies w P xs)) (HX : Hid (xs.length = n)) (hn : n ≤ 1048576) (hcl : Hid (ILies w C ctx)) (HCX : Hid (ctx.length = cn)) (hcn : cn ≤ 1048576) (HT : Hid (Op.PowTab w)) :
    Calls Tryd.prog 5 #[.slice P n cap, .slice C cn cc] w fun e w' => ∃ A c, e = .returned (.tuple #[.slice A (runR g xs ctx 100).1.2.2.2.length c, .int .i64 (runR g xs ctx 100).1.2.1, .bool (runR g xs ctx 100).2]) ∧ RowOf w w' A c (runR g xs ctx 100).1.2.2.2 ∧ Below w.heap.size w w' := by
  obtain ⟨q, hq⟩ : ∃ q, runR g xs ctx 100 = q := ⟨_, rfl⟩
  rw [hq]
  have HQ := Lib.hid hq
  clear hq
  go_enter Tryd.func5, Tryd.ntmps5
  go_wp2_with fail
  refine (runFor_all P n cap xs C cn cc ctx 100 g w HG hl HX hn hcl HCX hcn HT).mono ?_
  rw [HQ.out]
  rintro e w1 ⟨A, c, rfl, hr1, hb1⟩
  have B1 := Lib.hid hb1
  have R1 := Lib.hid hr1
  clear hb1 hr1
  go_wp2_with fail
  go_quiet (fail)
  go_wp2
  exact bodyPost_ret (v := .tuple #[.slice A q.1.2.2.2.length c, .int .i64 q.1.2.1, .bool q.2]) (by simp [results, Tryd.results5, go_sem]) rfl ⟨A, c, rfl, own_below R1.out (bdrewN (below1 _ _) _), Below.tr B1.out (bdrewN (below1 _ _) _)⟩


theorem ownR_read {w w' : World} {base c n : Nat} {t : TypeId} {v : Value} {xs : List Value} (h : w.ownsRow base t 1 v n xs) (hg : w.grownBy w' (some c)) (hc : c < base) : w'.ownsRow base t 1 v n xs :=
  kept_of h hg (fun g hgb e => by have := (h.lt g hgb).1; have := Option.some.inj e; omega)
theorem grown_appR {w0 w w' : World} {c : Nat} {row : Option Nat} {o : Obj} (h : w0.grownBy w (some c)) (hg : (w.alloc o).grownBy w' row) (hr : ∀ g, row = some g → w0.heap.size ≤ g) : w0.grownBy w' (some c) := by
  have h2 := grownC_trans h (World.grownBy_alloc w o (some c))
  refine ⟨hg.os.trans h2.os, hg.tape.trans h2.tape, hg.output.trans h2.output, Nat.le_trans h2.size hg.size, fun k hk hne => ?_⟩
  rw [hg.block k (Nat.lt_of_lt_of_le hk h2.size) (fun e => by have := hr k e.symm; omega)]
  exact h2.block k hk hne
theorem lit_cells (w : World) (vs : List Int) : ∀ i : Nat, i < vs.length → (w.alloc (.cells (vs.map (Value.int .i64)).toArray 3)).cell? ⟨w.heap.size, i, none⟩ = some (.int .i64 (vs[i]?.getD 0)) := by
  intro i hi
  have hb : Blk (w.alloc (.cells (vs.map (Value.int .i64)).toArray 3)) w.heap.size 3 (vs.map (Value.int .i64)) := heap_alloc_new w _
  rw [hb.cell i, List.getElem?_map, List.getElem?_eq_getElem hi]
  rfl
theorem setGR (w : World) (g : Nat) (u : Value) : w.grownBy (w.setCell ⟨g, 0, none⟩ u) (some g) :=
  ⟨rfl, rfl, rfl, by simp, fun i _ hne => Below.heap_setCell w ⟨g, 0, none⟩ u i (fun e => hne (by rw [e]))⟩
/-- it answers eight numbers of its own, drawn -/
def GaveCtx (c K : Nat) (w : World) (e : Ending) (w' : World) : Prop :=
  ∃ (l : List Int) (A : Option Addr) (cap : Nat), e = .returned (.slice A 8 cap) ∧ l.length = 8 ∧ w'.ownsRow w.heap.size 3 1 (.slice A 8 cap) 8 (l.map (Value.int .i64)) ∧ Cur w' c K ∧ w.grownBy w' (some c)
set_option maxRecDepth 100000 in
set_option maxHeartbeats 4000000 in
theorem ctx_any (c K : Nat) (w : World) (h : Hid (Cur w c K)) (hK : K ≤ 800000000) :
    Calls Tryd.prog 17 #[.pointer (some ⟨c, 0, none⟩)] w (GaveCtx c (K + 100) w) := by
  obtain ⟨i0, hi0, hz0, hz1, hz2⟩ := info_parts info_int
  have hcl : Hid (c < w.heap.size) := Lib.hid h.out.lt
  go_enter Tryd.func17, Tryd.ntmps17
  go_wp2_with fail
  go_loopw [3, 4] (fun u i wr => ∃ (k : Nat) (l : List Int), k ≤ 8 ∧ i = .int .i64 k ∧ l.length = k ∧ (∃ A cap, u = .slice A k cap ∧ wr.ownsRow w.heap.size 3 1 (.slice A k cap) k (l.map (Value.int .i64))) ∧ Cur wr c (K + 6 * k) ∧ w.grownBy wr (some c)) (fun _ i _ => 8 - (intOf i).toNat)
  case atStart => exact ⟨0, [], Nat.zero_le _, rfl, rfl, ⟨none, 0, rfl, World.ownsRow_nil _ _ _ _⟩, h.out, World.grownBy.refl _ _⟩
  case round =>
    clear h
    obtain ⟨k, l, hk, rfl, hl, ⟨A, cap, rfl, hown⟩, hc, hg⟩ := hrel
    have OW := Lib.hid hown
    have CW := Lib.hid hc
    have GW := Lib.hid hg
    have HL := Lib.hid hl
    clear hown hc hg hl
    by_cases hlt : k < 8
    · go_wp2_with fail
      refine (pick_any c _ _ _ CW (by omega) (by omega) (by omega)).mono ?_
      rintro e w1 ⟨n1, _, rfl, hc1, hg1⟩
      have O1 := Lib.hid (ownR_read OW.out hg1 hcl.out)
      have G1 := Lib.hid (grownC_trans GW.out hg1)
      have BA := below1 w1 (.cells #[.int .i64 0, .int .i64 1, .int .i64 7, .int .i64 8, .int .i64 255, .int .i64 n1] 3)
      have C1 := Lib.hid (hc1.below BA)
      have O2 := Lib.hid (own_below O1.out BA)
      have G2 := Lib.hid (grownC_trans G1.out (grown_of_below BA))
      have hcw : c < w1.heap.size := hc1.lt
      have VC : Hid ([0, 1, 7, 8, 255, n1].length = 6 ∧ ∀ i : Nat, i < 6 → (w1.alloc (.cells #[.int .i64 0, .int .i64 1, .int .i64 7, .int .i64 8, .int .i64 255, .int .i64 n1] 3)).cell? ⟨w1.heap.size, i, none⟩ = some (.int .i64 ([0, 1, 7, 8, 255, n1][i]?.getD 0))) := Lib.hid ⟨rfl, lit_cells w1 [0, 1, 7, 8, 255, n1]⟩
      clear hc1 hg1 BA O1 G1 OW CW GW
      go_wp2_with fail
      refine (among_any c _ w1.heap.size 6 [0, 1, 7, 8, 255, n1] _ C1 (by omega) (by omega) (by omega) (by omega) VC).mono ?_
      rintro e w3 ⟨x, _, rfl, hc3, hg3⟩
      have O3 := Lib.hid (ownR_read O2.out hg3 hcl.out)
      have C3 := Lib.hid hc3
      have G3 := Lib.hid (grownC_trans G2.out hg3)
      clear hc3 hg3 C1 O2 G2 VC
      go_wp2_with (at_builtin; (refine wpList_append_lies _ rfl _ _ 24 rfl w.heap.size 3 i0 (.int .i64 0) 1 8 Tryd.underlying24 hi0 hz0 hz1 hz2 rfl (by omega) _ k _ rfl (O3.out.alloc _) ⟨w3.heap.size, 0, none⟩ 1 1 [.int .i64 x] rfl rfl (one_newT w3 _ _) (by intro u hu; rw [List.mem_singleton.1 hu]; rfl) (by omega) (by unfold maxLen; omega) (by omega) (by have := G3.out.size; first | omega | (simp; omega)) (w3.heap.size + 1) (by first | rfl | simp) ?_; intro g4 cap4 w4 hown4 hg4 hat4 hlt4; have O4 := Lib.hid hown4; have C4 := Lib.hid ((C3.out.alloc _).grown hg4 (fun g e => by have := (O3.out.lt g e).1; have := hcl.out; omega)); have G4 := Lib.hid (grown_appR G3.out hg4 (fun g e => (O3.out.lt g e).1)); clear hown4 hg4 hat4 hlt4))
      go_roundw
      case rel => exact ⟨k + 1, l ++ [x], by omega, by go_num, by rw [List.length_append, HL.out]; rfl, ⟨some ⟨g4, 0, none⟩, cap4, rfl, by rw [List.map_append]; exact O4.out⟩, C4.out.mono (by omega), G4.out⟩
      case measure => simp [intOf]; omega
    · obtain rfl : k = 8 := by omega
      go_wp2_with fail
      refine (one_any c _ _ _ CW (by omega) (by omega) (by omega)).mono ?_
      rintro e w1 ⟨b, rfl, hc1, hg1⟩
      have C1 := Lib.hid hc1
      have O1 := Lib.hid (ownR_read OW.out hg1 hcl.out)
      have G1 := Lib.hid (grownC_trans GW.out hg1)
      clear hc1 hg1 OW CW GW
      cases b
      · go_wp2
        go_ret
        exact ⟨l, A, cap, rfl, HL.out, O1.out, C1.out.mono (by omega), G1.out⟩
      · obtain ⟨g, cpx, hv9, hbg9, hgl9⟩ := O1.out.form (by omega)
        have hA : A = some ⟨g, 0, none⟩ := by injection hv9
        clear hv9
        subst hA
        have BA := below1 w1 (.cells #[.int .i64 (-1), .int .i64 256] 3)
        have hcw : c < w1.heap.size := C1.out.lt
        have CA := Lib.hid (C1.out.below BA)
        have OA := Lib.hid (own_below O1.out BA)
        have GA := Lib.hid (grownC_trans G1.out (grown_of_below BA))
        have VC : Hid ([-1, 256].length = 2 ∧ ∀ i : Nat, i < 2 → (w1.alloc (.cells #[.int .i64 (-1), .int .i64 256] 3)).cell? ⟨w1.heap.size, i, none⟩ = some (.int .i64 (([-1, 256] : List Int)[i]?.getD 0))) := Lib.hid ⟨rfl, lit_cells w1 [-1, 256]⟩
        clear BA O1 G1 C1
        go_wp2_with fail
        refine (among_any c _ w1.heap.size 2 [-1, 256] _ CA (by omega) (by omega) (by omega) (by omega) VC).mono ?_
        rintro e w3 ⟨x, _, rfl, hc3, hg3⟩
        have O3 := Lib.hid (ownR_read OA.out hg3 hcl.out)
        have C3 := Lib.hid hc3
        have G3 := Lib.hid (grownC_trans GA.out hg3)
        clear hc3 hg3 CA OA GA VC
        obtain ⟨y, hy⟩ : ∃ y, l[0]? = some y := ⟨_, List.getElem?_eq_getElem (by have := HL.out; omega)⟩
        have t0 : w3.cell? ⟨g, 0, none⟩ = some (.int .i64 y) := own_cell O3.out (by rw [List.getElem?_map, hy]; rfl)
        have f0 := own_frozen O3.out 0
        have O4 : Hid ((w3.setCell ⟨g, 0, none⟩ (.int .i64 x)).ownsRow w.heap.size 3 1 (.slice (some ⟨g, 0, none⟩) 8 cap) 8 ((l.set 0 x).map (Value.int .i64))) := Lib.hid (by have := (O3.out.stored 0 (.int .i64 x)).1; rw [← List.map_set] at this; exact this)
        have HS : Hid ((l.set 0 x).length = 8) := Lib.hid (by rw [List.length_set]; exact HL.out)
        have C4 : Hid (Cur (w3.setCell ⟨g, 0, none⟩ (.int .i64 x)) c (K + 6 * 8 + 2 + 2)) := Lib.hid (C3.out.grown (setGR w3 g (.int .i64 x)) (fun g' e => by have := Option.some.inj e; have := hcl.out; omega))
        have G4 : Hid (w.grownBy (w3.setCell ⟨g, 0, none⟩ (.int .i64 x)) (some c)) := Lib.hid ⟨G3.out.os, G3.out.tape, G3.out.output, Nat.le_trans G3.out.size (by simp), fun i hi hne => (Below.heap_setCell w3 ⟨g, 0, none⟩ _ i (show i ≠ g by omega)).trans (G3.out.block i hi hne)⟩
        clear O3 C3 G3 hy
        go_wp2
        go_ret
        exact ⟨l.set 0 x, some ⟨g, 0, none⟩, cap, rfl, HS.out, O4.out, C4.out.mono (by omega), G4.out⟩
/-- a drawn program and a drawn context -/
def DrewPC (w : World) (e : Ending) (w' : World) : Prop :=
  ∃ (xs : List Stp) (l : List Int) (A B : Option Addr) (c1 c2 : Nat), e = .returned (.tuple #[.slice A xs.length c1, .slice B 8 c2]) ∧ (1 ≤ xs.length ∧ xs.length ≤ 20) ∧ l.length = 8 ∧ Lies w' A xs ∧ ILies w' B l ∧ Below w.heap.size w w'
set_option maxRecDepth 100000 in
set_option maxHeartbeats 2000000 in
theorem drawTrace_any (a0 : Option Addr) (len cap : Nat) (w : World) (h : Hid (Bytes w a0 len)) :
    Calls Tryd.prog 4 #[.slice a0 len cap] w (DrewPC w) := by
  go_enter Tryd.func4, Tryd.ntmps4
  go_wp2_with fail
  refine (program_any w.heap.size 0 _ (Cur.new h.out) (by omega)).mono ?_
  rintro e w1 ⟨xs, A, c1, rfl, hx, hc, ho, hg, hcl⟩
  have C1 := Lib.hid hc
  have O1 := Lib.hid ho
  have G1 := Lib.hid hg
  have HCL := Lib.hid hcl
  clear hc ho hg hcl
  go_wp2_with fail
  refine (ctx_any w.heap.size _ _ C1 (by omega)).mono ?_
  rintro e w2 ⟨l, B, c2, rfl, hl, ho2, hc2, hg2⟩
  have LI : Hid (Lies w2 A xs) := Lib.hid (own_lies' (kept_of O1.out hg2 (fun g hgb e => by have h1 := (O1.out.lt g hgb).1; have h2 := Option.some.inj e; simp at h1; omega)))
  have CI := Lib.hid (own_ilies ho2)
  have B2 := Lib.hid (below_new (grownC_trans G1.out hg2))
  clear ho2 hc2 hg2 C1 O1 G1
  go_wp2
  go_ret2
  exact ⟨xs, l, A, B, c1, c2, rfl, hx, hl, LI.out, CI.out, B2.out⟩
/-- a drawn program, a drawn context, and how much fuel there is -/
def DrewPCF (w : World) (e : Ending) (w' : World) : Prop :=
  ∃ (xs : List Stp) (l : List Int) (F : Int) (A B : Option Addr) (c1 c2 : Nat), e = .returned (.tuple #[.slice A xs.length c1, .slice B 8 c2, .int .i64 F]) ∧ (1 ≤ xs.length ∧ xs.length ≤ 20) ∧ l.length = 8 ∧ Lies w' A xs ∧ ILies w' B l ∧ Below w.heap.size w w'

/-- a drawn program and an index -/
def DrewN (w : World) (e : Ending) (w' : World) : Prop :=
  ∃ (xs : List Stp) (A : Option Addr) (cap : Nat) (at_ : Int), e = .returned (.tuple #[.slice A xs.length cap, .int .i64 at_]) ∧ (1 ≤ xs.length ∧ xs.length ≤ 20) ∧ (-1 ≤ at_ ∧ at_ ≤ xs.length) ∧ w'.ownsRow w.heap.size 67 6 (.slice A xs.length cap) xs.length (cellsOf xs) ∧ Below w.heap.size w w'
set_option maxRecDepth 100000 in
set_option maxHeartbeats 1000000 in
theorem drawNexts_any (a0 : Option Addr) (len cap : Nat) (w : World) (h : Hid (Bytes w a0 len)) :
    Calls Tryd.prog 28 #[.slice a0 len cap] w (DrewN w) := by
  go_enter Tryd.func28, Tryd.ntmps28
  go_wp2_with fail
  refine (program_any w.heap.size 0 _ (Cur.new h.out) (by omega)).mono ?_
  rintro e w1 ⟨xs, A, cp, rfl, hl, hp⟩
  have P1 := Lib.hid hp
  clear hp
  obtain ⟨n, hn⟩ : ∃ n, xs.length = n := ⟨_, rfl⟩
  rw [hn] at hl ⊢
  have HN := Lib.hid hn
  clear hn
  have hn1 : 1 ≤ n := hl.1
  have hn2 : n ≤ 20 := hl.2
  clear hl
  go_wp2_with fail
  refine (pickP _ w.heap.size _ xs A cp _ _ P1 (by omega) (by omega) (by omega)).mono ?_
  rintro e w2 ⟨k, ⟨hk1, hk2⟩, rfl, hp2⟩
  have P2 := Lib.hid hp2
  clear hp2
  go_wp2
  go_ret2
  exact ⟨xs, A, cp, k - 1, by rw [HN.out]; rfl, by rw [HN.out]; omega, by rw [HN.out]; omega, own_base P2.out.2.1 (by simp), below_new P2.out.2.2.1⟩
theorem own_liesN {w : World} {base n cap : Nat} {A : Option Addr} {t : TypeId} {xs : List Stp} (h : w.ownsRow base t 6 (.slice A n cap) n (cellsOf xs)) (hx : xs.length = n) : Lies w A xs := by
  intro i x hi
  have hlt : i < xs.length := (List.getElem?_eq_some_iff.1 hi).1
  obtain ⟨g, cp, hv, _, hg⟩ := h.form (by omega)
  have hA : A = some ⟨g, 0, none⟩ := by injection hv
  subst hA
  exact own_lies h i x hi
/-- a drawn program, from the bytes that came in -/
def DrewProg (w : World) (e : Ending) (w' : World) : Prop :=
  ∃ (xs : List Stp) (A : Option Addr) (cap : Nat), e = .returned (.slice A xs.length cap) ∧ (1 ≤ xs.length ∧ xs.length ≤ 20) ∧ w'.ownsRow w.heap.size 67 6 (.slice A xs.length cap) xs.length (cellsOf xs) ∧ Below w.heap.size w w'

set_option maxRecDepth 100000 in
set_option maxHeartbeats 2000000 in
theorem sameInts_same (A B : Option Addr) (n c1 c2 : Nat) (l : List Int) (w : World) (hl : Hid (ILies w A l)) (hl2 : Hid (ILies w B l)) (hx : Hid (l.length = n)) (hn : n ≤ 10000000) :
    Calls Tryd.prog 10 #[.slice A n c1, .slice B n c2] w fun e w' => e = .returned (.bool true) ∧ Below w.heap.size w w' := by
  have hnn : ((n : Int) != (n : Int)) = false := by simp
  go_enter Tryd.func10, Tryd.ntmps10
  go_wp2_with fail
  go_loopw [13] (fun i wr => ∃ k : Nat, k ≤ n ∧ i = .int .i64 k ∧ Below w.heap.size w wr) (fun i _ => n - (intOf i).toNat)
  case atStart => exact ⟨0, Nat.zero_le _, rfl, Below.refl _ _⟩
  case round =>
    obtain ⟨k, hk, rfl, hb⟩ := hrel
    have B1 := Lib.hid hb
    clear hb
    by_cases hlt : k < n
    · obtain ⟨y, hy⟩ : ∃ y, l[k]? = some y := ⟨_, List.getElem?_eq_getElem (by have := hx.out; omega)⟩
      obtain ⟨b, off, rfl, hbl, hc⟩ := (hl.out.below B1.out) k y hy
      obtain ⟨b2, off2, rfl, hbl2, hc2⟩ := (hl2.out.below B1.out) k y hy
      clear hy
      have hyy : (y != y) = false := by simp
      go_wp2_with fail
      go_quiet (fail)
      go_wp2
      go_roundw
      case rel => exact ⟨k + 1, by omega, by go_num, bdrewN B1.out _⟩
      case measure => simp [intOf]; omega
    · obtain rfl : k = n := by omega
      go_wp2
      go_ret
      exact ⟨rfl, B1.out⟩
set_option maxRecDepth 100000 in
set_option maxHeartbeats 1000000 in
theorem hasL_any (A : Option Addr) (n cap : Nat) (l : List Int) (y : Int) (w : World) (hl : Hid (ILies w A l)) (HX : Hid (l.length = n)) (hn : n ≤ 9223372036854775807) :
    Calls Tryd.prog 12 #[.slice A n cap, .int .i64 y] w fun e w' => e = .returned (.bool (decide (y ∈ l))) ∧ w = w' := by
  go_enter Tryd.func12, Tryd.ntmps12
  go_wp2_with fail
  go_loop [9] (fun i => ∃ k : Nat, k ≤ n ∧ i = .int .i64 k ∧ y ∉ l.take k) (fun i => n - (intOf i).toNat)
  case atStart => exact ⟨0, Nat.zero_le _, rfl, by simp⟩
  case round =>
    obtain ⟨k, hk, rfl, hnot⟩ := hrel
    have HN := Lib.hid hnot
    clear hnot
    by_cases hlt : k < n
    · obtain ⟨x, hx⟩ : ∃ x, l[k]? = some x := ⟨_, List.getElem?_eq_getElem (by have := HX.out; omega)⟩
      obtain ⟨b, off, rfl, hbl, ha⟩ := hl.out k x hx
      have HT := Lib.hid (take_snoc hx)
      have HM := Lib.hid (List.mem_of_getElem? hx)
      clear hx
      cases q : (x == y)
      · go_wp2
        go_round
        case rel => exact ⟨k + 1, by omega, by go_num, by rw [HT.out]; simp at q; simp; exact ⟨HN.out, fun e => q e.symm⟩⟩
        case measure => simp [intOf]; omega
      · have E : Hid (decide (y ∈ l) = true) := Lib.hid (by simp at q; subst q; simpa using HM.out)
        go_wp2
        go_ret
        exact ⟨ret_bool E.out.symm, rfl⟩
    · obtain rfl : k = n := by omega
      have E : Hid (decide (y ∈ l) = false) := Lib.hid (by have := HN.out; rw [List.take_of_length_le (by have := HX.out; omega)] at this; simpa using this)
      go_wp2
      go_ret
      exact ⟨ret_bool E.out.symm, rfl⟩
set_option maxRecDepth 100000 in
set_option maxHeartbeats 1000000 in
theorem drawMust_any (a0 : Option Addr) (len cap : Nat) (w : World) (h : Hid (Bytes w a0 len)) :
    Calls Tryd.prog 13 #[.slice a0 len cap] w (DrewN w) := by
  go_enter Tryd.func13, Tryd.ntmps13
  go_wp2_with fail
  refine (drawNexts_any a0 len cap _ h).mono ?_
  rintro e w1 ⟨xs, A, cp, at_, rfl, hl, hat, ho, hb⟩
  have O1 := Lib.hid ho
  have B1 := Lib.hid hb
  clear ho hb
  go_wp2
  go_ret2
  exact ⟨xs, A, cp, at_, rfl, hl, hat, O1.out, B1.out⟩

theorem runM_lenP (xs : List Stp) (ctx : List Int) (k : Nat) : ∀ m : Mch, (runM xs ctx k m).2.2.2.length ≤ k := by
  induction k with
  | zero => intro m; simp [runM]
  | succ k ih =>
    intro m
    unfold runM
    split
    · simp
    · rename_i x _
      split
      · simp
      · split
        · simp
        · have := ih (doM x ctx m).1
          simp only [List.length_cons]
          omega
theorem row_cap {w w' : World} {A : Option Addr} {c n : Nat} {T : List Int} (h : RowOf w w' A c T) (hn : T.length = n) : n ≤ c := by
  rcases Nat.eq_zero_or_pos n with h0 | h0
  · omega
  · subst hn
    rcases h.2 with ⟨_, h1⟩ | ⟨g, cp, cur, hv, _, _, hc, _⟩
    · omega
    · injection hv with h1 h2 h3
      omega
theorem ilies_take {w : World} {A : Option Addr} {l : List Int} (h : ILies w A l) (k : Nat) : ILies w A (l.take k) := by
  intro i x hi
  rw [List.getElem?_take] at hi
  split at hi
  · exact h i x hi
  · cases hi
set_option maxRecDepth 100000 in
set_option maxHeartbeats 16000000 in
theorem lawPassed (a0 : Option Addr) (len0 cap0 : Nat) (a1 : Option Addr) (len1 cap1 : Nat) (w : World) (h0 : Hid (Bytes w a0 len0)) (h1 : Hid (Bytes w a1 len1)) (ht : Hid (Op.PowTab w)) :
    Calls Tryd.prog 3 #[.slice a0 len0 cap0, .slice a1 len1 cap1] w fun e w' => e = .returned (.bool true) ∧ Below w.heap.size w w' := by
  go_enter Tryd.func3, Tryd.ntmps3
  go_wp2_with fail
  · go_ret
    exact ⟨rfl, Below.refl _ _⟩
  refine (drawTrace_any a0 len0 cap0 _ h0).mono ?_
  rintro e w1 ⟨xs, ctx, A, B, c1, c2, rfl, hlx, hcx, hl, hil, hb⟩
  have LX := Lib.hid hl
  have LC := Lib.hid hil
  have HCX := Lib.hid hcx
  obtain ⟨n, hn⟩ : ∃ n, xs.length = n := ⟨_, rfl⟩
  rw [hn] at hlx ⊢
  have HN := Lib.hid hn
  have hn20 : n ≤ 20 := hlx.2
  obtain ⟨g, hg⟩ := good_bool xs
  have HG := Lib.hid hg
  clear hl hil hcx hn hlx hg
  have BB := Lib.hid hb
  clear hb
  by_cases hT : Good xs ∧ ctxB ctx = true
  · skip
    have GX := Lib.hid hT.1
    have HQ : Hid (runR g xs ctx 100 = (runM xs ctx 100 newM, true)) := Lib.hid (runR_yes (by have h1 := HG.out.2 hT.1; subst h1; rw [hT.2]; rfl))
    have hway := trace_way hT.1 hT.2
    have hlen : (runM xs ctx 100 newM).2.2.2.length ≤ 100 := runM_lenP xs ctx 100 newM
    clear hT
    generalize runM xs ctx 100 newM = Q at HQ hway hlen
    obtain ⟨r1, r2, r3, t⟩ := Q
    simp only at hway hlen
    have HW := Lib.hid hway
    obtain ⟨tn, htn⟩ : ∃ n, t.length = n := ⟨_, rfl⟩
    have HTN := Lib.hid htn
    have ht100 : tn ≤ 100 := by omega
    clear hway hlen htn
    have RN : Hid (TwoRes (Good xs) (nearR xs) true (nearR xs)) := Lib.hid ⟨⟨fun _ => GX.out, fun _ => rfl⟩, (fun e => by cases e), fun _ => rfl⟩
    have RR : Hid (TwoRes (Good xs) (reachR xs) true (reachR xs)) := Lib.hid ⟨⟨fun _ => GX.out, fun _ => rfl⟩, (fun e => by cases e), fun _ => rfl⟩
    have HNL : Hid ((nearR xs).length = n) := Lib.hid (by unfold nearR nearF; rw [List.length_map, List.length_range]; exact HN.out)
    obtain ⟨rn, hrn⟩ : ∃ z, (reachR xs).length = z := ⟨_, rfl⟩
    have HRL := Lib.hid hrn
    have hrn20 : rn ≤ 20 := by rw [← hrn]; unfold reachR; have := reach_len (eOf xs) xs.length 0; have := HN.out; omega
    clear hrn
    go_wp2_with fail
    refine (implTrace_any _ _ _ xs _ _ _ ctx g _ HG LX HN (by omega) LC HCX (by omega) (Lib.hid (powTab_below ht.out BB.out))).mono ?_
    rw [HQ.out]
    simp only
    rintro e w2 ⟨At, ct, rfl, ho, hb⟩
    have IT := Lib.hid (own_ilies ho)
    have HCT : Hid (tn ≤ ct) := Lib.hid (row_cap ho HTN.out)
    rw [HTN.out]
    clear ho
    replace BB := Lib.hid (Below.tr BB.out hb)
    replace LX := Lib.hid (LX.out.below hb)
    replace LC := Lib.hid (LC.out.below hb)
    clear hb
    go_wp2_with fail
    refine (implNear_any _ _ _ xs _ true (nearR xs) RN LX HN (by omega)).mono ?_
    rintro e w3 ⟨A4, c4, rfl, ho, hb⟩
    have I4 := Lib.hid (own_ilies ho)
    clear ho
    replace BB := Lib.hid (Below.tr BB.out hb)
    replace LX := Lib.hid (LX.out.below hb)
    replace LC := Lib.hid (LC.out.below hb)
    replace IT := Lib.hid (IT.out.below hb)
    clear hb
    rw [HNL.out]
    go_wp2_with fail
    refine (specNear_any _ _ _ xs _ true (nearR xs) RN LX HN (by omega)).mono ?_
    rintro e w4 ⟨A5, c5, rfl, ho, hb⟩
    have I5 := Lib.hid (own_ilies ho)
    clear ho
    replace BB := Lib.hid (Below.tr BB.out hb)
    replace LX := Lib.hid (LX.out.below hb)
    replace LC := Lib.hid (LC.out.below hb)
    replace IT := Lib.hid (IT.out.below hb)
    replace I4 := Lib.hid (I4.out.below hb)
    clear hb
    rw [HNL.out]
    go_wp2_with fail
    refine (implReached_any _ _ _ xs _ true (reachR xs) RR LX HN (by omega)).mono ?_
    rintro e w5 ⟨A6, c6, rfl, ho, hb⟩
    have I6 := Lib.hid (own_ilies ho)
    clear ho
    replace BB := Lib.hid (Below.tr BB.out hb)
    replace LX := Lib.hid (LX.out.below hb)
    replace LC := Lib.hid (LC.out.below hb)
    replace IT := Lib.hid (IT.out.below hb)
    replace I4 := Lib.hid (I4.out.below hb)
    replace I5 := Lib.hid (I5.out.below hb)
    clear hb
    rw [HRL.out]
    go_wp2_with fail
    refine (specReached_any _ _ _ xs _ true (reachR xs) RR LX HN (by omega)).mono ?_
    rintro e w6 ⟨A7, c7, rfl, ho, hb⟩
    have I7 := Lib.hid (own_ilies ho)
    clear ho
    replace BB := Lib.hid (Below.tr BB.out hb)
    replace LX := Lib.hid (LX.out.below hb)
    replace LC := Lib.hid (LC.out.below hb)
    replace IT := Lib.hid (IT.out.below hb)
    replace I4 := Lib.hid (I4.out.below hb)
    replace I5 := Lib.hid (I5.out.below hb)
    replace I6 := Lib.hid (I6.out.below hb)
    clear hb
    rw [HRL.out]
    go_wp2_with fail
    refine (sameInts_same _ _ _ _ _ (nearR xs) _ I4 I5 HNL (by omega)).mono ?_
    rintro e w7 ⟨rfl, hb⟩
    replace BB := Lib.hid (Below.tr BB.out hb)
    replace LX := Lib.hid (LX.out.below hb)
    replace LC := Lib.hid (LC.out.below hb)
    replace IT := Lib.hid (IT.out.below hb)
    replace I4 := Lib.hid (I4.out.below hb)
    replace I5 := Lib.hid (I5.out.below hb)
    replace I6 := Lib.hid (I6.out.below hb)
    replace I7 := Lib.hid (I7.out.below hb)
    clear hb
    go_wp2_with fail
    refine (sameInts_same _ _ _ _ _ (reachR xs) _ I6 I7 HRL (by omega)).mono ?_
    rintro e w8 ⟨rfl, hb⟩
    replace BB := Lib.hid (Below.tr BB.out hb)
    replace LX := Lib.hid (LX.out.below hb)
    replace LC := Lib.hid (LC.out.below hb)
    replace IT := Lib.hid (IT.out.below hb)
    replace I4 := Lib.hid (I4.out.below hb)
    replace I5 := Lib.hid (I5.out.below hb)
    replace I6 := Lib.hid (I6.out.below hb)
    replace I7 := Lib.hid (I7.out.below hb)
    clear hb
    clear I5 I7 LC
    go_wp2_with fail
    obtain ⟨w0c, hw0c⟩ : ∃ x, x = w8 := ⟨_, rfl⟩
    subst hw0c
    go_loopw [102] (fun iv wr => ∃ k : Nat, k ≤ tn ∧ iv = .int .i64 k ∧ Below w0c.heap.size w0c wr) (fun i _ => tn - (intOf i).toNat)
    case atStart => exact ⟨0, Nat.zero_le _, rfl, Below.refl _ _⟩
    case round =>
      obtain ⟨k, hk, rfl, hbb⟩ := hrel
      have C1 := Lib.hid hbb
      clear hbb
      by_cases hlt : k < tn
      · skip
        obtain ⟨x, hx⟩ : ∃ x, t[k]? = some x := ⟨_, List.getElem?_eq_getElem (by have := HTN.out; omega)⟩
        obtain ⟨a, rfl, hal, hra, hsub, htop⟩ := passed_at (good_kt GX.out) (by rw [ktOf_len]; exact good_pos GX.out) HW.out hx
        rw [ktOf_len, HN.out] at hal
        obtain ⟨b6, off6, rfl, hb6, hc6⟩ := (IT.out.below C1.out) k _ hx
        have HRA := Lib.hid hra
        obtain ⟨D, hD⟩ : ∃ D, domL (edg (ktOf xs)) a = D := ⟨_, rfl⟩
        rw [hD] at hsub htop
        have eD : mustR xs a = castL D := by unfold mustR; rw [Int.toNat_natCast, hD]
        have RD : Hid (TwoRes (ThereR xs n (a : Int)) (mustR xs (a : Int)) true (castL D)) := Lib.hid ⟨⟨fun _ => ⟨⟨GX.out, by omega, by omega⟩, HRA.out⟩, fun _ => rfl⟩, (fun e => by cases e), fun _ => eD.symm⟩
        have hdl : D.length ≤ 21 := by have := dom_len (edg (ktOf xs)) a; rw [hD] at this; omega
        obtain ⟨dn, hdn⟩ : ∃ z, D.length = z := ⟨_, rfl⟩
        have HDN : Hid ((castL D).length = dn) := Lib.hid (by rw [castL_len]; exact hdn)
        have hdn21 : dn ≤ 21 := by omega
        have HSUB := Lib.hid hsub
        have HTOP := Lib.hid htop
        have HMEM : Hid (decide ((a : Int) ∈ reachR xs) = true) := Lib.hid (by rw [decide_eq_true_eq]; unfold reachR; rw [castL_mem', mem_reach, HN.out]; exact ⟨hal, HRA.out⟩)
        have hk' : (k : Int) < (tn : Int) := by omega
        have hct := HCT.out
        clear hx hra hsub htop hD eD hdl
        go_wp2_with fail
        refine (implMust_any _ _ _ (a : Int) xs _ true (castL D) RD (Lib.hid (LX.out.below C1.out)) HN (by omega)).mono ?_
        rintro e w19 ⟨A17, c17, rfl, ho, hb⟩
        have IM := Lib.hid (own_ilies ho)
        have C2 := Lib.hid (Below.tr C1.out hb)
        have IT2 := Lib.hid (IT.out.below C2.out)
        have I42 := Lib.hid (I4.out.below C2.out)
        have I62 := Lib.hid (I6.out.below C2.out)
        rw [HDN.out]
        clear ho hb
        go_wp2_with fail
        refine (hasL_any _ _ _ (reachR xs) (a : Int) _ I62 HRL (by omega)).mono ?_
        rintro e w' ⟨rfl, rfl⟩
        rw [HMEM.out]
        go_wp2_with fail
        go_loop [123] (fun iv => ∃ j : Nat, j ≤ dn ∧ iv = .int .i64 j) (fun i => dn - (intOf i).toNat)
        case atStart => exact ⟨0, Nat.zero_le _, rfl⟩
        case round =>
          obtain ⟨j, hj, rfl⟩ := hrel
          by_cases hlj : j < dn
          · skip
            obtain ⟨z, hz⟩ : ∃ z, D[j]? = some z := ⟨_, List.getElem?_eq_getElem (by omega)⟩
            obtain ⟨b28, off28, rfl, hb28, hc28⟩ := IM.out j _ (castL_at hz)
            have HZ : Hid (decide ((z : Int) ∈ t.take (k + 1)) = true) := Lib.hid (by rw [decide_eq_true_eq]; exact HSUB.out _ (castL_mem'.2 (List.mem_of_getElem? hz)))
            have ITK := Lib.hid (ilies_take IT2.out (k + 1))
            have HTK : Hid ((t.take (k + 1)).length = k + 1) := Lib.hid (by rw [List.length_take, HTN.out]; omega)
            have hj' : (j : Int) < (dn : Int) := by omega
            have hk1 : ((k : Int) + 1) ≤ (ct : Int) := by omega
            clear hz
            go_wp2_with fail
            refine (hasL_any _ _ _ (t.take (k + 1)) (z : Int) _ ITK HTK (by omega)).mono ?_
            rintro e w' ⟨rfl, rfl⟩
            rw [HZ.out]
            go_wp2
            go_round
            case rel => exact ⟨j + 1, by omega, by go_num⟩
            case measure => simp [intOf]; omega
          · skip
            obtain rfl : j = dn := by omega
            rcases Nat.eq_zero_or_pos a with ha0 | ha0
            · skip
              have hgt : ¬ (0 < a) := by omega
              clear ha0
              go_wp2_with fail
              go_quiet (fail)
              go_wp2
              go_roundw
              case rel => exact ⟨k + 1, by omega, by go_num, bdrewN C2.out _⟩
              case measure => simp [intOf]; omega
            · skip
              obtain ⟨h2, d, hd, hnd⟩ := HTOP.out ha0
              rw [hdn] at h2 hd
              obtain ⟨q, hq⟩ : ∃ q, j - 2 = q := ⟨_, rfl⟩
              rw [hq] at hd
              obtain ⟨b31, off31, rfl, hb31, hc31⟩ := IM.out q _ (castL_at hd)
              obtain ⟨b32, off32, rfl, hb32, hc32⟩ := I42.out a (d : Int) (by unfold nearR; rw [← hnd]; unfold nearF nearL; rw [ktOf_len])
              have hgt : 0 < a := ha0
              have h2l : ¬ ((j : Int) < 2) := by omega
              have han : ¬ ((n : Int) ≤ (a : Int)) := by omega
              have han2 : (a : Int) < (n : Int) := by omega
              have hj2 : (j : Int) - 2 = (q : Int) := by omega
              have hwq : IntKind.i64.wrap (q : Int) = (q : Int) := by rw [IntKind.wrap_i64]; omega
              have hqj : q < j := by omega
              have hqj2 : (q : Int) < (j : Int) := by omega
              have hdd : ((d : Int) != (d : Int)) = false := by simp
              clear ha0 hd hnd hq
              go_wp2_with fail
              go_quiet (fail)
              go_wp2
              go_roundw
              case rel => exact ⟨k + 1, by omega, by go_num, bdrewN C2.out _⟩
              case measure => simp [intOf]; omega
      · skip
        obtain rfl : k = tn := by omega
        replace BB := Lib.hid (Below.tr BB.out C1.out)
        clear IT I4 I6 LX
        go_wp2_with fail
        refine (drawMust_any a1 len1 cap1 _ (Lib.hid (h1.out.below BB.out))).mono ?_
        rintro e w51 ⟨ys, AQ, cq, at2, rfl, hly, -, ho, hb⟩
        have LQ := Lib.hid (own_liesN ho rfl)
        obtain ⟨nq, hnq⟩ : ∃ n, ys.length = n := ⟨_, rfl⟩
        rw [hnq] at hly ⊢
        have HNQ := Lib.hid hnq
        have hq20 : nq ≤ 20 := hly.2
        clear ho hnq hly
        replace BB := Lib.hid (Below.tr BB.out hb)
        clear hb
        by_cases hT2 : ThereR ys nq at2
        · skip
          have GQ := Lib.hid hT2.1.1
          obtain ⟨f, rfl⟩ := Int.eq_ofNat_of_zero_le hT2.1.2.1
          have hfn : f < nq := by have := hT2.1.2.2; omega
          have HRF : Hid (rb (edg (ktOf ys)) 0 f = true) := Lib.hid hT2.2
          have TH := Lib.hid hT2
          clear hT2
          have HKQ : Hid ((ktOf ys).length = nq) := Lib.hid (by rw [ktOf_len]; exact HNQ.out)
          obtain ⟨D, hD⟩ : ∃ D, domL (edg (ktOf ys)) f = D := ⟨_, rfl⟩
          have HD := Lib.hid hD
          have eD : mustR ys f = castL D := by unfold mustR; rw [Int.toNat_natCast, hD]
          have ED := Lib.hid eD
          have hdl : D.length ≤ 21 := by have := dom_len (edg (ktOf ys)) f; rw [hD] at this; omega
          obtain ⟨dn, hdn⟩ : ∃ y, D.length = y := ⟨_, rfl⟩
          have HDN : Hid ((castL D).length = dn) := Lib.hid (by rw [castL_len]; exact hdn)
          obtain ⟨L, hL⟩ : ∃ L, aheadL (edg (ktOf ys)) nq f = L := ⟨_, rfl⟩
          have HL := Lib.hid hL
          have eL : aheadR ys f = castL L := by unfold aheadR; rw [HNQ.out, Int.toNat_natCast, hL]
          have EL := Lib.hid eL
          have hll : L.length ≤ 20 := by have := ahead_len (edg (ktOf ys)) nq f; rw [castL_len, hL] at this; omega
          obtain ⟨y, hy⟩ : ∃ y, L.length = y := ⟨_, rfl⟩
          have HY : Hid ((castL L).length = y) := Lib.hid (by rw [castL_len]; exact hy)
          have hy20 : y ≤ 20 := by omega
          have hdn21 : dn ≤ 21 := by omega
          have HEND : Hid (0 < y ∨ (y = 0 ∧ f = 0)) := Lib.hid (by
      rcases Nat.eq_zero_or_pos f with h | h
      · rcases Nat.eq_zero_or_pos y with h2 | h2
        · exact .inr ⟨h2, h⟩
        · exact .inl h2
      · have := ahead_some (good_kt GQ.out) HRF.out h
        rw [HKQ.out, hL] at this
        exact .inl (by omega))
          have RM : Hid (TwoRes (ThereR ys nq f) (mustR ys f) true (castL D)) := Lib.hid ⟨⟨fun _ => TH.out, fun _ => rfl⟩, (fun e => by cases e), fun _ => ED.out.symm⟩
          have RA : Hid (TwoRes (There ys nq f) (aheadR ys f) true (castL L)) := Lib.hid ⟨⟨fun _ => TH.out.1, fun _ => rfl⟩, (fun e => by cases e), fun _ => EL.out.symm⟩
          clear eD eL hD hL hdl hll
          go_wp2_with fail
          refine (implMust_any _ _ _ (f : Int) ys _ true (castL D) RM LQ HNQ (by omega)).mono ?_
          rintro e w52 ⟨A21, c21, rfl, ho, hb⟩
          have IM := Lib.hid (own_ilies ho)
          clear ho
          replace BB := Lib.hid (Below.tr BB.out hb)
          replace LQ := Lib.hid (LQ.out.below hb)
          clear hb
          rw [HDN.out]
          go_wp2_with fail
          refine (specMust_any _ _ _ (f : Int) ys _ true (castL D) RM LQ HNQ (by omega)).mono ?_
          rintro e w53 ⟨A22, c22, rfl, ho, hb⟩
          have IM2 := Lib.hid (own_ilies ho)
          clear ho
          replace BB := Lib.hid (Below.tr BB.out hb)
          replace LQ := Lib.hid (LQ.out.below hb)
          replace IM := Lib.hid (IM.out.below hb)
          clear hb
          rw [HDN.out]
          go_wp2_with fail
          refine (sameInts_same _ _ _ _ _ (castL D) _ IM IM2 HDN (by omega)).mono ?_
          rintro e w54 ⟨rfl, hb⟩
          replace BB := Lib.hid (Below.tr BB.out hb)
          replace LQ := Lib.hid (LQ.out.below hb)
          replace IM := Lib.hid (IM.out.below hb)
          replace IM2 := Lib.hid (IM2.out.below hb)
          clear hb
          clear IM2
          go_wp2_with fail
          refine (implAhead_any _ _ _ (f : Int) ys _ true (castL L) RA LQ HNQ (by omega)).mono ?_
          rintro e w55 ⟨A23, c23, rfl, ho, hb⟩
          have IA := Lib.hid (own_ilies ho)
          clear ho
          replace BB := Lib.hid (Below.tr BB.out hb)
          replace LQ := Lib.hid (LQ.out.below hb)
          replace IM := Lib.hid (IM.out.below hb)
          clear hb
          rw [HY.out]
          go_wp2_with fail
          obtain ⟨wq, hwq⟩ : ∃ x, x = w55 := ⟨_, rfl⟩
          subst hwq
          go_loopw [197] (fun iv wr => ∃ k : Nat, k ≤ y ∧ iv = .int .i64 k ∧ Below wq.heap.size wq wr) (fun i _ => y - (intOf i).toNat)
          case atStart => exact ⟨0, Nat.zero_le _, rfl, Below.refl _ _⟩
          case round =>
            obtain ⟨k, hk, rfl, hbb⟩ := hrel
            have C1 := Lib.hid hbb
            clear hbb
            by_cases hlt : k < y
            · skip
              obtain ⟨d, hd⟩ : ∃ d, L[k]? = some d := ⟨_, List.getElem?_eq_getElem (by omega)⟩
              have hda : d ∈ aheadL (edg (ktOf ys)) (ktOf ys).length f := by have h := List.mem_of_getElem? hd; rw [← HL.out, ← HKQ.out] at h; exact h
              have hdn' : d < nq ∧ rb (edg (ktOf ys)) 0 d = true := by have h := mem_ahead.1 hda; rw [HKQ.out] at h; exact ⟨h.1, h.2.1⟩
              have HIN : Hid (∀ z : Nat, z ∈ D → z ≠ f → z ∈ domL (edg (ktOf ys)) d) := Lib.hid (fun z hz hne => (passed_ahead (good_kt GQ.out) hda (by rw [HD.out]; exact hz) hne).2.2)
              obtain ⟨b26, off26, rfl, hb26, hc26⟩ := (IA.out.below C1.out) k _ (castL_at hd)
              have hd1 : d < nq := hdn'.1
              have HRD := Lib.hid hdn'.2
              obtain ⟨X, hX⟩ : ∃ X, mustR ys (d : Int) = X := ⟨_, rfl⟩
              have EX : Hid (X = castL (domL (edg (ktOf ys)) d)) := Lib.hid (by rw [← hX]; unfold mustR; rw [Int.toNat_natCast])
              have RD : Hid (TwoRes (ThereR ys nq (d : Int)) (mustR ys (d : Int)) true X) := Lib.hid ⟨⟨fun _ => ⟨⟨GQ.out, by omega, by omega⟩, HRD.out⟩, fun _ => rfl⟩, (fun e => by cases e), fun _ => hX.symm⟩
              obtain ⟨xn, hxn⟩ : ∃ z, X.length = z := ⟨_, rfl⟩
              have HXN := Lib.hid hxn
              have hxn21 : xn ≤ 21 := by have h := dom_len (edg (ktOf ys)) d; have := HXN.out; rw [EX.out, castL_len] at this; omega
              have hk' : (k : Int) < (y : Int) := by omega
              clear hd hda hdn' hX hxn
              go_wp2_with fail
              refine (implMust_any _ _ _ (d : Int) ys _ true X RD (Lib.hid (LQ.out.below C1.out)) HNQ (by omega)).mono ?_
              rintro e w29 ⟨A27, c27, rfl, ho, hb⟩
              have IX := Lib.hid (own_ilies ho)
              have IM3 := Lib.hid (IM.out.below (Below.tr C1.out hb))
              have C2 := Lib.hid (Below.tr C1.out hb)
              rw [HXN.out]
              clear ho hb
              go_wp2_with fail
              go_loop [211] (fun iv => ∃ j : Nat, j ≤ dn ∧ iv = .int .i64 j) (fun i => dn - (intOf i).toNat)
              case atStart => exact ⟨0, Nat.zero_le _, rfl⟩
              case round =>
                obtain ⟨j, hj, rfl⟩ := hrel
                by_cases hlj : j < dn
                · skip
                  obtain ⟨z, hz⟩ : ∃ z, D[j]? = some z := ⟨_, List.getElem?_eq_getElem (by omega)⟩
                  obtain ⟨b28, off28, rfl, hb28, hc28⟩ := IM3.out j _ (castL_at hz)
                  have hzD := List.mem_of_getElem? hz
                  have hj' : (j : Int) < (dn : Int) := by omega
                  clear hz
                  by_cases hzf : z = f
                  · skip
                    have hzz : ((z : Int) != (f : Int)) = false := by rw [hzf]; simp
                    clear hzf hzD
                    go_wp2_with fail
                    go_round
                    case rel => exact ⟨j + 1, by omega, by go_num⟩
                    case measure => simp [intOf]; omega
                  · skip
                    have hzz : ((z : Int) != (f : Int)) = true := by simp; omega
                    have HZ : Hid (decide ((z : Int) ∈ X) = true) := Lib.hid (by rw [decide_eq_true_eq, EX.out, castL_mem']; exact HIN.out z hzD hzf)
                    clear hzf hzD
                    go_wp2_with fail
                    refine (hasL_any _ _ _ X (z : Int) _ IX HXN (by omega)).mono ?_
                    rintro e w' ⟨rfl, rfl⟩
                    rw [HZ.out]
                    go_wp2
                    go_round
                    case rel => exact ⟨j + 1, by omega, by go_num⟩
                    case measure => simp [intOf]; omega
                · skip
                  obtain rfl : j = dn := by omega
                  go_wp2
                  go_roundw
                  case rel => exact ⟨k + 1, by omega, by go_num, C2.out⟩
                  case measure => simp [intOf]; omega
            · skip
              obtain rfl : k = y := by omega
              replace BB := Lib.hid (Below.tr BB.out C1.out)
              rcases HEND.out with h0y | ⟨h0y, h0f⟩
              · skip
                have h0y' : (0 : Int) < (k : Int) := by omega
                go_wp2
                go_ret
                exact ⟨rfl, BB.out⟩
              · skip
                subst h0f
                have h0k : ¬ (0 < k) := by omega
                go_wp2
                go_ret
                exact ⟨rfl, BB.out⟩
        · skip
          have RM : Hid (TwoRes (ThereR ys nq at2) (mustR ys at2) false []) := Lib.hid ⟨⟨(fun e => by cases e), fun h => absurd h hT2⟩, fun _ => rfl, (fun e => by cases e)⟩
          clear hT2
          go_wp2_with fail
          refine (implMust_any _ _ _ at2 ys _ false [] RM LQ HNQ (by omega)).mono ?_
          rintro e w52 ⟨A21, c21, rfl, ho, hb⟩
          have IM := Lib.hid (own_ilies ho)
          clear ho
          replace BB := Lib.hid (Below.tr BB.out hb)
          replace LQ := Lib.hid (LQ.out.below hb)
          clear hb
          go_wp2_with fail
          refine (specMust_any _ _ _ at2 ys _ false [] RM LQ HNQ (by omega)).mono ?_
          rintro e w53 ⟨A22, c22, rfl, ho, hb⟩
          have IM2 := Lib.hid (own_ilies ho)
          clear ho
          replace BB := Lib.hid (Below.tr BB.out hb)
          replace LQ := Lib.hid (LQ.out.below hb)
          replace IM := Lib.hid (IM.out.below hb)
          clear hb
          go_wp2_with fail
          refine (sameInts_same _ _ _ _ _ [] _ IM IM2 (Lib.hid rfl) (by simp)).mono ?_
          rintro e w54 ⟨rfl, hb⟩
          replace BB := Lib.hid (Below.tr BB.out hb)
          replace LQ := Lib.hid (LQ.out.below hb)
          replace IM := Lib.hid (IM.out.below hb)
          replace IM2 := Lib.hid (IM2.out.below hb)
          clear hb
          go_wp2
          go_ret
          exact ⟨rfl, BB.out⟩
  · skip
    have HQ : Hid (runR g xs ctx 100 = ((0, 0, 0, []), false)) := Lib.hid (runR_no (by
      cases hg : g with
      | false => rfl
      | true => rw [show ctxB ctx = false by have h1 := HG.out.1 hg; cases h : ctxB ctx with | false => rfl | true => exact absurd ⟨h1, h⟩ hT]; rfl))
    clear hT
    obtain ⟨bn, ln, hrn⟩ := two_res (Good xs) (nearR xs)
    have RN := Lib.hid hrn
    obtain ⟨bn2, lr, hrr⟩ := two_res (Good xs) (reachR xs)
    obtain rfl : bn = bn2 := by have h1 := hrn.1; have h2 := hrr.1; cases bn <;> cases bn2 <;> simp_all
    have RR := Lib.hid hrr
    obtain ⟨nn, hnn⟩ : ∃ z, ln.length = z := ⟨_, rfl⟩
    have HNL := Lib.hid hnn
    have hnn20 : nn ≤ 30 := by rw [← hnn]; exact hrn.len (fun g => by unfold nearR nearF; rw [List.length_map, List.length_range]; have := g.1; omega)
    obtain ⟨rn, hrl⟩ : ∃ z, lr.length = z := ⟨_, rfl⟩
    have HRL := Lib.hid hrl
    have hrn20 : rn ≤ 30 := by rw [← hrl]; exact hrr.len (fun g => by unfold reachR; have := reach_len (eOf xs) xs.length 0; have := g.1; omega)
    have hbb : (bn != bn) = false := by simp
    clear hrn hrr hnn hrl
    go_wp2_with fail
    refine (implTrace_any _ _ _ xs _ _ _ ctx g _ HG LX HN (by omega) LC HCX (by omega) (Lib.hid (powTab_below ht.out BB.out))).mono ?_
    rw [HQ.out]
    simp only
    rintro e w2 ⟨At, ct, rfl, ho, hb⟩
    clear ho
    replace BB := Lib.hid (Below.tr BB.out hb)
    replace LX := Lib.hid (LX.out.below hb)
    replace LC := Lib.hid (LC.out.below hb)
    clear hb
    go_wp2_with fail
    refine (implNear_any _ _ _ xs _ bn ln RN LX HN (by omega)).mono ?_
    rintro e w3 ⟨A4, c4, rfl, ho, hb⟩
    have I4 := Lib.hid (own_ilies ho)
    clear ho
    replace BB := Lib.hid (Below.tr BB.out hb)
    replace LX := Lib.hid (LX.out.below hb)
    replace LC := Lib.hid (LC.out.below hb)
    clear hb
    rw [HNL.out]
    go_wp2_with fail
    refine (specNear_any _ _ _ xs _ bn ln RN LX HN (by omega)).mono ?_
    rintro e w4 ⟨A5, c5, rfl, ho, hb⟩
    have I5 := Lib.hid (own_ilies ho)
    clear ho
    replace BB := Lib.hid (Below.tr BB.out hb)
    replace LX := Lib.hid (LX.out.below hb)
    replace LC := Lib.hid (LC.out.below hb)
    replace I4 := Lib.hid (I4.out.below hb)
    clear hb
    rw [HNL.out]
    go_wp2_with fail
    refine (implReached_any _ _ _ xs _ bn lr RR LX HN (by omega)).mono ?_
    rintro e w5 ⟨A6, c6, rfl, ho, hb⟩
    have I6 := Lib.hid (own_ilies ho)
    clear ho
    replace BB := Lib.hid (Below.tr BB.out hb)
    replace LX := Lib.hid (LX.out.below hb)
    replace LC := Lib.hid (LC.out.below hb)
    replace I4 := Lib.hid (I4.out.below hb)
    replace I5 := Lib.hid (I5.out.below hb)
    clear hb
    rw [HRL.out]
    go_wp2_with fail
    refine (specReached_any _ _ _ xs _ bn lr RR LX HN (by omega)).mono ?_
    rintro e w6 ⟨A7, c7, rfl, ho, hb⟩
    have I7 := Lib.hid (own_ilies ho)
    clear ho
    replace BB := Lib.hid (Below.tr BB.out hb)
    replace LX := Lib.hid (LX.out.below hb)
    replace LC := Lib.hid (LC.out.below hb)
    replace I4 := Lib.hid (I4.out.below hb)
    replace I5 := Lib.hid (I5.out.below hb)
    replace I6 := Lib.hid (I6.out.below hb)
    clear hb
    rw [HRL.out]
    go_wp2_with fail
    refine (sameInts_same _ _ _ _ _ ln _ I4 I5 HNL (by omega)).mono ?_
    rintro e w7 ⟨rfl, hb⟩
    replace BB := Lib.hid (Below.tr BB.out hb)
    replace LX := Lib.hid (LX.out.below hb)
    replace LC := Lib.hid (LC.out.below hb)
    replace I4 := Lib.hid (I4.out.below hb)
    replace I5 := Lib.hid (I5.out.below hb)
    replace I6 := Lib.hid (I6.out.below hb)
    replace I7 := Lib.hid (I7.out.below hb)
    clear hb
    go_wp2_with fail
    refine (sameInts_same _ _ _ _ _ lr _ I6 I7 HRL (by omega)).mono ?_
    rintro e w8 ⟨rfl, hb⟩
    replace BB := Lib.hid (Below.tr BB.out hb)
    replace LX := Lib.hid (LX.out.below hb)
    replace LC := Lib.hid (LC.out.below hb)
    replace I4 := Lib.hid (I4.out.below hb)
    replace I5 := Lib.hid (I5.out.below hb)
    replace I6 := Lib.hid (I6.out.below hb)
    replace I7 := Lib.hid (I7.out.below hb)
    clear hb
    go_wp2_with fail
    refine (drawMust_any a1 len1 cap1 _ (Lib.hid (h1.out.below BB.out))).mono ?_
    rintro e w9 ⟨ys, AQ, cq, at2, rfl, hly, -, ho, hb⟩
    have LQ := Lib.hid (own_liesN ho rfl)
    obtain ⟨nq, hnq⟩ : ∃ n, ys.length = n := ⟨_, rfl⟩
    rw [hnq] at hly ⊢
    have HNQ := Lib.hid hnq
    have hq20 : nq ≤ 20 := hly.2
    clear ho hnq hly
    replace BB := Lib.hid (Below.tr BB.out hb)
    clear hb
    by_cases hT2 : ThereR ys nq at2
    · skip
      have GQ := Lib.hid hT2.1.1
      obtain ⟨f, rfl⟩ := Int.eq_ofNat_of_zero_le hT2.1.2.1
      have hfn : f < nq := by have := hT2.1.2.2; omega
      have HRF : Hid (rb (edg (ktOf ys)) 0 f = true) := Lib.hid hT2.2
      have TH := Lib.hid hT2
      clear hT2
      have HKQ : Hid ((ktOf ys).length = nq) := Lib.hid (by rw [ktOf_len]; exact HNQ.out)
      obtain ⟨D, hD⟩ : ∃ D, domL (edg (ktOf ys)) f = D := ⟨_, rfl⟩
      have HD := Lib.hid hD
      have eD : mustR ys f = castL D := by unfold mustR; rw [Int.toNat_natCast, hD]
      have ED := Lib.hid eD
      have hdl : D.length ≤ 21 := by have := dom_len (edg (ktOf ys)) f; rw [hD] at this; omega
      obtain ⟨dn, hdn⟩ : ∃ y, D.length = y := ⟨_, rfl⟩
      have HDN : Hid ((castL D).length = dn) := Lib.hid (by rw [castL_len]; exact hdn)
      obtain ⟨L, hL⟩ : ∃ L, aheadL (edg (ktOf ys)) nq f = L := ⟨_, rfl⟩
      have HL := Lib.hid hL
      have eL : aheadR ys f = castL L := by unfold aheadR; rw [HNQ.out, Int.toNat_natCast, hL]
      have EL := Lib.hid eL
      have hll : L.length ≤ 20 := by have := ahead_len (edg (ktOf ys)) nq f; rw [castL_len, hL] at this; omega
      obtain ⟨y, hy⟩ : ∃ y, L.length = y := ⟨_, rfl⟩
      have HY : Hid ((castL L).length = y) := Lib.hid (by rw [castL_len]; exact hy)
      have hy20 : y ≤ 20 := by omega
      have hdn21 : dn ≤ 21 := by omega
      have HEND : Hid (0 < y ∨ (y = 0 ∧ f = 0)) := Lib.hid (by
      rcases Nat.eq_zero_or_pos f with h | h
      · rcases Nat.eq_zero_or_pos y with h2 | h2
        · exact .inr ⟨h2, h⟩
        · exact .inl h2
      · have := ahead_some (good_kt GQ.out) HRF.out h
        rw [HKQ.out, hL] at this
        exact .inl (by omega))
      have RM : Hid (TwoRes (ThereR ys nq f) (mustR ys f) true (castL D)) := Lib.hid ⟨⟨fun _ => TH.out, fun _ => rfl⟩, (fun e => by cases e), fun _ => ED.out.symm⟩
      have RA : Hid (TwoRes (There ys nq f) (aheadR ys f) true (castL L)) := Lib.hid ⟨⟨fun _ => TH.out.1, fun _ => rfl⟩, (fun e => by cases e), fun _ => EL.out.symm⟩
      clear eD eL hD hL hdl hll
      go_wp2_with fail
      refine (implMust_any _ _ _ (f : Int) ys _ true (castL D) RM LQ HNQ (by omega)).mono ?_
      rintro e w10 ⟨A21, c21, rfl, ho, hb⟩
      have IM := Lib.hid (own_ilies ho)
      clear ho
      replace BB := Lib.hid (Below.tr BB.out hb)
      replace LQ := Lib.hid (LQ.out.below hb)
      clear hb
      rw [HDN.out]
      go_wp2_with fail
      refine (specMust_any _ _ _ (f : Int) ys _ true (castL D) RM LQ HNQ (by omega)).mono ?_
      rintro e w11 ⟨A22, c22, rfl, ho, hb⟩
      have IM2 := Lib.hid (own_ilies ho)
      clear ho
      replace BB := Lib.hid (Below.tr BB.out hb)
      replace LQ := Lib.hid (LQ.out.below hb)
      replace IM := Lib.hid (IM.out.below hb)
      clear hb
      rw [HDN.out]
      go_wp2_with fail
      refine (sameInts_same _ _ _ _ _ (castL D) _ IM IM2 HDN (by omega)).mono ?_
      rintro e w12 ⟨rfl, hb⟩
      replace BB := Lib.hid (Below.tr BB.out hb)
      replace LQ := Lib.hid (LQ.out.below hb)
      replace IM := Lib.hid (IM.out.below hb)
      replace IM2 := Lib.hid (IM2.out.below hb)
      clear hb
      clear IM2
      go_wp2_with fail
      refine (implAhead_any _ _ _ (f : Int) ys _ true (castL L) RA LQ HNQ (by omega)).mono ?_
      rintro e w13 ⟨A23, c23, rfl, ho, hb⟩
      have IA := Lib.hid (own_ilies ho)
      clear ho
      replace BB := Lib.hid (Below.tr BB.out hb)
      replace LQ := Lib.hid (LQ.out.below hb)
      replace IM := Lib.hid (IM.out.below hb)
      clear hb
      rw [HY.out]
      go_wp2_with fail
      obtain ⟨wq, hwq⟩ : ∃ x, x = w13 := ⟨_, rfl⟩
      subst hwq
      go_loopw [197] (fun iv wr => ∃ k : Nat, k ≤ y ∧ iv = .int .i64 k ∧ Below wq.heap.size wq wr) (fun i _ => y - (intOf i).toNat)
      case atStart => exact ⟨0, Nat.zero_le _, rfl, Below.refl _ _⟩
      case round =>
        obtain ⟨k, hk, rfl, hbb⟩ := hrel
        have C1 := Lib.hid hbb
        clear hbb
        by_cases hlt : k < y
        · skip
          obtain ⟨d, hd⟩ : ∃ d, L[k]? = some d := ⟨_, List.getElem?_eq_getElem (by omega)⟩
          have hda : d ∈ aheadL (edg (ktOf ys)) (ktOf ys).length f := by have h := List.mem_of_getElem? hd; rw [← HL.out, ← HKQ.out] at h; exact h
          have hdn' : d < nq ∧ rb (edg (ktOf ys)) 0 d = true := by have h := mem_ahead.1 hda; rw [HKQ.out] at h; exact ⟨h.1, h.2.1⟩
          have HIN : Hid (∀ z : Nat, z ∈ D → z ≠ f → z ∈ domL (edg (ktOf ys)) d) := Lib.hid (fun z hz hne => (passed_ahead (good_kt GQ.out) hda (by rw [HD.out]; exact hz) hne).2.2)
          obtain ⟨b26, off26, rfl, hb26, hc26⟩ := (IA.out.below C1.out) k _ (castL_at hd)
          have hd1 : d < nq := hdn'.1
          have HRD := Lib.hid hdn'.2
          obtain ⟨X, hX⟩ : ∃ X, mustR ys (d : Int) = X := ⟨_, rfl⟩
          have EX : Hid (X = castL (domL (edg (ktOf ys)) d)) := Lib.hid (by rw [← hX]; unfold mustR; rw [Int.toNat_natCast])
          have RD : Hid (TwoRes (ThereR ys nq (d : Int)) (mustR ys (d : Int)) true X) := Lib.hid ⟨⟨fun _ => ⟨⟨GQ.out, by omega, by omega⟩, HRD.out⟩, fun _ => rfl⟩, (fun e => by cases e), fun _ => hX.symm⟩
          obtain ⟨xn, hxn⟩ : ∃ z, X.length = z := ⟨_, rfl⟩
          have HXN := Lib.hid hxn
          have hxn21 : xn ≤ 21 := by have h := dom_len (edg (ktOf ys)) d; have := HXN.out; rw [EX.out, castL_len] at this; omega
          have hk' : (k : Int) < (y : Int) := by omega
          clear hd hda hdn' hX hxn
          go_wp2_with fail
          refine (implMust_any _ _ _ (d : Int) ys _ true X RD (Lib.hid (LQ.out.below C1.out)) HNQ (by omega)).mono ?_
          rintro e w29 ⟨A27, c27, rfl, ho, hb⟩
          have IX := Lib.hid (own_ilies ho)
          have IM3 := Lib.hid (IM.out.below (Below.tr C1.out hb))
          have C2 := Lib.hid (Below.tr C1.out hb)
          rw [HXN.out]
          clear ho hb
          go_wp2_with fail
          go_loop [211] (fun iv => ∃ j : Nat, j ≤ dn ∧ iv = .int .i64 j) (fun i => dn - (intOf i).toNat)
          case atStart => exact ⟨0, Nat.zero_le _, rfl⟩
          case round =>
            obtain ⟨j, hj, rfl⟩ := hrel
            by_cases hlj : j < dn
            · skip
              obtain ⟨z, hz⟩ : ∃ z, D[j]? = some z := ⟨_, List.getElem?_eq_getElem (by omega)⟩
              obtain ⟨b28, off28, rfl, hb28, hc28⟩ := IM3.out j _ (castL_at hz)
              have hzD := List.mem_of_getElem? hz
              have hj' : (j : Int) < (dn : Int) := by omega
              clear hz
              by_cases hzf : z = f
              · skip
                have hzz : ((z : Int) != (f : Int)) = false := by rw [hzf]; simp
                clear hzf hzD
                go_wp2_with fail
                go_round
                case rel => exact ⟨j + 1, by omega, by go_num⟩
                case measure => simp [intOf]; omega
              · skip
                have hzz : ((z : Int) != (f : Int)) = true := by simp; omega
                have HZ : Hid (decide ((z : Int) ∈ X) = true) := Lib.hid (by rw [decide_eq_true_eq, EX.out, castL_mem']; exact HIN.out z hzD hzf)
                clear hzf hzD
                go_wp2_with fail
                refine (hasL_any _ _ _ X (z : Int) _ IX HXN (by omega)).mono ?_
                rintro e w' ⟨rfl, rfl⟩
                rw [HZ.out]
                go_wp2
                go_round
                case rel => exact ⟨j + 1, by omega, by go_num⟩
                case measure => simp [intOf]; omega
            · skip
              obtain rfl : j = dn := by omega
              go_wp2
              go_roundw
              case rel => exact ⟨k + 1, by omega, by go_num, C2.out⟩
              case measure => simp [intOf]; omega
        · skip
          obtain rfl : k = y := by omega
          replace BB := Lib.hid (Below.tr BB.out C1.out)
          rcases HEND.out with h0y | ⟨h0y, h0f⟩
          · skip
            have h0y' : (0 : Int) < (k : Int) := by omega
            go_wp2
            go_ret
            exact ⟨rfl, BB.out⟩
          · skip
            subst h0f
            have h0k : ¬ (0 < k) := by omega
            go_wp2
            go_ret
            exact ⟨rfl, BB.out⟩
    · skip
      have RM : Hid (TwoRes (ThereR ys nq at2) (mustR ys at2) false []) := Lib.hid ⟨⟨(fun e => by cases e), fun h => absurd h hT2⟩, fun _ => rfl, (fun e => by cases e)⟩
      clear hT2
      go_wp2_with fail
      refine (implMust_any _ _ _ at2 ys _ false [] RM LQ HNQ (by omega)).mono ?_
      rintro e w10 ⟨A21, c21, rfl, ho, hb⟩
      have IM := Lib.hid (own_ilies ho)
      clear ho
      replace BB := Lib.hid (Below.tr BB.out hb)
      replace LQ := Lib.hid (LQ.out.below hb)
      clear hb
      go_wp2_with fail
      refine (specMust_any _ _ _ at2 ys _ false [] RM LQ HNQ (by omega)).mono ?_
      rintro e w11 ⟨A22, c22, rfl, ho, hb⟩
      have IM2 := Lib.hid (own_ilies ho)
      clear ho
      replace BB := Lib.hid (Below.tr BB.out hb)
      replace LQ := Lib.hid (LQ.out.below hb)
      replace IM := Lib.hid (IM.out.below hb)
      clear hb
      go_wp2_with fail
      refine (sameInts_same _ _ _ _ _ [] _ IM IM2 (Lib.hid rfl) (by simp)).mono ?_
      rintro e w12 ⟨rfl, hb⟩
      replace BB := Lib.hid (Below.tr BB.out hb)
      replace LQ := Lib.hid (LQ.out.below hb)
      replace IM := Lib.hid (IM.out.below hb)
      replace IM2 := Lib.hid (IM2.out.below hb)
      clear hb
      go_wp2
      go_ret
      exact ⟨rfl, BB.out⟩
end Go.Proofs.YtilnegmjnbffhaaDoor
