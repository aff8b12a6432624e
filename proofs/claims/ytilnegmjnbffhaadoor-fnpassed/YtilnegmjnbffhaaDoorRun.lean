/-
  Runs: the model's loop and the program's.
-/
import Derived.Test.YtilnegmjnbffhaaDoorImplDo
namespace Go.Proofs.YtilnegmjnbffhaaDoor
open Go.ChangeShapes Go.WideShapes Go.ChangeAt Go.RowKit

/-- steps begun ahead of a run -/
def glue (T : List Int) (q : Int × Int × Int × List Int) : Int × Int × Int × List Int := (q.1, q.2.1, q.2.2.1, T ++ q.2.2.2)
theorem glue_nil (q : Int × Int × Int × List Int) : glue [] q = q := rfl
theorem glue_glue (T : List Int) (a : Int) (q : Int × Int × Int × List Int) : glue T (glue [a] q) = glue (T ++ [a]) q := by simp [glue]
theorem run_fault {xs : List Stp} {ctx : List Int} {k : Nat} {m : Mch} {x : Stp} (hx : xs[m.a.toNat]? = some x) (hf : (doM x ctx m).2.1 ≠ 0) : runM xs ctx (k + 1) m = (0, (doM x ctx m).2.1, m.a, [m.a]) := by
  simp [runM, hx, hf]
theorem run_end {xs : List Stp} {ctx : List Int} {k : Nat} {m : Mch} {x : Stp} (hx : xs[m.a.toNat]? = some x) (hf : (doM x ctx m).2.1 = 0) (he : (doM x ctx m).2.2 = true) : runM xs ctx (k + 1) m = (reg (doM x ctx m).1 0, 0, 0, [m.a]) := by
  simp [runM, hx, hf, he]
theorem run_next {xs : List Stp} {ctx : List Int} {k : Nat} {m : Mch} {x : Stp} (hx : xs[m.a.toNat]? = some x) (hf : (doM x ctx m).2.1 = 0) (he : (doM x ctx m).2.2 = false) : runM xs ctx (k + 1) m = glue [m.a] (runM xs ctx k (doM x ctx m).1) := by
  simp [runM, hx, hf, he, glue]
theorem doM_code (x : Stp) (ctx : List Int) (m : Mch) : 0 ≤ (doM x ctx m).2.1 ∧ (doM x ctx m).2.1 ≤ 3 := by
  unfold doM
  repeat' split
  all_goals simp
theorem doM_end {x : Stp} {ctx : List Int} {m : Mch} (h : (doM x ctx m).2.2 = true) : doM x ctx m = (m, 0, true) := by
  unfold doM at h ⊢
  split
  · rfl
  · rename_i h11
    rw [if_neg h11] at h
    exfalso
    revert h
    repeat' split
    all_goals simp
theorem one_new1 (w : World) (v : Value) (t : TypeId) : ∀ j u, [v][j]? = some u → (w.alloc (.cells #[v] t)).cell? ((⟨w.heap.size, 0, none⟩ : Addr).add j) = some u := by
  intro j u hj
  have hb : Blk (w.alloc (.cells #[v] t)) w.heap.size t [v] := heap_alloc_new w _
  rw [add_plain, Nat.zero_add, hb.cell]
  exact hj
/-- register 0 -/
def m_reg (m : Mch) : Int := m.r.getD 0 0
/-- a run's answer, its steps in a row of its own -/
def RowOf (w w' : World) (A : Option Addr) (c : Nat) (T : List Int) : Prop := w'.ownsRow w.heap.size 3 1 (.slice A T.length c) T.length (T.map (Value.int .i64))
theorem row_snoc {w w' : World} {g c k : Nat} {T : List Int} {a : Int} (hk : T.length = k) (h : w'.ownsRow w.heap.size 3 1 (.slice (some ⟨g, 0, none⟩) (k + 1) c) (k + 1) (T.map (Value.int .i64) ++ [.int .i64 a])) : RowOf w w' (some ⟨g, 0, none⟩) c (T ++ [a]) := by
  unfold RowOf
  simpa [hk] using h
theorem row_grown {w wr w3 : World} {row : Option Nat} (hb : Below w.heap.size w wr) (o : Obj) (hg : (wr.alloc o).grownBy w3 row) (hr : ∀ g, row = some g → w.heap.size ≤ g) : Below w.heap.size w w3 ∧ Kept wr w3 (fun i => row = some i) :=
  ⟨(Below.tr hb (below1 wr o)).grown hg (by have := hb.size; simp; omega) hr, (Kept.of_below (below1 wr o)).trans (Kept.of_grown hg (fun g h => h))⟩
theorem set4_kept (w : World) (bm : Nat) (v0 v1 v2 v3 : Value) (o : Obj) : Kept w (((((w.setCell ⟨bm, 0, none⟩ v0).setCell ⟨bm, 1, none⟩ v1).setCell ⟨bm, 2, none⟩ v2).setCell ⟨bm, 3, none⟩ v3).alloc o) (fun i => i = bm) :=
  ((((kept_setCell (S := fun i => i = bm) w bm 0 v0 rfl).trans (kept_setCell _ bm 1 v1 rfl)).trans (kept_setCell _ bm 2 v2 rfl)).trans (kept_setCell _ bm 3 v3 rfl)).trans (.of_below (below1 _ _))
theorem set4_blk {w : World} {bm : Nat} {T : TypeId} {u0 u1 u2 u3 : Value} (h : Blk w bm T [u0, u1, u2, u3]) (v0 v1 v2 v3 : Value) (o : Obj) : Blk (((((w.setCell ⟨bm, 0, none⟩ v0).setCell ⟨bm, 1, none⟩ v1).setCell ⟨bm, 2, none⟩ v2).setCell ⟨bm, 3, none⟩ v3).alloc o) bm T [v0, v1, v2, v3] :=
  ((((h.set 0 v0).set 1 v1).set 2 v2).set 3 v3).below (below1 _ _)
theorem row_set4 {w w' : World} {A : Option Addr} {c : Nat} {T : List Int} (h : RowOf w w' A c T) {b : Nat} (hne : (Value.slice A T.length c).ownBlock ≠ some b) (v0 v1 v2 v3 : Value) : RowOf w ((((w'.setCell ⟨b, 0, none⟩ v0).setCell ⟨b, 1, none⟩ v1).setCell ⟨b, 2, none⟩ v2).setCell ⟨b, 3, none⟩ v3) A c T := by
  unfold RowOf at h ⊢
  have kp : Kept w' ((((w'.setCell ⟨b, 0, none⟩ v0).setCell ⟨b, 1, none⟩ v1).setCell ⟨b, 2, none⟩ v2).setCell ⟨b, 3, none⟩ v3) (fun i => i = b) := ((kept_setCell (S := fun i => i = b) w' b 0 v0 rfl).trans (kept_setCell _ b 1 v1 rfl)).trans ((kept_setCell (S := fun i => i = b) _ b 2 v2 rfl).trans (kept_setCell _ b 3 v3 rfl))
  refine ⟨h.1, ?_⟩
  rcases h.2 with hn | ⟨g, cap, cur, h', hg, hgg, rest⟩
  · exact .inl hn
  · refine .inr ⟨g, cap, cur, h', hg, (kp.block g (Array.getElem?_eq_some_iff.1 hgg).1 (fun e => hne (by rw [h', ← (show g = b from e)]; rfl))).trans hgg, rest⟩
/-- a step that neither faults nor ends leaves a valid machine, at a step of the program -/
theorem next_good {xs : List Stp} {ctx : List Int} {n : Nat} {m : Mch} {x : Stp} (hG : Good xs) (hn : xs.length = n) (hm : GoodM m) (hc : ctxB ctx = true) (hx : xs[m.a.toNat]? = some x) (hf : (doM x ctx m).2.1 = 0) (he : (doM x ctx m).2.2 = false) : GoodM (doM x ctx m).1 ∧ (doM x ctx m).1.a < n ∧ m.a < (doM x ctx m).1.a := by
  have hc' : ctx.length = 8 ∧ allB 0 255 ctx = true := by simpa [ctxB] using hc
  have h20 := hG.1.2
  rw [hn] at h20
  have hfit := hG.2 _ x hx
  rw [hn] at hfit
  obtain ⟨h1, _, h3, h4⟩ := doM_good (n := n) h20 hm hc'.2 hc'.1 hfit hf he
  exact ⟨h1, h3, h4⟩

set_option maxRecDepth 100000 in
set_option maxHeartbeats 4000000 in
theorem runFor_any (P : Option Addr) (n cap : Nat) (xs : List Stp) (C : Option Addr) (cn cc : Nat) (ctx : List Int) (N : Nat) (w : World)
    (HG : Hid (Good xs)) (hl : Hid (Lies w P xs)) (HX : Hid (xs.length = n)) (HC : Hid (ctxB ctx = true)) (hcl : Hid (ILies w C ctx)) (HCX : Hid (ctx.length = cn)) (hN : N ≤ 100) (HT : Hid (Op.PowTab w)) :
    Calls Tryd.prog 18 #[.slice P n cap, .slice C cn cc, .int .i64 N] w fun e w' => ∃ A c, e = .returned (.tuple #[.agg #[.slice A (runM xs ctx N newM).2.2.2.length c, .int .i64 (runM xs ctx N newM).1, .int .i64 (runM xs ctx N newM).2.1, .int .i64 (runM xs ctx N newM).2.2.1], .bool true]) ∧ RowOf w w' A c (runM xs ctx N newM).2.2.2 ∧ Below w.heap.size w w' := by
  obtain ⟨i0, hi0, hz0, hz1, hz2⟩ := info_parts info_int
  have N20 : n ≤ 20 := by have := HG.out.1.2; rw [HX.out] at this; exact this
  have N1 : 1 ≤ n := by have := HG.out.1.1; rw [HX.out] at this; exact this
  have C8 : Hid (ctx.length = 8) := Lib.hid (by have := HC.out; simp [ctxB] at this; exact this.1)
  have hcn : cn ≤ 1048576 := by have := C8.out; have := HCX.out; omega
  obtain ⟨R, hR⟩ : ∃ R, runM xs ctx N newM = R := ⟨_, rfl⟩
  rw [hR]
  have HR := Lib.hid hR
  clear hR
  have B0 := Lib.hid (below1 w (.cells #[.slice none 0 0, .int .i64 0, .int .i64 0, .int .i64 0] 44))
  have KR : Hid (Blk (w.alloc (.cells #[.slice none 0 0, .int .i64 0, .int .i64 0, .int .i64 0] 44)) w.heap.size 44 [.slice none 0 0, .int .i64 0, .int .i64 0, .int .i64 0]) := Lib.hid (heap_alloc_new w _)
  go_enter Tryd.func18, Tryd.ntmps18
  go_wp2_with fail
  generalize w.alloc (.cells #[.slice none 0 0, .int .i64 0, .int .i64 0, .int .i64 0] 44) = w0 at B0 KR ⊢
  refine (implGood_any _ _ _ xs _ true (Lib.hid ⟨fun _ => HG.out, fun _ => rfl⟩) (hl.out.below B0.out) HX (by omega)).mono ?_
  rintro e wa ⟨rfl, hba⟩
  have Ba := Lib.hid (Below.tr B0.out hba)
  have KRa := Lib.hid (KR.out.below hba)
  clear hba B0 KR
  go_wp2_with fail
  refine (isContext_any _ _ _ ctx _ (hcl.out.below Ba.out) HCX hcn).mono ?_
  rintro e wb ⟨rfl, hbb⟩
  rw [HC.out]
  have Bb := Lib.hid (Below.tr Ba.out hbb)
  have KRb := Lib.hid (KRa.out.below hbb)
  clear hbb Ba KRa
  have hN0 : decide ((N : Int) < 0) = false := by simp <;> omega
  have hN1 : decide ((100 : Int) < (N : Int)) = false := by simp <;> omega
  go_wp2_with fail
  refine (implNewM_any wb).mono ?_
  rintro e w1 ⟨g1, g2, g3, rfl, hm1, hge1, hb1⟩
  have M1 := Lib.hid hm1
  have B1 := Lib.hid (Below.tr Bb.out hb1)
  have KR1 := Lib.hid (KRb.out.below hb1)
  have GE : Hid (w.heap.size < g1 ∧ w.heap.size < g2 ∧ w.heap.size < g3) := Lib.hid (by have := KRb.out.lt; omega)
  clear hm1 hge1 hb1 Bb KRb
  go_wp2_with fail
  have hbb := below1 w1 (.cells #[.int .i64 0, .slice (some ⟨g1, 0, none⟩) 6 6, .slice (some ⟨g2, 0, none⟩) 16 16, .slice (some ⟨g3, 0, none⟩) 16 16] 73)
  have KB : Hid (Blk (w1.alloc (.cells #[.int .i64 0, .slice (some ⟨g1, 0, none⟩) 6 6, .slice (some ⟨g2, 0, none⟩) 16 16, .slice (some ⟨g3, 0, none⟩) 16 16] 73)) w1.heap.size 73 [.int .i64 0, .slice (some ⟨g1, 0, none⟩) 6 6, .slice (some ⟨g2, 0, none⟩) 16 16, .slice (some ⟨g3, 0, none⟩) 16 16]) := Lib.hid (heap_alloc_new w1 _)
  have M2 := Lib.hid (M1.out.below hbb)
  have B2 := Lib.hid (Below.tr B1.out hbb)
  have KR2 := Lib.hid (KR1.out.below hbb)
  have LT : Hid (g1 < w1.heap.size ∧ g2 < w1.heap.size ∧ g3 < w1.heap.size ∧ w.heap.size < w1.heap.size) := Lib.hid ⟨M1.out.1.lt, M1.out.2.1.lt, M1.out.2.2.1.lt, KR1.out.lt⟩
  clear hbb M1 B1 KR1
  generalize w1.alloc (.cells #[.int .i64 0, .slice (some ⟨g1, 0, none⟩) 6 6, .slice (some ⟨g2, 0, none⟩) 16 16, .slice (some ⟨g3, 0, none⟩) 16 16] 73) = w2 at KB M2 B2 KR2 ⊢
  obtain ⟨bm, hbm⟩ : ∃ q, w1.heap.size = q := ⟨_, rfl⟩
  rw [hbm] at KB LT ⊢
  clear hbm
  have BMW : w.heap.size < bm := LT.out.2.2.2
  go_loopw [8, 33] (fun tr iv wr => ∃ (k : Nat) (m : Mch) (T : List Int) (A : Option Addr) (c g1 g2 g3 : Nat), T.length + k = N ∧ iv = .int .i64 T.length ∧ tr = .slice A T.length c ∧ GoodM m ∧ m.a < n ∧ R = glue T (runM xs ctx k m) ∧ Blk wr bm 73 [.int .i64 m.a, .slice (some ⟨g1, 0, none⟩) 6 6, .slice (some ⟨g2, 0, none⟩) 16 16, .slice (some ⟨g3, 0, none⟩) 16 16] ∧ MBlk wr g1 g2 g3 m ∧ RowOf w wr A c T ∧ (∀ g, (Value.slice A T.length c).ownBlock = some g → g ≠ bm ∧ g ≠ w.heap.size ∧ g ≠ g1 ∧ g ≠ g2 ∧ g ≠ g3) ∧ (bm ≠ g1 ∧ bm ≠ g2 ∧ bm ≠ g3 ∧ w.heap.size < g1 ∧ w.heap.size < g2 ∧ w.heap.size < g3) ∧ Blk wr w.heap.size 44 [.slice none 0 0, .int .i64 0, .int .i64 0, .int .i64 0] ∧ Below w.heap.size w wr) (fun _ iv _ => N - (intOf iv).toNat)
  case atStart => exact ⟨N, newM, [], none, 0, g1, g2, g3, by simp, rfl, rfl, newM_good, by show (0 : Int) < n; omega, by rw [glue_nil]; exact HR.out.symm, KB.out, M2.out, World.ownsRow_nil _ _ _ _, (fun g h => by cases h), by have := LT.out; have := GE.out; omega, KR2.out, B2.out⟩
  case round =>
    clear KB M2 B2 KR2 LT GE
    obtain ⟨k, m, T, A, c, g1, g2, g3, hk, rfl, rfl, hgm, hma, hRT, kb, om, rw_, tb, hne, kr, bw⟩ := hrel
    have GM := Lib.hid hgm
    have RT := Lib.hid hRT
    have K1 := Lib.hid kb
    have O1 := Lib.hid om
    have R1 := Lib.hid rw_
    have T1 := Lib.hid tb
    have KR1 := Lib.hid kr
    have NE := Lib.hid hne
    have BW := Lib.hid bw
    clear hgm hRT kb om rw_ tb hne kr bw
    obtain ⟨tl, htl⟩ : ∃ q, T.length = q := ⟨_, rfl⟩
    have TL := Lib.hid htl
    rw [htl] at hk T1 ⊢
    have R1' : Hid (wr.ownsRow w.heap.size 3 1 (.slice A tl c) tl (T.map (Value.int .i64))) := Lib.hid (by have h := R1.out; unfold RowOf at h; rw [htl] at h; exact h)
    clear htl
    obtain ⟨at_, hat⟩ := Int.eq_ofNat_of_zero_le GM.out.a.1
    have MA := Lib.hid hat
    rw [hat] at hma K1
    have hatn : at_ < n := by omega
    have x0 : wr.cell? ⟨bm, 0, none⟩ = some (.int .i64 at_) := K1.out.there rfl
    have xl := K1.out.lt
    cases k with
    | zero =>
      clear hat
      obtain rfl : tl = N := by omega
      have FIN : Hid (R = (0, 4, (at_ : Int), T)) := Lib.hid (by rw [RT.out]; simp [runM, glue, MA.out])
      have v0 : wr.cell? ⟨w.heap.size, 0, none⟩ = some (.slice none 0 0) := KR1.out.there rfl
      have v1 : wr.cell? ⟨w.heap.size, 1, none⟩ = some (.int .i64 0) := KR1.out.there rfl
      have v2 : wr.cell? ⟨w.heap.size, 2, none⟩ = some (.int .i64 0) := KR1.out.there rfl
      have v3 : wr.cell? ⟨w.heap.size, 3, none⟩ = some (.int .i64 0) := KR1.out.there rfl
      have q0 := KR1.out.frozen 0
      have q1 := KR1.out.frozen 1
      have q2 := KR1.out.frozen 2
      have q3 := KR1.out.frozen 3
      go_wp2
      refine bodyPost_ret (v := .tuple #[.agg #[.slice A tl c, .int .i64 0, .int .i64 4, .int .i64 at_], .bool true]) (by simp [results, Tryd.results18, go_sem, v0, v1, v2, v3]) rfl ⟨A, c, by rw [FIN.out]; simp [TL.out], ?_, ?_⟩
      · rw [FIN.out]
        exact row_set4 R1.out (fun e => (T1.out _ (by rw [TL.out] at e; exact e)).2.1 rfl) _ _ _ _
      · exact (((BW.out.setCell (by simp) _).setCell (by simp) _).setCell (by simp) _).setCell (by simp) _
    | succ k =>
      obtain ⟨x, hxk⟩ : ∃ x, xs[at_]? = some x := ⟨_, List.getElem?_eq_getElem (by have := HX.out; omega)⟩
      have HXA : Hid (xs[m.a.toNat]? = some x) := Lib.hid (by rw [MA.out]; simpa using hxk)
      have HXK := Lib.hid hxk
      have hlt : tl < N := by omega
      clear hat hxk
      have F1 := Lib.hid (fun g h => (R1'.out.lt g h))
      go_wp2_with (at_builtin; (refine wpList_append_lies _ rfl _ _ 24 rfl w.heap.size 3 i0 (.int .i64 0) 1 8 Tryd.underlying24 hi0 hz0 hz1 hz2 rfl (by omega) _ tl _ rfl (R1'.out.alloc _) ⟨wr.heap.size, 0, none⟩ 1 1 [.int .i64 at_] rfl rfl (by exact one_new1 wr _ _) (by intro u hu; rw [List.mem_singleton.1 hu]; rfl) (by omega) (by unfold maxLen; omega) (by omega) (by have := BW.out.size; first | omega | (simp; omega)) (wr.heap.size + 1) (by first | rfl | simp) ?_; intro tg tc w3 hown3 hg3 hat3 hlt3; have H3 := Lib.hid (row_grown BW.out _ hg3 (fun g h => (F1.out g h).1)); have RW3 := Lib.hid (row_snoc TL.out hown3); have TG : Hid (tg ≠ bm ∧ tg ≠ w.heap.size ∧ tg < w3.heap.size) := Lib.hid (by have q := K1.out.lt; have q2 := KR1.out.lt; rcases hat3 with h | h; exact ⟨(T1.out tg h).1, (T1.out tg h).2.1, hlt3⟩; exact ⟨by omega, by omega, hlt3⟩); have K3 := Lib.hid (H3.out.2.blk K1.out (fun h => (T1.out bm h).1 rfl)); have KR3 := Lib.hid (H3.out.2.blk KR1.out (fun h => (T1.out _ h).2.1 rfl)); have O3 := Lib.hid (H3.out.2.mblk O1.out (fun h => (T1.out g1 h).2.2.1 rfl) (fun h => (T1.out g2 h).2.2.2.1 rfl) (fun h => (T1.out g3 h).2.2.2.2 rfl)); have y0 : w3.cell? ⟨bm, 0, none⟩ = some (.int .i64 at_) := K3.out.there rfl; have y1 : w3.cell? ⟨bm, 1, none⟩ = some (.slice (some ⟨g1, 0, none⟩) 6 6) := K3.out.there rfl; have y2 : w3.cell? ⟨bm, 2, none⟩ = some (.slice (some ⟨g2, 0, none⟩) 16 16) := K3.out.there rfl; have y3 : w3.cell? ⟨bm, 3, none⟩ = some (.slice (some ⟨g3, 0, none⟩) 16 16) := K3.out.there rfl; clear hown3 hg3 hat3 hlt3))
      refine (implDoStep_ok P n cap xs C cn cc ctx at_ _ _ _ _ _ _ m x w3 HG (hl.out.below H3.out.1) HX (by omega) HC (Lib.hid (hcl.out.below H3.out.1)) HCX hcn GM MA O3.out.lies hatn HXK (Lib.hid (powTab_below HT.out H3.out.1))).mono ?_
      intro e w4 hS
      clear y0 y1 y2 y3 K1 O1 R1 R1' T1 BW KR1 O3 x0 xl
      obtain ⟨r, hr⟩ : ∃ r, doM x ctx m = r := ⟨_, rfl⟩
      rw [hr] at hS
      have HD := Lib.hid hr
      clear hr
      rcases hS with ⟨hz, p1, p2, p3, rfl, mb4, ge4, hb4⟩ | ⟨hz, rfl, hb4⟩
      · have M4 := Lib.hid mb4
        have GE4 : Hid (tg < p1 ∧ tg < p2 ∧ tg < p3 ∧ bm < p1 ∧ bm < p2 ∧ bm < p3 ∧ w.heap.size < p1 ∧ w.heap.size < p2 ∧ w.heap.size < p3) := Lib.hid (by have := TG.out; have := K3.out.lt; omega)
        have K4 := Lib.hid (K3.out.below hb4)
        have KR4 := Lib.hid (KR3.out.below hb4)
        have RW4 : Hid (RowOf w w4 (some ⟨tg, 0, none⟩) tc (T ++ [(at_ : Int)])) := Lib.hid (own_below RW3.out hb4)
        have B4 := Lib.hid (Below.tr H3.out.1 hb4)
        clear mb4 ge4 hb4 K3 KR3 RW3 H3
        have yl := K4.out.lt
        cases he : r.2.2
        · obtain ⟨ng, na, nm⟩ := next_good HG.out HX.out GM.out HC.out HXA.out (by rw [HD.out]; exact hz) (by rw [HD.out]; exact he)
          rw [HD.out] at ng na nm
          have NG := Lib.hid ng
          have FIN : Hid (R = glue (T ++ [(at_ : Int)]) (runM xs ctx k r.1)) := Lib.hid (by rw [RT.out, run_next HXA.out (by rw [HD.out]; exact hz) (by rw [HD.out]; exact he), glue_glue, HD.out, MA.out])
          clear ng nm
          have y0 : w4.cell? ⟨bm, 0, none⟩ = some (.int .i64 at_) := K4.out.there rfl
          have y1 : w4.cell? ⟨bm, 1, none⟩ = some (.slice (some ⟨g1, 0, none⟩) 6 6) := K4.out.there rfl
          have y2 : w4.cell? ⟨bm, 2, none⟩ = some (.slice (some ⟨g2, 0, none⟩) 16 16) := K4.out.there rfl
          have y3 : w4.cell? ⟨bm, 3, none⟩ = some (.slice (some ⟨g3, 0, none⟩) 16 16) := K4.out.there rfl
          have z0 := K4.out.frozen 0
          have z1 := K4.out.frozen 1
          have z2 := K4.out.frozen 2
          have z3 := K4.out.frozen 3
          go_wp2
          go_roundw
          case rel =>
            refine ⟨k, r.1, T ++ [(at_ : Int)], some ⟨tg, 0, none⟩, tc, p1, p2, p3, by simp [TL.out]; omega, by simp [TL.out], by simp [TL.out], NG.out, na, FIN.out, ?_, ?_, ?_, ?_, ?_, ?_, ?_⟩
            · exact set4_blk K4.out _ _ _ _ _
            · exact (set4_kept w4 bm _ _ _ _ _).mblk M4.out (by have := GE4.out; omega) (by have := GE4.out; omega) (by have := GE4.out; omega)
            · exact own_kept3 RW4.out (set4_kept w4 bm _ _ _ _ _) (by have := TG.out; omega)
            · intro g hg
              have : g = tg := by simpa [Value.ownBlock] using hg.symm
              have := TG.out
              have := GE4.out
              omega
            · have := GE4.out
              omega
            · exact (set4_kept w4 bm _ _ _ _ _).blk KR4.out (by omega)
            · exact (set4_kept w4 bm _ _ _ _ _).below B4.out B4.out.size (fun q hq => by have hq' : q = bm := hq; omega)
          case measure => simp [intOf]; omega
        · have FIN : Hid (R = (m_reg r.1, 0, 0, T ++ [(at_ : Int)])) := Lib.hid (by rw [RT.out, run_end HXA.out (by rw [HD.out]; exact hz) (by rw [HD.out]; exact he), HD.out, MA.out]; rfl)
          have LR : Hid (r.1.r.length = 6) := Lib.hid (by have h := doM_end (x := x) (ctx := ctx) (m := m) (by rw [HD.out]; exact he); rw [HD.out] at h; rw [h]; exact GM.out.r)
          have r0 : w4.cell? ⟨p1, 0, none⟩ = some (.int .i64 (m_reg r.1)) := M4.out.1.there (by have hl := LR.out; have hlt : 0 < r.1.r.length := by omega
                                                                                                simp [m_reg, List.getD, List.getElem?_eq_getElem hlt])
          have gl := M4.out.1.lt
          have v0 : w4.cell? ⟨w.heap.size, 0, none⟩ = some (.slice none 0 0) := KR4.out.there rfl
          have v1 : w4.cell? ⟨w.heap.size, 1, none⟩ = some (.int .i64 0) := KR4.out.there rfl
          have v2 : w4.cell? ⟨w.heap.size, 2, none⟩ = some (.int .i64 0) := KR4.out.there rfl
          have v3 : w4.cell? ⟨w.heap.size, 3, none⟩ = some (.int .i64 0) := KR4.out.there rfl
          have q0 := KR4.out.frozen 0
          have q1 := KR4.out.frozen 1
          have q2 := KR4.out.frozen 2
          have q3 := KR4.out.frozen 3
          have vl := KR4.out.lt
          go_wp2
          refine bodyPost_ret (v := .tuple #[.agg #[.slice (some ⟨tg, 0, none⟩) (tl + 1) tc, .int .i64 (m_reg r.1), .int .i64 0, .int .i64 0], .bool true]) (by simp [results, Tryd.results18, go_sem, v0, v1, v2, v3, vl]) rfl ⟨some ⟨tg, 0, none⟩, tc, by rw [FIN.out]; simp [TL.out], ?_, ?_⟩
          · rw [FIN.out]
            exact own_kept3 RW4.out (set4_kept w4 w.heap.size _ _ _ _ _) (by have := TG.out; omega)
          · exact (set4_kept w4 w.heap.size _ _ _ _ _).below B4.out B4.out.size (fun q hq => by have hq' : q = w.heap.size := hq; omega)
      · have FIN : Hid (R = (0, r.2.1, (at_ : Int), T ++ [(at_ : Int)])) := Lib.hid (by rw [RT.out, run_fault HXA.out (by rw [HD.out]; exact hz), HD.out, MA.out]; rfl)
        have K4 := Lib.hid (K3.out.below hb4)
        have KR4 := Lib.hid (KR3.out.below hb4)
        have RW4 : Hid (RowOf w w4 (some ⟨tg, 0, none⟩) tc (T ++ [(at_ : Int)])) := Lib.hid (own_below RW3.out hb4)
        have B4 := Lib.hid (Below.tr H3.out.1 hb4)
        clear hb4 K3 KR3 RW3 H3
        have hfb : (r.2.1 != 0) = true := by simpa using hz
        have yl := K4.out.lt
        have y0 : w4.cell? ⟨bm, 0, none⟩ = some (.int .i64 at_) := K4.out.there rfl
        have v0 : w4.cell? ⟨w.heap.size, 0, none⟩ = some (.slice none 0 0) := KR4.out.there rfl
        have v1 : w4.cell? ⟨w.heap.size, 1, none⟩ = some (.int .i64 0) := KR4.out.there rfl
        have v2 : w4.cell? ⟨w.heap.size, 2, none⟩ = some (.int .i64 0) := KR4.out.there rfl
        have v3 : w4.cell? ⟨w.heap.size, 3, none⟩ = some (.int .i64 0) := KR4.out.there rfl
        have q0 := KR4.out.frozen 0
        have q1 := KR4.out.frozen 1
        have q2 := KR4.out.frozen 2
        have q3 := KR4.out.frozen 3
        have vl := KR4.out.lt
        go_wp2
        refine bodyPost_ret (v := .tuple #[.agg #[.slice (some ⟨tg, 0, none⟩) (tl + 1) tc, .int .i64 0, .int .i64 r.2.1, .int .i64 at_], .bool true]) (by simp [results, Tryd.results18, go_sem, v0, v1, v2, v3, vl]) rfl ⟨some ⟨tg, 0, none⟩, tc, by rw [FIN.out]; simp [TL.out], ?_, ?_⟩
        · rw [FIN.out]
          exact own_kept3 RW4.out (set4_kept w4 w.heap.size _ _ _ _ _) (by have := TG.out; omega)
        · exact (set4_kept w4 w.heap.size _ _ _ _ _).below B4.out B4.out.size (fun q hq => by have hq' : q = w.heap.size := hq; omega)
end Go.Proofs.YtilnegmjnbffhaaDoor
