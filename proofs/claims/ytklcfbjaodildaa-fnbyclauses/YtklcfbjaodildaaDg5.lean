/-
  The program's functions over diagrams: FixVar, ByClauses, EvalDiagram.
-/
import Derived.Test.YtklcfbjaodildaaDg4
namespace Go.Proofs.Ytklcfbjaodildaa
open Go.ChangeShapes Go.WideShapes Go.ChangeAt Go.RowKit Go.Maps

theorem wrap_pow {p q : Nat} (hq : 2 ^ p = q) (hp : p ≤ 6) : IntKind.i64.wrap (2 ^ p) = (q : Int) ∧ wrap64 (2 ^ p) = (q : Int) := by
  have := pow_le6 hp
  have hsh := shl_one p (by omega)
  rw [hq] at hsh
  refine ⟨by rw [← hsh, Int.one_mul], ?_⟩
  have e : (2 : Int) ^ p = (q : Int) := by rw [← hq]; push_cast; rfl
  rw [e]
  unfold wrap64
  omega
/-- the table with one variable fixed -/
def fixL (n p : Nat) (so : Bool) (f : Nat → Bool) : List Bool := (List.range (2 ^ n)).map (fun i => f (fixI i p so))
theorem fixL_len (n p : Nat) (so : Bool) (f : Nat → Bool) : (fixL n p so f).length = 2 ^ n := by simp [fixL]
theorem fixL_at {n p : Nat} {so : Bool} {f : Nat → Bool} {i : Nat} (h : i < 2 ^ n) : (fixL n p so f)[i]? = some (f (fixI i p so)) := by simp [fixL, h]
/-- what FixVar answers -/
noncomputable def rFix (a : Int) (ns : List Nd) (r : Int) (v : Int) (so : Bool) : (Int × List Nd × Int) × Bool := if goodDB a ns r && decide (1 ≤ v) && decide (v ≤ a) then dvOf a.toNat (fixL a.toNat (v - 1).toNat so (ev ns r)) else dv0
set_option maxRecDepth 100000 in
set_option maxHeartbeats 8000000 in
theorem implFix_any (a r v : Int) (so : Bool) (A : Option Addr) (n c : Nat) (ns : List Nd) (w : World) (d0 : Int) (ds : List Nd) (d2 : Int) (ok : Bool) (HR : Hid (rFix a ns r v so = ((d0, ds, d2), ok))) (hl : Hid (NLies w A ns)) (HX : Hid (ns.length = n)) (hn : n ≤ 1048576) :
    Calls Try.prog 24 #[.agg #[.int .i64 a, .slice A n c, .int .i64 r], .int .i64 v, .bool so] w fun e w' => GaveDg w d0 ds d2 ok e w' := by
  have L1 : Hid (NLies ((w.alloc (.cells #[.int .i64 a, .slice A n c, .int .i64 r] 28)).alloc (.cells #[.int .i64 0, .slice none 0 0, .int .i64 0] 28)) A ns) := Lib.hid (hl.out.below (below2 _ _ _))
  have K0 : Hid (Blk ((w.alloc (.cells #[.int .i64 a, .slice A n c, .int .i64 r] 28)).alloc (.cells #[.int .i64 0, .slice none 0 0, .int .i64 0] 28)) w.heap.size 28 [.int .i64 a, .slice A n c, .int .i64 r]) := Lib.hid (Blk.below (heap_alloc_new w _) (below1 _ _))
  have KR : Hid (Blk ((w.alloc (.cells #[.int .i64 a, .slice A n c, .int .i64 r] 28)).alloc (.cells #[.int .i64 0, .slice none 0 0, .int .i64 0] 28)) (w.heap.size + 1) 28 [.int .i64 0, .slice none 0 0, .int .i64 0]) := Lib.hid (blk_second w _ [.int .i64 0, .slice none 0 0, .int .i64 0])
  cases hg : goodDB a ns r
  · have E : Hid (dv0 = ((d0, ds, d2), ok)) := Lib.hid (by rw [← HR.out]; simp [rFix, hg])
    go_enter Try.func24, Try.ntmps24
    go_wp2_with fail
    refine (implGoodD_any a r A n c ns _ L1 HX hn).mono ?_
    rintro e w1 ⟨rfl, hb1⟩
    rw [hg]
    have hRB := KR.out.below hb1
    have hB1 := Below.tr (below2 w _ _) hb1
    clear hb1
    obtain ⟨q0, q1, q2, y0, y1, y2, hRl⟩ := blk_cells hRB
    have HRB := Lib.hid hRB
    have BFW := Lib.hid hB1
    go_wp2
    have hfin := dg_store HRB.out (.int .i64 0) (.slice none 0 0) (.int .i64 0)
    have hBB := hfin.1.below BFW.out BFW.out.size (fun i e => by omega)
    obtain ⟨W', hW'⟩ : ∃ W', W' = (((w1.setCell ⟨w.heap.size + 1, 0, none⟩ (.int .i64 0)).setCell ⟨w.heap.size + 1, 1, none⟩ (.slice none 0 0)).setCell ⟨w.heap.size + 1, 2, none⟩ (.int .i64 0)) := ⟨_, rfl⟩
    rw [← hW'] at hfin hBB ⊢
    obtain ⟨_, r0, r1, r2⟩ := hfin
    exact bodyPost_ret (v := .tuple #[.agg #[.int .i64 0, .slice none 0 0, .int .i64 0], .bool false]) (by simp [results, Try.results24, go_sem, r0, r1, r2]) rfl (gaveDg_zero E.out hBB)
  by_cases hv1 : v < 1
  · have E : Hid (dv0 = ((d0, ds, d2), ok)) := Lib.hid (by rw [← HR.out]; simp [rFix, show ¬ (1 ≤ v) by omega])
    go_enter Try.func24, Try.ntmps24
    go_wp2_with fail
    refine (implGoodD_any a r A n c ns _ L1 HX hn).mono ?_
    rintro e w1 ⟨rfl, hb1⟩
    rw [hg]
    have hRB := KR.out.below hb1
    have hB1 := Below.tr (below2 w _ _) hb1
    clear hb1
    obtain ⟨q0, q1, q2, y0, y1, y2, hRl⟩ := blk_cells hRB
    have HRB := Lib.hid hRB
    have BFW := Lib.hid hB1
    go_wp2
    have hfin := dg_store HRB.out (.int .i64 0) (.slice none 0 0) (.int .i64 0)
    have hBB := hfin.1.below BFW.out BFW.out.size (fun i e => by omega)
    obtain ⟨W', hW'⟩ : ∃ W', W' = (((w1.setCell ⟨w.heap.size + 1, 0, none⟩ (.int .i64 0)).setCell ⟨w.heap.size + 1, 1, none⟩ (.slice none 0 0)).setCell ⟨w.heap.size + 1, 2, none⟩ (.int .i64 0)) := ⟨_, rfl⟩
    rw [← hW'] at hfin hBB ⊢
    obtain ⟨_, r0, r1, r2⟩ := hfin
    exact bodyPost_ret (v := .tuple #[.agg #[.int .i64 0, .slice none 0 0, .int .i64 0], .bool false]) (by simp [results, Try.results24, go_sem, r0, r1, r2]) rfl (gaveDg_zero E.out hBB)
  by_cases hv2 : a < v
  · have E : Hid (dv0 = ((d0, ds, d2), ok)) := Lib.hid (by rw [← HR.out]; simp [rFix, show ¬ (v ≤ a) by omega])
    go_enter Try.func24, Try.ntmps24
    go_wp2_with fail
    refine (implGoodD_any a r A n c ns _ L1 HX hn).mono ?_
    rintro e w1 ⟨rfl, hb1⟩
    rw [hg]
    have hRB := KR.out.below hb1
    have hB1 := Below.tr (below2 w _ _) hb1
    obtain ⟨t0, t1, t2, _, _, _, hwl⟩ := blk_cells (K0.out.below hb1)
    clear hb1
    obtain ⟨q0, q1, q2, y0, y1, y2, hRl⟩ := blk_cells hRB
    have HRB := Lib.hid hRB
    have BFW := Lib.hid hB1
    go_wp2
    have hfin := dg_store HRB.out (.int .i64 0) (.slice none 0 0) (.int .i64 0)
    have hBB := hfin.1.below BFW.out BFW.out.size (fun i e => by omega)
    obtain ⟨W', hW'⟩ : ∃ W', W' = (((w1.setCell ⟨w.heap.size + 1, 0, none⟩ (.int .i64 0)).setCell ⟨w.heap.size + 1, 1, none⟩ (.slice none 0 0)).setCell ⟨w.heap.size + 1, 2, none⟩ (.int .i64 0)) := ⟨_, rfl⟩
    rw [← hW'] at hfin hBB ⊢
    obtain ⟨_, r0, r1, r2⟩ := hfin
    exact bodyPost_ret (v := .tuple #[.agg #[.int .i64 0, .slice none 0 0, .int .i64 0], .bool false]) (by simp [results, Try.results24, go_sem, r0, r1, r2]) rfl (gaveDg_zero E.out hBB)
  have hgd := goodDB_true.1 hg
  obtain ⟨p, rfl⟩ : ∃ p : Nat, a = p := ⟨a.toNat, by have := hgd.1; omega⟩
  have hp6 : p ≤ 6 := by have := hgd.2.1; omega
  have HF := Lib.hid hgd.2.2.1
  obtain ⟨q, hq⟩ : ∃ q, 2 ^ p = q := ⟨_, rfl⟩
  have HQ := Lib.hid hq
  have hq64 : q ≤ 64 := by rw [← hq]; exact pow_le6 hp6
  obtain ⟨i0, hi0, hz0, hz1, hz2⟩ := info_parts info_bool
  obtain ⟨hsh2, hsh3⟩ := wrap_pow hq hp6
  obtain ⟨t, ht⟩ : ∃ t : Nat, v = t + 1 := ⟨(v - 1).toNat, by omega⟩
  have htp : t < p := by omega
  have HV := Lib.hid ht
  obtain ⟨u, hu⟩ : ∃ u, 2 ^ t = u := ⟨_, rfl⟩
  have HU := Lib.hid hu
  obtain ⟨T, hT⟩ : ∃ T, fixL p t so (ev ns r) = T := ⟨_, rfl⟩
  have hTl : T.length = q := by rw [← hT, fixL_len, hq]
  have E : Hid (dvOf p T = ((d0, ds, d2), ok)) := Lib.hid (by rw [← HR.out, ← hT]; simp [rFix, hg, show 1 ≤ v by omega, show v ≤ (p : Int) by omega, show v.toNat - 1 = t by omega])
  obtain ⟨k, ms, hkm⟩ : ∃ k ms, dgm p T = (k, ms) := ⟨_, _, rfl⟩
  have DK := Lib.hid hkm
  have hml := dgm_len hp6 (by rw [hTl, HQ.out]) hkm
  have TL := Lib.hid hTl
  have HAT : Hid (∀ j, j < q → T[j]? = some (ev ns r (fixI j t so))) := Lib.hid (fun j hj => by rw [← hT]; exact fixL_at (by rw [hq]; exact hj))
  have HLT : Hid (∀ j, j < q → fixI j t so < 64) := Lib.hid (fun j hj => by have := fixI_lt so (show j < 2 ^ p by rw [hq]; exact hj) htp; rw [hq] at this; omega)
  have HAN : Hid (∀ j, j < q → bits .andNot .i64 (j : Int) (u : Int) = ((fixI j t false : Nat) : Int)) := Lib.hid (fun j hj => by rw [← hu]; exact i64_andNot_nat j t (by omega) (by omega))
  have HOR : Hid (∀ j, j < q → bits .or .i64 ((fixI j t false : Nat) : Int) (u : Int) = ((fixI j t true : Nat) : Int)) := Lib.hid (fun j hj => by rw [← hu]; exact fix_or j t (by omega) (by omega))
  clear hkm hq hT hTl hgd ht hu
  go_enter Try.func24, Try.ntmps24
  go_wp2_with fail
  refine (implGoodD_any p r A n c ns _ L1 HX hn).mono ?_
  rintro e w1 ⟨rfl, hb1⟩
  rw [hg]
  have B1 := Lib.hid (Below.tr (below2 w _ _) hb1)
  have L2 := Lib.hid (L1.out.below hb1)
  have K1 := Lib.hid (K0.out.below hb1)
  have R1 := Lib.hid (KR.out.below hb1)
  obtain ⟨t0, t1, t2, _, _, _, hwl⟩ := blk_cells K1.out
  have hrl := R1.out.lt
  clear hb1
  go_wp2_with (at_make; (refine wpList_make_full _ rfl _ _ 49 rfl w1.heap.size 4 i0 _ 1 Try.underlying49 hi0 hz0 hz1 _ _ _ _ q rfl rfl (by omega) (by omega) (by rw [hz2]; omega) (by unfold maxLen; omega) (Nat.le_refl _) ?_; intro w2 hown1 hg1; have HC := Lib.hid (VCopied.start (vs := T.map Value.bool) (by simp [TL.out]) hown1); have HB := Lib.hid ((Below.refl w1.heap.size w1).grown hg1 (Nat.le_refl _) (by simp)); clear hown1 hg1))
  clear t0 t1 t2
  go_loopw [31] (fun i wr => ∃ j : Nat, j ≤ q ∧ i = .int .i64 j ∧ VCopied 4 w1.heap.size (T.map Value.bool) j wr ∧ Below w1.heap.size w1 wr) (fun i _ => q - (intOf i).toNat)
  case atStart => exact ⟨0, Nat.zero_le _, rfl, HC.out, HB.out⟩
  case round =>
    obtain ⟨j, hj, rfl, hc, hb⟩ := hrel
    have C1 := Lib.hid hc
    have BB := Lib.hid hb
    have K2 := Lib.hid (K1.out.below hb)
    have R2 := Lib.hid (R1.out.below hb)
    have L3 := Lib.hid (L2.out.below hb)
    obtain ⟨t0, t1, t2, _, _, _, hwl2⟩ := blk_cells K2.out
    clear hc hb HC HB
    by_cases hlt : j < q
    · have HXK : Hid ((T.map Value.bool)[j]? = some (.bool (ev ns r (fixI j t so)))) := Lib.hid (by rw [List.getElem?_map, HAT.out j hlt]; rfl)
      have hfl := HLT.out j hlt
      have han := HAN.out j hlt
      have hor := HOR.out j hlt
      obtain ⟨f1, hf1⟩ : ∃ f1, fixI j t so = f1 := ⟨_, rfl⟩
      rw [hf1] at HXK hfl
      cases so
      · rw [hf1] at han
        clear hor hf1
        go_wp2_with (go_at_call 91; refine (bitOfVar_any _ t u _ HV HU (by omega)).mono ?_; rintro e w' ⟨rfl, rfl⟩)
        refine (valueAt_any p r A n c f1 ns _ L3 HX hn HF (by omega) (by omega)).mono ?_
        rintro e w3 ⟨rfl, hb3⟩
        have C2 := Lib.hid (C1.out.below' hb3)
        have B2 := Lib.hid (Below.tr BB.out hb3)
        clear hb3 C1 BB L3 t0 t1 t2
        obtain ⟨v0, t0⟩ := C2.out.there j (by simp [TL.out]; omega)
        have f0 := C2.out.free j
        go_wp2
        go_roundw
        case rel => exact ⟨j + 1, by omega, by go_num, C2.out.step HXK.out, B2.out.setCell (Nat.le_refl _) _⟩
        case measure => simp [intOf]; omega
      · rw [hf1] at hor
        obtain ⟨f2, hf2⟩ : ∃ f2, fixI j t false = f2 := ⟨_, rfl⟩
        rw [hf2] at han hor
        have hf2l : f2 < 64 := by rw [← hf2]; exact Nat.lt_of_le_of_lt Nat.and_le_left (by omega)
        clear hf1 hf2
        go_wp2_with (go_at_call 91; refine (bitOfVar_any _ t u _ HV HU (by omega)).mono ?_; rintro e w' ⟨rfl, rfl⟩)
        refine (valueAt_any p r A n c f1 ns _ L3 HX hn HF (by omega) (by omega)).mono ?_
        rintro e w3 ⟨rfl, hb3⟩
        have C2 := Lib.hid (C1.out.below' hb3)
        have B2 := Lib.hid (Below.tr BB.out hb3)
        clear hb3 C1 BB L3 t0 t1 t2
        obtain ⟨v0, t0⟩ := C2.out.there j (by simp [TL.out]; omega)
        have f0 := C2.out.free j
        go_wp2
        go_roundw
        case rel => exact ⟨j + 1, by omega, by go_num, C2.out.step HXK.out, B2.out.setCell (Nat.le_refl _) _⟩
        case measure => simp [intOf]; omega
    · obtain rfl : j = q := by omega
      have M2 : Hid (Blk wr w1.heap.size 4 (T.map Value.bool)) := Lib.hid (by have h := C1.out; rw [show j = (T.map Value.bool).length by simp [TL.out]] at h; exact h.end_)
      have BW := Lib.hid (Below.tr B1.out BB.out)
      go_wp2_with fail
      refine (diagramOf_any p _ j j T _ k ms hp6 TL HQ (Lib.hid M2.out.blies) DK).mono ?_
      rintro e w3 ⟨gd, rfl, hgd, hdk, hb3⟩
      have hRB := R2.out.below hb3
      have hB3 := Below.tr BW.out hb3
      have hgd2 : w.heap.size + 1 < gd := by have := R2.out.lt; omega
      clear hb3 t0 t1 t2
      obtain ⟨q0, q1, q2, y0, y1, y2, hRl⟩ := blk_cells hRB
      have HRB := Lib.hid hRB
      have HDK := Lib.hid hdk
      have BFW := Lib.hid hB3
      clear hdk
      go_wp2
      have hfin := dg_store HRB.out (.int .i64 p) (.slice (some ⟨gd, 0, none⟩) ms.length ms.length) (.int .i64 k)
      have hBK := HDK.out.kept1 hfin.1 (by omega)
      have hBB := hfin.1.below BFW.out BFW.out.size (fun i e => by omega)
      obtain ⟨W', hW'⟩ : ∃ W', W' = (((w3.setCell ⟨w.heap.size + 1, 0, none⟩ (.int .i64 p)).setCell ⟨w.heap.size + 1, 1, none⟩ (.slice (some ⟨gd, 0, none⟩) ms.length ms.length)).setCell ⟨w.heap.size + 1, 2, none⟩ (.int .i64 k)) := ⟨_, rfl⟩
      rw [← hW'] at hfin hBK hBB ⊢
      obtain ⟨_, r0, r1, r2⟩ := hfin
      exact bodyPost_ret (v := .tuple #[.agg #[.int .i64 p, .slice (some ⟨gd, 0, none⟩) ms.length ms.length, .int .i64 k], .bool true]) (by simp [results, Try.results24, go_sem, r0, r1, r2]) rfl (gaveDg_blk E.out DK.out (by omega) hBK hml hBB)
/-- the table of clauses -/
def clT (p : Nat) (L : List (List Int)) : List Bool := (List.range (2 ^ p)).map (fun i => holdsB (modelN p i) L)
theorem clT_len (p : Nat) (L : List (List Int)) : (clT p L).length = 2 ^ p := by simp [clT]
theorem clT_at {p : Nat} {L : List (List Int)} {i : Nat} (h : i < 2 ^ p) : (clT p L)[i]? = some (holdsB (modelN p i) L) := by simp [clT, h]
/-- what ByClauses answers -/
def rBy (v : Int) (L : List (List Int)) : (Int × List Nd × Int) × Bool := if decide (v ≤ 6) && goodB v L then dvOf v.toNat (clT v.toNat L) else dv0
set_option maxRecDepth 100000 in
set_option maxHeartbeats 8000000 in
theorem implBy_any (v : Int) (A : Option Addr) (n cap : Nat) (L : List (List Int)) (w : World) (d0 : Int) (ds : List Nd) (d2 : Int) (ok : Bool) (HR : Hid (rBy v L = ((d0, ds, d2), ok))) (hl : Hid (LLies w A L)) (HX : Hid (L.length = n)) (hn : n ≤ 9223372036854775807) :
    Calls Try.prog 16 #[.int .i64 v, .slice A n cap] w fun e w' => GaveDg w d0 ds d2 ok e w' := by
  have L1 : Hid (LLies (w.alloc (.cells #[.int .i64 0, .slice none 0 0, .int .i64 0] 28)) A L) := Lib.hid (hl.out.below (below1 _ _))
  have KR : Hid (Blk (w.alloc (.cells #[.int .i64 0, .slice none 0 0, .int .i64 0] 28)) w.heap.size 28 [.int .i64 0, .slice none 0 0, .int .i64 0]) := Lib.hid (heap_alloc_new w _)
  by_cases hv6 : 6 < v
  · have E : Hid (dv0 = ((d0, ds, d2), ok)) := Lib.hid (by rw [← HR.out]; simp [rBy, show ¬ (v ≤ 6) by omega])
    go_enter Try.func16, Try.ntmps16
    go_wp2
    exact bodyPost_ret (v := .tuple #[.agg #[.int .i64 0, .slice none 0 0, .int .i64 0], .bool false]) (by simp [results, Try.results16, go_sem]) rfl (gaveDg_zero E.out (below1 _ _))
  cases q1 : goodB v L
  · have E : Hid (dv0 = ((d0, ds, d2), ok)) := Lib.hid (by rw [← HR.out]; simp [rBy, q1])
    go_enter Try.func16, Try.ntmps16
    go_wp2_with (go_at_call 76; refine (implGoodC_any _ _ _ _ L _ L1 HX hn).mono ?_; rintro e w' ⟨rfl, rfl⟩; rw [q1])
    exact bodyPost_ret (v := .tuple #[.agg #[.int .i64 0, .slice none 0 0, .int .i64 0], .bool false]) (by simp [results, Try.results16, go_sem]) rfl (gaveDg_zero E.out (below1 _ _))
  have hv := goodB_v q1
  obtain ⟨p, rfl⟩ : ∃ p : Nat, v = p := ⟨v.toNat, by omega⟩
  have hp6 : p ≤ 6 := by omega
  have HI := Lib.hid (goodB_in12 q1)
  have HCL : Hid (∀ M : List Bool, M.length = p → holdF (trueL M) L = holdsB M L) := Lib.hid (fun M hM => hold_same (fun c hc x hx => by rw [hM]; exact clauseB_lits (goodB_cl q1 c hc) x hx))
  obtain ⟨q, hq⟩ : ∃ q, 2 ^ p = q := ⟨_, rfl⟩
  have HQ := Lib.hid hq
  have hq64 : q ≤ 64 := by rw [← hq]; exact pow_le6 hp6
  obtain ⟨i0, hi0, hz0, hz1, hz2⟩ := info_parts info_bool
  obtain ⟨hsh2, hsh3⟩ := wrap_pow hq hp6
  obtain ⟨T, hT⟩ : ∃ T, clT p L = T := ⟨_, rfl⟩
  have hTl : T.length = q := by rw [← hT, clT_len, hq]
  have E : Hid (dvOf p T = ((d0, ds, d2), ok)) := Lib.hid (by rw [← HR.out, ← hT]; simp [rBy, q1, show (p : Int) ≤ 6 by omega])
  obtain ⟨k, ms, hkm⟩ : ∃ k ms, dgm p T = (k, ms) := ⟨_, _, rfl⟩
  have DK := Lib.hid hkm
  have hml := dgm_len hp6 (by rw [hTl, HQ.out]) hkm
  have TL := Lib.hid hTl
  have HAT : Hid (∀ j, j < q → T[j]? = some (holdsB (modelN p j) L)) := Lib.hid (fun j hj => by rw [← hT]; exact clT_at (by rw [hq]; exact hj))
  clear hkm hq hT hTl hv
  go_enter Try.func16, Try.ntmps16
  go_wp2_with (first
    | (go_at_call 76; refine (implGoodC_any _ _ _ _ L _ L1 HX hn).mono ?_; rintro e w' ⟨rfl, rfl⟩; rw [q1])
    | (at_make; (refine wpList_make_full _ rfl _ _ 49 rfl w.heap.size 4 i0 _ 1 Try.underlying49 hi0 hz0 hz1 _ _ _ _ q rfl rfl (by omega) (by omega) (by rw [hz2]; omega) (by unfold maxLen; omega) (by simp) ?_; intro w2 hown1 hg1; rw [show (w.alloc (.cells #[.int .i64 0, .slice none 0 0, .int .i64 0] 28)).heap.size = w.heap.size + 1 by simp] at hown1; have HC := Lib.hid (VCopied.start (vs := T.map Value.bool) (by simp [TL.out]) hown1); have HB := Lib.hid ((below1 w _).grown hg1 (by simp) (by simp)); have HD := Lib.hid ((Kept.of_grown (S := fun _ => False) hg1 (fun g e => by cases e)).blk KR.out (fun e => e)); clear hown1 hg1)))
  go_loopw [22] (fun i wr => ∃ j : Nat, j ≤ q ∧ i = .int .i64 j ∧ VCopied 4 (w.heap.size + 1) (T.map Value.bool) j wr ∧ Below w.heap.size w wr ∧ Blk wr w.heap.size 28 [.int .i64 0, .slice none 0 0, .int .i64 0]) (fun i _ => q - (intOf i).toNat)
  case atStart => exact ⟨0, Nat.zero_le _, rfl, HC.out, HB.out, HD.out⟩
  case round =>
    obtain ⟨j, hj, rfl, hc, hb, hrb⟩ := hrel
    have C1 := Lib.hid hc
    have BB := Lib.hid hb
    have R1 := Lib.hid hrb
    have L2 := Lib.hid (hl.out.below hb)
    clear hc hb hrb HC HB HD
    by_cases hlt : j < q
    · have HXK : Hid ((T.map Value.bool)[j]? = some (.bool (holdsB (modelN p j) L))) := Lib.hid (by rw [List.getElem?_map, HAT.out j hlt]; rfl)
      go_wp2_with fail
      refine (modelOf_any p j _ (by omega) (by omega)).mono ?_
      rintro e w1 ⟨rfl, hk1, hb1⟩
      have M1 := Lib.hid hk1.blies
      have B2 := Lib.hid (Below.tr BB.out hb1)
      have L3 := Lib.hid (L2.out.below hb1)
      have C2 := Lib.hid (C1.out.below' hb1)
      have R2 := Lib.hid (R1.out.below hb1)
      clear hk1 hb1 L2 BB C1 R1
      go_wp2_with fail
      refine (trueLits_any _ _ _ (modelN p j) _ M1 (modelN_len p j) (by omega)).mono ?_
      rintro e w' ⟨rfl, rfl⟩
      go_wp2_with fail
      refine (holdIn_any _ _ _ _ L _ (Lib.hid (trueL_in12 (by rw [modelN_len]; omega))) L3 HX HI hn).mono ?_
      rintro e w' ⟨rfl, rfl⟩
      rw [HCL.out _ (modelN_len p j)]
      obtain ⟨v0, t0⟩ := C2.out.there j (by simp [TL.out]; omega)
      have f0 := C2.out.free j
      go_wp2
      go_roundw
      case rel => exact ⟨j + 1, by omega, by go_num, C2.out.step HXK.out, B2.out.setCell (Nat.le_succ _) _, R2.out.far (by omega) _⟩
      case measure => simp [intOf]; omega
    · obtain rfl : j = q := by omega
      have M2 : Hid (Blk wr (w.heap.size + 1) 4 (T.map Value.bool)) := Lib.hid (by have h := C1.out; rw [show j = (T.map Value.bool).length by simp [TL.out]] at h; exact h.end_)
      go_wp2_with fail
      refine (diagramOf_any p _ j j T _ k ms hp6 TL HQ (Lib.hid M2.out.blies) DK).mono ?_
      rintro e w3 ⟨gd, rfl, hgd, hdk, hb3⟩
      have hRB := R1.out.below hb3
      have hB3 := Below.tr BB.out hb3
      have hgd2 : w.heap.size < gd := by have := R1.out.lt; omega
      clear hb3
      obtain ⟨q0, q1, q2, y0, y1, y2, hRl⟩ := blk_cells hRB
      have HRB := Lib.hid hRB
      have HDK := Lib.hid hdk
      have BFW := Lib.hid hB3
      clear hdk
      go_wp2
      have hfin := dg_store HRB.out (.int .i64 p) (.slice (some ⟨gd, 0, none⟩) ms.length ms.length) (.int .i64 k)
      have hBK := HDK.out.kept1 hfin.1 (by omega)
      have hBB := hfin.1.below BFW.out BFW.out.size (fun i e => by omega)
      obtain ⟨W', hW'⟩ : ∃ W', W' = (((w3.setCell ⟨w.heap.size, 0, none⟩ (.int .i64 p)).setCell ⟨w.heap.size, 1, none⟩ (.slice (some ⟨gd, 0, none⟩) ms.length ms.length)).setCell ⟨w.heap.size, 2, none⟩ (.int .i64 k)) := ⟨_, rfl⟩
      rw [← hW'] at hfin hBK hBB ⊢
      obtain ⟨_, r0, r1, r2⟩ := hfin
      exact bodyPost_ret (v := .tuple #[.agg #[.int .i64 p, .slice (some ⟨gd, 0, none⟩) ms.length ms.length, .int .i64 k], .bool true]) (by simp [results, Try.results16, go_sem, r0, r1, r2]) rfl (gaveDg_blk E.out DK.out (by omega) hBK hml hBB)
end Go.Proofs.Ytklcfbjaodildaa
