/-
  The model's functions over diagrams: BothOf, OnesOf, FixVar, ByClauses.
-/
import Derived.Test.YtklcfbjaodildaaSp6
namespace Go.Proofs.Ytklcfbjaodildaa
open Go.ChangeShapes Go.WideShapes Go.ChangeAt Go.RowKit Go.Maps

theorem pow_inj2 {a b : Nat} (h : 2 ^ a = 2 ^ b) : a = b := by
  rcases Nat.lt_trichotomy a b with h1 | h1 | h1
  · have := Nat.pow_lt_pow_right (a := 2) (by omega) h1; omega
  · exact h1
  · have := Nat.pow_lt_pow_right (a := 2) (by omega) h1; omega
set_option maxRecDepth 100000 in
set_option maxHeartbeats 8000000 in
theorem specBoth_any (a r b s : Int) (A B : Option Addr) (n c m c2 : Nat) (ns ms : List Nd) (w : World) (d0 : Int) (ds : List Nd) (d2 : Int) (ok : Bool) (HR : Hid (rBoth a ns r b ms s = ((d0, ds, d2), ok))) (hl : Hid (NLies w A ns)) (HX : Hid (ns.length = n)) (hn : n ≤ 1048576) (hl2 : Hid (NLies w B ms)) (HY : Hid (ms.length = m)) (hm : m ≤ 1048576) :
    Calls Try.prog 27 #[.agg #[.int .i64 a, .slice A n c, .int .i64 r], .agg #[.int .i64 b, .slice B m c2, .int .i64 s]] w fun e w' => GaveDg w d0 ds d2 ok e w' := by
  have L1 : Hid (NLies (((w.alloc (.cells #[.int .i64 a, .slice A n c, .int .i64 r] 28)).alloc (.cells #[.int .i64 b, .slice B m c2, .int .i64 s] 28)).alloc (.cells #[.int .i64 0, .slice none 0 0, .int .i64 0] 28)) A ns) := Lib.hid (hl.out.below (below3 _ _ _ _))
  have K0 : Hid (Blk (((w.alloc (.cells #[.int .i64 a, .slice A n c, .int .i64 r] 28)).alloc (.cells #[.int .i64 b, .slice B m c2, .int .i64 s] 28)).alloc (.cells #[.int .i64 0, .slice none 0 0, .int .i64 0] 28)) w.heap.size 28 [.int .i64 a, .slice A n c, .int .i64 r]) := Lib.hid (Blk.below (heap_alloc_new w _) (below2 _ _ _))
  have K0b : Hid (Blk (((w.alloc (.cells #[.int .i64 a, .slice A n c, .int .i64 r] 28)).alloc (.cells #[.int .i64 b, .slice B m c2, .int .i64 s] 28)).alloc (.cells #[.int .i64 0, .slice none 0 0, .int .i64 0] 28)) (w.heap.size + 1) 28 [.int .i64 b, .slice B m c2, .int .i64 s]) := Lib.hid (Blk.below (blk_second w _ [.int .i64 b, .slice B m c2, .int .i64 s]) (below1 _ _))
  have KR : Hid (Blk (((w.alloc (.cells #[.int .i64 a, .slice A n c, .int .i64 r] 28)).alloc (.cells #[.int .i64 b, .slice B m c2, .int .i64 s] 28)).alloc (.cells #[.int .i64 0, .slice none 0 0, .int .i64 0] 28)) (w.heap.size + 2) 28 [.int .i64 0, .slice none 0 0, .int .i64 0]) := Lib.hid (blk_third w _ _ [.int .i64 0, .slice none 0 0, .int .i64 0])
  have HSZ : Hid ((((w.alloc (.cells #[.int .i64 a, .slice A n c, .int .i64 r] 28)).alloc (.cells #[.int .i64 b, .slice B m c2, .int .i64 s] 28)).alloc (.cells #[.int .i64 0, .slice none 0 0, .int .i64 0] 28)).heap.size = w.heap.size + 3) := Lib.hid (by simp)
  obtain ⟨T, t1k, hrt⟩ := rTab_any a ns r
  obtain ⟨V, t2k, hrv⟩ := rTab_any b ms s
  have HRT := Lib.hid hrt
  have HRV := Lib.hid hrv
  have hT64 := rTab_len hrt
  have hV64 := rTab_len hrv
  obtain ⟨q, hq⟩ : ∃ q, T.length = q := ⟨_, rfl⟩
  obtain ⟨u, hu⟩ : ∃ u, V.length = u := ⟨_, rfl⟩
  have TL := Lib.hid hq
  have VL := Lib.hid hu
  rw [hq] at hT64
  rw [hu] at hV64
  have YES : Hid ((t1k && t2k && decide (q = u)) = (decide (a = b) && goodDB a ns r && goodDB b ms s)) := Lib.hid (by
    cases h1 : goodDB a ns r
    · rw [(rTab_no hrt h1).2]; simp
    · cases h2 : goodDB b ms s
      · rw [(rTab_no hrv h2).2]; simp
      · have g1 := goodDB_true.1 h1
        have g2 := goodDB_true.1 h2
        have e1 : t1k = true := by rw [hrt.1, h1]
        have e2 : t2k = true := by rw [hrv.1, h2]
        have l1 : q = 2 ^ a.toNat := by have h3 := hrt.2; rw [e1, if_pos rfl] at h3; rw [← hq, h3, tabL_len]
        have l2 : u = 2 ^ b.toNat := by have h3 := hrv.2; rw [e2, if_pos rfl] at h3; rw [← hu, h3, tabL_len]
        rw [e1, e2, l1, l2, Bool.eq_iff_iff]
        simp only [Bool.and_true, Bool.true_and, decide_eq_true_eq]
        constructor
        · intro h
          have := pow_inj2 h
          have := g1.1
          have := g2.1
          omega
        · rintro rfl
          rfl)
  clear hrt hrv hq hu
  go_enter Try.func27, Try.ntmps27
  go_wp2_with fail
  refine (specTab_any a r A n c ns _ T t1k HRT L1 HX hn).mono ?_
  rw [TL.out]
  rintro e w1 ⟨A1, c1, rfl, ho1, hb1⟩
  have B1 := Lib.hid (Below.tr (below3 w _ _ _) hb1)
  have K1 := Lib.hid (K0.out.below hb1)
  have K1b := Lib.hid (K0b.out.below hb1)
  have R1 := Lib.hid (KR.out.below hb1)
  rw [HSZ.out] at ho1
  have O1 := Lib.hid ho1
  have L2 := Lib.hid (hl2.out.below B1.out)
  have hs1 : w.heap.size + 3 ≤ w1.heap.size := by have := hb1.size; rw [HSZ.out] at this; exact this
  obtain ⟨x0, x1, x2, _, _, _, hxl⟩ := blk_cells K1b.out
  clear ho1 hb1
  go_wp2_with fail
  refine (specTab_any b s B m c2 ms _ V t2k HRV L2 HY hm).mono ?_
  rw [VL.out]
  rintro e w2 ⟨A2, c3, rfl, ho2, hb2⟩
  have B2 := Lib.hid (Below.tr B1.out hb2)
  have K2 := Lib.hid (K1.out.below hb2)
  have R2 := Lib.hid (R1.out.below hb2)
  have O2 := Lib.hid (own_below O1.out hb2)
  have P2 := Lib.hid ho2
  clear ho2 hb2 x0 x1 x2 hxl
  cases hy : (t1k && t2k && decide (q = u))
  · have E : Hid (dv0 = ((d0, ds, d2), ok)) := Lib.hid (by rw [← HR.out]; unfold rBoth; rw [← YES.out, hy]; rfl)
    have hRB := R2.out
    have hB1 := B2.out
    cases t1k
    · obtain ⟨q0, q1, q2, y0, y1, y2, hRl⟩ := blk_cells hRB
      have HRB := Lib.hid hRB
      have BFW := Lib.hid hB1
      go_wp2
      have hfin := dg_store HRB.out (.int .i64 0) (.slice none 0 0) (.int .i64 0)
      have hBB := hfin.1.below BFW.out BFW.out.size (fun i e => by omega)
      obtain ⟨W', hW'⟩ : ∃ W', W' = (((w2.setCell ⟨w.heap.size + 2, 0, none⟩ (.int .i64 0)).setCell ⟨w.heap.size + 2, 1, none⟩ (.slice none 0 0)).setCell ⟨w.heap.size + 2, 2, none⟩ (.int .i64 0)) := ⟨_, rfl⟩
      rw [← hW'] at hfin hBB ⊢
      obtain ⟨_, r0, r1, r2⟩ := hfin
      exact bodyPost_ret (v := .tuple #[.agg #[.int .i64 0, .slice none 0 0, .int .i64 0], .bool false]) (by simp [results, Try.results27, go_sem, r0, r1, r2]) rfl (gaveDg_zero E.out hBB)
    cases t2k
    · obtain ⟨q0, q1, q2, y0, y1, y2, hRl⟩ := blk_cells hRB
      have HRB := Lib.hid hRB
      have BFW := Lib.hid hB1
      go_wp2
      have hfin := dg_store HRB.out (.int .i64 0) (.slice none 0 0) (.int .i64 0)
      have hBB := hfin.1.below BFW.out BFW.out.size (fun i e => by omega)
      obtain ⟨W', hW'⟩ : ∃ W', W' = (((w2.setCell ⟨w.heap.size + 2, 0, none⟩ (.int .i64 0)).setCell ⟨w.heap.size + 2, 1, none⟩ (.slice none 0 0)).setCell ⟨w.heap.size + 2, 2, none⟩ (.int .i64 0)) := ⟨_, rfl⟩
      rw [← hW'] at hfin hBB ⊢
      obtain ⟨_, r0, r1, r2⟩ := hfin
      exact bodyPost_ret (v := .tuple #[.agg #[.int .i64 0, .slice none 0 0, .int .i64 0], .bool false]) (by simp [results, Try.results27, go_sem, r0, r1, r2]) rfl (gaveDg_zero E.out hBB)
    have hne : ((q : Int) != (u : Int)) = true := by simp at hy ⊢; omega
    obtain ⟨q0, q1, q2, y0, y1, y2, hRl⟩ := blk_cells hRB
    have HRB := Lib.hid hRB
    have BFW := Lib.hid hB1
    go_wp2
    have hfin := dg_store HRB.out (.int .i64 0) (.slice none 0 0) (.int .i64 0)
    have hBB := hfin.1.below BFW.out BFW.out.size (fun i e => by omega)
    obtain ⟨W', hW'⟩ : ∃ W', W' = (((w2.setCell ⟨w.heap.size + 2, 0, none⟩ (.int .i64 0)).setCell ⟨w.heap.size + 2, 1, none⟩ (.slice none 0 0)).setCell ⟨w.heap.size + 2, 2, none⟩ (.int .i64 0)) := ⟨_, rfl⟩
    rw [← hW'] at hfin hBB ⊢
    obtain ⟨_, r0, r1, r2⟩ := hfin
    exact bodyPost_ret (v := .tuple #[.agg #[.int .i64 0, .slice none 0 0, .int .i64 0], .bool false]) (by simp [results, Try.results27, go_sem, r0, r1, r2]) rfl (gaveDg_zero E.out hBB)
  rw [hy] at YES
  have hyy := YES.out.symm
  simp only [Bool.and_eq_true, decide_eq_true_eq] at hyy hy
  obtain ⟨⟨rfl, rfl⟩, rfl⟩ := hy
  obtain ⟨⟨rfl, hg⟩, hg2⟩ := hyy
  have hgd := goodDB_true.1 hg
  obtain ⟨p, rfl⟩ : ∃ p : Nat, a = p := ⟨a.toNat, by have := hgd.1; omega⟩
  have hp6 : p ≤ 6 := by have := hgd.2.1; omega
  obtain ⟨hT, _⟩ := rTab_yes HRT.out hg
  obtain ⟨hV, _⟩ := rTab_yes HRV.out hg2
  have HQ : Hid (2 ^ p = q) := Lib.hid (by rw [← TL.out, hT, tabL_len])
  have hq0 : 0 < q := by rw [← HQ.out]; exact Nat.pow_pos (by omega)
  have E : Hid (dvOf p (List.zipWith and T V) = ((d0, ds, d2), ok)) := Lib.hid (by rw [← HR.out, hT, hV]; simp [rBoth, hg, hg2])
  obtain ⟨k, xs, hkm⟩ : ∃ k xs, dgm p (List.zipWith and T V) = (k, xs) := ⟨_, _, rfl⟩
  have DK := Lib.hid hkm
  have UL : Hid ((List.zipWith and T V).length = q) := Lib.hid (by rw [List.length_zipWith, TL.out, VL.out, Nat.min_self])
  have hne : ((q : Int) != (q : Int)) = false := by simp
  obtain ⟨g, rfl, hgb, hgl⟩ := own_some O2.out hq0
  obtain ⟨g', rfl, hgb', hgl'⟩ := own_some P2.out hq0
  have hgg : g < w1.heap.size := (O1.out.lt g rfl).2
  have V2 := Lib.hid (own_baseN P2.out (Nat.zero_le _))
  have T2 := Lib.hid (own_baseN O2.out (Nat.zero_le _))
  clear hkm hT hV hgd
  go_wp2_with fail
  go_loopw [37] (fun i wr => ∃ j : Nat, j ≤ q ∧ i = .int .i64 j ∧ wr.ownsRow 0 4 1 (.slice (some ⟨g, 0, none⟩) q c1) q ((mixL (List.zipWith and T V) T j).map Value.bool) ∧ Kept w2 wr (fun i => i = g)) (fun i _ => q - (intOf i).toNat)
  case atStart => exact ⟨0, Nat.zero_le _, rfl, by rw [mixL_zero]; exact T2.out, Kept.refl _ _⟩
  case round =>
    obtain ⟨j, hj, rfl, hb, hkp⟩ := hrel
    have M1 := Lib.hid hb
    have P1 := Lib.hid hkp
    clear hb hkp
    by_cases hlt : j < q
    · obtain ⟨x, hx⟩ : ∃ x, T[j]? = some x := ⟨_, List.getElem?_eq_getElem (by rw [TL.out]; exact hlt)⟩
      obtain ⟨y, hy⟩ : ∃ y, V[j]? = some y := ⟨_, List.getElem?_eq_getElem (by rw [VL.out]; exact hlt)⟩
      obtain ⟨cc0, f0⟩ := own_bcell (cap := 0) M1.out (j := j) (x := x) (by rw [mixL_at (by rw [UL.out]; omega), hx]) rfl
      have V3 := P1.out.own V2.out (fun i e h => by simp [Value.ownBlock] at e; omega)
      obtain ⟨cc1, _⟩ := own_bcell (cap := 0) V3 hy rfl
      have MS := Lib.hid (mixL_set (U := List.zipWith and T V) (T := T) (k := j) (x := x && y) (by rw [List.getElem?_zipWith, hx, hy]) (by rw [TL.out]; exact hlt))
      have hgl2 := P1.out.size
      clear hx hy V3
      cases x
      · have MS2 : Hid ((mixL (List.zipWith and T V) T j).set j false = mixL (List.zipWith and T V) T (j + 1)) := MS
        go_wp2
        go_roundw
        case rel => exact ⟨j + 1, by omega, by go_num, by rw [← MS2.out]; exact own_bset M1.out _ _, P1.out.trans Kept.set⟩
        case measure => simp [intOf]; omega
      · have MS2 : Hid ((mixL (List.zipWith and T V) T j).set j y = mixL (List.zipWith and T V) T (j + 1)) := MS
        go_wp2
        go_roundw
        case rel => exact ⟨j + 1, by omega, by go_num, by rw [← MS2.out]; exact own_bset M1.out _ _, P1.out.trans Kept.set⟩
        case measure => simp [intOf]; omega
    · obtain rfl : j = q := by omega
      have M2 : Hid (wr.ownsRow 0 4 1 (.slice (some ⟨g, 0, none⟩) j c1) j ((List.zipWith and T V).map Value.bool)) := Lib.hid (by rw [← mixL_end (U := List.zipWith and T V) (T := T) (k := j) (by rw [UL.out]; exact Nat.le_refl _) (by rw [TL.out]; exact Nat.le_refl _)]; exact M1.out)
      have BW := Lib.hid (P1.out.below B2.out B2.out.size (fun i e => by omega))
      have K3 := P1.out.blk K2.out (by omega)
      have R3 := Lib.hid (P1.out.blk R2.out (by omega))
      obtain ⟨t0, t1, t2, _, _, _, hwl3⟩ := blk_cells K3
      clear K3
      go_wp2_with fail
      refine (l7Of_any p _ j c1 (List.zipWith and T V) _ k xs hp6 UL HQ (Lib.hid (own_blies M2.out)) DK).mono ?_
      rintro e w3 ⟨Ad, cd, rfl, hod, hb3⟩
      have hRB := R3.out.below hb3
      have hB3 := Below.tr BW.out hb3
      have hgd2 : w.heap.size + 2 < wr.heap.size := R3.out.lt
      clear hb3 t0 t1 t2
      obtain ⟨q0, q1, q2, y0, y1, y2, hRl⟩ := blk_cells hRB
      have HRB := Lib.hid hRB
      have HOD := Lib.hid hod
      have BFW := Lib.hid hB3
      clear hod
      go_wp2
      have hfin := dg_store HRB.out (.int .i64 p) (.slice Ad xs.length cd) (.int .i64 k)
      have hOO := hfin.1.own3 HOD.out (fun g e h => by have := (HOD.out.lt g e).1; omega)
      have hBB := hfin.1.below BFW.out BFW.out.size (fun i e => by omega)
      obtain ⟨W', hW'⟩ : ∃ W', W' = (((w3.setCell ⟨w.heap.size + 2, 0, none⟩ (.int .i64 p)).setCell ⟨w.heap.size + 2, 1, none⟩ (.slice Ad xs.length cd)).setCell ⟨w.heap.size + 2, 2, none⟩ (.int .i64 k)) := ⟨_, rfl⟩
      rw [← hW'] at hfin hOO hBB ⊢
      obtain ⟨_, r0, r1, r2⟩ := hfin
      exact bodyPost_ret (v := .tuple #[.agg #[.int .i64 p, .slice Ad xs.length cd, .int .i64 k], .bool true]) (by simp [results, Try.results27, go_sem, r0, r1, r2]) rfl (gaveDg_own E.out DK.out hOO (by omega) hBB)
theorem take_fixL {n p : Nat} {so : Bool} {f : Nat → Bool} {k : Nat} (h : k < 2 ^ n) : (fixL n p so f).take (k + 1) = (fixL n p so f).take k ++ [f (fixI k p so)] := by
  rw [List.take_add_one, fixL_at h]
  rfl
set_option maxRecDepth 100000 in
set_option maxHeartbeats 8000000 in
theorem specFix_any (a r v : Int) (so : Bool) (A : Option Addr) (n c : Nat) (ns : List Nd) (w : World) (d0 : Int) (ds : List Nd) (d2 : Int) (ok : Bool) (HR : Hid (rFix a ns r v so = ((d0, ds, d2), ok))) (hl : Hid (NLies w A ns)) (HX : Hid (ns.length = n)) (hn : n ≤ 1048576) :
    Calls Try.prog 25 #[.agg #[.int .i64 a, .slice A n c, .int .i64 r], .int .i64 v, .bool so] w fun e w' => GaveDg w d0 ds d2 ok e w' := by
  obtain ⟨i0, hi0, hz0, hz1, hz2⟩ := info_parts info_bool
  have L1 : Hid (NLies ((w.alloc (.cells #[.int .i64 a, .slice A n c, .int .i64 r] 28)).alloc (.cells #[.int .i64 0, .slice none 0 0, .int .i64 0] 28)) A ns) := Lib.hid (hl.out.below (below2 _ _ _))
  have K0 : Hid (Blk ((w.alloc (.cells #[.int .i64 a, .slice A n c, .int .i64 r] 28)).alloc (.cells #[.int .i64 0, .slice none 0 0, .int .i64 0] 28)) w.heap.size 28 [.int .i64 a, .slice A n c, .int .i64 r]) := Lib.hid (Blk.below (heap_alloc_new w _) (below1 _ _))
  have KR : Hid (Blk ((w.alloc (.cells #[.int .i64 a, .slice A n c, .int .i64 r] 28)).alloc (.cells #[.int .i64 0, .slice none 0 0, .int .i64 0] 28)) (w.heap.size + 1) 28 [.int .i64 0, .slice none 0 0, .int .i64 0]) := Lib.hid (blk_second w _ [.int .i64 0, .slice none 0 0, .int .i64 0])
  have HSZ : Hid (((w.alloc (.cells #[.int .i64 a, .slice A n c, .int .i64 r] 28)).alloc (.cells #[.int .i64 0, .slice none 0 0, .int .i64 0] 28)).heap.size = w.heap.size + 2) := Lib.hid (by simp)
  obtain ⟨T, tk, hrt⟩ := rTab_any a ns r
  have HRT := Lib.hid hrt
  clear hrt
  cases hg : goodDB a ns r
  · have E : Hid (dv0 = ((d0, ds, d2), ok)) := Lib.hid (by rw [← HR.out]; simp [rFix, hg])
    obtain ⟨rfl, rfl⟩ := rTab_no HRT.out hg
    go_enter Try.func25, Try.ntmps25
    go_wp2_with fail
    refine (specTab_any a r A n c ns _ [] false HRT L1 HX hn).mono ?_
    rintro e w1 ⟨A1, c1, rfl, ho1, hb1⟩
    have hRB := KR.out.below hb1
    have hB1 := Below.tr (below2 w _ _) hb1
    clear ho1 hb1
    obtain ⟨q0, q1, q2, y0, y1, y2, hRl⟩ := blk_cells hRB
    have HRB := Lib.hid hRB
    have BFW := Lib.hid hB1
    go_wp2
    have hfin := dg_store HRB.out (.int .i64 0) (.slice none 0 0) (.int .i64 0)
    have hBB := hfin.1.below BFW.out BFW.out.size (fun i e => by omega)
    obtain ⟨W', hW'⟩ : ∃ W', W' = (((w1.setCell ⟨w.heap.size + 1, 0, none⟩ (.int .i64 0)).setCell ⟨w.heap.size + 1, 1, none⟩ (.slice none 0 0)).setCell ⟨w.heap.size + 1, 2, none⟩ (.int .i64 0)) := ⟨_, rfl⟩
    rw [← hW'] at hfin hBB ⊢
    obtain ⟨_, r0, r1, r2⟩ := hfin
    exact bodyPost_ret (v := .tuple #[.agg #[.int .i64 0, .slice none 0 0, .int .i64 0], .bool false]) (by simp [results, Try.results25, go_sem, r0, r1, r2]) rfl (gaveDg_zero E.out hBB)
  have hgd := goodDB_true.1 hg
  obtain ⟨p, rfl⟩ : ∃ p : Nat, a = p := ⟨a.toNat, by have := hgd.1; omega⟩
  have hp6 : p ≤ 6 := by have := hgd.2.1; omega
  obtain ⟨q, hq⟩ : ∃ q, 2 ^ p = q := ⟨_, rfl⟩
  have HQ := Lib.hid hq
  have hq64 : q ≤ 64 := by rw [← hq]; exact pow_le6 hp6
  have hq0 : 0 < q := by rw [← hq]; exact Nat.pow_pos (by omega)
  obtain ⟨hT, rfl⟩ := rTab_yes HRT.out hg
  have hTl : T.length = q := by rw [hT, tabL_len, hq]
  have TL := Lib.hid hTl
  have TAT : Hid (∀ i, i < q → T[i]? = some (ev ns r i)) := Lib.hid (fun i hi => by rw [hT]; exact tabL_at (by rw [hq]; exact hi))
  clear hT
  cases hv : inB 1 (p : Int) v
  · have E : Hid (dv0 = ((d0, ds, d2), ok)) := Lib.hid (by
      rw [← HR.out]
      unfold rFix
      rw [if_neg]
      simp only [Bool.and_eq_true, decide_eq_true_eq]
      rintro ⟨⟨_, h1⟩, h2⟩
      simp [inB] at hv
      omega)
    go_enter Try.func25, Try.ntmps25
    go_wp2_with fail
    refine (specTab_any p r A n c ns _ T true HRT L1 HX hn).mono ?_
    rw [TL.out]
    rintro e w1 ⟨A1, c1, rfl, ho1, hb1⟩
    have R1 := Lib.hid (KR.out.below hb1)
    have hB1 := Below.tr (below2 w _ _) hb1
    have BB1 := Lib.hid hB1
    obtain ⟨t0, t1, t2, _, _, _, hwl⟩ := blk_cells (K0.out.below hb1)
    clear ho1 hb1 hB1
    have hRB := R1.out
    have hB1 := BB1.out
    obtain ⟨q0, q1, q2, y0, y1, y2, hRl⟩ := blk_cells hRB
    have HRB := Lib.hid hRB
    have BFW := Lib.hid hB1
    go_wp2_with (go_at_call 94; refine (l1In_any _ _ _ _).mono ?_; rintro e w' ⟨rfl, rfl⟩; rw [hv])
    have hfin := dg_store HRB.out (.int .i64 0) (.slice none 0 0) (.int .i64 0)
    have hBB := hfin.1.below BFW.out BFW.out.size (fun i e => by omega)
    obtain ⟨W', hW'⟩ : ∃ W', W' = (((w1.setCell ⟨w.heap.size + 1, 0, none⟩ (.int .i64 0)).setCell ⟨w.heap.size + 1, 1, none⟩ (.slice none 0 0)).setCell ⟨w.heap.size + 1, 2, none⟩ (.int .i64 0)) := ⟨_, rfl⟩
    rw [← hW'] at hfin hBB ⊢
    obtain ⟨_, r0, r1, r2⟩ := hfin
    exact bodyPost_ret (v := .tuple #[.agg #[.int .i64 0, .slice none 0 0, .int .i64 0], .bool false]) (by simp [results, Try.results25, go_sem, r0, r1, r2]) rfl (gaveDg_zero E.out hBB)
  have hv12 : 1 ≤ v ∧ v ≤ (p : Int) := by simpa [inB] using hv
  obtain ⟨t, ht⟩ : ∃ t : Nat, v = t + 1 := ⟨(v - 1).toNat, by omega⟩
  have htp : t < p := by omega
  obtain ⟨u, hu⟩ : ∃ u, 2 ^ t = u := ⟨_, rfl⟩
  have hvs : v - 1 = (t : Int) := by omega
  obtain ⟨hsh2, hsh3⟩ := wrap_pow hu (by omega : t ≤ 6)
  have hsh4 : wrap64 (2 ^ (v.toNat - 1)) = (u : Int) := by rw [show v.toNat - 1 = t by omega]; exact hsh3
  have hu64 : u ≤ 64 := by rw [← hu]; exact pow_le6 (by omega)
  obtain ⟨F, hF⟩ : ∃ F, fixL p t so (ev ns r) = F := ⟨_, rfl⟩
  have hFl : F.length = q := by rw [← hF, fixL_len, hq]
  have E : Hid (dvOf p F = ((d0, ds, d2), ok)) := Lib.hid (by
    rw [← HR.out, ← hF]
    unfold rFix
    rw [if_pos (by simp [hg]; omega), show (v - 1).toNat = t by omega]
    simp)
  obtain ⟨k, ms, hkm⟩ : ∃ k ms, dgm p F = (k, ms) := ⟨_, _, rfl⟩
  have DK := Lib.hid hkm
  have FL := Lib.hid hFl
  have HTK : Hid (∀ j, j < q → F.take (j + 1) = F.take j ++ [ev ns r (fixI j t so)]) := Lib.hid (fun j hj => by rw [← hF]; exact take_fixL (by rw [hq]; exact hj))
  have HLT : Hid (∀ j, j < q → fixI j t so < q) := Lib.hid (fun j hj => by have := fixI_lt so (show j < 2 ^ p by rw [hq]; exact hj) htp; rw [hq] at this; exact this)
  have HAN : Hid (∀ j, j < q → bits .andNot .i64 (j : Int) (u : Int) = ((fixI j t false : Nat) : Int)) := Lib.hid (fun j hj => by rw [← hu]; exact i64_andNot_nat j t (by omega) (by omega))
  have HOR : Hid (∀ j, j < q → bits .or .i64 (j : Int) (u : Int) = ((fixI j t true : Nat) : Int)) := Lib.hid (fun j hj => by rw [← hu]; exact or_i64 j t (by omega) (by omega))
  clear hkm hq hF hFl hgd ht hu hTl
  go_enter Try.func25, Try.ntmps25
  go_wp2_with fail
  refine (specTab_any p r A n c ns _ T true HRT L1 HX hn).mono ?_
  rw [TL.out]
  rintro e w1 ⟨A1, c1, rfl, ho1, hb1⟩
  have B1 := Lib.hid (Below.tr (below2 w _ _) hb1)
  have K1 := Lib.hid (K0.out.below hb1)
  have R1 := Lib.hid (KR.out.below hb1)
  have T1 := Lib.hid (own_blies ho1)
  obtain ⟨t0, t1, t2, _, _, _, hwl⟩ := blk_cells K1.out
  clear ho1 hb1
  go_wp2_with (go_at_call 94; refine (l1In_any _ _ _ _).mono ?_; rintro e w' ⟨rfl, rfl⟩; rw [hv])
  clear t0 t1 t2
  go_loopw [11, 35] (fun o i wr => ∃ j : Nat, j ≤ q ∧ i = .int .i64 j ∧ (∃ A3 c3, o = .slice A3 j c3 ∧ wr.ownsRow w1.heap.size 4 1 (.slice A3 j c3) j ((F.take j).map Value.bool)) ∧ Below w1.heap.size w1 wr) (fun _ i _ => q - (intOf i).toNat)
  case atStart => exact ⟨0, Nat.zero_le _, rfl, ⟨none, 0, rfl, World.ownsRow_nil _ _ _ _⟩, Below.refl _ _⟩
  case round =>
    obtain ⟨j, hj, rfl, ⟨A3, c3, rfl, hown⟩, hb⟩ := hrel
    have O3 := Lib.hid hown
    have B3 := Lib.hid hb
    clear hown hb
    by_cases hlt : j < q
    · have HS := Lib.hid (HTK.out j hlt)
      have hfl := HLT.out j hlt
      have han := HAN.out j hlt
      have hor := HOR.out j hlt
      obtain ⟨f2, hf2⟩ : ∃ f2, fixI j t false = f2 := ⟨_, rfl⟩
      have hf264 : f2 ≤ 64 := by rw [← hf2]; exact Nat.le_trans Nat.and_le_left (by omega)
      rw [hf2] at han
      obtain ⟨f1, hf1⟩ : ∃ f1, fixI j t so = f1 := ⟨_, rfl⟩
      rw [hf1] at HS hfl
      obtain ⟨b, off, rfl, hbl, hc⟩ := (T1.out.below B3.out) f1 _ (TAT.out f1 hfl)
      cases so
      · obtain rfl : f2 = f1 := hf2.symm.trans hf1
        clear hf1 hf2 hor
        go_wp2_with (at_builtin; (refine wpList_append_lies _ rfl _ _ 49 rfl w1.heap.size 4 i0 (.bool false) 1 1 Try.underlying49 hi0 hz0 hz1 hz2 rfl (by omega) _ j _ rfl (O3.out.alloc _) ⟨wr.heap.size, 0, none⟩ 1 1 [.bool (ev ns r f2)] rfl rfl (one_new1 wr _ _) (by intro u hu; rw [List.mem_singleton.1 hu]; rfl) (by omega) (by unfold maxLen; omega) (by omega) (by have := B3.out.size; first | omega | (simp; omega)) (wr.heap.size + 1) (by first | rfl | simp) ?_; intro g4 cap4 w4 hown4 hg4 hat4 hlt4; have H4 := Lib.hid (appB O3.out hown4 hg4 B3.out (Nat.le_refl _)); clear hown4 hg4 hat4 hlt4))
        go_roundw
        case rel => exact ⟨j + 1, by omega, by go_num, ⟨_, _, rfl, by rw [HS.out]; exact H4.out.1⟩, H4.out.2⟩
        case measure => simp [intOf]; omega
      · rw [hf1] at hor
        clear hf1 hf2
        go_wp2_with (at_builtin; (refine wpList_append_lies _ rfl _ _ 49 rfl w1.heap.size 4 i0 (.bool false) 1 1 Try.underlying49 hi0 hz0 hz1 hz2 rfl (by omega) _ j _ rfl (O3.out.alloc _) ⟨wr.heap.size, 0, none⟩ 1 1 [.bool (ev ns r f1)] rfl rfl (one_new1 wr _ _) (by intro u hu; rw [List.mem_singleton.1 hu]; rfl) (by omega) (by unfold maxLen; omega) (by omega) (by have := B3.out.size; first | omega | (simp; omega)) (wr.heap.size + 1) (by first | rfl | simp) ?_; intro g4 cap4 w4 hown4 hg4 hat4 hlt4; have H4 := Lib.hid (appB O3.out hown4 hg4 B3.out (Nat.le_refl _)); clear hown4 hg4 hat4 hlt4))
        go_roundw
        case rel => exact ⟨j + 1, by omega, by go_num, ⟨_, _, rfl, by rw [HS.out]; exact H4.out.1⟩, H4.out.2⟩
        case measure => simp [intOf]; omega
    · obtain rfl : j = q := by omega
      have M2 : Hid (BLies wr A3 F) := Lib.hid (by have h := own_blies O3.out; rw [List.take_of_length_le (by rw [FL.out]; exact Nat.le_refl _)] at h; exact h)
      have BW := Lib.hid (Below.tr B1.out B3.out)
      have R3 := Lib.hid (R1.out.below B3.out)
      obtain ⟨t0, t1, t2, _, _, _, hwl3⟩ := blk_cells (K1.out.below B3.out)
      go_wp2_with fail
      refine (l7Of_any p _ j c3 F _ k ms hp6 FL HQ M2 DK).mono ?_
      rintro e w3 ⟨Ad, cd, rfl, hod, hb3⟩
      have hRB := R3.out.below hb3
      have hB3 := Below.tr BW.out hb3
      have hgd2 : w.heap.size + 1 < wr.heap.size := R3.out.lt
      clear hb3 t0 t1 t2
      obtain ⟨q0, q1, q2, y0, y1, y2, hRl⟩ := blk_cells hRB
      have HRB := Lib.hid hRB
      have HOD := Lib.hid hod
      have BFW := Lib.hid hB3
      clear hod
      go_wp2
      have hfin := dg_store HRB.out (.int .i64 p) (.slice Ad ms.length cd) (.int .i64 k)
      have hOO := hfin.1.own3 HOD.out (fun g e h => by have := (HOD.out.lt g e).1; omega)
      have hBB := hfin.1.below BFW.out BFW.out.size (fun i e => by omega)
      obtain ⟨W', hW'⟩ : ∃ W', W' = (((w3.setCell ⟨w.heap.size + 1, 0, none⟩ (.int .i64 p)).setCell ⟨w.heap.size + 1, 1, none⟩ (.slice Ad ms.length cd)).setCell ⟨w.heap.size + 1, 2, none⟩ (.int .i64 k)) := ⟨_, rfl⟩
      rw [← hW'] at hfin hOO hBB ⊢
      obtain ⟨_, r0, r1, r2⟩ := hfin
      exact bodyPost_ret (v := .tuple #[.agg #[.int .i64 p, .slice Ad ms.length cd, .int .i64 k], .bool true]) (by simp [results, Try.results25, go_sem, r0, r1, r2]) rfl (gaveDg_own E.out DK.out hOO (by omega) hBB)
theorem take_clT {p : Nat} {L : List (List Int)} {k : Nat} (h : k < 2 ^ p) : (clT p L).take (k + 1) = (clT p L).take k ++ [holdsB (modelN p k) L] := by
  rw [List.take_add_one, clT_at h]
  rfl
set_option maxRecDepth 100000 in
set_option maxHeartbeats 8000000 in
theorem specBy_any (v : Int) (A : Option Addr) (n cap : Nat) (L : List (List Int)) (w : World) (d0 : Int) (ds : List Nd) (d2 : Int) (ok : Bool) (HR : Hid (rBy v L = ((d0, ds, d2), ok))) (hl : Hid (LLies w A L)) (HX : Hid (L.length = n)) (hn : n ≤ 9223372036854775807) :
    Calls Try.prog 17 #[.int .i64 v, .slice A n cap] w fun e w' => GaveDg w d0 ds d2 ok e w' := by
  obtain ⟨i0, hi0, hz0, hz1, hz2⟩ := info_parts info_bool
  have L1 : Hid (LLies (w.alloc (.cells #[.int .i64 0, .slice none 0 0, .int .i64 0] 28)) A L) := Lib.hid (hl.out.below (below1 _ _))
  have KR : Hid (Blk (w.alloc (.cells #[.int .i64 0, .slice none 0 0, .int .i64 0] 28)) w.heap.size 28 [.int .i64 0, .slice none 0 0, .int .i64 0]) := Lib.hid (heap_alloc_new w _)
  cases q1 : goodB v L
  · have E : Hid (dv0 = ((d0, ds, d2), ok)) := Lib.hid (by rw [← HR.out]; simp [rBy, q1])
    go_enter Try.func17, Try.ntmps17
    go_wp2_with (go_at_call 81; refine (specGoodC_any _ _ _ _ L _ L1 HX hn).mono ?_; rintro e w' ⟨rfl, rfl⟩; rw [q1])
    exact bodyPost_ret (v := .tuple #[.agg #[.int .i64 0, .slice none 0 0, .int .i64 0], .bool false]) (by simp [results, Try.results17, go_sem]) rfl (gaveDg_zero E.out (below1 _ _))
  by_cases hv6 : 6 < v
  · have E : Hid (dv0 = ((d0, ds, d2), ok)) := Lib.hid (by rw [← HR.out]; simp [rBy, show ¬ (v ≤ 6) by omega])
    go_enter Try.func17, Try.ntmps17
    go_wp2_with (go_at_call 81; refine (specGoodC_any _ _ _ _ L _ L1 HX hn).mono ?_; rintro e w' ⟨rfl, rfl⟩; rw [q1])
    exact bodyPost_ret (v := .tuple #[.agg #[.int .i64 0, .slice none 0 0, .int .i64 0], .bool false]) (by simp [results, Try.results17, go_sem]) rfl (gaveDg_zero E.out (below1 _ _))
  have hv := goodB_v q1
  obtain ⟨p, rfl⟩ : ∃ p : Nat, v = p := ⟨v.toNat, by omega⟩
  have hp6 : p ≤ 6 := by omega
  have HI : Hid (∀ c ∈ L, ∀ x ∈ c, litB p x = true) := Lib.hid (fun c hc x hx => clauseB_lits (goodB_cl q1 c hc) x hx)
  obtain ⟨q, hq⟩ : ∃ q, 2 ^ p = q := ⟨_, rfl⟩
  have HQ := Lib.hid hq
  have hq64 : q ≤ 64 := by rw [← hq]; exact pow_le6 hp6
  obtain ⟨hsh2, hsh3⟩ := wrap_pow hq hp6
  obtain ⟨T, hT⟩ : ∃ T, clT p L = T := ⟨_, rfl⟩
  have hTl : T.length = q := by rw [← hT, clT_len, hq]
  have E : Hid (dvOf p T = ((d0, ds, d2), ok)) := Lib.hid (by rw [← HR.out, ← hT]; simp [rBy, q1, show (p : Int) ≤ 6 by omega])
  obtain ⟨k, ms, hkm⟩ : ∃ k ms, dgm p T = (k, ms) := ⟨_, _, rfl⟩
  have DK := Lib.hid hkm
  have TL := Lib.hid hTl
  have HTK : Hid (∀ j, j < q → T.take (j + 1) = T.take j ++ [holdsB (modelN p j) L]) := Lib.hid (fun j hj => by rw [← hT]; exact take_clT (by rw [hq]; exact hj))
  clear hkm hq hT hTl hv
  go_enter Try.func17, Try.ntmps17
  go_wp2_with (go_at_call 81; refine (specGoodC_any _ _ _ _ L _ L1 HX hn).mono ?_; rintro e w' ⟨rfl, rfl⟩; rw [q1])
  go_loopw [6, 7] (fun o i wr => ∃ j : Nat, j ≤ q ∧ i = .int .i64 j ∧ (∃ A3 c3, o = .slice A3 j c3 ∧ wr.ownsRow (w.heap.size + 1) 4 1 (.slice A3 j c3) j ((T.take j).map Value.bool)) ∧ Below w.heap.size w wr ∧ Blk wr w.heap.size 28 [.int .i64 0, .slice none 0 0, .int .i64 0]) (fun _ i _ => q - (intOf i).toNat)
  case atStart => exact ⟨0, Nat.zero_le _, rfl, ⟨none, 0, rfl, World.ownsRow_nil _ _ _ _⟩, below1 _ _, KR.out⟩
  case round =>
    obtain ⟨j, hj, rfl, ⟨A3, c3, rfl, hown⟩, hb, hrb⟩ := hrel
    have O3 := Lib.hid hown
    have B3 := Lib.hid hb
    have R3 := Lib.hid hrb
    have hRl := hrb.lt
    clear hown hb hrb
    by_cases hlt : j < q
    · have HS := Lib.hid (HTK.out j hlt)
      go_wp2_with fail
      refine (l4Model_any p j _ (by omega) (by omega)).mono ?_
      rintro e w1 ⟨rfl, hk1, hb1⟩
      have M1 := Lib.hid hk1.blies
      have B4 := Lib.hid (Below.tr B3.out hb1)
      have O4 := Lib.hid (own_below O3.out hb1)
      have R4 := Lib.hid (R3.out.below hb1)
      have L4 := Lib.hid (hl.out.below B4.out)
      have hR4 := R4.out.lt
      clear hk1 hb1
      go_wp2_with fail
      refine (l4Holds_any A _ n p cap p L (modelN p j) _ L4 M1 HX (Lib.hid (modelN_len p j)) HI hn (by omega)).mono ?_
      rintro e w' ⟨rfl, rfl⟩
      go_wp2_with (at_builtin; (refine wpList_append_lies _ rfl _ _ 49 rfl (w.heap.size + 1) 4 i0 (.bool false) 1 1 Try.underlying49 hi0 hz0 hz1 hz2 rfl (by omega) _ j _ rfl (O4.out.alloc _) ⟨w1.heap.size, 0, none⟩ 1 1 [.bool (holdsB (modelN p j) L)] rfl rfl (one_new1 w1 _ _) (by intro u hu; rw [List.mem_singleton.1 hu]; rfl) (by omega) (by unfold maxLen; omega) (by omega) (by have := R4.out.lt; first | omega | (simp; omega)) (w1.heap.size + 1) (by first | rfl | simp) ?_; intro g4 cap4 w4 hown4 hg4 hat4 hlt4; have H4 := Lib.hid (appB O4.out hown4 hg4 B4.out (Nat.le_succ _)); have R5 := Lib.hid ((Kept.of_grown (S := fun i => (Value.slice A3 j c3).ownBlock = some i) hg4 (fun g e => e)).blk (R4.out.below (below1 w1 _)) (fun e => by have := O4.out.lt _ e; omega)); clear hown4 hg4 hat4 hlt4))
      go_roundw
      case rel => exact ⟨j + 1, by omega, by go_num, ⟨_, _, rfl, by rw [HS.out]; exact H4.out.1⟩, H4.out.2, R5.out⟩
      case measure => simp [intOf]; omega
    · obtain rfl : j = q := by omega
      have M2 : Hid (BLies wr A3 T) := Lib.hid (by have h := own_blies O3.out; rw [List.take_of_length_le (by rw [TL.out]; exact Nat.le_refl _)] at h; exact h)
      go_wp2_with fail
      refine (l7Of_any p _ j c3 T _ k ms hp6 TL HQ M2 DK).mono ?_
      rintro e w3 ⟨Ad, cd, rfl, hod, hb3⟩
      have hRB := R3.out.below hb3
      have hB3 := Below.tr B3.out hb3
      have hgd2 : w.heap.size < wr.heap.size := R3.out.lt
      clear hb3
      obtain ⟨q0, q1, q2, y0, y1, y2, hRl⟩ := blk_cells hRB
      have HRB := Lib.hid hRB
      have HOD := Lib.hid hod
      have BFW := Lib.hid hB3
      clear hod
      go_wp2
      have hfin := dg_store HRB.out (.int .i64 p) (.slice Ad ms.length cd) (.int .i64 k)
      have hOO := hfin.1.own3 HOD.out (fun g e h => by have := (HOD.out.lt g e).1; omega)
      have hBB := hfin.1.below BFW.out BFW.out.size (fun i e => by omega)
      obtain ⟨W', hW'⟩ : ∃ W', W' = (((w3.setCell ⟨w.heap.size, 0, none⟩ (.int .i64 p)).setCell ⟨w.heap.size, 1, none⟩ (.slice Ad ms.length cd)).setCell ⟨w.heap.size, 2, none⟩ (.int .i64 k)) := ⟨_, rfl⟩
      rw [← hW'] at hfin hOO hBB ⊢
      obtain ⟨_, r0, r1, r2⟩ := hfin
      exact bodyPost_ret (v := .tuple #[.agg #[.int .i64 p, .slice Ad ms.length cd, .int .i64 k], .bool true]) (by simp [results, Try.results17, go_sem, r0, r1, r2]) rfl (gaveDg_own E.out DK.out hOO (by omega) hBB)
end Go.Proofs.Ytklcfbjaodildaa
