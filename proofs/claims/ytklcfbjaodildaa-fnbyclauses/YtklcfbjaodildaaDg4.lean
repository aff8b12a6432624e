/-
  The program's functions over diagrams: BothOf, FixVar, ByClauses, EvalDiagram.
-/
import Derived.Test.YtklcfbjaodildaaDg3
namespace Go.Proofs.Ytklcfbjaodildaa
open Go.ChangeShapes Go.WideShapes Go.ChangeAt Go.RowKit Go.Maps

/-- what BothOf answers -/
noncomputable def rBoth (a : Int) (ns : List Nd) (r : Int) (b : Int) (ms : List Nd) (s : Int) : (Int × List Nd × Int) × Bool := if decide (a = b) && goodDB a ns r && goodDB b ms s then dvOf a.toNat (List.zipWith and (tabL a.toNat ns r) (tabL a.toNat ms s)) else dv0
theorem blk_third (w : World) (o o2 : Obj) (cs : List Value) {t : TypeId} : Blk (((w.alloc o).alloc o2).alloc (.cells cs.toArray t (0, 0))) (w.heap.size + 2) t cs := by
  have := heap_alloc_new ((w.alloc o).alloc o2) (.cells cs.toArray t (0, 0))
  rw [show ((w.alloc o).alloc o2).heap.size = w.heap.size + 2 by simp] at this
  exact this
set_option maxRecDepth 100000 in
set_option maxHeartbeats 8000000 in
theorem implBoth_any (a r b s : Int) (A B : Option Addr) (n c m c2 : Nat) (ns ms : List Nd) (w : World) (d0 : Int) (ds : List Nd) (d2 : Int) (ok : Bool) (HR : Hid (rBoth a ns r b ms s = ((d0, ds, d2), ok))) (hl : Hid (NLies w A ns)) (HX : Hid (ns.length = n)) (hn : n ≤ 1048576) (hl2 : Hid (NLies w B ms)) (HY : Hid (ms.length = m)) (hm : m ≤ 1048576) :
    Calls Try.prog 22 #[.agg #[.int .i64 a, .slice A n c, .int .i64 r], .agg #[.int .i64 b, .slice B m c2, .int .i64 s]] w fun e w' => GaveDg w d0 ds d2 ok e w' := by
  have L1 : Hid (NLies (((w.alloc (.cells #[.int .i64 a, .slice A n c, .int .i64 r] 28)).alloc (.cells #[.int .i64 b, .slice B m c2, .int .i64 s] 28)).alloc (.cells #[.int .i64 0, .slice none 0 0, .int .i64 0] 28)) A ns) := Lib.hid (hl.out.below (below3 _ _ _ _))
  have L1b : Hid (NLies (((w.alloc (.cells #[.int .i64 a, .slice A n c, .int .i64 r] 28)).alloc (.cells #[.int .i64 b, .slice B m c2, .int .i64 s] 28)).alloc (.cells #[.int .i64 0, .slice none 0 0, .int .i64 0] 28)) B ms) := Lib.hid (hl2.out.below (below3 _ _ _ _))
  have K0 : Hid (Blk (((w.alloc (.cells #[.int .i64 a, .slice A n c, .int .i64 r] 28)).alloc (.cells #[.int .i64 b, .slice B m c2, .int .i64 s] 28)).alloc (.cells #[.int .i64 0, .slice none 0 0, .int .i64 0] 28)) w.heap.size 28 [.int .i64 a, .slice A n c, .int .i64 r]) := Lib.hid (Blk.below (heap_alloc_new w _) (below2 _ _ _))
  have K0b : Hid (Blk (((w.alloc (.cells #[.int .i64 a, .slice A n c, .int .i64 r] 28)).alloc (.cells #[.int .i64 b, .slice B m c2, .int .i64 s] 28)).alloc (.cells #[.int .i64 0, .slice none 0 0, .int .i64 0] 28)) (w.heap.size + 1) 28 [.int .i64 b, .slice B m c2, .int .i64 s]) := Lib.hid (Blk.below (blk_second w _ [.int .i64 b, .slice B m c2, .int .i64 s]) (below1 _ _))
  have KR : Hid (Blk (((w.alloc (.cells #[.int .i64 a, .slice A n c, .int .i64 r] 28)).alloc (.cells #[.int .i64 b, .slice B m c2, .int .i64 s] 28)).alloc (.cells #[.int .i64 0, .slice none 0 0, .int .i64 0] 28)) (w.heap.size + 2) 28 [.int .i64 0, .slice none 0 0, .int .i64 0]) := Lib.hid (blk_third w _ _ [.int .i64 0, .slice none 0 0, .int .i64 0])
  by_cases hab : a = b
  rotate_left
  · have E : Hid (dv0 = ((d0, ds, d2), ok)) := Lib.hid (by rw [← HR.out]; simp [rBoth, hab])
    have hne : (a != b) = true := by simp [hab]
    go_enter Try.func22, Try.ntmps22
    go_wp2
    exact bodyPost_ret (v := .tuple #[.agg #[.int .i64 0, .slice none 0 0, .int .i64 0], .bool false]) (by simp [results, Try.results22, go_sem]) rfl (gaveDg_zero E.out (below3 _ _ _ _))
  subst hab
  have hne : (a != a) = false := by simp
  cases hg : goodDB a ns r
  · have E : Hid (dv0 = ((d0, ds, d2), ok)) := Lib.hid (by rw [← HR.out]; simp [rBoth, hg])
    go_enter Try.func22, Try.ntmps22
    go_wp2_with fail
    refine (implGoodD_any a r A n c ns _ L1 HX hn).mono ?_
    rintro e w1 ⟨rfl, hb1⟩
    rw [hg]
    have hRB := KR.out.below hb1
    have hB1 := Below.tr (below3 w _ _ _) hb1
    obtain ⟨q0, q1, q2, y0, y1, y2, hRl⟩ := blk_cells hRB
    have HRB := Lib.hid hRB
    have BFW := Lib.hid hB1
    go_wp2
    have hfin := dg_store HRB.out (.int .i64 0) (.slice none 0 0) (.int .i64 0)
    have hBB := hfin.1.below BFW.out BFW.out.size (fun i e => by omega)
    obtain ⟨W', hW'⟩ : ∃ W', W' = (((w1.setCell ⟨w.heap.size + 2, 0, none⟩ (.int .i64 0)).setCell ⟨w.heap.size + 2, 1, none⟩ (.slice none 0 0)).setCell ⟨w.heap.size + 2, 2, none⟩ (.int .i64 0)) := ⟨_, rfl⟩
    rw [← hW'] at hfin hBB ⊢
    obtain ⟨_, r0, r1, r2⟩ := hfin
    exact bodyPost_ret (v := .tuple #[.agg #[.int .i64 0, .slice none 0 0, .int .i64 0], .bool false]) (by simp [results, Try.results22, go_sem, r0, r1, r2]) rfl (gaveDg_zero E.out hBB)
  cases hg2 : goodDB a ms s
  · have E : Hid (dv0 = ((d0, ds, d2), ok)) := Lib.hid (by rw [← HR.out]; simp [rBoth, hg2])
    go_enter Try.func22, Try.ntmps22
    go_wp2_with fail
    refine (implGoodD_any a r A n c ns _ L1 HX hn).mono ?_
    rintro e w0 ⟨rfl, hb0⟩
    rw [hg]
    have B0 := Lib.hid (Below.tr (below3 w _ _ _) hb0)
    have R0 := Lib.hid (KR.out.below hb0)
    have Lb := Lib.hid (L1b.out.below hb0)
    obtain ⟨t0, t1, t2, _, _, _, hwl⟩ := blk_cells (K0b.out.below hb0)
    clear hb0
    go_wp2_with fail
    refine (implGoodD_any a s B m c2 ms _ Lb HY hm).mono ?_
    rintro e w1 ⟨rfl, hb1⟩
    rw [hg2]
    have hRB := R0.out.below hb1
    have hB1 := Below.tr B0.out hb1
    clear hb1
    obtain ⟨q0, q1, q2, y0, y1, y2, hRl⟩ := blk_cells hRB
    have HRB := Lib.hid hRB
    have BFW := Lib.hid hB1
    go_wp2
    have hfin := dg_store HRB.out (.int .i64 0) (.slice none 0 0) (.int .i64 0)
    have hBB := hfin.1.below BFW.out BFW.out.size (fun i e => by omega)
    obtain ⟨W', hW'⟩ : ∃ W', W' = (((w1.setCell ⟨w.heap.size + 2, 0, none⟩ (.int .i64 0)).setCell ⟨w.heap.size + 2, 1, none⟩ (.slice none 0 0)).setCell ⟨w.heap.size + 2, 2, none⟩ (.int .i64 0)) := ⟨_, rfl⟩
    rw [← hW'] at hfin hBB ⊢
    obtain ⟨_, r0, r1, r2⟩ := hfin
    exact bodyPost_ret (v := .tuple #[.agg #[.int .i64 0, .slice none 0 0, .int .i64 0], .bool false]) (by simp [results, Try.results22, go_sem, r0, r1, r2]) rfl (gaveDg_zero E.out hBB)
  have hgd := goodDB_true.1 hg
  have hgd2 := goodDB_true.1 hg2
  obtain ⟨p, rfl⟩ : ∃ p : Nat, a = p := ⟨a.toNat, by have := hgd.1; omega⟩
  have hp6 : p ≤ 6 := by have := hgd.2.1; omega
  have HF := Lib.hid hgd.2.2.1
  have HF2 := Lib.hid hgd2.2.2.1
  obtain ⟨q, hq⟩ : ∃ q, 2 ^ p = q := ⟨_, rfl⟩
  have HQ := Lib.hid hq
  have hq64 : q ≤ 64 := by rw [← hq]; exact pow_le6 hp6
  obtain ⟨T, hT⟩ : ∃ T, tabL p ns r = T := ⟨_, rfl⟩
  have hTl : T.length = q := by rw [← hT, tabL_len, hq]
  obtain ⟨V, hV⟩ : ∃ V, tabL p ms s = V := ⟨_, rfl⟩
  have hVl : V.length = q := by rw [← hV, tabL_len, hq]
  have E : Hid (dvOf p (List.zipWith and T V) = ((d0, ds, d2), ok)) := Lib.hid (by rw [← HR.out, ← hT, ← hV]; simp [rBoth, hg, hg2])
  obtain ⟨k, xs, hkm⟩ : ∃ k xs, dgm p (List.zipWith and T V) = (k, xs) := ⟨_, _, rfl⟩
  have DK := Lib.hid hkm
  have hml := dgm_len hp6 (by rw [List.length_zipWith, hTl, hVl, HQ.out, Nat.min_self]) hkm
  have TL := Lib.hid hTl
  have VL := Lib.hid hVl
  have UL : Hid ((List.zipWith and T V).length = q) := Lib.hid (by rw [List.length_zipWith, hTl, hVl, Nat.min_self])
  have HTT := Lib.hid hT
  have HVV := Lib.hid hV
  clear hkm hq hT hTl hV hVl hgd hgd2
  go_enter Try.func22, Try.ntmps22
  go_wp2_with fail
  refine (implGoodD_any p r A n c ns _ L1 HX hn).mono ?_
  rintro e w0 ⟨rfl, hb0⟩
  rw [hg]
  have B0 := Lib.hid (Below.tr (below3 w _ _ _) hb0)
  have R0 := Lib.hid (KR.out.below hb0)
  have Q0 := Lib.hid (K0.out.below hb0)
  have Q0b := Lib.hid (K0b.out.below hb0)
  have La := Lib.hid (L1.out.below hb0)
  have Lb := Lib.hid (L1b.out.below hb0)
  obtain ⟨t0, t1, t2, _, _, _, hwl⟩ := blk_cells Q0b.out
  clear hb0
  go_wp2_with fail
  refine (implGoodD_any p s B m c2 ms _ Lb HY hm).mono ?_
  rintro e w1 ⟨rfl, hb1⟩
  rw [hg2]
  have B1 := Lib.hid (Below.tr B0.out hb1)
  have R1 := Lib.hid (R0.out.below hb1)
  have Q1 := Lib.hid (Q0.out.below hb1)
  have Q1b := Lib.hid (Q0b.out.below hb1)
  have La1 := Lib.hid (La.out.below hb1)
  have Lb1 := Lib.hid (Lb.out.below hb1)
  clear hb1 t0 t1 t2 hwl
  obtain ⟨t0, t1, t2, _, _, _, hwl⟩ := blk_cells Q1.out
  go_wp2_with fail
  refine (tableOf_any p r A n c ns q _ La1 HX hn HF hp6 HQ).mono ?_
  rw [HTT.out]
  rintro e w2 ⟨rfl, hk2, hb2⟩
  have B2 := Lib.hid (Below.tr B1.out hb2)
  have R2 := Lib.hid (R1.out.below hb2)
  have Q2 := Lib.hid (Q1.out.below hb2)
  have Q2b := Lib.hid (Q1b.out.below hb2)
  have Lb2 := Lib.hid (Lb1.out.below hb2)
  have T2 := Lib.hid hk2
  have hg1 : w.heap.size + 2 < w1.heap.size := R1.out.lt
  clear hk2 hb2 t0 t1 t2 hwl
  obtain ⟨g, hgg⟩ : ∃ g, w1.heap.size + 1 = g := ⟨_, rfl⟩
  rw [hgg] at T2 ⊢
  have hg3 : w.heap.size + 2 < g := by omega
  clear hgg
  obtain ⟨t0, t1, t2, _, _, _, hwl⟩ := blk_cells Q2b.out
  go_wp2_with fail
  refine (tableOf_any p s B m c2 ms q _ Lb2 HY hm HF2 hp6 HQ).mono ?_
  rw [HVV.out]
  rintro e w3 ⟨rfl, hk3, hb3⟩
  have B3 := Lib.hid (Below.tr B2.out hb3)
  have R3 := Lib.hid (R2.out.below hb3)
  have Q3 := Lib.hid (Q2.out.below hb3)
  have T3 := Lib.hid (T2.out.below hb3)
  have V3 := Lib.hid hk3
  have hgl3 := T2.out.lt
  clear hk3 hb3 t0 t1 t2 hwl
  obtain ⟨g', hgg⟩ : ∃ g', w2.heap.size + 1 = g' := ⟨_, rfl⟩
  rw [hgg] at V3 ⊢
  have hg4 : g < g' := by omega
  clear hgg
  go_wp2_with fail
  go_loopw [30] (fun i wr => ∃ j : Nat, j ≤ q ∧ i = .int .i64 j ∧ Blk wr g 4 ((mixL (List.zipWith and T V) T j).map Value.bool) ∧ Kept w3 wr (fun i => i = g)) (fun i _ => q - (intOf i).toNat)
  case atStart => exact ⟨0, Nat.zero_le _, rfl, by rw [mixL_zero]; exact T3.out, Kept.refl _ _⟩
  case round =>
    obtain ⟨j, hj, rfl, hb, hkp⟩ := hrel
    have M1 := Lib.hid hb
    have P1 := Lib.hid hkp
    clear hb hkp
    by_cases hlt : j < q
    · obtain ⟨x, hx⟩ : ∃ x, T[j]? = some x := ⟨_, List.getElem?_eq_getElem (by rw [TL.out]; exact hlt)⟩
      obtain ⟨y, hy⟩ : ∃ y, V[j]? = some y := ⟨_, List.getElem?_eq_getElem (by rw [VL.out]; exact hlt)⟩
      have c0 : wr.cell? ⟨g, j, none⟩ = some (.bool x) := by rw [M1.out.cell, List.getElem?_map, mixL_at (by rw [UL.out]; omega), hx]; rfl
      have V4 := P1.out.blk V3.out (by omega)
      have c1 : wr.cell? ⟨g', j, none⟩ = some (.bool y) := by rw [V4.cell, List.getElem?_map, hy]; rfl
      have hg4l := V4.lt
      have f0 := M1.out.frozen j
      have MS := Lib.hid (mixL_set (U := List.zipWith and T V) (T := T) (k := j) (x := x && y) (by rw [List.getElem?_zipWith, hx, hy]) (by rw [TL.out]; exact hlt))
      have hgl := M1.out.lt
      clear hx hy V4
      cases x
      · have MS2 : Hid ((mixL (List.zipWith and T V) T j).set j false = mixL (List.zipWith and T V) T (j + 1)) := MS
        go_wp2
        go_roundw
        case rel => exact ⟨j + 1, by omega, by go_num, by rw [← MS2.out]; exact M1.out.bset, P1.out.trans Kept.set⟩
        case measure => simp [intOf]; omega
      · have MS2 : Hid ((mixL (List.zipWith and T V) T j).set j y = mixL (List.zipWith and T V) T (j + 1)) := MS
        go_wp2
        go_roundw
        case rel => exact ⟨j + 1, by omega, by go_num, by rw [← MS2.out]; exact M1.out.bset, P1.out.trans Kept.set⟩
        case measure => simp [intOf]; omega
    · obtain rfl : j = q := by omega
      have M2 : Hid (Blk wr g 4 ((List.zipWith and T V).map Value.bool)) := Lib.hid (by rw [← mixL_end (U := List.zipWith and T V) (T := T) (k := j) (by rw [UL.out]; exact Nat.le_refl _) (by rw [TL.out]; exact Nat.le_refl _)]; exact M1.out)
      have BW := Lib.hid (P1.out.below B3.out B3.out.size (fun i e => by omega))
      have K3 := P1.out.blk Q3.out (by omega)
      have R4 := Lib.hid (P1.out.blk R3.out (by omega))
      obtain ⟨t0, t1, t2, _, _, _, hwl3⟩ := blk_cells K3
      clear K3
      go_wp2_with fail
      refine (diagramOf_any p _ j j (List.zipWith and T V) _ k xs hp6 UL HQ (Lib.hid M2.out.blies) DK).mono ?_
      rintro e w5 ⟨gd, rfl, hgd, hdk, hb3⟩
      have hRB := R4.out.below hb3
      have hB3 := Below.tr BW.out hb3
      have hgd2 : w.heap.size + 2 < gd := by have := R4.out.lt; omega
      clear hb3
      obtain ⟨q0, q1, q2, y0, y1, y2, hRl⟩ := blk_cells hRB
      have HRB := Lib.hid hRB
      have HDK := Lib.hid hdk
      have BFW := Lib.hid hB3
      clear hdk
      go_wp2
      have hfin := dg_store HRB.out (.int .i64 p) (.slice (some ⟨gd, 0, none⟩) xs.length xs.length) (.int .i64 k)
      have hBK := HDK.out.kept1 hfin.1 (by omega)
      have hBB := hfin.1.below BFW.out BFW.out.size (fun i e => by omega)
      obtain ⟨W', hW'⟩ : ∃ W', W' = (((w5.setCell ⟨w.heap.size + 2, 0, none⟩ (.int .i64 p)).setCell ⟨w.heap.size + 2, 1, none⟩ (.slice (some ⟨gd, 0, none⟩) xs.length xs.length)).setCell ⟨w.heap.size + 2, 2, none⟩ (.int .i64 k)) := ⟨_, rfl⟩
      rw [← hW'] at hfin hBK hBB ⊢
      obtain ⟨_, r0, r1, r2⟩ := hfin
      exact bodyPost_ret (v := .tuple #[.agg #[.int .i64 p, .slice (some ⟨gd, 0, none⟩) xs.length xs.length, .int .i64 k], .bool true]) (by simp [results, Try.results22, go_sem, r0, r1, r2]) rfl (gaveDg_blk E.out DK.out (by omega) hBK hml hBB)
/-- the index with one bit laid -/
def fixI (i p : Nat) (so : Bool) : Nat := if so then i ||| 2 ^ p else i &&& (2 ^ 6 - 1 - 2 ^ p)
theorem i64_andNot_nat (i p : Nat) (hi : i < 64) (hp : p < 6) : bits .andNot .i64 (i : Int) ((2 ^ p : Nat) : Int) = ((fixI i p false : Nat) : Int) := by
  have : ∀ i : Fin 64, ∀ p : Fin 6, bits .andNot .i64 (i.val : Int) ((2 ^ p.val : Nat) : Int) = ((fixI i.val p.val false : Nat) : Int) := by decide +kernel
  exact this ⟨i, hi⟩ ⟨p, hp⟩
theorem fix_or (i p : Nat) (hi : i < 64) (hp : p < 6) : bits .or .i64 ((fixI i p false : Nat) : Int) ((2 ^ p : Nat) : Int) = ((fixI i p true : Nat) : Int) := by
  have : ∀ i : Fin 64, ∀ p : Fin 6, bits .or .i64 ((fixI i.val p.val false : Nat) : Int) ((2 ^ p.val : Nat) : Int) = ((fixI i.val p.val true : Nat) : Int) := by decide +kernel
  exact this ⟨i, hi⟩ ⟨p, hp⟩
theorem or_i64 (i p : Nat) (hi : i < 64) (hp : p < 6) : bits .or .i64 (i : Int) ((2 ^ p : Nat) : Int) = ((fixI i p true : Nat) : Int) := by
  have : ∀ i : Fin 64, ∀ p : Fin 6, bits .or .i64 (i.val : Int) ((2 ^ p.val : Nat) : Int) = ((fixI i.val p.val true : Nat) : Int) := by decide +kernel
  exact this ⟨i, hi⟩ ⟨p, hp⟩
theorem fixI_lt {i p n : Nat} (so : Bool) (hi : i < 2 ^ n) (hp : p < n) : fixI i p so < 2 ^ n := by
  unfold fixI
  split
  · exact Nat.or_lt_two_pow hi (Nat.pow_lt_pow_right (by omega) hp)
  · exact Nat.lt_of_le_of_lt Nat.and_le_left hi
end Go.Proofs.Ytklcfbjaodildaa
