/-
  The model's functions over diagrams: DiagramOf, NotOf, BothOf, OnesOf, FixVar, ByClauses.
-/
import Derived.Test.YthhmacocijcjiaaSp5
import Derived.Test.YthhmacocijcjiaaDg7
namespace Go.Proofs.Ythhmacocijcjiaa
open Go.ChangeShapes Go.WideShapes Go.ChangeAt Go.RowKit Go.Maps

set_option maxRecDepth 100000 in
set_option maxHeartbeats 4000000 in
theorem specDiag_any (n : Int) (A : Option Addr) (m c : Nat) (T : List Bool) (w : World) (d0 : Int) (ds : List Nd) (d2 : Int) (ok : Bool) (HR : Hid (rDiag n T = ((d0, ds, d2), ok))) (hbl : Hid (BLies w A T)) (HM : Hid (T.length = m)) :
    Calls Try.prog 16 #[.int .i64 n, .slice A m c] w fun e w' => GaveDg w d0 ds d2 ok e w' := by
  have DE : inB 0 6 n = deepB n := by simp [inB, deepB]
  cases hd : deepB n
  · have E : Hid (dv0 = ((d0, ds, d2), ok)) := Lib.hid (by rw [← HR.out]; simp [rDiag, hd])
    rw [hd] at DE
    go_enter Try.func16, Try.ntmps16
    go_wp2_with (go_at_call 61; refine (l1In_any _ _ _ _).mono ?_; rintro e w' ⟨rfl, rfl⟩; rw [DE])
    exact bodyPost_ret (v := .tuple #[.agg #[.int .i64 0, .slice none 0 0, .int .i64 0], .bool false]) (by simp [results, Try.results16, go_sem]) rfl (gaveDg_zero E.out (below1 _ _))
  rw [hd] at DE
  have ha0 : 0 ≤ n ∧ n ≤ 6 := by simp [deepB] at hd; omega
  obtain ⟨p, rfl⟩ : ∃ p : Nat, n = p := ⟨n.toNat, by omega⟩
  have hp6 : p ≤ 6 := by omega
  obtain ⟨q, hq⟩ : ∃ q, 2 ^ p = q := ⟨_, rfl⟩
  have HQ := Lib.hid hq
  have hq64 : q ≤ 64 := by rw [← hq]; exact pow_le6 hp6
  obtain ⟨hsh2, hsh3⟩ := wrap_pow hq hp6
  clear hq
  by_cases hmq : m = q
  · subst hmq
    have E : Hid (dvOf p T = ((d0, ds, d2), ok)) := Lib.hid (by rw [← HR.out]; simp [rDiag, hd, HM.out, HQ.out])
    have hne : ((m : Int) != (m : Int)) = false := by simp
    obtain ⟨k, ms, hkm⟩ : ∃ k ms, dgm p T = (k, ms) := ⟨_, _, rfl⟩
    have DK := Lib.hid hkm
    have L1 : Hid (BLies (w.alloc (.cells #[.int .i64 0, .slice none 0 0, .int .i64 0] 28)) A T) := Lib.hid (hbl.out.below (below1 _ _))
    clear hkm
    go_enter Try.func16, Try.ntmps16
    go_wp2_with (go_at_call 61; refine (l1In_any _ _ _ _).mono ?_; rintro e w' ⟨rfl, rfl⟩; rw [DE])
    refine (l7Of_any p A m c T _ k ms hp6 HM HQ L1 DK).mono ?_
    rintro e w2 ⟨Ad, cd, rfl, hod, hb2⟩
    have hRB : Blk w2 w.heap.size 28 [.int .i64 0, .slice none 0 0, .int .i64 0] := Blk.below (heap_alloc_new w _) hb2
    have hge : (w.alloc (.cells #[.int .i64 0, .slice none 0 0, .int .i64 0] 28)).heap.size = w.heap.size + 1 := by simp
    rw [hge] at hod
    have hB2 := Below.tr (below1 w _) hb2
    clear hge hb2
    obtain ⟨q0, q1, q2, y0, y1, y2, hRl⟩ := blk_cells hRB
    have HRB := Lib.hid hRB
    have HOD := Lib.hid hod
    have BFW := Lib.hid hB2
    clear hod
    go_wp2
    have hfin := dg_store HRB.out (.int .i64 p) (.slice Ad ms.length cd) (.int .i64 k)
    have hOO := hfin.1.own3 HOD.out (fun g e h => by have := (HOD.out.lt g e).1; omega)
    have hBB := hfin.1.below BFW.out BFW.out.size (fun i e => by omega)
    obtain ⟨W', hW'⟩ : ∃ W', W' = (((w2.setCell ⟨w.heap.size, 0, none⟩ (.int .i64 p)).setCell ⟨w.heap.size, 1, none⟩ (.slice Ad ms.length cd)).setCell ⟨w.heap.size, 2, none⟩ (.int .i64 k)) := ⟨_, rfl⟩
    rw [← hW'] at hfin hOO hBB ⊢
    obtain ⟨_, r0, r1, r2⟩ := hfin
    exact bodyPost_ret (v := .tuple #[.agg #[.int .i64 p, .slice Ad ms.length cd, .int .i64 k], .bool true]) (by simp [results, Try.results16, go_sem, r0, r1, r2]) rfl (gaveDg_own E.out DK.out hOO (by omega) hBB)
  · have E : Hid (dv0 = ((d0, ds, d2), ok)) := Lib.hid (by rw [← HR.out]; simp [rDiag, HM.out, HQ.out, hmq])
    have hne : ((m : Int) != (q : Int)) = true := by simp; omega
    go_enter Try.func16, Try.ntmps16
    go_wp2_with (go_at_call 61; refine (l1In_any _ _ _ _).mono ?_; rintro e w' ⟨rfl, rfl⟩; rw [DE])
    exact bodyPost_ret (v := .tuple #[.agg #[.int .i64 0, .slice none 0 0, .int .i64 0], .bool false]) (by simp [results, Try.results16, go_sem]) rfl (gaveDg_zero E.out (below1 _ _))
theorem rTab_any (a : Int) (ns : List Nd) (r : Int) : ∃ T ok, rTab a ns r T ok := ⟨_, _, rfl, rfl⟩
theorem rTab_yes {p : Nat} {ns : List Nd} {r : Int} {T : List Bool} {ok : Bool} (h : rTab p ns r T ok) (hg : goodDB p ns r = true) : T = tabL p ns r ∧ ok = true := by
  obtain ⟨h1, h2⟩ := h
  rw [hg] at h1
  rw [h1] at h2
  exact ⟨by simpa using h2, h1⟩
theorem rTab_no {a : Int} {ns : List Nd} {r : Int} {T : List Bool} {ok : Bool} (h : rTab a ns r T ok) (hg : goodDB a ns r = false) : T = [] ∧ ok = false := by
  obtain ⟨h1, h2⟩ := h
  rw [hg] at h1
  rw [h1] at h2
  exact ⟨h2, h1⟩
theorem own_bcell {w : World} {base n c g cap : Nat} {l : List Bool} {j : Nat} {x : Bool} (h : w.ownsRow base 4 1 (.slice (some ⟨g, 0, none⟩) n c) n (l.map Value.bool)) (hx : l[j]? = some x) (_ : cap = cap) : w.cell? ⟨g, j, none⟩ = some (.bool x) ∧ w.frozen? ⟨g, j, none⟩ = false := by
  constructor
  · have := h.cells (g := g) rfl j (.bool x) (by simp [hx])
    rw [add_plain, Nat.zero_add] at this
    exact this
  · rcases h.2 with ⟨h', _⟩ | ⟨g', cap', cur, h', hb, hg, hnc, hcm, hcs, htake⟩
    · simp at h'
    · simp only [Value.slice.injEq, Option.some.injEq, Addr.mk.injEq, and_true, true_and] at h'
      obtain ⟨rfl, rfl⟩ := h'
      simp [World.frozen?, hg]
theorem own_bset {w : World} {base n c g : Nat} {l : List Bool} (h : w.ownsRow base 4 1 (.slice (some ⟨g, 0, none⟩) n c) n (l.map Value.bool)) (j : Nat) (x : Bool) :
    (w.setCell ⟨g, j, none⟩ (.bool x)).ownsRow base 4 1 (.slice (some ⟨g, 0, none⟩) n c) n ((l.set j x).map Value.bool) := by
  have := (h.stored j (.bool x)).1
  rw [List.map_set]
  exact this
theorem own_some {w : World} {base n c : Nat} {A : Option Addr} {t : TypeId} {xs : List Value} (h : w.ownsRow base t 1 (.slice A n c) n xs) (hn : 0 < n) : ∃ g, A = some ⟨g, 0, none⟩ ∧ base ≤ g ∧ g < w.heap.size := by
  obtain ⟨g, cap, hv, hb, hg⟩ := h.form hn
  exact ⟨g, by injection hv, hb, hg⟩
set_option maxRecDepth 100000 in
set_option maxHeartbeats 8000000 in
theorem specNot_any (a r : Int) (A : Option Addr) (n c : Nat) (ns : List Nd) (w : World) (d0 : Int) (ds : List Nd) (d2 : Int) (ok : Bool) (HR : Hid (rNot a ns r = ((d0, ds, d2), ok))) (hl : Hid (NLies w A ns)) (HX : Hid (ns.length = n)) (hn : n ≤ 1048576) :
    Calls Try.prog 51 #[.agg #[.int .i64 a, .slice A n c, .int .i64 r]] w fun e w' => GaveDg w d0 ds d2 ok e w' := by
  have L1 : Hid (NLies ((w.alloc (.cells #[.int .i64 a, .slice A n c, .int .i64 r] 28)).alloc (.cells #[.int .i64 0, .slice none 0 0, .int .i64 0] 28)) A ns) := Lib.hid (hl.out.below (below2 _ _ _))
  have K0 : Hid (Blk ((w.alloc (.cells #[.int .i64 a, .slice A n c, .int .i64 r] 28)).alloc (.cells #[.int .i64 0, .slice none 0 0, .int .i64 0] 28)) w.heap.size 28 [.int .i64 a, .slice A n c, .int .i64 r]) := Lib.hid (Blk.below (heap_alloc_new w _) (below1 _ _))
  have KR : Hid (Blk ((w.alloc (.cells #[.int .i64 a, .slice A n c, .int .i64 r] 28)).alloc (.cells #[.int .i64 0, .slice none 0 0, .int .i64 0] 28)) (w.heap.size + 1) 28 [.int .i64 0, .slice none 0 0, .int .i64 0]) := Lib.hid (blk_second w _ [.int .i64 0, .slice none 0 0, .int .i64 0])
  have HSZ : Hid (((w.alloc (.cells #[.int .i64 a, .slice A n c, .int .i64 r] 28)).alloc (.cells #[.int .i64 0, .slice none 0 0, .int .i64 0] 28)).heap.size = w.heap.size + 2) := Lib.hid (by simp)
  obtain ⟨T, tk, hrt⟩ := rTab_any a ns r
  have HRT := Lib.hid hrt
  clear hrt
  cases hg : goodDB a ns r
  · have E : Hid (dv0 = ((d0, ds, d2), ok)) := Lib.hid (by rw [← HR.out]; simp [rNot, hg])
    obtain ⟨rfl, rfl⟩ := rTab_no HRT.out hg
    go_enter Try.func51, Try.ntmps51
    go_wp2_with fail
    refine (specTab_any a r A n c ns _ [] false HRT L1 HX hn).mono ?_
    rintro e w1 ⟨A1, c1, rfl, ho1, hb1⟩
    have hRB := KR.out.below hb1
    have hB1 := Below.tr (below2 w _ _) hb1
    clear ho1 hb1
    obtain ⟨q0, q1, q2, y0, y1, y2, hRl⟩ := blk_cells hRB
    have HRB := Lib.hid hRB
    have BFW := Lib.hid hB1
    go_wp2
    have hfin := dg_store HRB.out (.int .i64 0) (.slice none 0 0) (.int .i64 0)
    have hBB := hfin.1.below BFW.out BFW.out.size (fun i e => by omega)
    obtain ⟨W', hW'⟩ : ∃ W', W' = (((w1.setCell ⟨w.heap.size + 1, 0, none⟩ (.int .i64 0)).setCell ⟨w.heap.size + 1, 1, none⟩ (.slice none 0 0)).setCell ⟨w.heap.size + 1, 2, none⟩ (.int .i64 0)) := ⟨_, rfl⟩
    rw [← hW'] at hfin hBB ⊢
    obtain ⟨_, r0, r1, r2⟩ := hfin
    exact bodyPost_ret (v := .tuple #[.agg #[.int .i64 0, .slice none 0 0, .int .i64 0], .bool false]) (by simp [results, Try.results51, go_sem, r0, r1, r2]) rfl (gaveDg_zero E.out hBB)
  have hgd := goodDB_true.1 hg
  obtain ⟨p, rfl⟩ : ∃ p : Nat, a = p := ⟨a.toNat, by have := hgd.1; omega⟩
  have hp6 : p ≤ 6 := by have := hgd.2.1; omega
  obtain ⟨q, hq⟩ : ∃ q, 2 ^ p = q := ⟨_, rfl⟩
  have HQ := Lib.hid hq
  have hq64 : q ≤ 64 := by rw [← hq]; exact pow_le6 hp6
  have hq0 : 0 < q := by rw [← hq]; exact Nat.pow_pos (by omega)
  obtain ⟨hT, rfl⟩ := rTab_yes HRT.out hg
  have hTl : T.length = q := by rw [hT, tabL_len, hq]
  have E : Hid (dvOf p (T.map not) = ((d0, ds, d2), ok)) := Lib.hid (by rw [← HR.out, hT]; simp [rNot, hg])
  obtain ⟨k, ms, hkm⟩ : ∃ k ms, dgm p (T.map not) = (k, ms) := ⟨_, _, rfl⟩
  have DK := Lib.hid hkm
  have TL := Lib.hid hTl
  have UL : Hid ((T.map not).length = q) := Lib.hid (by rw [List.length_map, hTl])
  clear hkm hq hT hTl hgd
  go_enter Try.func51, Try.ntmps51
  go_wp2_with fail
  refine (specTab_any p r A n c ns _ T true HRT L1 HX hn).mono ?_
  rw [TL.out]
  rintro e w2 ⟨A1, c1, rfl, ho2, hb2⟩
  obtain ⟨g, rfl, hgb, hgl⟩ := own_some ho2 hq0
  rw [HSZ.out] at hgb
  have B2 := Lib.hid (Below.tr (below2 w _ _) hb2)
  have K2 := Lib.hid (K0.out.below hb2)
  have R2 := Lib.hid (KR.out.below hb2)
  have T2 := Lib.hid (own_baseN ho2 (Nat.zero_le _))
  clear ho2 hb2
  go_wp2_with fail
  go_loopw [17] (fun i wr => ∃ j : Nat, j ≤ q ∧ i = .int .i64 j ∧ wr.ownsRow 0 4 1 (.slice (some ⟨g, 0, none⟩) q c1) q ((mixL (T.map not) T j).map Value.bool) ∧ Kept w2 wr (fun i => i = g)) (fun i _ => q - (intOf i).toNat)
  case atStart => exact ⟨0, Nat.zero_le _, rfl, by rw [mixL_zero]; exact T2.out, Kept.refl _ _⟩
  case round =>
    obtain ⟨j, hj, rfl, hb, hkp⟩ := hrel
    have M1 := Lib.hid hb
    have P1 := Lib.hid hkp
    clear hb hkp
    by_cases hlt : j < q
    · obtain ⟨x, hx⟩ : ∃ x, T[j]? = some x := ⟨_, List.getElem?_eq_getElem (by rw [TL.out]; exact hlt)⟩
      obtain ⟨c0, f0⟩ := own_bcell (cap := 0) M1.out (j := j) (x := x) (by rw [mixL_at (by rw [UL.out]; omega), hx]) rfl
      have MS := Lib.hid (mixL_set (U := T.map not) (T := T) (k := j) (x := !x) (by simp [hx]) (by rw [TL.out]; exact hlt))
      have hgl2 := P1.out.size
      clear hx
      go_wp2
      go_roundw
      case rel => exact ⟨j + 1, by omega, by go_num, by rw [← MS.out]; exact own_bset M1.out _ _, P1.out.trans Kept.set⟩
      case measure => simp [intOf]; omega
    · obtain rfl : j = q := by omega
      have M2 : Hid (wr.ownsRow 0 4 1 (.slice (some ⟨g, 0, none⟩) j c1) j ((T.map not).map Value.bool)) := Lib.hid (by rw [← mixL_end (U := T.map not) (T := T) (k := j) (by rw [UL.out]; exact Nat.le_refl _) (by rw [TL.out]; exact Nat.le_refl _)]; exact M1.out)
      have BW := Lib.hid (P1.out.below B2.out B2.out.size (fun i e => by omega))
      have K3 := P1.out.blk K2.out (by omega)
      have R3 := Lib.hid (P1.out.blk R2.out (by omega))
      obtain ⟨t0, t1, t2, _, _, _, hwl3⟩ := blk_cells K3
      clear K3
      go_wp2_with fail
      refine (l7Of_any p _ j c1 (T.map not) _ k ms hp6 UL HQ (Lib.hid (own_blies M2.out)) DK).mono ?_
      rintro e w3 ⟨Ad, cd, rfl, hod, hb3⟩
      have hRB := R3.out.below hb3
      have hB3 := Below.tr BW.out hb3
      have hgd2 : w.heap.size + 1 < wr.heap.size := R3.out.lt
      clear hb3 t0 t1 t2
      obtain ⟨q0, q1, q2, y0, y1, y2, hRl⟩ := blk_cells hRB
      have HRB := Lib.hid hRB
      have HOD := Lib.hid hod
      have BFW := Lib.hid hB3
      clear hod
      go_wp2
      have hfin := dg_store HRB.out (.int .i64 p) (.slice Ad ms.length cd) (.int .i64 k)
      have hOO := hfin.1.own3 HOD.out (fun g e h => by have := (HOD.out.lt g e).1; omega)
      have hBB := hfin.1.below BFW.out BFW.out.size (fun i e => by omega)
      obtain ⟨W', hW'⟩ : ∃ W', W' = (((w3.setCell ⟨w.heap.size + 1, 0, none⟩ (.int .i64 p)).setCell ⟨w.heap.size + 1, 1, none⟩ (.slice Ad ms.length cd)).setCell ⟨w.heap.size + 1, 2, none⟩ (.int .i64 k)) := ⟨_, rfl⟩
      rw [← hW'] at hfin hOO hBB ⊢
      obtain ⟨_, r0, r1, r2⟩ := hfin
      exact bodyPost_ret (v := .tuple #[.agg #[.int .i64 p, .slice Ad ms.length cd, .int .i64 k], .bool true]) (by simp [results, Try.results51, go_sem, r0, r1, r2]) rfl (gaveDg_own E.out DK.out hOO (by omega) hBB)
end Go.Proofs.Ythhmacocijcjiaa
