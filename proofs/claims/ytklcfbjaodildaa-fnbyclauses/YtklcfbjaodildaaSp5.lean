/-
  The model's functions over diagrams: GoodDiagram, TableOf, EvalDiagram, DiagramOf, NotOf, BothOf.
-/
import Derived.Test.YtklcfbjaodildaaSp4
namespace Go.Proofs.Ytklcfbjaodildaa
open Go.ChangeShapes Go.WideShapes Go.ChangeAt Go.RowKit Go.Maps

theorem gaveDg_own {w w' : World} {n k : Nat} {ms : List Nd} {T : List Bool} {d0 d2 : Int} {ds : List Nd} {ok : Bool} {A : Option Addr} {c base : Nat} (h : dvOf n T = ((d0, ds, d2), ok)) (hd : dgm n T = (k, ms)) (ho : w'.ownsRow base 43 3 (.slice A ms.length c) ms.length (ncells ms)) (hg : w.heap.size ≤ base) (hb : Below w.heap.size w w') :
    GaveDg w d0 ds d2 ok (.returned (.tuple #[.agg #[.int .i64 n, .slice A ms.length c, .int .i64 k], .bool true])) w' := by
  unfold dvOf at h
  rw [hd] at h
  simp only [Prod.mk.injEq] at h
  obtain ⟨⟨rfl, rfl, rfl⟩, rfl⟩ := h
  exact ⟨_, _, rfl, own_baseN ho hg, hb⟩
theorem rT_any (a : Int) (ns : List Nd) (r : Int) : ∃ T ok, rT a ns r T ok := ⟨_, _, rfl, rfl⟩
theorem rT_yes {a : Int} {ns : List Nd} {r : Int} {T : List Bool} (h : rT a ns r T true) : 0 ≤ a ∧ a ≤ 6 ∧ ns.length ≤ 64 ∧ Fol a ns r ∧ T = tabL a.toNat ns r := by
  obtain ⟨h1, h2⟩ := h
  have h1 := h1.symm
  simp only [Bool.and_eq_true, decide_eq_true_eq] at h1
  obtain ⟨⟨h3, h4⟩, h5⟩ := h1
  simp [deepB] at h3
  exact ⟨h3.1, h3.2, h4, folB_true.1 h5, by simpa using h2⟩
theorem rT_good {a : Int} {ns : List Nd} {r : Int} {T : List Bool} {ok : Bool} (h : rT a ns r T ok) (hg : goodDB a ns r = true) : ok = true := by
  have hg := goodDB_true.1 hg
  rw [h.1]
  simp only [Bool.and_eq_true, decide_eq_true_eq]
  exact ⟨⟨by simp [deepB]; exact ⟨hg.1, hg.2.1⟩, by have := hg.len; omega⟩, folB_true.2 hg.2.2.1⟩
set_option maxRecDepth 100000 in
set_option maxHeartbeats 8000000 in
theorem specGoodD_any (a r : Int) (A : Option Addr) (n c : Nat) (ns : List Nd) (w : World) (hl : Hid (NLies w A ns)) (HX : Hid (ns.length = n)) (hn : n ≤ 1048576) :
    Calls Try.prog 136 #[.agg #[.int .i64 a, .slice A n c, .int .i64 r]] w fun e w' => e = .returned (.bool (goodDB a ns r)) ∧ Below w.heap.size w w' := by
  have L1 : Hid (NLies (w.alloc (.cells #[.int .i64 a, .slice A n c, .int .i64 r] 28)) A ns) := Lib.hid (hl.out.below (below1 _ _))
  have K0 : Hid (Blk (w.alloc (.cells #[.int .i64 a, .slice A n c, .int .i64 r] 28)) w.heap.size 28 [.int .i64 a, .slice A n c, .int .i64 r]) := Lib.hid (heap_alloc_new w _)
  obtain ⟨T, ok, hrt⟩ := rT_any a ns r
  have HRT := Lib.hid hrt
  clear hrt
  cases ok
  · have E : Hid (goodDB a ns r = false) := Lib.hid (by
      cases hg : goodDB a ns r
      · rfl
      · have := rT_good HRT.out hg; cases this)
    go_enter Try.func136, Try.ntmps136
    go_wp2_with fail
    refine (l7Table_any a r A n c ns _ T false HRT L1 HX hn).mono ?_
    rintro e w1 ⟨A1, c1, rfl, ho1, hb1⟩
    have B1 := Lib.hid (Below.tr (below1 w _) hb1)
    clear ho1 hb1
    go_wp2
    go_ret
    exact ⟨ret_bool E.out.symm, B1.out⟩
  obtain ⟨ha0, ha6, hn64, hfol, hT⟩ := rT_yes HRT.out
  obtain ⟨p, rfl⟩ : ∃ p : Nat, a = p := ⟨a.toNat, by omega⟩
  have hp6 : p ≤ 6 := by omega
  rw [show ((p : Int)).toNat = p by omega] at hT
  obtain ⟨q, hq⟩ : ∃ q, 2 ^ p = q := ⟨_, rfl⟩
  have HQ := Lib.hid hq
  have TL : Hid (T.length = q) := Lib.hid (by rw [hT, tabL_len, hq])
  obtain ⟨k, ms, hkm⟩ : ∃ k ms, dgm p T = (k, ms) := ⟨_, _, rfl⟩
  have DK := Lib.hid hkm
  have hml := dgm_len hp6 (by rw [TL.out, hq]) hkm
  have E : Hid (goodDB p ns r = ((k : Int) == r && decide (ns = ms))) := Lib.hid (by
    have h0 := hfol.2.1
    rw [Bool.eq_iff_iff, goodDB_true]
    simp only [Bool.and_eq_true, beq_iff_eq, decide_eq_true_eq]
    constructor
    · rintro ⟨_, _, _, h4⟩
      rw [show ((p : Int)).toNat = p by omega, ← hT, hkm] at h4
      obtain ⟨e1, e2⟩ := Prod.mk.inj h4
      exact ⟨by omega, e2.symm⟩
    · rintro ⟨e1, e2⟩
      refine ⟨by omega, by omega, hfol, ?_⟩
      rw [show ((p : Int)).toNat = p by omega, ← hT, hkm, ← e1, e2]
      simp)
  obtain ⟨z, hz⟩ : ∃ z, ms.length = z := ⟨_, rfl⟩
  have HZ := Lib.hid hz
  rw [hz] at hml
  clear hq hkm hT hfol hz
  go_enter Try.func136, Try.ntmps136
  go_wp2_with fail
  refine (l7Table_any p r A n c ns _ T true HRT L1 HX hn).mono ?_
  rw [TL.out]
  rintro e w1 ⟨A1, c1, rfl, ho1, hb1⟩
  have B1 := Lib.hid (Below.tr (below1 w _) hb1)
  have T1 := Lib.hid (own_blies ho1)
  have K1 := Lib.hid (K0.out.below hb1)
  obtain ⟨t0, t1, t2, _, _, _, hwl⟩ := blk_cells K1.out
  clear ho1 hb1
  go_wp2_with fail
  refine (l7Of_any p A1 q c1 T _ k ms hp6 TL HQ T1 DK).mono ?_
  rw [HZ.out]
  rintro e w2 ⟨A2, c2, rfl, ho2, hb2⟩
  have B2 := Lib.hid (Below.tr B1.out hb2)
  have N2 := Lib.hid (own_nlies HZ.out ho2)
  have K2 := Lib.hid (K1.out.below hb2)
  have L2 := Lib.hid (hl.out.below B2.out)
  clear ho2 hb2 t0 t1 t2 hwl
  obtain ⟨t0, t1, t2, _, _, _, hwl⟩ := blk_cells K2.out
  by_cases hrk : (k : Int) = r
  rotate_left
  · have hne : ((k : Int) != r) = true := by simp [hrk]
    have E2 : Hid (goodDB p ns r = false) := Lib.hid (by rw [E.out]; simp [hrk])
    go_wp2
    go_ret
    exact ⟨ret_bool E2.out.symm, Below.tr B2.out (below1 _ _)⟩
  have hne : ((k : Int) != r) = false := by simp [hrk]
  have hre : ((k : Int) == r) = true := by simp [hrk]
  by_cases hzn : z = n
  rotate_left
  · have hne2 : ((z : Int) != (n : Int)) = true := by simp; omega
    have E2 : Hid (goodDB p ns r = false) := Lib.hid (by
      rw [E.out, hre, Bool.true_and, decide_eq_false_iff_not]
      rintro rfl
      exact hzn (HZ.out.symm.trans HX.out))
    clear hrk
    go_wp2
    go_ret
    exact ⟨ret_bool E2.out.symm, Below.tr B2.out (below1 _ _)⟩
  subst hzn
  have hne2 : ((z : Int) != (z : Int)) = false := by simp
  have E2 : Hid (goodDB p ns r = decide (ns = ms)) := Lib.hid (by rw [E.out, hre]; rfl)
  clear hrk hre
  have N3 : Hid (NLies (w2.alloc (.cells #[.int .i64 p, .slice A2 z c2, .int .i64 k] 28)) A2 ms) := Lib.hid (N2.out.below (below1 _ _))
  have L3 : Hid (NLies (w2.alloc (.cells #[.int .i64 p, .slice A2 z c2, .int .i64 k] 28)) A ns) := Lib.hid (L2.out.below (below1 _ _))
  have K3 : Hid (Blk (w2.alloc (.cells #[.int .i64 p, .slice A2 z c2, .int .i64 k] 28)) w.heap.size 28 [.int .i64 p, .slice A z c, .int .i64 r]) := Lib.hid (K2.out.below (below1 _ _))
  have B3 : Hid (Below w.heap.size w (w2.alloc (.cells #[.int .i64 p, .slice A2 z c2, .int .i64 k] 28))) := Lib.hid (Below.tr B2.out (below1 _ _))
  go_wp2_with fail
  generalize w2.alloc (.cells #[.int .i64 p, .slice A2 z c2, .int .i64 k] 28) = w3 at N3 L3 K3 B3 ⊢
  clear t0 t1 t2 hwl
  go_loopw [36] (fun i wr => ∃ j : Nat, j ≤ z ∧ i = .int .i64 j ∧ ms.take j = ns.take j ∧ Below w3.heap.size w3 wr) (fun i _ => z - (intOf i).toNat)
  case atStart => exact ⟨0, Nat.zero_le _, rfl, by simp, Below.refl _ _⟩
  case round =>
    obtain ⟨j, hj, rfl, ht, hb⟩ := hrel
    have T4 := Lib.hid ht
    have B4 := Lib.hid hb
    obtain ⟨t0, t1, t2, _, _, _, hwl⟩ := blk_cells (K3.out.below hb)
    clear ht hb
    by_cases hlt : j < z
    · obtain ⟨x, hx⟩ : ∃ x, ms[j]? = some x := ⟨_, List.getElem?_eq_getElem (by have := HZ.out; omega)⟩
      obtain ⟨y, hy⟩ : ∃ y, ns[j]? = some y := ⟨_, List.getElem?_eq_getElem (by have := HX.out; omega)⟩
      obtain ⟨b, off, hA2, hbl, ha⟩ := (N3.out.below B4.out) j x hx
      obtain ⟨b2, off2, hA, hbl2, ha2⟩ := (L3.out.below B4.out) j y hy
      have HXK := Lib.hid hx
      have HYK := Lib.hid hy
      clear hx hy
      obtain ⟨e0, e1, e2⟩ := ha
      obtain ⟨g0, g1, g2⟩ := ha2
      subst hA2 hA
      have hq := neq_nd y x
      cases hxy : decide (y = x)
      · simp only [hxy, Bool.not_false] at hq
        have E3 : Hid (decide (ns = ms) = false) := Lib.hid (by
          rw [decide_eq_false_iff_not]
          rintro rfl
          have := HXK.out.symm.trans HYK.out
          injection this with this
          simp [this] at hxy)
        go_wp2_with fail
        go_quiet (fail)
        go_wp2
        go_ret
        exact ⟨ret_bool (by rw [E2.out, E3.out]), bdrewN (Below.tr (Below.tr B3.out B4.out) (below1 _ _)) _⟩
      · simp only [hxy, Bool.not_true] at hq
        have e : y = x := of_decide_eq_true hxy
        have T5 : Hid (ms.take (j + 1) = ns.take (j + 1)) := Lib.hid (by rw [List.take_add_one, List.take_add_one, T4.out, HXK.out, HYK.out, e])
        go_wp2_with fail
        go_quiet (fail)
        go_wp2
        go_roundw
        case rel => exact ⟨j + 1, by omega, by go_num, T5.out, bdrewN (Below.tr B4.out (below1 _ _)) _⟩
        case measure => simp [intOf]; omega
    · obtain rfl : j = z := by omega
      have E3 : Hid (decide (ns = ms) = true) := Lib.hid (by
        have h := T4.out
        rw [List.take_of_length_le (by rw [HZ.out]; exact Nat.le_refl _), List.take_of_length_le (by rw [HX.out]; exact Nat.le_refl _)] at h
        simp [h])
      go_wp2
      go_ret
      exact ⟨ret_bool (by rw [E2.out, E3.out]), Below.tr B3.out B4.out⟩
set_option maxRecDepth 100000 in
set_option maxHeartbeats 4000000 in
theorem specTab_any (a r : Int) (A : Option Addr) (n c : Nat) (ns : List Nd) (w : World) (T : List Bool) (ok : Bool) (HR : Hid (rTab a ns r T ok)) (hl : Hid (NLies w A ns)) (HX : Hid (ns.length = n)) (hn : n ≤ 1048576) :
    Calls Try.prog 93 #[.agg #[.int .i64 a, .slice A n c, .int .i64 r]] w fun e w' => ∃ A2 c2, e = .returned (.tuple #[.slice A2 T.length c2, .bool ok]) ∧ w'.ownsRow w.heap.size 4 1 (.slice A2 T.length c2) T.length (T.map Value.bool) ∧ Below w.heap.size w w' := by
  have L1 : Hid (NLies (w.alloc (.cells #[.int .i64 a, .slice A n c, .int .i64 r] 28)) A ns) := Lib.hid (hl.out.below (below1 _ _))
  cases hg : goodDB a ns r
  · have E : Hid (T = [] ∧ ok = false) := Lib.hid (by obtain ⟨h1, h2⟩ := HR.out; rw [hg] at h1; rw [h1] at h2; exact ⟨h2, h1⟩)
    obtain ⟨rfl, rfl⟩ := E.out
    go_enter Try.func93, Try.ntmps93
    go_wp2_with (go_at_call 136; refine (specGoodD_any a r A n c ns _ L1 HX hn).mono ?_; rintro e w1 ⟨rfl, hb1⟩; rw [hg]; have B1 := Lib.hid (Below.tr (below1 w _) hb1); clear hb1)
    go_ret2
    exact ⟨none, 0, rfl, World.ownsRow_nil _ _ _ _, B1.out⟩
  have E : Hid (rT a ns r T ok) := Lib.hid (by
    obtain ⟨h1, h2⟩ := HR.out
    obtain ⟨T', ok', h⟩ := rT_any a ns r
    have h3 := rT_good h hg
    rw [hg] at h1
    subst h3 h1
    have h4 := h.2
    simp only [if_true] at h2 h4
    rw [h2, ← h4]
    exact h)
  go_enter Try.func93, Try.ntmps93
  go_wp2_with (go_at_call 136; refine (specGoodD_any a r A n c ns _ L1 HX hn).mono ?_; rintro e w1 ⟨rfl, hb1⟩; rw [hg]; have B1 := Lib.hid (Below.tr (below1 w _) hb1); have L2 := Lib.hid (L1.out.below hb1); obtain ⟨t0, t1, t2, _, _, _, hwl⟩ := blk_cells (Blk.below (heap_alloc_new w (.cells #[.int .i64 a, .slice A n c, .int .i64 r] 28)) hb1 : Blk w1 w.heap.size 28 [.int .i64 a, .slice A n c, .int .i64 r]); clear hb1)
  refine (l7Table_any a r A n c ns _ T ok E L2 HX hn).mono ?_
  rintro e w2 ⟨A2, c2, rfl, ho2, hb2⟩
  have O2 := Lib.hid (own_baseN ho2 B1.out.size)
  have B2 := Lib.hid (Below.tr B1.out hb2)
  clear ho2 hb2
  go_wp2
  go_ret2
  exact ⟨_, _, rfl, O2.out, B2.out⟩
end Go.Proofs.Ytklcfbjaodildaa
