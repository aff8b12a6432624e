/-
  The program's validity of diagrams.
-/
import Derived.Test.YtklcfbjaodildaaDg1
namespace Go.Proofs.Ytklcfbjaodildaa
open Go.ChangeShapes Go.WideShapes Go.ChangeAt Go.RowKit Go.Maps

theorem eql_node (x y : Nd) (w : World) : (binOp .eql 43 (.agg #[.int .i64 x.v, .int .i64 x.l, .int .i64 x.h]) (.agg #[.int .i64 y.v, .int .i64 y.l, .int .i64 y.h])).run Try.prog w = .ok (.bool (x.v == y.v && x.l == y.l && x.h == y.h)) w := by
  cases h1 : (x.v == y.v)
  · go_simp
  · cases h2 : (x.l == y.l)
    · go_simp
    · cases h3 : (x.h == y.h)
      · go_simp
      · go_simp
theorem neq_node (x y : Nd) (w : World) : (binOp .neq 43 (.agg #[.int .i64 x.v, .int .i64 x.l, .int .i64 x.h]) (.agg #[.int .i64 y.v, .int .i64 y.l, .int .i64 y.h])).run Try.prog w = .ok (.bool (!(x.v == y.v && x.l == y.l && x.h == y.h))) w := by
  cases h1 : (x.v == y.v)
  · go_simp
  · cases h2 : (x.l == y.l)
    · go_simp
    · cases h3 : (x.h == y.h)
      · go_simp
      · go_simp
set_option maxRecDepth 100000 in
theorem nd_beq (x y : Nd) : (x.v == y.v && x.l == y.l && x.h == y.h) = decide (x = y) := by
  cases x; cases y
  rw [Bool.eq_iff_iff]
  simp only [Bool.and_eq_true, beq_iff_eq, decide_eq_true_eq, Nd.mk.injEq, and_assoc]
theorem eql_nd (x y : Nd) (w : World) : (binOp .eql 43 (.agg #[.int .i64 x.v, .int .i64 x.l, .int .i64 x.h]) (.agg #[.int .i64 y.v, .int .i64 y.l, .int .i64 y.h])).run Try.prog w = .ok (.bool (decide (x = y))) w := by rw [eql_node, nd_beq]
theorem neq_nd (x y : Nd) (w : World) : (binOp .neq 43 (.agg #[.int .i64 x.v, .int .i64 x.l, .int .i64 x.h]) (.agg #[.int .i64 y.v, .int .i64 y.l, .int .i64 y.h])).run Try.prog w = .ok (.bool (!decide (x = y))) w := by rw [neq_node, nd_beq]
theorem kept_cell {w w1 : World} {g b : Nat} (h : Kept w w1 (fun i => i = g)) (hlt : b < w.heap.size) (hne : b ≠ g) (j : Nat) : w1.cell? ⟨b, j, none⟩ = w.cell? ⟨b, j, none⟩ := by
  have := h.block b hlt hne
  unfold World.cell?
  simp only
  rw [this]
set_option maxRecDepth 100000 in
set_option maxHeartbeats 4000000 in
theorem equalN_any (A B : Option Addr) (n m c1 c2 : Nat) (xs ys : List Nd) (w : World) (hl : Hid (NLies w A xs)) (hl2 : Hid (NLies w B ys)) (hx : Hid (xs.length = n)) (hy : Hid (ys.length = m)) (hn : n ≤ 1048576) (hm : m ≤ 1048576) :
    Calls Try.prog 132 #[.slice A n c1, .slice B m c2] w fun e w' => e = .returned (.bool (decide (xs = ys))) ∧ Below w.heap.size w w' := by
  by_cases hnm : n = m
  · subst hnm
    have hnn : ((n : Int) != (n : Int)) = false := by simp
    go_enter Try.func132, Try.ntmps132
    go_wp2_with fail
    go_loopw [13] (fun i wr => ∃ k : Nat, k ≤ n ∧ i = .int .i64 k ∧ xs.take k = ys.take k ∧ Below w.heap.size w wr) (fun i _ => n - (intOf i).toNat)
    case atStart => exact ⟨0, Nat.zero_le _, rfl, by simp, Below.refl _ _⟩
    case round =>
      obtain ⟨k, hk, rfl, ht, hb⟩ := hrel
      have B1 := Lib.hid hb
      have T1 := Lib.hid ht
      clear hb ht
      by_cases hlt : k < n
      · obtain ⟨x, hxk⟩ : ∃ x, xs[k]? = some x := ⟨_, List.getElem?_eq_getElem (by have := hx.out; omega)⟩
        obtain ⟨y, hyk⟩ : ∃ y, ys[k]? = some y := ⟨_, List.getElem?_eq_getElem (by have := hy.out; omega)⟩
        obtain ⟨b, off, rfl, hbl, ha⟩ := (hl.out.below B1.out) k x hxk
        obtain ⟨b2, off2, rfl, hbl2, ha2⟩ := (hl2.out.below B1.out) k y hyk
        have HXK := Lib.hid hxk
        have HYK := Lib.hid hyk
        clear hxk hyk
        obtain ⟨e0, e1, e2⟩ := ha
        obtain ⟨g0, g1, g2⟩ := ha2
        have hq := neq_nd x y
        cases hxy : decide (x = y)
        · have hE : Hid (decide (xs = ys) = false) := Lib.hid (by
            rw [decide_eq_false_iff_not]
            rintro rfl
            have := HXK.out.symm.trans HYK.out
            injection this with this
            simp [this] at hxy)
          simp only [hxy, Bool.not_false] at hq
          go_wp2_with fail
          go_quiet (fail)
          go_wp2
          go_ret
          exact ⟨ret_bool hE.out.symm, bdrewN B1.out _⟩
        · simp only [hxy, Bool.not_true] at hq
          have e : x = y := of_decide_eq_true hxy
          have T2 : Hid (xs.take (k + 1) = ys.take (k + 1)) := Lib.hid (by
            rw [List.take_add_one, List.take_add_one, T1.out, HXK.out, HYK.out, e])
          go_wp2_with fail
          go_quiet (fail)
          go_wp2
          go_roundw
          case rel => exact ⟨k + 1, by omega, by go_num, T2.out, bdrewN B1.out _⟩
          case measure => simp [intOf]; omega
      · obtain rfl : k = n := by omega
        have hE : Hid (decide (xs = ys) = true) := Lib.hid (by
          have h := T1.out
          rw [List.take_of_length_le (by rw [hx.out]; exact Nat.le_refl _), List.take_of_length_le (by rw [hy.out]; exact Nat.le_refl _)] at h
          simp [h])
        go_wp2
        go_ret
        exact ⟨ret_bool hE.out.symm, B1.out⟩
  · have hne : ((n : Int) != (m : Int)) = true := by simp; omega
    have hE : Hid (decide (xs = ys) = false) := Lib.hid (by
      rw [decide_eq_false_iff_not]
      rintro rfl
      exact hnm (hx.out.symm.trans hy.out))
    go_enter Try.func132, Try.ntmps132
    go_wp2
    go_ret
    exact ⟨ret_bool hE.out.symm, Below.refl _ _⟩

set_option maxRecDepth 100000 in
set_option maxHeartbeats 8000000 in
theorem implGoodD_any (a r : Int) (A : Option Addr) (n c : Nat) (ns : List Nd) (w : World) (hl : Hid (NLies w A ns)) (HX : Hid (ns.length = n)) (hn : n ≤ 1048576) :
    Calls Try.prog 85 #[.agg #[.int .i64 a, .slice A n c, .int .i64 r]] w fun e w' => e = .returned (.bool (goodDB a ns r)) ∧ Below w.heap.size w w' := by
  have L1 : Hid (NLies (w.alloc (.cells #[.int .i64 a, .slice A n c, .int .i64 r] 28)) A ns) := Lib.hid (hl.out.below (below1 _ _))
  cases hd : deepB a
  · have E : Hid (goodDB a ns r = false) := Lib.hid (goodDB_false (fun h => by simp [deepB] at hd; have := h.1; have := h.2.1; omega))
    go_enter Try.func85, Try.ntmps85
    go_wp2_with (go_at_call 130; refine (isDeep_any a _).mono ?_; rintro e w' ⟨rfl, rfl⟩; rw [hd])
    go_ret
    exact ⟨ret_bool E.out.symm, below1 _ _⟩
  cases hf : folB a ns r
  · have E : Hid (goodDB a ns r = false) := Lib.hid (goodDB_false (fun h => by rw [folB_true.2 h.2.2.1] at hf; cases hf))
    go_enter Try.func85, Try.ntmps85
    go_wp2_with (first
      | (go_at_call 130; refine (isDeep_any a _).mono ?_; rintro e w' ⟨rfl, rfl⟩; rw [hd])
      | (go_at_call 131; refine (canBe_any a r A n c ns _ L1 HX hn).mono ?_; rintro e w1 ⟨rfl, hb1⟩; rw [hf]; have B1 := Lib.hid (Below.tr (below1 w _) hb1); clear hb1))
    go_ret
    exact ⟨ret_bool E.out.symm, B1.out⟩
  have ha0 : 0 ≤ a ∧ a ≤ 6 := by simp [deepB] at hd; omega
  obtain ⟨p, rfl⟩ : ∃ p : Nat, a = p := ⟨a.toNat, by omega⟩
  have hp6 : p ≤ 6 := by omega
  have HF := Lib.hid (folB_true.1 hf)
  obtain ⟨T, hT⟩ : ∃ T, 2 ^ p = T := ⟨_, rfl⟩
  have HT := Lib.hid hT
  obtain ⟨k, ms, hkm⟩ : ∃ k ms, dgm p (tabL p ns r) = (k, ms) := ⟨_, _, rfl⟩
  have DK := Lib.hid hkm
  have hml : ms.length ≤ 64 := by have := (dgm_facts (tabL_len _ _ _) hkm).2.2.2.1; have := pow_le6 hp6; omega
  obtain ⟨z, hz⟩ : ∃ z, ms.length = z := ⟨_, rfl⟩
  have HZ := Lib.hid hz
  have E : Hid (goodDB p ns r = ((r == (k : Int)) && decide (ns = ms))) := Lib.hid (by
    have h0 := HF.out.2.1
    rw [Bool.eq_iff_iff, goodDB_true]
    simp only [Bool.and_eq_true, beq_iff_eq, decide_eq_true_eq]
    constructor
    · rintro ⟨_, _, _, h4⟩
      rw [show ((p : Int)).toNat = p by omega, hkm] at h4
      obtain ⟨e1, e2⟩ := Prod.mk.inj h4
      exact ⟨by omega, e2.symm⟩
    · rintro ⟨e1, e2⟩
      refine ⟨by omega, by omega, HF.out, ?_⟩
      rw [show ((p : Int)).toNat = p by omega, hkm, e1, e2]
      simp)
  rw [hz] at hml
  clear hT hkm ha0 hz
  obtain ⟨w0, hw0⟩ : ∃ w0, w0 = w.alloc (.cells #[.int .i64 p, .slice A n c, .int .i64 r] 28) := ⟨_, rfl⟩
  go_enter Try.func85, Try.ntmps85
  go_wp2_with (first
      | (go_at_call 130; refine (isDeep_any p _).mono ?_; rintro e w' ⟨rfl, rfl⟩; rw [hd])
      | (go_at_call 131; refine (canBe_any p r A n c ns _ L1 HX hn).mono ?_; rintro e w1 ⟨rfl, hb1⟩; rw [hf]; have B1 := Lib.hid (Below.tr (below1 w _) hb1); have K1 : Hid (Blk w1 w.heap.size 28 [.int .i64 p, .slice A n c, .int .i64 r]) := Lib.hid (Blk.below (heap_alloc_new w _) hb1); clear hb1))
  have hb := K1.out
  have t0 : w1.cell? ⟨w.heap.size, 0, none⟩ = some (.int .i64 p) := hb.cell 0
  have t1 : w1.cell? ⟨w.heap.size, 1, none⟩ = some (.slice A n c) := hb.cell 1
  have t2 : w1.cell? ⟨w.heap.size, 2, none⟩ = some (.int .i64 r) := hb.cell 2
  have hwl1 := hb.lt
  have LL := Lib.hid (hl.out.below B1.out)
  clear hb
  refine wp_region_held_drew (S := fun W => W.cell? ⟨w.heap.size, 0, none⟩ = some (.int .i64 p) ∧ W.cell? ⟨w.heap.size, 1, none⟩ = some (.slice A n c) ∧ W.cell? ⟨w.heap.size, 2, none⟩ = some (.int .i64 r)) (by kernel_rfl) ?_ (fun hHeld => ?_)
  · exact ⟨t0, t1, t2⟩
  obtain ⟨wd, hwd⟩ : ∃ wd, wd = w1.drew := ⟨_, rfl⟩
  have hBd : Below w.heap.size w wd := by rw [hwd]; exact B1.out.drew
  have hwl : w.heap.size < wd.heap.size := by rw [hwd]; exact hwl1
  rw [← hwd] at hHeld ⊢
  clear hwd
  refine wpAnyH_take (i := 0) (v := ?_) rfl (by kernel_rfl) (by kernel_rfl) (by kernel_rfl) (fun _ _ _ h => h) (Or.inl ⟨by rfl, ?_⟩) (by assumption) ?_
  rotate_left
  · intro W hSw
    try dsimp only at hSw
    go_simp
    try with_reducible rfl
  simp only [Act.put, List.setIfInBounds_toArray]
  refine wpAnyH_take (i := 1) (v := ?_) rfl (by kernel_rfl) (by kernel_rfl) (by kernel_rfl) (fun _ _ _ h => h) (Or.inl ⟨by rfl, ?_⟩) (by assumption) ?_
  rotate_left
  · intro W hSw
    try dsimp only at hSw
    go_simp
    try with_reducible rfl
  simp only [Act.put]
  refine wpAnyH_take (i := 2) (v := ?_) rfl (by kernel_rfl) (by kernel_rfl) (by kernel_rfl) (fun _ _ _ h => h) (Or.inl ⟨by rfl, ?_⟩) (by assumption) ?_
  rotate_left
  · intro W hSw
    try dsimp only at hSw
    go_simp
    try with_reducible rfl
  simp only [Act.put]
  refine wpAnyH_ready (rs := [3, 5]) (by kernel_rfl) (by simp) ?_
  refine AllReadyH.cons rfl (fun K hK => ?_) (AllReadyH.cons rfl (fun K hK => ?_) AllReadyH.nil)
  · go_simp
    refine (tableOf_any p r A n c ns T (wd) (Lib.hid (hl.out.below hBd)) HX hn HF hp6 HT).mono ?_
    rintro e W1 ⟨rfl, hk1, hb1⟩
    have hB1 := Below.tr hBd hb1
    have hs1 := hb1.size
    have hlo1 : w.heap.size < (wd).heap.size := Nat.lt_of_lt_of_le hwl (by first | exact Nat.le_refl _ | omega)
    refine hK.out _ _ ⟨((bcell hb1).1 _ _ hlo1).trans hHeld.1, ((bcell hb1).1 _ _ hlo1).trans hHeld.2.1, ((bcell hb1).1 _ _ hlo1).trans hHeld.2.2⟩ (fun hH1 => ?_)
    clear hK K
    try simp only [Act.put, List.setIfInBounds_toArray, List.set_cons_zero, List.set_cons_succ]
    refine wpAnyH_ready (rs := [4, 5]) (by kernel_rfl) (by simp) ?_
    refine AllReadyH.cons rfl (fun K hK => ?_) (AllReadyH.cons rfl (fun K hK => ?_) AllReadyH.nil)
    · go_simp
      refine (diagramOf_any p _ T T (tabL p ns r) (W1) k ms hp6 (Lib.hid (by rw [tabL_len, HT.out])) HT (Lib.hid hk1.blies) DK).mono ?_
      rintro e W2 ⟨gd, rfl, hgd2, hk2, hb2⟩
      have hB2 := Below.tr hB1 hb2
      have hs2 := hb2.size
      have hlo2 : w.heap.size < (W1).heap.size := Nat.lt_of_lt_of_le hwl (by first | exact Nat.le_refl _ | omega)
      refine hK.out _ _ ⟨((bcell hb2).1 _ _ hlo2).trans hH1.1, ((bcell hb2).1 _ _ hlo2).trans hH1.2.1, ((bcell hb2).1 _ _ hlo2).trans hH1.2.2⟩ (fun hH2 => ?_)
      clear hK K
      try simp only [Act.put, List.setIfInBounds_toArray, List.set_cons_zero, List.set_cons_succ]
      refine wpAnyH_ready (rs := [5]) (by kernel_rfl) (by simp) ?_
      refine AllReadyH.cons rfl (fun K hK => ?_) AllReadyH.nil
      go_simp
      obtain ⟨W3, hW3⟩ : ∃ W, W = (W2).alloc (.cells #[.int .i64 0, .slice none 0 0, .int .i64 0] 28) := ⟨_, rfl⟩
      have hb3 : Below (W2).heap.size (W2) W3 := by rw [hW3]; exact below1 _ _
      have ha3 : Blk W3 (W2).heap.size 28 [.int .i64 0, .slice none 0 0, .int .i64 0] := by rw [hW3]; exact heap_alloc_new _ _
      rw [← hW3]
      clear hW3
      have hB3 := Below.tr hB2 hb3
      have hs3 := hb3.size
      have hlo3 : w.heap.size < (W2).heap.size := Nat.lt_of_lt_of_le hwl (by first | exact Nat.le_refl _ | omega)
      have hd3 := hk2.below hb3
      refine hK.out _ _ ⟨((bcell hb3).1 _ _ hlo3).trans hH2.1, ((bcell hb3).1 _ _ hlo3).trans hH2.2.1, ((bcell hb3).1 _ _ hlo3).trans hH2.2.2⟩ (fun hH3 => ?_)
      clear hK K
      try simp only [Act.put, List.setIfInBounds_toArray, List.set_cons_zero, List.set_cons_succ]
      obtain ⟨G, hG⟩ : ∃ G, G = (W2).heap.size := ⟨_, rfl⟩
      have hz : Blk W3 G 28 [.int .i64 0, .slice none 0 0, .int .i64 0] := by rw [hG]; exact ha3
      have hdk := hd3
      have q0 : W3.cell? ⟨G, 0, none⟩ = some (.int .i64 0) := hz.cell 0
      have q1 : W3.cell? ⟨G, 1, none⟩ = some (.slice none 0 0) := hz.cell 1
      have q2 : W3.cell? ⟨G, 2, none⟩ = some (.int .i64 0) := hz.cell 2
      have y0 := hz.frozen 0
      have y1 := hz.frozen 1
      have y2 := hz.frozen 2
      have hzl := hz.lt
      have hGw : w.heap.size < G := by rw [hG]; exact Nat.lt_of_lt_of_le hwl (by first | exact Nat.le_refl _ | omega)
      have hgG : gd ≠ G := by
        intro e
        have e1 := hz
        rw [← e] at e1
        unfold Blk at e1 hdk
        rw [hdk] at e1
        simp at e1
      try rw [HZ.out]
      rw [← hG]
      clear hG
      refine wpAnyH_ready (rs := [6]) (by kernel_rfl) (by simp) ?_
      refine AllReadyH.cons rfl (fun K hK => ?_) AllReadyH.nil
      go_simp
      have hfin := dg_store hz (.int .i64 p) (.slice (some ⟨gd, 0, none⟩) z z) (.int .i64 k)
      obtain ⟨W', hW'⟩ : ∃ W', W' = (((W3.setCell ⟨G, 0, none⟩ (.int .i64 p)).setCell ⟨G, 1, none⟩ (.slice (some ⟨gd, 0, none⟩) z z)).setCell ⟨G, 2, none⟩ (.int .i64 k)) := ⟨_, rfl⟩
      rw [← hW'] at hfin ⊢
      clear hW'
      obtain ⟨hKt, r0, r1, r2⟩ := hfin
      have hBn := (hKt.below hB3 hB3.size (fun i e => by omega))
      have hbx : W'.cell? ⟨w.heap.size, 0, none⟩ = some (.int .i64 p) ∧ W'.cell? ⟨w.heap.size, 1, none⟩ = some (.slice A n c) ∧ W'.cell? ⟨w.heap.size, 2, none⟩ = some (.int .i64 r) := by
        have hc : ∀ j, W'.cell? ⟨w.heap.size, j, none⟩ = W3.cell? ⟨w.heap.size, j, none⟩ := fun j => kept_cell hKt (by omega) (by omega) j
        exact ⟨(hc 0).trans hH3.1, (hc 1).trans hH3.2.1, (hc 2).trans hH3.2.2⟩
      refine hK.out _ _ hbx (fun hHn => ?_)
      clear hK K
      try simp only [Act.put, List.setIfInBounds_toArray, List.set_cons_zero, List.set_cons_succ]
      refine wpAnyH_done (by kernel_rfl) ?_ _
      obtain ⟨s0, s1, s2⟩ := hbx
      have LA := Lib.hid (hl.out.below hBn)
      have LM : Hid (NLies W' (some ⟨gd, 0, none⟩) ms) := Lib.hid (hdk.kept1 hKt hgG).nlies
      have BN := Lib.hid hBn
      clear hBn hHn hKt hdk hz q0 q1 q2 y0 y1 y2 t0 t1 t2
      by_cases hrk : r = (k : Int)
      · have hre : (r == (k : Int)) = true := by simp [hrk]
        have E2 : Hid (goodDB p ns r = decide (ns = ms)) := Lib.hid (by rw [E.out, hre]; rfl)
        clear hrk
        go_wp2_with (go_at_call 132; refine (equalN_any A _ n z c z ns ms _ LA LM HX HZ hn (by omega)).mono ?_; rintro e w' ⟨rfl, hbe⟩; have BE := Lib.hid (Below.tr BN.out hbe); clear hbe)
        go_ret
        exact ⟨ret_bool E2.out.symm, BE.out⟩
      · have hre : (r == (k : Int)) = false := by simp [hrk]
        have E2 : Hid (goodDB p ns r = false) := Lib.hid (by rw [E.out, hre]; rfl)
        go_wp2
        go_ret
        exact ⟨ret_bool E2.out.symm, BN.out⟩
    · go_simp
      obtain ⟨W2, hW2⟩ : ∃ W, W = (W1).alloc (.cells #[.int .i64 0, .slice none 0 0, .int .i64 0] 28) := ⟨_, rfl⟩
      have hb2 : Below (W1).heap.size (W1) W2 := by rw [hW2]; exact below1 _ _
      have ha2 : Blk W2 (W1).heap.size 28 [.int .i64 0, .slice none 0 0, .int .i64 0] := by rw [hW2]; exact heap_alloc_new _ _
      rw [← hW2]
      clear hW2
      have hB2 := Below.tr hB1 hb2
      have hs2 := hb2.size
      have hlo2 : w.heap.size < (W1).heap.size := Nat.lt_of_lt_of_le hwl (by first | exact Nat.le_refl _ | omega)
      have hk2 := hk1.below hb2
      refine hK.out _ _ ⟨((bcell hb2).1 _ _ hlo2).trans hH1.1, ((bcell hb2).1 _ _ hlo2).trans hH1.2.1, ((bcell hb2).1 _ _ hlo2).trans hH1.2.2⟩ (fun hH2 => ?_)
      clear hK K
      try simp only [Act.put, List.setIfInBounds_toArray, List.set_cons_zero, List.set_cons_succ]
      refine wpAnyH_ready (rs := [4]) (by kernel_rfl) (by simp) ?_
      refine AllReadyH.cons rfl (fun K hK => ?_) AllReadyH.nil
      go_simp
      refine (diagramOf_any p _ T T (tabL p ns r) (W2) k ms hp6 (Lib.hid (by rw [tabL_len, HT.out])) HT (Lib.hid hk2.blies) DK).mono ?_
      rintro e W3 ⟨gd, rfl, hgd3, hk3, hb3⟩
      have hB3 := Below.tr hB2 hb3
      have hs3 := hb3.size
      have ha3 := ha2.below hb3
      have hlo3 : w.heap.size < (W2).heap.size := Nat.lt_of_lt_of_le hwl (by first | exact Nat.le_refl _ | omega)
      refine hK.out _ _ ⟨((bcell hb3).1 _ _ hlo3).trans hH2.1, ((bcell hb3).1 _ _ hlo3).trans hH2.2.1, ((bcell hb3).1 _ _ hlo3).trans hH2.2.2⟩ (fun hH3 => ?_)
      clear hK K
      try simp only [Act.put, List.setIfInBounds_toArray, List.set_cons_zero, List.set_cons_succ]
      obtain ⟨G, hG⟩ : ∃ G, G = (W1).heap.size := ⟨_, rfl⟩
      have hz : Blk W3 G 28 [.int .i64 0, .slice none 0 0, .int .i64 0] := by rw [hG]; exact ha3
      have hdk := hk3
      have q0 : W3.cell? ⟨G, 0, none⟩ = some (.int .i64 0) := hz.cell 0
      have q1 : W3.cell? ⟨G, 1, none⟩ = some (.slice none 0 0) := hz.cell 1
      have q2 : W3.cell? ⟨G, 2, none⟩ = some (.int .i64 0) := hz.cell 2
      have y0 := hz.frozen 0
      have y1 := hz.frozen 1
      have y2 := hz.frozen 2
      have hzl := hz.lt
      have hGw : w.heap.size < G := by rw [hG]; exact Nat.lt_of_lt_of_le hwl (by first | exact Nat.le_refl _ | omega)
      have hgG : gd ≠ G := by
        intro e
        have e1 := hz
        rw [← e] at e1
        unfold Blk at e1 hdk
        rw [hdk] at e1
        simp at e1
      try rw [HZ.out]
      rw [← hG]
      clear hG
      refine wpAnyH_ready (rs := [6]) (by kernel_rfl) (by simp) ?_
      refine AllReadyH.cons rfl (fun K hK => ?_) AllReadyH.nil
      go_simp
      have hfin := dg_store hz (.int .i64 p) (.slice (some ⟨gd, 0, none⟩) z z) (.int .i64 k)
      obtain ⟨W', hW'⟩ : ∃ W', W' = (((W3.setCell ⟨G, 0, none⟩ (.int .i64 p)).setCell ⟨G, 1, none⟩ (.slice (some ⟨gd, 0, none⟩) z z)).setCell ⟨G, 2, none⟩ (.int .i64 k)) := ⟨_, rfl⟩
      rw [← hW'] at hfin ⊢
      clear hW'
      obtain ⟨hKt, r0, r1, r2⟩ := hfin
      have hBn := (hKt.below hB3 hB3.size (fun i e => by omega))
      have hbx : W'.cell? ⟨w.heap.size, 0, none⟩ = some (.int .i64 p) ∧ W'.cell? ⟨w.heap.size, 1, none⟩ = some (.slice A n c) ∧ W'.cell? ⟨w.heap.size, 2, none⟩ = some (.int .i64 r) := by
        have hc : ∀ j, W'.cell? ⟨w.heap.size, j, none⟩ = W3.cell? ⟨w.heap.size, j, none⟩ := fun j => kept_cell hKt (by omega) (by omega) j
        exact ⟨(hc 0).trans hH3.1, (hc 1).trans hH3.2.1, (hc 2).trans hH3.2.2⟩
      refine hK.out _ _ hbx (fun hHn => ?_)
      clear hK K
      try simp only [Act.put, List.setIfInBounds_toArray, List.set_cons_zero, List.set_cons_succ]
      refine wpAnyH_done (by kernel_rfl) ?_ _
      obtain ⟨s0, s1, s2⟩ := hbx
      have LA := Lib.hid (hl.out.below hBn)
      have LM : Hid (NLies W' (some ⟨gd, 0, none⟩) ms) := Lib.hid (hdk.kept1 hKt hgG).nlies
      have BN := Lib.hid hBn
      clear hBn hHn hKt hdk hz q0 q1 q2 y0 y1 y2 t0 t1 t2
      by_cases hrk : r = (k : Int)
      · have hre : (r == (k : Int)) = true := by simp [hrk]
        have E2 : Hid (goodDB p ns r = decide (ns = ms)) := Lib.hid (by rw [E.out, hre]; rfl)
        clear hrk
        go_wp2_with (go_at_call 132; refine (equalN_any A _ n z c z ns ms _ LA LM HX HZ hn (by omega)).mono ?_; rintro e w' ⟨rfl, hbe⟩; have BE := Lib.hid (Below.tr BN.out hbe); clear hbe)
        go_ret
        exact ⟨ret_bool E2.out.symm, BE.out⟩
      · have hre : (r == (k : Int)) = false := by simp [hrk]
        have E2 : Hid (goodDB p ns r = false) := Lib.hid (by rw [E.out, hre]; rfl)
        go_wp2
        go_ret
        exact ⟨ret_bool E2.out.symm, BN.out⟩
  · go_simp
    obtain ⟨W1, hW1⟩ : ∃ W, W = (wd).alloc (.cells #[.int .i64 0, .slice none 0 0, .int .i64 0] 28) := ⟨_, rfl⟩
    have hb1 : Below (wd).heap.size (wd) W1 := by rw [hW1]; exact below1 _ _
    have ha1 : Blk W1 (wd).heap.size 28 [.int .i64 0, .slice none 0 0, .int .i64 0] := by rw [hW1]; exact heap_alloc_new _ _
    rw [← hW1]
    clear hW1
    have hB1 := Below.tr hBd hb1
    have hs1 := hb1.size
    have hlo1 : w.heap.size < (wd).heap.size := Nat.lt_of_lt_of_le hwl (by first | exact Nat.le_refl _ | omega)
    refine hK.out _ _ ⟨((bcell hb1).1 _ _ hlo1).trans hHeld.1, ((bcell hb1).1 _ _ hlo1).trans hHeld.2.1, ((bcell hb1).1 _ _ hlo1).trans hHeld.2.2⟩ (fun hH1 => ?_)
    clear hK K
    try simp only [Act.put, List.setIfInBounds_toArray, List.set_cons_zero, List.set_cons_succ]
    refine wpAnyH_ready (rs := [3]) (by kernel_rfl) (by simp) ?_
    refine AllReadyH.cons rfl (fun K hK => ?_) AllReadyH.nil
    go_simp
    refine (tableOf_any p r A n c ns T (W1) (Lib.hid (hl.out.below hB1)) HX hn HF hp6 HT).mono ?_
    rintro e W2 ⟨rfl, hk2, hb2⟩
    have hB2 := Below.tr hB1 hb2
    have hs2 := hb2.size
    have ha2 := ha1.below hb2
    have hlo2 : w.heap.size < (W1).heap.size := Nat.lt_of_lt_of_le hwl (by first | exact Nat.le_refl _ | omega)
    refine hK.out _ _ ⟨((bcell hb2).1 _ _ hlo2).trans hH1.1, ((bcell hb2).1 _ _ hlo2).trans hH1.2.1, ((bcell hb2).1 _ _ hlo2).trans hH1.2.2⟩ (fun hH2 => ?_)
    clear hK K
    try simp only [Act.put, List.setIfInBounds_toArray, List.set_cons_zero, List.set_cons_succ]
    refine wpAnyH_ready (rs := [4]) (by kernel_rfl) (by simp) ?_
    refine AllReadyH.cons rfl (fun K hK => ?_) AllReadyH.nil
    go_simp
    refine (diagramOf_any p _ T T (tabL p ns r) (W2) k ms hp6 (Lib.hid (by rw [tabL_len, HT.out])) HT (Lib.hid hk2.blies) DK).mono ?_
    rintro e W3 ⟨gd, rfl, hgd3, hk3, hb3⟩
    have hB3 := Below.tr hB2 hb3
    have hs3 := hb3.size
    have ha3 := ha2.below hb3
    have hlo3 : w.heap.size < (W2).heap.size := Nat.lt_of_lt_of_le hwl (by first | exact Nat.le_refl _ | omega)
    refine hK.out _ _ ⟨((bcell hb3).1 _ _ hlo3).trans hH2.1, ((bcell hb3).1 _ _ hlo3).trans hH2.2.1, ((bcell hb3).1 _ _ hlo3).trans hH2.2.2⟩ (fun hH3 => ?_)
    clear hK K
    try simp only [Act.put, List.setIfInBounds_toArray, List.set_cons_zero, List.set_cons_succ]
    obtain ⟨G, hG⟩ : ∃ G, G = (wd).heap.size := ⟨_, rfl⟩
    have hz : Blk W3 G 28 [.int .i64 0, .slice none 0 0, .int .i64 0] := by rw [hG]; exact ha3
    have hdk := hk3
    have q0 : W3.cell? ⟨G, 0, none⟩ = some (.int .i64 0) := hz.cell 0
    have q1 : W3.cell? ⟨G, 1, none⟩ = some (.slice none 0 0) := hz.cell 1
    have q2 : W3.cell? ⟨G, 2, none⟩ = some (.int .i64 0) := hz.cell 2
    have y0 := hz.frozen 0
    have y1 := hz.frozen 1
    have y2 := hz.frozen 2
    have hzl := hz.lt
    have hGw : w.heap.size < G := by rw [hG]; exact Nat.lt_of_lt_of_le hwl (by first | exact Nat.le_refl _ | omega)
    have hgG : gd ≠ G := by
      intro e
      have e1 := hz
      rw [← e] at e1
      unfold Blk at e1 hdk
      rw [hdk] at e1
      simp at e1
    try rw [HZ.out]
    rw [← hG]
    clear hG
    refine wpAnyH_ready (rs := [6]) (by kernel_rfl) (by simp) ?_
    refine AllReadyH.cons rfl (fun K hK => ?_) AllReadyH.nil
    go_simp
    have hfin := dg_store hz (.int .i64 p) (.slice (some ⟨gd, 0, none⟩) z z) (.int .i64 k)
    obtain ⟨W', hW'⟩ : ∃ W', W' = (((W3.setCell ⟨G, 0, none⟩ (.int .i64 p)).setCell ⟨G, 1, none⟩ (.slice (some ⟨gd, 0, none⟩) z z)).setCell ⟨G, 2, none⟩ (.int .i64 k)) := ⟨_, rfl⟩
    rw [← hW'] at hfin ⊢
    clear hW'
    obtain ⟨hKt, r0, r1, r2⟩ := hfin
    have hBn := (hKt.below hB3 hB3.size (fun i e => by omega))
    have hbx : W'.cell? ⟨w.heap.size, 0, none⟩ = some (.int .i64 p) ∧ W'.cell? ⟨w.heap.size, 1, none⟩ = some (.slice A n c) ∧ W'.cell? ⟨w.heap.size, 2, none⟩ = some (.int .i64 r) := by
      have hc : ∀ j, W'.cell? ⟨w.heap.size, j, none⟩ = W3.cell? ⟨w.heap.size, j, none⟩ := fun j => kept_cell hKt (by omega) (by omega) j
      exact ⟨(hc 0).trans hH3.1, (hc 1).trans hH3.2.1, (hc 2).trans hH3.2.2⟩
    refine hK.out _ _ hbx (fun hHn => ?_)
    clear hK K
    try simp only [Act.put, List.setIfInBounds_toArray, List.set_cons_zero, List.set_cons_succ]
    refine wpAnyH_done (by kernel_rfl) ?_ _
    obtain ⟨s0, s1, s2⟩ := hbx
    have LA := Lib.hid (hl.out.below hBn)
    have LM : Hid (NLies W' (some ⟨gd, 0, none⟩) ms) := Lib.hid (hdk.kept1 hKt hgG).nlies
    have BN := Lib.hid hBn
    clear hBn hHn hKt hdk hz q0 q1 q2 y0 y1 y2 t0 t1 t2
    by_cases hrk : r = (k : Int)
    · have hre : (r == (k : Int)) = true := by simp [hrk]
      have E2 : Hid (goodDB p ns r = decide (ns = ms)) := Lib.hid (by rw [E.out, hre]; rfl)
      clear hrk
      go_wp2_with (go_at_call 132; refine (equalN_any A _ n z c z ns ms _ LA LM HX HZ hn (by omega)).mono ?_; rintro e w' ⟨rfl, hbe⟩; have BE := Lib.hid (Below.tr BN.out hbe); clear hbe)
      go_ret
      exact ⟨ret_bool E2.out.symm, BE.out⟩
    · have hre : (r == (k : Int)) = false := by simp [hrk]
      have E2 : Hid (goodDB p ns r = false) := Lib.hid (by rw [E.out, hre]; rfl)
      go_wp2
      go_ret
      exact ⟨ret_bool E2.out.symm, BN.out⟩
end Go.Proofs.Ytklcfbjaodildaa
