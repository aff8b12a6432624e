/-
  Drawn tables and diagrams.
-/
import Derived.Test.YtklcfbjaodildaaSp6
import Derived.Test.YtklcfbjaodildaaBytes
namespace Go.Proofs.Ytklcfbjaodildaa
open Go.ChangeShapes Go.WideShapes Go.ChangeAt Go.RowKit Go.Maps

theorem own_grown {w w' : World} {base s n c : Nat} {t : TypeId} {v : Value} {xs : List Value} (h : w.ownsRow base t s v n xs) (hg : w.grownBy w' (some c)) (hb : c < base) : w'.ownsRow base t s v n xs := by
  refine ⟨h.1, ?_⟩
  rcases h.2 with q | ⟨g, cap, cur, rfl, hb', hgg, rest⟩
  · exact .inl q
  · exact .inr ⟨g, cap, cur, rfl, hb', (hg.block g (Array.getElem?_eq_some_iff.1 hgg).1 (fun e => by have := Option.some.inj e; omega)).trans hgg, rest⟩
theorem blk_grown {w w' : World} {g c : Nat} {t : TypeId} {cs : List Value} (h : Blk w g t cs) (hg : w.grownBy w' (some c)) (hne : g ≠ c) : Blk w' g t cs := (hg.block g h.lt (fun e => hne (Option.some.inj e))).trans h
theorem grownC_any {a b c : World} {r : Nat} {row : Option Nat} (h : a.grownBy b (some r)) (k : b.grownBy c row) (hr : ∀ g, row = some g → a.heap.size ≤ g) : a.grownBy c (some r) :=
  ⟨k.os.trans h.os, k.tape.trans h.tape, k.output.trans h.output, Nat.le_trans h.size k.size, fun i hi hne => (k.block i (Nat.lt_of_lt_of_le hi h.size) (fun e => by have := hr i e.symm; omega)).trans (h.block i hi hne)⟩
set_option maxRecDepth 100000 in
set_option maxHeartbeats 4000000 in
theorem table_any (c K p q : Nat) (w : World) (h : Hid (Cur w c K)) (HQ : Hid (2 ^ p = q)) (hp : p ≤ 6) (hK : K ≤ 1000000) :
    Calls Try.prog 135 #[.pointer (some ⟨c, 0, none⟩), .int .i64 p] w fun e w' => ∃ (T : List Bool) (A : Option Addr) (cc : Nat), e = .returned (.slice A q cc) ∧ T.length = q ∧ w'.ownsRow w.heap.size 4 1 (.slice A q cc) q (T.map Value.bool) ∧ Cur w' c (K + 200) ∧ w.grownBy w' (some c) := by
  obtain ⟨i0, hi0, hz0, hz1, hz2⟩ := info_parts info_bool
  have hq64 : q ≤ 64 := by rw [← HQ.out]; exact pow_le6 hp
  obtain ⟨hsh2, hsh3⟩ := wrap_pow HQ.out hp
  have hcw := h.out.lt
  go_enter Try.func135, Try.ntmps135
  go_wp2_with fail
  refine (pick_any c K _ _ h (by omega) (by omega) (by omega)).mono ?_
  rintro e w1 ⟨n1, ⟨l1, u1⟩, rfl, hc1, hg1⟩
  have C1 := Lib.hid hc1
  have G1 := Lib.hid hg1
  clear hc1 hg1
  go_wp2_with fail
  go_loopw [5, 7] (fun o i wr => ∃ (j : Nat) (T : List Bool), j ≤ q ∧ i = .int .i64 j ∧ T.length = j ∧ (∃ A3 c3, o = .slice A3 j c3 ∧ wr.ownsRow w.heap.size 4 1 (.slice A3 j c3) j (T.map Value.bool)) ∧ Cur wr c (K + 2 + 2 * j) ∧ w.grownBy wr (some c)) (fun _ i _ => q - (intOf i).toNat)
  case atStart => exact ⟨0, [], Nat.zero_le _, rfl, rfl, ⟨none, 0, rfl, World.ownsRow_nil _ _ _ _⟩, C1.out, G1.out⟩
  case round =>
    obtain ⟨j, T, hj, rfl, hT, ⟨A3, c3, rfl, hown⟩, hc, hg⟩ := hrel
    have O3 := Lib.hid hown
    have C3 := Lib.hid hc
    have G3 := Lib.hid hg
    have TL := Lib.hid hT
    clear hown hc hg hT
    by_cases hlt : j < q
    · go_wp2_with fail
      refine (one_any c _ (2 + n1) _ C3 (by omega) (by omega) (by omega)).mono ?_
      rintro e w2 ⟨b, rfl, hc2, hg2⟩
      have C4 := Lib.hid hc2
      have G4 := Lib.hid (grownC_trans G3.out hg2)
      have O4 := Lib.hid (own_grown O3.out hg2 hcw)
      have hs2 := G4.out.size
      clear hc2 hg2
      go_wp2_with (at_builtin; (refine wpList_append_lies _ rfl _ _ 49 rfl w.heap.size 4 i0 (.bool false) 1 1 Try.underlying49 hi0 hz0 hz1 hz2 rfl (by omega) _ j _ rfl (O4.out.alloc _) ⟨w2.heap.size, 0, none⟩ 1 1 [.bool b] rfl rfl (one_new1 w2 _ _) (by intro u hu; rw [List.mem_singleton.1 hu]; rfl) (by omega) (by unfold maxLen; omega) (by omega) (by first | omega | (simp; omega)) (w2.heap.size + 1) (by first | rfl | simp) ?_; intro g4 cap4 w4 hown4 hg4 hat4 hlt4; have H4 : Hid (w4.ownsRow w.heap.size 4 1 (.slice (some ⟨g4, 0, none⟩) (j + 1) cap4) (j + 1) ((T ++ [b]).map Value.bool)) := Lib.hid (by rw [List.map_append]; exact hown4); have G5 := Lib.hid (grownC_any (grownC_any G4.out (World.grownBy_alloc w2 _ none) (fun g e => by cases e)) hg4 (fun g e => (O4.out.lt g e).1)); have C5 := Lib.hid ((C4.out.alloc _).grown hg4 (fun g e => Nat.lt_of_lt_of_le hcw (O4.out.lt g e).1)); clear hown4 hg4 hat4 hlt4))
      go_roundw
      case rel => exact ⟨j + 1, T ++ [b], by omega, by go_num, by simp [TL.out], ⟨_, _, rfl, H4.out⟩, C5.out.mono (by omega), G5.out⟩
      case measure => simp [intOf]; omega
    · obtain rfl : j = q := by omega
      go_wp2
      go_ret
      exact ⟨T, A3, c3, rfl, TL.out, O3.out, C3.out.mono (by omega), G3.out⟩

/-- it answers a drawn diagram of its own -/
def GDg (c K : Nat) (w : World) (e : Ending) (w' : World) : Prop :=
  ∃ (a r : Int) (A : Option Addr) (cc : Nat) (xs : List Nd), e = .returned (.agg #[.int .i64 a, .slice A xs.length cc, .int .i64 r]) ∧ xs.length ≤ 100 ∧ (-10 ≤ a ∧ a ≤ 10) ∧ (-10 ≤ r ∧ r ≤ 100) ∧ w'.ownsRow w.heap.size 43 3 (.slice A xs.length cc) xs.length (ncells xs) ∧ Cur w' c K ∧ w.grownBy w' (some c)
theorem rDiag_in {n : Int} {T : List Bool} {d0 d2 : Int} {ds : List Nd} {ok : Bool} (h : rDiag n T = ((d0, ds, d2), ok)) : ds.length ≤ 64 ∧ (0 ≤ d0 ∧ d0 ≤ 6) ∧ (0 ≤ d2 ∧ d2 ≤ 66) := by
  unfold rDiag at h
  split at h
  · rename_i hc
    simp only [Bool.and_eq_true, decide_eq_true_eq] at hc
    have h6 : 0 ≤ n ∧ n ≤ 6 := by have := hc.1; simp [deepB] at this; omega
    unfold dvOf at h
    simp only [Prod.mk.injEq] at h
    obtain ⟨⟨h1, h2, h3⟩, _⟩ := h
    obtain ⟨k, ms, hkm⟩ : ∃ k ms, dgm n.toNat T = (k, ms) := ⟨_, _, rfl⟩
    have hl := dgm_len (by omega) hc.2 hkm
    have hf := (dgm_facts hc.2 hkm).1.2
    rw [hkm] at h2 h3
    simp only at h2 h3
    subst h2
    refine ⟨hl, by omega, ?_⟩
    omega
  · unfold dv0 at h
    simp only [Prod.mk.injEq] at h
    obtain ⟨⟨rfl, rfl, rfl⟩, _⟩ := h
    simp
set_option maxRecDepth 100000 in
set_option maxHeartbeats 16000000 in
theorem diagram_any (c K p q : Nat) (w : World) (h : Hid (Cur w c K)) (HQ : Hid (2 ^ p = q)) (hp : p ≤ 6) (hK : K ≤ 1000000) :
    Calls Try.prog 89 #[.pointer (some ⟨c, 0, none⟩), .int .i64 p] w (GDg c (K + 300) w) := by
  obtain ⟨iN, hiN, hn0, hn1, hn2⟩ := info_parts info_node
  have hcw := h.out.lt
  have C0 : Hid (Cur (w.alloc (.cells #[.int .i64 0, .slice none 0 0, .int .i64 0] 28)) c K) := Lib.hid (h.out.alloc _)
  have R0 : Hid (Blk (w.alloc (.cells #[.int .i64 0, .slice none 0 0, .int .i64 0] 28)) w.heap.size 28 [.int .i64 0, .slice none 0 0, .int .i64 0]) := Lib.hid (heap_alloc_new w _)
  have HSZ : Hid ((w.alloc (.cells #[.int .i64 0, .slice none 0 0, .int .i64 0] 28)).heap.size = w.heap.size + 1) := Lib.hid (by simp)
  go_enter Try.func89, Try.ntmps89
  go_wp2_with fail
  refine (table_any c K p q _ C0 HQ hp hK).mono ?_
  rintro e w1 ⟨T, A1, c1, rfl, hT, ho1, hc1, hg1⟩
  rw [HSZ.out] at ho1
  have TL := Lib.hid hT
  have T1 := Lib.hid (own_blies ho1)
  have C1 := Lib.hid hc1
  have G1 := Lib.hid (grownC_trans (World.grownBy_alloc w _ (some c)) hg1)
  have R1 := Lib.hid (blk_grown R0.out hg1 (by omega))
  have hs1 : w.heap.size + 1 ≤ w1.heap.size := by have := hg1.size; rw [HSZ.out] at this; exact this
  clear ho1 hc1 hg1 hT
  obtain ⟨⟨⟨a, xs, r⟩, ok⟩, hr⟩ : ∃ x, rDiag p T = x := ⟨_, rfl⟩
  obtain ⟨hxl, ha, hrr⟩ := rDiag_in hr
  have HR := Lib.hid hr
  clear hr
  go_wp2_with fail
  refine (specDiag_any p A1 q c1 T _ a xs r ok HR T1 TL).mono ?_
  rintro e w2 ⟨A2, c2, rfl, ho2, hb2⟩
  obtain ⟨z, hz⟩ : ∃ z, xs.length = z := ⟨_, rfl⟩
  have HZ := Lib.hid hz
  rw [hz] at ho2 hxl ⊢
  have O2 := Lib.hid (own_baseN ho2 hs1)
  have C2 := Lib.hid (C1.out.below hb2)
  have G2 := Lib.hid (grownC_trans G1.out (grown_of_below hb2))
  have R2 := Lib.hid (R1.out.below hb2)
  have hs2 := hb2.size
  clear ho2 hb2 hz
  have C3 : Hid (Cur (w2.alloc (.cells #[.int .i64 a, .slice A2 z c2, .int .i64 r] 28)) c (K + 200)) := Lib.hid (C2.out.alloc _)
  have K3 : Hid (Blk (w2.alloc (.cells #[.int .i64 a, .slice A2 z c2, .int .i64 r] 28)) w2.heap.size 28 [.int .i64 a, .slice A2 z c2, .int .i64 r]) := Lib.hid (heap_alloc_new w2 _)
  go_wp2_with fail
  refine (pick_any c _ 20 _ C3 (by omega) (by omega) (by omega)).mono ?_
  rintro e w4 ⟨n1, ⟨l1, u1⟩, rfl, hc4, hg4⟩
  have C4 := Lib.hid hc4
  have G4 := Lib.hid (grownC_trans (grownC_trans G2.out (World.grownBy_alloc w2 _ (some c))) hg4)
  have R4 := Lib.hid (blk_grown (R2.out.below (below1 w2 _)) hg4 (by omega))
  have K4 := Lib.hid (blk_grown K3.out hg4 (by omega))
  have O4 := Lib.hid (own_grown (own_below O2.out (below1 w2 _)) hg4 (by omega))
  obtain ⟨bx, hbx⟩ : ∃ bx, w2.heap.size = bx := ⟨_, rfl⟩
  rw [hbx] at K4 ⊢
  have hbw : w.heap.size < bx := by omega
  have hbo : Hid (∀ g, (Value.slice A2 z c2).ownBlock = some g → g ≠ bx) := Lib.hid (fun g e h => by have := (O2.out.lt g e).2; omega)
  have hbx4 := K4.out.lt
  clear hc4 hg4 hbx C3 K3
  by_cases h0 : n1 = 0
  · subst h0
    go_wp2_with fail
    refine (pick_any c _ 5 _ C4 (by omega) (by omega) (by omega)).mono ?_
    rintro e w5 ⟨n2, ⟨l2, u2⟩, rfl, hc5, hg5⟩
    have hK5 := blk_grown K4.out hg5 (by omega)
    obtain ⟨p0, p1, p2, f0, f1, f2, hbl⟩ := blk_cells hK5
    have KB : Hid (Blk (w5.setCell ⟨bx, 2, none⟩ (.int .i64 (n2 - 1))) bx 28 [.int .i64 a, .slice A2 z c2, .int .i64 (n2 - 1)]) := Lib.hid (hK5.set 2 _)
    have hKs : Kept w5 (w5.setCell ⟨bx, 2, none⟩ (.int .i64 (n2 - 1))) (fun i => i = bx) := Kept.set
    have RB : Hid (Blk (w5.setCell ⟨bx, 2, none⟩ (.int .i64 (n2 - 1))) w.heap.size 28 [.int .i64 0, .slice none 0 0, .int .i64 0]) := Lib.hid (hKs.blk (blk_grown R4.out hg5 (by omega)) (by omega))
    have OW : Hid ((w5.setCell ⟨bx, 2, none⟩ (.int .i64 (n2 - 1))).ownsRow (w.heap.size + 1) 43 3 (.slice A2 z c2) z (ncells xs)) := Lib.hid (hKs.own3 (own_grown O4.out hg5 (by omega)) (fun g e h => hbo.out g e h))
    have CW : Hid (Cur (w5.setCell ⟨bx, 2, none⟩ (.int .i64 (n2 - 1))) c (K + 210)) := Lib.hid ((hc5.mono (by omega)).grown hKs.grown (fun g e => by have := Option.some.inj e; omega))
    have GW : Hid (w.grownBy (w5.setCell ⟨bx, 2, none⟩ (.int .i64 (n2 - 1))) (some c)) := Lib.hid (grownC_any (grownC_trans G4.out hg5) hKs.grown (fun g e => by have := Option.some.inj e; omega))
    obtain ⟨q0, q1, q2, y0, y1, y2, hRl⟩ := blk_cells (blk_grown R4.out hg5 (by omega))
    have hne1 : bx ≠ w.heap.size := by omega
    have hne2 : w.heap.size ≠ bx := by omega
    clear hc5 hg5 hK5 hKs
    go_wp2
    have HXL := HZ
    generalize w5.setCell ⟨bx, 2, none⟩ (.int .i64 (n2 - 1)) = w6 at KB RB OW CW GW ⊢
    have hfin := dg_store RB.out (.int .i64 a) (.slice A2 z c2) (.int .i64 (n2 - 1))
    have hOO := hfin.1.own3 OW.out (fun g e h => by have := (OW.out.lt g e).1; omega)
    have hCC := CW.out.grown hfin.1.grown (fun g e => by have := Option.some.inj e; omega)
    have hGG := grownC_any GW.out hfin.1.grown (fun g e => by have := Option.some.inj e; omega)
    obtain ⟨W', hW'⟩ : ∃ W', W' = (((w6.setCell ⟨w.heap.size, 0, none⟩ (.int .i64 a)).setCell ⟨w.heap.size, 1, none⟩ (.slice A2 z c2)).setCell ⟨w.heap.size, 2, none⟩ (.int .i64 (n2 - 1))) := ⟨_, rfl⟩
    rw [← hW'] at hfin hOO hCC hGG ⊢
    obtain ⟨_, r0, r1, r2⟩ := hfin
    exact bodyPost_ret (v := .agg #[.int .i64 a, .slice A2 z c2, .int .i64 (n2 - 1)]) (by simp [results, Try.results89, go_sem, r0, r1, r2]) rfl ⟨a, n2 - 1, A2, c2, xs, by rw [HXL.out], by first | omega | (rw [HXL.out]; omega), by omega, by omega, by first | exact own_baseN hOO (by omega) | (rw [HXL.out]; exact own_baseN hOO (by omega)), hCC.mono (by omega), hGG⟩
  by_cases h1 : n1 = 1
  · subst h1
    have HXL := HZ
    go_wp2_with fail
    refine wp_region_any (by kernel_rfl) ?_
    change wpAny _ _ _ _ _ _ _ (World.drew _)
    obtain ⟨wd, hwd⟩ : ∃ wd, wd = w4.drew := ⟨_, rfl⟩
    have CA : Hid (Cur wd c (K + 202)) := Lib.hid (by rw [hwd]; exact C4.out.below (Below.refl w4.heap.size w4).drew)
    have GA : Hid (w.grownBy wd (some c)) := Lib.hid (by rw [hwd]; exact grownC_trans G4.out (grown_of_below (Below.refl w4.heap.size w4).drew))
    have RA : Hid (Blk wd w.heap.size 28 [.int .i64 0, .slice none 0 0, .int .i64 0]) := Lib.hid (by rw [hwd]; exact R4.out.below (Below.refl w4.heap.size w4).drew)
    have KA : Hid (Blk wd bx 28 [.int .i64 a, .slice A2 z c2, .int .i64 r]) := Lib.hid (by rw [hwd]; exact K4.out.below (Below.refl w4.heap.size w4).drew)
    have OA : Hid (wd.ownsRow (w.heap.size + 1) 43 3 (.slice A2 z c2) z (ncells xs)) := Lib.hid (by rw [hwd]; exact own_below O4.out (Below.refl w4.heap.size w4).drew)
    rw [← hwd]
    clear hwd
    refine wpAny_take (i := 0) (v := ?_) rfl (by kernel_rfl) (by kernel_rfl) (by kernel_rfl) (fun _ _ _ h => h) (Or.inl ⟨by rfl, ?_⟩) ?_
    rotate_left
    · intro w
      go_simp
      try with_reducible rfl
    refine wpAny_take (i := 2) (v := ?_) rfl (by kernel_rfl) (by kernel_rfl) (by kernel_rfl) (fun _ _ _ h => h) (Or.inl ⟨by rfl, ?_⟩) ?_
    rotate_left
    · intro w
      go_simp
      try with_reducible rfl
    refine wpAny_take (i := 4) (v := ?_) rfl (by kernel_rfl) (by kernel_rfl) (by kernel_rfl) (fun _ _ _ h => h) (Or.inl ⟨by rfl, ?_⟩) ?_
    rotate_left
    · intro w
      go_simp
      try with_reducible rfl
    refine wpAny_take (i := 6) (v := ?_) rfl (by kernel_rfl) (by kernel_rfl) (by kernel_rfl) (fun _ _ _ h => h) (Or.inl ⟨by rfl, ?_⟩) ?_
    rotate_left
    · intro w
      go_simp
      try with_reducible rfl
    refine wpAny_ready (rs := [1, 3]) (by kernel_rfl) (by simp) ?_
    refine AllReady.cons rfl (fun K hK => ?_) (AllReady.cons rfl (fun K hK => ?_) AllReady.nil)
    · obtain ⟨v0, v1, v2, _, _, _, hvl⟩ := blk_cells KA.out
      go_simp
      refine hK _ _ ?_
      clear hK K v0 v1 v2 hvl
      try simp only [Act.put, List.setIfInBounds_toArray, List.set_cons_zero, List.set_cons_succ]
      refine wpAny_ready (rs := [3]) (by kernel_rfl) (by simp) ?_
      refine AllReady.cons rfl (fun K hK => ?_) AllReady.nil
      go_simp
      refine (pick_any c _ 4 _ CA (by omega) (by omega) (by omega)).mono ?_
      rintro e wp3 ⟨n3, ⟨l3, u3⟩, rfl, hcx, hgx⟩
      replace CA := Lib.hid hcx
      replace GA := Lib.hid (grownC_trans GA.out hgx)
      replace RA := Lib.hid (blk_grown RA.out hgx (by omega))
      replace KA := Lib.hid (blk_grown KA.out hgx (by omega))
      replace OA := Lib.hid (own_grown OA.out hgx (by omega))
      clear hcx hgx
      refine hK _ _ ?_
      clear hK K
      try simp only [Act.put, List.setIfInBounds_toArray, List.set_cons_zero, List.set_cons_succ]
      refine wpAny_ready (rs := [5]) (by kernel_rfl) (by simp) ?_
      refine AllReady.cons rfl (fun K hK => ?_) AllReady.nil
      go_simp
      refine (pick_any c _ 3 _ CA (by omega) (by omega) (by omega)).mono ?_
      rintro e wp5 ⟨n5, ⟨l5, u5⟩, rfl, hcx, hgx⟩
      replace CA := Lib.hid hcx
      replace GA := Lib.hid (grownC_trans GA.out hgx)
      replace RA := Lib.hid (blk_grown RA.out hgx (by omega))
      replace KA := Lib.hid (blk_grown KA.out hgx (by omega))
      replace OA := Lib.hid (own_grown OA.out hgx (by omega))
      clear hcx hgx
      refine hK _ _ ?_
      clear hK K
      try simp only [Act.put, List.setIfInBounds_toArray, List.set_cons_zero, List.set_cons_succ]
      refine wpAny_ready (rs := [7]) (by kernel_rfl) (by simp) ?_
      refine AllReady.cons rfl (fun K hK => ?_) AllReady.nil
      go_simp
      refine (pick_any c _ 3 _ CA (by omega) (by omega) (by omega)).mono ?_
      rintro e wp7 ⟨n7, ⟨l7, u7⟩, rfl, hcx, hgx⟩
      replace CA := Lib.hid hcx
      replace GA := Lib.hid (grownC_trans GA.out hgx)
      replace RA := Lib.hid (blk_grown RA.out hgx (by omega))
      replace KA := Lib.hid (blk_grown KA.out hgx (by omega))
      replace OA := Lib.hid (own_grown OA.out hgx (by omega))
      clear hcx hgx
      refine hK _ _ ?_
      clear hK K
      try simp only [Act.put, List.setIfInBounds_toArray, List.set_cons_zero, List.set_cons_succ]
      refine wpAny_take (i := 8) (v := ?_) rfl (by kernel_rfl) (by kernel_rfl) (by kernel_rfl) (fun _ _ _ h => h) (Or.inl ⟨by rfl, ?_⟩) ?_
      rotate_left
      · intro w
        go_simp
        try with_reducible rfl
      refine wpAny_ready (rs := [9]) (by kernel_rfl) (by simp) ?_
      refine AllReady.cons rfl (fun K hK => ?_) AllReady.nil
      go_simp
      obtain ⟨W1, hW1⟩ : ∃ W, W = wp7.alloc (.cells #[.int .i64 n3, .int .i64 n5, .int .i64 n7] 43) := ⟨_, rfl⟩
      have hbW : Below wp7.heap.size wp7 W1 := by rw [hW1]; exact below1 _ _
      have hnw : ∀ j u, [Value.int .i64 n3, .int .i64 n5, .int .i64 n7][j]? = some u → W1.cell? ((⟨wp7.heap.size, 0, none⟩ : Addr).add j) = some u := by rw [hW1]; exact three_new wp7 _ _ _ _
      rw [← hW1]
      clear hW1
      replace CA := Lib.hid (CA.out.below hbW)
      replace GA := Lib.hid (grownC_trans GA.out (grown_of_below hbW))
      replace RA := Lib.hid (RA.out.below hbW)
      replace KA := Lib.hid (KA.out.below hbW)
      replace OA := Lib.hid (own_below OA.out hbW)
      refine hK _ _ ?_
      clear hK K
      try simp only [Act.put, List.setIfInBounds_toArray, List.set_cons_zero, List.set_cons_succ]
      refine wpAny_ready (rs := [10]) (by kernel_rfl) (by simp) ?_
      refine AllReady.cons rfl (fun K hK => ?_) AllReady.nil
      refine step_append_lies _ rfl _ _ 26 rfl (w.heap.size + 1) 43 iN (.agg #[.int .i64 0, .int .i64 0, .int .i64 0]) 3 24 Try.underlying26 hiN hn0 hn1 hn2 rfl (by omega) _ z _ rfl OA.out ⟨wp7.heap.size, 0, none⟩ 1 1 [.int .i64 n3, .int .i64 n5, .int .i64 n7] rfl rfl hnw (by intro u hu; simp at hu; rcases hu with rfl | rfl | rfl <;> rfl) (by omega) (by unfold maxLen; omega) (by omega) (by have := RA.out.lt; omega) _ rfl ?_
      intro g4 cap4 w8 hown4 hg4 hat4 hlt4
      have hkw : Kept W1 w8 (fun i => (Value.slice A2 z c2).ownBlock = some i) := Kept.of_grown hg4 (fun g e => e)
      have hb8 := hkw.blk KA.out (fun e => hbo.out _ e rfl)
      have hgx : g4 ≠ bx := by
        rcases hat4 with q | q
        · exact hbo.out _ q
        · have := KA.out.lt; omega
      replace RA := Lib.hid (hkw.blk RA.out (fun e => by have := (OA.out.lt _ e).1; omega))
      replace CA := Lib.hid (CA.out.grown hg4 (fun g e => by have := (OA.out.lt g e).1; omega))
      replace GA := Lib.hid (grownC_any GA.out hg4 (fun g e => by have := (OA.out.lt g e).1; omega))
      obtain ⟨v0, v1, v2, f0, f1, f2, hvl⟩ := blk_cells hb8
      refine hK _ _ ?_
      clear hK K
      try simp only [Act.put, List.setIfInBounds_toArray]
      refine wpAny_ready (rs := [11]) (by kernel_rfl) (by simp) ?_
      refine AllReady.cons rfl (fun K hK => ?_) AllReady.nil
      go_simp
      refine hK _ _ ?_
      clear hK K
      try simp only [Act.put, List.setIfInBounds_toArray, List.set_cons_zero, List.set_cons_succ]
      refine wpAny_ready (rs := [12]) (by kernel_rfl) (by simp) ?_
      refine AllReady.cons rfl (fun K hK => ?_) AllReady.nil
      go_simp
      refine hK _ _ ?_
      clear hK K
      try simp only [Act.put, List.setIfInBounds_toArray, List.set_cons_zero, List.set_cons_succ]
      refine wpAny_done (by kernel_rfl) ?_ _
      have hKs : Kept w8 (w8.setCell ⟨bx, 1, none⟩ (.slice (some ⟨g4, 0, none⟩) (z + 1) cap4)) (fun i => i = bx) := Kept.set
      have KB : Hid (Blk (w8.setCell ⟨bx, 1, none⟩ (.slice (some ⟨g4, 0, none⟩) (z + 1) cap4)) bx 28 [.int .i64 a, .slice (some ⟨g4, 0, none⟩) (z + 1) cap4, .int .i64 r]) := Lib.hid (hb8.set 1 _)
      have RB := Lib.hid (hKs.blk RA.out (by omega))
      have OW : Hid ((w8.setCell ⟨bx, 1, none⟩ (.slice (some ⟨g4, 0, none⟩) (z + 1) cap4)).ownsRow (w.heap.size + 1) 43 3 (.slice (some ⟨g4, 0, none⟩) (z + 1) cap4) (z + 1) (ncells (xs ++ [⟨n3, n5, n7⟩]))) := Lib.hid (by rw [ncells_app]; exact hKs.own3 hown4 (fun g e h => by simp [Value.ownBlock] at e; omega))
      have CW : Hid (Cur (w8.setCell ⟨bx, 1, none⟩ (.slice (some ⟨g4, 0, none⟩) (z + 1) cap4)) c (K + 210)) := Lib.hid ((CA.out.mono (by omega)).grown hKs.grown (fun g e => by have := Option.some.inj e; omega))
      have GW : Hid (w.grownBy (w8.setCell ⟨bx, 1, none⟩ (.slice (some ⟨g4, 0, none⟩) (z + 1) cap4)) (some c)) := Lib.hid (grownC_any GA.out hKs.grown (fun g e => by have := Option.some.inj e; omega))
      have HXL : Hid ((xs ++ [(⟨n3, n5, n7⟩ : Nd)]).length = z + 1) := Lib.hid (by simp [HZ.out])
      clear v0 v1 v2 f0 f1 f2 hvl hKs hown4 hg4 hat4 hb8 hkw CA GA RA KA OA
      generalize w8.setCell ⟨bx, 1, none⟩ (.slice (some ⟨g4, 0, none⟩) (z + 1) cap4) = w9 at KB RB OW CW GW ⊢
      obtain ⟨p0, p1, p2, _, _, _, hbl⟩ := blk_cells KB.out
      obtain ⟨q0, q1, q2, y0, y1, y2, hRl⟩ := blk_cells RB.out
      go_wp2
      have hfin := dg_store RB.out (.int .i64 a) (.slice (some ⟨g4, 0, none⟩) (z + 1) cap4) (.int .i64 (r))
      have hOO := hfin.1.own3 OW.out (fun g e h => by have := (OW.out.lt g e).1; omega)
      have hCC := CW.out.grown hfin.1.grown (fun g e => by have := Option.some.inj e; omega)
      have hGG := grownC_any GW.out hfin.1.grown (fun g e => by have := Option.some.inj e; omega)
      obtain ⟨W', hW'⟩ : ∃ W', W' = (((w9.setCell ⟨w.heap.size, 0, none⟩ (.int .i64 a)).setCell ⟨w.heap.size, 1, none⟩ (.slice (some ⟨g4, 0, none⟩) (z + 1) cap4)).setCell ⟨w.heap.size, 2, none⟩ (.int .i64 (r))) := ⟨_, rfl⟩
      rw [← hW'] at hfin hOO hCC hGG ⊢
      obtain ⟨_, r0, r1, r2⟩ := hfin
      exact bodyPost_ret (v := .agg #[.int .i64 a, .slice (some ⟨g4, 0, none⟩) (z + 1) cap4, .int .i64 (r)]) (by simp [results, Try.results89, go_sem, r0, r1, r2]) rfl ⟨a, r, (some ⟨g4, 0, none⟩), cap4, (xs ++ [⟨n3, n5, n7⟩]), by rw [HXL.out], by first | omega | (rw [HXL.out]; omega), by omega, by omega, by first | exact own_baseN hOO (by omega) | (rw [HXL.out]; exact own_baseN hOO (by omega)), hCC.mono (by omega), hGG⟩
    · go_simp
      refine (pick_any c _ 4 _ CA (by omega) (by omega) (by omega)).mono ?_
      rintro e wp3 ⟨n3, ⟨l3, u3⟩, rfl, hcx, hgx⟩
      replace CA := Lib.hid hcx
      replace GA := Lib.hid (grownC_trans GA.out hgx)
      replace RA := Lib.hid (blk_grown RA.out hgx (by omega))
      replace KA := Lib.hid (blk_grown KA.out hgx (by omega))
      replace OA := Lib.hid (own_grown OA.out hgx (by omega))
      clear hcx hgx
      refine hK _ _ ?_
      clear hK K
      try simp only [Act.put, List.setIfInBounds_toArray, List.set_cons_zero, List.set_cons_succ]
      refine wpAny_ready (rs := [1, 5]) (by kernel_rfl) (by simp) ?_
      refine AllReady.cons rfl (fun K hK => ?_) (AllReady.cons rfl (fun K hK => ?_) AllReady.nil)
      · obtain ⟨v0, v1, v2, _, _, _, hvl⟩ := blk_cells KA.out
        go_simp
        refine hK _ _ ?_
        clear hK K v0 v1 v2 hvl
        try simp only [Act.put, List.setIfInBounds_toArray, List.set_cons_zero, List.set_cons_succ]
        refine wpAny_ready (rs := [5]) (by kernel_rfl) (by simp) ?_
        refine AllReady.cons rfl (fun K hK => ?_) AllReady.nil
        go_simp
        refine (pick_any c _ 3 _ CA (by omega) (by omega) (by omega)).mono ?_
        rintro e wp5 ⟨n5, ⟨l5, u5⟩, rfl, hcx, hgx⟩
        replace CA := Lib.hid hcx
        replace GA := Lib.hid (grownC_trans GA.out hgx)
        replace RA := Lib.hid (blk_grown RA.out hgx (by omega))
        replace KA := Lib.hid (blk_grown KA.out hgx (by omega))
        replace OA := Lib.hid (own_grown OA.out hgx (by omega))
        clear hcx hgx
        refine hK _ _ ?_
        clear hK K
        try simp only [Act.put, List.setIfInBounds_toArray, List.set_cons_zero, List.set_cons_succ]
        refine wpAny_ready (rs := [7]) (by kernel_rfl) (by simp) ?_
        refine AllReady.cons rfl (fun K hK => ?_) AllReady.nil
        go_simp
        refine (pick_any c _ 3 _ CA (by omega) (by omega) (by omega)).mono ?_
        rintro e wp7 ⟨n7, ⟨l7, u7⟩, rfl, hcx, hgx⟩
        replace CA := Lib.hid hcx
        replace GA := Lib.hid (grownC_trans GA.out hgx)
        replace RA := Lib.hid (blk_grown RA.out hgx (by omega))
        replace KA := Lib.hid (blk_grown KA.out hgx (by omega))
        replace OA := Lib.hid (own_grown OA.out hgx (by omega))
        clear hcx hgx
        refine hK _ _ ?_
        clear hK K
        try simp only [Act.put, List.setIfInBounds_toArray, List.set_cons_zero, List.set_cons_succ]
        refine wpAny_take (i := 8) (v := ?_) rfl (by kernel_rfl) (by kernel_rfl) (by kernel_rfl) (fun _ _ _ h => h) (Or.inl ⟨by rfl, ?_⟩) ?_
        rotate_left
        · intro w
          go_simp
          try with_reducible rfl
        refine wpAny_ready (rs := [9]) (by kernel_rfl) (by simp) ?_
        refine AllReady.cons rfl (fun K hK => ?_) AllReady.nil
        go_simp
        obtain ⟨W1, hW1⟩ : ∃ W, W = wp7.alloc (.cells #[.int .i64 n3, .int .i64 n5, .int .i64 n7] 43) := ⟨_, rfl⟩
        have hbW : Below wp7.heap.size wp7 W1 := by rw [hW1]; exact below1 _ _
        have hnw : ∀ j u, [Value.int .i64 n3, .int .i64 n5, .int .i64 n7][j]? = some u → W1.cell? ((⟨wp7.heap.size, 0, none⟩ : Addr).add j) = some u := by rw [hW1]; exact three_new wp7 _ _ _ _
        rw [← hW1]
        clear hW1
        replace CA := Lib.hid (CA.out.below hbW)
        replace GA := Lib.hid (grownC_trans GA.out (grown_of_below hbW))
        replace RA := Lib.hid (RA.out.below hbW)
        replace KA := Lib.hid (KA.out.below hbW)
        replace OA := Lib.hid (own_below OA.out hbW)
        refine hK _ _ ?_
        clear hK K
        try simp only [Act.put, List.setIfInBounds_toArray, List.set_cons_zero, List.set_cons_succ]
        refine wpAny_ready (rs := [10]) (by kernel_rfl) (by simp) ?_
        refine AllReady.cons rfl (fun K hK => ?_) AllReady.nil
        refine step_append_lies _ rfl _ _ 26 rfl (w.heap.size + 1) 43 iN (.agg #[.int .i64 0, .int .i64 0, .int .i64 0]) 3 24 Try.underlying26 hiN hn0 hn1 hn2 rfl (by omega) _ z _ rfl OA.out ⟨wp7.heap.size, 0, none⟩ 1 1 [.int .i64 n3, .int .i64 n5, .int .i64 n7] rfl rfl hnw (by intro u hu; simp at hu; rcases hu with rfl | rfl | rfl <;> rfl) (by omega) (by unfold maxLen; omega) (by omega) (by have := RA.out.lt; omega) _ rfl ?_
        intro g4 cap4 w8 hown4 hg4 hat4 hlt4
        have hkw : Kept W1 w8 (fun i => (Value.slice A2 z c2).ownBlock = some i) := Kept.of_grown hg4 (fun g e => e)
        have hb8 := hkw.blk KA.out (fun e => hbo.out _ e rfl)
        have hgx : g4 ≠ bx := by
          rcases hat4 with q | q
          · exact hbo.out _ q
          · have := KA.out.lt; omega
        replace RA := Lib.hid (hkw.blk RA.out (fun e => by have := (OA.out.lt _ e).1; omega))
        replace CA := Lib.hid (CA.out.grown hg4 (fun g e => by have := (OA.out.lt g e).1; omega))
        replace GA := Lib.hid (grownC_any GA.out hg4 (fun g e => by have := (OA.out.lt g e).1; omega))
        obtain ⟨v0, v1, v2, f0, f1, f2, hvl⟩ := blk_cells hb8
        refine hK _ _ ?_
        clear hK K
        try simp only [Act.put, List.setIfInBounds_toArray]
        refine wpAny_ready (rs := [11]) (by kernel_rfl) (by simp) ?_
        refine AllReady.cons rfl (fun K hK => ?_) AllReady.nil
        go_simp
        refine hK _ _ ?_
        clear hK K
        try simp only [Act.put, List.setIfInBounds_toArray, List.set_cons_zero, List.set_cons_succ]
        refine wpAny_ready (rs := [12]) (by kernel_rfl) (by simp) ?_
        refine AllReady.cons rfl (fun K hK => ?_) AllReady.nil
        go_simp
        refine hK _ _ ?_
        clear hK K
        try simp only [Act.put, List.setIfInBounds_toArray, List.set_cons_zero, List.set_cons_succ]
        refine wpAny_done (by kernel_rfl) ?_ _
        have hKs : Kept w8 (w8.setCell ⟨bx, 1, none⟩ (.slice (some ⟨g4, 0, none⟩) (z + 1) cap4)) (fun i => i = bx) := Kept.set
        have KB : Hid (Blk (w8.setCell ⟨bx, 1, none⟩ (.slice (some ⟨g4, 0, none⟩) (z + 1) cap4)) bx 28 [.int .i64 a, .slice (some ⟨g4, 0, none⟩) (z + 1) cap4, .int .i64 r]) := Lib.hid (hb8.set 1 _)
        have RB := Lib.hid (hKs.blk RA.out (by omega))
        have OW : Hid ((w8.setCell ⟨bx, 1, none⟩ (.slice (some ⟨g4, 0, none⟩) (z + 1) cap4)).ownsRow (w.heap.size + 1) 43 3 (.slice (some ⟨g4, 0, none⟩) (z + 1) cap4) (z + 1) (ncells (xs ++ [⟨n3, n5, n7⟩]))) := Lib.hid (by rw [ncells_app]; exact hKs.own3 hown4 (fun g e h => by simp [Value.ownBlock] at e; omega))
        have CW : Hid (Cur (w8.setCell ⟨bx, 1, none⟩ (.slice (some ⟨g4, 0, none⟩) (z + 1) cap4)) c (K + 210)) := Lib.hid ((CA.out.mono (by omega)).grown hKs.grown (fun g e => by have := Option.some.inj e; omega))
        have GW : Hid (w.grownBy (w8.setCell ⟨bx, 1, none⟩ (.slice (some ⟨g4, 0, none⟩) (z + 1) cap4)) (some c)) := Lib.hid (grownC_any GA.out hKs.grown (fun g e => by have := Option.some.inj e; omega))
        have HXL : Hid ((xs ++ [(⟨n3, n5, n7⟩ : Nd)]).length = z + 1) := Lib.hid (by simp [HZ.out])
        clear v0 v1 v2 f0 f1 f2 hvl hKs hown4 hg4 hat4 hb8 hkw CA GA RA KA OA
        generalize w8.setCell ⟨bx, 1, none⟩ (.slice (some ⟨g4, 0, none⟩) (z + 1) cap4) = w9 at KB RB OW CW GW ⊢
        obtain ⟨p0, p1, p2, _, _, _, hbl⟩ := blk_cells KB.out
        obtain ⟨q0, q1, q2, y0, y1, y2, hRl⟩ := blk_cells RB.out
        go_wp2
        have hfin := dg_store RB.out (.int .i64 a) (.slice (some ⟨g4, 0, none⟩) (z + 1) cap4) (.int .i64 (r))
        have hOO := hfin.1.own3 OW.out (fun g e h => by have := (OW.out.lt g e).1; omega)
        have hCC := CW.out.grown hfin.1.grown (fun g e => by have := Option.some.inj e; omega)
        have hGG := grownC_any GW.out hfin.1.grown (fun g e => by have := Option.some.inj e; omega)
        obtain ⟨W', hW'⟩ : ∃ W', W' = (((w9.setCell ⟨w.heap.size, 0, none⟩ (.int .i64 a)).setCell ⟨w.heap.size, 1, none⟩ (.slice (some ⟨g4, 0, none⟩) (z + 1) cap4)).setCell ⟨w.heap.size, 2, none⟩ (.int .i64 (r))) := ⟨_, rfl⟩
        rw [← hW'] at hfin hOO hCC hGG ⊢
        obtain ⟨_, r0, r1, r2⟩ := hfin
        exact bodyPost_ret (v := .agg #[.int .i64 a, .slice (some ⟨g4, 0, none⟩) (z + 1) cap4, .int .i64 (r)]) (by simp [results, Try.results89, go_sem, r0, r1, r2]) rfl ⟨a, r, (some ⟨g4, 0, none⟩), cap4, (xs ++ [⟨n3, n5, n7⟩]), by rw [HXL.out], by first | omega | (rw [HXL.out]; omega), by omega, by omega, by first | exact own_baseN hOO (by omega) | (rw [HXL.out]; exact own_baseN hOO (by omega)), hCC.mono (by omega), hGG⟩
      · go_simp
        refine (pick_any c _ 3 _ CA (by omega) (by omega) (by omega)).mono ?_
        rintro e wp5 ⟨n5, ⟨l5, u5⟩, rfl, hcx, hgx⟩
        replace CA := Lib.hid hcx
        replace GA := Lib.hid (grownC_trans GA.out hgx)
        replace RA := Lib.hid (blk_grown RA.out hgx (by omega))
        replace KA := Lib.hid (blk_grown KA.out hgx (by omega))
        replace OA := Lib.hid (own_grown OA.out hgx (by omega))
        clear hcx hgx
        refine hK _ _ ?_
        clear hK K
        try simp only [Act.put, List.setIfInBounds_toArray, List.set_cons_zero, List.set_cons_succ]
        refine wpAny_ready (rs := [1, 7]) (by kernel_rfl) (by simp) ?_
        refine AllReady.cons rfl (fun K hK => ?_) (AllReady.cons rfl (fun K hK => ?_) AllReady.nil)
        · obtain ⟨v0, v1, v2, _, _, _, hvl⟩ := blk_cells KA.out
          go_simp
          refine hK _ _ ?_
          clear hK K v0 v1 v2 hvl
          try simp only [Act.put, List.setIfInBounds_toArray, List.set_cons_zero, List.set_cons_succ]
          refine wpAny_ready (rs := [7]) (by kernel_rfl) (by simp) ?_
          refine AllReady.cons rfl (fun K hK => ?_) AllReady.nil
          go_simp
          refine (pick_any c _ 3 _ CA (by omega) (by omega) (by omega)).mono ?_
          rintro e wp7 ⟨n7, ⟨l7, u7⟩, rfl, hcx, hgx⟩
          replace CA := Lib.hid hcx
          replace GA := Lib.hid (grownC_trans GA.out hgx)
          replace RA := Lib.hid (blk_grown RA.out hgx (by omega))
          replace KA := Lib.hid (blk_grown KA.out hgx (by omega))
          replace OA := Lib.hid (own_grown OA.out hgx (by omega))
          clear hcx hgx
          refine hK _ _ ?_
          clear hK K
          try simp only [Act.put, List.setIfInBounds_toArray, List.set_cons_zero, List.set_cons_succ]
          refine wpAny_take (i := 8) (v := ?_) rfl (by kernel_rfl) (by kernel_rfl) (by kernel_rfl) (fun _ _ _ h => h) (Or.inl ⟨by rfl, ?_⟩) ?_
          rotate_left
          · intro w
            go_simp
            try with_reducible rfl
          refine wpAny_ready (rs := [9]) (by kernel_rfl) (by simp) ?_
          refine AllReady.cons rfl (fun K hK => ?_) AllReady.nil
          go_simp
          obtain ⟨W1, hW1⟩ : ∃ W, W = wp7.alloc (.cells #[.int .i64 n3, .int .i64 n5, .int .i64 n7] 43) := ⟨_, rfl⟩
          have hbW : Below wp7.heap.size wp7 W1 := by rw [hW1]; exact below1 _ _
          have hnw : ∀ j u, [Value.int .i64 n3, .int .i64 n5, .int .i64 n7][j]? = some u → W1.cell? ((⟨wp7.heap.size, 0, none⟩ : Addr).add j) = some u := by rw [hW1]; exact three_new wp7 _ _ _ _
          rw [← hW1]
          clear hW1
          replace CA := Lib.hid (CA.out.below hbW)
          replace GA := Lib.hid (grownC_trans GA.out (grown_of_below hbW))
          replace RA := Lib.hid (RA.out.below hbW)
          replace KA := Lib.hid (KA.out.below hbW)
          replace OA := Lib.hid (own_below OA.out hbW)
          refine hK _ _ ?_
          clear hK K
          try simp only [Act.put, List.setIfInBounds_toArray, List.set_cons_zero, List.set_cons_succ]
          refine wpAny_ready (rs := [10]) (by kernel_rfl) (by simp) ?_
          refine AllReady.cons rfl (fun K hK => ?_) AllReady.nil
          refine step_append_lies _ rfl _ _ 26 rfl (w.heap.size + 1) 43 iN (.agg #[.int .i64 0, .int .i64 0, .int .i64 0]) 3 24 Try.underlying26 hiN hn0 hn1 hn2 rfl (by omega) _ z _ rfl OA.out ⟨wp7.heap.size, 0, none⟩ 1 1 [.int .i64 n3, .int .i64 n5, .int .i64 n7] rfl rfl hnw (by intro u hu; simp at hu; rcases hu with rfl | rfl | rfl <;> rfl) (by omega) (by unfold maxLen; omega) (by omega) (by have := RA.out.lt; omega) _ rfl ?_
          intro g4 cap4 w8 hown4 hg4 hat4 hlt4
          have hkw : Kept W1 w8 (fun i => (Value.slice A2 z c2).ownBlock = some i) := Kept.of_grown hg4 (fun g e => e)
          have hb8 := hkw.blk KA.out (fun e => hbo.out _ e rfl)
          have hgx : g4 ≠ bx := by
            rcases hat4 with q | q
            · exact hbo.out _ q
            · have := KA.out.lt; omega
          replace RA := Lib.hid (hkw.blk RA.out (fun e => by have := (OA.out.lt _ e).1; omega))
          replace CA := Lib.hid (CA.out.grown hg4 (fun g e => by have := (OA.out.lt g e).1; omega))
          replace GA := Lib.hid (grownC_any GA.out hg4 (fun g e => by have := (OA.out.lt g e).1; omega))
          obtain ⟨v0, v1, v2, f0, f1, f2, hvl⟩ := blk_cells hb8
          refine hK _ _ ?_
          clear hK K
          try simp only [Act.put, List.setIfInBounds_toArray]
          refine wpAny_ready (rs := [11]) (by kernel_rfl) (by simp) ?_
          refine AllReady.cons rfl (fun K hK => ?_) AllReady.nil
          go_simp
          refine hK _ _ ?_
          clear hK K
          try simp only [Act.put, List.setIfInBounds_toArray, List.set_cons_zero, List.set_cons_succ]
          refine wpAny_ready (rs := [12]) (by kernel_rfl) (by simp) ?_
          refine AllReady.cons rfl (fun K hK => ?_) AllReady.nil
          go_simp
          refine hK _ _ ?_
          clear hK K
          try simp only [Act.put, List.setIfInBounds_toArray, List.set_cons_zero, List.set_cons_succ]
          refine wpAny_done (by kernel_rfl) ?_ _
          have hKs : Kept w8 (w8.setCell ⟨bx, 1, none⟩ (.slice (some ⟨g4, 0, none⟩) (z + 1) cap4)) (fun i => i = bx) := Kept.set
          have KB : Hid (Blk (w8.setCell ⟨bx, 1, none⟩ (.slice (some ⟨g4, 0, none⟩) (z + 1) cap4)) bx 28 [.int .i64 a, .slice (some ⟨g4, 0, none⟩) (z + 1) cap4, .int .i64 r]) := Lib.hid (hb8.set 1 _)
          have RB := Lib.hid (hKs.blk RA.out (by omega))
          have OW : Hid ((w8.setCell ⟨bx, 1, none⟩ (.slice (some ⟨g4, 0, none⟩) (z + 1) cap4)).ownsRow (w.heap.size + 1) 43 3 (.slice (some ⟨g4, 0, none⟩) (z + 1) cap4) (z + 1) (ncells (xs ++ [⟨n3, n5, n7⟩]))) := Lib.hid (by rw [ncells_app]; exact hKs.own3 hown4 (fun g e h => by simp [Value.ownBlock] at e; omega))
          have CW : Hid (Cur (w8.setCell ⟨bx, 1, none⟩ (.slice (some ⟨g4, 0, none⟩) (z + 1) cap4)) c (K + 210)) := Lib.hid ((CA.out.mono (by omega)).grown hKs.grown (fun g e => by have := Option.some.inj e; omega))
          have GW : Hid (w.grownBy (w8.setCell ⟨bx, 1, none⟩ (.slice (some ⟨g4, 0, none⟩) (z + 1) cap4)) (some c)) := Lib.hid (grownC_any GA.out hKs.grown (fun g e => by have := Option.some.inj e; omega))
          have HXL : Hid ((xs ++ [(⟨n3, n5, n7⟩ : Nd)]).length = z + 1) := Lib.hid (by simp [HZ.out])
          clear v0 v1 v2 f0 f1 f2 hvl hKs hown4 hg4 hat4 hb8 hkw CA GA RA KA OA
          generalize w8.setCell ⟨bx, 1, none⟩ (.slice (some ⟨g4, 0, none⟩) (z + 1) cap4) = w9 at KB RB OW CW GW ⊢
          obtain ⟨p0, p1, p2, _, _, _, hbl⟩ := blk_cells KB.out
          obtain ⟨q0, q1, q2, y0, y1, y2, hRl⟩ := blk_cells RB.out
          go_wp2
          have hfin := dg_store RB.out (.int .i64 a) (.slice (some ⟨g4, 0, none⟩) (z + 1) cap4) (.int .i64 (r))
          have hOO := hfin.1.own3 OW.out (fun g e h => by have := (OW.out.lt g e).1; omega)
          have hCC := CW.out.grown hfin.1.grown (fun g e => by have := Option.some.inj e; omega)
          have hGG := grownC_any GW.out hfin.1.grown (fun g e => by have := Option.some.inj e; omega)
          obtain ⟨W', hW'⟩ : ∃ W', W' = (((w9.setCell ⟨w.heap.size, 0, none⟩ (.int .i64 a)).setCell ⟨w.heap.size, 1, none⟩ (.slice (some ⟨g4, 0, none⟩) (z + 1) cap4)).setCell ⟨w.heap.size, 2, none⟩ (.int .i64 (r))) := ⟨_, rfl⟩
          rw [← hW'] at hfin hOO hCC hGG ⊢
          obtain ⟨_, r0, r1, r2⟩ := hfin
          exact bodyPost_ret (v := .agg #[.int .i64 a, .slice (some ⟨g4, 0, none⟩) (z + 1) cap4, .int .i64 (r)]) (by simp [results, Try.results89, go_sem, r0, r1, r2]) rfl ⟨a, r, (some ⟨g4, 0, none⟩), cap4, (xs ++ [⟨n3, n5, n7⟩]), by rw [HXL.out], by first | omega | (rw [HXL.out]; omega), by omega, by omega, by first | exact own_baseN hOO (by omega) | (rw [HXL.out]; exact own_baseN hOO (by omega)), hCC.mono (by omega), hGG⟩
        · go_simp
          refine (pick_any c _ 3 _ CA (by omega) (by omega) (by omega)).mono ?_
          rintro e wp7 ⟨n7, ⟨l7, u7⟩, rfl, hcx, hgx⟩
          replace CA := Lib.hid hcx
          replace GA := Lib.hid (grownC_trans GA.out hgx)
          replace RA := Lib.hid (blk_grown RA.out hgx (by omega))
          replace KA := Lib.hid (blk_grown KA.out hgx (by omega))
          replace OA := Lib.hid (own_grown OA.out hgx (by omega))
          clear hcx hgx
          refine hK _ _ ?_
          clear hK K
          try simp only [Act.put, List.setIfInBounds_toArray, List.set_cons_zero, List.set_cons_succ]
          refine wpAny_take (i := 8) (v := ?_) rfl (by kernel_rfl) (by kernel_rfl) (by kernel_rfl) (fun _ _ _ h => h) (Or.inl ⟨by rfl, ?_⟩) ?_
          rotate_left
          · intro w
            go_simp
            try with_reducible rfl
          refine wpAny_ready (rs := [1, 9]) (by kernel_rfl) (by simp) ?_
          refine AllReady.cons rfl (fun K hK => ?_) (AllReady.cons rfl (fun K hK => ?_) AllReady.nil)
          · obtain ⟨v0, v1, v2, _, _, _, hvl⟩ := blk_cells KA.out
            go_simp
            refine hK _ _ ?_
            clear hK K v0 v1 v2 hvl
            try simp only [Act.put, List.setIfInBounds_toArray, List.set_cons_zero, List.set_cons_succ]
            refine wpAny_ready (rs := [9]) (by kernel_rfl) (by simp) ?_
            refine AllReady.cons rfl (fun K hK => ?_) AllReady.nil
            go_simp
            obtain ⟨W1, hW1⟩ : ∃ W, W = wp7.alloc (.cells #[.int .i64 n3, .int .i64 n5, .int .i64 n7] 43) := ⟨_, rfl⟩
            have hbW : Below wp7.heap.size wp7 W1 := by rw [hW1]; exact below1 _ _
            have hnw : ∀ j u, [Value.int .i64 n3, .int .i64 n5, .int .i64 n7][j]? = some u → W1.cell? ((⟨wp7.heap.size, 0, none⟩ : Addr).add j) = some u := by rw [hW1]; exact three_new wp7 _ _ _ _
            rw [← hW1]
            clear hW1
            replace CA := Lib.hid (CA.out.below hbW)
            replace GA := Lib.hid (grownC_trans GA.out (grown_of_below hbW))
            replace RA := Lib.hid (RA.out.below hbW)
            replace KA := Lib.hid (KA.out.below hbW)
            replace OA := Lib.hid (own_below OA.out hbW)
            refine hK _ _ ?_
            clear hK K
            try simp only [Act.put, List.setIfInBounds_toArray, List.set_cons_zero, List.set_cons_succ]
            refine wpAny_ready (rs := [10]) (by kernel_rfl) (by simp) ?_
            refine AllReady.cons rfl (fun K hK => ?_) AllReady.nil
            refine step_append_lies _ rfl _ _ 26 rfl (w.heap.size + 1) 43 iN (.agg #[.int .i64 0, .int .i64 0, .int .i64 0]) 3 24 Try.underlying26 hiN hn0 hn1 hn2 rfl (by omega) _ z _ rfl OA.out ⟨wp7.heap.size, 0, none⟩ 1 1 [.int .i64 n3, .int .i64 n5, .int .i64 n7] rfl rfl hnw (by intro u hu; simp at hu; rcases hu with rfl | rfl | rfl <;> rfl) (by omega) (by unfold maxLen; omega) (by omega) (by have := RA.out.lt; omega) _ rfl ?_
            intro g4 cap4 w8 hown4 hg4 hat4 hlt4
            have hkw : Kept W1 w8 (fun i => (Value.slice A2 z c2).ownBlock = some i) := Kept.of_grown hg4 (fun g e => e)
            have hb8 := hkw.blk KA.out (fun e => hbo.out _ e rfl)
            have hgx : g4 ≠ bx := by
              rcases hat4 with q | q
              · exact hbo.out _ q
              · have := KA.out.lt; omega
            replace RA := Lib.hid (hkw.blk RA.out (fun e => by have := (OA.out.lt _ e).1; omega))
            replace CA := Lib.hid (CA.out.grown hg4 (fun g e => by have := (OA.out.lt g e).1; omega))
            replace GA := Lib.hid (grownC_any GA.out hg4 (fun g e => by have := (OA.out.lt g e).1; omega))
            obtain ⟨v0, v1, v2, f0, f1, f2, hvl⟩ := blk_cells hb8
            refine hK _ _ ?_
            clear hK K
            try simp only [Act.put, List.setIfInBounds_toArray]
            refine wpAny_ready (rs := [11]) (by kernel_rfl) (by simp) ?_
            refine AllReady.cons rfl (fun K hK => ?_) AllReady.nil
            go_simp
            refine hK _ _ ?_
            clear hK K
            try simp only [Act.put, List.setIfInBounds_toArray, List.set_cons_zero, List.set_cons_succ]
            refine wpAny_ready (rs := [12]) (by kernel_rfl) (by simp) ?_
            refine AllReady.cons rfl (fun K hK => ?_) AllReady.nil
            go_simp
            refine hK _ _ ?_
            clear hK K
            try simp only [Act.put, List.setIfInBounds_toArray, List.set_cons_zero, List.set_cons_succ]
            refine wpAny_done (by kernel_rfl) ?_ _
            have hKs : Kept w8 (w8.setCell ⟨bx, 1, none⟩ (.slice (some ⟨g4, 0, none⟩) (z + 1) cap4)) (fun i => i = bx) := Kept.set
            have KB : Hid (Blk (w8.setCell ⟨bx, 1, none⟩ (.slice (some ⟨g4, 0, none⟩) (z + 1) cap4)) bx 28 [.int .i64 a, .slice (some ⟨g4, 0, none⟩) (z + 1) cap4, .int .i64 r]) := Lib.hid (hb8.set 1 _)
            have RB := Lib.hid (hKs.blk RA.out (by omega))
            have OW : Hid ((w8.setCell ⟨bx, 1, none⟩ (.slice (some ⟨g4, 0, none⟩) (z + 1) cap4)).ownsRow (w.heap.size + 1) 43 3 (.slice (some ⟨g4, 0, none⟩) (z + 1) cap4) (z + 1) (ncells (xs ++ [⟨n3, n5, n7⟩]))) := Lib.hid (by rw [ncells_app]; exact hKs.own3 hown4 (fun g e h => by simp [Value.ownBlock] at e; omega))
            have CW : Hid (Cur (w8.setCell ⟨bx, 1, none⟩ (.slice (some ⟨g4, 0, none⟩) (z + 1) cap4)) c (K + 210)) := Lib.hid ((CA.out.mono (by omega)).grown hKs.grown (fun g e => by have := Option.some.inj e; omega))
            have GW : Hid (w.grownBy (w8.setCell ⟨bx, 1, none⟩ (.slice (some ⟨g4, 0, none⟩) (z + 1) cap4)) (some c)) := Lib.hid (grownC_any GA.out hKs.grown (fun g e => by have := Option.some.inj e; omega))
            have HXL : Hid ((xs ++ [(⟨n3, n5, n7⟩ : Nd)]).length = z + 1) := Lib.hid (by simp [HZ.out])
            clear v0 v1 v2 f0 f1 f2 hvl hKs hown4 hg4 hat4 hb8 hkw CA GA RA KA OA
            generalize w8.setCell ⟨bx, 1, none⟩ (.slice (some ⟨g4, 0, none⟩) (z + 1) cap4) = w9 at KB RB OW CW GW ⊢
            obtain ⟨p0, p1, p2, _, _, _, hbl⟩ := blk_cells KB.out
            obtain ⟨q0, q1, q2, y0, y1, y2, hRl⟩ := blk_cells RB.out
            go_wp2
            have hfin := dg_store RB.out (.int .i64 a) (.slice (some ⟨g4, 0, none⟩) (z + 1) cap4) (.int .i64 (r))
            have hOO := hfin.1.own3 OW.out (fun g e h => by have := (OW.out.lt g e).1; omega)
            have hCC := CW.out.grown hfin.1.grown (fun g e => by have := Option.some.inj e; omega)
            have hGG := grownC_any GW.out hfin.1.grown (fun g e => by have := Option.some.inj e; omega)
            obtain ⟨W', hW'⟩ : ∃ W', W' = (((w9.setCell ⟨w.heap.size, 0, none⟩ (.int .i64 a)).setCell ⟨w.heap.size, 1, none⟩ (.slice (some ⟨g4, 0, none⟩) (z + 1) cap4)).setCell ⟨w.heap.size, 2, none⟩ (.int .i64 (r))) := ⟨_, rfl⟩
            rw [← hW'] at hfin hOO hCC hGG ⊢
            obtain ⟨_, r0, r1, r2⟩ := hfin
            exact bodyPost_ret (v := .agg #[.int .i64 a, .slice (some ⟨g4, 0, none⟩) (z + 1) cap4, .int .i64 (r)]) (by simp [results, Try.results89, go_sem, r0, r1, r2]) rfl ⟨a, r, (some ⟨g4, 0, none⟩), cap4, (xs ++ [⟨n3, n5, n7⟩]), by rw [HXL.out], by first | omega | (rw [HXL.out]; omega), by omega, by omega, by first | exact own_baseN hOO (by omega) | (rw [HXL.out]; exact own_baseN hOO (by omega)), hCC.mono (by omega), hGG⟩
          · go_simp
            obtain ⟨W1, hW1⟩ : ∃ W, W = wp7.alloc (.cells #[.int .i64 n3, .int .i64 n5, .int .i64 n7] 43) := ⟨_, rfl⟩
            have hbW : Below wp7.heap.size wp7 W1 := by rw [hW1]; exact below1 _ _
            have hnw : ∀ j u, [Value.int .i64 n3, .int .i64 n5, .int .i64 n7][j]? = some u → W1.cell? ((⟨wp7.heap.size, 0, none⟩ : Addr).add j) = some u := by rw [hW1]; exact three_new wp7 _ _ _ _
            rw [← hW1]
            clear hW1
            replace CA := Lib.hid (CA.out.below hbW)
            replace GA := Lib.hid (grownC_trans GA.out (grown_of_below hbW))
            replace RA := Lib.hid (RA.out.below hbW)
            replace KA := Lib.hid (KA.out.below hbW)
            replace OA := Lib.hid (own_below OA.out hbW)
            refine hK _ _ ?_
            clear hK K
            try simp only [Act.put, List.setIfInBounds_toArray, List.set_cons_zero, List.set_cons_succ]
            refine wpAny_ready (rs := [1]) (by kernel_rfl) (by simp) ?_
            refine AllReady.cons rfl (fun K hK => ?_) AllReady.nil
            obtain ⟨v0, v1, v2, _, _, _, hvl⟩ := blk_cells KA.out
            go_simp
            refine hK _ _ ?_
            clear hK K v0 v1 v2 hvl
            try simp only [Act.put, List.setIfInBounds_toArray, List.set_cons_zero, List.set_cons_succ]
            refine wpAny_ready (rs := [10]) (by kernel_rfl) (by simp) ?_
            refine AllReady.cons rfl (fun K hK => ?_) AllReady.nil
            refine step_append_lies _ rfl _ _ 26 rfl (w.heap.size + 1) 43 iN (.agg #[.int .i64 0, .int .i64 0, .int .i64 0]) 3 24 Try.underlying26 hiN hn0 hn1 hn2 rfl (by omega) _ z _ rfl OA.out ⟨wp7.heap.size, 0, none⟩ 1 1 [.int .i64 n3, .int .i64 n5, .int .i64 n7] rfl rfl hnw (by intro u hu; simp at hu; rcases hu with rfl | rfl | rfl <;> rfl) (by omega) (by unfold maxLen; omega) (by omega) (by have := RA.out.lt; omega) _ rfl ?_
            intro g4 cap4 w8 hown4 hg4 hat4 hlt4
            have hkw : Kept W1 w8 (fun i => (Value.slice A2 z c2).ownBlock = some i) := Kept.of_grown hg4 (fun g e => e)
            have hb8 := hkw.blk KA.out (fun e => hbo.out _ e rfl)
            have hgx : g4 ≠ bx := by
              rcases hat4 with q | q
              · exact hbo.out _ q
              · have := KA.out.lt; omega
            replace RA := Lib.hid (hkw.blk RA.out (fun e => by have := (OA.out.lt _ e).1; omega))
            replace CA := Lib.hid (CA.out.grown hg4 (fun g e => by have := (OA.out.lt g e).1; omega))
            replace GA := Lib.hid (grownC_any GA.out hg4 (fun g e => by have := (OA.out.lt g e).1; omega))
            obtain ⟨v0, v1, v2, f0, f1, f2, hvl⟩ := blk_cells hb8
            refine hK _ _ ?_
            clear hK K
            try simp only [Act.put, List.setIfInBounds_toArray]
            refine wpAny_ready (rs := [11]) (by kernel_rfl) (by simp) ?_
            refine AllReady.cons rfl (fun K hK => ?_) AllReady.nil
            go_simp
            refine hK _ _ ?_
            clear hK K
            try simp only [Act.put, List.setIfInBounds_toArray, List.set_cons_zero, List.set_cons_succ]
            refine wpAny_ready (rs := [12]) (by kernel_rfl) (by simp) ?_
            refine AllReady.cons rfl (fun K hK => ?_) AllReady.nil
            go_simp
            refine hK _ _ ?_
            clear hK K
            try simp only [Act.put, List.setIfInBounds_toArray, List.set_cons_zero, List.set_cons_succ]
            refine wpAny_done (by kernel_rfl) ?_ _
            have hKs : Kept w8 (w8.setCell ⟨bx, 1, none⟩ (.slice (some ⟨g4, 0, none⟩) (z + 1) cap4)) (fun i => i = bx) := Kept.set
            have KB : Hid (Blk (w8.setCell ⟨bx, 1, none⟩ (.slice (some ⟨g4, 0, none⟩) (z + 1) cap4)) bx 28 [.int .i64 a, .slice (some ⟨g4, 0, none⟩) (z + 1) cap4, .int .i64 r]) := Lib.hid (hb8.set 1 _)
            have RB := Lib.hid (hKs.blk RA.out (by omega))
            have OW : Hid ((w8.setCell ⟨bx, 1, none⟩ (.slice (some ⟨g4, 0, none⟩) (z + 1) cap4)).ownsRow (w.heap.size + 1) 43 3 (.slice (some ⟨g4, 0, none⟩) (z + 1) cap4) (z + 1) (ncells (xs ++ [⟨n3, n5, n7⟩]))) := Lib.hid (by rw [ncells_app]; exact hKs.own3 hown4 (fun g e h => by simp [Value.ownBlock] at e; omega))
            have CW : Hid (Cur (w8.setCell ⟨bx, 1, none⟩ (.slice (some ⟨g4, 0, none⟩) (z + 1) cap4)) c (K + 210)) := Lib.hid ((CA.out.mono (by omega)).grown hKs.grown (fun g e => by have := Option.some.inj e; omega))
            have GW : Hid (w.grownBy (w8.setCell ⟨bx, 1, none⟩ (.slice (some ⟨g4, 0, none⟩) (z + 1) cap4)) (some c)) := Lib.hid (grownC_any GA.out hKs.grown (fun g e => by have := Option.some.inj e; omega))
            have HXL : Hid ((xs ++ [(⟨n3, n5, n7⟩ : Nd)]).length = z + 1) := Lib.hid (by simp [HZ.out])
            clear v0 v1 v2 f0 f1 f2 hvl hKs hown4 hg4 hat4 hb8 hkw CA GA RA KA OA
            generalize w8.setCell ⟨bx, 1, none⟩ (.slice (some ⟨g4, 0, none⟩) (z + 1) cap4) = w9 at KB RB OW CW GW ⊢
            obtain ⟨p0, p1, p2, _, _, _, hbl⟩ := blk_cells KB.out
            obtain ⟨q0, q1, q2, y0, y1, y2, hRl⟩ := blk_cells RB.out
            go_wp2
            have hfin := dg_store RB.out (.int .i64 a) (.slice (some ⟨g4, 0, none⟩) (z + 1) cap4) (.int .i64 (r))
            have hOO := hfin.1.own3 OW.out (fun g e h => by have := (OW.out.lt g e).1; omega)
            have hCC := CW.out.grown hfin.1.grown (fun g e => by have := Option.some.inj e; omega)
            have hGG := grownC_any GW.out hfin.1.grown (fun g e => by have := Option.some.inj e; omega)
            obtain ⟨W', hW'⟩ : ∃ W', W' = (((w9.setCell ⟨w.heap.size, 0, none⟩ (.int .i64 a)).setCell ⟨w.heap.size, 1, none⟩ (.slice (some ⟨g4, 0, none⟩) (z + 1) cap4)).setCell ⟨w.heap.size, 2, none⟩ (.int .i64 (r))) := ⟨_, rfl⟩
            rw [← hW'] at hfin hOO hCC hGG ⊢
            obtain ⟨_, r0, r1, r2⟩ := hfin
            exact bodyPost_ret (v := .agg #[.int .i64 a, .slice (some ⟨g4, 0, none⟩) (z + 1) cap4, .int .i64 (r)]) (by simp [results, Try.results89, go_sem, r0, r1, r2]) rfl ⟨a, r, (some ⟨g4, 0, none⟩), cap4, (xs ++ [⟨n3, n5, n7⟩]), by rw [HXL.out], by first | omega | (rw [HXL.out]; omega), by omega, by omega, by first | exact own_baseN hOO (by omega) | (rw [HXL.out]; exact own_baseN hOO (by omega)), hCC.mono (by omega), hGG⟩
  have HXL := HZ
  have hn0 : (n1 == 0) = false := by simp [h0]
  have hn1' : (n1 == 1) = false := by simp [h1]
  have KB := K4
  have RB := R4
  have OW := O4
  have CW : Hid (Cur w4 c (K + 210)) := Lib.hid (C4.out.mono (by omega))
  have GW := G4
  obtain ⟨p0, p1, p2, _, _, _, hbl⟩ := blk_cells KB.out
  obtain ⟨q0, q1, q2, y0, y1, y2, hRl⟩ := blk_cells RB.out
  go_wp2
  have hfin := dg_store RB.out (.int .i64 a) (.slice A2 z c2) (.int .i64 (r))
  have hOO := hfin.1.own3 OW.out (fun g e h => by have := (OW.out.lt g e).1; omega)
  have hCC := CW.out.grown hfin.1.grown (fun g e => by have := Option.some.inj e; omega)
  have hGG := grownC_any GW.out hfin.1.grown (fun g e => by have := Option.some.inj e; omega)
  obtain ⟨W', hW'⟩ : ∃ W', W' = (((w4.setCell ⟨w.heap.size, 0, none⟩ (.int .i64 a)).setCell ⟨w.heap.size, 1, none⟩ (.slice A2 z c2)).setCell ⟨w.heap.size, 2, none⟩ (.int .i64 (r))) := ⟨_, rfl⟩
  rw [← hW'] at hfin hOO hCC hGG ⊢
  obtain ⟨_, r0, r1, r2⟩ := hfin
  exact bodyPost_ret (v := .agg #[.int .i64 a, .slice A2 z c2, .int .i64 (r)]) (by simp [results, Try.results89, go_sem, r0, r1, r2]) rfl ⟨a, r, A2, c2, xs, by rw [HXL.out], by first | omega | (rw [HXL.out]; omega), by omega, by omega, by first | exact own_baseN hOO (by omega) | (rw [HXL.out]; exact own_baseN hOO (by omega)), hCC.mono (by omega), hGG⟩
end Go.Proofs.Ytklcfbjaodildaa
