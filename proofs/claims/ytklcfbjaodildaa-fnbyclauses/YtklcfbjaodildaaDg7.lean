/-
  The program's OnesOf: the number of models moves down through a map.
-/
import Derived.Test.YtklcfbjaodildaaDg6
namespace Go.Proofs.Ytklcfbjaodildaa
open Go.ChangeShapes Go.WideShapes Go.ChangeAt Go.RowKit Go.Maps

theorem ikey (k : Nat) (h : k ≤ 1000) : keyOf Try.prog 3 (.int .i64 k) = some (.int .i64 k) := keyOf_int_mk Try.underlying3 (WalkArith.wf_i64 (by omega))
/-- the keys of a map are numbers up to a bound -/
def Upto (D : DataW Unit) (b : Nat) : Prop := ∀ kl, Maps.has D kl = true → ∃ k : Nat, kl = .int .i64 k ∧ k ≤ b
set_option maxRecDepth 100000 in
set_option maxHeartbeats 8000000 in
theorem lastOf_any (B n b : Nat) (D : DataW Unit) (w : World) (ho : Hid (w.ownsMap Try.prog 3 (plainElem Try.prog 3) B n D)) (hu : Hid (Upto D b)) (_hb1 : b ≤ 1000) :
    Calls Try.prog 86 #[.map (some B)] w fun e w' => ∃ L : Nat, e = .returned (.int .i64 L) ∧ L ≤ b ∧ (∀ k : Nat, Maps.has D (.int .i64 k) = true → k ≤ L) ∧ Below w.heap.size w w' := by
  have hBl := ho.out.lt
  go_enter Try.func86, Try.ntmps86
  go_wp2_with (at_range; refine wpList_range_own _ rfl _ 106 rfl 3 3 int_law Try.underlying106 _ B n D rfl ho.out ?_; intro w0 hrg0 hg0 hs0)
  go_frame
  have R0 := Lib.hid hrg0
  have B0 : Hid (Below w.heap.size w w0) := Lib.hid ((Below.refl w.heap.size w).grown hg0 (Nat.le_refl _) (by simp))
  clear hrg0 hg0 hs0
  go_loopw [3] (fun x wr => ∃ L : Nat, x = .int .i64 L ∧ L ≤ b ∧ ∃ left cnt, wr.ranges Try.prog 3 (plainElem Try.prog 3) B w.heap.size n D left cnt ∧ (∀ kl, left kl = true → Maps.has D kl = true) ∧ (∀ k : Nat, Maps.has D (.int .i64 k) = true → left (.int .i64 k) = true ∨ k ≤ L) ∧ Below w.heap.size w wr) (fun _ wr => wr.rangeLeft B w.heap.size)
  case atStart => exact ⟨0, rfl, Nat.zero_le _, _, _, R0.out, fun kl h => h, fun k h => .inl h, B0.out⟩
  case round =>
    obtain ⟨L, rfl, hLb, left, cnt, hrg, hlf, hall, hb⟩ := hrel
    have RG := Lib.hid hrg
    have LF := Lib.hid hlf
    have AL := Lib.hid hall
    have BB := Lib.hid hb
    clear hrg hlf hall hb R0 B0
    go_wp2_with (at_next; refine wpList_next_ranges_ii _ rfl _ rfl 3 3 .i64 .i64 int_law Try.underlying3 Try.underlying3 B w.heap.size n _ _ _ rfl RG.out ?_ ?_)
    · intro hc0 hl0
      have HL0 := Lib.hid hl0
      clear hc0 hl0
      go_wp2
      go_ret
      exact ⟨L, rfl, hLb, fun k h => by rcases AL.out k h with q | q; · rw [HL0.out] at q; cases q
                                        · exact q, BB.out⟩
    · intro x c w2 cnt2 hwx hwc hlx hat hrg2 hlt2 hg2 hs2 hen
      obtain ⟨k, hk, hkb⟩ := hu.out _ (LF.out _ hlx)
      injection hk with _ hk
      subst hk
      have RG2 := Lib.hid hrg2
      have HLT := Lib.hid hlt2
      have BB2 := Lib.hid (BB.out.grown hg2 (by have := BB.out.size; omega) (fun j hj => by have := Option.some.inj hj; omega))
      clear hrg2 hlt2 hg2 hs2 hat hwx hwc hlx
      go_wp2
      refine ⟨⟨max L k, ?_, by omega, _, _, RG2.out, fun kl h => by simp at h; exact LF.out kl h.1, fun k' h => ?_, BB2.out⟩, ?_⟩
      · congr 1
        split <;> omega
      · by_cases e : k' = k
        · right; omega
        · rcases AL.out k' h with q | q
          · left
            have hne : (Lit.int .i64 (k' : Int)) ≠ (Lit.int .i64 (k : Int)) := fun h => by injection h with _ h; omega
            show (left _ && !(Lit.int .i64 (k' : Int)).sameKey (Lit.int .i64 (k : Int))) = true
            rw [q, sameKey_ne hne]
            rfl
          · right; omega
      · rw [RG2.out.left_eq, RG.out.left_eq]
        exact HLT.out

/-- the map holds, for each number, how many models stand there -/
def IMap (w : World) (B b : Nat) (mm : Nat → Nat) : Prop :=
  ∃ (D : DataW Unit) (n : Nat), w.ownsMap Try.prog 3 (plainElem Try.prog 3) B n D ∧ n + 3 * b ≤ 1000 ∧ Upto D b ∧ ∀ k : Nat, k ≤ 100 → D.atKey (.int .i64 k) (.lit (.int .i64 0)) = .lit (.int .i64 (mm k))
theorem IMap.zero {D : DataW Unit} {mm : Nat → Nat} (h : ∀ k : Nat, k ≤ 100 → D.atKey (.int .i64 k) (.lit (.int .i64 0)) = .lit (.int .i64 (mm k))) {k : Nat} (hk : k ≤ 100) (hn : Maps.has D (.int .i64 k) = false) : mm k = 0 := by
  have h1 := h k hk
  rw [atKey_of_not_has hn] at h1
  injection h1 with h1
  injection h1 with _ h1
  omega
theorem isKeyInt (k : Int) : WideAt.IsKeyLit (.int .i64 k) := trivial
theorem at_put {D : DataW Unit} {mm : Nat → Nat} (hD : Maps.IsMap D) (h : ∀ k : Nat, k ≤ 100 → D.atKey (.int .i64 k) (.lit (.int .i64 0)) = .lit (.int .i64 (mm k))) (j c : Nat) : ∀ k : Nat, k ≤ 100 → (D.put (.int .i64 j) (.lit (.int .i64 ((mm j : Int) + (c : Int))))).atKey (.int .i64 k) (.lit (.int .i64 0)) = .lit (.int .i64 (addAt mm j c k)) := by
  intro k hk
  by_cases e : k = j
  · subst e
    rw [atKey_put_same hD (isKeyInt _)]
    simp [addAt]
  · have hne : (Lit.int .i64 (k : Int)) ≠ (Lit.int .i64 (j : Int)) := fun h => by injection h with _ h; omega
    rw [atKey_put_other hne, h k hk]
    simp [addAt, e]
theorem at_del {D : DataW Unit} {mm : Nat → Nat} (h : ∀ k : Nat, k ≤ 100 → D.atKey (.int .i64 k) (.lit (.int .i64 0)) = .lit (.int .i64 (mm k))) (j : Nat) : ∀ k : Nat, k ≤ 100 → (D.del (.int .i64 j)).atKey (.int .i64 k) (.lit (.int .i64 0)) = .lit (.int .i64 (drop0 mm j k)) := by
  intro k hk
  by_cases e : k = j
  · subst e
    rw [atKey_del_same]
    simp [drop0]
  · have hne : (Lit.int .i64 (k : Int)) ≠ (Lit.int .i64 (j : Int)) := fun h => by injection h with _ h; omega
    rw [atKey_del_other hne, h k hk]
    simp [drop0, e]
theorem upto_put {D : DataW Unit} {b j : Nat} (h : Upto D b) (hj : j ≤ b) (d : DataW Unit) : Upto (D.put (.int .i64 j) d) b := by
  intro kl hk
  by_cases e : kl = .int .i64 j
  · exact ⟨j, e, hj⟩
  · rw [has_put_other e] at hk
    exact h kl hk
theorem upto_del {D : DataW Unit} {b : Nat} (h : Upto D b) : Upto (D.del (.int .i64 b)) (b - 1) := by
  intro kl hk
  by_cases e : kl = .int .i64 b
  · subst e
    rw [has_del_same] at hk
    cases hk
  · rw [has_del_other e] at hk
    obtain ⟨k, rfl, hkb⟩ := h kl hk
    refine ⟨k, rfl, ?_⟩
    have : k ≠ b := fun h => e (by rw [h])
    omega
theorem at_start (r c : Nat) : ∀ k : Nat, k ≤ 100 → ((DataW.map [] : DataW Unit).put (.int .i64 r) (.lit (.int .i64 c))).atKey (.int .i64 k) (.lit (.int .i64 0)) = .lit (.int .i64 ((if k = r then c else 0 : Nat) : Int)) := by
  intro k hk
  by_cases e : k = r
  · subst e
    rw [atKey_put_same isMap_empty (isKeyInt _)]
    simp
  · have hne : (Lit.int .i64 (k : Int)) ≠ (Lit.int .i64 (r : Int)) := fun h => by injection h with _ h; omega
    rw [atKey_put_other hne, if_neg e]
    rfl
theorem upto_start (r : Nat) (d : DataW Unit) : Upto ((DataW.map [] : DataW Unit).put (.int .i64 r) d) r := by
  intro kl hk
  by_cases e : kl = .int .i64 r
  · exact ⟨r, e, Nat.le_refl _⟩
  · rw [has_put_other e] at hk
    simp [Maps.has] at hk
/-- what OnesOf answers -/
def rOnes (a : Int) (ns : List Nd) (r : Int) (x : Int) (ok : Bool) : Prop := ok = goodDB a ns r ∧ x = if ok then ((tabL a.toNat ns r).count true : Int) else 0
set_option maxRecDepth 100000 in
set_option maxHeartbeats 8000000 in
theorem implOnes_any (a r : Int) (A : Option Addr) (n c : Nat) (ns : List Nd) (w : World) (x : Int) (ok : Bool) (HR : Hid (rOnes a ns r x ok)) (hl : Hid (NLies w A ns)) (HX : Hid (ns.length = n)) (hn : n ≤ 1048576) :
    Calls Try.prog 19 #[.agg #[.int .i64 a, .slice A n c, .int .i64 r]] w fun e w' => e = .returned (.tuple #[.int .i64 x, .bool ok]) ∧ Below w.heap.size w w' := by
  have L1 : Hid (NLies (w.alloc (.cells #[.int .i64 a, .slice A n c, .int .i64 r] 28)) A ns) := Lib.hid (hl.out.below (below1 _ _))
  have K0 : Hid (Blk (w.alloc (.cells #[.int .i64 a, .slice A n c, .int .i64 r] 28)) w.heap.size 28 [.int .i64 a, .slice A n c, .int .i64 r]) := Lib.hid (heap_alloc_new w _)
  cases hg : goodDB a ns r
  · have E : Hid (x = 0 ∧ ok = false) := Lib.hid (by obtain ⟨h1, h2⟩ := HR.out; rw [hg] at h1; rw [h1] at h2; exact ⟨h2, h1⟩)
    go_enter Try.func19, Try.ntmps19
    go_wp2_with (go_at_call 85; refine (implGoodD_any a r A n c ns _ L1 HX hn).mono ?_; rintro e w1 ⟨rfl, hb1⟩; rw [hg]; have B1 := Lib.hid (Below.tr (below1 w _) hb1); clear hb1)
    go_ret2
    exact ⟨ret_ib E.out.1.symm E.out.2.symm, B1.out⟩
  have hgd := goodDB_true.1 hg
  obtain ⟨p, rfl⟩ : ∃ p : Nat, a = p := ⟨a.toNat, by have := hgd.1; omega⟩
  obtain ⟨s, rfl⟩ : ∃ s : Nat, r = s := ⟨r.toNat, by have := hgd.2.2.1.2.1; omega⟩
  have hp6 : p ≤ 6 := by have := hgd.2.1; omega
  have hlen := hgd.len
  have hsl : s < n + 2 := by have := hgd.2.2.1.2.2; have := HX.out; omega
  have hn63 : n ≤ 63 := by have := HX.out; omega
  have AH := Lib.hid hgd.2.2.1.ahead
  have RI : Hid (Rises p ns) := Lib.hid hgd.facts.1
  have E : Hid (x = (wg p ns (s : Int) : Int) ∧ ok = true) := Lib.hid (by
    obtain ⟨h1, h2⟩ := HR.out
    rw [hg] at h1
    rw [h1] at h2
    refine ⟨?_, h1⟩
    have := hgd.wg_root
    rw [show ((p : Int)).toNat = p by omega] at this
    rw [this]
    simpa using h2)
  have MV0 : Hid (Mv p ns s s (mm0 p s)) := Lib.hid (Mv.start hgd)
  obtain ⟨q, hq⟩ : ∃ q, 2 ^ p = q := ⟨_, rfl⟩
  have HQ := Lib.hid hq
  have hq64 : q ≤ 64 := by rw [← hq]; exact pow_le6 hp6
  obtain ⟨hsh2, hsh3⟩ := wrap_pow hq hp6
  have hmm := @run_makeMap Try.prog
  clear hq hgd
  go_enter Try.func19, Try.ntmps19
  go_wp2_with (go_at_call 85; refine (implGoodD_any p s A n c ns _ L1 HX hn).mono ?_; rintro e w1 ⟨rfl, hb1⟩; rw [hg]; have B1 := Lib.hid (Below.tr (below1 w _) hb1); have L2 := Lib.hid (L1.out.below hb1); have K1 := Lib.hid (K0.out.below hb1); clear hb1)
  obtain ⟨t0, t1, t2, _, _, _, hwl⟩ := blk_cells K1.out
  refine wp_region_held_drew (S := fun W => W.cell? ⟨w.heap.size, 0, none⟩ = some (.int .i64 p) ∧ W.cell? ⟨w.heap.size, 2, none⟩ = some (.int .i64 s)) (by kernel_rfl) ?_ (fun hHeld => ?_)
  · exact ⟨t0, t2⟩
  refine wpAnyH_take (i := 1) (v := ?_) rfl (by kernel_rfl) (by kernel_rfl) (by kernel_rfl) (fun _ _ _ h => h) (Or.inl ⟨by rfl, ?_⟩) (by assumption) ?_
  rotate_left
  · intro W hSw
    try dsimp only at hSw
    go_simp
    try with_reducible rfl
  simp only [Act.put, List.setIfInBounds_toArray]
  refine wpAnyH_take (i := 2) (v := ?_) rfl (by kernel_rfl) (by kernel_rfl) (by kernel_rfl) (fun _ _ _ h => h) (Or.inl ⟨by rfl, ?_⟩) (by assumption) ?_
  rotate_left
  · intro W hSw
    try dsimp only at hSw
    go_simp
    try with_reducible rfl
  simp only [Act.put]
  refine wpAnyH_take (i := 3) (v := ?_) rfl (by kernel_rfl) (by kernel_rfl) (by kernel_rfl) (fun _ _ _ h => h) (Or.inl ⟨by rfl, ?_⟩) (by assumption) ?_
  rotate_left
  · intro W hSw
    try dsimp only at hSw
    go_simp
    try with_reducible rfl
  simp only [Act.put]
  refine wpAnyH_take (i := 4) (v := ?_) rfl (by kernel_rfl) (by kernel_rfl) (by kernel_rfl) (fun _ _ _ h => h) (Or.inl ⟨by rfl, ?_⟩) (by assumption) ?_
  rotate_left
  · intro W hSw
    try dsimp only at hSw
    go_simp
    try with_reducible rfl
  simp only [Act.put]
  refine wpAnyH_take (i := 5) (v := ?_) rfl (by kernel_rfl) (by kernel_rfl) (by kernel_rfl) (fun _ _ _ h => h) (Or.inl ⟨by rfl, ?_⟩) (by assumption) ?_
  rotate_left
  · intro W hSw
    try dsimp only at hSw
    go_simp
    try with_reducible rfl
  simp only [Act.put]
  obtain ⟨wd, hwd⟩ : ∃ wd, wd = w1.drew := ⟨_, rfl⟩
  have hBd : Below w.heap.size w wd := by rw [hwd]; exact B1.out.drew
  have hBd1 : Below w1.heap.size w1 wd := by rw [hwd]; exact (Below.refl _ _).drew
  rw [← hwd] at hHeld ⊢
  clear hwd
  have hwl0 : w.heap.size < wd.heap.size := Nat.lt_of_lt_of_le hwl hBd1.size
  refine wpAnyH_ready (rs := [0]) (by kernel_rfl) (by simp) ?_
  refine AllReadyH.cons rfl (fun K hK => ?_) AllReadyH.nil
  go_simp
  obtain ⟨W1, hW1⟩ : ∃ W, W = wd.alloc (.map #[] 0) := ⟨_, rfl⟩
  have ho1 : W1.ownsMap (H := Unit) Try.prog 3 (plainElem Try.prog 3) wd.heap.size 0 (.map []) := by rw [hW1]; exact World.ownsMap_made _ _ _ _
  have hb1 : Below wd.heap.size wd W1 := by rw [hW1]; exact below1 _ _
  rw [← hW1]
  clear hW1
  refine hK.out _ _ ⟨((bcell hb1).1 _ _ hwl0).trans hHeld.1, ((bcell hb1).1 _ _ hwl0).trans hHeld.2⟩ (fun hH1 => ?_)
  clear hK K
  try simp only [Act.put, List.setIfInBounds_toArray, List.set_cons_zero, List.set_cons_succ]
  obtain ⟨W2, hrun, ho2, hg2⟩ := ho1.update int_law Try.underlying106 (by unfold maxLen; omega) (key := .int .i64 s) (val := .int .i64 q) (ikey s (by omega)) (plainElem_int Try.underlying3 (WalkArith.wf_i64 (by omega)))
  refine wpAnyH_ready (rs := [6]) (by kernel_rfl) (by simp) ?_
  refine AllReadyH.cons rfl (fun K hK => ?_) AllReadyH.nil
  go_simp
  have hs1 := hb1.size
  have hlo : w.heap.size < W1.heap.size := Nat.lt_of_lt_of_le hwl0 hs1
  have hB2 : Below w.heap.size w W2 := (Below.tr hBd hb1).grown hg2 (by omega) (fun j hj => by have := Option.some.inj hj; omega)
  have hk2 : Kept w1 W2 (fun i => i = wd.heap.size) := ((Kept.of_below hBd1).trans (Kept.of_below hb1)).trans (Kept.of_grown hg2 (fun g e => (Option.some.inj e).symm))
  have hKd := hk2.blk K1.out (by omega)
  obtain ⟨v0, v1, v2, _, _, _, hwl2⟩ := blk_cells hKd
  refine hK.out _ _ ⟨v0, v2⟩ (fun hH2 => ?_)
  clear hK K
  try simp only [Act.put, List.setIfInBounds_toArray, List.set_cons_zero, List.set_cons_succ]
  refine wpAnyH_take (i := 7) (v := ?_) rfl (by kernel_rfl) (by kernel_rfl) (by kernel_rfl) (fun _ _ _ h => h) (Or.inl ⟨by rfl, ?_⟩) (by assumption) ?_
  rotate_left
  · intro W hSw
    try dsimp only at hSw
    go_simp
    try with_reducible rfl
  simp only [Act.put, List.setIfInBounds_toArray]
  refine wpAnyH_ready (rs := [8]) (by kernel_rfl) (by simp) ?_
  refine AllReadyH.cons rfl (fun K hK => ?_) AllReadyH.nil
  go_simp
  refine hK.out _ _ ⟨v0, v2⟩ (fun hH3 => ?_)
  clear hK K
  try simp only [Act.put, List.setIfInBounds_toArray, List.set_cons_zero, List.set_cons_succ]
  refine wpAnyH_done (by kernel_rfl) ?_ _
  obtain ⟨Bm, hBm⟩ : ∃ Bm, Bm = wd.heap.size := ⟨_, rfl⟩
  have hBmw : w.heap.size < Bm := by omega
  have IM0 : Hid (IMap W2 Bm s (mm0 p s)) := Lib.hid (by
    rw [hBm]
    refine ⟨_, _, ho2, by omega, upto_start _ _, fun k hk => ?_⟩
    rw [at_start s q k hk]
    unfold mm0
    rw [HQ.out])
  have B2 := Lib.hid hB2
  have K2 := Lib.hid hKd
  rw [← hBm]
  clear hBm hH1 hH2 hH3 hHeld hrun ho1 ho2 hg2 hb1 hBd hBd1 hB2 hk2 hKd t0 t1 t2 hs1 hlo hwl0
  go_wp2_with fail
  go_loopw [5] (fun x wr => ∃ k : Nat, x = .int .i64 k ∧ k ≤ s ∧ ∃ mm, Mv p ns s k mm ∧ IMap wr Bm k mm ∧ Below w.heap.size w wr ∧ Blk wr w.heap.size 28 [.int .i64 p, .slice A n c, .int .i64 s]) (fun x _ => (intOf x).toNat)
  case atStart => exact ⟨s, rfl, Nat.le_refl _, _, MV0.out, IM0.out, B2.out, K2.out⟩
  case round =>
    obtain ⟨k, rfl, hks, mm, hmv, him, hb, hbk⟩ := hrel
    obtain ⟨D, m, ho, hm3, hup, hat⟩ := him
    have MV := Lib.hid hmv
    have O0 := Lib.hid ho
    have UP := Lib.hid hup
    have AT := Lib.hid hat
    have BB := Lib.hid hb
    have KK := Lib.hid hbk
    have hBml := ho.lt
    obtain ⟨t0, t1, t2, _, _, _, hwl3⟩ := blk_cells hbk
    clear hmv ho hup hat hb hbk IM0 MV0 B2 K2 v0 v1 v2
    by_cases hk2 : 2 ≤ k
    · obtain ⟨j, hj⟩ : ∃ j : Nat, k = j + 2 := ⟨k - 2, by omega⟩
      obtain ⟨x, hx⟩ : ∃ x, ns[j]? = some x := ⟨_, List.getElem?_eq_getElem (by have := HX.out; omega)⟩
      obtain ⟨a1, a2, a3, a4⟩ := AH.out j x hx
      obtain ⟨b, off, hA, hbl, ha⟩ := (hl.out.below BB.out) j x hx
      obtain ⟨e0, e1, e2⟩ := ha
      obtain ⟨l, hxl⟩ : ∃ l : Nat, x.l = l := ⟨x.l.toNat, by omega⟩
      obtain ⟨h, hxh⟩ : ∃ h : Nat, x.h = h := ⟨x.h.toNat, by omega⟩
      have MV2 := Lib.hid (MV.out.step AH.out RI.out (by omega) (by rw [show k - 2 = j by omega]; exact hx))
      rw [hxl] at e1 a1 a2
      rw [hxh] at e2 a3 a4
      rw [show x.l.toNat = l by omega, show x.h.toNat = h by omega] at MV2
      obtain ⟨xv, hxv⟩ : ∃ xv, x.v = xv := ⟨_, rfl⟩
      rw [hxv] at e0
      subst hA
      clear hx hxl hxh hxv
      obtain ⟨z, hz⟩ : ∃ z, mm k = z := ⟨_, rfl⟩
      have hz64 : z ≤ 64 := by have := MV.out.le k; have := HQ.out; omega
      obtain ⟨hf, hhf⟩ : ∃ hf, z / 2 = hf := ⟨_, rfl⟩
      have htd : Int.tdiv (z : Int) 2 = (hf : Int) := by rw [← hhf, Int.tdiv_eq_ediv_of_nonneg (by omega)]; omega
      have htd2 : (z : Int) / 2 = (hf : Int) := by rw [← hhf]; omega
      have hf64 : hf ≤ 64 := by omega
      obtain ⟨y1, hy1⟩ : ∃ y1, drop0 mm k l = y1 := ⟨_, rfl⟩
      have hy164 : y1 ≤ 64 := by have := MV.out.le l; have := HQ.out; rw [← hy1]; unfold drop0; split <;> omega
      obtain ⟨y2, hy2⟩ : ∃ y2, addAt (drop0 mm k) l hf h = y2 := ⟨_, rfl⟩
      have hy264 : y2 ≤ 128 := by have := MV.out.le h; have := HQ.out; rw [← hy2]; unfold addAt drop0; split <;> split <;> omega
      have HZ := Lib.hid hz
      have HY1 := Lib.hid hy1
      have HY2 := Lib.hid hy2
      have HMS : Hid (mvStep mm k l h = addAt (addAt (drop0 mm k) l hf) h hf) := Lib.hid (by unfold mvStep; rw [hz, hhf])
      have KJ := Lib.hid (ikey k (by omega))
      have hsub : (k : Int) - 2 = (j : Int) := by omega
      have KL := Lib.hid (ikey l (by omega))
      have KH := Lib.hid (ikey h (by omega))
      clear hz hhf hy1 hy2
      have hjn : j < n := by omega
      have hj63 : j ≤ 63 := by omega
      have hlb : l ≤ k - 1 := by omega
      have hhb : h ≤ k - 1 := by omega
      have hkn : k ≤ 65 := by omega
      clear hj a2 a4
      go_wp2_with (first
        | (at_lookup; refine wpList_lookup_own_int _ rfl _ _ 106 rfl 3 3 .i64 int_law Try.underlying106 Try.underlying3 (zero_int _) Bm m D rfl (O0.out.alloc _) _ _ rfl KJ.out ?_; intro cc hcc hwc; obtain rfl : (z : Int) = cc := (by have h1 := (AT.out k (by omega)).symm.trans hcc; rw [HZ.out] at h1; injection h1 with h1; injection h1); clear hcc hwc)
        | (at_delete; refine wpList_delete_own _ rfl _ _ 106 3 rfl 3 int_law Try.underlying106 _ Bm m D rfl (O0.out.alloc _) _ _ rfl KJ.out ?_; intro w3 hown3 hturn3; have G3 := Lib.hid hturn3.grown; have O3 := Lib.hid hown3; obtain ⟨p0, p1, p2, _, _, _, hnl⟩ := blk_cells ((Kept.of_grown (S := fun i => i = Bm) G3.out (fun g e => (Option.some.inj e).symm)).blk (heap_alloc_new wr (.cells #[.int .i64 xv, .int .i64 l, .int .i64 h] 43) : Blk _ _ _ [.int .i64 xv, .int .i64 l, .int .i64 h]) (by omega)); clear hown3 hturn3)
        | (at_lookup; refine wpList_lookup_own_int _ rfl _ _ 106 rfl 3 3 .i64 int_law Try.underlying106 Try.underlying3 (zero_int _) Bm m _ rfl O3.out _ _ rfl KL.out ?_; intro cc hcc hwc; obtain rfl : (y1 : Int) = cc := (by have h1 := (at_del AT.out k l (by omega)).symm.trans hcc; rw [HY1.out] at h1; injection h1 with h1; injection h1); clear hcc hwc)
        | (at_mapUpdate; refine wpList_mapUpdate_own _ rfl _ _ _ 106 rfl 3 3 int_law Try.underlying106 _ Bm m _ rfl O3.out (by unfold maxLen; omega) _ _ _ rfl rfl KL.out _ [] (plainElem_int Try.underlying3 (WalkArith.wf_i64 (by omega))) ?_; intro w4 hown4 hgrow4; have G4 := Lib.hid hgrow4; have O4 := Lib.hid hown4; obtain ⟨p3, p4, p5, _, _, _, hnl4⟩ := blk_cells ((Kept.of_grown (S := fun i => i = Bm) G4.out (fun g e => (Option.some.inj e).symm)).blk ((Kept.of_grown (S := fun i => i = Bm) G3.out (fun g e => (Option.some.inj e).symm)).blk (heap_alloc_new wr (.cells #[.int .i64 xv, .int .i64 l, .int .i64 h] 43) : Blk _ _ _ [.int .i64 xv, .int .i64 l, .int .i64 h]) (by omega)) (by omega)); clear hown4 hgrow4)
        | (at_lookup; refine wpList_lookup_own_int _ rfl _ _ 106 rfl 3 3 .i64 int_law Try.underlying106 Try.underlying3 (zero_int _) Bm (m + 1) _ rfl O4.out _ _ rfl KH.out ?_; intro cc hcc hwc; obtain rfl : (y2 : Int) = cc := (by have h1 := (at_put (O3.out.tidy int_law).isMap (at_del AT.out k) l hf h (by omega)); rw [HY1.out] at h1; have h2 := h1.symm.trans hcc; rw [HY2.out] at h2; injection h2 with h2; injection h2); clear hcc hwc)
        | (at_mapUpdate; refine wpList_mapUpdate_own _ rfl _ _ _ 106 rfl 3 3 int_law Try.underlying106 _ Bm (m + 1) _ rfl O4.out (by unfold maxLen; omega) _ _ _ rfl rfl KH.out _ [] (plainElem_int Try.underlying3 (WalkArith.wf_i64 (by omega))) ?_; intro w5 hown5 hgrow5; have G5 := Lib.hid hgrow5; have O5 := Lib.hid hown5; clear hown5 hgrow5))
      have hIs := (O3.out.tidy int_law).isMap
      have A5 : ∀ j : Nat, j ≤ 100 → _ = _ := at_put (O4.out.tidy int_law).isMap (fun j hj => by have h1 := at_put hIs (at_del AT.out k) l hf j hj; rw [HY1.out] at h1; exact h1) h hf
      rw [HY2.out] at A5
      have U5 : Upto _ (k - 1) := upto_put (upto_put (upto_del UP.out) hlb (.lit (.int .i64 ((y1 : Int) + (hf : Int))))) hhb (.lit (.int .i64 ((y2 : Int) + (hf : Int))))
      have HA5 := Lib.hid A5
      have HU5 := Lib.hid U5
      have KW : Hid (Kept wr w5 (fun i => i = Bm)) := Lib.hid ((((Kept.of_below (below1 _ _)).trans (Kept.of_grown G3.out (fun g e => (Option.some.inj e).symm))).trans (Kept.of_grown G4.out (fun g e => (Option.some.inj e).symm))).trans (Kept.of_grown G5.out (fun g e => (Option.some.inj e).symm)))
      clear A5 U5
      refine (lastOf_any Bm _ (k - 1) _ w5 O5 HU5 (by omega)).mono ?_
      rintro e w6 ⟨L, rfl, hL, hLa, hb6⟩
      have B6 := Lib.hid (Below.tr (KW.out.below BB.out BB.out.size (fun i e => by omega)) hb6)
      have K6 := Lib.hid ((KW.out.blk KK.out (by omega)).below hb6)
      have O6 : Hid (w6.ownsMap (H := Unit) Try.prog 3 (plainElem Try.prog 3) Bm (m + 1 + 1) _) := Lib.hid (O5.out.kept (row := none) ⟨hb6.os, hb6.tape, hb6.output, hb6.size, fun i hi _ => hb6.block i hi⟩ (by simp))
      have HLA := Lib.hid hLa
      clear hLa hb6
      go_wp2
      go_roundw
      case rel =>
        rw [HMS.out] at MV2
        refine ⟨L, rfl, by omega, _, MV2.out.down hL (fun j hj => ?_), ⟨_, _, O6.out, by omega, ?_, HA5.out⟩, B6.out, K6.out⟩
        · by_cases hj100 : j ≤ 100
          · exact IMap.zero HA5.out hj100 (by
              cases q : Maps.has _ (Lit.int .i64 (j : Int)) with
              | false => rfl
              | true => have := HLA.out j q; omega)
          · exact MV2.out.up j (by omega)
        · intro kl hk
          obtain ⟨j, rfl, _⟩ := HU5.out kl hk
          exact ⟨j, rfl, HLA.out j hk⟩
      case measure => simp [intOf]; omega
    · have E2 : Hid (mm 1 = wg p ns (s : Int)) := Lib.hid (MV.out.end_ (by omega))
      have K1' := Lib.hid (ikey 1 (by omega))
      obtain ⟨y, hy⟩ : ∃ y, mm 1 = y := ⟨_, rfl⟩
      have HY := Lib.hid hy
      clear hy
      go_wp2_with (at_lookup; refine wpList_lookup_own_int _ rfl _ _ 106 rfl 3 3 .i64 int_law Try.underlying106 Try.underlying3 (zero_int _) Bm m D rfl O0.out _ _ rfl K1'.out ?_; intro cc hcc hwc; obtain rfl : (y : Int) = cc := (by have h1 := (AT.out 1 (by omega)).symm.trans hcc; rw [HY.out] at h1; injection h1 with h1; injection h1); clear hcc hwc)
      go_ret2
      exact ⟨ret_ib (by rw [E.out.1, ← E2.out, HY.out]) E.out.2.symm, BB.out⟩
end Go.Proofs.Ytklcfbjaodildaa
