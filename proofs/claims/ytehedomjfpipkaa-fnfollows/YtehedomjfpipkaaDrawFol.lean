/-
  Drawn arguments of the law FnFollows.
-/
import Derived.Test.YtehedomjfpipkaaDrawSv
import Derived.Test.YtehedomjfpipkaaSame
namespace Go.Proofs.Ytehedomjfpipkaa
open Go.ChangeShapes Go.WideShapes Go.ChangeAt Go.RowKit

set_option maxRecDepth 100000 in
set_option maxHeartbeats 400000 in
theorem l4Abs_any (x : Int) (w : World) : Calls Try.prog 72 #[.int .i64 x] w fun e w' => (∃ y : Int, e = .returned (.int .i64 y)) ∧ w = w' := by
  by_cases h : x < 0
  · go_enter Try.func72, Try.ntmps72
    go_wp2
    go_ret
    exact ⟨⟨_, rfl⟩, rfl⟩
  · go_enter Try.func72, Try.ntmps72
    go_wp2
    go_ret
    exact ⟨⟨_, rfl⟩, rfl⟩
/-- drawn clauses and a clause -/
def DrewF (w : World) (e : Ending) (w' : World) : Prop :=
  ∃ (v : Int) (L : List (List Int)) (c : List Int) (A B : Option Addr) (c1 c2 m : Nat) (vs : List Value), e = .returned (.tuple #[.int .i64 v, .slice A L.length c1, .slice B m c2]) ∧ (0 ≤ v ∧ v ≤ 13) ∧ L.length ≤ 13 ∧ tot L ≤ 100 ∧ c.length = m ∧ m ≤ 1000 ∧ m ≤ c2 ∧
    OwnSS w' w.heap.size (.slice A L.length c1) vs L ∧ ILies w' B c ∧ Below w.heap.size w w'
set_option maxRecDepth 100000 in
set_option maxHeartbeats 8000000 in
theorem drawFol_any (a0 : Option Addr) (len cap : Nat) (w : World) (h : Hid (Bytes w a0 len)) :
    Calls Try.prog 29 #[.slice a0 len cap] w (DrewF w) := by
  go_enter Try.func29, Try.ntmps29
  go_wp2_with fail
  refine (drawProp2_any a0 len cap w h).mono ?_
  rintro e w1 ⟨v, L, gv, A, B, c1, c2, vs, rfl, hv, hL, hT, hgl, ho, hog, hb⟩
  have O1 := Lib.hid ho
  have G1 := Lib.hid (own_ilies hog)
  have B1 := Lib.hid hb
  have hcg := own_cap hog
  have hs1 := hb.size
  have BY := Lib.hid (h.out.below hb)
  have C0 := Lib.hid (Cur.new (cap := cap) BY.out)
  have A0 := below1 w1 (.cells #[.slice a0 len cap, .int .i64 0, .int .u64 0] 71)
  have O0 := Lib.hid (O1.out.below A0)
  have GV0 := Lib.hid (G1.out.below A0)
  have B0 := Lib.hid (B1.out.trans (A0.mono hs1))
  clear ho hog hb A0
  obtain ⟨n, hn⟩ : ∃ n, L.length = n := ⟨_, rfl⟩
  obtain ⟨m, hm⟩ : ∃ m, gv.length = m := ⟨_, rfl⟩
  rw [hn] at hL O1 O0 ⊢
  rw [hm] at hgl hcg ⊢
  have HX := Lib.hid hn
  have HM := Lib.hid hm
  clear hn hm
  by_cases hn1 : n ≤ 1
  · have hgt : decide ((n : Int) > 1) = false := by simp; omega
    go_wp2
    go_ret3
    exact ⟨v, L, gv, A, B, c1, c2, m, vs, by rw [HX.out]; rfl, hv, by rw [HX.out]; exact hL, hT, HM.out, by omega, hcg, by rw [HX.out]; exact O0.out, GV0.out, B0.out⟩
  · have hgt : decide ((n : Int) > 1) = true := by simp; omega
    go_wp2_with fail
    refine (one_any w1.heap.size 0 _ _ C0 (by omega) (by omega) (by omega)).mono ?_
    rintro e w2 ⟨b, rfl, hc2, hg2⟩
    have BN := below_new hg2
    have O2 := Lib.hid (O1.out.below BN)
    have GV2 := Lib.hid (G1.out.below BN)
    have B2 := Lib.hid (B1.out.trans (BN.mono hs1))
    clear hc2 hg2 BN
    cases b
    · go_wp2
      go_ret3
      exact ⟨v, L, gv, A, B, c1, c2, m, vs, by rw [HX.out]; rfl, hv, by rw [HX.out]; exact hL, hT, HM.out, by omega, hcg, by rw [HX.out]; exact O2.out, GV2.out, B2.out⟩
    · obtain ⟨l0, hl0⟩ : ∃ x, L[0]? = some x := ⟨_, List.getElem?_eq_getElem (by have := HX.out; omega)⟩
      obtain ⟨l1, hl1⟩ : ∃ x, L[1]? = some x := ⟨_, List.getElem?_eq_getElem (by have := HX.out; omega)⟩
      obtain ⟨g, off, p0, q0, hA, hbl, t0, hc0, hm0, hi0⟩ := O2.out.lies 0 l0 hl0
      obtain ⟨g', off', p1, q1, hA', hbl', t1, hc1, hm1, hi1⟩ := O2.out.lies 1 l1 hl1
      rw [hA] at hA'
      simp only [Option.some.injEq, Addr.mk.injEq, and_true] at hA'
      obtain ⟨rfl, rfl⟩ := hA'
      subst hA
      have hs0 : l0.length ≤ 100 := by have := tot_mem hl0; omega
      have hs1' : l1.length ≤ 100 := by have := tot_mem hl1; omega
      have I0 := Lib.hid hi0
      have I1 := Lib.hid hi1
      clear hi0 hi1 hl0 hl1 hbl'
      obtain ⟨z0, hz0⟩ : ∃ m, l0.length = m := ⟨_, rfl⟩
      obtain ⟨z1, hz1⟩ : ∃ m, l1.length = m := ⟨_, rfl⟩
      rw [hz0] at t0 hc0 hm0 hs0
      rw [hz1] at t1 hc1 hm1 hs1'
      rw [Nat.add_zero] at t0
      have HZ0 := Lib.hid hz0
      have HZ1 := Lib.hid hz1
      clear hz0 hz1
      go_wp2_with fail
      go_loopw [33] (fun i wr => ∃ k : Nat, k ≤ z0 ∧ i = .int .i64 k ∧ Below w2.heap.size w2 wr) (fun i _ => z0 - (intOf i).toNat)
      case atStart => exact ⟨0, Nat.zero_le _, rfl, Below.refl _ _⟩
      case round =>
        obtain ⟨k, hk, rfl, hbr⟩ := hrel
        have BR := Lib.hid hbr
        have I0r := Lib.hid (I0.out.below hbr)
        have I1r := Lib.hid (I1.out.below hbr)
        have u0 : wr.cell? ⟨g, off, none⟩ = some (.slice p0 z0 q0) := ((bcell hbr).1 _ _ hbl).trans t0
        have u1 : wr.cell? ⟨g, off + 1, none⟩ = some (.slice p1 z1 q1) := ((bcell hbr).1 _ _ hbl).trans t1
        have hgr : g < wr.heap.size := by have := hbr.size; omega
        clear hbr
        by_cases hlt : k < z0
        · obtain ⟨x, hx⟩ : ∃ x, l0[k]? = some x := ⟨_, List.getElem?_eq_getElem (by have := HZ0.out; omega)⟩
          obtain ⟨b2, off2, rfl, hbl2, ha2⟩ := I0r.out k x hx
          clear hx
          have hn0 : 0 < n := by omega
          have hn2 : (1 : Int) < (n : Int) := by omega
          go_wp2_with fail
          refine wp_region_held_drew (S := fun W => W.cell? ⟨g, off, none⟩ = some (.slice (some ⟨b2, off2, none⟩) z0 q0) ∧ W.cell? ⟨g, off + 1, none⟩ = some (.slice p1 z1 q1)) (by kernel_rfl) ?_ (fun hHeld => ?_)
          · exact ⟨u0, u1⟩
          refine wpAnyH_take (i := 0) (v := ?_) rfl (by kernel_rfl) (by kernel_rfl) (by kernel_rfl) (fun _ _ _ h => h) (Or.inl ⟨by rfl, ?_⟩) (by assumption) ?_
          rotate_left
          · intro W hSw
            try dsimp only at hSw
            go_simp
            try with_reducible rfl
          simp only [Act.put, List.setIfInBounds_toArray]
          refine wpAnyH_take (i := 1) (v := ?_) rfl (by kernel_rfl) (by kernel_rfl) (by kernel_rfl) (fun _ _ _ h => h) (Or.inl ⟨by rfl, ?_⟩) (by assumption) ?_
          rotate_left
          · intro W hSw
            try dsimp only at hSw
            go_simp
            try with_reducible rfl
          simp only [Act.put]
          refine wpAnyH_take (i := 2) (v := ?_) rfl (by kernel_rfl) (by kernel_rfl) (by kernel_rfl) (fun _ _ _ h => h) (Or.inl ⟨by rfl, ?_⟩) (by assumption) ?_
          rotate_left
          · intro W hSw
            try dsimp only at hSw
            go_simp
            try with_reducible rfl
          simp only [Act.put]
          refine wpAnyH_take (i := 3) (v := ?_) rfl (by kernel_rfl) (by kernel_rfl) (by kernel_rfl) (fun _ _ _ h => h) (Or.inl ⟨by rfl, ?_⟩) (by assumption) ?_
          rotate_left
          · intro W hSw
            try dsimp only at hSw
            go_simp
            try with_reducible rfl
          simp only [Act.put]
          refine wpAnyH_take (i := 4) (v := ?_) rfl (by kernel_rfl) (by kernel_rfl) (by kernel_rfl) (fun _ _ _ h => h) (Or.inl ⟨by rfl, ?_⟩) (by assumption) ?_
          rotate_left
          · intro W hSw
            try dsimp only at hSw
            go_simp
            try with_reducible rfl
          simp only [Act.put]
          refine wpAnyH_take (i := 5) (v := ?_) rfl (by kernel_rfl) (by kernel_rfl) (by kernel_rfl) (fun _ _ _ h => h) (Or.inl ⟨by rfl, ?_⟩) (by assumption) ?_
          rotate_left
          · intro W hSw
            try dsimp only at hSw
            go_simp
            try with_reducible rfl
          simp only [Act.put]
          refine wpAnyH_take (i := 6) (v := ?_) rfl (by kernel_rfl) (by kernel_rfl) (by kernel_rfl) (fun _ _ _ h => h) (Or.inl ⟨by rfl, ?_⟩) (by assumption) ?_
          rotate_left
          · intro W hSw
            try dsimp only at hSw
            go_simp
            try with_reducible rfl
          simp only [Act.put]
          refine wpAnyH_ready (rs := [7]) (by kernel_rfl) (by simp) ?_
          refine AllReadyH.cons rfl (fun K hK => ?_) AllReadyH.nil
          go_simp
          refine (l4Abs_any x _).mono ?_
          rintro e w' ⟨⟨y, rfl⟩, rfl⟩
          refine hK.out _ _ (by assumption) (fun hHeld2 => ?_)
          clear hK K hHeld
          try simp only [Act.put, List.setIfInBounds_toArray, List.set_cons_zero, List.set_cons_succ]
          obtain ⟨rr, rb, hrr⟩ := opt_any (resB l0 l1 y)
          have HRR := Lib.hid hrr
          have hrl := resB_len hrr
          clear hrr
          have I0d : Hid (ILies wr.drew (some ⟨b2, off2, none⟩) l0) := Lib.hid (I0r.out.below (Below.refl wr.heap.size wr).drew)
          have I1d : Hid (ILies wr.drew p1 l1) := Lib.hid (I1r.out.below (Below.refl wr.heap.size wr).drew)
          refine wpAnyH_ready (rs := [8]) (by kernel_rfl) (by simp) ?_
          refine AllReadyH.cons rfl (fun K hK => ?_) AllReadyH.nil
          go_simp
          refine (specResolve_any (some ⟨b2, off2, none⟩) p1 z0 z1 q0 q1 l0 l1 y wr.drew rr rb HRR I0d I1d HZ0 HZ1 (by omega) (by omega) hc0 hc1).mono ?_
          rintro e w4 ⟨A4, c4, rfl, ho4, hb4'⟩
          have hb4 : Below wr.heap.size wr w4 := Below.tr (Below.refl _ _).drew hb4'
          refine hK.out _ _ ⟨((bcell hb4).1 _ _ hgr).trans u0, ((bcell hb4).1 _ _ hgr).trans u1⟩ (fun hHeld3 => ?_)
          clear hK K hHeld2
          try simp only [Act.put, List.setIfInBounds_toArray, List.set_cons_zero, List.set_cons_succ]
          refine wpAnyH_take (i := 9) (v := ?_) rfl (by kernel_rfl) (by kernel_rfl) (by kernel_rfl) (fun _ _ _ h => h) (Or.inl ⟨by rfl, ?_⟩) (by assumption) ?_
          rotate_left
          · intro W hSw
            try dsimp only at hSw
            go_simp
            try with_reducible rfl
          simp only [Act.put, List.setIfInBounds_toArray]
          refine wpAnyH_take (i := 10) (v := ?_) rfl (by kernel_rfl) (by kernel_rfl) (by kernel_rfl) (fun _ _ _ h => h) (Or.inl ⟨by rfl, ?_⟩) (by assumption) ?_
          rotate_left
          · intro W hSw
            try dsimp only at hSw
            go_simp
            try with_reducible rfl
          simp only [Act.put]
          refine wpAnyH_take (i := 11) (v := ?_) rfl (by kernel_rfl) (by kernel_rfl) (by kernel_rfl) (fun _ _ _ h => h) (Or.inl ⟨by rfl, ?_⟩) (by assumption) ?_
          rotate_left
          · intro W hSw
            try dsimp only at hSw
            go_simp
            try with_reducible rfl
          simp only [Act.put]
          refine wpAnyH_take (i := 12) (v := ?_) rfl (by kernel_rfl) (by kernel_rfl) (by kernel_rfl) (fun _ _ _ h => h) (Or.inl ⟨by rfl, ?_⟩) (by assumption) ?_
          rotate_left
          · intro W hSw
            try dsimp only at hSw
            go_simp
            try with_reducible rfl
          simp only [Act.put]
          refine wpAnyH_take (i := 13) (v := ?_) rfl (by kernel_rfl) (by kernel_rfl) (by kernel_rfl) (fun _ _ _ h => h) (Or.inl ⟨by rfl, ?_⟩) (by assumption) ?_
          rotate_left
          · intro W hSw
            try dsimp only at hSw
            go_simp
            try with_reducible rfl
          simp only [Act.put]
          refine wpAnyH_done (by kernel_rfl) ?_ _
          have B4 := Lib.hid (Below.tr BR.out hb4)
          have R4 := Lib.hid (own_ilies ho4)
          have hrc := own_cap ho4
          clear ho4 hb4 hb4' hHeld3 u0 u1
          obtain ⟨zr, hzr⟩ : ∃ m, rr.length = m := ⟨_, rfl⟩
          rw [hzr] at hrl hrc ⊢
          have HZR := Lib.hid hzr
          clear hzr
          cases rb
          · go_wp2
            go_roundw
            case rel => exact ⟨k + 1, by omega, by go_num, B4.out⟩
            case measure => simp [intOf]; omega
          · have O4 := Lib.hid (O2.out.below B4.out)
            go_wp2
            go_ret3
            exact ⟨v, L, rr, some ⟨g, off, none⟩, A4, c1, c4, zr, vs, by rw [HX.out]; rfl, hv, by rw [HX.out]; exact hL, hT, HZR.out, hrl, hrc, by rw [HX.out]; exact O4.out, R4.out, B2.out.trans (B4.out.mono B2.out.size)⟩
        · obtain rfl : k = z0 := by omega
          have O4 := Lib.hid (O2.out.below BR.out)
          go_wp2_with fail
          go_quiet (fail)
          go_wp2
          go_ret3
          exact ⟨v, L, l0, some ⟨g, off, none⟩, p0, c1, q0, k, vs, by rw [HX.out]; rfl, hv, by rw [HX.out]; exact hL, hT, HZ0.out, by omega, hc0, by rw [HX.out]; exact O4.out.below (bdrewN (Below.refl _ _) _), I0r.out.below (bdrewN (Below.refl _ _) _), bdrewN (B2.out.trans (BR.out.mono B2.out.size)) _⟩

/-- drawn lists of clauses -/
def DrewS (w : World) (e : Ending) (w' : World) : Prop :=
  ∃ (v : Int) (a b : List (List Int)) (A B : Option Addr) (c1 c2 n m : Nat) (vs : List Value), e = .returned (.tuple #[.int .i64 v, .slice A n c1, .slice B m c2]) ∧ a.length = n ∧ b.length = m ∧ n ≤ 13 ∧ m ≤ 13 ∧ tot a ≤ 100 ∧
    OwnSS w' w.heap.size (.slice A n c1) vs a ∧ LLies w' B b ∧ (B = none → m = 0 ∧ c2 = 0) ∧ Below w.heap.size w w'
theorem rev_at {a : List (List Int)} {j : Nat} {c : List Int} (h : a[j]? = some c) : (a.drop j).reverse = (a.drop (j + 1)).reverse ++ [c] := by
  have h1 := (List.getElem?_eq_some_iff.1 h).1
  have h2 := (List.getElem?_eq_some_iff.1 h).2
  rw [List.drop_eq_getElem_cons h1, List.reverse_cons, h2]
set_option maxRecDepth 100000 in
set_option maxHeartbeats 8000000 in
theorem drawSame_any (a0 : Option Addr) (len cap : Nat) (w : World) (h : Hid (Bytes w a0 len)) :
    Calls Try.prog 37 #[.slice a0 len cap] w (DrewS w) := by
  obtain ⟨iS, hiS, hs0, hs1, hs2⟩ := info_parts info_ints
  go_enter Try.func37, Try.ntmps37
  go_wp2_with fail
  refine (drawGoodC2_any a0 len cap w h).mono ?_
  rintro e w1 ⟨v, L, A, c1, vs, rfl, hv, hL, hT, ho, hb⟩
  have O1 := Lib.hid ho
  have B1 := Lib.hid hb
  have hsz := hb.size
  have hcap := own_cap ho.outer
  have HN := Lib.hid (own_nilA' ho.outer)
  have BY := Lib.hid (h.out.below hb)
  have C0 := Lib.hid (Cur.new (cap := cap) BY.out)
  clear ho hb
  obtain ⟨n, hn⟩ : ∃ n, L.length = n := ⟨_, rfl⟩
  rw [hn] at hL O1 HN hcap ⊢
  have HX := Lib.hid hn
  clear hn
  have fin : Hid (∀ (wz : World) (k : Nat), k ≤ n → Below w1.heap.size w1 wz → DrewS w (.returned (.tuple #[.int .i64 v, .slice A n c1, .slice A k c1])) wz) := Lib.hid (fun wz k hk hbz =>
    ⟨v, L, L.take k, A, A, c1, c1, n, k, vs, rfl, HX.out, by rw [List.length_take, HX.out]; omega, hL, by omega, hT, O1.out.below hbz, ((O1.out.below hbz).lies).take k, fun e => by have := HN.out e; omega, B1.out.trans (hbz.mono hsz)⟩)
  by_cases hn1 : n ≤ 1
  · have hgt : decide ((n : Int) > 1) = false := by simp; omega
    go_wp2_with fail
    refine (pick_any w1.heap.size 0 _ _ C0 (by omega) (by omega) (by omega)).mono ?_
    rintro e w2 ⟨kk, ⟨hk1, hk2⟩, rfl, hc2, hg2⟩
    have BN := Lib.hid (below_new hg2)
    clear hc2 hg2
    obtain ⟨k, rfl⟩ : ∃ k : Nat, kk = k := ⟨kk.toNat, by omega⟩
    have hkc : (k : Int) ≤ (c1 : Int) := by omega
    go_wp2_with fail
    go_quiet (fail)
    go_wp2
    go_ret3
    exact fin.out _ k (by omega) (bdrewN BN.out _)
  · have hgt : decide ((n : Int) > 1) = true := by simp; omega
    go_wp2_with fail
    refine (one_any w1.heap.size 0 _ _ C0 (by omega) (by omega) (by omega)).mono ?_
    rintro e w2 ⟨b, rfl, hc2, hg2⟩
    have BN := Lib.hid (below_new hg2)
    cases b
    · have C2 := Lib.hid hc2
      have G2 := Lib.hid hg2
      clear hc2 hg2
      go_wp2_with fail
      refine (pick_any w1.heap.size _ _ _ C2 (by omega) (by omega) (by omega)).mono ?_
      rintro e w3 ⟨kk, ⟨hk1, hk2⟩, rfl, hc3, hg3⟩
      have BN3 := Lib.hid (below_new (grownC_trans G2.out hg3))
      clear hc3 hg3
      obtain ⟨k, rfl⟩ : ∃ k : Nat, kk = k := ⟨kk.toNat, by omega⟩
      have hkc : (k : Int) ≤ (c1 : Int) := by omega
      go_wp2_with fail
      go_quiet (fail)
      go_wp2
      go_ret3
      exact fin.out _ k (by omega) (bdrewN BN3.out _)
    · have O2 := Lib.hid (O1.out.below BN.out)
      have hsz2 := BN.out.size
      clear hc2 hg2
      go_wp2_with fail
      go_loopw [8, 9] (fun u i wr => ∃ j : Nat, j ≤ n ∧ i = .int .i64 ((j : Int) - 1) ∧ (∃ A3 c3 us, u = .slice A3 (n - j) c3 ∧ CR wr w2.heap.size (.slice A3 (n - j) c3) us (L.drop j).reverse) ∧ Below w2.heap.size w2 wr) (fun _ i _ => (intOf i + 1).toNat)
      case atStart => exact ⟨n, Nat.le_refl _, rfl, ⟨none, 0, [], by rw [Nat.sub_self], by rw [Nat.sub_self, List.drop_of_length_le (by have := HX.out; omega)]; exact CR.nil _ _ (World.ownsRow_nil _ _ _ _)⟩, Below.refl _ _⟩
      case round =>
        obtain ⟨j, hj, rfl, ⟨A3, c3, us, rfl, hcr⟩, hbr⟩ := hrel
        have CW := Lib.hid hcr
        have BR := Lib.hid hbr
        have LR := Lib.hid (O2.out.lies.below hbr)
        have hszr := hbr.size
        have LK : Hid ((L.drop j).reverse.length = n - j) := Lib.hid (by rw [List.length_reverse, List.length_drop, HX.out])
        clear hcr hbr
        by_cases hj0 : 0 < j
        · obtain ⟨i, rfl⟩ : ∃ i, j = i + 1 := ⟨j - 1, by omega⟩
          obtain ⟨c, hx⟩ : ∃ x, L[i]? = some x := ⟨_, List.getElem?_eq_getElem (by have := HX.out; omega)⟩
          obtain ⟨b, off, a, cp, rfl, hbl, ha, hca, hma, hil⟩ := LR.out i c hx
          have IL := Lib.hid hil
          have HRV := Lib.hid (rev_at hx)
          have INB : Hid (∀ ad, a = some ad → 0 < c.length → ad.block < w2.heap.size) := Lib.hid (fun ad e hp => by
            obtain ⟨b9, off9, a9, c9, hA9, _, t9, _, _, hi9⟩ := O2.out.lies i c hx
            simp only [Option.some.injEq, Addr.mk.injEq, and_true] at hA9
            obtain ⟨rfl, rfl⟩ := hA9
            have e1 := ((bcell BR.out).1 b (off + i) (by have := World.block_lt_of_cell? w2 _ t9; exact this)).trans t9
            rw [ha] at e1
            simp only [Option.some.injEq, Value.slice.injEq] at e1
            obtain ⟨rfl, _, _⟩ := e1
            obtain ⟨b8, off8, h8, hb8, _⟩ := hi9 0 _ (List.getElem?_eq_getElem hp)
            rw [e] at h8
            obtain rfl := Option.some.inj h8
            exact hb8)
          clear hx hil
          obtain ⟨z, hz⟩ : ∃ m, c.length = m := ⟨_, rfl⟩
          rw [hz] at ha hca hma
          have HZ := Lib.hid hz
          clear hz
          have hii : ((i + 1 : Nat) : Int) - 1 = (i : Int) := by omega
          rw [hii]
          have OU : Hid (wr.ownsRow w2.heap.size 35 1 (.slice A3 (n - (i + 1)) c3) (n - (i + 1)) us) := Lib.hid (by have := CW.out.outer; rw [LK.out] at this; exact this)
          go_wp2_with (at_builtin; (refine wpList_append_lies _ rfl _ _ 23 rfl w2.heap.size 35 iS (.slice none 0 0) 1 24 Try.underlying23 hiS hs0 hs1 hs2 rfl (by omega) _ (n - (i + 1)) _ rfl (OU.out.alloc _) ⟨wr.heap.size, 0, none⟩ 1 1 [.slice a z cp] rfl rfl (one_new1 wr _ _) (by intro u hu; rw [List.mem_singleton.1 hu]; rfl) (by omega) (by unfold maxLen; omega) (by omega) (by first | omega | (simp; omega)) (wr.heap.size + 1) (by first | rfl | simp) ?_; intro g4 cap4 w4 hown4 hg4 hat4 hlt4; have K4 := Lib.hid (kept_app hg4); have OW4 := Lib.hid hown4; have AT4 := Lib.hid hat4; clear hown4 hg4 hat4 hlt4))
          go_roundw
          case rel =>
            have hni : n - i = n - (i + 1) + 1 := by omega
            have RW : Rows0 wr (fun g => g < w2.heap.size) [Value.slice a z cp] [c] := ⟨rfl, fun q l hl => by
              have hq : q = 0 := by have := (List.getElem?_eq_some_iff.1 hl).1; simp at this; exact this
              subst hq
              simp at hl
              subst hl
              exact ⟨a, cp, by rw [HZ.out]; rfl, by rw [HZ.out]; exact hca, by rw [HZ.out]; exact hma, IL.out, INB.out⟩⟩
            have AP := CW.out.append LK.out rfl RW (Nat.le_refl _) hszr (OW4.out : w4.ownsRow w2.heap.size 35 1 (.slice (some ⟨g4, 0, none⟩) (n - (i + 1) + [c].length) cap4) (n - (i + 1) + [c].length) (us ++ [Value.slice a z cp])) K4.out (fun g e => by
              have e' : g = g4 := by simp [Value.ownBlock] at e; exact e.symm
              subst e'
              exact AT4.out.elim .inl (fun q => .inr (by omega)))
            refine ⟨i, by omega, by go_num, ⟨some ⟨g4, 0, none⟩, cap4, _, by rw [hni], by rw [hni, HRV.out]; exact AP⟩, K4.out.below BR.out hszr (fun q e => (OU.out.lt q e).1)⟩
          case measure => simp [intOf]
        · obtain rfl : j = 0 := by omega
          have CZ : Hid (CR wr w2.heap.size (.slice A3 n c3) us L.reverse) := Lib.hid (by simpa using CW.out)
          have NZ : Hid (A3 = none → n = 0 ∧ c3 = 0) := Lib.hid (by have := CZ.out.outer; rw [List.length_reverse, HX.out] at this; exact own_nilA' this)
          go_wp2
          go_ret3
          exact ⟨v, L, L.reverse, A, A3, c1, c3, n, n, vs, rfl, HX.out, by rw [List.length_reverse]; exact HX.out, hL, hL, hT, O2.out.below BR.out, CZ.out.lies, NZ.out, (B1.out.trans (BN.out.mono hsz)).trans (BR.out.mono (by omega))⟩
end Go.Proofs.Ytehedomjfpipkaa
