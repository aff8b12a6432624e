/-
  Drawn arguments of the law FnFollows.
-/
import Derived.Test.YtkkoeeoalkjhoaaDrawSv
import Derived.Test.YtkkoeeoalkjhoaaSame
namespace Go.Proofs.Ytkkoeeoalkjhoaa
open Go.ChangeShapes Go.WideShapes Go.ChangeAt Go.RowKit

set_option maxRecDepth 100000 in
set_option maxHeartbeats 400000 in
theorem l4Abs_any (x : Int) (w : World) : Calls Try.prog 82 #[.int .i64 x] w fun e w' => (∃ y : Int, e = .returned (.int .i64 y)) ∧ w = w' := by
  by_cases h : x < 0
  · go_enter Try.func82, Try.ntmps82
    go_wp2
    go_ret
    exact ⟨⟨_, rfl⟩, rfl⟩
  · go_enter Try.func82, Try.ntmps82
    go_wp2
    go_ret
    exact ⟨⟨_, rfl⟩, rfl⟩
/-- drawn clauses and a clause -/
def DrewF (w : World) (e : Ending) (w' : World) : Prop :=
  ∃ (v : Int) (L : List (List Int)) (c : List Int) (A B : Option Addr) (c1 c2 m : Nat) (vs : List Value), e = .returned (.tuple #[.int .i64 v, .slice A L.length c1, .slice B m c2]) ∧ (0 ≤ v ∧ v ≤ 13) ∧ L.length ≤ 13 ∧ tot L ≤ 100 ∧ c.length = m ∧ m ≤ 1000 ∧ m ≤ c2 ∧
    OwnSS w' w.heap.size (.slice A L.length c1) vs L ∧ ILies w' B c ∧ Below w.heap.size w w'
set_option maxRecDepth 100000 in
set_option maxHeartbeats 8000000 in
theorem drawFol_any (a0 : Option Addr) (len cap : Nat) (w : World) (h : Hid (Bytes w a0 len)) :
    Calls Try.prog 60 #[.slice a0 len cap] w (DrewF w) := by
  go_enter Try.func60, Try.ntmps60
  go_wp2_with fail
  refine (drawProp2_any a0 len cap w h).mono ?_
  rintro e w1 ⟨v, L, gv, A, B, c1, c2, vs, rfl, hv, hL, hT, hgl, ho, hog, hb⟩
  have O1 := Lib.hid ho
  have G1 := Lib.hid (own_ilies hog)
  have B1 := Lib.hid hb
  have hcg := own_cap hog
  have hs1 := hb.size
  have BY := Lib.hid (h.out.below hb)
  have C0 := Lib.hid (Cur.new (cap := cap) BY.out)
  have A0 := below1 w1 (.cells #[.slice a0 len cap, .int .i64 0, .int .u64 0] 59)
  have O0 := Lib.hid (O1.out.below A0)
  have GV0 := Lib.hid (G1.out.below A0)
  have B0 := Lib.hid (B1.out.trans (A0.mono hs1))
  clear ho hog hb A0
  obtain ⟨n, hn⟩ : ∃ n, L.length = n := ⟨_, rfl⟩
  obtain ⟨m, hm⟩ : ∃ m, gv.length = m := ⟨_, rfl⟩
  rw [hn] at hL O1 O0 ⊢
  rw [hm] at hgl hcg ⊢
  have HX := Lib.hid hn
  have HM := Lib.hid hm
  clear hn hm
  by_cases hn1 : n ≤ 1
  · have hgt : decide ((n : Int) > 1) = false := by simp; omega
    go_wp2
    go_ret3
    exact ⟨v, L, gv, A, B, c1, c2, m, vs, by rw [HX.out]; rfl, hv, by rw [HX.out]; exact hL, hT, HM.out, by omega, hcg, by rw [HX.out]; exact O0.out, GV0.out, B0.out⟩
  · have hgt : decide ((n : Int) > 1) = true := by simp; omega
    go_wp2_with fail
    refine (one_any w1.heap.size 0 _ _ C0 (by omega) (by omega) (by omega)).mono ?_
    rintro e w2 ⟨b, rfl, hc2, hg2⟩
    have BN := below_new hg2
    have O2 := Lib.hid (O1.out.below BN)
    have GV2 := Lib.hid (G1.out.below BN)
    have B2 := Lib.hid (B1.out.trans (BN.mono hs1))
    clear hc2 hg2 BN
    cases b
    · go_wp2
      go_ret3
      exact ⟨v, L, gv, A, B, c1, c2, m, vs, by rw [HX.out]; rfl, hv, by rw [HX.out]; exact hL, hT, HM.out, by omega, hcg, by rw [HX.out]; exact O2.out, GV2.out, B2.out⟩
    · obtain ⟨l0, hl0⟩ : ∃ x, L[0]? = some x := ⟨_, List.getElem?_eq_getElem (by have := HX.out; omega)⟩
      obtain ⟨l1, hl1⟩ : ∃ x, L[1]? = some x := ⟨_, List.getElem?_eq_getElem (by have := HX.out; omega)⟩
      obtain ⟨g, off, p0, q0, hA, hbl, t0, hc0, hm0, hi0⟩ := O2.out.lies 0 l0 hl0
      obtain ⟨g', off', p1, q1, hA', hbl', t1, hc1, hm1, hi1⟩ := O2.out.lies 1 l1 hl1
      rw [hA] at hA'
      simp only [Option.some.injEq, Addr.mk.injEq, and_true] at hA'
      obtain ⟨rfl, rfl⟩ := hA'
      subst hA
      have hs0 : l0.length ≤ 100 := by have := tot_mem hl0; omega
      have hs1' : l1.length ≤ 100 := by have := tot_mem hl1; omega
      have I0 := Lib.hid hi0
      have I1 := Lib.hid hi1
      clear hi0 hi1 hl0 hl1 hbl'
      obtain ⟨z0, hz0⟩ : ∃ m, l0.length = m := ⟨_, rfl⟩
      obtain ⟨z1, hz1⟩ : ∃ m, l1.length = m := ⟨_, rfl⟩
      rw [hz0] at t0 hc0 hm0 hs0
      rw [hz1] at t1 hc1 hm1 hs1'
      rw [Nat.add_zero] at t0
      have HZ0 := Lib.hid hz0
      have HZ1 := Lib.hid hz1
      clear hz0 hz1
      go_wp2_with fail
      go_loopw [33] (fun i wr => ∃ k : Nat, k ≤ z0 ∧ i = .int .i64 k ∧ Below w2.heap.size w2 wr) (fun i _ => z0 - (intOf i).toNat)
      case atStart => exact ⟨0, Nat.zero_le _, rfl, Below.refl _ _⟩
      case round =>
        obtain ⟨k, hk, rfl, hbr⟩ := hrel
        have BR := Lib.hid hbr
        have I0r := Lib.hid (I0.out.below hbr)
        have I1r := Lib.hid (I1.out.below hbr)
        have u0 : wr.cell? ⟨g, off, none⟩ = some (.slice p0 z0 q0) := ((bcell hbr).1 _ _ hbl).trans t0
        have u1 : wr.cell? ⟨g, off + 1, none⟩ = some (.slice p1 z1 q1) := ((bcell hbr).1 _ _ hbl).trans t1
        have hgr : g < wr.heap.size := by have := hbr.size; omega
        clear hbr
        by_cases hlt : k < z0
        · obtain ⟨x, hx⟩ : ∃ x, l0[k]? = some x := ⟨_, List.getElem?_eq_getElem (by have := HZ0.out; omega)⟩
          obtain ⟨b2, off2, rfl, hbl2, ha2⟩ := I0r.out k x hx
          clear hx
          have hn0 : 0 < n := by omega
          have hn2 : (1 : Int) < (n : Int) := by omega
          go_wp2_with fail
          refine wp_region_held_drew (S := fun W => W.cell? ⟨g, off, none⟩ = some (.slice (some ⟨b2, off2, none⟩) z0 q0) ∧ W.cell? ⟨g, off + 1, none⟩ = some (.slice p1 z1 q1)) (by kernel_rfl) ?_ (fun hHeld => ?_)
          · exact ⟨u0, u1⟩
          refine wpAnyH_take (i := 0) (v := ?_) rfl (by kernel_rfl) (by kernel_rfl) (by kernel_rfl) (fun _ _ _ h => h) (Or.inl ⟨by rfl, ?_⟩) (by assumption) ?_
          rotate_left
          · intro W hSw
            try dsimp only at hSw
            go_simp
            try with_reducible rfl
          simp only [Act.put, List.setIfInBounds_toArray]
          refine wpAnyH_take (i := 1) (v := ?_) rfl (by kernel_rfl) (by kernel_rfl) (by kernel_rfl) (fun _ _ _ h => h) (Or.inl ⟨by rfl, ?_⟩) (by assumption) ?_
          rotate_left
          · intro W hSw
            try dsimp only at hSw
            go_simp
            try with_reducible rfl
          simp only [Act.put]
          refine wpAnyH_take (i := 2) (v := ?_) rfl (by kernel_rfl) (by kernel_rfl) (by kernel_rfl) (fun _ _ _ h => h) (Or.inl ⟨by rfl, ?_⟩) (by assumption) ?_
          rotate_left
          · intro W hSw
            try dsimp only at hSw
            go_simp
            try with_reducible rfl
          simp only [Act.put]
          refine wpAnyH_take (i := 3) (v := ?_) rfl (by kernel_rfl) (by kernel_rfl) (by kernel_rfl) (fun _ _ _ h => h) (Or.inl ⟨by rfl, ?_⟩) (by assumption) ?_
          rotate_left
          · intro W hSw
            try dsimp only at hSw
            go_simp
            try with_reducible rfl
          simp only [Act.put]
          refine wpAnyH_take (i := 4) (v := ?_) rfl (by kernel_rfl) (by kernel_rfl) (by kernel_rfl) (fun _ _ _ h => h) (Or.inl ⟨by rfl, ?_⟩) (by assumption) ?_
          rotate_left
          · intro W hSw
            try dsimp only at hSw
            go_simp
            try with_reducible rfl
          simp only [Act.put]
          refine wpAnyH_take (i := 5) (v := ?_) rfl (by kernel_rfl) (by kernel_rfl) (by kernel_rfl) (fun _ _ _ h => h) (Or.inl ⟨by rfl, ?_⟩) (by assumption) ?_
          rotate_left
          · intro W hSw
            try dsimp only at hSw
            go_simp
            try with_reducible rfl
          simp only [Act.put]
          refine wpAnyH_take (i := 6) (v := ?_) rfl (by kernel_rfl) (by kernel_rfl) (by kernel_rfl) (fun _ _ _ h => h) (Or.inl ⟨by rfl, ?_⟩) (by assumption) ?_
          rotate_left
          · intro W hSw
            try dsimp only at hSw
            go_simp
            try with_reducible rfl
          simp only [Act.put]
          refine wpAnyH_ready (rs := [7]) (by kernel_rfl) (by simp) ?_
          refine AllReadyH.cons rfl (fun K hK => ?_) AllReadyH.nil
          go_simp
          refine (l4Abs_any x _).mono ?_
          rintro e w' ⟨⟨y, rfl⟩, rfl⟩
          refine hK.out _ _ (by assumption) (fun hHeld2 => ?_)
          clear hK K hHeld
          try simp only [Act.put, List.setIfInBounds_toArray, List.set_cons_zero, List.set_cons_succ]
          obtain ⟨rr, rb, hrr⟩ := opt_any (resB l0 l1 y)
          have HRR := Lib.hid hrr
          have hrl := resB_len hrr
          clear hrr
          have I0d : Hid (ILies wr.drew (some ⟨b2, off2, none⟩) l0) := Lib.hid (I0r.out.below (Below.refl wr.heap.size wr).drew)
          have I1d : Hid (ILies wr.drew p1 l1) := Lib.hid (I1r.out.below (Below.refl wr.heap.size wr).drew)
          refine wpAnyH_ready (rs := [8]) (by kernel_rfl) (by simp) ?_
          refine AllReadyH.cons rfl (fun K hK => ?_) AllReadyH.nil
          go_simp
          refine (specResolve_any (some ⟨b2, off2, none⟩) p1 z0 z1 q0 q1 l0 l1 y wr.drew rr rb HRR I0d I1d HZ0 HZ1 (by omega) (by omega) hc0 hc1).mono ?_
          rintro e w4 ⟨A4, c4, rfl, ho4, hb4'⟩
          have hb4 : Below wr.heap.size wr w4 := Below.tr (Below.refl _ _).drew hb4'
          refine hK.out _ _ ⟨((bcell hb4).1 _ _ hgr).trans u0, ((bcell hb4).1 _ _ hgr).trans u1⟩ (fun hHeld3 => ?_)
          clear hK K hHeld2
          try simp only [Act.put, List.setIfInBounds_toArray, List.set_cons_zero, List.set_cons_succ]
          refine wpAnyH_take (i := 9) (v := ?_) rfl (by kernel_rfl) (by kernel_rfl) (by kernel_rfl) (fun _ _ _ h => h) (Or.inl ⟨by rfl, ?_⟩) (by assumption) ?_
          rotate_left
          · intro W hSw
            try dsimp only at hSw
            go_simp
            try with_reducible rfl
          simp only [Act.put, List.setIfInBounds_toArray]
          refine wpAnyH_take (i := 10) (v := ?_) rfl (by kernel_rfl) (by kernel_rfl) (by kernel_rfl) (fun _ _ _ h => h) (Or.inl ⟨by rfl, ?_⟩) (by assumption) ?_
          rotate_left
          · intro W hSw
            try dsimp only at hSw
            go_simp
            try with_reducible rfl
          simp only [Act.put]
          refine wpAnyH_take (i := 11) (v := ?_) rfl (by kernel_rfl) (by kernel_rfl) (by kernel_rfl) (fun _ _ _ h => h) (Or.inl ⟨by rfl, ?_⟩) (by assumption) ?_
          rotate_left
          · intro W hSw
            try dsimp only at hSw
            go_simp
            try with_reducible rfl
          simp only [Act.put]
          refine wpAnyH_take (i := 12) (v := ?_) rfl (by kernel_rfl) (by kernel_rfl) (by kernel_rfl) (fun _ _ _ h => h) (Or.inl ⟨by rfl, ?_⟩) (by assumption) ?_
          rotate_left
          · intro W hSw
            try dsimp only at hSw
            go_simp
            try with_reducible rfl
          simp only [Act.put]
          refine wpAnyH_take (i := 13) (v := ?_) rfl (by kernel_rfl) (by kernel_rfl) (by kernel_rfl) (fun _ _ _ h => h) (Or.inl ⟨by rfl, ?_⟩) (by assumption) ?_
          rotate_left
          · intro W hSw
            try dsimp only at hSw
            go_simp
            try with_reducible rfl
          simp only [Act.put]
          refine wpAnyH_done (by kernel_rfl) ?_ _
          have B4 := Lib.hid (Below.tr BR.out hb4)
          have R4 := Lib.hid (own_ilies ho4)
          have hrc := own_cap ho4
          clear ho4 hb4 hb4' hHeld3 u0 u1
          obtain ⟨zr, hzr⟩ : ∃ m, rr.length = m := ⟨_, rfl⟩
          rw [hzr] at hrl hrc ⊢
          have HZR := Lib.hid hzr
          clear hzr
          cases rb
          · go_wp2
            go_roundw
            case rel => exact ⟨k + 1, by omega, by go_num, B4.out⟩
            case measure => simp [intOf]; omega
          · have O4 := Lib.hid (O2.out.below B4.out)
            go_wp2
            go_ret3
            exact ⟨v, L, rr, some ⟨g, off, none⟩, A4, c1, c4, zr, vs, by rw [HX.out]; rfl, hv, by rw [HX.out]; exact hL, hT, HZR.out, hrl, hrc, by rw [HX.out]; exact O4.out, R4.out, B2.out.trans (B4.out.mono B2.out.size)⟩
        · obtain rfl : k = z0 := by omega
          have O4 := Lib.hid (O2.out.below BR.out)
          go_wp2_with fail
          go_quiet (fail)
          go_wp2
          go_ret3
          exact ⟨v, L, l0, some ⟨g, off, none⟩, p0, c1, q0, k, vs, by rw [HX.out]; rfl, hv, by rw [HX.out]; exact hL, hT, HZ0.out, by omega, hc0, by rw [HX.out]; exact O4.out.below (bdrewN (Below.refl _ _) _), I0r.out.below (bdrewN (Below.refl _ _) _), bdrewN (B2.out.trans (BR.out.mono B2.out.size)) _⟩

/-- drawn lists of clauses -/
def DrewS (w : World) (e : Ending) (w' : World) : Prop :=
  ∃ (v : Int) (a b : List (List Int)) (A B : Option Addr) (c1 c2 n m : Nat) (vs : List Value), e = .returned (.tuple #[.int .i64 v, .slice A n c1, .slice B m c2]) ∧ a.length = n ∧ b.length = m ∧ n ≤ 13 ∧ m ≤ 13 ∧ tot a ≤ 100 ∧
    OwnSS w' w.heap.size (.slice A n c1) vs a ∧ LLies w' B b ∧ (B = none → m = 0 ∧ c2 = 0) ∧ Below w.heap.size w w'
theorem rev_at {a : List (List Int)} {j : Nat} {c : List Int} (h : a[j]? = some c) : (a.drop j).reverse = (a.drop (j + 1)).reverse ++ [c] := by
  have h1 := (List.getElem?_eq_some_iff.1 h).1
  have h2 := (List.getElem?_eq_some_iff.1 h).2
  rw [List.drop_eq_getElem_cons h1, List.reverse_cons, h2]
end Go.Proofs.Ytkkoeeoalkjhoaa
