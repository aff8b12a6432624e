/-
  The walk of FnGates.
-/
import Derived.Test.YtklcfbjaodildaaGi9
import Derived.Test.YtklcfbjaodildaaGtD
import Derived.Test.YtklcfbjaodildaaSolveI
namespace Go.Proofs.Ytklcfbjaodildaa
open Go.ChangeShapes Go.WideShapes Go.ChangeAt Go.RowKit

theorem own_iliesN {w : World} {base n c : Nat} {A : Option Addr} {l : List Int} (hn : l.length = n) (h : w.ownsRow base 3 1 (.slice A n c) n (l.map (Value.int .i64))) : ILies w A l := by
  subst hn
  exact own_ilies h
theorem own_bliesN {w : World} {base n c : Nat} {A : Option Addr} {l : List Bool} (hn : l.length = n) (h : w.ownsRow base 4 1 (.slice A n c) n (l.map Value.bool)) : BLies w A l := by
  subst hn
  exact own_blies h
theorem ev_ok {xs : List Gt} {M E : List Bool} {ok : Bool} (h : rEv xs M = (E, ok)) : ok = true → goodGB xs = true ∧ M.length = nIn xs ∧ E = evG xs M := by
  intro e
  by_cases q : goodGB xs = true ∧ M.length = nIn xs
  · exact ⟨q.1, q.2, (rEv_yes h q.1 q.2).1⟩
  · have := (rEv_no h (by cases hg : goodGB xs; exact .inl rfl; exact .inr (fun e => q ⟨hg, e⟩))).2
    rw [e] at this; cases this
theorem own_lnilY {w : World} {base n c : Nat} {A : Option Addr} {vs : List Value} {L : List (List Int)} (h : OwnSS w base (.slice A n c) vs L) (hn : L.length = n) : A = none → n = 0 ∧ c = 0 := ownG_nil (by have := h.outer; rw [hn] at this; exact this)
theorem sol_can {xs : List Gt} {n : Nat} {L R : List (List Int)} {s c b : Bool} {M ins : List Bool} (hg : goodGB xs = true) (hn : xs.length = n) (hL : L = clsG xs) (hs : SolR (n : Int) L s M R true) (hc : rCan xs = (c, ins, b)) : (s != c) = false := by
  obtain ⟨_, _, h1, h2⟩ := hs.sem
  have hk := (rCan_yes hc hg).1
  cases s
  · rcases hk with ⟨k, _, _, h3, rfl, _⟩ | ⟨_, rfl, _⟩
    · have := h2 rfl (evG xs (modelN (nIn xs) k))
      rw [hL, out_holds hg _ h3] at this
      cases this
    · rfl
  · obtain ⟨h3, h4⟩ := h1 rfl
    rw [hL] at h4
    have h5 := (holds_out hg (by omega) h4).1
    obtain ⟨N, h6, h7⟩ := model_num (byG xs M (nIn xs))
    rw [byG_len] at h6 h7
    rcases hk with ⟨k, _, _, _, rfl, _⟩ | ⟨h8, _, _⟩
    · rfl
    · have h9 : outG xs (modelN (nIn xs) N) = false := h8 N h6
      rw [h7, h5] at h9
      cases h9
set_option maxRecDepth 100000 in
set_option maxHeartbeats 64000000 in
theorem lawGates (a0 : Option Addr) (len0 cap0 : Nat) (a1 : Option Addr) (len1 cap1 : Nat) (w : World) (h0 : Hid (Bytes w a0 len0)) (h1 : Hid (Bytes w a1 len1)) :
    Calls Try.prog 5 #[.slice a0 len0 cap0, .slice a1 len1 cap1] w fun e w' => e = .returned (.bool true) ∧ Below w.heap.size w w' := by
  by_cases hbig : (1048576 : Int) < wrap64 ((len0 : Int) + (len1 : Int))
  · go_enter Try.func5, Try.ntmps5
    go_wp2
    go_ret
    exact ⟨rfl, Below.refl _ _⟩
  have hdec : decide ((1048576 : Int) < wrap64 ((len0 : Int) + (len1 : Int))) = false := decide_eq_false hbig
  clear hbig
  go_enter Try.func5, Try.ntmps5
  go_wp2_with fail
  refine (drawEval_any a0 len0 cap0 _ h0).mono ?_
  rintro e w1 ⟨xs, A, cp, M, MA, mcp, rfl, hxl, hg, hml, hmb, hb⟩
  have G_1 := Lib.hid (hg)
  have MI_1 := Lib.hid (hmb)
  have Y_1 := Lib.hid (h1.out.below hb)
  have B_1 := Lib.hid (Below.tr (Below.refl _ _) hb)
  clear hb
  clear hg hmb h0 h1
  obtain ⟨n, hn⟩ : ∃ n, xs.length = n := ⟨_, rfl⟩
  obtain ⟨z, hz⟩ : ∃ n, M.length = n := ⟨_, rfl⟩
  rw [hn] at hxl ⊢
  rw [hz] at hml ⊢
  have HX := Lib.hid hn
  have HZ := Lib.hid hz
  clear hn hz
  obtain ⟨⟨E, ok⟩, her⟩ : ∃ x, rEv xs M = x := ⟨_, rfl⟩
  have hel := rEv_len her
  have HER := Lib.hid her
  obtain ⟨en, hen⟩ : ∃ n, E.length = n := ⟨_, rfl⟩
  rw [hen] at hel
  have HEN := Lib.hid hen
  clear hen her
  go_wp2_with fail
  refine (implEv_any A n cp MA z mcp xs M _ E ok HER G_1 HX (by omega) MI_1 HZ (by omega)).mono ?_
  rintro e w2 ⟨A2, c2, rfl, ho, hb⟩
  rw [HEN.out] at ho ⊢
  have G_2 := Lib.hid (G_1.out.below hb)
  clear G_1
  have MI_2 := Lib.hid (MI_1.out.below hb)
  clear MI_1
  have Y_2 := Lib.hid (Y_1.out.below hb)
  clear Y_1
  have E_2 := Lib.hid (own_bliesN HEN.out ho)
  have B_2 := Lib.hid (Below.tr B_1.out hb)
  clear hb
  clear ho
  go_wp2_with fail
  refine (specEv_any A n cp MA z mcp xs M _ E ok HER G_2 HX (by omega) MI_2 HZ (by omega)).mono ?_
  rintro e w3 ⟨A3, c3, rfl, ho, hb⟩
  rw [HEN.out] at ho ⊢
  have G_3 := Lib.hid (G_2.out.below hb)
  clear G_2
  have MI_3 := Lib.hid (MI_2.out.below hb)
  clear MI_2
  have Y_3 := Lib.hid (Y_2.out.below hb)
  clear Y_2
  have E_3 := Lib.hid (E_2.out.below hb)
  clear E_2
  have EW_3 := Lib.hid (own_bliesN HEN.out ho)
  have B_3 := Lib.hid (Below.tr B_2.out hb)
  clear hb
  clear ho
  have z1 : (ok != ok) = false := by simp
  go_wp2_with fail
  refine (sameBools_same _ _ _ _ _ E _ E_3 EW_3 HEN (by omega)).mono ?_
  rintro e w4 ⟨rfl, hb⟩
  have G_4 := Lib.hid (G_3.out.below hb)
  clear G_3
  have MI_4 := Lib.hid (MI_3.out.below hb)
  clear MI_3
  have Y_4 := Lib.hid (Y_3.out.below hb)
  clear Y_3
  have E_4 := Lib.hid (E_3.out.below hb)
  clear E_3
  clear EW_3
  have B_4 := Lib.hid (Below.tr B_3.out hb)
  clear hb
  have hgo : ok = true → goodGB xs = true ∧ M.length = nIn xs ∧ E = evG xs M := ev_ok HER.out
  cases ok
  · clear hgo
    go_wp2_with fail
    refine (drawGc_any a1 len1 cap1 _ Y_4).mono ?_
    rintro e w5 ⟨ya, YA, yc1, v, rfl, hya, hga, hv, hb⟩
    clear G_4
    clear MI_4
    have Y_5 := Lib.hid (Y_4.out.below hb)
    clear Y_4
    clear E_4
    have B_5 := Lib.hid (Below.tr B_4.out hb)
    clear hb
    have GA_5 := Lib.hid hga
    clear hga
    obtain ⟨⟨g0, g1⟩, hgr⟩ : ∃ x, rGc ya v = x := ⟨_, rfl⟩
    have hgl := rGc_len hgr
    have hgt : tot g0 ≤ 1000 := rGc_tot hgr
    have HGR := Lib.hid hgr
    clear hgr
    obtain ⟨na, hna⟩ : ∃ n, ya.length = n := ⟨_, rfl⟩
    rw [hna] at hya ⊢
    have HNA := Lib.hid hna
    obtain ⟨gm, hgm⟩ : ∃ n, g0.length = n := ⟨_, rfl⟩
    rw [hgm] at hgl
    have HGM := Lib.hid hgm
    have HGT : Hid (tot g0 ≤ 10000000) := Lib.hid (by omega)
    clear hna hgm hgt
    go_wp2_with fail
    refine (implGc_any v YA na yc1 ya _ g0 g1 HGR GA_5 HNA (by omega)).mono ?_
    rintro e w6 ⟨A2, c2, vs2, rfl, ho, hb⟩
    rw [HGM.out] at ho ⊢
    have Y_6 := Lib.hid (Y_5.out.below hb)
    clear Y_5
    have GA_6 := Lib.hid (GA_5.out.below hb)
    clear GA_5
    have L_6 := Lib.hid (ho.lies)
    have B_6 := Lib.hid (Below.tr B_5.out hb)
    clear hb
    clear ho
    go_wp2_with fail
    refine (specGc_any v YA na yc1 ya _ g0 g1 HGR GA_6 HNA (by omega)).mono ?_
    rintro e w7 ⟨A3, c3, vs3, rfl, ho, hb⟩
    rw [HGM.out] at ho ⊢
    have Y_7 := Lib.hid (Y_6.out.below hb)
    clear Y_6
    clear GA_6
    have L_7 := Lib.hid (L_6.out.below hb)
    clear L_6
    have LW_7 := Lib.hid (ho.lies)
    have B_7 := Lib.hid (Below.tr B_6.out hb)
    clear hb
    clear ho
    go_wp2_with fail
    refine (drawBy_any a1 len1 cap1 _ Y_7).mono ?_
    rintro e w8 ⟨yb, YB, yc2, mb, MB, mc, rfl, hyb, hgb, hmb, hmbl, hb⟩
    clear Y_7
    have L_8 := Lib.hid (L_7.out.below hb)
    clear L_7
    have LW_8 := Lib.hid (LW_7.out.below hb)
    clear LW_7
    have B_8 := Lib.hid (Below.tr B_7.out hb)
    clear hb
    have GB_8 := Lib.hid hgb
    have MB_8 := Lib.hid hmbl
    clear hgb hmbl
    obtain ⟨⟨b0, b1⟩, hbr⟩ : ∃ x, rInBy yb mb = x := ⟨_, rfl⟩
    have hbl := rInBy_len hbr
    have HBR := Lib.hid hbr
    clear hbr
    obtain ⟨nb, hnb⟩ : ∃ n, yb.length = n := ⟨_, rfl⟩
    obtain ⟨nm, hnm⟩ : ∃ n, mb.length = n := ⟨_, rfl⟩
    obtain ⟨bm, hbm⟩ : ∃ n, b0.length = n := ⟨_, rfl⟩
    rw [hnb] at hyb ⊢
    rw [hnm] at hmb ⊢
    rw [hbm] at hbl
    have HNB := Lib.hid hnb
    have HNM := Lib.hid hnm
    have HBM := Lib.hid hbm
    clear hnb hnm hbm
    go_wp2_with fail
    refine (implInBy_any YB nb yc2 MB nm mc yb mb _ b0 b1 HBR GB_8 HNB (by omega) MB_8 HNM (by omega)).mono ?_
    rintro e w9 ⟨A4, c4, rfl, ho, hb⟩
    rw [HBM.out] at ho ⊢
    have L_9 := Lib.hid (L_8.out.below hb)
    clear L_8
    have LW_9 := Lib.hid (LW_8.out.below hb)
    clear LW_8
    have GB_9 := Lib.hid (GB_8.out.below hb)
    clear GB_8
    have MB_9 := Lib.hid (MB_8.out.below hb)
    clear MB_8
    have I_9 := Lib.hid (own_bliesN HBM.out ho)
    have B_9 := Lib.hid (Below.tr B_8.out hb)
    clear hb
    clear ho
    go_wp2_with fail
    refine (specInBy_any YB nb yc2 MB nm mc yb mb _ b0 b1 HBR GB_9 HNB (by omega) MB_9 HNM (by omega)).mono ?_
    rintro e w10 ⟨A5, c5, rfl, ho, hb⟩
    rw [HBM.out] at ho ⊢
    have L_10 := Lib.hid (L_9.out.below hb)
    clear L_9
    have LW_10 := Lib.hid (LW_9.out.below hb)
    clear LW_9
    clear GB_9
    clear MB_9
    have I_10 := Lib.hid (I_9.out.below hb)
    clear I_9
    have IW_10 := Lib.hid (own_bliesN HBM.out ho)
    have B_10 := Lib.hid (Below.tr B_9.out hb)
    clear hb
    clear ho
    have hx0 : (g1 == g1) = true := by simp
    have hx1 : (b1 == b1) = true := by simp
    go_wp2_with fail
    refine (sameRows_same _ _ _ _ _ g0 _ L_10 LW_10 HGM (by omega) HGT).mono ?_
    rintro e w11 ⟨rfl, hb⟩
    have L_11 := Lib.hid (L_10.out.below hb)
    clear L_10
    have LW_11 := Lib.hid (LW_10.out.below hb)
    clear LW_10
    have I_11 := Lib.hid (I_10.out.below hb)
    clear I_10
    have IW_11 := Lib.hid (IW_10.out.below hb)
    clear IW_10
    have B_11 := Lib.hid (Below.tr B_10.out hb)
    clear hb
    go_wp2_with fail
    refine (sameBools_same _ _ _ _ _ b0 _ I_11 IW_11 HBM (by omega)).mono ?_
    rintro e w12 ⟨rfl, hb⟩
    have L_12 := Lib.hid (L_11.out.below hb)
    clear L_11
    have LW_12 := Lib.hid (LW_11.out.below hb)
    clear LW_11
    have I_12 := Lib.hid (I_11.out.below hb)
    clear I_11
    have IW_12 := Lib.hid (IW_11.out.below hb)
    clear IW_11
    have B_12 := Lib.hid (Below.tr B_11.out hb)
    clear hb
    go_wp2
    go_ret
    exact ⟨rfl, B_12.out⟩
  · obtain ⟨hg, hmn, rfl⟩ := hgo rfl
    have HG := Lib.hid hg
    have HMN := Lib.hid hmn
    clear hgo
    have hn12 : n ≤ 12 := by have := goodG_len hg; have := HX.out; omega
    have h1n : 1 ≤ n := by have := goodG_len hg; have := HX.out; omega
    obtain rfl : en = n := by rw [← HEN.out, evG_len, HX.out]
    obtain ⟨q, hq⟩ : ∃ q, nIn xs = q := ⟨_, rfl⟩
    have hqn : q ≤ en := by rw [← hq, ← HX.out]; exact inpN_le _ _
    obtain rfl : z = q := by rw [← HZ.out, hmn, hq]
    have HQ := Lib.hid hq
    clear hq hmn
    have EI : Hid (rInp xs = (inpI xs en, true)) := Lib.hid (by unfold rInp; rw [if_pos HG.out, HX.out])
    have EIL : Hid ((inpI xs en).length = z) := Lib.hid (by rw [inpI_len, ← HX.out, ← HQ.out]; rfl)
    go_wp2_with fail
    refine (implInp_any A en cp xs _ (inpI xs en) true EI G_4 HX (by omega)).mono ?_
    rintro e w5 ⟨A6, c6, rfl, ho, hb⟩
    have G_5 := Lib.hid (G_4.out.below hb)
    clear G_4
    have MI_5 := Lib.hid (MI_4.out.below hb)
    clear MI_4
    have Y_5 := Lib.hid (Y_4.out.below hb)
    clear Y_4
    have E_5 := Lib.hid (E_4.out.below hb)
    clear E_4
    have N_5 := Lib.hid (own_ilies ho)
    have B_5 := Lib.hid (Below.tr B_4.out hb)
    clear hb
    rw [EIL.out]
    clear ho
    go_wp2_with fail
    go_loopw [11, 84] (fun v i wr => ∃ k m : Nat, k ≤ en ∧ i = .int .i64 k ∧ (clsK xs k).length = m ∧ m ≤ 4 * k ∧ (∃ A2 c2 vs, v = .slice A2 m c2 ∧ OwnSS wr w5.heap.size (.slice A2 m c2) vs (clsK xs k)) ∧ Below w5.heap.size w5 wr) (fun _ i _ => en - (intOf i).toNat)
    case atStart => exact ⟨0, 0, Nat.zero_le _, rfl, rfl, Nat.le_refl _, ⟨none, 0, [], rfl, by rw [show clsK xs 0 = [] from rfl]; exact ⟨World.ownsRow_nil _ _ _ _, Inner.nil _ _, fun g _ e => by simp [Value.ownBlock] at e⟩⟩, Below.refl _ _⟩
    case round =>
      obtain ⟨k, m, hk, rfl, hm, hmk, ⟨AL, cL, vs, rfl, hown⟩, hb⟩ := hrel
      have HM := Lib.hid hm
      have O2 := Lib.hid hown
      clear hm hown
      have G_r := Lib.hid (G_5.out.below hb)
      have MI_r := Lib.hid (MI_5.out.below hb)
      have Y_r := Lib.hid (Y_5.out.below hb)
      have E_r := Lib.hid (E_5.out.below hb)
      have N_r := Lib.hid (N_5.out.below hb)
      have B_r := Lib.hid (Below.tr B_5.out hb)
      have BL_r := Lib.hid hb
      clear hb
      by_cases hlt : k < en
      · obtain ⟨x, hx⟩ : ∃ x, xs[k]? = some x := ⟨_, List.getElem?_eq_getElem (by have := HX.out; omega)⟩
        have ER : Hid (rGc xs (k : Int) = (oneC x ((k : Int) + 1), true)) := Lib.hid (by unfold rGc; rw [if_pos ⟨HG.out, by rw [HX.out]; exact ixB_mk (by omega) (by omega)⟩, Int.toNat_natCast, gk_at hx])
        have E2 := Lib.hid (clsK_succ hx)
        have hp4 := oneC_len x ((k : Int) + 1)
        obtain ⟨p, hp⟩ : ∃ p, (oneC x ((k : Int) + 1)).length = p := ⟨_, rfl⟩
        rw [hp] at hp4
        have HP := Lib.hid hp
        clear hp hx
        go_wp2_with fail
        refine (implGc_any (k : Int) A en cp xs _ (oneC x ((k : Int) + 1)) true ER G_r HX (by omega)).mono ?_
        rintro e w3g ⟨A3g, c3g, vs3, rfl, ho3, hb⟩
        rw [HP.out] at ho3 ⊢
        have O3 := Lib.hid ho3
        have O4 := Lib.hid (O2.out.below hb)
        have OU : Hid (w3g.ownsRow w5.heap.size 55 1 (.slice AL m cL) m vs) := Lib.hid (by have := O4.out.outer; rw [HM.out] at this; exact this)
        have OP : Hid (w3g.ownsRow wr.heap.size 55 1 (.slice A3g p c3g) p vs3) := Lib.hid (by have := O3.out.outer; rw [HP.out] at this; exact this)
        have BQ := Lib.hid (Below.tr BL_r.out hb)
        have SB := Lib.hid BL_r.out.size
        clear ho3 hb
        go_wp2_with (at_builtin; (refine append_rowsN (w1 := w3g) (base := w5.heap.size) (xs := vs) (vs := vs3) _ _ rfl rfl rfl rfl OU.out (ownG_cells OP.out) O3.out.inner.one (by rw [O3.out.inner.len, HP.out]) (ownG_nil OP.out) (by have := BQ.out.size; omega) (by omega) (by omega) ?_; intro A4g c4g w4g ho4 hk4 hat4; have H4 := Lib.hid (OwnSS.app O4.out HM.out O3.out HP.out SB.out (fun g h => (O2.out.outer.lt g h).2) (fun g h => (O2.out.inner.lt g h).2) ho4 hk4 hat4); have B4 := Lib.hid (hk4.below BQ.out BQ.out.size (fun i e => by have := (OU.out.lt i e).1; omega)); clear ho4 hk4 hat4))
        go_roundw
        case rel => exact ⟨k + 1, m + p, by omega, by go_num, by rw [E2.out, List.length_append, HM.out, HP.out], by omega, ⟨A4g, c4g, _, rfl, by rw [E2.out]; exact H4.out⟩, B4.out⟩
        case measure => simp [intOf]; omega
      · obtain rfl : k = en := by omega
        have L_r := Lib.hid (by have := O2.out; exact OwnSS.lies this)
        obtain ⟨wz, hwz⟩ : ∃ x, x = wr := ⟨_, rfl⟩
        subst hwz
        obtain ⟨i0, hi0, hz0, hz1, hz2⟩ := info_parts info_int
        go_wp2_with fail
        go_loopw [12, 101] (fun v i wr => ∃ j : Nat, j ≤ z ∧ i = .int .i64 j ∧ (givN xs M j).length = j ∧ (∃ A2 c2, v = .slice A2 j c2 ∧ wr.ownsRow wz.heap.size 3 1 (.slice A2 j c2) j ((givN xs M j).map (Value.int .i64))) ∧ Below wz.heap.size wz wr) (fun _ i _ => z - (intOf i).toNat)
        case atStart => exact ⟨0, Nat.zero_le _, rfl, by rw [givN_zero]; rfl, ⟨none, 0, rfl, by rw [givN_zero]; exact World.ownsRow_nil _ _ _ _⟩, Below.refl _ _⟩
        case round =>
          obtain ⟨j, hj, rfl, hjl, ⟨AG, cG, rfl, hown⟩, hb⟩ := hrel
          have OG := Lib.hid hown
          have HJL := Lib.hid hjl
          clear hown hjl
          have G_q := Lib.hid (G_r.out.below hb)
          have MI_q := Lib.hid (MI_r.out.below hb)
          have Y_q := Lib.hid (Y_r.out.below hb)
          have E_q := Lib.hid (E_r.out.below hb)
          have N_q := Lib.hid (N_r.out.below hb)
          have L_q := Lib.hid (L_r.out.below hb)
          have B_q := Lib.hid (Below.tr B_r.out hb)
          have BL_q := Lib.hid hb
          clear hb
          by_cases hlt2 : j < z
          · obtain ⟨i, hi⟩ : ∃ i, (inpN xs k)[j]? = some i := ⟨_, List.getElem?_eq_getElem (by have := EIL.out; rw [inpI_len] at this; omega)⟩
            have hii := inpN_lt (List.mem_of_getElem? hi)
            have hI : (inpI xs k)[j]? = some (i : Int) := by unfold inpI; rw [List.getElem?_map, hi]; rfl
            obtain ⟨b1, off1, hA6, hbl1, r1⟩ := N_q.out j _ hI
            obtain ⟨bb, hbb⟩ : ∃ b, M[j]? = some b := ⟨_, List.getElem?_eq_getElem (by rw [HZ.out]; exact hlt2)⟩
            obtain ⟨b2, off2, hMA, hbl2, r2⟩ := MI_q.out j bb hbb
            subst hA6 hMA
            have GS := Lib.hid (givN_succ (M := M) (by rw [HX.out]; exact hi) hbb)
            clear hI hbb hi
            cases bb
            · have GS2 : Hid (givN xs M (j + 1) = givN xs M j ++ [-(i : Int) - 1]) := Lib.hid (by rw [GS.out]; rfl)
              go_wp2_with (at_builtin; (refine wpList_append_lies _ rfl _ _ 55 rfl wz.heap.size 3 i0 (.int .i64 0) 1 8 Try.underlying55 hi0 hz0 hz1 hz2 rfl (by omega) _ j _ rfl (OG.out.alloc _) ⟨wr.heap.size, 0, none⟩ 1 1 [.int .i64 (-(i : Int) - 1)] rfl rfl (one_new1 wr _ _) (by intro u hu; rw [List.mem_singleton.1 hu]; rfl) (by omega) (by unfold maxLen; omega) (by omega) (by have := BL_q.out.size; first | omega | (simp; omega)) (wr.heap.size + 1) (by first | rfl | simp) ?_; intro g3 cap3 w4g hown3 hg3 hat3 hlt3; have H3 := Lib.hid (app1 OG.out hown3 hg3 BL_q.out (Nat.le_refl _)); clear hown3 hg3 hat3 hlt3))
              go_roundw
              case rel => exact ⟨j + 1, by omega, by go_num, by rw [GS2.out, List.length_append, HJL.out]; rfl, ⟨some ⟨g3, 0, none⟩, cap3, rfl, by rw [GS2.out]; exact H3.out.1⟩, H3.out.2⟩
              case measure => simp [intOf]; omega
            · have GS2 : Hid (givN xs M (j + 1) = givN xs M j ++ [(i : Int) + 1]) := Lib.hid (by rw [GS.out]; rfl)
              go_wp2_with (at_builtin; (refine wpList_append_lies _ rfl _ _ 55 rfl wz.heap.size 3 i0 (.int .i64 0) 1 8 Try.underlying55 hi0 hz0 hz1 hz2 rfl (by omega) _ j _ rfl (OG.out.alloc _) ⟨wr.heap.size, 0, none⟩ 1 1 [.int .i64 ((i : Int) + 1)] rfl rfl (one_new1 wr _ _) (by intro u hu; rw [List.mem_singleton.1 hu]; rfl) (by omega) (by unfold maxLen; omega) (by omega) (by have := BL_q.out.size; first | omega | (simp; omega)) (wr.heap.size + 1) (by first | rfl | simp) ?_; intro g3 cap3 w4g hown3 hg3 hat3 hlt3; have H3 := Lib.hid (app1 OG.out hown3 hg3 BL_q.out (Nat.le_refl _)); clear hown3 hg3 hat3 hlt3))
              go_roundw
              case rel => exact ⟨j + 1, by omega, by go_num, by rw [GS2.out, List.length_append, HJL.out]; rfl, ⟨some ⟨g3, 0, none⟩, cap3, rfl, by rw [GS2.out]; exact H3.out.1⟩, H3.out.2⟩
              case measure => simp [intOf]; omega
          · obtain rfl : j = z := by omega
            have GI := giv_ok HG.out HMN.out (nIn xs) (Nat.le_refl _)
            obtain ⟨r, pb, hpr⟩ : ∃ r b, propN (clsK xs xs.length) 20 (givN xs M (nIn xs)) = (r, b) := ⟨_, _, rfl⟩
            obtain ⟨hpb, hrl, hrt, hrlit⟩ := up_all HG.out HMN.out hpr
            subst hpb
            rw [HX.out] at hrl
            have RL := Lib.hid hrl
            have RT := Lib.hid hrt
            have RI : Hid (∀ x ∈ r, litB (k : Int) x = true) := Lib.hid (by rw [← HX.out]; exact hrlit)
            have PR : Hid (PropR (k : Int) (clsK xs k) (givN xs M j) r false true) := Lib.hid (by have h1 := clsK_good HG.out; have h2 := GI.cl; rw [HX.out] at h1 h2 hpr; rw [HQ.out] at h2 hpr; exact ⟨by rw [h1, h2]; rfl, fun _ => hpr, fun q => by cases q⟩)
            clear GI hpr hrl hrt hrlit
            have GNL := Lib.hid (ownG_nil OG.out)
            have GL_q := Lib.hid (own_iliesN HJL.out OG.out)
            have znn : ((k : Int) != (k : Int)) = false := by simp
            go_wp2_with fail
            refine (implProp_any (k : Int) _ _ m j _ _ (clsK xs k) (givN xs M j) _ r false true PR L_q GL_q HM HJL GNL (by omega) (by omega)).mono ?_
            rintro e w6 ⟨AP, cP, rfl, ho, hb⟩
            rw [RL.out] at ho ⊢
            have G_6 := Lib.hid (G_q.out.below hb)
            clear G_q
            have MI_6 := Lib.hid (MI_q.out.below hb)
            clear MI_q
            have Y_6 := Lib.hid (Y_q.out.below hb)
            clear Y_q
            have E_6 := Lib.hid (E_q.out.below hb)
            clear E_q
            clear N_q
            clear L_q
            clear GL_q
            have R_6 := Lib.hid (own_iliesN RL.out ho)
            have B_6 := Lib.hid (Below.tr B_q.out hb)
            clear hb
            clear ho
            go_wp2_with fail
            refine (allIn_any _ _ k k _ _ r (evG xs M) _ R_6 E_6 RL HEN RI (by omega) (by omega)).mono ?_
            rintro e w' ⟨rfl, rfl⟩
            rw [RT.out]
            obtain ⟨⟨L2, cok⟩, hcr⟩ : ∃ x, rCls xs = x := ⟨_, rfl⟩
            have hLl := rCls_len hcr
            have HCR := Lib.hid hcr
            have EC := Lib.hid (rCls_yes hcr HG.out)
            obtain rfl : cok = true := EC.out.2
            obtain ⟨⟨c, ins, ok2⟩, hkr⟩ : ∃ x, rCan xs = x := ⟨_, rfl⟩
            have HKR := Lib.hid hkr
            obtain rfl : ok2 = true := (rCan_yes hkr HG.out).2
            obtain ⟨m2, hm2⟩ : ∃ n, L2.length = n := ⟨_, rfl⟩
            rw [hm2] at hLl
            have HM2 := Lib.hid hm2
            clear hm2 hcr hkr
            go_wp2_with fail
            refine (implCls_any A k cp xs _ L2 true HCR G_6 HX (by omega)).mono ?_
            rintro e w7 ⟨A8, c8, vs8, rfl, ho, hb⟩
            rw [HM2.out] at ho ⊢
            have LN := Lib.hid (own_lnilY ho HM2.out)
            have G_7 := Lib.hid (G_6.out.below hb)
            clear G_6
            clear MI_6
            have Y_7 := Lib.hid (Y_6.out.below hb)
            clear Y_6
            clear E_6
            clear R_6
            have L_7 := Lib.hid (ho.lies)
            have B_7 := Lib.hid (Below.tr B_6.out hb)
            clear hb
            clear ho
            go_wp2_with fail
            refine (implCan_any A k cp xs _ c ins true HKR G_7 HX (by omega)).mono ?_
            rintro e w8 ⟨A9, c9, rfl, _, hb⟩
            clear G_7
            have Y_8 := Lib.hid (Y_7.out.below hb)
            clear Y_7
            have L_8 := Lib.hid (L_7.out.below hb)
            clear L_7
            have B_8 := Lib.hid (Below.tr B_7.out hb)
            clear hb
            obtain ⟨ss, SM, SR, sok, hsr⟩ := solR_any (k : Int) L2
            have HSR := Lib.hid hsr
            clear hsr
            have hsc : sok = true → (ss != c) = false := fun e => by subst e; exact sol_can HG.out HX.out EC.out.1 HSR.out HKR.out
            go_wp2_with fail
            refine (implSolve_any (k : Int) _ m2 _ L2 _ ss SM SR sok HSR L_8 HM2 LN (by omega)).mono ?_
            rintro e w9 ⟨A10, c10, B10, d10, vs10, rfl, _, _, _, hb⟩
            have Y_9 := Lib.hid (Y_8.out.below hb)
            clear Y_8
            clear L_8
            have B_9 := Lib.hid (Below.tr B_8.out hb)
            clear hb
            cases sok
            · clear hsc
              go_wp2_with fail
              refine (drawGc_any a1 len1 cap1 _ Y_9).mono ?_
              rintro e w10 ⟨ya, YA, yc1, v, rfl, hya, hga, hv, hb⟩
              have Y_10 := Lib.hid (Y_9.out.below hb)
              clear Y_9
              have B_10 := Lib.hid (Below.tr B_9.out hb)
              clear hb
              have GA_10 := Lib.hid hga
              clear hga
              obtain ⟨⟨g0, g1⟩, hgr⟩ : ∃ x, rGc ya v = x := ⟨_, rfl⟩
              have hgl := rGc_len hgr
              have hgt : tot g0 ≤ 1000 := rGc_tot hgr
              have HGR := Lib.hid hgr
              clear hgr
              obtain ⟨na, hna⟩ : ∃ n, ya.length = n := ⟨_, rfl⟩
              rw [hna] at hya ⊢
              have HNA := Lib.hid hna
              obtain ⟨gm, hgm⟩ : ∃ n, g0.length = n := ⟨_, rfl⟩
              rw [hgm] at hgl
              have HGM := Lib.hid hgm
              have HGT : Hid (tot g0 ≤ 10000000) := Lib.hid (by omega)
              clear hna hgm hgt
              go_wp2_with fail
              refine (implGc_any v YA na yc1 ya _ g0 g1 HGR GA_10 HNA (by omega)).mono ?_
              rintro e w11 ⟨A2, c2, vs2, rfl, ho, hb⟩
              rw [HGM.out] at ho ⊢
              have Y_11 := Lib.hid (Y_10.out.below hb)
              clear Y_10
              have GA_11 := Lib.hid (GA_10.out.below hb)
              clear GA_10
              have L_11 := Lib.hid (ho.lies)
              have B_11 := Lib.hid (Below.tr B_10.out hb)
              clear hb
              clear ho
              go_wp2_with fail
              refine (specGc_any v YA na yc1 ya _ g0 g1 HGR GA_11 HNA (by omega)).mono ?_
              rintro e w12 ⟨A3, c3, vs3, rfl, ho, hb⟩
              rw [HGM.out] at ho ⊢
              have Y_12 := Lib.hid (Y_11.out.below hb)
              clear Y_11
              clear GA_11
              have L_12 := Lib.hid (L_11.out.below hb)
              clear L_11
              have LW_12 := Lib.hid (ho.lies)
              have B_12 := Lib.hid (Below.tr B_11.out hb)
              clear hb
              clear ho
              go_wp2_with fail
              refine (drawBy_any a1 len1 cap1 _ Y_12).mono ?_
              rintro e w13 ⟨yb, YB, yc2, mb, MB, mc, rfl, hyb, hgb, hmb, hmbl, hb⟩
              clear Y_12
              have L_13 := Lib.hid (L_12.out.below hb)
              clear L_12
              have LW_13 := Lib.hid (LW_12.out.below hb)
              clear LW_12
              have B_13 := Lib.hid (Below.tr B_12.out hb)
              clear hb
              have GB_13 := Lib.hid hgb
              have MB_13 := Lib.hid hmbl
              clear hgb hmbl
              obtain ⟨⟨b0, b1⟩, hbr⟩ : ∃ x, rInBy yb mb = x := ⟨_, rfl⟩
              have hbl := rInBy_len hbr
              have HBR := Lib.hid hbr
              clear hbr
              obtain ⟨nb, hnb⟩ : ∃ n, yb.length = n := ⟨_, rfl⟩
              obtain ⟨nm, hnm⟩ : ∃ n, mb.length = n := ⟨_, rfl⟩
              obtain ⟨bm, hbm⟩ : ∃ n, b0.length = n := ⟨_, rfl⟩
              rw [hnb] at hyb ⊢
              rw [hnm] at hmb ⊢
              rw [hbm] at hbl
              have HNB := Lib.hid hnb
              have HNM := Lib.hid hnm
              have HBM := Lib.hid hbm
              clear hnb hnm hbm
              go_wp2_with fail
              refine (implInBy_any YB nb yc2 MB nm mc yb mb _ b0 b1 HBR GB_13 HNB (by omega) MB_13 HNM (by omega)).mono ?_
              rintro e w14 ⟨A4, c4, rfl, ho, hb⟩
              rw [HBM.out] at ho ⊢
              have L_14 := Lib.hid (L_13.out.below hb)
              clear L_13
              have LW_14 := Lib.hid (LW_13.out.below hb)
              clear LW_13
              have GB_14 := Lib.hid (GB_13.out.below hb)
              clear GB_13
              have MB_14 := Lib.hid (MB_13.out.below hb)
              clear MB_13
              have I_14 := Lib.hid (own_bliesN HBM.out ho)
              have B_14 := Lib.hid (Below.tr B_13.out hb)
              clear hb
              clear ho
              go_wp2_with fail
              refine (specInBy_any YB nb yc2 MB nm mc yb mb _ b0 b1 HBR GB_14 HNB (by omega) MB_14 HNM (by omega)).mono ?_
              rintro e w15 ⟨A5, c5, rfl, ho, hb⟩
              rw [HBM.out] at ho ⊢
              have L_15 := Lib.hid (L_14.out.below hb)
              clear L_14
              have LW_15 := Lib.hid (LW_14.out.below hb)
              clear LW_14
              clear GB_14
              clear MB_14
              have I_15 := Lib.hid (I_14.out.below hb)
              clear I_14
              have IW_15 := Lib.hid (own_bliesN HBM.out ho)
              have B_15 := Lib.hid (Below.tr B_14.out hb)
              clear hb
              clear ho
              have hx0 : (g1 == g1) = true := by simp
              have hx1 : (b1 == b1) = true := by simp
              go_wp2_with fail
              refine (sameRows_same _ _ _ _ _ g0 _ L_15 LW_15 HGM (by omega) HGT).mono ?_
              rintro e w16 ⟨rfl, hb⟩
              have L_16 := Lib.hid (L_15.out.below hb)
              clear L_15
              have LW_16 := Lib.hid (LW_15.out.below hb)
              clear LW_15
              have I_16 := Lib.hid (I_15.out.below hb)
              clear I_15
              have IW_16 := Lib.hid (IW_15.out.below hb)
              clear IW_15
              have B_16 := Lib.hid (Below.tr B_15.out hb)
              clear hb
              go_wp2_with fail
              refine (sameBools_same _ _ _ _ _ b0 _ I_16 IW_16 HBM (by omega)).mono ?_
              rintro e w17 ⟨rfl, hb⟩
              have L_17 := Lib.hid (L_16.out.below hb)
              clear L_16
              have LW_17 := Lib.hid (LW_16.out.below hb)
              clear LW_16
              have I_17 := Lib.hid (I_16.out.below hb)
              clear I_16
              have IW_17 := Lib.hid (IW_16.out.below hb)
              clear IW_16
              have B_17 := Lib.hid (Below.tr B_16.out hb)
              clear hb
              go_wp2
              go_ret
              exact ⟨rfl, B_17.out⟩
            · obtain rfl : ss = c := by simpa using hsc rfl
              go_wp2_with fail
              refine (drawGc_any a1 len1 cap1 _ Y_9).mono ?_
              rintro e w10 ⟨ya, YA, yc1, v, rfl, hya, hga, hv, hb⟩
              have Y_10 := Lib.hid (Y_9.out.below hb)
              clear Y_9
              have B_10 := Lib.hid (Below.tr B_9.out hb)
              clear hb
              have GA_10 := Lib.hid hga
              clear hga
              obtain ⟨⟨g0, g1⟩, hgr⟩ : ∃ x, rGc ya v = x := ⟨_, rfl⟩
              have hgl := rGc_len hgr
              have hgt : tot g0 ≤ 1000 := rGc_tot hgr
              have HGR := Lib.hid hgr
              clear hgr
              obtain ⟨na, hna⟩ : ∃ n, ya.length = n := ⟨_, rfl⟩
              rw [hna] at hya ⊢
              have HNA := Lib.hid hna
              obtain ⟨gm, hgm⟩ : ∃ n, g0.length = n := ⟨_, rfl⟩
              rw [hgm] at hgl
              have HGM := Lib.hid hgm
              have HGT : Hid (tot g0 ≤ 10000000) := Lib.hid (by omega)
              clear hna hgm hgt
              go_wp2_with fail
              refine (implGc_any v YA na yc1 ya _ g0 g1 HGR GA_10 HNA (by omega)).mono ?_
              rintro e w11 ⟨A2, c2, vs2, rfl, ho, hb⟩
              rw [HGM.out] at ho ⊢
              have Y_11 := Lib.hid (Y_10.out.below hb)
              clear Y_10
              have GA_11 := Lib.hid (GA_10.out.below hb)
              clear GA_10
              have L_11 := Lib.hid (ho.lies)
              have B_11 := Lib.hid (Below.tr B_10.out hb)
              clear hb
              clear ho
              go_wp2_with fail
              refine (specGc_any v YA na yc1 ya _ g0 g1 HGR GA_11 HNA (by omega)).mono ?_
              rintro e w12 ⟨A3, c3, vs3, rfl, ho, hb⟩
              rw [HGM.out] at ho ⊢
              have Y_12 := Lib.hid (Y_11.out.below hb)
              clear Y_11
              clear GA_11
              have L_12 := Lib.hid (L_11.out.below hb)
              clear L_11
              have LW_12 := Lib.hid (ho.lies)
              have B_12 := Lib.hid (Below.tr B_11.out hb)
              clear hb
              clear ho
              go_wp2_with fail
              refine (drawBy_any a1 len1 cap1 _ Y_12).mono ?_
              rintro e w13 ⟨yb, YB, yc2, mb, MB, mc, rfl, hyb, hgb, hmb, hmbl, hb⟩
              clear Y_12
              have L_13 := Lib.hid (L_12.out.below hb)
              clear L_12
              have LW_13 := Lib.hid (LW_12.out.below hb)
              clear LW_12
              have B_13 := Lib.hid (Below.tr B_12.out hb)
              clear hb
              have GB_13 := Lib.hid hgb
              have MB_13 := Lib.hid hmbl
              clear hgb hmbl
              obtain ⟨⟨b0, b1⟩, hbr⟩ : ∃ x, rInBy yb mb = x := ⟨_, rfl⟩
              have hbl := rInBy_len hbr
              have HBR := Lib.hid hbr
              clear hbr
              obtain ⟨nb, hnb⟩ : ∃ n, yb.length = n := ⟨_, rfl⟩
              obtain ⟨nm, hnm⟩ : ∃ n, mb.length = n := ⟨_, rfl⟩
              obtain ⟨bm, hbm⟩ : ∃ n, b0.length = n := ⟨_, rfl⟩
              rw [hnb] at hyb ⊢
              rw [hnm] at hmb ⊢
              rw [hbm] at hbl
              have HNB := Lib.hid hnb
              have HNM := Lib.hid hnm
              have HBM := Lib.hid hbm
              clear hnb hnm hbm
              go_wp2_with fail
              refine (implInBy_any YB nb yc2 MB nm mc yb mb _ b0 b1 HBR GB_13 HNB (by omega) MB_13 HNM (by omega)).mono ?_
              rintro e w14 ⟨A4, c4, rfl, ho, hb⟩
              rw [HBM.out] at ho ⊢
              have L_14 := Lib.hid (L_13.out.below hb)
              clear L_13
              have LW_14 := Lib.hid (LW_13.out.below hb)
              clear LW_13
              have GB_14 := Lib.hid (GB_13.out.below hb)
              clear GB_13
              have MB_14 := Lib.hid (MB_13.out.below hb)
              clear MB_13
              have I_14 := Lib.hid (own_bliesN HBM.out ho)
              have B_14 := Lib.hid (Below.tr B_13.out hb)
              clear hb
              clear ho
              go_wp2_with fail
              refine (specInBy_any YB nb yc2 MB nm mc yb mb _ b0 b1 HBR GB_14 HNB (by omega) MB_14 HNM (by omega)).mono ?_
              rintro e w15 ⟨A5, c5, rfl, ho, hb⟩
              rw [HBM.out] at ho ⊢
              have L_15 := Lib.hid (L_14.out.below hb)
              clear L_14
              have LW_15 := Lib.hid (LW_14.out.below hb)
              clear LW_14
              clear GB_14
              clear MB_14
              have I_15 := Lib.hid (I_14.out.below hb)
              clear I_14
              have IW_15 := Lib.hid (own_bliesN HBM.out ho)
              have B_15 := Lib.hid (Below.tr B_14.out hb)
              clear hb
              clear ho
              have hx0 : (g1 == g1) = true := by simp
              have hx1 : (b1 == b1) = true := by simp
              go_wp2_with fail
              refine (sameRows_same _ _ _ _ _ g0 _ L_15 LW_15 HGM (by omega) HGT).mono ?_
              rintro e w16 ⟨rfl, hb⟩
              have L_16 := Lib.hid (L_15.out.below hb)
              clear L_15
              have LW_16 := Lib.hid (LW_15.out.below hb)
              clear LW_15
              have I_16 := Lib.hid (I_15.out.below hb)
              clear I_15
              have IW_16 := Lib.hid (IW_15.out.below hb)
              clear IW_15
              have B_16 := Lib.hid (Below.tr B_15.out hb)
              clear hb
              go_wp2_with fail
              refine (sameBools_same _ _ _ _ _ b0 _ I_16 IW_16 HBM (by omega)).mono ?_
              rintro e w17 ⟨rfl, hb⟩
              have L_17 := Lib.hid (L_16.out.below hb)
              clear L_16
              have LW_17 := Lib.hid (LW_16.out.below hb)
              clear LW_16
              have I_17 := Lib.hid (I_16.out.below hb)
              clear I_16
              have IW_17 := Lib.hid (IW_16.out.below hb)
              clear IW_16
              have B_17 := Lib.hid (Below.tr B_16.out hb)
              clear hb
              go_wp2
              go_ret
              exact ⟨rfl, B_17.out⟩
end Go.Proofs.Ytklcfbjaodildaa
