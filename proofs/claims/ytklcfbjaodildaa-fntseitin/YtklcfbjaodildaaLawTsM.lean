/-
  The walk of FnTseitin.
-/
import Derived.Test.YtklcfbjaodildaaGi9
import Derived.Test.YtklcfbjaodildaaGtD
import Derived.Test.YtklcfbjaodildaaGtSem
namespace Go.Proofs.Ytklcfbjaodildaa
open Go.ChangeShapes Go.WideShapes Go.ChangeAt Go.RowKit

theorem cntO_pos {xs : List Gt} {N : Nat} : 0 < cntO xs N ↔ ∃ k, k < N ∧ outG xs (modelN (nIn xs) k) = true := by
  induction N with
  | zero => simp [cntO]
  | succ N ih =>
    rw [cntO]
    cases q : outG xs (modelN (nIn xs) N)
    · simp only [Bool.false_eq_true, if_false, Nat.add_zero, ih]
      constructor
      · rintro ⟨k, h, e⟩; exact ⟨k, by omega, e⟩
      · rintro ⟨k, h, e⟩
        refine ⟨k, ?_, e⟩
        rcases Nat.lt_or_ge k N with h' | h'
        · exact h'
        · obtain rfl : k = N := by omega
          rw [q] at e; cases e
    · simp only [if_true]
      exact ⟨fun _ => ⟨N, by omega, q⟩, fun _ => by omega⟩
theorem can_cnt {xs : List Gt} {c : Bool} {ins : List Bool} {b : Bool} {cn : Nat} (h : rCan xs = (c, ins, b)) (hg : goodGB xs = true) (hc : cntO xs (2 ^ nIn xs) = cn) : (c != decide ((0 : Int) < (cn : Int))) = false := by
  rcases (rCan_yes h hg).1 with ⟨k, h1, _, h3, rfl, _⟩ | ⟨h1, rfl, _⟩
  · have : 0 < cn := by rw [← hc]; exact cntO_pos.2 ⟨k, h1, h3⟩
    simp; omega
  · have : ¬ 0 < cn := fun h0 => by
      rw [← hc] at h0
      obtain ⟨k, h2, h3⟩ := cntO_pos.1 h0
      have h4 : outG xs (modelN (nIn xs) k) = false := h1 k h2
      rw [h3] at h4
      cases h4
    simp; omega
set_option maxRecDepth 100000 in
set_option maxHeartbeats 64000000 in
theorem lawTseitin (a0 : Option Addr) (len0 cap0 : Nat) (a1 : Option Addr) (len1 cap1 : Nat) (w : World) (h0 : Hid (Bytes w a0 len0)) (h1 : Hid (Bytes w a1 len1)) :
    Calls Try.prog 4 #[.slice a0 len0 cap0, .slice a1 len1 cap1] w fun e w' => e = .returned (.bool true) ∧ Below w.heap.size w w' := by
  by_cases hbig : (1048576 : Int) < wrap64 ((len0 : Int) + (len1 : Int))
  · go_enter Try.func4, Try.ntmps4
    go_wp2
    go_ret
    exact ⟨rfl, Below.refl _ _⟩
  have hdec : decide ((1048576 : Int) < wrap64 ((len0 : Int) + (len1 : Int))) = false := decide_eq_false hbig
  clear hbig
  go_enter Try.func4, Try.ntmps4
  go_wp2_with fail
  refine (drawCls_any a0 len0 cap0 _ h0).mono ?_
  rintro e w1 ⟨xs, A, cp, rfl, hxl, hg, hb⟩
  have G_1 := Lib.hid (hg)
  have Y_1 := Lib.hid (h1.out.below hb)
  have B_1 := Lib.hid (Below.tr (Below.refl _ _) hb)
  clear hb
  clear hg h0 h1
  obtain ⟨n, hn⟩ : ∃ n, xs.length = n := ⟨_, rfl⟩
  rw [hn] at hxl ⊢
  have HX := Lib.hid hn
  clear hn
  obtain ⟨⟨L, ok⟩, hcr⟩ : ∃ x, rCls xs = x := ⟨_, rfl⟩
  have hLl := rCls_len hcr
  have hLt : tot L ≤ 1000 := rCls_tot hcr
  have HCR := Lib.hid hcr
  obtain ⟨⟨c, ins, ok2⟩, hkr⟩ : ∃ x, rCan xs = x := ⟨_, rfl⟩
  have hil := rCan_len hkr
  have HKR := Lib.hid hkr
  obtain ⟨m, hm⟩ : ∃ n, L.length = n := ⟨_, rfl⟩
  obtain ⟨iq, hiq⟩ : ∃ n, ins.length = n := ⟨_, rfl⟩
  rw [hm] at hLl
  rw [hiq] at hil
  have HM := Lib.hid hm
  have HIQ := Lib.hid hiq
  clear hm hiq hcr hkr
  have HLT : Hid (tot L ≤ 10000000) := Lib.hid (by omega)
  clear hLt
  go_wp2_with fail
  refine (implCls_any A n cp xs _ L ok HCR G_1 HX (by omega)).mono ?_
  rintro e w2 ⟨A2, c2, vs2, rfl, ho, hb⟩
  rw [HM.out] at ho ⊢
  have G_2 := Lib.hid (G_1.out.below hb)
  clear G_1
  have Y_2 := Lib.hid (Y_1.out.below hb)
  clear Y_1
  have L_2 := Lib.hid (ho.lies)
  have B_2 := Lib.hid (Below.tr B_1.out hb)
  clear hb
  clear ho
  go_wp2_with fail
  refine (specCls_any A n cp xs _ L ok HCR G_2 HX (by omega)).mono ?_
  rintro e w3 ⟨A3, c3, vs3, rfl, ho, hb⟩
  rw [HM.out] at ho ⊢
  have G_3 := Lib.hid (G_2.out.below hb)
  clear G_2
  have Y_3 := Lib.hid (Y_2.out.below hb)
  clear Y_2
  have L_3 := Lib.hid (L_2.out.below hb)
  clear L_2
  have LW_3 := Lib.hid (ho.lies)
  have B_3 := Lib.hid (Below.tr B_2.out hb)
  clear hb
  clear ho
  go_wp2_with fail
  refine (implCan_any A n cp xs _ c ins ok2 HKR G_3 HX (by omega)).mono ?_
  rintro e w4 ⟨A4, c4, rfl, ho, hb⟩
  have G_4 := Lib.hid (G_3.out.below hb)
  clear G_3
  have Y_4 := Lib.hid (Y_3.out.below hb)
  clear Y_3
  have L_4 := Lib.hid (L_3.out.below hb)
  clear L_3
  have LW_4 := Lib.hid (LW_3.out.below hb)
  clear LW_3
  have I_4 := Lib.hid (own_blies ho)
  have B_4 := Lib.hid (Below.tr B_3.out hb)
  clear hb
  rw [HIQ.out]
  clear ho
  go_wp2_with fail
  refine (specCan_any A n cp xs _ c ins ok2 HKR G_4 HX (by omega)).mono ?_
  rintro e w5 ⟨A5, c5, rfl, ho, hb⟩
  have G_5 := Lib.hid (G_4.out.below hb)
  clear G_4
  have Y_5 := Lib.hid (Y_4.out.below hb)
  clear Y_4
  have L_5 := Lib.hid (L_4.out.below hb)
  clear L_4
  have LW_5 := Lib.hid (LW_4.out.below hb)
  clear LW_4
  have I_5 := Lib.hid (I_4.out.below hb)
  clear I_4
  have IW_5 := Lib.hid (own_blies ho)
  have B_5 := Lib.hid (Below.tr B_4.out hb)
  clear hb
  rw [HIQ.out]
  clear ho
  have z1 : (ok != ok) = false := by simp
  have z2 : (ok2 != ok2) = false := by simp
  have z3 : (c != c) = false := by simp
  go_wp2_with fail
  refine (sameRows_same _ _ _ _ _ L _ L_5 LW_5 HM (by omega) HLT).mono ?_
  rintro e w6 ⟨rfl, hb⟩
  have G_6 := Lib.hid (G_5.out.below hb)
  clear G_5
  have Y_6 := Lib.hid (Y_5.out.below hb)
  clear Y_5
  have L_6 := Lib.hid (L_5.out.below hb)
  clear L_5
  have LW_6 := Lib.hid (LW_5.out.below hb)
  clear LW_5
  have I_6 := Lib.hid (I_5.out.below hb)
  clear I_5
  have IW_6 := Lib.hid (IW_5.out.below hb)
  clear IW_5
  have B_6 := Lib.hid (Below.tr B_5.out hb)
  clear hb
  go_wp2_with fail
  refine (sameBools_same _ _ _ _ _ ins _ I_6 IW_6 HIQ (by omega)).mono ?_
  rintro e w7 ⟨rfl, hb⟩
  have G_7 := Lib.hid (G_6.out.below hb)
  clear G_6
  have Y_7 := Lib.hid (Y_6.out.below hb)
  clear Y_6
  have L_7 := Lib.hid (L_6.out.below hb)
  clear L_6
  clear LW_6
  clear I_6
  clear IW_6
  have B_7 := Lib.hid (Below.tr B_6.out hb)
  clear hb
  go_wp2_with fail
  refine (implGoodG_any A n cp xs _ G_7 HX (by omega)).mono ?_
  rintro e w8 ⟨rfl, hb⟩
  have G_8 := Lib.hid (G_7.out.below hb)
  clear G_7
  have Y_8 := Lib.hid (Y_7.out.below hb)
  clear Y_7
  have L_8 := Lib.hid (L_7.out.below hb)
  clear L_7
  have B_8 := Lib.hid (Below.tr B_7.out hb)
  clear hb
  cases hg : goodGB xs
  · have E := Lib.hid (rCls_no HCR.out hg)
    obtain rfl : ok = false := E.out.2
    go_wp2_with fail
    refine (drawAlw_any a1 len1 cap1 _ Y_8).mono ?_
    rintro e w9 ⟨ya, yb, YA, YB, yc1, yc2, rfl, hya, hyb, hga, hgb, hb⟩
    have G_9 := Lib.hid (G_8.out.below hb)
    clear G_8
    have Y_9 := Lib.hid (Y_8.out.below hb)
    clear Y_8
    have L_9 := Lib.hid (L_8.out.below hb)
    clear L_8
    have B_9 := Lib.hid (Below.tr B_8.out hb)
    clear hb
    have GA_9 := Lib.hid hga
    have GB_9 := Lib.hid hgb
    clear hga hgb
    obtain ⟨⟨a0', a1'⟩, har⟩ : ∃ x, rAlw ya yb = x := ⟨_, rfl⟩
    have HAR := Lib.hid har
    clear har
    obtain ⟨na, hna⟩ : ∃ n, ya.length = n := ⟨_, rfl⟩
    obtain ⟨nb, hnb⟩ : ∃ n, yb.length = n := ⟨_, rfl⟩
    rw [hna] at hya ⊢
    rw [hnb] at hyb ⊢
    have HNA := Lib.hid hna
    have HNB := Lib.hid hnb
    clear hna hnb
    go_wp2_with fail
    refine (implAlw_any YA na yc1 YB nb yc2 ya yb _ a0' a1' HAR GA_9 HNA (by omega) GB_9 HNB (by omega)).mono ?_
    rintro e w10 ⟨rfl, hb⟩
    have GA_10 := Lib.hid (GA_9.out.below hb)
    clear GA_9
    have GB_10 := Lib.hid (GB_9.out.below hb)
    clear GB_9
    have B_10 := Lib.hid (Below.tr B_9.out hb)
    clear hb
    go_wp2_with fail
    refine (specAlw_any YA na yc1 YB nb yc2 ya yb _ a0' a1' HAR GA_10 HNA (by omega) GB_10 HNB (by omega)).mono ?_
    rintro e w11 ⟨rfl, hb⟩
    have GA_11 := Lib.hid (GA_10.out.below hb)
    clear GA_10
    have GB_11 := Lib.hid (GB_10.out.below hb)
    clear GB_10
    have B_11 := Lib.hid (Below.tr B_10.out hb)
    clear hb
    have hx0 : (a0' == a0') = true := by simp
    have hx1 : (a1' == a1') = true := by simp
    go_wp2
    go_ret
    exact ⟨rfl, B_11.out⟩
  · have E := Lib.hid (rCls_yes HCR.out hg)
    obtain rfl : ok = true := E.out.2
    have EL := Lib.hid E.out.1
    obtain rfl : ok2 = true := (rCan_yes HKR.out hg).2
    have hn12 : n ≤ 12 := by have := goodG_len hg; have := HX.out; omega
    have h1n : 1 ≤ n := by have := goodG_len hg; have := HX.out; omega
    have HG := Lib.hid hg
    obtain ⟨q, hq⟩ : ∃ q, nIn xs = q := ⟨_, rfl⟩
    have hqn : q ≤ n := by rw [← hq, ← HX.out]; exact inpN_le _ _
    have HQ := Lib.hid hq
    clear hq
    have EI : Hid (rInp xs = (inpI xs n, true)) := Lib.hid (by unfold rInp; rw [if_pos HG.out, HX.out])
    have EIL : Hid ((inpI xs n).length = q) := Lib.hid (by rw [inpI_len, ← HX.out, ← HQ.out]; rfl)
    go_wp2_with fail
    refine (implInp_any A n cp xs _ (inpI xs n) true EI G_8 HX (by omega)).mono ?_
    rintro e w9 ⟨A6, c6, rfl, ho, hb⟩
    have G_9 := Lib.hid (G_8.out.below hb)
    clear G_8
    have Y_9 := Lib.hid (Y_8.out.below hb)
    clear Y_8
    have L_9 := Lib.hid (L_8.out.below hb)
    clear L_8
    have B_9 := Lib.hid (Below.tr B_8.out hb)
    clear hb
    rw [EIL.out]
    clear ho
    have HCO : Hid (CountR (n : Int) L ((cntO xs (2 ^ q) : Nat) : Int) true) := Lib.hid (by have hgd := cls_good HG.out; rw [← EL.out, HX.out] at hgd; refine ⟨hgd.symm, ?_⟩; rw [if_pos rfl]; have := count_ways HG.out; rw [HX.out, HQ.out, ← EL.out] at this; rw [show ((n : Int)).toNat = n from Int.toNat_natCast n, this])
    obtain ⟨T, hT⟩ : ∃ T : Nat, 2 ^ q = T := ⟨_, rfl⟩
    have hq12 : q ≤ 12 := by omega
    have hT2 : T ≤ 4096 := by rw [← hT]; exact pow_le hq12
    have hsh := shl_one q hq12
    rw [hT] at hsh HCO
    have hsh2 : IntKind.i64.wrap (2 ^ q) = (T : Int) := by rw [← hsh, Int.one_mul]
    have HT := Lib.hid hT
    clear hT
    obtain ⟨cn, hcn⟩ : ∃ cn, cntO xs T = cn := ⟨_, rfl⟩
    have hcnT : cn ≤ T := by rw [← hcn]; exact cntO_le _ _
    rw [hcn] at HCO
    have HCN := Lib.hid hcn
    clear hcn
    go_wp2_with fail
    refine (implCount_any (n : Int) _ _ _ L _ (cn : Int) true HCO L_9 HM (by omega)).mono ?_
    rintro e w10 ⟨rfl, hb⟩
    have G_10 := Lib.hid (G_9.out.below hb)
    clear G_9
    have Y_10 := Lib.hid (Y_9.out.below hb)
    clear Y_9
    have L_10 := Lib.hid (L_9.out.below hb)
    clear L_9
    have B_10 := Lib.hid (Below.tr B_9.out hb)
    clear hb
    have hcc : (c != decide ((0 : Int) < (cn : Int))) = false := can_cnt HKR.out HG.out (by rw [HQ.out, HT.out]; exact HCN.out)
    have znn : ((n : Int) != (n : Int)) = false := by simp
    have zn0 : ((n : Int) == 0) = false := by simp; omega
    obtain ⟨p, hp⟩ : ∃ p, n - 1 = p := ⟨_, rfl⟩
    have hpn : p < n := by omega
    have hwr : IntKind.i64.wrap ((n : Int) - 1) = (p : Int) := by rw [IntKind.wrap_i64]; omega
    have HP := Lib.hid hp
    clear hp
    go_wp2_with fail
    go_loopw [20, 21] (fun mn i wr => ∃ k : Nat, k ≤ T ∧ i = .int .i64 k ∧ (∃ mq : Nat, cntO xs k = mq ∧ mq ≤ k ∧ mn = .int .i64 mq) ∧ Below w10.heap.size w10 wr) (fun _ i _ => T - (intOf i).toNat)
    case atStart => exact ⟨0, Nat.zero_le _, rfl, ⟨0, rfl, Nat.le_refl _, rfl⟩, Below.refl _ _⟩
    case round =>
      obtain ⟨k, hk, rfl, ⟨mq, hmq, hmk, rfl⟩, hb⟩ := hrel
      have HMQ := Lib.hid hmq
      clear hmq
      have G_r := Lib.hid (G_10.out.below hb)
      have Y_r := Lib.hid (Y_10.out.below hb)
      have L_r := Lib.hid (L_10.out.below hb)
      have B_r := Lib.hid (Below.tr B_10.out hb)
      have BL_r := Lib.hid hb
      clear hb
      by_cases hlt : k < T
      · have hk4 : k < 4096 := by omega
        go_wp2_with fail
        refine (modelL_any q k _ (by omega) (by omega)).mono ?_
        rintro e w11 ⟨rfl, hkk, hb⟩
        have G_11 := Lib.hid (G_r.out.below hb)
        have Y_11 := Lib.hid (Y_r.out.below hb)
        have L_11 := Lib.hid (L_r.out.below hb)
        have M_11 := Lib.hid (hkk.blies)
        have B_11 := Lib.hid (Below.tr B_r.out hb)
        have BL_11 := Lib.hid (Below.tr BL_r.out hb)
        clear hb
        clear hkk
        have EE : Hid (rEv xs (modelN q k) = (evG xs (modelN q k), true)) := Lib.hid (by unfold rEv; rw [if_pos ⟨HG.out, by rw [modelN_len, HQ.out]⟩])
        have EEL : Hid ((evG xs (modelN q k)).length = n) := Lib.hid (by rw [evG_len, HX.out])
        go_wp2_with fail
        refine (implEv_any A n cp _ q _ xs (modelN q k) _ (evG xs (modelN q k)) true EE G_11 HX (by omega) M_11 (Lib.hid (modelN_len q k)) (by omega)).mono ?_
        rintro e w12 ⟨A7, c7, rfl, ho, hb⟩
        have G_12 := Lib.hid (G_11.out.below hb)
        clear G_11
        have Y_12 := Lib.hid (Y_11.out.below hb)
        clear Y_11
        have L_12 := Lib.hid (L_11.out.below hb)
        clear L_11
        clear M_11
        have E_12 := Lib.hid (own_blies ho)
        have B_12 := Lib.hid (Below.tr B_11.out hb)
        have BL_12 := Lib.hid (Below.tr BL_11.out hb)
        clear hb
        rw [EEL.out]
        clear ho
        obtain ⟨vo, hvo⟩ : ∃ v, outG xs (modelN q k) = v := ⟨_, rfl⟩
        have hat : (evG xs (modelN q k))[p]? = some vo := by have := outG_at (ins := modelN q k) HX.out h1n; rw [hvo, HP.out, ← HX.out] at this; exact this
        obtain ⟨b7, off7, hA7, hbl7, r7⟩ := E_12.out p vo hat
        subst hA7
        clear hat
        have HVO := Lib.hid hvo
        have CS := Lib.hid (show cntO xs (k + 1) = cntO xs k + (if outG xs (modelN q k) then 1 else 0) by rw [cntO, HQ.out])
        clear hvo
        cases vo
        · go_wp2
          go_roundw
          case rel => exact ⟨k + 1, by omega, by go_num, ⟨mq, by rw [CS.out, HMQ.out, HVO.out]; rfl, by omega, rfl⟩, BL_12.out⟩
          case measure => simp [intOf]; omega
        · have HH : Hid (HoldR (n : Int) L (evG xs (modelN q k)) true true) := Lib.hid (by have hgd := cls_good HG.out; rw [← EL.out, HX.out] at hgd; have hh := out_holds HG.out (modelN q k) HVO.out; rw [← EL.out] at hh; exact ⟨by rw [hgd, EEL.out]; simp, by rw [hh]; rfl⟩)
          have EB : Hid (rInBy xs (evG xs (modelN q k)) = (modelN q k, true)) := Lib.hid (by unfold rInBy; rw [if_pos ⟨HG.out, by rw [evG_len]⟩, by_ev (by rw [modelN_len, HQ.out])])
          go_wp2_with fail
          refine (implHolds_any (n : Int) _ _ _ _ _ _ L (evG xs (modelN q k)) _ true true HH L_12 E_12 HM EEL (by omega)).mono ?_
          rintro e w13 ⟨rfl, hb⟩
          have G_13 := Lib.hid (G_12.out.below hb)
          clear G_12
          have Y_13 := Lib.hid (Y_12.out.below hb)
          clear Y_12
          have L_13 := Lib.hid (L_12.out.below hb)
          clear L_12
          have E_13 := Lib.hid (E_12.out.below hb)
          clear E_12
          have B_13 := Lib.hid (Below.tr B_12.out hb)
          have BL_13 := Lib.hid (Below.tr BL_12.out hb)
          clear hb
          go_wp2_with fail
          refine (implInBy_any A n cp _ n _ xs (evG xs (modelN q k)) _ (modelN q k) true EB G_13 HX (by omega) E_13 EEL (by omega)).mono ?_
          rintro e w14 ⟨A8, c8, rfl, ho, hb⟩
          have G_14 := Lib.hid (G_13.out.below hb)
          clear G_13
          have Y_14 := Lib.hid (Y_13.out.below hb)
          clear Y_13
          have L_14 := Lib.hid (L_13.out.below hb)
          clear L_13
          have E_14 := Lib.hid (E_13.out.below hb)
          clear E_13
          have N_14 := Lib.hid (own_blies ho)
          have B_14 := Lib.hid (Below.tr B_13.out hb)
          have BL_14 := Lib.hid (Below.tr BL_13.out hb)
          clear hb
          rw [modelN_len]
          clear ho
          go_wp2_with fail
          refine (modelL_any q k _ (by omega) (by omega)).mono ?_
          rintro e w15 ⟨rfl, hkk, hb⟩
          have G_15 := Lib.hid (G_14.out.below hb)
          clear G_14
          have Y_15 := Lib.hid (Y_14.out.below hb)
          clear Y_14
          have L_15 := Lib.hid (L_14.out.below hb)
          clear L_14
          have E_15 := Lib.hid (E_14.out.below hb)
          clear E_14
          have N_15 := Lib.hid (N_14.out.below hb)
          clear N_14
          have M_15 := Lib.hid (hkk.blies)
          have B_15 := Lib.hid (Below.tr B_14.out hb)
          have BL_15 := Lib.hid (Below.tr BL_14.out hb)
          clear hb
          clear hkk
          go_wp2_with fail
          refine (sameBools_same _ _ _ _ _ (modelN q k) _ N_15 M_15 (Lib.hid (modelN_len q k)) (by omega)).mono ?_
          rintro e w16 ⟨rfl, hb⟩
          have G_16 := Lib.hid (G_15.out.below hb)
          clear G_15
          have Y_16 := Lib.hid (Y_15.out.below hb)
          clear Y_15
          have L_16 := Lib.hid (L_15.out.below hb)
          clear L_15
          have E_16 := Lib.hid (E_15.out.below hb)
          clear E_15
          have N_16 := Lib.hid (N_15.out.below hb)
          clear N_15
          have M_16 := Lib.hid (M_15.out.below hb)
          clear M_15
          have B_16 := Lib.hid (Below.tr B_15.out hb)
          have BL_16 := Lib.hid (Below.tr BL_15.out hb)
          clear hb
          go_wp2
          go_roundw
          case rel => exact ⟨k + 1, by omega, by go_num, ⟨mq + 1, by rw [CS.out, HMQ.out, HVO.out]; rfl, by omega, by go_num⟩, BL_16.out⟩
          case measure => simp [intOf]; omega
      · obtain rfl : k = T := by omega
        obtain rfl : cn = mq := by rw [← HMQ.out, HCN.out]
        have zcc : ((cn : Int) != (cn : Int)) = false := by simp
        have hce : c = decide (0 < cn) := by simpa using hcc
        cases c
        · have hc0 : cn = 0 := by simpa using hce.symm
          subst hc0
          clear hcc hce
          go_wp2_with fail
          refine (drawAlw_any a1 len1 cap1 _ Y_r).mono ?_
          rintro e w17 ⟨ya, yb, YA, YB, yc1, yc2, rfl, hya, hyb, hga, hgb, hb⟩
          have G_17 := Lib.hid (G_r.out.below hb)
          clear G_r
          have Y_17 := Lib.hid (Y_r.out.below hb)
          clear Y_r
          have L_17 := Lib.hid (L_r.out.below hb)
          clear L_r
          have B_17 := Lib.hid (Below.tr B_r.out hb)
          clear hb
          have GA_17 := Lib.hid hga
          have GB_17 := Lib.hid hgb
          clear hga hgb
          obtain ⟨⟨a0', a1'⟩, har⟩ : ∃ x, rAlw ya yb = x := ⟨_, rfl⟩
          have HAR := Lib.hid har
          clear har
          obtain ⟨na, hna⟩ : ∃ n, ya.length = n := ⟨_, rfl⟩
          obtain ⟨nb, hnb⟩ : ∃ n, yb.length = n := ⟨_, rfl⟩
          rw [hna] at hya ⊢
          rw [hnb] at hyb ⊢
          have HNA := Lib.hid hna
          have HNB := Lib.hid hnb
          clear hna hnb
          go_wp2_with fail
          refine (implAlw_any YA na yc1 YB nb yc2 ya yb _ a0' a1' HAR GA_17 HNA (by omega) GB_17 HNB (by omega)).mono ?_
          rintro e w18 ⟨rfl, hb⟩
          have GA_18 := Lib.hid (GA_17.out.below hb)
          clear GA_17
          have GB_18 := Lib.hid (GB_17.out.below hb)
          clear GB_17
          have B_18 := Lib.hid (Below.tr B_17.out hb)
          clear hb
          go_wp2_with fail
          refine (specAlw_any YA na yc1 YB nb yc2 ya yb _ a0' a1' HAR GA_18 HNA (by omega) GB_18 HNB (by omega)).mono ?_
          rintro e w19 ⟨rfl, hb⟩
          have GA_19 := Lib.hid (GA_18.out.below hb)
          clear GA_18
          have GB_19 := Lib.hid (GB_18.out.below hb)
          clear GB_18
          have B_19 := Lib.hid (Below.tr B_18.out hb)
          clear hb
          have hx0 : (a0' == a0') = true := by simp
          have hx1 : (a1' == a1') = true := by simp
          go_wp2
          go_ret
          exact ⟨rfl, B_19.out⟩
        · have hc0 : 0 < cn := by simpa using hce.symm
          clear hcc hce
          go_wp2_with fail
          refine (drawAlw_any a1 len1 cap1 _ Y_r).mono ?_
          rintro e w17 ⟨ya, yb, YA, YB, yc1, yc2, rfl, hya, hyb, hga, hgb, hb⟩
          have G_17 := Lib.hid (G_r.out.below hb)
          clear G_r
          have Y_17 := Lib.hid (Y_r.out.below hb)
          clear Y_r
          have L_17 := Lib.hid (L_r.out.below hb)
          clear L_r
          have B_17 := Lib.hid (Below.tr B_r.out hb)
          clear hb
          have GA_17 := Lib.hid hga
          have GB_17 := Lib.hid hgb
          clear hga hgb
          obtain ⟨⟨a0', a1'⟩, har⟩ : ∃ x, rAlw ya yb = x := ⟨_, rfl⟩
          have HAR := Lib.hid har
          clear har
          obtain ⟨na, hna⟩ : ∃ n, ya.length = n := ⟨_, rfl⟩
          obtain ⟨nb, hnb⟩ : ∃ n, yb.length = n := ⟨_, rfl⟩
          rw [hna] at hya ⊢
          rw [hnb] at hyb ⊢
          have HNA := Lib.hid hna
          have HNB := Lib.hid hnb
          clear hna hnb
          go_wp2_with fail
          refine (implAlw_any YA na yc1 YB nb yc2 ya yb _ a0' a1' HAR GA_17 HNA (by omega) GB_17 HNB (by omega)).mono ?_
          rintro e w18 ⟨rfl, hb⟩
          have GA_18 := Lib.hid (GA_17.out.below hb)
          clear GA_17
          have GB_18 := Lib.hid (GB_17.out.below hb)
          clear GB_17
          have B_18 := Lib.hid (Below.tr B_17.out hb)
          clear hb
          go_wp2_with fail
          refine (specAlw_any YA na yc1 YB nb yc2 ya yb _ a0' a1' HAR GA_18 HNA (by omega) GB_18 HNB (by omega)).mono ?_
          rintro e w19 ⟨rfl, hb⟩
          have GA_19 := Lib.hid (GA_18.out.below hb)
          clear GA_18
          have GB_19 := Lib.hid (GB_18.out.below hb)
          clear GB_18
          have B_19 := Lib.hid (Below.tr B_18.out hb)
          clear hb
          have hx0 : (a0' == a0') = true := by simp
          have hx1 : (a1' == a1') = true := by simp
          go_wp2
          go_ret
          exact ⟨rfl, B_19.out⟩
end Go.Proofs.Ytklcfbjaodildaa
