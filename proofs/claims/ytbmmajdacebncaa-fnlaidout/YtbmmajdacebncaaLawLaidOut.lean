/-
  The walk of the law FnLaidOut.
-/
import Derived.Test.YtbmmajdacebncaaAc10
import Derived.Test.YtbmmajdacebncaaAcDx
import Derived.Test.YtbmmajdacebncaaAcHp
namespace Go.Proofs.Ytbmmajdacebncaa
open Go.ChangeShapes Go.WideShapes Go.ChangeAt Go.RowKit

theorem tdiv_nat {U N p : Nat} (h : U / N = p) : Int.tdiv (U : Int) (N : Int) = (p : Int) := by
  rw [Int.tdiv_eq_ediv_of_nonneg (by omega), ← h, Int.natCast_ediv]
theorem tmod_nat {U N p : Nat} (h : U % N = p) : Int.tmod (U : Int) (N : Int) = (p : Int) := by
  rw [Int.tmod_eq_emod_of_nonneg (by omega), ← h, Int.natCast_emod]
set_option maxRecDepth 100000 in
set_option maxHeartbeats 16000000 in
theorem lawLaidOut (a0 : Option Addr) (len0 cap0 : Nat) (a1 : Option Addr) (len1 cap1 : Nat) (w : World) (h0 : Hid (Bytes w a0 len0)) (h1 : Hid (Bytes w a1 len1)) :
    Calls Try.prog 3 #[.slice a0 len0 cap0, .slice a1 len1 cap1] w fun e w' => e = .returned (.bool true) ∧ Below w.heap.size w w' := by
  go_enter Try.func3, Try.ntmps3
  go_wp2_with fail
  · go_ret
    exact ⟨rfl, Below.refl _ _⟩
  refine (drawIsW_any a0 len0 cap0 _ h0).mono ?_
  rintro e w1 ⟨N, xs, A, cp, ks, B, cb, hN7, hx30, hk8, rfl, ho, hok, hb⟩
  have O1 := Lib.hid ho
  have OK := Lib.hid hok
  clear ho
  clear hok
  have B1 := Lib.hid (Below.tr (Below.refl _ _) hb)
  clear hb
  obtain ⟨n, hn⟩ : ∃ n, xs.length = n := ⟨_, rfl⟩
  rw [hn] at O1 hx30 ⊢
  have HX := Lib.hid hn
  have hn30 : n ≤ 30 := hx30
  clear hn hx30
  obtain ⟨z, hz⟩ : ∃ z, ks.length = z := ⟨_, rfl⟩
  rw [hz] at OK hk8 ⊢
  have HZ := Lib.hid hz
  clear hz
  have hzc := own_cap OK.out
  obtain ⟨⟨r0, r1⟩, hr⟩ : ∃ x, rIsW (N : Int) xs ks = x := ⟨_, rfl⟩
  have RI := Lib.hid hr
  clear hr
  obtain ⟨⟨d, r3⟩, hr⟩ : ∃ x, rLaid (N : Int) ks = x := ⟨_, rfl⟩
  have RL := Lib.hid hr
  have hdl : d.length ≤ 1000 := rLaid_len hr
  clear hr
  have hb0 : (r0 != r0) = false := by simp
  have hb1 : (r1 != r1) = false := by simp
  have hb3 : (r3 != r3) = false := by simp
  go_wp2_with fail
  refine (implIsW_any N _ _ n _ z _ xs ks _ r0 r1 RI (Lib.hid (own_alies HX.out O1.out)) HX (by omega) (Lib.hid (own_ilies OK.out)) HZ (by omega) hzc).mono ?_
  rintro e w2 ⟨rfl, hb⟩
  have B2 := Lib.hid (Below.tr B1.out hb)
  have Fxs_2 := Lib.hid (own_below O1.out hb)
  clear O1
  have Fks_2 := Lib.hid (own_below OK.out hb)
  clear OK
  clear hb
  go_wp2_with fail
  refine (specIsW_any N _ _ n _ z _ xs ks _ r0 r1 RI (Lib.hid (own_alies HX.out Fxs_2.out)) HX (by omega) (Lib.hid (own_ilies Fks_2.out)) HZ (by omega)).mono ?_
  rintro e w3 ⟨rfl, hb⟩
  have B3 := Lib.hid (Below.tr B2.out hb)
  have Fxs_3 := Lib.hid (own_below Fxs_2.out hb)
  clear Fxs_2
  have Fks_3 := Lib.hid (own_below Fks_2.out hb)
  clear Fks_2
  clear hb
  go_wp2_with fail
  refine (implLaid_any N _ z _ ks _ d r3 RL (Lib.hid (own_ilies Fks_3.out)) HZ (by omega)).mono ?_
  rintro e w4 ⟨Ad, cd, rfl, ho, hb⟩
  have O4 := Lib.hid ho
  clear ho
  have B4 := Lib.hid (Below.tr B3.out hb)
  have Fxs_4 := Lib.hid (own_below Fxs_3.out hb)
  clear Fxs_3
  have Fks_4 := Lib.hid (own_below Fks_3.out hb)
  clear Fks_3
  clear hb
  go_wp2_with fail
  refine (specLaid_any N _ z _ ks _ d r3 RL (Lib.hid (own_ilies Fks_4.out)) HZ (by omega)).mono ?_
  rintro e w5 ⟨Ae, ce, rfl, ho, hb⟩
  have O5 := Lib.hid ho
  clear ho
  have B5 := Lib.hid (Below.tr B4.out hb)
  have Fxs_5 := Lib.hid (own_below Fxs_4.out hb)
  clear Fxs_4
  have Fks_5 := Lib.hid (own_below Fks_4.out hb)
  clear Fks_4
  have Fd_5 := Lib.hid (own_below O4.out hb)
  clear O4
  clear hb
  go_wp2_with fail
  refine (sameInts_same _ _ _ _ _ d _ (Lib.hid (own_ilies Fd_5.out)) (Lib.hid (own_ilies O5.out)) (Lib.hid rfl) (by omega)).mono ?_
  rintro e w6 ⟨rfl, hb⟩
  have B6 := Lib.hid (Below.tr B5.out hb)
  have Fxs_6 := Lib.hid (own_below Fxs_5.out hb)
  clear Fxs_5
  have Fks_6 := Lib.hid (own_below Fks_5.out hb)
  clear Fks_5
  have Fd_6 := Lib.hid (own_below Fd_5.out hb)
  clear Fd_5
  have Fd2_6 := Lib.hid (own_below O5.out hb)
  clear O5
  clear hb
  cases r1 with
  | false =>
    go_wp2_with fail
    refine (drawLay_any a1 len1 cap1 _ (Lib.hid (h1.out.below B6.out))).mono ?_
    rintro e w7 ⟨M, es, E, ce2, t, hM7, hx30, rfl, ho, hb⟩
    have O7 := Lib.hid ho
    clear ho
    have B7 := Lib.hid (Below.tr B6.out hb)
    clear hb
    obtain ⟨v, hv⟩ : ∃ n, es.length = n := ⟨_, rfl⟩
    rw [hv] at O7 hx30 ⊢
    have HV := Lib.hid hv
    have hv30 : v ≤ 30 := hx30
    clear hv hx30
    obtain ⟨⟨y0, y1⟩, hr⟩ : ∃ x, rLay (M : Int) es t = x := ⟨_, rfl⟩
    have RY := Lib.hid hr
    have hyl : y0.length ≤ 1000 := rLay_len hr
    clear hr
    obtain ⟨⟨x0, x1⟩, hr⟩ : ∃ x, rBack (M : Int) es = x := ⟨_, rfl⟩
    have RB := Lib.hid hr
    have hxl : x0.length ≤ 1000 := rBack_len hr
    have hgx : goodAB (M : Int) es = x1 := by
      cases q : goodAB (M : Int) es with
      | false => rw [rBack_no q] at hr; cases hr; rfl
      | true => rw [rBack_yes q] at hr; cases hr; rfl
    have GX := Lib.hid hgx
    clear hgx
    clear hr
    have hby : (y1 == y1) = true := by simp
    have hbx : (x1 == x1) = true := by simp
    go_wp2_with fail
    refine (implLay_any M t _ v _ es _ y0 y1 RY (Lib.hid (own_alies HV.out O7.out)) HV (by omega)).mono ?_
    rintro e w8 ⟨Ay, cy, rfl, ho, hb⟩
    have O8 := Lib.hid ho
    clear ho
    have B8 := Lib.hid (Below.tr B7.out hb)
    have Fes_8 := Lib.hid (own_below O7.out hb)
    clear O7
    clear hb
    go_wp2_with fail
    refine (specLay_any M t _ v _ es _ y0 y1 RY (Lib.hid (own_alies HV.out Fes_8.out)) HV (by omega)).mono ?_
    rintro e w9 ⟨Ay2, cy2, rfl, ho, hb⟩
    have O9 := Lib.hid ho
    clear ho
    have B9 := Lib.hid (Below.tr B8.out hb)
    have Fes_9 := Lib.hid (own_below Fes_8.out hb)
    clear Fes_8
    have Fy_9 := Lib.hid (own_below O8.out hb)
    clear O8
    clear hb
    go_wp2_with fail
    refine (implBack_any M _ v _ es _ x0 x1 RB (Lib.hid (own_alies HV.out Fes_9.out)) HV (by omega)).mono ?_
    rintro e w10 ⟨Ax, cx, rfl, ho, hb⟩
    have O10 := Lib.hid ho
    clear ho
    have B10 := Lib.hid (Below.tr B9.out hb)
    have Fes_10 := Lib.hid (own_below Fes_9.out hb)
    clear Fes_9
    have Fy_10 := Lib.hid (own_below Fy_9.out hb)
    clear Fy_9
    have Fy2_10 := Lib.hid (own_below O9.out hb)
    clear O9
    clear hb
    go_wp2_with fail
    refine (specBack_any M _ v _ es _ x0 x1 RB (Lib.hid (own_alies HV.out Fes_10.out)) HV (by omega)).mono ?_
    rintro e w11 ⟨Ax2, cx2, rfl, ho, hb⟩
    have O11 := Lib.hid ho
    clear ho
    have B11 := Lib.hid (Below.tr B10.out hb)
    have Fes_11 := Lib.hid (own_below Fes_10.out hb)
    clear Fes_10
    have Fy_11 := Lib.hid (own_below Fy_10.out hb)
    clear Fy_10
    have Fy2_11 := Lib.hid (own_below Fy2_10.out hb)
    clear Fy2_10
    have Fx_11 := Lib.hid (own_below O10.out hb)
    clear O10
    clear hb
    go_wp2_with fail
    refine (sameArcs_same _ _ _ _ _ y0 _ (Lib.hid (own_alies rfl Fy_11.out)) (Lib.hid (own_alies rfl Fy2_11.out)) (Lib.hid rfl) (by omega)).mono ?_
    rintro e w12 ⟨rfl, hb⟩
    have B12 := Lib.hid (Below.tr B11.out hb)
    have Fes_12 := Lib.hid (own_below Fes_11.out hb)
    clear Fes_11
    have Fy_12 := Lib.hid (own_below Fy_11.out hb)
    clear Fy_11
    have Fy2_12 := Lib.hid (own_below Fy2_11.out hb)
    clear Fy2_11
    have Fx_12 := Lib.hid (own_below Fx_11.out hb)
    clear Fx_11
    have Fx2_12 := Lib.hid (own_below O11.out hb)
    clear O11
    clear hb
    go_wp2_with fail
    refine (sameInts_same _ _ _ _ _ x0 _ (Lib.hid (own_ilies Fx_12.out)) (Lib.hid (own_ilies Fx2_12.out)) (Lib.hid rfl) (by omega)).mono ?_
    rintro e w13 ⟨rfl, hb⟩
    have B13 := Lib.hid (Below.tr B12.out hb)
    have Fes_13 := Lib.hid (own_below Fes_12.out hb)
    clear Fes_12
    have Fy_13 := Lib.hid (own_below Fy_12.out hb)
    clear Fy_12
    have Fy2_13 := Lib.hid (own_below Fy2_12.out hb)
    clear Fy2_12
    have Fx_13 := Lib.hid (own_below Fx_12.out hb)
    clear Fx_12
    have Fx2_13 := Lib.hid (own_below Fx2_12.out hb)
    clear Fx2_12
    clear hb
    go_wp2_with fail
    refine (implGoodA_any M _ v _ es _ x1 GX (Lib.hid (own_alies HV.out Fes_13.out)) HV (by omega)).mono ?_
    rintro e w14 ⟨rfl, hb⟩
    have B14 := Lib.hid (Below.tr B13.out hb)
    have Fes_14 := Lib.hid (own_below Fes_13.out hb)
    clear Fes_13
    have Fy_14 := Lib.hid (own_below Fy_13.out hb)
    clear Fy_13
    have Fy2_14 := Lib.hid (own_below Fy2_13.out hb)
    clear Fy2_13
    have Fx_14 := Lib.hid (own_below Fx_13.out hb)
    clear Fx_13
    have Fx2_14 := Lib.hid (own_below Fx2_13.out hb)
    clear Fx2_13
    clear hb
    go_wp2
    go_ret
    exact ⟨rfl, B14.out⟩
  | true =>
    have GO : Hid (goodAB (N : Int) xs = true ∧ spotsB (N : Int) ks = true) := Lib.hid (by
      have h := RI.out
      cases q : goodAB (N : Int) xs with
      | false => rw [rIsW_no1 q] at h; cases h
      | true =>
        cases q2 : spotsB (N : Int) ks with
        | false => rw [rIsW_no2 q2] at h; cases h
        | true => exact ⟨rfl, rfl⟩)
    have E0 := Lib.hid (Prod.mk.inj (RI.out.symm.trans (rIsW_yes GO.out.1 GO.out.2)))
    have E1 := Lib.hid (Prod.mk.inj (RL.out.symm.trans (rLaid_yes GO.out.2)))
    have hr3 := E1.out.2
    subst hr3
    have hgA : GoodA N xs := by have := (good_s GO.out.1).2.2; simpa using this
    have GA := Lib.hid hgA
    have hN6 := hgA.hi
    have hN1 := hgA.lo
    have hz1 : 1 ≤ z := by have := (spots_len GO.out.2).1; rw [HZ.out] at this; exact this
    have KR : Hid (∀ s ∈ ks, 0 ≤ s ∧ s < (N : Int)) := Lib.hid (spotsB_iff.1 GO.out.2).2.2
    have HD : Hid (d = laidW N ks) := Lib.hid (by rw [E1.out.1]; simp)
    have hdz : d.length = z := by rw [HD.out, laidW_len, HZ.out]
    have HDZ := Lib.hid hdz
    obtain ⟨q, hq⟩ : ∃ q, z = q + 1 := ⟨z - 1, by omega⟩
    have HQ := Lib.hid hq
    obtain ⟨X, hX⟩ : ∃ X, layL N xs q = X := ⟨_, rfl⟩
    have HXX := Lib.hid hX
    have RA : Hid (rLay (N : Int) xs (z : Int) = (X, true)) := Lib.hid (by rw [rLay_yes GO.out.1 (by unfold inB; rw [decide_eq_true_eq]; omega), show ((N : Int)).toNat = N by simp, show ((z : Int) - 1).toNat = q by omega, hX])
    have hXl : X.length ≤ 1000 := rLay_len RA.out
    have WL : Hid (walkB X d q = r0) := Lib.hid (by rw [← hX, HD.out, E0.out.1, HZ.out]; have h := walk_laid GA.out (w := ks) KR.out (k := q) (by rw [HZ.out]; omega); rw [HZ.out, show z - 1 = q by omega] at h; rw [show z - 1 = q by omega]; exact h)
    rw [hdz]
    clear hgA hdz hX hq
    go_wp2_with fail
    refine (implLay_any N z _ n _ xs _ X true RA (Lib.hid (own_alies HX.out Fxs_6.out)) HX (by omega)).mono ?_
    rintro e w7 ⟨Aa, ca, rfl, ho, hb⟩
    have O7 := Lib.hid ho
    clear ho
    have B7 := Lib.hid (Below.tr B6.out hb)
    have Fxs_7 := Lib.hid (own_below Fxs_6.out hb)
    clear Fxs_6
    have Fd_7 := Lib.hid (own_below Fd_6.out hb)
    clear Fd_6
    clear hb
    go_wp2_with fail
    obtain ⟨y, hy⟩ : ∃ y, X.length = y := ⟨_, rfl⟩
    rw [hy] at O7 hXl ⊢
    have HY := Lib.hid hy
    clear hy
    go_loopw [18, 19] (fun tv iv wr => ∃ i j : Nat, i = j + 1 ∧ i ≤ z ∧ iv = .int .i64 i ∧ tv = .bool (walkB X d j) ∧ Below w7.heap.size w7 wr) (fun _ iv _ => z - (intOf iv).toNat)
    case atStart => exact ⟨1, 0, rfl, hz1, rfl, rfl, Below.refl _ _⟩
    case round =>
      obtain ⟨i, j, hij, hiz, rfl, rfl, hbr⟩ := hrel
      have R1 := Lib.hid hbr
      have HIJ := Lib.hid hij
      clear hbr hij
      by_cases hlt : i < z
      · skip
        have hjd : j < d.length := by have := HDZ.out; have := HIJ.out; omega
        have hid : i < d.length := by have := HDZ.out; omega
        obtain ⟨s, hs⟩ : ∃ s, d[j]? = some s := ⟨_, List.getElem?_eq_getElem hjd⟩
        obtain ⟨u, hu⟩ : ∃ u, d[i]? = some u := ⟨_, List.getElem?_eq_getElem hid⟩
        obtain ⟨b3, o3, hA3, _, c3⟩ := ((own_ilies Fd_7.out).below R1.out) j s hs
        obtain ⟨b4, o4, hA4, _, c4⟩ := ((own_ilies Fd_7.out).below R1.out) i u hu
        subst hA3
        simp only [Option.some.injEq, Addr.mk.injEq, and_true] at hA4
        obtain ⟨rfl, rfl⟩ := hA4
        have HS := Lib.hid hs
        have HU : Hid (d[j + 1]? = some u) := Lib.hid (by rw [← HIJ.out]; exact hu)
        have hjz : j < z := by have := HIJ.out; omega
        have hji : (i : Int) - 1 = (j : Int) := by have := HIJ.out; omega
        have hjw : IntKind.i64.wrap (j : Int) = (j : Int) := by rw [IntKind.wrap_i64]; omega
        have hiz' : (i : Int) < (z : Int) := by omega
        clear hs hu hjd hid
        obtain ⟨th, hth⟩ : ∃ th, walkB X d j = th := ⟨_, rfl⟩
        have TH := Lib.hid hth
        rw [hth]
        clear hth
        cases th with
        | false =>
          have W2 : Hid (walkB X d i = false) := Lib.hid (by rw [HIJ.out, walk_succ, TH.out]; rfl)
          go_wp2_with fail
          go_quiet (fail)
          go_wp2
          go_roundw
          case rel => exact ⟨i + 1, i, rfl, by omega, by go_num, by rw [W2.out], bdrewN R1.out _⟩
          case measure => simp [intOf]; omega
        | true =>
          go_wp2_with fail
          go_still_tail 12, (by kernel_rfl)
          change wpList _ _ _ _ _ wr.drew
          have R2 : Hid (Below w7.heap.size w7 wr.drew) := Lib.hid R1.out.drew
          generalize wr.drew = w20 at R2 ⊢
          clear c3 c4
          obtain ⟨dd, hdd⟩ : ∃ dd, decide ((s, u) ∈ X) = dd := ⟨_, rfl⟩
          have DD := Lib.hid hdd
          clear hdd
          go_wp2_with fail
          refine (hasArc_any _ y _ X s u _ dd DD (Lib.hid ((own_alies HY.out O7.out).below R2.out)) HY (by omega)).mono ?_
          rintro e w21 ⟨rfl, hb⟩
          have R3 := Lib.hid (Below.tr R2.out hb)
          clear hb
          have W2 : Hid (walkB X d i = dd) := Lib.hid (by rw [HIJ.out, walk_succ, TH.out, getD_at HS.out, getD_at HU.out, DD.out]; rfl)
          go_wp2
          go_roundw
          case rel => exact ⟨i + 1, i, rfl, by omega, by go_num, by rw [W2.out], R3.out⟩
          case measure => simp [intOf]; omega
      · skip
        obtain rfl : i = z := by omega
        have W3 : Hid (walkB X d j = r0) := Lib.hid (by rw [← WL.out]; congr 1; have := HIJ.out; have := HQ.out; omega)
        rw [W3.out]
        have hb := R1.out
        have B8 := Lib.hid (Below.tr B7.out hb)
        have Fxs_8 := Lib.hid (own_below Fxs_7.out hb)
        clear Fxs_7
        have Fd_8 := Lib.hid (own_below Fd_7.out hb)
        clear Fd_7
        have FX_8 := Lib.hid (own_below O7.out hb)
        clear O7
        clear hb
        go_wp2_with fail
        go_loopw [130] (fun iv wq => ∃ j : Nat, j ≤ y ∧ iv = .int .i64 j ∧ Below w.heap.size w wq ∧ Below wr.heap.size wr wq) (fun iv _ => y - (intOf iv).toNat)
        case atStart => exact ⟨0, Nat.zero_le _, rfl, B8.out, Below.refl _ _⟩
        case round =>
          obtain ⟨j2, hj2, rfl, hbw, hbr⟩ := hrel
          have R5 := Lib.hid hbr
          have R6 := Lib.hid hbw
          clear hbr hbw
          by_cases hlj : j2 < y
          · skip
            obtain ⟨x, hx⟩ : ∃ x, X[j2]? = some x := ⟨_, List.getElem?_eq_getElem (by have := HY.out; omega)⟩
            obtain ⟨bb, off, hA5, hbl, e0, e1⟩ := ((own_alies HY.out FX_8.out).below R5.out) j2 x hx
            subst hA5
            obtain ⟨p, a, b, hp, ha, hb, rfl, hd1, hd2, hm1, hm2, hmem⟩ := lay_each GA.out (by rw [HXX.out]; exact List.mem_of_getElem? hx)
            clear hx
            simp only at e0 e1
            have h7 : p * N + a ≤ 7 * 6 + 6 := Nat.add_le_add (Nat.mul_le_mul (by have := HQ.out; omega) hN6) (by omega)
            have h8 : (p + 1) * N + b ≤ 8 * 6 + 6 := Nat.add_le_add (Nat.mul_le_mul (by have := HQ.out; omega) hN6) (by omega)
            obtain ⟨U, hU⟩ : ∃ U, p * N + a = U := ⟨_, rfl⟩
            obtain ⟨V, hV⟩ : ∃ V, (p + 1) * N + b = V := ⟨_, rfl⟩
            rw [hU] at hd1 hm1 e0 h7
            rw [hV] at hd2 hm2 e1 h8
            clear hU hV
            have q1 : Int.tdiv (U : Int) (N : Int) = (p : Int) := tdiv_nat hd1
            have q2 : Int.tdiv (V : Int) (N : Int) = (p : Int) + 1 := tdiv_nat hd2
            have q3 : Int.tmod (U : Int) (N : Int) = (a : Int) := tmod_nat hm1
            have q4 : Int.tmod (V : Int) (N : Int) = (b : Int) := tmod_nat hm2
            have hp8 : p ≤ 8 := by have := HQ.out; omega
            have ha6 : a ≤ 6 := by omega
            have hb6 : b ≤ 6 := by omega
            have hne : ((p : Int) + 1 != (p : Int) + 1) = false := by simp
            have hN0 : ¬ (N = 0) := by omega
            have hpw : IntKind.i64.wrap (p : Int) = (p : Int) := by rw [IntKind.wrap_i64]; omega
            have hpw2 : IntKind.i64.wrap ((p : Int) + 1) = (p : Int) + 1 := by rw [IntKind.wrap_i64]; omega
            have DD : Hid (decide (((a : Int), (b : Int)) ∈ xs) = true) := Lib.hid (by rw [decide_eq_true_eq]; exact hmem)
            clear hd1 hd2 hm1 hm2 hmem hp ha hb
            go_upto_region 24 with fail
            obtain ⟨w30, hw30⟩ : ∃ W, W = wr.alloc (.cells #[.int .i64 (U : Int), .int .i64 (V : Int)] 36) := ⟨_, rfl⟩
            have hbb : Below wr.heap.size wr w30 := by rw [hw30]; exact below1 _ _
            have hnb : Blk w30 wr.heap.size 36 [.int .i64 (U : Int), .int .i64 (V : Int)] := by rw [hw30]; exact heap_alloc_new _ _
            rw [← hw30]
            clear hw30 e0 e1 hbl
            have n0 : w30.cell? ⟨wr.heap.size, 0, none⟩ = some (.int .i64 (U : Int)) := hnb.cell 0
            have n1 : w30.cell? ⟨wr.heap.size, 1, none⟩ = some (.int .i64 (V : Int)) := hnb.cell 1
            have R7 := Lib.hid (Below.tr R6.out hbb)
            have R8 := Lib.hid (Below.tr R5.out hbb)
            clear hbb hnb
            go_still_tail 20, (by kernel_rfl)
            change wpList _ _ _ _ _ w30.drew
            have R9 : Hid (Below w.heap.size w w30.drew) := Lib.hid R7.out.drew
            have R10 : Hid (Below _ _ w30.drew) := Lib.hid R8.out.drew
            generalize w30.drew = w31 at R9 R10 ⊢
            clear n0 n1 q1 q2 q3 q4 R7 R8 R5 R6
            go_wp2_with fail
            refine (hasArc_any _ n _ xs a b _ true DD (Lib.hid ((own_alies HX.out Fxs_8.out).below R10.out)) HX (by omega)).mono ?_
            rintro e w32 ⟨rfl, hb⟩
            have R11 := Lib.hid (Below.tr R9.out hb)
            have R12 := Lib.hid (Below.tr R10.out hb)
            clear hb
            go_wp2
            go_roundw
            case rel => exact ⟨j2 + 1, by omega, by go_num, R11.out, R12.out⟩
            case measure => simp [intOf]; omega
          · skip
            obtain rfl : j2 = y := by omega
            go_wp2_with fail
            refine (drawLay_any a1 len1 cap1 _ (Lib.hid (h1.out.below R6.out))).mono ?_
            rintro e w29 ⟨M, es, E, ce2, t, hM7, hx30, rfl, ho, hb⟩
            have O29 := Lib.hid ho
            clear ho
            have B29 := Lib.hid (Below.tr R6.out hb)
            clear hb
            obtain ⟨v, hv⟩ : ∃ n, es.length = n := ⟨_, rfl⟩
            rw [hv] at O29 hx30 ⊢
            have HV := Lib.hid hv
            have hv30 : v ≤ 30 := hx30
            clear hv hx30
            obtain ⟨⟨y0, y1⟩, hr⟩ : ∃ x, rLay (M : Int) es t = x := ⟨_, rfl⟩
            have RY := Lib.hid hr
            have hyl : y0.length ≤ 1000 := rLay_len hr
            clear hr
            obtain ⟨⟨x0, x1⟩, hr⟩ : ∃ x, rBack (M : Int) es = x := ⟨_, rfl⟩
            have RB := Lib.hid hr
            have hxl : x0.length ≤ 1000 := rBack_len hr
            have hgx : goodAB (M : Int) es = x1 := by
              cases q : goodAB (M : Int) es with
              | false => rw [rBack_no q] at hr; cases hr; rfl
              | true => rw [rBack_yes q] at hr; cases hr; rfl
            have GX := Lib.hid hgx
            clear hgx
            clear hr
            have hby : (y1 == y1) = true := by simp
            have hbx : (x1 == x1) = true := by simp
            go_wp2_with fail
            refine (implLay_any M t _ v _ es _ y0 y1 RY (Lib.hid (own_alies HV.out O29.out)) HV (by omega)).mono ?_
            rintro e w30 ⟨Ay, cy, rfl, ho, hb⟩
            have O30 := Lib.hid ho
            clear ho
            have B30 := Lib.hid (Below.tr B29.out hb)
            have Fes_30 := Lib.hid (own_below O29.out hb)
            clear O29
            clear hb
            go_wp2_with fail
            refine (specLay_any M t _ v _ es _ y0 y1 RY (Lib.hid (own_alies HV.out Fes_30.out)) HV (by omega)).mono ?_
            rintro e w31 ⟨Ay2, cy2, rfl, ho, hb⟩
            have O31 := Lib.hid ho
            clear ho
            have B31 := Lib.hid (Below.tr B30.out hb)
            have Fes_31 := Lib.hid (own_below Fes_30.out hb)
            clear Fes_30
            have Fy_31 := Lib.hid (own_below O30.out hb)
            clear O30
            clear hb
            go_wp2_with fail
            refine (implBack_any M _ v _ es _ x0 x1 RB (Lib.hid (own_alies HV.out Fes_31.out)) HV (by omega)).mono ?_
            rintro e w32 ⟨Ax, cx, rfl, ho, hb⟩
            have O32 := Lib.hid ho
            clear ho
            have B32 := Lib.hid (Below.tr B31.out hb)
            have Fes_32 := Lib.hid (own_below Fes_31.out hb)
            clear Fes_31
            have Fy_32 := Lib.hid (own_below Fy_31.out hb)
            clear Fy_31
            have Fy2_32 := Lib.hid (own_below O31.out hb)
            clear O31
            clear hb
            go_wp2_with fail
            refine (specBack_any M _ v _ es _ x0 x1 RB (Lib.hid (own_alies HV.out Fes_32.out)) HV (by omega)).mono ?_
            rintro e w33 ⟨Ax2, cx2, rfl, ho, hb⟩
            have O33 := Lib.hid ho
            clear ho
            have B33 := Lib.hid (Below.tr B32.out hb)
            have Fes_33 := Lib.hid (own_below Fes_32.out hb)
            clear Fes_32
            have Fy_33 := Lib.hid (own_below Fy_32.out hb)
            clear Fy_32
            have Fy2_33 := Lib.hid (own_below Fy2_32.out hb)
            clear Fy2_32
            have Fx_33 := Lib.hid (own_below O32.out hb)
            clear O32
            clear hb
            go_wp2_with fail
            refine (sameArcs_same _ _ _ _ _ y0 _ (Lib.hid (own_alies rfl Fy_33.out)) (Lib.hid (own_alies rfl Fy2_33.out)) (Lib.hid rfl) (by omega)).mono ?_
            rintro e w34 ⟨rfl, hb⟩
            have B34 := Lib.hid (Below.tr B33.out hb)
            have Fes_34 := Lib.hid (own_below Fes_33.out hb)
            clear Fes_33
            have Fy_34 := Lib.hid (own_below Fy_33.out hb)
            clear Fy_33
            have Fy2_34 := Lib.hid (own_below Fy2_33.out hb)
            clear Fy2_33
            have Fx_34 := Lib.hid (own_below Fx_33.out hb)
            clear Fx_33
            have Fx2_34 := Lib.hid (own_below O33.out hb)
            clear O33
            clear hb
            go_wp2_with fail
            refine (sameInts_same _ _ _ _ _ x0 _ (Lib.hid (own_ilies Fx_34.out)) (Lib.hid (own_ilies Fx2_34.out)) (Lib.hid rfl) (by omega)).mono ?_
            rintro e w35 ⟨rfl, hb⟩
            have B35 := Lib.hid (Below.tr B34.out hb)
            have Fes_35 := Lib.hid (own_below Fes_34.out hb)
            clear Fes_34
            have Fy_35 := Lib.hid (own_below Fy_34.out hb)
            clear Fy_34
            have Fy2_35 := Lib.hid (own_below Fy2_34.out hb)
            clear Fy2_34
            have Fx_35 := Lib.hid (own_below Fx_34.out hb)
            clear Fx_34
            have Fx2_35 := Lib.hid (own_below Fx2_34.out hb)
            clear Fx2_34
            clear hb
            go_wp2_with fail
            refine (implGoodA_any M _ v _ es _ x1 GX (Lib.hid (own_alies HV.out Fes_35.out)) HV (by omega)).mono ?_
            rintro e w36 ⟨rfl, hb⟩
            have B36 := Lib.hid (Below.tr B35.out hb)
            have Fes_36 := Lib.hid (own_below Fes_35.out hb)
            clear Fes_35
            have Fy_36 := Lib.hid (own_below Fy_35.out hb)
            clear Fy_35
            have Fy2_36 := Lib.hid (own_below Fy2_35.out hb)
            clear Fy2_35
            have Fx_36 := Lib.hid (own_below Fx_35.out hb)
            clear Fx_35
            have Fx2_36 := Lib.hid (own_below Fx2_35.out hb)
            clear Fx2_35
            clear hb
            go_wp2
            go_ret
            exact ⟨rfl, B36.out⟩
end Go.Proofs.Ytbmmajdacebncaa
