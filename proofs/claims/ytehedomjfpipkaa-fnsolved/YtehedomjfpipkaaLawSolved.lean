/-
  The walk of the law FnSolved.
-/
import Derived.Test.YtehedomjfpipkaaDrawSv
namespace Go.Proofs.Ytehedomjfpipkaa
open Go.ChangeShapes Go.WideShapes Go.ChangeAt Go.RowKit

theorem fol_in {v : Int} {L R : List (List Int)} {c : List Int} {f ok : Bool} (h : FolR v L c f ok) (hi : Imp L R) (hc : c ∈ R) (hok : ok = true) : f = true := by
  subst hok
  cases f
  · obtain ⟨M, _, hm, hf⟩ := h.sem.2.2.2 rfl
    have := hi M hm
    unfold holdsB at this
    rw [List.all_eq_true] at this
    rw [this c hc] at hf
    simp at hf
  · rfl
theorem count_sem {v : Int} {L : List (List Int)} {s : Bool} {M : List Bool} {R : List (List Int)} {x : Int} {one : Bool} (h : SolR v L s M R true) (hc : CountR v L x one) : one = true ∧ (s != decide (x > 0)) = false := by
  obtain ⟨hg, _, hs1, hs2⟩ := h.sem
  have hv := goodB_v hg
  obtain ⟨V, rfl⟩ : ∃ V : Nat, v = V := ⟨v.toNat, by omega⟩
  obtain ⟨h1, h2⟩ := hc
  rw [hg] at h1
  subst h1
  simp only [if_true, Int.toNat_natCast] at h2
  refine ⟨rfl, ?_⟩
  cases s
  · have hz : countB V L (2 ^ V) = 0 := by
      apply Classical.byContradiction
      intro q
      obtain ⟨M', _, hm⟩ := count_models.1 (Nat.pos_of_ne_zero q)
      rw [hs2 rfl M'] at hm
      simp at hm
    rw [h2, hz]
    simp
  · have hp : 0 < countB V L (2 ^ V) := count_models.2 ⟨M, by have := (hs1 rfl).1; omega, (hs1 rfl).2⟩
    rw [h2]
    simp
    omega
set_option maxRecDepth 100000 in
set_option maxHeartbeats 32000000 in
theorem lawSolved (a0 : Option Addr) (len0 cap0 : Nat) (a1 : Option Addr) (len1 cap1 : Nat) (w : World) (h0 : Hid (Bytes w a0 len0)) (h1 : Hid (Bytes w a1 len1)) :
    Calls Try.prog 3 #[.slice a0 len0 cap0, .slice a1 len1 cap1] w fun e w' => e = .returned (.bool true) ∧ Below w.heap.size w w' := by
  go_enter Try.func3, Try.ntmps3
  go_wp2_with fail
  · go_ret
    exact ⟨rfl, Below.refl _ _⟩
  refine (drawSolve_any a0 len0 cap0 _ h0).mono ?_
  rintro e w1 ⟨v, L, A, c1, vs, rfl, hv, hL, hT, ho, hb⟩
  have O1 := Lib.hid ho
  have B1 := Lib.hid hb
  have HN := Lib.hid (own_nilA' ho.outer)
  clear ho hb hv
  obtain ⟨s, M, R, ok, hr⟩ := solR_any v L
  have hMl : M.length ≤ 12 := hr.small.1
  have hRl : R.length ≤ 300 := hr.small.2.1
  have hRt : tot R ≤ 3600 := hr.small.2.2.1
  have SR := Lib.hid hr
  obtain ⟨n, hn⟩ : ∃ n, L.length = n := ⟨_, rfl⟩
  obtain ⟨q, hq⟩ : ∃ n, M.length = n := ⟨_, rfl⟩
  obtain ⟨z, hz⟩ : ∃ n, R.length = n := ⟨_, rfl⟩
  rw [hn] at hL O1 HN ⊢
  rw [hq] at hMl
  rw [hz] at hRl
  have HX := Lib.hid hn
  have HQ := Lib.hid hq
  have HZ := Lib.hid hz
  have HT2 : Hid (tot R ≤ 10000000) := Lib.hid (by omega)
  clear hn hq hz hr
  go_wp2_with fail
  refine (implSolve_any v _ _ _ L _ s M R ok SR O1.out.lies HX HN (by omega)).mono ?_
  rintro e w2 ⟨AM, cM, AR, cR, vr, rfl, hom, hor, _, hb2⟩
  have O2 := Lib.hid (O1.out.below hb2)
  have B2 := Lib.hid (Below.tr B1.out hb2)
  have M2 := Lib.hid (own_blies hom)
  have R2 := Lib.hid hor.lies
  rw [HQ.out, HZ.out]
  clear hom hor hb2 O1
  go_wp2_with fail
  refine (specSolve_any v _ _ _ L _ s M R ok SR O2.out.lies O2.out.lnil HX (by omega)).mono ?_
  rintro e w3 ⟨AO, cO, AP, cP, vp, rfl, hom, hor, _, hb3⟩
  have O3 := Lib.hid (O2.out.below hb3)
  have B3 := Lib.hid (Below.tr B2.out hb3)
  have M3 := Lib.hid (M2.out.below hb3)
  have R3 := Lib.hid (R2.out.below hb3)
  have N3 := Lib.hid (own_blies hom)
  have Q3 := Lib.hid hor.lies
  rw [HQ.out, HZ.out]
  clear hom hor hb3 O2 M2 R2
  have hko : (ok != ok) = false := by simp
  have hss : (s != s) = false := by simp
  go_wp2_with fail
  refine (sameBools_same _ _ _ _ _ M _ M3 N3 HQ (by omega)).mono ?_
  rintro e w4 ⟨rfl, hb4⟩
  have O4 := Lib.hid (O3.out.below hb4)
  have B4 := Lib.hid (Below.tr B3.out hb4)
  have M4 := Lib.hid (M3.out.below hb4)
  have R4 := Lib.hid (R3.out.below hb4)
  have Q4 := Lib.hid (Q3.out.below hb4)
  clear hb4 O3 M3 R3 N3 Q3
  go_wp2_with fail
  refine (sameRows_same _ _ _ _ _ R _ R4 Q4 HZ (by omega) HT2).mono ?_
  rintro e w5 ⟨rfl, hb5⟩
  have O5 := Lib.hid (O4.out.below hb5)
  have B5 := Lib.hid (Below.tr B4.out hb5)
  have M5 := Lib.hid (M4.out.below hb5)
  have R5 := Lib.hid (R4.out.below hb5)
  clear hb5 O4 M4 R4 Q4
  cases ok
  · clear hko hss
    have Y1 := Lib.hid (h1.out.below B5.out)
    go_wp2_with fail
    refine (drawWith_any a1 len1 cap1 _ Y1).mono ?_
    rintro e wm1 ⟨v2, L2, g2, AX, BX, cx1, cx2, vx, rfl, hvx, hLx, hTx, hgx, hox, hrx, hbx⟩
    have OX1 := Lib.hid hox
    have RX1 := Lib.hid hrx
    have BX1 := Lib.hid (Below.tr B5.out hbx)
    have HNX := Lib.hid (own_nilA' hox.outer)
    have hccx := own_cap hrx
    clear hox hrx hbx hvx
    obtain ⟨t, M2, R2, one, hw⟩ := withR_any v2 L2 g2
    have hMl2 : M2.length ≤ 12 := hw.small.1
    have hRl2 : R2.length ≤ 300 := hw.small.2.1
    have hRt2 : tot R2 ≤ 3600 := hw.small.2.2
    have WR := Lib.hid hw
    obtain ⟨nx, hnx⟩ : ∃ n, L2.length = n := ⟨_, rfl⟩
    obtain ⟨mx, hmx⟩ : ∃ n, g2.length = n := ⟨_, rfl⟩
    obtain ⟨qx, hqx⟩ : ∃ n, M2.length = n := ⟨_, rfl⟩
    obtain ⟨rx, hrx⟩ : ∃ n, R2.length = n := ⟨_, rfl⟩
    rw [hnx] at hLx OX1 HNX ⊢
    rw [hmx] at hgx hccx RX1 ⊢
    rw [hqx] at hMl2
    rw [hrx] at hRl2
    have HXX := Lib.hid hnx
    have HYX := Lib.hid hmx
    have HQX := Lib.hid hqx
    have HRX := Lib.hid hrx
    have HTX : Hid (tot R2 ≤ 10000000) := Lib.hid (by omega)
    clear hnx hmx hqx hrx hw
    go_wp2_with fail
    refine (implWith_any v2 _ _ _ _ _ _ L2 g2 _ t M2 R2 one WR OX1.out.lies (own_ilies RX1.out) HXX HYX HNX (by omega) (by omega)).mono ?_
    rintro e wm2 ⟨AM, cM, AN, cN, vn, rfl, hom, hon, _, hb2x⟩
    have OX2 := Lib.hid (OX1.out.below hb2x)
    have RX2 := Lib.hid (own_below RX1.out hb2x)
    have BX2 := Lib.hid (Below.tr BX1.out hb2x)
    have M22 := Lib.hid (own_blies hom)
    have N22 := Lib.hid hon.lies
    rw [HQX.out, HRX.out]
    clear hom hon hb2x OX1 RX1
    go_wp2_with fail
    refine (specWith_any v2 _ _ _ _ _ _ L2 g2 _ t M2 R2 one WR OX2.out.lies OX2.out.lnil (own_ilies RX2.out) HXX HYX (by omega) (by omega) hccx).mono ?_
    rintro e wm3 ⟨AO, cO, AP, cP, vp, rfl, hom, hon, _, hb3x⟩
    have RX3 := Lib.hid (own_below RX2.out hb3x)
    have BX3 := Lib.hid (Below.tr BX2.out hb3x)
    have M33 := Lib.hid (M22.out.below hb3x)
    have N33 := Lib.hid (N22.out.below hb3x)
    have M34 := Lib.hid (own_blies hom)
    have N34 := Lib.hid hon.lies
    rw [HQX.out, HRX.out]
    clear hom hon hb3x OX2 RX2 M22 N22
    have hone : (one != one) = false := by simp
    have htt : (t != t) = false := by simp
    go_wp2_with fail
    refine (sameBools_same _ _ _ _ _ M2 _ M33 M34 HQX (by omega)).mono ?_
    rintro e wm4 ⟨rfl, hb4x⟩
    have RX4 := Lib.hid (own_below RX3.out hb4x)
    have BX4 := Lib.hid (Below.tr BX3.out hb4x)
    have M44 := Lib.hid (M33.out.below hb4x)
    have N43 := Lib.hid (N33.out.below hb4x)
    have N44 := Lib.hid (N34.out.below hb4x)
    clear hb4x RX3 M33 M34 N33 N34
    go_wp2_with fail
    refine (sameRows_same _ _ _ _ _ R2 _ N43 N44 HRX (by omega) HTX).mono ?_
    rintro e wm5 ⟨rfl, hb5x⟩
    have RX5 := Lib.hid (own_below RX4.out hb5x)
    have BX5 := Lib.hid (Below.tr BX4.out hb5x)
    have M55 := Lib.hid (M44.out.below hb5x)
    clear hb5x RX4 M44 N43 N44
    cases one
    · clear hone htt
      have Y2a := Lib.hid (h1.out.below BX5.out)
      go_wp2_with fail
      refine (drawLearn_any a1 len1 cap1 _ Y2a).mono ?_
      rintro e wl1 ⟨dl, AD, cD, rfl, hdl, hod, hbd⟩
      have OD1 := Lib.hid (own_ilies hod)
      have BD1 := Lib.hid (Below.tr BX5.out hbd)
      have hcd := own_cap hod
      clear hod hbd
      obtain ⟨lr, lok, hlr⟩ : ∃ r0 r1, LearnR dl r0 r1 := ⟨_, _, rfl, rfl⟩
      have hlrl := hlr.len
      have LR := Lib.hid hlr
      obtain ⟨nd, hnd⟩ : ∃ n, dl.length = n := ⟨_, rfl⟩
      obtain ⟨nr, hnr⟩ : ∃ n, lr.length = n := ⟨_, rfl⟩
      rw [hnd] at hdl hcd ⊢
      rw [hnr] at hlrl
      have HND := Lib.hid hnd
      have HNR := Lib.hid hnr
      clear hnd hnr hlr
      go_wp2_with fail
      refine (implLearn_any _ _ _ dl _ lr lok LR OD1 HND (by omega)).mono ?_
      rintro e wl2 ⟨AE, cE, rfl, hoe, hbe⟩
      have OD2 := Lib.hid (OD1.out.below hbe)
      have BD2 := Lib.hid (Below.tr BD1.out hbe)
      have OE2 := Lib.hid (own_ilies hoe)
      rw [HNR.out]
      clear hoe hbe
      go_wp2_with fail
      refine (specLearn_any _ _ _ dl _ lr lok LR OD2 HND (by omega) hcd).mono ?_
      rintro e wl3 ⟨AF, cF, rfl, hof, hbf⟩
      have OD3 := Lib.hid (OD2.out.below hbf)
      have OE3 := Lib.hid (OE2.out.below hbf)
      have OF3 := Lib.hid (own_ilies hof)
      have BD3 := Lib.hid (Below.tr BD2.out hbf)
      rw [HNR.out]
      clear hof hbf OD1 OD2 OE2
      have hlk : (lok == lok) = true := by simp
      go_wp2_with fail
      refine (sameInts_same _ _ _ _ _ lr _ OE3 OF3 HNR (by omega)).mono ?_
      rintro e wl4 ⟨rfl, hbg⟩
      have OD4 := Lib.hid (OD3.out.below hbg)
      have OE4 := Lib.hid (OE3.out.below hbg)
      have BD4 := Lib.hid (Below.tr BD3.out hbg)
      clear hbg
      cases lok
      · go_wp2
        go_ret
        exact ⟨rfl, BD4.out⟩
      · have LE : Hid (clauseB 12 dl = true ∧ lr = negL dl) := Lib.hid ⟨LR.out.1.symm, LR.out.2⟩
        have HI12 : Hid (In12 dl) := Lib.hid (in12_of LE.out.1)
        go_wp2_with fail
        refine (negatedL_any _ _ _ dl _ OD4 HND HI12 (by omega)).mono ?_
        rintro e wl5 ⟨AG, cG, rfl, hog, hbh⟩
        have OG5 : Hid (ILies wl5 AG lr) := Lib.hid (by rw [LE.out.2]; exact own_ilies hog)
        have OE5 := Lib.hid (OE4.out.below hbh)
        have BD5 := Lib.hid (Below.tr BD4.out hbh)
        have EL : (negL dl).length = nr := by rw [← LE.out.2]; exact HNR.out
        rw [EL]
        clear hog hbh EL
        go_wp2_with fail
        refine (sameInts_same _ _ _ _ _ lr _ OE5 OG5 HNR (by omega)).mono ?_
        rintro e wl6 ⟨rfl, hbi⟩
        have BD6 := Lib.hid (Below.tr BD5.out hbi)
        clear hbi
        go_wp2
        go_ret
        exact ⟨rfl, BD6.out⟩
    · clear hone
      cases t
      · clear htt
        have Y2b := Lib.hid (h1.out.below BX5.out)
        go_wp2_with fail
        refine (drawLearn_any a1 len1 cap1 _ Y2b).mono ?_
        rintro e wl1 ⟨dl, AD, cD, rfl, hdl, hod, hbd⟩
        have OD1 := Lib.hid (own_ilies hod)
        have BD1 := Lib.hid (Below.tr BX5.out hbd)
        have hcd := own_cap hod
        clear hod hbd
        obtain ⟨lr, lok, hlr⟩ : ∃ r0 r1, LearnR dl r0 r1 := ⟨_, _, rfl, rfl⟩
        have hlrl := hlr.len
        have LR := Lib.hid hlr
        obtain ⟨nd, hnd⟩ : ∃ n, dl.length = n := ⟨_, rfl⟩
        obtain ⟨nr, hnr⟩ : ∃ n, lr.length = n := ⟨_, rfl⟩
        rw [hnd] at hdl hcd ⊢
        rw [hnr] at hlrl
        have HND := Lib.hid hnd
        have HNR := Lib.hid hnr
        clear hnd hnr hlr
        go_wp2_with fail
        refine (implLearn_any _ _ _ dl _ lr lok LR OD1 HND (by omega)).mono ?_
        rintro e wl2 ⟨AE, cE, rfl, hoe, hbe⟩
        have OD2 := Lib.hid (OD1.out.below hbe)
        have BD2 := Lib.hid (Below.tr BD1.out hbe)
        have OE2 := Lib.hid (own_ilies hoe)
        rw [HNR.out]
        clear hoe hbe
        go_wp2_with fail
        refine (specLearn_any _ _ _ dl _ lr lok LR OD2 HND (by omega) hcd).mono ?_
        rintro e wl3 ⟨AF, cF, rfl, hof, hbf⟩
        have OD3 := Lib.hid (OD2.out.below hbf)
        have OE3 := Lib.hid (OE2.out.below hbf)
        have OF3 := Lib.hid (own_ilies hof)
        have BD3 := Lib.hid (Below.tr BD2.out hbf)
        rw [HNR.out]
        clear hof hbf OD1 OD2 OE2
        have hlk : (lok == lok) = true := by simp
        go_wp2_with fail
        refine (sameInts_same _ _ _ _ _ lr _ OE3 OF3 HNR (by omega)).mono ?_
        rintro e wl4 ⟨rfl, hbg⟩
        have OD4 := Lib.hid (OD3.out.below hbg)
        have OE4 := Lib.hid (OE3.out.below hbg)
        have BD4 := Lib.hid (Below.tr BD3.out hbg)
        clear hbg
        cases lok
        · go_wp2
          go_ret
          exact ⟨rfl, BD4.out⟩
        · have LE : Hid (clauseB 12 dl = true ∧ lr = negL dl) := Lib.hid ⟨LR.out.1.symm, LR.out.2⟩
          have HI12 : Hid (In12 dl) := Lib.hid (in12_of LE.out.1)
          go_wp2_with fail
          refine (negatedL_any _ _ _ dl _ OD4 HND HI12 (by omega)).mono ?_
          rintro e wl5 ⟨AG, cG, rfl, hog, hbh⟩
          have OG5 : Hid (ILies wl5 AG lr) := Lib.hid (by rw [LE.out.2]; exact own_ilies hog)
          have OE5 := Lib.hid (OE4.out.below hbh)
          have BD5 := Lib.hid (Below.tr BD4.out hbh)
          have EL : (negL dl).length = nr := by rw [← LE.out.2]; exact HNR.out
          rw [EL]
          clear hog hbh EL
          go_wp2_with fail
          refine (sameInts_same _ _ _ _ _ lr _ OE5 OG5 HNR (by omega)).mono ?_
          rintro e wl6 ⟨rfl, hbi⟩
          have BD6 := Lib.hid (Below.tr BD5.out hbi)
          clear hbi
          go_wp2
          go_ret
          exact ⟨rfl, BD6.out⟩
      · clear htt
        have SEM := Lib.hid (WR.out.sem.2.2.1 rfl)
        have LITG : Hid (∀ x ∈ g2, litB qx x = true) := Lib.hid (fun x hx => by
          have h1 := SEM.out.1
          rw [HQX.out] at h1
          rw [h1]
          exact clauseB_lits WR.out.sem.2.1 x hx)
        go_wp2_with fail
        refine (allIn_any _ _ _ _ _ _ g2 M2 _ (own_ilies RX5.out) M55 HYX HQX LITG (by omega) (by omega)).mono ?_
        rintro e wm6 ⟨rfl, rfl⟩
        rw [SEM.out.2.2]
        have Y2c := Lib.hid (h1.out.below BX5.out)
        go_wp2_with fail
        refine (drawLearn_any a1 len1 cap1 _ Y2c).mono ?_
        rintro e wl1 ⟨dl, AD, cD, rfl, hdl, hod, hbd⟩
        have OD1 := Lib.hid (own_ilies hod)
        have BD1 := Lib.hid (Below.tr BX5.out hbd)
        have hcd := own_cap hod
        clear hod hbd
        obtain ⟨lr, lok, hlr⟩ : ∃ r0 r1, LearnR dl r0 r1 := ⟨_, _, rfl, rfl⟩
        have hlrl := hlr.len
        have LR := Lib.hid hlr
        obtain ⟨nd, hnd⟩ : ∃ n, dl.length = n := ⟨_, rfl⟩
        obtain ⟨nr, hnr⟩ : ∃ n, lr.length = n := ⟨_, rfl⟩
        rw [hnd] at hdl hcd ⊢
        rw [hnr] at hlrl
        have HND := Lib.hid hnd
        have HNR := Lib.hid hnr
        clear hnd hnr hlr
        go_wp2_with fail
        refine (implLearn_any _ _ _ dl _ lr lok LR OD1 HND (by omega)).mono ?_
        rintro e wl2 ⟨AE, cE, rfl, hoe, hbe⟩
        have OD2 := Lib.hid (OD1.out.below hbe)
        have BD2 := Lib.hid (Below.tr BD1.out hbe)
        have OE2 := Lib.hid (own_ilies hoe)
        rw [HNR.out]
        clear hoe hbe
        go_wp2_with fail
        refine (specLearn_any _ _ _ dl _ lr lok LR OD2 HND (by omega) hcd).mono ?_
        rintro e wl3 ⟨AF, cF, rfl, hof, hbf⟩
        have OD3 := Lib.hid (OD2.out.below hbf)
        have OE3 := Lib.hid (OE2.out.below hbf)
        have OF3 := Lib.hid (own_ilies hof)
        have BD3 := Lib.hid (Below.tr BD2.out hbf)
        rw [HNR.out]
        clear hof hbf OD1 OD2 OE2
        have hlk : (lok == lok) = true := by simp
        go_wp2_with fail
        refine (sameInts_same _ _ _ _ _ lr _ OE3 OF3 HNR (by omega)).mono ?_
        rintro e wl4 ⟨rfl, hbg⟩
        have OD4 := Lib.hid (OD3.out.below hbg)
        have OE4 := Lib.hid (OE3.out.below hbg)
        have BD4 := Lib.hid (Below.tr BD3.out hbg)
        clear hbg
        cases lok
        · go_wp2
          go_ret
          exact ⟨rfl, BD4.out⟩
        · have LE : Hid (clauseB 12 dl = true ∧ lr = negL dl) := Lib.hid ⟨LR.out.1.symm, LR.out.2⟩
          have HI12 : Hid (In12 dl) := Lib.hid (in12_of LE.out.1)
          go_wp2_with fail
          refine (negatedL_any _ _ _ dl _ OD4 HND HI12 (by omega)).mono ?_
          rintro e wl5 ⟨AG, cG, rfl, hog, hbh⟩
          have OG5 : Hid (ILies wl5 AG lr) := Lib.hid (by rw [LE.out.2]; exact own_ilies hog)
          have OE5 := Lib.hid (OE4.out.below hbh)
          have BD5 := Lib.hid (Below.tr BD4.out hbh)
          have EL : (negL dl).length = nr := by rw [← LE.out.2]; exact HNR.out
          rw [EL]
          clear hog hbh EL
          go_wp2_with fail
          refine (sameInts_same _ _ _ _ _ lr _ OE5 OG5 HNR (by omega)).mono ?_
          rintro e wl6 ⟨rfl, hbi⟩
          have BD6 := Lib.hid (Below.tr BD5.out hbi)
          clear hbi
          go_wp2
          go_ret
          exact ⟨rfl, BD6.out⟩
  · obtain ⟨x, one, hc⟩ : ∃ x one, CountR v L x one := ⟨_, _, rfl, rfl⟩
    obtain ⟨h1e, hsx⟩ := count_sem SR.out hc
    subst h1e
    have CR_ := Lib.hid hc
    have IMP := Lib.hid SR.out.sem.2.1
    clear hc hko hss
    go_wp2_with fail
    refine (implCount_any v _ _ _ L _ x true CR_ O5.out.lies HX (by omega)).mono ?_
    rintro e w6 ⟨rfl, hb6⟩
    have O6 := Lib.hid (O5.out.below hb6)
    have B6 := Lib.hid (Below.tr B5.out hb6)
    have M6 := Lib.hid (M5.out.below hb6)
    have R6 := Lib.hid (R5.out.below hb6)
    clear hb6 O5 M5 R5
    cases s
    · have hsx2 : decide (x > 0) = false := by simpa using hsx
      clear hsx
      go_wp2_with fail
      go_loopw [117] (fun i wr => ∃ k : Nat, k ≤ z ∧ i = .int .i64 k ∧ Below w6.heap.size w6 wr) (fun i _ => z - (intOf i).toNat)
      case atStart => exact ⟨0, Nat.zero_le _, rfl, Below.refl _ _⟩
      case round =>
        obtain ⟨k, hk, rfl, hbr⟩ := hrel
        have BR := Lib.hid hbr
        have OR_ := Lib.hid (O6.out.below hbr)
        have RR := Lib.hid (R6.out.below hbr)
        have BW := Lib.hid (Below.tr B6.out hbr)
        clear hbr
        by_cases hlt : k < z
        · obtain ⟨c, hx⟩ : ∃ x, R[k]? = some x := ⟨_, List.getElem?_eq_getElem (by have := HZ.out; omega)⟩
          obtain ⟨b, off, a, cp, rfl, hbl, ha, hca, hma, hil⟩ := RR.out k c hx
          have IL := Lib.hid hil
          have HCR := Lib.hid (List.mem_of_getElem? hx)
          clear hx hil
          obtain ⟨m, hm⟩ : ∃ m, c.length = m := ⟨_, rfl⟩
          rw [hm] at ha hca hma
          have HM := Lib.hid hm
          clear hm
          obtain ⟨f, fok, hf⟩ := folR_any v L c
          have FR := Lib.hid hf
          clear hf
          go_wp2_with fail
          refine (implFollows_any v _ _ _ _ _ _ L c _ f fok FR OR_.out.lies IL HX HM HN (by omega) (by omega)).mono ?_
          rintro e w8 ⟨rfl, hb8⟩
          have B8 := Lib.hid (Below.tr BR.out hb8)
          clear hb8
          cases fok
          · go_wp2
            go_roundw
            case rel => exact ⟨k + 1, by omega, by go_num, B8.out⟩
            case measure => simp [intOf]; omega
          · have hft : f = true := fol_in FR.out IMP.out HCR.out rfl
            subst hft
            go_wp2
            go_roundw
            case rel => exact ⟨k + 1, by omega, by go_num, B8.out⟩
            case measure => simp [intOf]; omega
        · obtain rfl : k = z := by omega
          have Y1 := Lib.hid (h1.out.below BW.out)
          go_wp2_with fail
          refine (drawWith_any a1 len1 cap1 _ Y1).mono ?_
          rintro e wm1 ⟨v2, L2, g2, AX, BX, cx1, cx2, vx, rfl, hvx, hLx, hTx, hgx, hox, hrx, hbx⟩
          have OX1 := Lib.hid hox
          have RX1 := Lib.hid hrx
          have BX1 := Lib.hid (Below.tr BW.out hbx)
          have HNX := Lib.hid (own_nilA' hox.outer)
          have hccx := own_cap hrx
          clear hox hrx hbx hvx
          obtain ⟨t, M2, R2, one, hw⟩ := withR_any v2 L2 g2
          have hMl2 : M2.length ≤ 12 := hw.small.1
          have hRl2 : R2.length ≤ 300 := hw.small.2.1
          have hRt2 : tot R2 ≤ 3600 := hw.small.2.2
          have WR := Lib.hid hw
          obtain ⟨nx, hnx⟩ : ∃ n, L2.length = n := ⟨_, rfl⟩
          obtain ⟨mx, hmx⟩ : ∃ n, g2.length = n := ⟨_, rfl⟩
          obtain ⟨qx, hqx⟩ : ∃ n, M2.length = n := ⟨_, rfl⟩
          obtain ⟨rx, hrx⟩ : ∃ n, R2.length = n := ⟨_, rfl⟩
          rw [hnx] at hLx OX1 HNX ⊢
          rw [hmx] at hgx hccx RX1 ⊢
          rw [hqx] at hMl2
          rw [hrx] at hRl2
          have HXX := Lib.hid hnx
          have HYX := Lib.hid hmx
          have HQX := Lib.hid hqx
          have HRX := Lib.hid hrx
          have HTX : Hid (tot R2 ≤ 10000000) := Lib.hid (by omega)
          clear hnx hmx hqx hrx hw
          go_wp2_with fail
          refine (implWith_any v2 _ _ _ _ _ _ L2 g2 _ t M2 R2 one WR OX1.out.lies (own_ilies RX1.out) HXX HYX HNX (by omega) (by omega)).mono ?_
          rintro e wm2 ⟨AM, cM, AN, cN, vn, rfl, hom, hon, _, hb2x⟩
          have OX2 := Lib.hid (OX1.out.below hb2x)
          have RX2 := Lib.hid (own_below RX1.out hb2x)
          have BX2 := Lib.hid (Below.tr BX1.out hb2x)
          have M22 := Lib.hid (own_blies hom)
          have N22 := Lib.hid hon.lies
          rw [HQX.out, HRX.out]
          clear hom hon hb2x OX1 RX1
          go_wp2_with fail
          refine (specWith_any v2 _ _ _ _ _ _ L2 g2 _ t M2 R2 one WR OX2.out.lies OX2.out.lnil (own_ilies RX2.out) HXX HYX (by omega) (by omega) hccx).mono ?_
          rintro e wm3 ⟨AO, cO, AP, cP, vp, rfl, hom, hon, _, hb3x⟩
          have RX3 := Lib.hid (own_below RX2.out hb3x)
          have BX3 := Lib.hid (Below.tr BX2.out hb3x)
          have M33 := Lib.hid (M22.out.below hb3x)
          have N33 := Lib.hid (N22.out.below hb3x)
          have M34 := Lib.hid (own_blies hom)
          have N34 := Lib.hid hon.lies
          rw [HQX.out, HRX.out]
          clear hom hon hb3x OX2 RX2 M22 N22
          have hone : (one != one) = false := by simp
          have htt : (t != t) = false := by simp
          go_wp2_with fail
          refine (sameBools_same _ _ _ _ _ M2 _ M33 M34 HQX (by omega)).mono ?_
          rintro e wm4 ⟨rfl, hb4x⟩
          have RX4 := Lib.hid (own_below RX3.out hb4x)
          have BX4 := Lib.hid (Below.tr BX3.out hb4x)
          have M44 := Lib.hid (M33.out.below hb4x)
          have N43 := Lib.hid (N33.out.below hb4x)
          have N44 := Lib.hid (N34.out.below hb4x)
          clear hb4x RX3 M33 M34 N33 N34
          go_wp2_with fail
          refine (sameRows_same _ _ _ _ _ R2 _ N43 N44 HRX (by omega) HTX).mono ?_
          rintro e wm5 ⟨rfl, hb5x⟩
          have RX5 := Lib.hid (own_below RX4.out hb5x)
          have BX5 := Lib.hid (Below.tr BX4.out hb5x)
          have M55 := Lib.hid (M44.out.below hb5x)
          clear hb5x RX4 M44 N43 N44
          cases one
          · clear hone htt
            have Y2a := Lib.hid (h1.out.below BX5.out)
            go_wp2_with fail
            refine (drawLearn_any a1 len1 cap1 _ Y2a).mono ?_
            rintro e wl1 ⟨dl, AD, cD, rfl, hdl, hod, hbd⟩
            have OD1 := Lib.hid (own_ilies hod)
            have BD1 := Lib.hid (Below.tr BX5.out hbd)
            have hcd := own_cap hod
            clear hod hbd
            obtain ⟨lr, lok, hlr⟩ : ∃ r0 r1, LearnR dl r0 r1 := ⟨_, _, rfl, rfl⟩
            have hlrl := hlr.len
            have LR := Lib.hid hlr
            obtain ⟨nd, hnd⟩ : ∃ n, dl.length = n := ⟨_, rfl⟩
            obtain ⟨nr, hnr⟩ : ∃ n, lr.length = n := ⟨_, rfl⟩
            rw [hnd] at hdl hcd ⊢
            rw [hnr] at hlrl
            have HND := Lib.hid hnd
            have HNR := Lib.hid hnr
            clear hnd hnr hlr
            go_wp2_with fail
            refine (implLearn_any _ _ _ dl _ lr lok LR OD1 HND (by omega)).mono ?_
            rintro e wl2 ⟨AE, cE, rfl, hoe, hbe⟩
            have OD2 := Lib.hid (OD1.out.below hbe)
            have BD2 := Lib.hid (Below.tr BD1.out hbe)
            have OE2 := Lib.hid (own_ilies hoe)
            rw [HNR.out]
            clear hoe hbe
            go_wp2_with fail
            refine (specLearn_any _ _ _ dl _ lr lok LR OD2 HND (by omega) hcd).mono ?_
            rintro e wl3 ⟨AF, cF, rfl, hof, hbf⟩
            have OD3 := Lib.hid (OD2.out.below hbf)
            have OE3 := Lib.hid (OE2.out.below hbf)
            have OF3 := Lib.hid (own_ilies hof)
            have BD3 := Lib.hid (Below.tr BD2.out hbf)
            rw [HNR.out]
            clear hof hbf OD1 OD2 OE2
            have hlk : (lok == lok) = true := by simp
            go_wp2_with fail
            refine (sameInts_same _ _ _ _ _ lr _ OE3 OF3 HNR (by omega)).mono ?_
            rintro e wl4 ⟨rfl, hbg⟩
            have OD4 := Lib.hid (OD3.out.below hbg)
            have OE4 := Lib.hid (OE3.out.below hbg)
            have BD4 := Lib.hid (Below.tr BD3.out hbg)
            clear hbg
            cases lok
            · go_wp2
              go_ret
              exact ⟨rfl, BD4.out⟩
            · have LE : Hid (clauseB 12 dl = true ∧ lr = negL dl) := Lib.hid ⟨LR.out.1.symm, LR.out.2⟩
              have HI12 : Hid (In12 dl) := Lib.hid (in12_of LE.out.1)
              go_wp2_with fail
              refine (negatedL_any _ _ _ dl _ OD4 HND HI12 (by omega)).mono ?_
              rintro e wl5 ⟨AG, cG, rfl, hog, hbh⟩
              have OG5 : Hid (ILies wl5 AG lr) := Lib.hid (by rw [LE.out.2]; exact own_ilies hog)
              have OE5 := Lib.hid (OE4.out.below hbh)
              have BD5 := Lib.hid (Below.tr BD4.out hbh)
              have EL : (negL dl).length = nr := by rw [← LE.out.2]; exact HNR.out
              rw [EL]
              clear hog hbh EL
              go_wp2_with fail
              refine (sameInts_same _ _ _ _ _ lr _ OE5 OG5 HNR (by omega)).mono ?_
              rintro e wl6 ⟨rfl, hbi⟩
              have BD6 := Lib.hid (Below.tr BD5.out hbi)
              clear hbi
              go_wp2
              go_ret
              exact ⟨rfl, BD6.out⟩
          · clear hone
            cases t
            · clear htt
              have Y2b := Lib.hid (h1.out.below BX5.out)
              go_wp2_with fail
              refine (drawLearn_any a1 len1 cap1 _ Y2b).mono ?_
              rintro e wl1 ⟨dl, AD, cD, rfl, hdl, hod, hbd⟩
              have OD1 := Lib.hid (own_ilies hod)
              have BD1 := Lib.hid (Below.tr BX5.out hbd)
              have hcd := own_cap hod
              clear hod hbd
              obtain ⟨lr, lok, hlr⟩ : ∃ r0 r1, LearnR dl r0 r1 := ⟨_, _, rfl, rfl⟩
              have hlrl := hlr.len
              have LR := Lib.hid hlr
              obtain ⟨nd, hnd⟩ : ∃ n, dl.length = n := ⟨_, rfl⟩
              obtain ⟨nr, hnr⟩ : ∃ n, lr.length = n := ⟨_, rfl⟩
              rw [hnd] at hdl hcd ⊢
              rw [hnr] at hlrl
              have HND := Lib.hid hnd
              have HNR := Lib.hid hnr
              clear hnd hnr hlr
              go_wp2_with fail
              refine (implLearn_any _ _ _ dl _ lr lok LR OD1 HND (by omega)).mono ?_
              rintro e wl2 ⟨AE, cE, rfl, hoe, hbe⟩
              have OD2 := Lib.hid (OD1.out.below hbe)
              have BD2 := Lib.hid (Below.tr BD1.out hbe)
              have OE2 := Lib.hid (own_ilies hoe)
              rw [HNR.out]
              clear hoe hbe
              go_wp2_with fail
              refine (specLearn_any _ _ _ dl _ lr lok LR OD2 HND (by omega) hcd).mono ?_
              rintro e wl3 ⟨AF, cF, rfl, hof, hbf⟩
              have OD3 := Lib.hid (OD2.out.below hbf)
              have OE3 := Lib.hid (OE2.out.below hbf)
              have OF3 := Lib.hid (own_ilies hof)
              have BD3 := Lib.hid (Below.tr BD2.out hbf)
              rw [HNR.out]
              clear hof hbf OD1 OD2 OE2
              have hlk : (lok == lok) = true := by simp
              go_wp2_with fail
              refine (sameInts_same _ _ _ _ _ lr _ OE3 OF3 HNR (by omega)).mono ?_
              rintro e wl4 ⟨rfl, hbg⟩
              have OD4 := Lib.hid (OD3.out.below hbg)
              have OE4 := Lib.hid (OE3.out.below hbg)
              have BD4 := Lib.hid (Below.tr BD3.out hbg)
              clear hbg
              cases lok
              · go_wp2
                go_ret
                exact ⟨rfl, BD4.out⟩
              · have LE : Hid (clauseB 12 dl = true ∧ lr = negL dl) := Lib.hid ⟨LR.out.1.symm, LR.out.2⟩
                have HI12 : Hid (In12 dl) := Lib.hid (in12_of LE.out.1)
                go_wp2_with fail
                refine (negatedL_any _ _ _ dl _ OD4 HND HI12 (by omega)).mono ?_
                rintro e wl5 ⟨AG, cG, rfl, hog, hbh⟩
                have OG5 : Hid (ILies wl5 AG lr) := Lib.hid (by rw [LE.out.2]; exact own_ilies hog)
                have OE5 := Lib.hid (OE4.out.below hbh)
                have BD5 := Lib.hid (Below.tr BD4.out hbh)
                have EL : (negL dl).length = nr := by rw [← LE.out.2]; exact HNR.out
                rw [EL]
                clear hog hbh EL
                go_wp2_with fail
                refine (sameInts_same _ _ _ _ _ lr _ OE5 OG5 HNR (by omega)).mono ?_
                rintro e wl6 ⟨rfl, hbi⟩
                have BD6 := Lib.hid (Below.tr BD5.out hbi)
                clear hbi
                go_wp2
                go_ret
                exact ⟨rfl, BD6.out⟩
            · clear htt
              have SEM := Lib.hid (WR.out.sem.2.2.1 rfl)
              have LITG : Hid (∀ x ∈ g2, litB qx x = true) := Lib.hid (fun x hx => by
                have h1 := SEM.out.1
                rw [HQX.out] at h1
                rw [h1]
                exact clauseB_lits WR.out.sem.2.1 x hx)
              go_wp2_with fail
              refine (allIn_any _ _ _ _ _ _ g2 M2 _ (own_ilies RX5.out) M55 HYX HQX LITG (by omega) (by omega)).mono ?_
              rintro e wm6 ⟨rfl, rfl⟩
              rw [SEM.out.2.2]
              have Y2c := Lib.hid (h1.out.below BX5.out)
              go_wp2_with fail
              refine (drawLearn_any a1 len1 cap1 _ Y2c).mono ?_
              rintro e wl1 ⟨dl, AD, cD, rfl, hdl, hod, hbd⟩
              have OD1 := Lib.hid (own_ilies hod)
              have BD1 := Lib.hid (Below.tr BX5.out hbd)
              have hcd := own_cap hod
              clear hod hbd
              obtain ⟨lr, lok, hlr⟩ : ∃ r0 r1, LearnR dl r0 r1 := ⟨_, _, rfl, rfl⟩
              have hlrl := hlr.len
              have LR := Lib.hid hlr
              obtain ⟨nd, hnd⟩ : ∃ n, dl.length = n := ⟨_, rfl⟩
              obtain ⟨nr, hnr⟩ : ∃ n, lr.length = n := ⟨_, rfl⟩
              rw [hnd] at hdl hcd ⊢
              rw [hnr] at hlrl
              have HND := Lib.hid hnd
              have HNR := Lib.hid hnr
              clear hnd hnr hlr
              go_wp2_with fail
              refine (implLearn_any _ _ _ dl _ lr lok LR OD1 HND (by omega)).mono ?_
              rintro e wl2 ⟨AE, cE, rfl, hoe, hbe⟩
              have OD2 := Lib.hid (OD1.out.below hbe)
              have BD2 := Lib.hid (Below.tr BD1.out hbe)
              have OE2 := Lib.hid (own_ilies hoe)
              rw [HNR.out]
              clear hoe hbe
              go_wp2_with fail
              refine (specLearn_any _ _ _ dl _ lr lok LR OD2 HND (by omega) hcd).mono ?_
              rintro e wl3 ⟨AF, cF, rfl, hof, hbf⟩
              have OD3 := Lib.hid (OD2.out.below hbf)
              have OE3 := Lib.hid (OE2.out.below hbf)
              have OF3 := Lib.hid (own_ilies hof)
              have BD3 := Lib.hid (Below.tr BD2.out hbf)
              rw [HNR.out]
              clear hof hbf OD1 OD2 OE2
              have hlk : (lok == lok) = true := by simp
              go_wp2_with fail
              refine (sameInts_same _ _ _ _ _ lr _ OE3 OF3 HNR (by omega)).mono ?_
              rintro e wl4 ⟨rfl, hbg⟩
              have OD4 := Lib.hid (OD3.out.below hbg)
              have OE4 := Lib.hid (OE3.out.below hbg)
              have BD4 := Lib.hid (Below.tr BD3.out hbg)
              clear hbg
              cases lok
              · go_wp2
                go_ret
                exact ⟨rfl, BD4.out⟩
              · have LE : Hid (clauseB 12 dl = true ∧ lr = negL dl) := Lib.hid ⟨LR.out.1.symm, LR.out.2⟩
                have HI12 : Hid (In12 dl) := Lib.hid (in12_of LE.out.1)
                go_wp2_with fail
                refine (negatedL_any _ _ _ dl _ OD4 HND HI12 (by omega)).mono ?_
                rintro e wl5 ⟨AG, cG, rfl, hog, hbh⟩
                have OG5 : Hid (ILies wl5 AG lr) := Lib.hid (by rw [LE.out.2]; exact own_ilies hog)
                have OE5 := Lib.hid (OE4.out.below hbh)
                have BD5 := Lib.hid (Below.tr BD4.out hbh)
                have EL : (negL dl).length = nr := by rw [← LE.out.2]; exact HNR.out
                rw [EL]
                clear hog hbh EL
                go_wp2_with fail
                refine (sameInts_same _ _ _ _ _ lr _ OE5 OG5 HNR (by omega)).mono ?_
                rintro e wl6 ⟨rfl, hbi⟩
                have BD6 := Lib.hid (Below.tr BD5.out hbi)
                clear hbi
                go_wp2
                go_ret
                exact ⟨rfl, BD6.out⟩
    · have hsx2 : decide (x > 0) = true := by simpa using hsx
      clear hsx
      have SS := Lib.hid (SR.out.sem.2.2.1 rfl)
      have HR2 : Hid (HoldR v L M true true) := Lib.hid ⟨by rw [SR.out.sem.1, SS.out.1]; simp, by rw [SS.out.2]; rfl⟩
      go_wp2_with fail
      refine (implHolds_any v _ _ _ _ _ _ L M _ true true HR2 O6.out.lies M6 HX HQ (by omega)).mono ?_
      rintro e w7 ⟨rfl, hb7⟩
      have O7 := Lib.hid (O6.out.below hb7)
      have B7 := Lib.hid (Below.tr B6.out hb7)
      have R7 := Lib.hid (R6.out.below hb7)
      clear hb7 O6 M6 R6
      go_wp2_with fail
      go_loopw [117] (fun i wr => ∃ k : Nat, k ≤ z ∧ i = .int .i64 k ∧ Below w7.heap.size w7 wr) (fun i _ => z - (intOf i).toNat)
      case atStart => exact ⟨0, Nat.zero_le _, rfl, Below.refl _ _⟩
      case round =>
        obtain ⟨k, hk, rfl, hbr⟩ := hrel
        have BR := Lib.hid hbr
        have OR_ := Lib.hid (O7.out.below hbr)
        have RR := Lib.hid (R7.out.below hbr)
        have BW := Lib.hid (Below.tr B7.out hbr)
        clear hbr
        by_cases hlt : k < z
        · obtain ⟨c, hx⟩ : ∃ x, R[k]? = some x := ⟨_, List.getElem?_eq_getElem (by have := HZ.out; omega)⟩
          obtain ⟨b, off, a, cp, rfl, hbl, ha, hca, hma, hil⟩ := RR.out k c hx
          have IL := Lib.hid hil
          have HCR := Lib.hid (List.mem_of_getElem? hx)
          clear hx hil
          obtain ⟨m, hm⟩ : ∃ m, c.length = m := ⟨_, rfl⟩
          rw [hm] at ha hca hma
          have HM := Lib.hid hm
          clear hm
          obtain ⟨f, fok, hf⟩ := folR_any v L c
          have FR := Lib.hid hf
          clear hf
          go_wp2_with fail
          refine (implFollows_any v _ _ _ _ _ _ L c _ f fok FR OR_.out.lies IL HX HM HN (by omega) (by omega)).mono ?_
          rintro e w8 ⟨rfl, hb8⟩
          have B8 := Lib.hid (Below.tr BR.out hb8)
          clear hb8
          cases fok
          · go_wp2
            go_roundw
            case rel => exact ⟨k + 1, by omega, by go_num, B8.out⟩
            case measure => simp [intOf]; omega
          · have hft : f = true := fol_in FR.out IMP.out HCR.out rfl
            subst hft
            go_wp2
            go_roundw
            case rel => exact ⟨k + 1, by omega, by go_num, B8.out⟩
            case measure => simp [intOf]; omega
        · obtain rfl : k = z := by omega
          have Y1 := Lib.hid (h1.out.below BW.out)
          go_wp2_with fail
          refine (drawWith_any a1 len1 cap1 _ Y1).mono ?_
          rintro e wm1 ⟨v2, L2, g2, AX, BX, cx1, cx2, vx, rfl, hvx, hLx, hTx, hgx, hox, hrx, hbx⟩
          have OX1 := Lib.hid hox
          have RX1 := Lib.hid hrx
          have BX1 := Lib.hid (Below.tr BW.out hbx)
          have HNX := Lib.hid (own_nilA' hox.outer)
          have hccx := own_cap hrx
          clear hox hrx hbx hvx
          obtain ⟨t, M2, R2, one, hw⟩ := withR_any v2 L2 g2
          have hMl2 : M2.length ≤ 12 := hw.small.1
          have hRl2 : R2.length ≤ 300 := hw.small.2.1
          have hRt2 : tot R2 ≤ 3600 := hw.small.2.2
          have WR := Lib.hid hw
          obtain ⟨nx, hnx⟩ : ∃ n, L2.length = n := ⟨_, rfl⟩
          obtain ⟨mx, hmx⟩ : ∃ n, g2.length = n := ⟨_, rfl⟩
          obtain ⟨qx, hqx⟩ : ∃ n, M2.length = n := ⟨_, rfl⟩
          obtain ⟨rx, hrx⟩ : ∃ n, R2.length = n := ⟨_, rfl⟩
          rw [hnx] at hLx OX1 HNX ⊢
          rw [hmx] at hgx hccx RX1 ⊢
          rw [hqx] at hMl2
          rw [hrx] at hRl2
          have HXX := Lib.hid hnx
          have HYX := Lib.hid hmx
          have HQX := Lib.hid hqx
          have HRX := Lib.hid hrx
          have HTX : Hid (tot R2 ≤ 10000000) := Lib.hid (by omega)
          clear hnx hmx hqx hrx hw
          go_wp2_with fail
          refine (implWith_any v2 _ _ _ _ _ _ L2 g2 _ t M2 R2 one WR OX1.out.lies (own_ilies RX1.out) HXX HYX HNX (by omega) (by omega)).mono ?_
          rintro e wm2 ⟨AM, cM, AN, cN, vn, rfl, hom, hon, _, hb2x⟩
          have OX2 := Lib.hid (OX1.out.below hb2x)
          have RX2 := Lib.hid (own_below RX1.out hb2x)
          have BX2 := Lib.hid (Below.tr BX1.out hb2x)
          have M22 := Lib.hid (own_blies hom)
          have N22 := Lib.hid hon.lies
          rw [HQX.out, HRX.out]
          clear hom hon hb2x OX1 RX1
          go_wp2_with fail
          refine (specWith_any v2 _ _ _ _ _ _ L2 g2 _ t M2 R2 one WR OX2.out.lies OX2.out.lnil (own_ilies RX2.out) HXX HYX (by omega) (by omega) hccx).mono ?_
          rintro e wm3 ⟨AO, cO, AP, cP, vp, rfl, hom, hon, _, hb3x⟩
          have RX3 := Lib.hid (own_below RX2.out hb3x)
          have BX3 := Lib.hid (Below.tr BX2.out hb3x)
          have M33 := Lib.hid (M22.out.below hb3x)
          have N33 := Lib.hid (N22.out.below hb3x)
          have M34 := Lib.hid (own_blies hom)
          have N34 := Lib.hid hon.lies
          rw [HQX.out, HRX.out]
          clear hom hon hb3x OX2 RX2 M22 N22
          have hone : (one != one) = false := by simp
          have htt : (t != t) = false := by simp
          go_wp2_with fail
          refine (sameBools_same _ _ _ _ _ M2 _ M33 M34 HQX (by omega)).mono ?_
          rintro e wm4 ⟨rfl, hb4x⟩
          have RX4 := Lib.hid (own_below RX3.out hb4x)
          have BX4 := Lib.hid (Below.tr BX3.out hb4x)
          have M44 := Lib.hid (M33.out.below hb4x)
          have N43 := Lib.hid (N33.out.below hb4x)
          have N44 := Lib.hid (N34.out.below hb4x)
          clear hb4x RX3 M33 M34 N33 N34
          go_wp2_with fail
          refine (sameRows_same _ _ _ _ _ R2 _ N43 N44 HRX (by omega) HTX).mono ?_
          rintro e wm5 ⟨rfl, hb5x⟩
          have RX5 := Lib.hid (own_below RX4.out hb5x)
          have BX5 := Lib.hid (Below.tr BX4.out hb5x)
          have M55 := Lib.hid (M44.out.below hb5x)
          clear hb5x RX4 M44 N43 N44
          cases one
          · clear hone htt
            have Y2a := Lib.hid (h1.out.below BX5.out)
            go_wp2_with fail
            refine (drawLearn_any a1 len1 cap1 _ Y2a).mono ?_
            rintro e wl1 ⟨dl, AD, cD, rfl, hdl, hod, hbd⟩
            have OD1 := Lib.hid (own_ilies hod)
            have BD1 := Lib.hid (Below.tr BX5.out hbd)
            have hcd := own_cap hod
            clear hod hbd
            obtain ⟨lr, lok, hlr⟩ : ∃ r0 r1, LearnR dl r0 r1 := ⟨_, _, rfl, rfl⟩
            have hlrl := hlr.len
            have LR := Lib.hid hlr
            obtain ⟨nd, hnd⟩ : ∃ n, dl.length = n := ⟨_, rfl⟩
            obtain ⟨nr, hnr⟩ : ∃ n, lr.length = n := ⟨_, rfl⟩
            rw [hnd] at hdl hcd ⊢
            rw [hnr] at hlrl
            have HND := Lib.hid hnd
            have HNR := Lib.hid hnr
            clear hnd hnr hlr
            go_wp2_with fail
            refine (implLearn_any _ _ _ dl _ lr lok LR OD1 HND (by omega)).mono ?_
            rintro e wl2 ⟨AE, cE, rfl, hoe, hbe⟩
            have OD2 := Lib.hid (OD1.out.below hbe)
            have BD2 := Lib.hid (Below.tr BD1.out hbe)
            have OE2 := Lib.hid (own_ilies hoe)
            rw [HNR.out]
            clear hoe hbe
            go_wp2_with fail
            refine (specLearn_any _ _ _ dl _ lr lok LR OD2 HND (by omega) hcd).mono ?_
            rintro e wl3 ⟨AF, cF, rfl, hof, hbf⟩
            have OD3 := Lib.hid (OD2.out.below hbf)
            have OE3 := Lib.hid (OE2.out.below hbf)
            have OF3 := Lib.hid (own_ilies hof)
            have BD3 := Lib.hid (Below.tr BD2.out hbf)
            rw [HNR.out]
            clear hof hbf OD1 OD2 OE2
            have hlk : (lok == lok) = true := by simp
            go_wp2_with fail
            refine (sameInts_same _ _ _ _ _ lr _ OE3 OF3 HNR (by omega)).mono ?_
            rintro e wl4 ⟨rfl, hbg⟩
            have OD4 := Lib.hid (OD3.out.below hbg)
            have OE4 := Lib.hid (OE3.out.below hbg)
            have BD4 := Lib.hid (Below.tr BD3.out hbg)
            clear hbg
            cases lok
            · go_wp2
              go_ret
              exact ⟨rfl, BD4.out⟩
            · have LE : Hid (clauseB 12 dl = true ∧ lr = negL dl) := Lib.hid ⟨LR.out.1.symm, LR.out.2⟩
              have HI12 : Hid (In12 dl) := Lib.hid (in12_of LE.out.1)
              go_wp2_with fail
              refine (negatedL_any _ _ _ dl _ OD4 HND HI12 (by omega)).mono ?_
              rintro e wl5 ⟨AG, cG, rfl, hog, hbh⟩
              have OG5 : Hid (ILies wl5 AG lr) := Lib.hid (by rw [LE.out.2]; exact own_ilies hog)
              have OE5 := Lib.hid (OE4.out.below hbh)
              have BD5 := Lib.hid (Below.tr BD4.out hbh)
              have EL : (negL dl).length = nr := by rw [← LE.out.2]; exact HNR.out
              rw [EL]
              clear hog hbh EL
              go_wp2_with fail
              refine (sameInts_same _ _ _ _ _ lr _ OE5 OG5 HNR (by omega)).mono ?_
              rintro e wl6 ⟨rfl, hbi⟩
              have BD6 := Lib.hid (Below.tr BD5.out hbi)
              clear hbi
              go_wp2
              go_ret
              exact ⟨rfl, BD6.out⟩
          · clear hone
            cases t
            · clear htt
              have Y2b := Lib.hid (h1.out.below BX5.out)
              go_wp2_with fail
              refine (drawLearn_any a1 len1 cap1 _ Y2b).mono ?_
              rintro e wl1 ⟨dl, AD, cD, rfl, hdl, hod, hbd⟩
              have OD1 := Lib.hid (own_ilies hod)
              have BD1 := Lib.hid (Below.tr BX5.out hbd)
              have hcd := own_cap hod
              clear hod hbd
              obtain ⟨lr, lok, hlr⟩ : ∃ r0 r1, LearnR dl r0 r1 := ⟨_, _, rfl, rfl⟩
              have hlrl := hlr.len
              have LR := Lib.hid hlr
              obtain ⟨nd, hnd⟩ : ∃ n, dl.length = n := ⟨_, rfl⟩
              obtain ⟨nr, hnr⟩ : ∃ n, lr.length = n := ⟨_, rfl⟩
              rw [hnd] at hdl hcd ⊢
              rw [hnr] at hlrl
              have HND := Lib.hid hnd
              have HNR := Lib.hid hnr
              clear hnd hnr hlr
              go_wp2_with fail
              refine (implLearn_any _ _ _ dl _ lr lok LR OD1 HND (by omega)).mono ?_
              rintro e wl2 ⟨AE, cE, rfl, hoe, hbe⟩
              have OD2 := Lib.hid (OD1.out.below hbe)
              have BD2 := Lib.hid (Below.tr BD1.out hbe)
              have OE2 := Lib.hid (own_ilies hoe)
              rw [HNR.out]
              clear hoe hbe
              go_wp2_with fail
              refine (specLearn_any _ _ _ dl _ lr lok LR OD2 HND (by omega) hcd).mono ?_
              rintro e wl3 ⟨AF, cF, rfl, hof, hbf⟩
              have OD3 := Lib.hid (OD2.out.below hbf)
              have OE3 := Lib.hid (OE2.out.below hbf)
              have OF3 := Lib.hid (own_ilies hof)
              have BD3 := Lib.hid (Below.tr BD2.out hbf)
              rw [HNR.out]
              clear hof hbf OD1 OD2 OE2
              have hlk : (lok == lok) = true := by simp
              go_wp2_with fail
              refine (sameInts_same _ _ _ _ _ lr _ OE3 OF3 HNR (by omega)).mono ?_
              rintro e wl4 ⟨rfl, hbg⟩
              have OD4 := Lib.hid (OD3.out.below hbg)
              have OE4 := Lib.hid (OE3.out.below hbg)
              have BD4 := Lib.hid (Below.tr BD3.out hbg)
              clear hbg
              cases lok
              · go_wp2
                go_ret
                exact ⟨rfl, BD4.out⟩
              · have LE : Hid (clauseB 12 dl = true ∧ lr = negL dl) := Lib.hid ⟨LR.out.1.symm, LR.out.2⟩
                have HI12 : Hid (In12 dl) := Lib.hid (in12_of LE.out.1)
                go_wp2_with fail
                refine (negatedL_any _ _ _ dl _ OD4 HND HI12 (by omega)).mono ?_
                rintro e wl5 ⟨AG, cG, rfl, hog, hbh⟩
                have OG5 : Hid (ILies wl5 AG lr) := Lib.hid (by rw [LE.out.2]; exact own_ilies hog)
                have OE5 := Lib.hid (OE4.out.below hbh)
                have BD5 := Lib.hid (Below.tr BD4.out hbh)
                have EL : (negL dl).length = nr := by rw [← LE.out.2]; exact HNR.out
                rw [EL]
                clear hog hbh EL
                go_wp2_with fail
                refine (sameInts_same _ _ _ _ _ lr _ OE5 OG5 HNR (by omega)).mono ?_
                rintro e wl6 ⟨rfl, hbi⟩
                have BD6 := Lib.hid (Below.tr BD5.out hbi)
                clear hbi
                go_wp2
                go_ret
                exact ⟨rfl, BD6.out⟩
            · clear htt
              have SEM := Lib.hid (WR.out.sem.2.2.1 rfl)
              have LITG : Hid (∀ x ∈ g2, litB qx x = true) := Lib.hid (fun x hx => by
                have h1 := SEM.out.1
                rw [HQX.out] at h1
                rw [h1]
                exact clauseB_lits WR.out.sem.2.1 x hx)
              go_wp2_with fail
              refine (allIn_any _ _ _ _ _ _ g2 M2 _ (own_ilies RX5.out) M55 HYX HQX LITG (by omega) (by omega)).mono ?_
              rintro e wm6 ⟨rfl, rfl⟩
              rw [SEM.out.2.2]
              have Y2c := Lib.hid (h1.out.below BX5.out)
              go_wp2_with fail
              refine (drawLearn_any a1 len1 cap1 _ Y2c).mono ?_
              rintro e wl1 ⟨dl, AD, cD, rfl, hdl, hod, hbd⟩
              have OD1 := Lib.hid (own_ilies hod)
              have BD1 := Lib.hid (Below.tr BX5.out hbd)
              have hcd := own_cap hod
              clear hod hbd
              obtain ⟨lr, lok, hlr⟩ : ∃ r0 r1, LearnR dl r0 r1 := ⟨_, _, rfl, rfl⟩
              have hlrl := hlr.len
              have LR := Lib.hid hlr
              obtain ⟨nd, hnd⟩ : ∃ n, dl.length = n := ⟨_, rfl⟩
              obtain ⟨nr, hnr⟩ : ∃ n, lr.length = n := ⟨_, rfl⟩
              rw [hnd] at hdl hcd ⊢
              rw [hnr] at hlrl
              have HND := Lib.hid hnd
              have HNR := Lib.hid hnr
              clear hnd hnr hlr
              go_wp2_with fail
              refine (implLearn_any _ _ _ dl _ lr lok LR OD1 HND (by omega)).mono ?_
              rintro e wl2 ⟨AE, cE, rfl, hoe, hbe⟩
              have OD2 := Lib.hid (OD1.out.below hbe)
              have BD2 := Lib.hid (Below.tr BD1.out hbe)
              have OE2 := Lib.hid (own_ilies hoe)
              rw [HNR.out]
              clear hoe hbe
              go_wp2_with fail
              refine (specLearn_any _ _ _ dl _ lr lok LR OD2 HND (by omega) hcd).mono ?_
              rintro e wl3 ⟨AF, cF, rfl, hof, hbf⟩
              have OD3 := Lib.hid (OD2.out.below hbf)
              have OE3 := Lib.hid (OE2.out.below hbf)
              have OF3 := Lib.hid (own_ilies hof)
              have BD3 := Lib.hid (Below.tr BD2.out hbf)
              rw [HNR.out]
              clear hof hbf OD1 OD2 OE2
              have hlk : (lok == lok) = true := by simp
              go_wp2_with fail
              refine (sameInts_same _ _ _ _ _ lr _ OE3 OF3 HNR (by omega)).mono ?_
              rintro e wl4 ⟨rfl, hbg⟩
              have OD4 := Lib.hid (OD3.out.below hbg)
              have OE4 := Lib.hid (OE3.out.below hbg)
              have BD4 := Lib.hid (Below.tr BD3.out hbg)
              clear hbg
              cases lok
              · go_wp2
                go_ret
                exact ⟨rfl, BD4.out⟩
              · have LE : Hid (clauseB 12 dl = true ∧ lr = negL dl) := Lib.hid ⟨LR.out.1.symm, LR.out.2⟩
                have HI12 : Hid (In12 dl) := Lib.hid (in12_of LE.out.1)
                go_wp2_with fail
                refine (negatedL_any _ _ _ dl _ OD4 HND HI12 (by omega)).mono ?_
                rintro e wl5 ⟨AG, cG, rfl, hog, hbh⟩
                have OG5 : Hid (ILies wl5 AG lr) := Lib.hid (by rw [LE.out.2]; exact own_ilies hog)
                have OE5 := Lib.hid (OE4.out.below hbh)
                have BD5 := Lib.hid (Below.tr BD4.out hbh)
                have EL : (negL dl).length = nr := by rw [← LE.out.2]; exact HNR.out
                rw [EL]
                clear hog hbh EL
                go_wp2_with fail
                refine (sameInts_same _ _ _ _ _ lr _ OE5 OG5 HNR (by omega)).mono ?_
                rintro e wl6 ⟨rfl, hbi⟩
                have BD6 := Lib.hid (Below.tr BD5.out hbi)
                clear hbi
                go_wp2
                go_ret
                exact ⟨rfl, BD6.out⟩
end Go.Proofs.Ytehedomjfpipkaa
