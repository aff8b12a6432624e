/-
  The walk of the law FnResolved.
-/
import Derived.Test.YthcgmkhlfhlhkaaDrawRes2
namespace Go.Proofs.Ythcgmkhlfhlhkaa
open Go.ChangeShapes Go.WideShapes Go.ChangeAt Go.RowKit

set_option maxRecDepth 100000 in
set_option maxHeartbeats 16000000 in
theorem lawResolved (a0 : Option Addr) (len0 cap0 : Nat) (a1 : Option Addr) (len1 cap1 : Nat) (w : World) (h0 : Hid (Bytes w a0 len0)) (h1 : Hid (Bytes w a1 len1)) :
    Calls Try.prog 4 #[.slice a0 len0 cap0, .slice a1 len1 cap1] w fun e w' => e = .returned (.bool true) ∧ Below w.heap.size w w' := by
  go_enter Try.func4, Try.ntmps4
  go_wp2_with fail
  · go_ret
    exact ⟨rfl, Below.refl _ _⟩
  refine (drawRes_any a0 len0 cap0 _ h0).mono ?_
  rintro e w1 ⟨a, b, v, A, B, n, m, c1, c2, rfl, ⟨hn, hm⟩, ⟨bn, bm⟩, ⟨cn1, cm2⟩, ⟨hv1, hv2⟩, hla, hlb, hb⟩
  have A1 := Lib.hid hla
  have D1 := Lib.hid hlb
  have B1 := Lib.hid hb
  have HX := Lib.hid hn
  have HY := Lib.hid hm
  clear hla hlb hb hn hm
  obtain ⟨r, ok, hr⟩ := opt_any (resB a b v)
  have hrl := resB_len hr
  have HR := Lib.hid hr
  clear hr
  obtain ⟨q, hq⟩ : ∃ q, r.length = q := ⟨_, rfl⟩
  rw [hq] at hrl
  have HQ := Lib.hid hq
  clear hq
  go_wp2_with fail
  refine (implResolve_any _ _ _ _ _ _ a b v _ r ok HR A1 D1 HX HY (by omega) (by omega)).mono ?_
  rintro e w2 ⟨AP, cP, rfl, hoP, hb2⟩
  have A2 := Lib.hid (A1.out.below hb2)
  have D2 := Lib.hid (D1.out.below hb2)
  have B2 := Lib.hid (Below.tr B1.out hb2)
  rw [HQ.out] at hoP ⊢
  have P2 := Lib.hid hoP
  clear hb2 hoP A1 D1 B1
  go_wp2_with fail
  refine (specResolve_any _ _ _ _ _ _ a b v _ r ok HR A2 D2 HX HY (by omega) (by omega) cn1 cm2).mono ?_
  rintro e w3 ⟨AW, cW, rfl, hoW, hb3⟩
  have A3 := Lib.hid (A2.out.below hb3)
  have D3 := Lib.hid (D2.out.below hb3)
  have P3 := Lib.hid (own_below P2.out hb3)
  have B3 := Lib.hid (Below.tr B2.out hb3)
  rw [HQ.out] at hoW ⊢
  have W3 := Lib.hid hoW
  clear hb3 hoW A2 D2 B2 P2
  have hko : (ok != ok) = false := by simp
  go_wp2_with fail
  refine (sameInts_same _ _ _ _ _ r _ (own_ilies P3.out) (own_ilies W3.out) HQ (by omega)).mono ?_
  rintro e w4 ⟨rfl, hb4⟩
  have A4 := Lib.hid (A3.out.below hb4)
  have D4 := Lib.hid (D3.out.below hb4)
  have P4 := Lib.hid (own_below P3.out hb4)
  have B4 := Lib.hid (Below.tr B3.out hb4)
  clear hb4 A3 D3 B3 P3 W3
  cases ok
  · have BZ := B4
    generalize w4 = wz at BZ ⊢
    go_wp2_with fail
    refine (drawCleanC_any a1 len1 cap1 _ (h1.out.below BZ.out)).mono ?_
    rintro e x1 ⟨cl, AC, cC, rfl, hcl, hoC, hb1'⟩
    have Y1 := Lib.hid (Below.tr BZ.out hb1')
    have D1 := Lib.hid hoC
    clear hb1' hoC
    obtain ⟨rc, bc, hrc⟩ := opt_any (cleanB cl)
    have hrcl := cleanB_len hrc
    have HRC := Lib.hid hrc
    clear hrc
    go_wp2_with fail
    refine (implClean_any _ _ _ cl _ rc bc HRC (own_ilies D1.out) (Lib.hid rfl) (by omega)).mono ?_
    rintro e x2 ⟨AX, cX, rfl, hoX, hb2'⟩
    have Y2 := Lib.hid (Below.tr Y1.out hb2')
    have D2 := Lib.hid (own_below D1.out hb2')
    have X2 := Lib.hid hoX
    clear hb2' hoX Y1 D1
    go_wp2_with fail
    refine (specClean_any _ _ _ cl _ rc bc HRC (own_ilies D2.out) (Lib.hid rfl) (by omega)).mono ?_
    rintro e x3 ⟨AY, cY, rfl, hoY, hb3'⟩
    have Y3 := Lib.hid (Below.tr Y2.out hb3')
    have X3 := Lib.hid (own_below X2.out hb3')
    have Q3 := Lib.hid hoY
    clear hb3' hoY Y2 D2 X2
    go_wp2_with fail
    refine (drawCountC_any a1 len1 cap1 _ (h1.out.below Y3.out)).mono ?_
    rintro e x4 ⟨vc, LC, AL, cL, rfl, hvc, hLC, hlC, hb4'⟩
    have Y4 := Lib.hid (Below.tr Y3.out hb4')
    have X4 := Lib.hid (own_below X3.out hb4')
    have Q4 := Lib.hid (own_below Q3.out hb4')
    have LC4 := Lib.hid hlC
    clear hb4' hlC Y3 X3 Q3
    obtain ⟨cn, okc, hcr⟩ : ∃ r0 r1, CountR vc LC r0 r1 := ⟨_, _, rfl, rfl⟩
    have HCR := Lib.hid hcr
    clear hcr
    go_wp2_with fail
    refine (implCount_any vc _ _ _ LC _ cn okc HCR LC4 (Lib.hid rfl) (by omega)).mono ?_
    rintro e x5 ⟨rfl, hb5'⟩
    have Y5 := Lib.hid (Below.tr Y4.out hb5')
    have X5 := Lib.hid (own_below X4.out hb5')
    have Q5 := Lib.hid (own_below Q4.out hb5')
    have LC5 := Lib.hid (LC4.out.below hb5')
    clear hb5' Y4 X4 Q4 LC4
    go_wp2_with fail
    refine (specCount_any vc _ _ _ LC _ cn okc HCR LC5 (Lib.hid rfl) (by omega)).mono ?_
    rintro e x6 ⟨rfl, hb6'⟩
    have Y6 := Lib.hid (Below.tr Y5.out hb6')
    have X6 := Lib.hid (own_below X5.out hb6')
    have Q6 := Lib.hid (own_below Q5.out hb6')
    clear hb6' Y5 X5 Q5 LC5
    go_wp2_with fail
    refine (drawHoldsC_any a1 len1 cap1 _ (h1.out.below Y6.out)).mono ?_
    rintro e x7 ⟨vh, LH, MH, AH, BH, cH, mH, dH, rfl, hLH, hMH, hlH, hmH, hb7'⟩
    have Y7 := Lib.hid (Below.tr Y6.out hb7')
    have X7 := Lib.hid (own_below X6.out hb7')
    have Q7 := Lib.hid (own_below Q6.out hb7')
    have LH7 := Lib.hid hlH
    have MH7 := Lib.hid hmH
    have HMH := Lib.hid hMH
    clear hb7' hlH hmH hMH Y6 X6 Q6
    obtain ⟨hh', okh, hhr⟩ : ∃ r0 r1, HoldR vh LH MH r0 r1 := ⟨_, _, rfl, rfl⟩
    have HHR := Lib.hid hhr
    clear hhr
    go_wp2_with fail
    refine (implHolds_any vh _ _ _ _ _ _ LH MH _ hh' okh HHR LH7 MH7 (Lib.hid rfl) HMH (by omega)).mono ?_
    rintro e x8 ⟨rfl, hb8'⟩
    have Y8 := Lib.hid (Below.tr Y7.out hb8')
    have X8 := Lib.hid (own_below X7.out hb8')
    have Q8 := Lib.hid (own_below Q7.out hb8')
    have LH8 := Lib.hid (LH7.out.below hb8')
    have MH8 : Hid (BLies x8 _ MH) := Lib.hid (MH7.out.below hb8')
    clear hb8' Y7 X7 Q7 LH7 MH7
    go_wp2_with fail
    refine (specHolds_any vh _ _ _ _ _ _ LH MH _ hh' okh HHR LH8 MH8 (Lib.hid rfl) HMH (by omega)).mono ?_
    rintro e x9 ⟨rfl, hb9'⟩
    have Y9 := Lib.hid (Below.tr Y8.out hb9')
    have X9 := Lib.hid (own_below X8.out hb9')
    have Q9 := Lib.hid (own_below Q8.out hb9')
    clear hb9' Y8 X8 Q8 LH8 MH8
    have e1 : (bc != bc) = false := by simp
    have e2 : (okc != okc) = false := by simp
    have e3 : (cn != cn) = false := by simp
    have e4 : (okh != okh) = false := by simp
    have e5 : (hh' != hh') = false := by simp
    go_wp2_with fail
    refine (sameInts_same _ _ _ _ _ rc _ (own_ilies X9.out) (own_ilies Q9.out) (Lib.hid rfl) (by omega)).mono ?_
    rintro e x10 ⟨rfl, hb10'⟩
    have Y10 := Lib.hid (Below.tr Y9.out hb10')
    have X10 := Lib.hid (own_below X9.out hb10')
    clear hb10' Y9 X9 Q9
    cases bc
    · go_wp2
      go_ret
      exact ⟨rfl, Y10.out⟩
    · have HAG : Hid (Opt (cleanB rc) rc true) := Lib.hid ⟨fun _ => cleanB_again (HRC.out.1 rfl), fun e => by cases e⟩
      go_wp2_with fail
      refine (implClean_any _ _ _ rc _ rc true HAG (own_ilies X10.out) (Lib.hid rfl) (by omega)).mono ?_
      rintro e x11 ⟨AG, cG, rfl, hoG, hb11'⟩
      have Y11 := Lib.hid (Below.tr Y10.out hb11')
      have X11 := Lib.hid (own_below X10.out hb11')
      have G11 := Lib.hid hoG
      clear hb11' hoG Y10 X10
      go_wp2_with fail
      refine (sameInts_same _ _ _ _ _ rc _ (own_ilies G11.out) (own_ilies X11.out) (Lib.hid rfl) (by omega)).mono ?_
      rintro e x12 ⟨rfl, hb12'⟩
      have Y12 := Lib.hid (Below.tr Y11.out hb12')
      clear hb12'
      go_wp2
      go_ret
      exact ⟨rfl, Y12.out⟩
  · have hres : resB a b v = some r := HR.out.1 rfl
    have HCR' := Lib.hid hres
    have GAB : Hid (goodB 12 [a, b] = true) := Lib.hid (by have q := (resB_yes' hres).1; simp [goodB, q.1, q.2.1])
    have GR : Hid (goodB 12 [r] = true) := Lib.hid (by have q := res_clause hres; simp [goodB, q])
    have hcq : q ≤ cP := own_cap P4.out
    have nv1 : decide (v ∈ r) = false := by simpa using (res_not hres).1
    have nv2 : decide (-v ∈ r) = false := by simpa using (res_not hres).2
    clear hres
    go_wp2_with fail
    go_loopw [12] (fun i wr => ∃ k : Nat, k ≤ 64 ∧ i = .int .i64 k ∧ Below w4.heap.size w4 wr) (fun i _ => 64 - (intOf i).toNat)
    case atStart => exact ⟨0, Nat.zero_le _, rfl, Below.refl _ _⟩
    case round =>
      obtain ⟨k, hk, rfl, hbk⟩ := hrel
      have BK := Lib.hid hbk
      clear hbk
      by_cases hkT : k < 64
      · go_wp2_with fail
        refine (number_any a1 len1 cap1 _ (Lib.hid (h1.out.below (Below.tr B4.out BK.out)))).mono ?_
        rintro e w' ⟨⟨N, rfl, hN⟩, rfl⟩
        obtain ⟨NN, hNN⟩ : ∃ NN : Nat, (N : Int) * 64 + (k : Int) = NN := ⟨N * 64 + k, by push_cast; rfl⟩
        go_wp2_with fail
        refine (modelL_any 12 NN _ (by omega) (by omega)).mono ?_
        rintro e w7 ⟨rfl, hk7, hb7⟩
        have M7 := Lib.hid hk7.blies
        have B7 := Lib.hid (Below.tr BK.out hb7)
        clear hk7 hb7 BK
        have HML : Hid ((modelN 12 NN).length = 12) := Lib.hid (modelN_len 12 NN)
        obtain ⟨M, hM⟩ : ∃ M, modelN 12 NN = M := ⟨_, rfl⟩
        rw [hM] at M7 HML
        clear hM
        have A7 := Lib.hid (A4.out.below B7.out)
        have D7 := Lib.hid (D4.out.below B7.out)
        have P7 := Lib.hid (own_below P4.out B7.out)
        obtain ⟨h, hh⟩ : ∃ h, holdsB M [a, b] = h := ⟨_, rfl⟩
        have HH := Lib.hid hh
        clear hh
        have HR7 : Hid (HoldR 12 [a, b] M h true) := Lib.hid ⟨by rw [GAB.out, HML.out]; rfl, by rw [HH.out]; rfl⟩
        go_wp2_with fail
        refine (implHolds_any 12 _ _ 2 _ _ _ [a, b] M _ h true HR7 (llies_two A7.out D7.out HX.out HY.out cn1 cm2 bn bm) (M7.out.below (below1 _ _)) (Lib.hid rfl) HML (by omega)).mono ?_
        rintro e w8 ⟨rfl, hb8⟩
        have hb8' := Below.tr (below1 w7 (.cells #[.slice A n c1, .slice B m c2] 24)) hb8
        have B8 := Lib.hid (Below.tr B7.out hb8')
        have M8 : Hid (BLies w8 _ M) := Lib.hid (M7.out.below hb8')
        have P8 := Lib.hid (own_below P7.out hb8')
        clear hb8 hb8' B7 M7 A7 D7 P7
        obtain ⟨g, hg⟩ : ∃ h, holdsB M [r] = h := ⟨_, rfl⟩
        have HG := Lib.hid hg
        clear hg
        have HR8 : Hid (HoldR 12 [r] M g true) := Lib.hid ⟨by rw [GR.out, HML.out]; rfl, by rw [HG.out]; rfl⟩
        go_wp2_with fail
        refine (implHolds_any 12 _ _ 1 _ _ _ [r] M _ g true HR8 (llies_one (own_ilies P8.out) HQ.out hcq hrl) (M8.out.below (below1 _ _)) (Lib.hid rfl) HML (by omega)).mono ?_
        rintro e w9 ⟨rfl, hb9⟩
        have B9 := Lib.hid (Below.tr B8.out (Below.tr (below1 w8 (.cells #[.slice AP q cP] 24)) hb9))
        clear hb9 B8 M8 P8
        cases h
        · go_wp2
          go_roundw
          case rel => exact ⟨k + 1, by omega, by go_num, B9.out⟩
          case measure => simp [intOf]; omega
        · have hgt : g = true := by rw [← HG.out]; exact res_sound HCR'.out HH.out
          subst hgt
          go_wp2
          go_roundw
          case rel => exact ⟨k + 1, by omega, by go_num, B9.out⟩
          case measure => simp [intOf]; omega
      · have PK := Lib.hid (own_below P4.out BK.out)
        have BZ := Lib.hid (Below.tr B4.out BK.out)
        generalize wr = wz at PK BZ ⊢
        go_wp2_with fail
        refine (hasL_any _ _ _ r v _ (own_ilies PK.out) HQ (by omega)).mono ?_
        rintro e w' ⟨rfl, rfl⟩
        rw [nv1]
        go_wp2_with fail
        refine (hasL_any _ _ _ r (-v) _ (own_ilies PK.out) HQ (by omega)).mono ?_
        rintro e w' ⟨rfl, rfl⟩
        rw [nv2]
        go_wp2_with fail
        refine (drawCleanC_any a1 len1 cap1 _ (h1.out.below BZ.out)).mono ?_
        rintro e x1 ⟨cl, AC, cC, rfl, hcl, hoC, hb1'⟩
        have Y1 := Lib.hid (Below.tr BZ.out hb1')
        have D1 := Lib.hid hoC
        clear hb1' hoC
        obtain ⟨rc, bc, hrc⟩ := opt_any (cleanB cl)
        have hrcl := cleanB_len hrc
        have HRC := Lib.hid hrc
        clear hrc
        go_wp2_with fail
        refine (implClean_any _ _ _ cl _ rc bc HRC (own_ilies D1.out) (Lib.hid rfl) (by omega)).mono ?_
        rintro e x2 ⟨AX, cX, rfl, hoX, hb2'⟩
        have Y2 := Lib.hid (Below.tr Y1.out hb2')
        have D2 := Lib.hid (own_below D1.out hb2')
        have X2 := Lib.hid hoX
        clear hb2' hoX Y1 D1
        go_wp2_with fail
        refine (specClean_any _ _ _ cl _ rc bc HRC (own_ilies D2.out) (Lib.hid rfl) (by omega)).mono ?_
        rintro e x3 ⟨AY, cY, rfl, hoY, hb3'⟩
        have Y3 := Lib.hid (Below.tr Y2.out hb3')
        have X3 := Lib.hid (own_below X2.out hb3')
        have Q3 := Lib.hid hoY
        clear hb3' hoY Y2 D2 X2
        go_wp2_with fail
        refine (drawCountC_any a1 len1 cap1 _ (h1.out.below Y3.out)).mono ?_
        rintro e x4 ⟨vc, LC, AL, cL, rfl, hvc, hLC, hlC, hb4'⟩
        have Y4 := Lib.hid (Below.tr Y3.out hb4')
        have X4 := Lib.hid (own_below X3.out hb4')
        have Q4 := Lib.hid (own_below Q3.out hb4')
        have LC4 := Lib.hid hlC
        clear hb4' hlC Y3 X3 Q3
        obtain ⟨cn, okc, hcr⟩ : ∃ r0 r1, CountR vc LC r0 r1 := ⟨_, _, rfl, rfl⟩
        have HCR := Lib.hid hcr
        clear hcr
        go_wp2_with fail
        refine (implCount_any vc _ _ _ LC _ cn okc HCR LC4 (Lib.hid rfl) (by omega)).mono ?_
        rintro e x5 ⟨rfl, hb5'⟩
        have Y5 := Lib.hid (Below.tr Y4.out hb5')
        have X5 := Lib.hid (own_below X4.out hb5')
        have Q5 := Lib.hid (own_below Q4.out hb5')
        have LC5 := Lib.hid (LC4.out.below hb5')
        clear hb5' Y4 X4 Q4 LC4
        go_wp2_with fail
        refine (specCount_any vc _ _ _ LC _ cn okc HCR LC5 (Lib.hid rfl) (by omega)).mono ?_
        rintro e x6 ⟨rfl, hb6'⟩
        have Y6 := Lib.hid (Below.tr Y5.out hb6')
        have X6 := Lib.hid (own_below X5.out hb6')
        have Q6 := Lib.hid (own_below Q5.out hb6')
        clear hb6' Y5 X5 Q5 LC5
        go_wp2_with fail
        refine (drawHoldsC_any a1 len1 cap1 _ (h1.out.below Y6.out)).mono ?_
        rintro e x7 ⟨vh, LH, MH, AH, BH, cH, mH, dH, rfl, hLH, hMH, hlH, hmH, hb7'⟩
        have Y7 := Lib.hid (Below.tr Y6.out hb7')
        have X7 := Lib.hid (own_below X6.out hb7')
        have Q7 := Lib.hid (own_below Q6.out hb7')
        have LH7 := Lib.hid hlH
        have MH7 := Lib.hid hmH
        have HMH := Lib.hid hMH
        clear hb7' hlH hmH hMH Y6 X6 Q6
        obtain ⟨hh', okh, hhr⟩ : ∃ r0 r1, HoldR vh LH MH r0 r1 := ⟨_, _, rfl, rfl⟩
        have HHR := Lib.hid hhr
        clear hhr
        go_wp2_with fail
        refine (implHolds_any vh _ _ _ _ _ _ LH MH _ hh' okh HHR LH7 MH7 (Lib.hid rfl) HMH (by omega)).mono ?_
        rintro e x8 ⟨rfl, hb8'⟩
        have Y8 := Lib.hid (Below.tr Y7.out hb8')
        have X8 := Lib.hid (own_below X7.out hb8')
        have Q8 := Lib.hid (own_below Q7.out hb8')
        have LH8 := Lib.hid (LH7.out.below hb8')
        have MH8 : Hid (BLies x8 _ MH) := Lib.hid (MH7.out.below hb8')
        clear hb8' Y7 X7 Q7 LH7 MH7
        go_wp2_with fail
        refine (specHolds_any vh _ _ _ _ _ _ LH MH _ hh' okh HHR LH8 MH8 (Lib.hid rfl) HMH (by omega)).mono ?_
        rintro e x9 ⟨rfl, hb9'⟩
        have Y9 := Lib.hid (Below.tr Y8.out hb9')
        have X9 := Lib.hid (own_below X8.out hb9')
        have Q9 := Lib.hid (own_below Q8.out hb9')
        clear hb9' Y8 X8 Q8 LH8 MH8
        have e1 : (bc != bc) = false := by simp
        have e2 : (okc != okc) = false := by simp
        have e3 : (cn != cn) = false := by simp
        have e4 : (okh != okh) = false := by simp
        have e5 : (hh' != hh') = false := by simp
        go_wp2_with fail
        refine (sameInts_same _ _ _ _ _ rc _ (own_ilies X9.out) (own_ilies Q9.out) (Lib.hid rfl) (by omega)).mono ?_
        rintro e x10 ⟨rfl, hb10'⟩
        have Y10 := Lib.hid (Below.tr Y9.out hb10')
        have X10 := Lib.hid (own_below X9.out hb10')
        clear hb10' Y9 X9 Q9
        cases bc
        · go_wp2
          go_ret
          exact ⟨rfl, Y10.out⟩
        · have HAG : Hid (Opt (cleanB rc) rc true) := Lib.hid ⟨fun _ => cleanB_again (HRC.out.1 rfl), fun e => by cases e⟩
          go_wp2_with fail
          refine (implClean_any _ _ _ rc _ rc true HAG (own_ilies X10.out) (Lib.hid rfl) (by omega)).mono ?_
          rintro e x11 ⟨AG, cG, rfl, hoG, hb11'⟩
          have Y11 := Lib.hid (Below.tr Y10.out hb11')
          have X11 := Lib.hid (own_below X10.out hb11')
          have G11 := Lib.hid hoG
          clear hb11' hoG Y10 X10
          go_wp2_with fail
          refine (sameInts_same _ _ _ _ _ rc _ (own_ilies G11.out) (own_ilies X11.out) (Lib.hid rfl) (by omega)).mono ?_
          rintro e x12 ⟨rfl, hb12'⟩
          have Y12 := Lib.hid (Below.tr Y11.out hb12')
          clear hb12'
          go_wp2
          go_ret
          exact ⟨rfl, Y12.out⟩
end Go.Proofs.Ythcgmkhlfhlhkaa
