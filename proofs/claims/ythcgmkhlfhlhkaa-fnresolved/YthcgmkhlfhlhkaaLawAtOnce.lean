/-
  The walk of the law FnAtOnce.
-/
import Derived.Test.YthcgmkhlfhlhkaaLawH
namespace Go.Proofs.Ythcgmkhlfhlhkaa
open Go.ChangeShapes Go.WideShapes Go.ChangeAt Go.RowKit

theorem PropR.yes {v : Int} {L : List (List Int)} {gv r : List Int} {b : Bool} (h : PropR v L gv r b true) : goodB v L = true ∧ clauseB v gv = true ∧ propN L 20 gv = (r, b) := by
  obtain ⟨h1, h2, _⟩ := h
  have := h1.symm
  rw [Bool.and_eq_true] at this
  exact ⟨this.1, this.2, h2 rfl⟩
theorem slice_cut (A : Option Addr) (q c m : Nat) (h : m ≤ c) (w : World) : (Instr.slice 24 (.slice A q c) none (some (.int .i64 (m : Int))) none).run Try.prog w = .ok (.slice A m c) w := by
  go_simp
/-- the second part of the law: of what 'more' draws, both Reduce answer alike -/
theorem red_res (v : Int) (L : List (List Int)) (gv : List Int) : ∃ R ok, RedR v L gv R ok := ⟨_, _, rfl, rfl⟩
set_option maxRecDepth 100000 in
set_option maxHeartbeats 16000000 in
theorem lawAtOnce (a0 : Option Addr) (len0 cap0 : Nat) (a1 : Option Addr) (len1 cap1 : Nat) (w : World) (h0 : Hid (Bytes w a0 len0)) (h1 : Hid (Bytes w a1 len1)) :
    Calls Try.prog 3 #[.slice a0 len0 cap0, .slice a1 len1 cap1] w fun e w' => e = .returned (.bool true) ∧ Below w.heap.size w w' := by
  go_enter Try.func3, Try.ntmps3
  go_wp2_with fail
  · go_ret
    exact ⟨rfl, Below.refl _ _⟩
  refine (drawProp_any a0 len0 cap0 _ h0).mono ?_
  rintro e w1 ⟨v, L, gv, A, B, c1, c2, rfl, hv, hL, hT, hgl, hl, ho, hb⟩
  have L1 := Lib.hid hl
  have O1 := Lib.hid ho
  have B1 := Lib.hid hb
  have hv1 : 0 ≤ v := hv.1
  have hv2 : v ≤ 13 := hv.2
  have HN := Lib.hid (own_nil ho)
  have hcc := own_cap ho
  clear hl ho hb hv
  obtain ⟨r, bad, ok, hr⟩ := propR_any v L gv
  have hrl := hr.len
  have HR := Lib.hid hr
  clear hr
  obtain ⟨n, hn⟩ : ∃ n, L.length = n := ⟨_, rfl⟩
  obtain ⟨m, hm⟩ : ∃ m, gv.length = m := ⟨_, rfl⟩
  obtain ⟨q, hq⟩ : ∃ q, r.length = q := ⟨_, rfl⟩
  rw [hn] at hL ⊢
  rw [hm] at O1 HN hcc hgl ⊢
  rw [hq] at hrl
  have HX := Lib.hid hn
  have HY := Lib.hid hm
  have HQ := Lib.hid hq
  clear hn hm hq
  go_wp2_with fail
  refine (implProp_any v _ _ _ _ _ _ L gv _ r bad ok HR L1 (own_ilies O1.out) HX HY HN (by omega) (by omega)).mono ?_
  rintro e w2 ⟨AP, cP, rfl, hoP, hb2⟩
  have L2 := Lib.hid (L1.out.below hb2)
  have O2 := Lib.hid (own_below O1.out hb2)
  have B2 := Lib.hid (Below.tr B1.out hb2)
  rw [HQ.out] at hoP ⊢
  have P2 := Lib.hid hoP
  clear hb2 hoP L1 O1 B1
  go_wp2_with fail
  refine (specProp_any v _ _ _ _ _ _ L gv _ r bad ok HR L2 (own_ilies O2.out) HX HY HN (by omega) (by omega) hcc).mono ?_
  rintro e w3 ⟨AW, cW, rfl, hoW, hb3⟩
  have L3 := Lib.hid (L2.out.below hb3)
  have O3 := Lib.hid (own_below O2.out hb3)
  have P3 := Lib.hid (own_below P2.out hb3)
  have B3 := Lib.hid (Below.tr B2.out hb3)
  rw [HQ.out] at hoW ⊢
  have W3 := Lib.hid hoW
  clear hb3 hoW L2 O2 B2 P2
  have hko : (ok != ok) = false := by simp
  have hba : (bad != bad) = false := by simp
  go_wp2_with fail
  refine (sameInts_same _ _ _ _ _ r _ (own_ilies P3.out) (own_ilies W3.out) HQ (by omega)).mono ?_
  rintro e w4 ⟨rfl, hb4⟩
  have L4 := Lib.hid (L3.out.below hb4)
  have O4 := Lib.hid (own_below O3.out hb4)
  have P4 := Lib.hid (own_below P3.out hb4)
  have B4 := Lib.hid (Below.tr B3.out hb4)
  clear hb4 L3 O3 B3 P3 W3
  obtain ⟨gb, hgb⟩ : ∃ b, goodB v L = b := ⟨_, rfl⟩
  have HGB := Lib.hid hgb
  have hgg : (gb != gb) = false := by simp
  clear hgb
  go_wp2_with fail
  refine (implGoodC_any v _ _ _ L _ L4 HX (by omega)).mono ?_
  rintro e w' ⟨rfl, rfl⟩
  rw [HGB.out]
  go_wp2_with fail
  refine (specGoodC_any v _ _ _ L _ L4 HX (by omega)).mono ?_
  rintro e w' ⟨rfl, rfl⟩
  rw [HGB.out]
  cases ok
  · have BZ := B4
    generalize w4 = wz at BZ ⊢
    go_wp2_with fail
    refine (drawReduce_any a1 len1 cap1 _ (h1.out.below BZ.out)).mono ?_
    rintro e x1 ⟨v', L', gv', A', B', c1', c2', rfl, hv', hL', hT', hgl', hl', ho', hb'⟩
    have Y1 := Lib.hid (Below.tr BZ.out hb')
    have LY1 := Lib.hid hl'
    have OY1 := Lib.hid ho'
    have hcy := own_cap ho'
    clear hb' hl' ho'
    obtain ⟨R', ok', hr'⟩ := red_res v' L' gv'
    have hrl' := hr'.small
    have HR' := Lib.hid hr'
    clear hr'
    go_wp2_with fail
    refine (implReduce_any v' _ _ _ _ _ _ L' gv' _ R' ok' HR' LY1 (own_ilies OY1.out) (Lib.hid rfl) (Lib.hid rfl) (by omega) (by omega)).mono ?_
    rintro e x2 ⟨AD, cD, vsD, rfl, hoD, hb2'⟩
    have Y2 := Lib.hid (Below.tr Y1.out hb2')
    have LY2 := Lib.hid (LY1.out.below hb2')
    have OY2 := Lib.hid (own_below OY1.out hb2')
    have D2 := Lib.hid hoD.lies
    clear hb2' hoD
    go_wp2_with fail
    refine (specReduce_any v' _ _ _ _ _ _ L' gv' _ R' ok' HR' LY2 (own_ilies OY2.out) (Lib.hid rfl) (Lib.hid rfl) (by omega) (by omega) hcy).mono ?_
    rintro e x3 ⟨AE, cE, vsE, rfl, hoE, hb3'⟩
    have Y3 := Lib.hid (Below.tr Y2.out hb3')
    have D3 := Lib.hid (D2.out.below hb3')
    have E3 := Lib.hid hoE.lies
    clear hb3' hoE
    have hok' : (ok' == ok') = true := by simp
    go_wp2_with fail
    refine (sameRows_same _ _ _ _ _ R' _ D3 E3 (Lib.hid rfl) (by omega) (Lib.hid (by omega))).mono ?_
    rintro e x4 ⟨rfl, hb4'⟩
    have Y4 := Lib.hid (Below.tr Y3.out hb4')
    clear hb4'
    go_wp2
    go_ret
    exact ⟨rfl, Y4.out⟩
  · obtain ⟨hgood, hgiv, hpr⟩ := HR.out.yes
    have hpre := propN_pre hpr
    have hqm : m ≤ q := by have := hpre.1; have := HQ.out; have := HY.out; omega
    have HTK : Hid (r.take m = gv) := Lib.hid (by have := hpre.2; rw [HY.out] at this; exact this)
    have HGO := Lib.hid hgood
    have HGI := Lib.hid hgiv
    have HPR := Lib.hid hpr
    clear hpre hgood hgiv hpr
    have HRR : Hid (RedR v L gv (reduceL gv L) true) := Lib.hid ⟨by rw [HGO.out, HGI.out]; rfl, rfl⟩
    go_wp2_with fail
    refine (implReduce_any v _ _ _ _ _ _ L gv _ (reduceL gv L) true HRR L4 (own_ilies O4.out) HX HY (by omega) (by omega)).mono ?_
    rintro e w5 ⟨AR, cR, vsR, rfl, hoR, hb5⟩
    have L5 := Lib.hid (L4.out.below hb5)
    have O5 := Lib.hid (own_below O4.out hb5)
    have P5 := Lib.hid (own_below P4.out hb5)
    have B5 := Lib.hid (Below.tr B4.out hb5)
    have R5 := Lib.hid hoR.lies
    clear hb5 hoR L4 O4 B4 P4
    obtain ⟨rn, hrn⟩ : ∃ n, (reduceL gv L).length = n := ⟨_, rfl⟩
    have HRN := Lib.hid hrn
    have hrn2 : rn ≤ 60 := by have := red_len gv L; have := HX.out; omega
    rw [hrn]
    clear hrn
    have hcp : m ≤ cP := by have := own_cap P5.out; omega
    have hlt : decide (q < m) = false := by simp; omega
    have hsl : ∀ w, (Instr.slice 24 (.slice AP q cP) none (some (.int .i64 (m : Int))) none).run Try.prog w = .ok (.slice AP m cP) w := slice_cut AP q cP m hcp
    go_wp2_with fail
    refine (sameInts_same _ _ _ _ _ gv _ (Lib.hid (by have h := (own_ilies P5.out).take m; rw [HTK.out] at h; exact h)) (own_ilies O5.out) HY (by omega)).mono ?_
    rintro e w6 ⟨rfl, hb6⟩
    have L6 := Lib.hid (L5.out.below hb6)
    have O6 := Lib.hid (own_below O5.out hb6)
    have P6 := Lib.hid (own_below P5.out hb6)
    have R6 := Lib.hid (R5.out.below hb6)
    have B6 := Lib.hid (Below.tr B5.out hb6)
    clear hb6 L5 O5 B5 P5 R5 hsl
    by_cases h8 : v ≤ 8
    · obtain ⟨p, rfl⟩ : ∃ p : Nat, v = p := ⟨v.toNat, by omega⟩
      have hp : p ≤ 12 := by omega
      obtain ⟨T, hT2⟩ : ∃ T : Nat, 2 ^ p = T := ⟨_, rfl⟩
      have hT3 : T ≤ 4096 := by rw [← hT2]; exact pow_le hp
      have hsh := shl_one p hp
      rw [hT2] at hsh
      have hsh2 : IntKind.i64.wrap (2 ^ p) = (T : Int) := by rw [← hsh, Int.one_mul]
      clear hT2
      have LIT : Hid (∀ c ∈ L, ∀ x ∈ c, litB p x = true) := Lib.hid (fun c hc x hx => clauseB_lits (goodB_cl HGO.out c hc) x hx)
      have NZ : Hid (∀ c ∈ L, ∀ x ∈ c, x ≠ 0) := Lib.hid (fun c hc x hx => (litB_iff.1 (LIT.out c hc x hx)).1)
      have GLI : Hid (∀ x ∈ gv, litB p x = true) := Lib.hid (clauseB_lits HGI.out)
      have RLI : Hid (∀ x ∈ r, litB p x = true) := Lib.hid (propN_lits LIT.out GLI.out HPR.out)
      have GRE := Lib.hid (goodB_red (known := gv) HGO.out)
      go_wp2_with fail
      go_loopw [16] (fun i wr => ∃ k : Nat, k ≤ T ∧ i = .int .i64 k ∧ Below w6.heap.size w6 wr) (fun i _ => T - (intOf i).toNat)
      case atStart => exact ⟨0, Nat.zero_le _, rfl, Below.refl _ _⟩
      case round =>
        obtain ⟨k, hk, rfl, hbk⟩ := hrel
        have BK := Lib.hid hbk
        clear hbk
        by_cases hkT : k < T
        · go_wp2_with fail
          refine (modelL_any p k _ (by omega) (by omega)).mono ?_
          rintro e w7 ⟨rfl, hk7, hb7⟩
          have M7 := Lib.hid hk7.blies
          have B7 := Lib.hid (Below.tr BK.out hb7)
          clear hk7 hb7 BK
          have L7 := Lib.hid (L6.out.below B7.out)
          have O7 := Lib.hid (own_below O6.out B7.out)
          have P7 := Lib.hid (own_below P6.out B7.out)
          have R7 := Lib.hid (R6.out.below B7.out)
          have HML : Hid ((modelN p k).length = p) := Lib.hid (modelN_len p k)
          obtain ⟨M, hM⟩ : ∃ M, modelN p k = M := ⟨_, rfl⟩
          rw [hM] at M7 HML
          clear hM
          obtain ⟨h, hh⟩ : ∃ h, holdsB M L = h := ⟨_, rfl⟩
          have HH := Lib.hid hh
          clear hh
          have HR7 : Hid (HoldR p L M h true) := Lib.hid ⟨by rw [HGO.out, HML.out]; simp, by rw [HH.out]; rfl⟩
          go_wp2_with fail
          refine (implHolds_any p _ _ _ _ _ _ L M _ h true HR7 L7 M7 HX HML (by omega)).mono ?_
          rintro e w8 ⟨rfl, hb8⟩
          have B8 := Lib.hid (Below.tr B7.out hb8)
          have M8 : Hid (BLies w8 _ M) := Lib.hid (M7.out.below hb8)
          have O8 := Lib.hid (own_below O7.out hb8)
          have P8 := Lib.hid (own_below P7.out hb8)
          have R8 := Lib.hid (R7.out.below hb8)
          clear hb8 B7 M7 O7 P7 R7 L7
          cases qg : allT M gv
          · go_wp2_with (go_at_call 21; refine (allIn_any _ _ _ _ _ _ gv M _ (own_ilies O8.out) M8 HY HML GLI (by omega) (by omega)).mono ?_; rintro e w' ⟨rfl, rfl⟩; rw [qg])
            go_roundw
            case rel => exact ⟨k + 1, by omega, by go_num, B8.out⟩
            case measure => simp [intOf]; omega
          · have HRE : Hid (HoldR p (reduceL gv L) M h true) := Lib.hid ⟨by rw [GRE.out, HML.out]; simp, by rw [holds_red qg NZ.out, HH.out]; rfl⟩
            have hh2 : (h != h) = false := by simp
            cases h
            · go_wp2_with fail
              refine (allIn_any _ _ _ _ _ _ gv M _ (own_ilies O8.out) M8 HY HML GLI (by omega) (by omega)).mono ?_
              rintro e w' ⟨rfl, rfl⟩
              rw [qg]
              go_wp2_with fail
              refine (implHolds_any p _ _ _ _ _ _ (reduceL gv L) M _ false true HRE R8 M8 HRN HML (by omega)).mono ?_
              rintro e w9 ⟨rfl, hb9⟩
              have B9 := Lib.hid (Below.tr B8.out hb9)
              clear hb9
              go_wp2
              go_roundw
              case rel => exact ⟨k + 1, by omega, by go_num, B9.out⟩
              case measure => simp [intOf]; omega
            · obtain ⟨hbf, hrt⟩ := propN_sound NZ.out HH.out qg HPR.out
              subst hbf
              go_wp2_with fail
              refine (allIn_any _ _ _ _ _ _ gv M _ (own_ilies O8.out) M8 HY HML GLI (by omega) (by omega)).mono ?_
              rintro e w' ⟨rfl, rfl⟩
              rw [qg]
              go_wp2_with fail
              refine (allIn_any _ _ _ _ _ _ r M _ (own_ilies P8.out) M8 HQ HML RLI (by omega) (by omega)).mono ?_
              rintro e w' ⟨rfl, rfl⟩
              rw [hrt]
              go_wp2_with fail
              refine (implHolds_any p _ _ _ _ _ _ (reduceL gv L) M _ true true HRE R8 M8 HRN HML (by omega)).mono ?_
              rintro e w9 ⟨rfl, hb9⟩
              have B9 := Lib.hid (Below.tr B8.out hb9)
              clear hb9
              go_wp2
              go_roundw
              case rel => exact ⟨k + 1, by omega, by go_num, B9.out⟩
              case measure => simp [intOf]; omega
        · have BZ := Lib.hid (Below.tr B6.out BK.out)
          generalize wr = wz at BZ ⊢
          go_wp2_with fail
          refine (drawReduce_any a1 len1 cap1 _ (h1.out.below BZ.out)).mono ?_
          rintro e x1 ⟨v', L', gv', A', B', c1', c2', rfl, hv', hL', hT', hgl', hl', ho', hb'⟩
          have Y1 := Lib.hid (Below.tr BZ.out hb')
          have LY1 := Lib.hid hl'
          have OY1 := Lib.hid ho'
          have hcy := own_cap ho'
          clear hb' hl' ho'
          obtain ⟨R', ok', hr'⟩ := red_res v' L' gv'
          have hrl' := hr'.small
          have HR' := Lib.hid hr'
          clear hr'
          go_wp2_with fail
          refine (implReduce_any v' _ _ _ _ _ _ L' gv' _ R' ok' HR' LY1 (own_ilies OY1.out) (Lib.hid rfl) (Lib.hid rfl) (by omega) (by omega)).mono ?_
          rintro e x2 ⟨AD, cD, vsD, rfl, hoD, hb2'⟩
          have Y2 := Lib.hid (Below.tr Y1.out hb2')
          have LY2 := Lib.hid (LY1.out.below hb2')
          have OY2 := Lib.hid (own_below OY1.out hb2')
          have D2 := Lib.hid hoD.lies
          clear hb2' hoD
          go_wp2_with fail
          refine (specReduce_any v' _ _ _ _ _ _ L' gv' _ R' ok' HR' LY2 (own_ilies OY2.out) (Lib.hid rfl) (Lib.hid rfl) (by omega) (by omega) hcy).mono ?_
          rintro e x3 ⟨AE, cE, vsE, rfl, hoE, hb3'⟩
          have Y3 := Lib.hid (Below.tr Y2.out hb3')
          have D3 := Lib.hid (D2.out.below hb3')
          have E3 := Lib.hid hoE.lies
          clear hb3' hoE
          have hok' : (ok' == ok') = true := by simp
          go_wp2_with fail
          refine (sameRows_same _ _ _ _ _ R' _ D3 E3 (Lib.hid rfl) (by omega) (Lib.hid (by omega))).mono ?_
          rintro e x4 ⟨rfl, hb4'⟩
          have Y4 := Lib.hid (Below.tr Y3.out hb4')
          clear hb4'
          go_wp2
          go_ret
          exact ⟨rfl, Y4.out⟩
    · have BZ := B6
      generalize w6 = wz at BZ ⊢
      go_wp2_with fail
      refine (drawReduce_any a1 len1 cap1 _ (h1.out.below BZ.out)).mono ?_
      rintro e x1 ⟨v', L', gv', A', B', c1', c2', rfl, hv', hL', hT', hgl', hl', ho', hb'⟩
      have Y1 := Lib.hid (Below.tr BZ.out hb')
      have LY1 := Lib.hid hl'
      have OY1 := Lib.hid ho'
      have hcy := own_cap ho'
      clear hb' hl' ho'
      obtain ⟨R', ok', hr'⟩ := red_res v' L' gv'
      have hrl' := hr'.small
      have HR' := Lib.hid hr'
      clear hr'
      go_wp2_with fail
      refine (implReduce_any v' _ _ _ _ _ _ L' gv' _ R' ok' HR' LY1 (own_ilies OY1.out) (Lib.hid rfl) (Lib.hid rfl) (by omega) (by omega)).mono ?_
      rintro e x2 ⟨AD, cD, vsD, rfl, hoD, hb2'⟩
      have Y2 := Lib.hid (Below.tr Y1.out hb2')
      have LY2 := Lib.hid (LY1.out.below hb2')
      have OY2 := Lib.hid (own_below OY1.out hb2')
      have D2 := Lib.hid hoD.lies
      clear hb2' hoD
      go_wp2_with fail
      refine (specReduce_any v' _ _ _ _ _ _ L' gv' _ R' ok' HR' LY2 (own_ilies OY2.out) (Lib.hid rfl) (Lib.hid rfl) (by omega) (by omega) hcy).mono ?_
      rintro e x3 ⟨AE, cE, vsE, rfl, hoE, hb3'⟩
      have Y3 := Lib.hid (Below.tr Y2.out hb3')
      have D3 := Lib.hid (D2.out.below hb3')
      have E3 := Lib.hid hoE.lies
      clear hb3' hoE
      have hok' : (ok' == ok') = true := by simp
      go_wp2_with fail
      refine (sameRows_same _ _ _ _ _ R' _ D3 E3 (Lib.hid rfl) (by omega) (Lib.hid (by omega))).mono ?_
      rintro e x4 ⟨rfl, hb4'⟩
      have Y4 := Lib.hid (Below.tr Y3.out hb4')
      clear hb4'
      go_wp2
      go_ret
      exact ⟨rfl, Y4.out⟩
end Go.Proofs.Ythcgmkhlfhlhkaa
