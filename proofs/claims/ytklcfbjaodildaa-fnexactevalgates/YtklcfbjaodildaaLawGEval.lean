/-
  The walk of the law of GEval.
-/
import Derived.Test.YtklcfbjaodildaaGi6
import Derived.Test.YtklcfbjaodildaaGtLaw
namespace Go.Proofs.Ytklcfbjaodildaa
open Go.ChangeShapes Go.WideShapes Go.ChangeAt Go.RowKit

set_option maxRecDepth 100000 in
set_option maxHeartbeats 8000000 in
theorem lawGEval (Ag : Option Addr) (capg : Nat) (g : List Gt) (Am : Option Addr) (capm : Nat) (m : List Bool) (w : World) (hng : g.length ≤ 9223372036854775807) (hlg : GLies w Ag g) (hnm : m.length ≤ 9223372036854775807) (hlm : BLies w Am m) :
    Calls Try.prog 8 #[.slice Ag g.length capg, .slice Am m.length capm] w fun e w' => e = .returned (.bool true) ∧ Below w.heap.size w w' := by
  obtain ⟨ng, hxg⟩ : ∃ n, g.length = n := ⟨_, rfl⟩
  rw [hxg] at hng ⊢
  have HXg := Lib.hid hxg
  have HLg := Lib.hid hlg
  clear hxg hlg
  obtain ⟨nm, hxm⟩ : ∃ n, m.length = n := ⟨_, rfl⟩
  rw [hxm] at hnm ⊢
  have HXm := Lib.hid hxm
  have HLm := Lib.hid hlm
  clear hxm hlm
  by_cases hbm : 1048576 < nm
  · go_enter Try.func8, Try.ntmps8
    go_wp2
    go_ret
    exact ⟨rfl, Below.refl _ _⟩
  have hsm : nm ≤ 1048576 := by omega
  go_enter Try.func8, Try.ntmps8
  go_wp2_with fail
  refine (szGateS_any Ag ng capg 1048576 _ hng (by omega) (by omega)).mono ?_
  rintro e w' ⟨rfl, rfl⟩
  by_cases hnegg : 1048576 - (ng : Int) < 0
  · have hszg : szF 1048576 ng = -1 := if_pos (by omega)
    rw [hszg]
    go_wp2
    go_ret
    exact ⟨rfl, Below.refl _ _⟩
  have hszg : szF 1048576 ng = 1048576 - ng := if_neg (by omega)
  rw [hszg]
  clear hszg
  have hsg : ng ≤ 1048576 := by omega
  obtain ⟨⟨r0, r1⟩, hr⟩ : ∃ x, rEv g m = x := ⟨_, rfl⟩
  have hrl : r0.length ≤ 1000 := rEv_len hr
  have HR := Lib.hid hr
  clear hr
  go_wp2_with fail
  refine (toGateS_any _ _ _ g _ (Lib.hid (HLg.out.below (Below.refl _ _))) HXg hsg).mono ?_
  rintro e w1 ⟨rfl, kk, hb⟩
  have S1 := Lib.hid (hb.size)
  have B1 := Lib.hid (Below.tr (Below.refl _ _) hb)
  have Fsg_1 := Lib.hid (own_of_gblk kk HXg.out hsg)
  have Psg : Hid (∀ g, (.slice (some ⟨w.heap.size, 0, none⟩) ng ng : Value).ownBlock = some g → w.heap.size ≤ g ∧ g < w1.heap.size) := Lib.hid (fun g h => Fsg_1.out.lt g h)
  clear kk hb
  go_wp2_with fail
  refine (toBoolS_any _ _ _ m _ (Lib.hid (HLm.out.below B1.out)) HXm hsm).mono ?_
  rintro e w2 ⟨rfl, kk, hb⟩
  have S2 := Lib.hid (hb.size)
  have B2 := Lib.hid (Below.tr B1.out hb)
  have Fsg_2 := Lib.hid (own_below Fsg_1.out hb)
  clear Fsg_1
  have Fsm_2 := Lib.hid (own_of_vblk kk (by simpa using HXm.out) hsm)
  have Psm : Hid (∀ g, (.slice (some ⟨w1.heap.size, 0, none⟩) nm nm : Value).ownBlock = some g → w1.heap.size ≤ g ∧ g < w2.heap.size) := Lib.hid (fun g h => Fsm_2.out.lt g h)
  clear kk hb
  go_wp2_with fail
  refine (specEv_any _ _ _ _ _ _ g m _ r0 r1 HR (Lib.hid (own_glies HXg.out Fsg_2.out)) HXg hsg (own_blies Fsm_2.out) HXm (by omega)).mono ?_
  rintro e w3 ⟨Aw0, cw0, rfl, ho0, hb⟩
  have S3 := Lib.hid (hb.size)
  have B3 := Lib.hid (Below.tr B2.out hb)
  have Fsg_3 := Lib.hid (own_below Fsg_2.out hb)
  clear Fsg_2
  have Fsm_3 := Lib.hid (own_below Fsm_2.out hb)
  clear Fsm_2
  have Fw0_3 := Lib.hid (ho0)
  have Pw0 : Hid (∀ g, (.slice Aw0 r0.length cw0 : Value).ownBlock = some g → w2.heap.size ≤ g ∧ g < w3.heap.size) := Lib.hid (fun g h => Fw0_3.out.lt g h)
  clear hb ho0
  clear Fsg_3
  clear Fsm_3
  go_wp2_with fail
  refine (toGateS_any _ _ _ g _ (Lib.hid (HLg.out.below B3.out)) HXg hsg).mono ?_
  rintro e w4 ⟨rfl, kk, hb⟩
  have S4 := Lib.hid (hb.size)
  have B4 := Lib.hid (Below.tr B3.out hb)
  have Fw0_4 := Lib.hid (own_below Fw0_3.out hb)
  clear Fw0_3
  have Fxg_4 := Lib.hid (own_of_gblk kk HXg.out hsg)
  have Pxg : Hid (∀ g, (.slice (some ⟨w3.heap.size, 0, none⟩) ng ng : Value).ownBlock = some g → w3.heap.size ≤ g ∧ g < w4.heap.size) := Lib.hid (fun g h => Fxg_4.out.lt g h)
  clear kk hb
  go_wp2_with fail
  refine (toBoolS_any _ _ _ m _ (Lib.hid (HLm.out.below B4.out)) HXm hsm).mono ?_
  rintro e w5 ⟨rfl, kk, hb⟩
  have S5 := Lib.hid (hb.size)
  have B5 := Lib.hid (Below.tr B4.out hb)
  have Fw0_5 := Lib.hid (own_below Fw0_4.out hb)
  clear Fw0_4
  have Fxg_5 := Lib.hid (own_below Fxg_4.out hb)
  clear Fxg_4
  have Fxm_5 := Lib.hid (own_of_vblk kk (by simpa using HXm.out) hsm)
  have Pxm : Hid (∀ g, (.slice (some ⟨w4.heap.size, 0, none⟩) nm nm : Value).ownBlock = some g → w4.heap.size ≤ g ∧ g < w5.heap.size) := Lib.hid (fun g h => Fxm_5.out.lt g h)
  clear kk hb
  go_wp2_with fail
  refine (implEv_any _ _ _ _ _ _ g m _ r0 r1 HR (Lib.hid (own_glies HXg.out Fxg_5.out)) HXg hsg (own_blies Fxm_5.out) HXm (by omega)).mono ?_
  rintro e w6 ⟨Ag0, cg0, rfl, ho0, hb⟩
  have S6 := Lib.hid (hb.size)
  have B6 := Lib.hid (Below.tr B5.out hb)
  have Fw0_6 := Lib.hid (own_below Fw0_5.out hb)
  clear Fw0_5
  have Fxg_6 := Lib.hid (own_below Fxg_5.out hb)
  clear Fxg_5
  have Fxm_6 := Lib.hid (own_below Fxm_5.out hb)
  clear Fxm_5
  have Fg0_6 := Lib.hid (ho0)
  have Pg0 : Hid (∀ g, (.slice Ag0 r0.length cg0 : Value).ownBlock = some g → w5.heap.size ≤ g ∧ g < w6.heap.size) := Lib.hid (fun g h => Fg0_6.out.lt g h)
  clear hb ho0
  have hb1 : (r1 != r1) = false := by simp
  go_wp2_with fail
  refine (eqBoolS_same _ _ _ _ _ r0 _ (Lib.hid (own_blies Fg0_6.out)) (Lib.hid (own_blies Fw0_6.out)) (Lib.hid rfl) (by omega)).mono ?_
  rintro e w7 ⟨rfl, hb⟩
  have S7 := Lib.hid (hb.size)
  have B7 := Lib.hid (Below.tr B6.out hb)
  have Fw0_7 := Lib.hid (own_below Fw0_6.out hb)
  clear Fw0_6
  have Fxg_7 := Lib.hid (own_below Fxg_6.out hb)
  clear Fxg_6
  have Fxm_7 := Lib.hid (own_below Fxm_6.out hb)
  clear Fxm_6
  have Fg0_7 := Lib.hid (own_below Fg0_6.out hb)
  clear Fg0_6
  clear hb
  go_wp2_with fail
  refine (toGateS_any _ _ _ g _ (Lib.hid (HLg.out.below B7.out)) HXg hsg).mono ?_
  rintro e w8 ⟨rfl, kk, hb⟩
  have S8 := Lib.hid (hb.size)
  have B8 := Lib.hid (Below.tr B7.out hb)
  have Fw0_8 := Lib.hid (own_below Fw0_7.out hb)
  clear Fw0_7
  have Fxg_8 := Lib.hid (own_below Fxg_7.out hb)
  clear Fxg_7
  have Fxm_8 := Lib.hid (own_below Fxm_7.out hb)
  clear Fxm_7
  have Fg0_8 := Lib.hid (own_below Fg0_7.out hb)
  clear Fg0_7
  have Fcg_8 := Lib.hid (own_of_gblk kk HXg.out hsg)
  have Pcg : Hid (∀ g, (.slice (some ⟨w7.heap.size, 0, none⟩) ng ng : Value).ownBlock = some g → w7.heap.size ≤ g ∧ g < w8.heap.size) := Lib.hid (fun g h => Fcg_8.out.lt g h)
  clear kk hb
  go_wp2_with fail
  refine (eqGateS_same _ _ _ _ _ g _ (Lib.hid (own_glies HXg.out Fxg_8.out)) (Lib.hid (own_glies HXg.out Fcg_8.out)) HXg (by omega)).mono ?_
  rintro e w9 ⟨rfl, hb⟩
  have S9 := Lib.hid (hb.size)
  have B9 := Lib.hid (Below.tr B8.out hb)
  have Fw0_9 := Lib.hid (own_below Fw0_8.out hb)
  clear Fw0_8
  have Fxg_9 := Lib.hid (own_below Fxg_8.out hb)
  clear Fxg_8
  have Fxm_9 := Lib.hid (own_below Fxm_8.out hb)
  clear Fxm_8
  have Fg0_9 := Lib.hid (own_below Fg0_8.out hb)
  clear Fg0_8
  have Fcg_9 := Lib.hid (own_below Fcg_8.out hb)
  clear Fcg_8
  clear hb
  clear Fcg_9
  go_wp2_with fail
  refine (toBoolS_any _ _ _ m _ (Lib.hid (HLm.out.below B9.out)) HXm hsm).mono ?_
  rintro e w10 ⟨rfl, kk, hb⟩
  have S10 := Lib.hid (hb.size)
  have B10 := Lib.hid (Below.tr B9.out hb)
  have Fw0_10 := Lib.hid (own_below Fw0_9.out hb)
  clear Fw0_9
  have Fxg_10 := Lib.hid (own_below Fxg_9.out hb)
  clear Fxg_9
  have Fxm_10 := Lib.hid (own_below Fxm_9.out hb)
  clear Fxm_9
  have Fg0_10 := Lib.hid (own_below Fg0_9.out hb)
  clear Fg0_9
  have Fcm_10 := Lib.hid (own_of_vblk kk (by simpa using HXm.out) hsm)
  have Pcm : Hid (∀ g, (.slice (some ⟨w9.heap.size, 0, none⟩) nm nm : Value).ownBlock = some g → w9.heap.size ≤ g ∧ g < w10.heap.size) := Lib.hid (fun g h => Fcm_10.out.lt g h)
  clear kk hb
  go_wp2_with fail
  refine (eqBoolS_same _ _ _ _ _ m _ (Lib.hid (own_blies Fxm_10.out)) (Lib.hid (own_blies Fcm_10.out)) HXm (by omega)).mono ?_
  rintro e w11 ⟨rfl, hb⟩
  have S11 := Lib.hid (hb.size)
  have B11 := Lib.hid (Below.tr B10.out hb)
  have Fw0_11 := Lib.hid (own_below Fw0_10.out hb)
  clear Fw0_10
  have Fxg_11 := Lib.hid (own_below Fxg_10.out hb)
  clear Fxg_10
  have Fxm_11 := Lib.hid (own_below Fxm_10.out hb)
  clear Fxm_10
  have Fg0_11 := Lib.hid (own_below Fg0_10.out hb)
  clear Fg0_10
  have Fcm_11 := Lib.hid (own_below Fcm_10.out hb)
  clear Fcm_10
  clear hb
  clear Fcm_11
  go_wp2_with fail
  refine (markGateS_any _ _ _ _ (gcells g) (1) _ Fxg_11 (by omega) (by omega)).mono ?_
  rintro e w12 ⟨rfl, ho, hg⟩
  have hk := Kept.of_grown (S := fun g => (.slice (some ⟨w3.heap.size, 0, none⟩) ng ng : Value).ownBlock = some g) hg (fun g h => h)
  clear hg
  have S12 := Lib.hid (hk.size)
  have B12 := Lib.hid (hk.below B11.out B11.out.size (fun i hi => by have := Pxg.out i hi; have := S1.out; have := S2.out; have := S3.out; have := S4.out; have := S5.out; have := S6.out; have := S7.out; have := S8.out; have := S9.out; have := S10.out; have := S11.out; have := S12.out; omega))
  have Fw0_12 := Lib.hid (hk.own Fw0_11.out (fun g h q => by have := Pxg.out g q; have := Pw0.out g h; have := S1.out; have := S2.out; have := S3.out; have := S4.out; have := S5.out; have := S6.out; have := S7.out; have := S8.out; have := S9.out; have := S10.out; have := S11.out; have := S12.out; omega))
  clear Fw0_11
  have Fxm_12 := Lib.hid (hk.own Fxm_11.out (fun g h q => by have := Pxg.out g q; have := Pxm.out g h; have := S1.out; have := S2.out; have := S3.out; have := S4.out; have := S5.out; have := S6.out; have := S7.out; have := S8.out; have := S9.out; have := S10.out; have := S11.out; have := S12.out; omega))
  clear Fxm_11
  have Fg0_12 := Lib.hid (hk.own Fg0_11.out (fun g h q => by have := Pxg.out g q; have := Pg0.out g h; have := S1.out; have := S2.out; have := S3.out; have := S4.out; have := S5.out; have := S6.out; have := S7.out; have := S8.out; have := S9.out; have := S10.out; have := S11.out; have := S12.out; omega))
  clear Fg0_11
  clear ho hk
  clear Fxg_11
  go_wp2_with fail
  refine (markBoolS_any _ _ _ _ m (1 + (ng : Int) * 3) _ Fxm_12 (by omega) (by omega)).mono ?_
  rintro e w13 ⟨rfl, ho, hg⟩
  have hk := Kept.of_grown (S := fun g => (.slice (some ⟨w4.heap.size, 0, none⟩) nm nm : Value).ownBlock = some g) hg (fun g h => h)
  clear hg
  have S13 := Lib.hid (hk.size)
  have B13 := Lib.hid (hk.below B12.out B12.out.size (fun i hi => by have := Pxm.out i hi; have := S1.out; have := S2.out; have := S3.out; have := S4.out; have := S5.out; have := S6.out; have := S7.out; have := S8.out; have := S9.out; have := S10.out; have := S11.out; have := S12.out; have := S13.out; omega))
  have Fw0_13 := Lib.hid (hk.own Fw0_12.out (fun g h q => by have := Pxm.out g q; have := Pw0.out g h; have := S1.out; have := S2.out; have := S3.out; have := S4.out; have := S5.out; have := S6.out; have := S7.out; have := S8.out; have := S9.out; have := S10.out; have := S11.out; have := S12.out; have := S13.out; omega))
  clear Fw0_12
  have Fg0_13 := Lib.hid (hk.own Fg0_12.out (fun g h q => by have := Pxm.out g q; have := Pg0.out g h; have := S1.out; have := S2.out; have := S3.out; have := S4.out; have := S5.out; have := S6.out; have := S7.out; have := S8.out; have := S9.out; have := S10.out; have := S11.out; have := S12.out; have := S13.out; omega))
  clear Fg0_12
  clear ho hk
  clear Fxm_12
  have hnegk : decide (1 + (ng : Int) * 3 + (nm : Int) < 0) = false := by simp; omega
  go_wp2_with fail
  refine (eqBoolS_same _ _ _ _ _ r0 _ (Lib.hid (own_blies Fg0_13.out)) (Lib.hid (own_blies Fw0_13.out)) (Lib.hid rfl) (by omega)).mono ?_
  rintro e w14 ⟨rfl, hb⟩
  have S14 := Lib.hid (hb.size)
  have B14 := Lib.hid (Below.tr B13.out hb)
  have Fw0_14 := Lib.hid (own_below Fw0_13.out hb)
  clear Fw0_13
  have Fg0_14 := Lib.hid (own_below Fg0_13.out hb)
  clear Fg0_13
  clear hb
  go_wp2_with fail
  refine (markBoolS_any _ _ _ _ r0 (1) _ Fg0_14 (by omega) (by omega)).mono ?_
  rintro e w15 ⟨rfl, ho, hg⟩
  have hk := Kept.of_grown (S := fun g => (.slice Ag0 r0.length cg0 : Value).ownBlock = some g) hg (fun g h => h)
  clear hg
  have S15 := Lib.hid (hk.size)
  have B15 := Lib.hid (hk.below B14.out B14.out.size (fun i hi => by have := Pg0.out i hi; have := S1.out; have := S2.out; have := S3.out; have := S4.out; have := S5.out; have := S6.out; have := S7.out; have := S8.out; have := S9.out; have := S10.out; have := S11.out; have := S12.out; have := S13.out; have := S14.out; have := S15.out; omega))
  have Fw0_15 := Lib.hid (hk.own Fw0_14.out (fun g h q => by have := Pg0.out g q; have := Pw0.out g h; have := S1.out; have := S2.out; have := S3.out; have := S4.out; have := S5.out; have := S6.out; have := S7.out; have := S8.out; have := S9.out; have := S10.out; have := S11.out; have := S12.out; have := S13.out; have := S14.out; have := S15.out; omega))
  clear Fw0_14
  clear Fg0_14
  have Fg0_15 := Lib.hid ho
  clear ho hk
  have hnegm : decide (1 + (r0.length : Int) < 0) = false := by simp; omega
  have heqm : ((1 + (r0.length : Int) : Int) != (1 + (r0.length : Int) : Int)) = false := by simp
  go_wp2_with fail
  refine (heldBoolS_any _ _ _ (1) _ (Lib.hid (own_blies Fg0_15.out)) (by omega) (by omega)).mono ?_
  rintro e w16 ⟨rfl, hb⟩
  have S16 := Lib.hid (hb.size)
  have B16 := Lib.hid (Below.tr B15.out hb)
  have Fw0_16 := Lib.hid (own_below Fw0_15.out hb)
  clear Fw0_15
  have Fg0_16 := Lib.hid (own_below Fg0_15.out hb)
  clear Fg0_15
  clear hb
  go_wp2_with fail
  refine (toGateS_any _ _ _ g _ (Lib.hid (HLg.out.below B16.out)) HXg hsg).mono ?_
  rintro e w17 ⟨rfl, kk, hb⟩
  have S17 := Lib.hid (hb.size)
  have B17 := Lib.hid (Below.tr B16.out hb)
  have Fw0_17 := Lib.hid (own_below Fw0_16.out hb)
  clear Fw0_16
  have Fg0_17 := Lib.hid (own_below Fg0_16.out hb)
  clear Fg0_16
  have Fyg_17 := Lib.hid (own_of_gblk kk HXg.out hsg)
  have Pyg : Hid (∀ g, (.slice (some ⟨w16.heap.size, 0, none⟩) ng ng : Value).ownBlock = some g → w16.heap.size ≤ g ∧ g < w17.heap.size) := Lib.hid (fun g h => Fyg_17.out.lt g h)
  clear kk hb
  go_wp2_with fail
  refine (toBoolS_any _ _ _ m _ (Lib.hid (HLm.out.below B17.out)) HXm hsm).mono ?_
  rintro e w18 ⟨rfl, kk, hb⟩
  have S18 := Lib.hid (hb.size)
  have B18 := Lib.hid (Below.tr B17.out hb)
  have Fw0_18 := Lib.hid (own_below Fw0_17.out hb)
  clear Fw0_17
  have Fg0_18 := Lib.hid (own_below Fg0_17.out hb)
  clear Fg0_17
  have Fyg_18 := Lib.hid (own_below Fyg_17.out hb)
  clear Fyg_17
  have Fym_18 := Lib.hid (own_of_vblk kk (by simpa using HXm.out) hsm)
  have Pym : Hid (∀ g, (.slice (some ⟨w17.heap.size, 0, none⟩) nm nm : Value).ownBlock = some g → w17.heap.size ≤ g ∧ g < w18.heap.size) := Lib.hid (fun g h => Fym_18.out.lt g h)
  clear kk hb
  go_wp2_with fail
  refine (implEv_any _ _ _ _ _ _ g m _ r0 r1 HR (Lib.hid (own_glies HXg.out Fyg_18.out)) HXg hsg (own_blies Fym_18.out) HXm (by omega)).mono ?_
  rintro e w19 ⟨Ah0, ch0, rfl, ho0, hb⟩
  have S19 := Lib.hid (hb.size)
  have B19 := Lib.hid (Below.tr B18.out hb)
  have Fw0_19 := Lib.hid (own_below Fw0_18.out hb)
  clear Fw0_18
  have Fg0_19 := Lib.hid (own_below Fg0_18.out hb)
  clear Fg0_18
  have Fyg_19 := Lib.hid (own_below Fyg_18.out hb)
  clear Fyg_18
  have Fym_19 := Lib.hid (own_below Fym_18.out hb)
  clear Fym_18
  have Fh0_19 := Lib.hid (ho0)
  have Ph0 : Hid (∀ g, (.slice Ah0 r0.length ch0 : Value).ownBlock = some g → w18.heap.size ≤ g ∧ g < w19.heap.size) := Lib.hid (fun g h => Fh0_19.out.lt g h)
  clear hb ho0
  clear Fyg_19
  clear Fym_19
  go_wp2_with fail
  refine (eqBoolS_same _ _ _ _ _ r0 _ (Lib.hid (own_blies Fh0_19.out)) (Lib.hid (own_blies Fw0_19.out)) (Lib.hid rfl) (by omega)).mono ?_
  rintro e w20 ⟨rfl, hb⟩
  have S20 := Lib.hid (hb.size)
  have B20 := Lib.hid (Below.tr B19.out hb)
  have Fw0_20 := Lib.hid (own_below Fw0_19.out hb)
  clear Fw0_19
  have Fg0_20 := Lib.hid (own_below Fg0_19.out hb)
  clear Fg0_19
  have Fh0_20 := Lib.hid (own_below Fh0_19.out hb)
  clear Fh0_19
  clear hb
  clear Fh0_20
  clear Fw0_20
  go_wp2_with fail
  refine (heldBoolS_any _ _ _ (1) _ (Lib.hid (own_blies Fg0_20.out)) (by omega) (by omega)).mono ?_
  rintro e w21 ⟨rfl, hb⟩
  have S21 := Lib.hid (hb.size)
  have B21 := Lib.hid (Below.tr B20.out hb)
  have Fg0_21 := Lib.hid (own_below Fg0_20.out hb)
  clear Fg0_20
  clear hb
  go_wp2
  go_ret
  exact ⟨rfl, B21.out⟩
end Go.Proofs.Ytklcfbjaodildaa
