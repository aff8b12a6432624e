/-
  The walk of the law of Resolve.
-/
import Derived.Test.YthcgmkhlfhlhkaaResolve
import Derived.Test.YthcgmkhlfhlhkaaSS
namespace Go.Proofs.Ythcgmkhlfhlhkaa
open Go.ChangeShapes Go.WideShapes Go.ChangeAt Go.RowKit

set_option maxRecDepth 100000 in
set_option maxHeartbeats 4000000 in
theorem lawResolve (Aa : Option Addr) (capa : Nat) (a : List Int) (Ab : Option Addr) (capb : Nat) (b : List Int) (v : Int) (w : World) (hna : a.length ≤ 9223372036854775807) (hla : ILies w Aa a) (hnb : b.length ≤ 9223372036854775807) (hlb : ILies w Ab b) :
    Calls Try.prog 8 #[.slice Aa a.length capa, .slice Ab b.length capb, .int .i64 v] w fun e w' => e = .returned (.bool true) ∧ Below w.heap.size w w' := by
  obtain ⟨na, hxa⟩ : ∃ n, a.length = n := ⟨_, rfl⟩
  rw [hxa] at hna ⊢
  have HXa := Lib.hid hxa
  have HLa := Lib.hid hla
  clear hxa hla
  obtain ⟨nb, hxb⟩ : ∃ n, b.length = n := ⟨_, rfl⟩
  rw [hxb] at hnb ⊢
  have HXb := Lib.hid hxb
  have HLb := Lib.hid hlb
  clear hxb hlb
  by_cases hba : 1048576 < na
  · go_enter Try.func8, Try.ntmps8
    go_wp2
    go_ret
    exact ⟨rfl, Below.refl _ _⟩
  have hsa : na ≤ 1048576 := by omega
  by_cases hbb : 1048576 < nb
  · go_enter Try.func8, Try.ntmps8
    go_wp2
    go_ret
    exact ⟨rfl, Below.refl _ _⟩
  have hsb : nb ≤ 1048576 := by omega
  go_enter Try.func8, Try.ntmps8
  obtain ⟨r0, r1, hr⟩ := opt_any (resB a b v)
  have hrl : r0.length ≤ 1000 := resB_len hr
  have HR := Lib.hid hr
  clear hr
  go_wp2_with fail
  refine (toIntS_any _ _ _ a _ (HLa.out.below (Below.refl _ _)) HXa hsa).mono ?_
  rintro e w1 ⟨rfl, kk, hb⟩
  have S1 := Lib.hid (hb.size)
  have B1 := Lib.hid (Below.tr (Below.refl _ _) hb)
  have Fsa_1 := Lib.hid (own_of_vblk kk (by simpa using HXa.out) hsa)
  have Psa : Hid (∀ g, (.slice (some ⟨w.heap.size, 0, none⟩) na na : Value).ownBlock = some g → w.heap.size ≤ g ∧ g < w1.heap.size) := Lib.hid (fun g h => Fsa_1.out.lt g h)
  clear kk hb
  go_wp2_with fail
  refine (toIntS_any _ _ _ b _ (HLb.out.below B1.out) HXb hsb).mono ?_
  rintro e w2 ⟨rfl, kk, hb⟩
  have S2 := Lib.hid (hb.size)
  have B2 := Lib.hid (Below.tr B1.out hb)
  have Fsa_2 := Lib.hid (own_below Fsa_1.out hb)
  clear Fsa_1
  have Fsb_2 := Lib.hid (own_of_vblk kk (by simpa using HXb.out) hsb)
  have Psb : Hid (∀ g, (.slice (some ⟨w1.heap.size, 0, none⟩) nb nb : Value).ownBlock = some g → w1.heap.size ≤ g ∧ g < w2.heap.size) := Lib.hid (fun g h => Fsb_2.out.lt g h)
  clear kk hb
  go_wp2_with fail
  refine (specResolve_any _ _ _ _ _ _ a b v _ r0 r1 HR (own_ilies Fsa_2.out) (own_ilies Fsb_2.out) HXa HXb hna hnb (Nat.le_refl _) (Nat.le_refl _)).mono ?_
  rintro e w3 ⟨Aw0, cw0, rfl, ho0, hb⟩
  have S3 := Lib.hid (hb.size)
  have B3 := Lib.hid (Below.tr B2.out hb)
  have Fsa_3 := Lib.hid (own_below Fsa_2.out hb)
  clear Fsa_2
  have Fsb_3 := Lib.hid (own_below Fsb_2.out hb)
  clear Fsb_2
  have Fw0_3 := Lib.hid (ho0)
  have Pw0 : Hid (∀ g, (.slice Aw0 r0.length cw0 : Value).ownBlock = some g → w2.heap.size ≤ g ∧ g < w3.heap.size) := Lib.hid (fun g h => Fw0_3.out.lt g h)
  clear hb ho0
  clear Fsa_3
  clear Fsb_3
  go_wp2_with fail
  refine (toIntS_any _ _ _ a _ (HLa.out.below B3.out) HXa hsa).mono ?_
  rintro e w4 ⟨rfl, kk, hb⟩
  have S4 := Lib.hid (hb.size)
  have B4 := Lib.hid (Below.tr B3.out hb)
  have Fw0_4 := Lib.hid (own_below Fw0_3.out hb)
  clear Fw0_3
  have Fxa_4 := Lib.hid (own_of_vblk kk (by simpa using HXa.out) hsa)
  have Pxa : Hid (∀ g, (.slice (some ⟨w3.heap.size, 0, none⟩) na na : Value).ownBlock = some g → w3.heap.size ≤ g ∧ g < w4.heap.size) := Lib.hid (fun g h => Fxa_4.out.lt g h)
  clear kk hb
  go_wp2_with fail
  refine (toIntS_any _ _ _ b _ (HLb.out.below B4.out) HXb hsb).mono ?_
  rintro e w5 ⟨rfl, kk, hb⟩
  have S5 := Lib.hid (hb.size)
  have B5 := Lib.hid (Below.tr B4.out hb)
  have Fw0_5 := Lib.hid (own_below Fw0_4.out hb)
  clear Fw0_4
  have Fxa_5 := Lib.hid (own_below Fxa_4.out hb)
  clear Fxa_4
  have Fxb_5 := Lib.hid (own_of_vblk kk (by simpa using HXb.out) hsb)
  have Pxb : Hid (∀ g, (.slice (some ⟨w4.heap.size, 0, none⟩) nb nb : Value).ownBlock = some g → w4.heap.size ≤ g ∧ g < w5.heap.size) := Lib.hid (fun g h => Fxb_5.out.lt g h)
  clear kk hb
  go_wp2_with fail
  refine (implResolve_any _ _ _ _ _ _ a b v _ r0 r1 HR (own_ilies Fxa_5.out) (own_ilies Fxb_5.out) HXa HXb hna hnb).mono ?_
  rintro e w6 ⟨Ag0, cg0, rfl, ho0, hb⟩
  have S6 := Lib.hid (hb.size)
  have B6 := Lib.hid (Below.tr B5.out hb)
  have Fw0_6 := Lib.hid (own_below Fw0_5.out hb)
  clear Fw0_5
  have Fxa_6 := Lib.hid (own_below Fxa_5.out hb)
  clear Fxa_5
  have Fxb_6 := Lib.hid (own_below Fxb_5.out hb)
  clear Fxb_5
  have Fg0_6 := Lib.hid (ho0)
  have Pg0 : Hid (∀ g, (.slice Ag0 r0.length cg0 : Value).ownBlock = some g → w5.heap.size ≤ g ∧ g < w6.heap.size) := Lib.hid (fun g h => Fg0_6.out.lt g h)
  clear hb ho0
  have hb1 : (r1 != r1) = false := by simp
  go_wp2_with fail
  refine (eqIntS_same _ _ _ _ _ r0 _ (own_ilies Fg0_6.out) (own_ilies Fw0_6.out) (Lib.hid rfl) (by omega)).mono ?_
  rintro e w7 ⟨rfl, hb⟩
  have S7 := Lib.hid (hb.size)
  have B7 := Lib.hid (Below.tr B6.out hb)
  have Fw0_7 := Lib.hid (own_below Fw0_6.out hb)
  clear Fw0_6
  have Fxa_7 := Lib.hid (own_below Fxa_6.out hb)
  clear Fxa_6
  have Fxb_7 := Lib.hid (own_below Fxb_6.out hb)
  clear Fxb_6
  have Fg0_7 := Lib.hid (own_below Fg0_6.out hb)
  clear Fg0_6
  clear hb
  go_wp2_with fail
  refine (toIntS_any _ _ _ a _ (HLa.out.below B7.out) HXa hsa).mono ?_
  rintro e w8 ⟨rfl, kk, hb⟩
  have S8 := Lib.hid (hb.size)
  have B8 := Lib.hid (Below.tr B7.out hb)
  have Fw0_8 := Lib.hid (own_below Fw0_7.out hb)
  clear Fw0_7
  have Fxa_8 := Lib.hid (own_below Fxa_7.out hb)
  clear Fxa_7
  have Fxb_8 := Lib.hid (own_below Fxb_7.out hb)
  clear Fxb_7
  have Fg0_8 := Lib.hid (own_below Fg0_7.out hb)
  clear Fg0_7
  have Fca_8 := Lib.hid (own_of_vblk kk (by simpa using HXa.out) hsa)
  have Pca : Hid (∀ g, (.slice (some ⟨w7.heap.size, 0, none⟩) na na : Value).ownBlock = some g → w7.heap.size ≤ g ∧ g < w8.heap.size) := Lib.hid (fun g h => Fca_8.out.lt g h)
  clear kk hb
  go_wp2_with fail
  refine (eqIntS_same _ _ _ _ _ a _ (own_ilies Fxa_8.out) (own_ilies Fca_8.out) HXa (by omega)).mono ?_
  rintro e w9 ⟨rfl, hb⟩
  have S9 := Lib.hid (hb.size)
  have B9 := Lib.hid (Below.tr B8.out hb)
  have Fw0_9 := Lib.hid (own_below Fw0_8.out hb)
  clear Fw0_8
  have Fxa_9 := Lib.hid (own_below Fxa_8.out hb)
  clear Fxa_8
  have Fxb_9 := Lib.hid (own_below Fxb_8.out hb)
  clear Fxb_8
  have Fg0_9 := Lib.hid (own_below Fg0_8.out hb)
  clear Fg0_8
  have Fca_9 := Lib.hid (own_below Fca_8.out hb)
  clear Fca_8
  clear hb
  clear Fca_9
  go_wp2_with fail
  refine (toIntS_any _ _ _ b _ (HLb.out.below B9.out) HXb hsb).mono ?_
  rintro e w10 ⟨rfl, kk, hb⟩
  have S10 := Lib.hid (hb.size)
  have B10 := Lib.hid (Below.tr B9.out hb)
  have Fw0_10 := Lib.hid (own_below Fw0_9.out hb)
  clear Fw0_9
  have Fxa_10 := Lib.hid (own_below Fxa_9.out hb)
  clear Fxa_9
  have Fxb_10 := Lib.hid (own_below Fxb_9.out hb)
  clear Fxb_9
  have Fg0_10 := Lib.hid (own_below Fg0_9.out hb)
  clear Fg0_9
  have Fcb_10 := Lib.hid (own_of_vblk kk (by simpa using HXb.out) hsb)
  have Pcb : Hid (∀ g, (.slice (some ⟨w9.heap.size, 0, none⟩) nb nb : Value).ownBlock = some g → w9.heap.size ≤ g ∧ g < w10.heap.size) := Lib.hid (fun g h => Fcb_10.out.lt g h)
  clear kk hb
  go_wp2_with fail
  refine (eqIntS_same _ _ _ _ _ b _ (own_ilies Fxb_10.out) (own_ilies Fcb_10.out) HXb (by omega)).mono ?_
  rintro e w11 ⟨rfl, hb⟩
  have S11 := Lib.hid (hb.size)
  have B11 := Lib.hid (Below.tr B10.out hb)
  have Fw0_11 := Lib.hid (own_below Fw0_10.out hb)
  clear Fw0_10
  have Fxa_11 := Lib.hid (own_below Fxa_10.out hb)
  clear Fxa_10
  have Fxb_11 := Lib.hid (own_below Fxb_10.out hb)
  clear Fxb_10
  have Fg0_11 := Lib.hid (own_below Fg0_10.out hb)
  clear Fg0_10
  have Fcb_11 := Lib.hid (own_below Fcb_10.out hb)
  clear Fcb_10
  clear hb
  clear Fcb_11
  go_wp2_with fail
  refine (markIntS_any _ _ _ _ a (1) _ Fxa_11 (by omega) (by omega)).mono ?_
  rintro e w12 ⟨rfl, ho, hg⟩
  have hk := Kept.of_grown (S := fun g => (.slice (some ⟨w3.heap.size, 0, none⟩) na na : Value).ownBlock = some g) hg (fun g h => h)
  clear hg
  have S12 := Lib.hid (hk.size)
  have B12 := Lib.hid (hk.below B11.out B11.out.size (fun i hi => by have := Pxa.out i hi; have := S1.out; have := S2.out; have := S3.out; have := S4.out; have := S5.out; have := S6.out; have := S7.out; have := S8.out; have := S9.out; have := S10.out; have := S11.out; have := S12.out; omega))
  have Fw0_12 := Lib.hid (hk.own Fw0_11.out (fun g h q => by have := Pxa.out g q; have := Pw0.out g h; have := S1.out; have := S2.out; have := S3.out; have := S4.out; have := S5.out; have := S6.out; have := S7.out; have := S8.out; have := S9.out; have := S10.out; have := S11.out; have := S12.out; omega))
  clear Fw0_11
  have Fxb_12 := Lib.hid (hk.own Fxb_11.out (fun g h q => by have := Pxa.out g q; have := Pxb.out g h; have := S1.out; have := S2.out; have := S3.out; have := S4.out; have := S5.out; have := S6.out; have := S7.out; have := S8.out; have := S9.out; have := S10.out; have := S11.out; have := S12.out; omega))
  clear Fxb_11
  have Fg0_12 := Lib.hid (hk.own Fg0_11.out (fun g h q => by have := Pxa.out g q; have := Pg0.out g h; have := S1.out; have := S2.out; have := S3.out; have := S4.out; have := S5.out; have := S6.out; have := S7.out; have := S8.out; have := S9.out; have := S10.out; have := S11.out; have := S12.out; omega))
  clear Fg0_11
  clear ho hk
  clear Fxa_11
  go_wp2_with fail
  refine (markIntS_any _ _ _ _ b (1 + (na : Int)) _ Fxb_12 (by omega) (by omega)).mono ?_
  rintro e w13 ⟨rfl, ho, hg⟩
  have hk := Kept.of_grown (S := fun g => (.slice (some ⟨w4.heap.size, 0, none⟩) nb nb : Value).ownBlock = some g) hg (fun g h => h)
  clear hg
  have S13 := Lib.hid (hk.size)
  have B13 := Lib.hid (hk.below B12.out B12.out.size (fun i hi => by have := Pxb.out i hi; have := S1.out; have := S2.out; have := S3.out; have := S4.out; have := S5.out; have := S6.out; have := S7.out; have := S8.out; have := S9.out; have := S10.out; have := S11.out; have := S12.out; have := S13.out; omega))
  have Fw0_13 := Lib.hid (hk.own Fw0_12.out (fun g h q => by have := Pxb.out g q; have := Pw0.out g h; have := S1.out; have := S2.out; have := S3.out; have := S4.out; have := S5.out; have := S6.out; have := S7.out; have := S8.out; have := S9.out; have := S10.out; have := S11.out; have := S12.out; have := S13.out; omega))
  clear Fw0_12
  have Fg0_13 := Lib.hid (hk.own Fg0_12.out (fun g h q => by have := Pxb.out g q; have := Pg0.out g h; have := S1.out; have := S2.out; have := S3.out; have := S4.out; have := S5.out; have := S6.out; have := S7.out; have := S8.out; have := S9.out; have := S10.out; have := S11.out; have := S12.out; have := S13.out; omega))
  clear Fg0_12
  clear ho hk
  clear Fxb_12
  have hnegk : decide (1 + (na : Int) + (nb : Int) < 0) = false := by simp; omega
  go_wp2_with fail
  refine (eqIntS_same _ _ _ _ _ r0 _ (own_ilies Fg0_13.out) (own_ilies Fw0_13.out) (Lib.hid rfl) (by omega)).mono ?_
  rintro e w14 ⟨rfl, hb⟩
  have S14 := Lib.hid (hb.size)
  have B14 := Lib.hid (Below.tr B13.out hb)
  have Fw0_14 := Lib.hid (own_below Fw0_13.out hb)
  clear Fw0_13
  have Fg0_14 := Lib.hid (own_below Fg0_13.out hb)
  clear Fg0_13
  clear hb
  go_wp2_with fail
  refine (markIntS_any _ _ _ _ r0 (1) _ Fg0_14 (by omega) (by omega)).mono ?_
  rintro e w15 ⟨rfl, ho, hg⟩
  have hk := Kept.of_grown (S := fun g => (.slice Ag0 r0.length cg0 : Value).ownBlock = some g) hg (fun g h => h)
  clear hg
  have S15 := Lib.hid (hk.size)
  have B15 := Lib.hid (hk.below B14.out B14.out.size (fun i hi => by have := Pg0.out i hi; have := S1.out; have := S2.out; have := S3.out; have := S4.out; have := S5.out; have := S6.out; have := S7.out; have := S8.out; have := S9.out; have := S10.out; have := S11.out; have := S12.out; have := S13.out; have := S14.out; have := S15.out; omega))
  have Fw0_15 := Lib.hid (hk.own Fw0_14.out (fun g h q => by have := Pg0.out g q; have := Pw0.out g h; have := S1.out; have := S2.out; have := S3.out; have := S4.out; have := S5.out; have := S6.out; have := S7.out; have := S8.out; have := S9.out; have := S10.out; have := S11.out; have := S12.out; have := S13.out; have := S14.out; have := S15.out; omega))
  clear Fw0_14
  clear Fg0_14
  have Fg0_15 := Lib.hid ho
  clear ho hk
  have hnegm : decide (1 + (r0.length : Int) < 0) = false := by simp; omega
  have heqm : ((1 + (r0.length : Int) : Int) != (1 + (r0.length : Int) : Int)) = false := by simp
  go_wp2_with fail
  refine (heldIntS_any _ _ _ (1) _ (own_ilies Fg0_15.out) (by omega) (by omega)).mono ?_
  rintro e w' ⟨rfl, rfl⟩
  go_wp2_with fail
  refine (toIntS_any _ _ _ a _ (HLa.out.below B15.out) HXa hsa).mono ?_
  rintro e w16 ⟨rfl, kk, hb⟩
  have S16 := Lib.hid (hb.size)
  have B16 := Lib.hid (Below.tr B15.out hb)
  have Fw0_16 := Lib.hid (own_below Fw0_15.out hb)
  clear Fw0_15
  have Fg0_16 := Lib.hid (own_below Fg0_15.out hb)
  clear Fg0_15
  have Fya_16 := Lib.hid (own_of_vblk kk (by simpa using HXa.out) hsa)
  have Pya : Hid (∀ g, (.slice (some ⟨w15.heap.size, 0, none⟩) na na : Value).ownBlock = some g → w15.heap.size ≤ g ∧ g < w16.heap.size) := Lib.hid (fun g h => Fya_16.out.lt g h)
  clear kk hb
  go_wp2_with fail
  refine (toIntS_any _ _ _ b _ (HLb.out.below B16.out) HXb hsb).mono ?_
  rintro e w17 ⟨rfl, kk, hb⟩
  have S17 := Lib.hid (hb.size)
  have B17 := Lib.hid (Below.tr B16.out hb)
  have Fw0_17 := Lib.hid (own_below Fw0_16.out hb)
  clear Fw0_16
  have Fg0_17 := Lib.hid (own_below Fg0_16.out hb)
  clear Fg0_16
  have Fya_17 := Lib.hid (own_below Fya_16.out hb)
  clear Fya_16
  have Fyb_17 := Lib.hid (own_of_vblk kk (by simpa using HXb.out) hsb)
  have Pyb : Hid (∀ g, (.slice (some ⟨w16.heap.size, 0, none⟩) nb nb : Value).ownBlock = some g → w16.heap.size ≤ g ∧ g < w17.heap.size) := Lib.hid (fun g h => Fyb_17.out.lt g h)
  clear kk hb
  go_wp2_with fail
  refine (implResolve_any _ _ _ _ _ _ a b v _ r0 r1 HR (own_ilies Fya_17.out) (own_ilies Fyb_17.out) HXa HXb hna hnb).mono ?_
  rintro e w18 ⟨Ah0, ch0, rfl, ho0, hb⟩
  have S18 := Lib.hid (hb.size)
  have B18 := Lib.hid (Below.tr B17.out hb)
  have Fw0_18 := Lib.hid (own_below Fw0_17.out hb)
  clear Fw0_17
  have Fg0_18 := Lib.hid (own_below Fg0_17.out hb)
  clear Fg0_17
  have Fya_18 := Lib.hid (own_below Fya_17.out hb)
  clear Fya_17
  have Fyb_18 := Lib.hid (own_below Fyb_17.out hb)
  clear Fyb_17
  have Fh0_18 := Lib.hid (ho0)
  have Ph0 : Hid (∀ g, (.slice Ah0 r0.length ch0 : Value).ownBlock = some g → w17.heap.size ≤ g ∧ g < w18.heap.size) := Lib.hid (fun g h => Fh0_18.out.lt g h)
  clear hb ho0
  clear Fya_18
  clear Fyb_18
  go_wp2_with fail
  refine (eqIntS_same _ _ _ _ _ r0 _ (own_ilies Fh0_18.out) (own_ilies Fw0_18.out) (Lib.hid rfl) (by omega)).mono ?_
  rintro e w19 ⟨rfl, hb⟩
  have S19 := Lib.hid (hb.size)
  have B19 := Lib.hid (Below.tr B18.out hb)
  have Fw0_19 := Lib.hid (own_below Fw0_18.out hb)
  clear Fw0_18
  have Fg0_19 := Lib.hid (own_below Fg0_18.out hb)
  clear Fg0_18
  have Fh0_19 := Lib.hid (own_below Fh0_18.out hb)
  clear Fh0_18
  clear hb
  clear Fh0_19
  clear Fw0_19
  go_wp2_with fail
  refine (heldIntS_any _ _ _ (1) _ (own_ilies Fg0_19.out) (by omega) (by omega)).mono ?_
  rintro e w' ⟨rfl, rfl⟩
  go_wp2
  go_ret
  exact ⟨rfl, B19.out⟩
end Go.Proofs.Ythcgmkhlfhlhkaa
