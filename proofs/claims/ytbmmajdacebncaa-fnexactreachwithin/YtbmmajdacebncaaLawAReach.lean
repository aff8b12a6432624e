/-
  The walk of the law of AReach.
-/
import Derived.Test.YtbmmajdacebncaaAc10
import Derived.Test.YtbmmajdacebncaaAcLaw
namespace Go.Proofs.Ytbmmajdacebncaa
open Go.ChangeShapes Go.WideShapes Go.ChangeAt Go.RowKit

set_option maxRecDepth 100000 in
set_option maxHeartbeats 8000000 in
theorem lawAReach (s : Int) (Al : Option Addr) (capl : Nat) (l : AL) (f : Int) (t : Int) (w : World) (hnl : l.length ≤ 9223372036854775807) (hll : ALies w Al l) :
    Calls Try.prog 10 #[.int .i64 s, .slice Al l.length capl, .int .i64 f, .int .i64 t] w fun e w' => e = .returned (.bool true) ∧ Below w.heap.size w w' := by
  obtain ⟨nl, hxl⟩ : ∃ n, l.length = n := ⟨_, rfl⟩
  rw [hxl] at hnl ⊢
  have HXl := Lib.hid hxl
  have HLl := Lib.hid hll
  clear hxl hll
  go_enter Try.func10, Try.ntmps10
  go_wp2_with fail
  refine (szArcS_any Al nl capl 1048576 _ hnl (by omega) (by omega)).mono ?_
  rintro e w' ⟨rfl, rfl⟩
  by_cases hnegl : 1048576 - (nl : Int) < 0
  · have hszl : szF 1048576 nl = -1 := if_pos (by omega)
    rw [hszl]
    go_wp2
    go_ret
    exact ⟨rfl, Below.refl _ _⟩
  have hszl : szF 1048576 nl = 1048576 - nl := if_neg (by omega)
  rw [hszl]
  clear hszl
  have hsl : nl ≤ 1048576 := by omega
  obtain ⟨⟨r0, r1⟩, hr⟩ : ∃ x, rReach s l f t = x := ⟨_, rfl⟩
  have hrl : r0.length ≤ 1000 := rReach_len hr
  have HR := Lib.hid hr
  clear hr
  go_wp2_with fail
  refine (toArcS_any _ _ _ l _ (Lib.hid (HLl.out.below (Below.refl _ _))) HXl hsl).mono ?_
  rintro e w1 ⟨rfl, kk, hb⟩
  have S1 := Lib.hid (hb.size)
  have B1 := Lib.hid (Below.tr (Below.refl _ _) hb)
  have Fsl_1 := Lib.hid (own_of_ablk kk HXl.out hsl)
  have Psl : Hid (∀ g, (.slice (some ⟨w.heap.size, 0, none⟩) nl nl : Value).ownBlock = some g → w.heap.size ≤ g ∧ g < w1.heap.size) := Lib.hid (fun g h => Fsl_1.out.lt g h)
  clear kk hb
  go_wp2_with fail
  refine (specReach_any s f t _ _ _ l _ r0 r1 HR (Lib.hid (own_alies HXl.out Fsl_1.out)) HXl hsl).mono ?_
  rintro e w2 ⟨Aw0, cw0, rfl, ho0, hb⟩
  have S2 := Lib.hid (hb.size)
  have B2 := Lib.hid (Below.tr B1.out hb)
  have Fsl_2 := Lib.hid (own_below Fsl_1.out hb)
  clear Fsl_1
  have Fw0_2 := Lib.hid (ho0)
  have Pw0 : Hid (∀ g, (.slice Aw0 r0.length cw0 : Value).ownBlock = some g → w1.heap.size ≤ g ∧ g < w2.heap.size) := Lib.hid (fun g h => Fw0_2.out.lt g h)
  clear hb ho0
  clear Fsl_2
  go_wp2_with fail
  refine (toArcS_any _ _ _ l _ (Lib.hid (HLl.out.below B2.out)) HXl hsl).mono ?_
  rintro e w3 ⟨rfl, kk, hb⟩
  have S3 := Lib.hid (hb.size)
  have B3 := Lib.hid (Below.tr B2.out hb)
  have Fw0_3 := Lib.hid (own_below Fw0_2.out hb)
  clear Fw0_2
  have Fxl_3 := Lib.hid (own_of_ablk kk HXl.out hsl)
  have Pxl : Hid (∀ g, (.slice (some ⟨w2.heap.size, 0, none⟩) nl nl : Value).ownBlock = some g → w2.heap.size ≤ g ∧ g < w3.heap.size) := Lib.hid (fun g h => Fxl_3.out.lt g h)
  clear kk hb
  go_wp2_with fail
  refine (implReach_any s f t _ _ _ l _ r0 r1 HR (Lib.hid (own_alies HXl.out Fxl_3.out)) HXl hsl).mono ?_
  rintro e w4 ⟨Ag0, cg0, rfl, ho0, hb⟩
  have S4 := Lib.hid (hb.size)
  have B4 := Lib.hid (Below.tr B3.out hb)
  have Fw0_4 := Lib.hid (own_below Fw0_3.out hb)
  clear Fw0_3
  have Fxl_4 := Lib.hid (own_below Fxl_3.out hb)
  clear Fxl_3
  have Fg0_4 := Lib.hid (ho0)
  have Pg0 : Hid (∀ g, (.slice Ag0 r0.length cg0 : Value).ownBlock = some g → w3.heap.size ≤ g ∧ g < w4.heap.size) := Lib.hid (fun g h => Fg0_4.out.lt g h)
  clear hb ho0
  have hb1 : (r1 != r1) = false := by simp
  go_wp2_with fail
  refine (eqIntS_same _ _ _ _ _ r0 _ (Lib.hid (own_ilies Fg0_4.out)) (Lib.hid (own_ilies Fw0_4.out)) (Lib.hid rfl) (by omega)).mono ?_
  rintro e w5 ⟨rfl, hb⟩
  have S5 := Lib.hid (hb.size)
  have B5 := Lib.hid (Below.tr B4.out hb)
  have Fw0_5 := Lib.hid (own_below Fw0_4.out hb)
  clear Fw0_4
  have Fxl_5 := Lib.hid (own_below Fxl_4.out hb)
  clear Fxl_4
  have Fg0_5 := Lib.hid (own_below Fg0_4.out hb)
  clear Fg0_4
  clear hb
  go_wp2_with fail
  refine (toArcS_any _ _ _ l _ (Lib.hid (HLl.out.below B5.out)) HXl hsl).mono ?_
  rintro e w6 ⟨rfl, kk, hb⟩
  have S6 := Lib.hid (hb.size)
  have B6 := Lib.hid (Below.tr B5.out hb)
  have Fw0_6 := Lib.hid (own_below Fw0_5.out hb)
  clear Fw0_5
  have Fxl_6 := Lib.hid (own_below Fxl_5.out hb)
  clear Fxl_5
  have Fg0_6 := Lib.hid (own_below Fg0_5.out hb)
  clear Fg0_5
  have Fcl_6 := Lib.hid (own_of_ablk kk HXl.out hsl)
  have Pcl : Hid (∀ g, (.slice (some ⟨w5.heap.size, 0, none⟩) nl nl : Value).ownBlock = some g → w5.heap.size ≤ g ∧ g < w6.heap.size) := Lib.hid (fun g h => Fcl_6.out.lt g h)
  clear kk hb
  go_wp2_with fail
  refine (eqArcS_same _ _ _ _ _ l _ (Lib.hid (own_alies HXl.out Fxl_6.out)) (Lib.hid (own_alies HXl.out Fcl_6.out)) HXl (by omega)).mono ?_
  rintro e w7 ⟨rfl, hb⟩
  have S7 := Lib.hid (hb.size)
  have B7 := Lib.hid (Below.tr B6.out hb)
  have Fw0_7 := Lib.hid (own_below Fw0_6.out hb)
  clear Fw0_6
  have Fxl_7 := Lib.hid (own_below Fxl_6.out hb)
  clear Fxl_6
  have Fg0_7 := Lib.hid (own_below Fg0_6.out hb)
  clear Fg0_6
  have Fcl_7 := Lib.hid (own_below Fcl_6.out hb)
  clear Fcl_6
  clear hb
  clear Fcl_7
  go_wp2_with fail
  refine (markArcS_any _ _ _ _ (acells l) (1) _ Fxl_7 (by omega) (by omega)).mono ?_
  rintro e w8 ⟨rfl, ho, hg⟩
  have hk := Kept.of_grown (S := fun g => (.slice (some ⟨w2.heap.size, 0, none⟩) nl nl : Value).ownBlock = some g) hg (fun g h => h)
  clear hg
  have S8 := Lib.hid (hk.size)
  have B8 := Lib.hid (hk.below B7.out B7.out.size (fun i hi => by have := Pxl.out i hi; have := S1.out; have := S2.out; have := S3.out; have := S4.out; have := S5.out; have := S6.out; have := S7.out; have := S8.out; omega))
  have Fw0_8 := Lib.hid (hk.own Fw0_7.out (fun g h q => by have := Pxl.out g q; have := Pw0.out g h; have := S1.out; have := S2.out; have := S3.out; have := S4.out; have := S5.out; have := S6.out; have := S7.out; have := S8.out; omega))
  clear Fw0_7
  have Fg0_8 := Lib.hid (hk.own Fg0_7.out (fun g h q => by have := Pxl.out g q; have := Pg0.out g h; have := S1.out; have := S2.out; have := S3.out; have := S4.out; have := S5.out; have := S6.out; have := S7.out; have := S8.out; omega))
  clear Fg0_7
  clear ho hk
  clear Fxl_7
  have hnegk : decide (1 + (nl : Int) * 2 < 0) = false := by simp; omega
  go_wp2_with fail
  refine (eqIntS_same _ _ _ _ _ r0 _ (Lib.hid (own_ilies Fg0_8.out)) (Lib.hid (own_ilies Fw0_8.out)) (Lib.hid rfl) (by omega)).mono ?_
  rintro e w9 ⟨rfl, hb⟩
  have S9 := Lib.hid (hb.size)
  have B9 := Lib.hid (Below.tr B8.out hb)
  have Fw0_9 := Lib.hid (own_below Fw0_8.out hb)
  clear Fw0_8
  have Fg0_9 := Lib.hid (own_below Fg0_8.out hb)
  clear Fg0_8
  clear hb
  go_wp2_with fail
  refine (markIntS_any _ _ _ _ r0 (1) _ Fg0_9 (by omega) (by omega)).mono ?_
  rintro e w10 ⟨rfl, ho, hg⟩
  have hk := Kept.of_grown (S := fun g => (.slice Ag0 r0.length cg0 : Value).ownBlock = some g) hg (fun g h => h)
  clear hg
  have S10 := Lib.hid (hk.size)
  have B10 := Lib.hid (hk.below B9.out B9.out.size (fun i hi => by have := Pg0.out i hi; have := S1.out; have := S2.out; have := S3.out; have := S4.out; have := S5.out; have := S6.out; have := S7.out; have := S8.out; have := S9.out; have := S10.out; omega))
  have Fw0_10 := Lib.hid (hk.own Fw0_9.out (fun g h q => by have := Pg0.out g q; have := Pw0.out g h; have := S1.out; have := S2.out; have := S3.out; have := S4.out; have := S5.out; have := S6.out; have := S7.out; have := S8.out; have := S9.out; have := S10.out; omega))
  clear Fw0_9
  clear Fg0_9
  have Fg0_10 := Lib.hid ho
  clear ho hk
  have hnegm : decide (1 + (r0.length : Int) < 0) = false := by simp; omega
  have heqm : ((1 + (r0.length : Int) : Int) != (1 + (r0.length : Int) : Int)) = false := by simp
  go_wp2_with fail
  refine (heldIntS_any _ _ _ (1) _ (Lib.hid (own_ilies Fg0_10.out)) (by omega) (by omega)).mono ?_
  rintro e w' ⟨rfl, rfl⟩
  go_wp2_with fail
  refine (toArcS_any _ _ _ l _ (Lib.hid (HLl.out.below B10.out)) HXl hsl).mono ?_
  rintro e w11 ⟨rfl, kk, hb⟩
  have S11 := Lib.hid (hb.size)
  have B11 := Lib.hid (Below.tr B10.out hb)
  have Fw0_11 := Lib.hid (own_below Fw0_10.out hb)
  clear Fw0_10
  have Fg0_11 := Lib.hid (own_below Fg0_10.out hb)
  clear Fg0_10
  have Fyl_11 := Lib.hid (own_of_ablk kk HXl.out hsl)
  have Pyl : Hid (∀ g, (.slice (some ⟨w10.heap.size, 0, none⟩) nl nl : Value).ownBlock = some g → w10.heap.size ≤ g ∧ g < w11.heap.size) := Lib.hid (fun g h => Fyl_11.out.lt g h)
  clear kk hb
  go_wp2_with fail
  refine (implReach_any s f t _ _ _ l _ r0 r1 HR (Lib.hid (own_alies HXl.out Fyl_11.out)) HXl hsl).mono ?_
  rintro e w12 ⟨Ah0, ch0, rfl, ho0, hb⟩
  have S12 := Lib.hid (hb.size)
  have B12 := Lib.hid (Below.tr B11.out hb)
  have Fw0_12 := Lib.hid (own_below Fw0_11.out hb)
  clear Fw0_11
  have Fg0_12 := Lib.hid (own_below Fg0_11.out hb)
  clear Fg0_11
  have Fyl_12 := Lib.hid (own_below Fyl_11.out hb)
  clear Fyl_11
  have Fh0_12 := Lib.hid (ho0)
  have Ph0 : Hid (∀ g, (.slice Ah0 r0.length ch0 : Value).ownBlock = some g → w11.heap.size ≤ g ∧ g < w12.heap.size) := Lib.hid (fun g h => Fh0_12.out.lt g h)
  clear hb ho0
  clear Fyl_12
  go_wp2_with fail
  refine (eqIntS_same _ _ _ _ _ r0 _ (Lib.hid (own_ilies Fh0_12.out)) (Lib.hid (own_ilies Fw0_12.out)) (Lib.hid rfl) (by omega)).mono ?_
  rintro e w13 ⟨rfl, hb⟩
  have S13 := Lib.hid (hb.size)
  have B13 := Lib.hid (Below.tr B12.out hb)
  have Fw0_13 := Lib.hid (own_below Fw0_12.out hb)
  clear Fw0_12
  have Fg0_13 := Lib.hid (own_below Fg0_12.out hb)
  clear Fg0_12
  have Fh0_13 := Lib.hid (own_below Fh0_12.out hb)
  clear Fh0_12
  clear hb
  clear Fh0_13
  clear Fw0_13
  go_wp2_with fail
  refine (heldIntS_any _ _ _ (1) _ (Lib.hid (own_ilies Fg0_13.out)) (by omega) (by omega)).mono ?_
  rintro e w' ⟨rfl, rfl⟩
  go_wp2
  go_ret
  exact ⟨rfl, B13.out⟩
end Go.Proofs.Ytbmmajdacebncaa
