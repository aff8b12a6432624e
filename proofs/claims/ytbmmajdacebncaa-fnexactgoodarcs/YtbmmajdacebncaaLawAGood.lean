/-
  The walk of the law of AGood.
-/
import Derived.Test.YtbmmajdacebncaaAc2
import Derived.Test.YtbmmajdacebncaaAcLaw
namespace Go.Proofs.Ytbmmajdacebncaa
open Go.ChangeShapes Go.WideShapes Go.ChangeAt Go.RowKit

set_option maxRecDepth 100000 in
set_option maxHeartbeats 8000000 in
theorem lawAGood (s : Int) (Al : Option Addr) (capl : Nat) (l : AL) (w : World) (hnl : l.length ≤ 9223372036854775807) (hll : ALies w Al l) :
    Calls Try.prog 5 #[.int .i64 s, .slice Al l.length capl] w fun e w' => e = .returned (.bool true) ∧ Below w.heap.size w w' := by
  obtain ⟨nl, hxl⟩ : ∃ n, l.length = n := ⟨_, rfl⟩
  rw [hxl] at hnl ⊢
  have HXl := Lib.hid hxl
  have HLl := Lib.hid hll
  clear hxl hll
  go_enter Try.func5, Try.ntmps5
  go_wp2_with fail
  refine (szArcS_any Al nl capl 1048576 _ hnl (by omega) (by omega)).mono ?_
  rintro e w' ⟨rfl, rfl⟩
  by_cases hnegl : 1048576 - (nl : Int) < 0
  · have hszl : szF 1048576 nl = -1 := if_pos (by omega)
    rw [hszl]
    go_wp2
    go_ret
    exact ⟨rfl, Below.refl _ _⟩
  have hszl : szF 1048576 nl = 1048576 - nl := if_neg (by omega)
  rw [hszl]
  clear hszl
  have hsl : nl ≤ 1048576 := by omega
  obtain ⟨r0, hr0⟩ : ∃ b, goodAB s l = b := ⟨_, rfl⟩
  have HR := Lib.hid hr0
  clear hr0
  go_wp2_with fail
  refine (toArcS_any _ _ _ l _ (Lib.hid (HLl.out.below (Below.refl _ _))) HXl hsl).mono ?_
  rintro e w1 ⟨rfl, kk, hb⟩
  have S1 := Lib.hid (hb.size)
  have B1 := Lib.hid (Below.tr (Below.refl _ _) hb)
  have Fsl_1 := Lib.hid (own_of_ablk kk HXl.out hsl)
  have Psl : Hid (∀ g, (.slice (some ⟨w.heap.size, 0, none⟩) nl nl : Value).ownBlock = some g → w.heap.size ≤ g ∧ g < w1.heap.size) := Lib.hid (fun g h => Fsl_1.out.lt g h)
  clear kk hb
  go_wp2_with fail
  refine (specGoodA_any s _ _ _ l _ r0 HR (Lib.hid (own_alies HXl.out Fsl_1.out)) HXl hsl).mono ?_
  rintro e w2 ⟨rfl, hb⟩
  have S2 := Lib.hid (hb.size)
  have B2 := Lib.hid (Below.tr B1.out hb)
  have Fsl_2 := Lib.hid (own_below Fsl_1.out hb)
  clear Fsl_1
  clear hb
  clear Fsl_2
  go_wp2_with fail
  refine (toArcS_any _ _ _ l _ (Lib.hid (HLl.out.below B2.out)) HXl hsl).mono ?_
  rintro e w3 ⟨rfl, kk, hb⟩
  have S3 := Lib.hid (hb.size)
  have B3 := Lib.hid (Below.tr B2.out hb)
  have Fxl_3 := Lib.hid (own_of_ablk kk HXl.out hsl)
  have Pxl : Hid (∀ g, (.slice (some ⟨w2.heap.size, 0, none⟩) nl nl : Value).ownBlock = some g → w2.heap.size ≤ g ∧ g < w3.heap.size) := Lib.hid (fun g h => Fxl_3.out.lt g h)
  clear kk hb
  go_wp2_with fail
  refine (implGoodA_any s _ _ _ l _ r0 HR (Lib.hid (own_alies HXl.out Fxl_3.out)) HXl hsl).mono ?_
  rintro e w4 ⟨rfl, hb⟩
  have S4 := Lib.hid (hb.size)
  have B4 := Lib.hid (Below.tr B3.out hb)
  have Fxl_4 := Lib.hid (own_below Fxl_3.out hb)
  clear Fxl_3
  clear hb
  have hb0 : (r0 != r0) = false := by simp
  go_wp2_with fail
  refine (toArcS_any _ _ _ l _ (Lib.hid (HLl.out.below B4.out)) HXl hsl).mono ?_
  rintro e w5 ⟨rfl, kk, hb⟩
  have S5 := Lib.hid (hb.size)
  have B5 := Lib.hid (Below.tr B4.out hb)
  have Fxl_5 := Lib.hid (own_below Fxl_4.out hb)
  clear Fxl_4
  have Fcl_5 := Lib.hid (own_of_ablk kk HXl.out hsl)
  have Pcl : Hid (∀ g, (.slice (some ⟨w4.heap.size, 0, none⟩) nl nl : Value).ownBlock = some g → w4.heap.size ≤ g ∧ g < w5.heap.size) := Lib.hid (fun g h => Fcl_5.out.lt g h)
  clear kk hb
  go_wp2_with fail
  refine (eqArcS_same _ _ _ _ _ l _ (Lib.hid (own_alies HXl.out Fxl_5.out)) (Lib.hid (own_alies HXl.out Fcl_5.out)) HXl (by omega)).mono ?_
  rintro e w6 ⟨rfl, hb⟩
  have S6 := Lib.hid (hb.size)
  have B6 := Lib.hid (Below.tr B5.out hb)
  have Fxl_6 := Lib.hid (own_below Fxl_5.out hb)
  clear Fxl_5
  have Fcl_6 := Lib.hid (own_below Fcl_5.out hb)
  clear Fcl_5
  clear hb
  clear Fcl_6
  go_wp2
  go_ret
  exact ⟨rfl, B6.out⟩
end Go.Proofs.Ytbmmajdacebncaa
