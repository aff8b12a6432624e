/-
  The walk of the law of AIsW.
-/
import Derived.Test.YtbmmajdacebncaaAc5
import Derived.Test.YtbmmajdacebncaaAcLaw
namespace Go.Proofs.Ytbmmajdacebncaa
open Go.ChangeShapes Go.WideShapes Go.ChangeAt Go.RowKit

set_option maxRecDepth 100000 in
set_option maxHeartbeats 8000000 in
theorem lawAIsW (s : Int) (Al : Option Addr) (capl : Nat) (l : AL) (Ak : Option Addr) (capk : Nat) (k : List Int) (w : World) (hnl : l.length ≤ 9223372036854775807) (hll : ALies w Al l) (hnk : k.length ≤ 9223372036854775807) (hlk : ILies w Ak k) :
    Calls Try.prog 7 #[.int .i64 s, .slice Al l.length capl, .slice Ak k.length capk] w fun e w' => e = .returned (.bool true) ∧ Below w.heap.size w w' := by
  obtain ⟨nl, hxl⟩ : ∃ n, l.length = n := ⟨_, rfl⟩
  rw [hxl] at hnl ⊢
  have HXl := Lib.hid hxl
  have HLl := Lib.hid hll
  clear hxl hll
  obtain ⟨nk, hxk⟩ : ∃ n, k.length = n := ⟨_, rfl⟩
  rw [hxk] at hnk ⊢
  have HXk := Lib.hid hxk
  have HLk := Lib.hid hlk
  clear hxk hlk
  by_cases hbk : 1048576 < nk
  · go_enter Try.func7, Try.ntmps7
    go_wp2
    go_ret
    exact ⟨rfl, Below.refl _ _⟩
  have hsk : nk ≤ 1048576 := by omega
  go_enter Try.func7, Try.ntmps7
  go_wp2_with fail
  refine (szArcS_any Al nl capl 1048576 _ hnl (by omega) (by omega)).mono ?_
  rintro e w' ⟨rfl, rfl⟩
  by_cases hnegl : 1048576 - (nl : Int) < 0
  · have hszl : szF 1048576 nl = -1 := if_pos (by omega)
    rw [hszl]
    go_wp2
    go_ret
    exact ⟨rfl, Below.refl _ _⟩
  have hszl : szF 1048576 nl = 1048576 - nl := if_neg (by omega)
  rw [hszl]
  clear hszl
  have hsl : nl ≤ 1048576 := by omega
  obtain ⟨⟨r0, r1⟩, hr⟩ : ∃ x, rIsW s l k = x := ⟨_, rfl⟩
  have HR := Lib.hid hr
  clear hr
  go_wp2_with fail
  refine (toArcS_any _ _ _ l _ (Lib.hid (HLl.out.below (Below.refl _ _))) HXl hsl).mono ?_
  rintro e w1 ⟨rfl, kk, hb⟩
  have S1 := Lib.hid (hb.size)
  have B1 := Lib.hid (Below.tr (Below.refl _ _) hb)
  have Fsl_1 := Lib.hid (own_of_ablk kk HXl.out hsl)
  have Psl : Hid (∀ g, (.slice (some ⟨w.heap.size, 0, none⟩) nl nl : Value).ownBlock = some g → w.heap.size ≤ g ∧ g < w1.heap.size) := Lib.hid (fun g h => Fsl_1.out.lt g h)
  clear kk hb
  go_wp2_with fail
  refine (toIntS_any _ _ _ k _ (Lib.hid (HLk.out.below B1.out)) HXk hsk).mono ?_
  rintro e w2 ⟨rfl, kk, hb⟩
  have S2 := Lib.hid (hb.size)
  have B2 := Lib.hid (Below.tr B1.out hb)
  have Fsl_2 := Lib.hid (own_below Fsl_1.out hb)
  clear Fsl_1
  have Fsk_2 := Lib.hid (own_of_vblk kk (by simpa using HXk.out) hsk)
  have Psk : Hid (∀ g, (.slice (some ⟨w1.heap.size, 0, none⟩) nk nk : Value).ownBlock = some g → w1.heap.size ≤ g ∧ g < w2.heap.size) := Lib.hid (fun g h => Fsk_2.out.lt g h)
  clear kk hb
  go_wp2_with fail
  refine (specIsW_any s _ _ _ _ _ _ l k _ r0 r1 HR (Lib.hid (own_alies HXl.out Fsl_2.out)) HXl hsl (own_ilies Fsk_2.out) HXk hsk).mono ?_
  rintro e w3 ⟨rfl, hb⟩
  have S3 := Lib.hid (hb.size)
  have B3 := Lib.hid (Below.tr B2.out hb)
  have Fsl_3 := Lib.hid (own_below Fsl_2.out hb)
  clear Fsl_2
  have Fsk_3 := Lib.hid (own_below Fsk_2.out hb)
  clear Fsk_2
  clear hb
  clear Fsl_3
  clear Fsk_3
  go_wp2_with fail
  refine (toArcS_any _ _ _ l _ (Lib.hid (HLl.out.below B3.out)) HXl hsl).mono ?_
  rintro e w4 ⟨rfl, kk, hb⟩
  have S4 := Lib.hid (hb.size)
  have B4 := Lib.hid (Below.tr B3.out hb)
  have Fxl_4 := Lib.hid (own_of_ablk kk HXl.out hsl)
  have Pxl : Hid (∀ g, (.slice (some ⟨w3.heap.size, 0, none⟩) nl nl : Value).ownBlock = some g → w3.heap.size ≤ g ∧ g < w4.heap.size) := Lib.hid (fun g h => Fxl_4.out.lt g h)
  clear kk hb
  go_wp2_with fail
  refine (toIntS_any _ _ _ k _ (Lib.hid (HLk.out.below B4.out)) HXk hsk).mono ?_
  rintro e w5 ⟨rfl, kk, hb⟩
  have S5 := Lib.hid (hb.size)
  have B5 := Lib.hid (Below.tr B4.out hb)
  have Fxl_5 := Lib.hid (own_below Fxl_4.out hb)
  clear Fxl_4
  have Fxk_5 := Lib.hid (own_of_vblk kk (by simpa using HXk.out) hsk)
  have Pxk : Hid (∀ g, (.slice (some ⟨w4.heap.size, 0, none⟩) nk nk : Value).ownBlock = some g → w4.heap.size ≤ g ∧ g < w5.heap.size) := Lib.hid (fun g h => Fxk_5.out.lt g h)
  clear kk hb
  go_wp2_with fail
  refine (implIsW_any s _ _ _ _ _ _ l k _ r0 r1 HR (Lib.hid (own_alies HXl.out Fxl_5.out)) HXl hsl (own_ilies Fxk_5.out) HXk hsk (Nat.le_refl _)).mono ?_
  rintro e w6 ⟨rfl, hb⟩
  have S6 := Lib.hid (hb.size)
  have B6 := Lib.hid (Below.tr B5.out hb)
  have Fxl_6 := Lib.hid (own_below Fxl_5.out hb)
  clear Fxl_5
  have Fxk_6 := Lib.hid (own_below Fxk_5.out hb)
  clear Fxk_5
  clear hb
  have hb0 : (r0 != r0) = false := by simp
  have hb1 : (r1 != r1) = false := by simp
  go_wp2_with fail
  refine (toArcS_any _ _ _ l _ (Lib.hid (HLl.out.below B6.out)) HXl hsl).mono ?_
  rintro e w7 ⟨rfl, kk, hb⟩
  have S7 := Lib.hid (hb.size)
  have B7 := Lib.hid (Below.tr B6.out hb)
  have Fxl_7 := Lib.hid (own_below Fxl_6.out hb)
  clear Fxl_6
  have Fxk_7 := Lib.hid (own_below Fxk_6.out hb)
  clear Fxk_6
  have Fcl_7 := Lib.hid (own_of_ablk kk HXl.out hsl)
  have Pcl : Hid (∀ g, (.slice (some ⟨w6.heap.size, 0, none⟩) nl nl : Value).ownBlock = some g → w6.heap.size ≤ g ∧ g < w7.heap.size) := Lib.hid (fun g h => Fcl_7.out.lt g h)
  clear kk hb
  go_wp2_with fail
  refine (eqArcS_same _ _ _ _ _ l _ (Lib.hid (own_alies HXl.out Fxl_7.out)) (Lib.hid (own_alies HXl.out Fcl_7.out)) HXl (by omega)).mono ?_
  rintro e w8 ⟨rfl, hb⟩
  have S8 := Lib.hid (hb.size)
  have B8 := Lib.hid (Below.tr B7.out hb)
  have Fxl_8 := Lib.hid (own_below Fxl_7.out hb)
  clear Fxl_7
  have Fxk_8 := Lib.hid (own_below Fxk_7.out hb)
  clear Fxk_7
  have Fcl_8 := Lib.hid (own_below Fcl_7.out hb)
  clear Fcl_7
  clear hb
  clear Fcl_8
  go_wp2_with fail
  refine (toIntS_any _ _ _ k _ (Lib.hid (HLk.out.below B8.out)) HXk hsk).mono ?_
  rintro e w9 ⟨rfl, kk, hb⟩
  have S9 := Lib.hid (hb.size)
  have B9 := Lib.hid (Below.tr B8.out hb)
  have Fxl_9 := Lib.hid (own_below Fxl_8.out hb)
  clear Fxl_8
  have Fxk_9 := Lib.hid (own_below Fxk_8.out hb)
  clear Fxk_8
  have Fck_9 := Lib.hid (own_of_vblk kk (by simpa using HXk.out) hsk)
  have Pck : Hid (∀ g, (.slice (some ⟨w8.heap.size, 0, none⟩) nk nk : Value).ownBlock = some g → w8.heap.size ≤ g ∧ g < w9.heap.size) := Lib.hid (fun g h => Fck_9.out.lt g h)
  clear kk hb
  go_wp2_with fail
  refine (eqIntS_same _ _ _ _ _ k _ (Lib.hid (own_ilies Fxk_9.out)) (Lib.hid (own_ilies Fck_9.out)) HXk (by omega)).mono ?_
  rintro e w10 ⟨rfl, hb⟩
  have S10 := Lib.hid (hb.size)
  have B10 := Lib.hid (Below.tr B9.out hb)
  have Fxl_10 := Lib.hid (own_below Fxl_9.out hb)
  clear Fxl_9
  have Fxk_10 := Lib.hid (own_below Fxk_9.out hb)
  clear Fxk_9
  have Fck_10 := Lib.hid (own_below Fck_9.out hb)
  clear Fck_9
  clear hb
  clear Fck_10
  go_wp2
  go_ret
  exact ⟨rfl, B10.out⟩
end Go.Proofs.Ytbmmajdacebncaa
