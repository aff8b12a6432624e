/-
  The walk of the law of IsAt.
-/
import Derived.Test.YtkkoeeoalkjhoaaOnce
namespace Go.Proofs.Ytkkoeeoalkjhoaa
open Go.ChangeShapes Go.WideShapes Go.ChangeAt Go.RowKit

set_option maxRecDepth 100000 in
set_option maxHeartbeats 4000000 in
theorem lawIsAt (v : Int) (Al : Option Addr) (capl : Nat) (l : List (List Int)) (Ac : Option Addr) (capc : Nat) (c : List Int) (w : World) (hnl : l.length ≤ 9223372036854775807) (hll : LLies w Al l) (hnc : c.length ≤ 9223372036854775807) (hlc : ILies w Ac c) :
    Calls Try.prog 5 #[.int .i64 v, .slice Al l.length capl, .slice Ac c.length capc] w fun e w' => e = .returned (.bool true) ∧ Below w.heap.size w w' := by
  obtain ⟨nl, hxl⟩ : ∃ n, l.length = n := ⟨_, rfl⟩
  rw [hxl] at hnl ⊢
  have HXl := Lib.hid hxl
  have HLl := Lib.hid hll
  clear hxl hll
  obtain ⟨nc, hxc⟩ : ∃ n, c.length = n := ⟨_, rfl⟩
  rw [hxc] at hnc ⊢
  have HXc := Lib.hid hxc
  have HLc := Lib.hid hlc
  clear hxc hlc
  by_cases hbc : 1048576 < nc
  · go_enter Try.func5, Try.ntmps5
    go_wp2
    go_ret
    exact ⟨rfl, Below.refl _ _⟩
  have hsc : nc ≤ 1048576 := by omega
  go_enter Try.func5, Try.ntmps5
  go_wp2_with fail
  refine (szIntSS_any _ _ _ l _ 1048576 HLl HXl hnl (by omega) (by omega)).mono ?_
  rintro e w' ⟨⟨ql, rfl, hql⟩, rfl⟩
  by_cases hnegl : ql < 0
  · clear hql
    go_wp2
    go_ret
    exact ⟨rfl, Below.refl _ _⟩
  have hqql : ql = 1048576 - (nl : Int) - (tot l : Int) := by omega
  have hsl : nl ≤ 1048576 := by omega
  have htl : tot l ≤ 1048576 := by omega
  have HTl : Hid (tot l ≤ 1048576) := Lib.hid htl
  have hlol : 0 ≤ ql := by omega
  have hhil : ql ≤ 1048576 := by omega
  clear hql hqql
  obtain ⟨r0, r1, hr⟩ := atR_any v l c
  have HR := Lib.hid hr
  clear hr
  go_wp2_with fail
  refine (toIntSS_any _ _ _ l _ (HLl.out.below (Below.refl _ _)) HXl hsl HTl).mono ?_
  rintro e w1 ⟨rfl, ⟨vssl, kk⟩, hb⟩
  have S1 := Lib.hid (hb.size)
  have B1 := Lib.hid (Below.tr (Below.refl _ _) hb)
  have Fsl_1 := Lib.hid (kk)
  have Psl : Hid (∀ g, ((.slice (some ⟨w.heap.size, 0, none⟩) nl nl : Value).ownBlock = some g ∨ blks vssl g) → w.heap.size ≤ g ∧ g < w1.heap.size) := Lib.hid (fun g h => h.elim (fun h => Fsl_1.out.outer.lt g h) (fun h => Fsl_1.out.inner.lt g h))
  clear kk hb
  go_wp2_with fail
  refine (toIntS_any _ _ _ c _ (HLc.out.below B1.out) HXc hsc).mono ?_
  rintro e w2 ⟨rfl, kk, hb⟩
  have S2 := Lib.hid (hb.size)
  have B2 := Lib.hid (Below.tr B1.out hb)
  have Fsl_2 := Lib.hid (Fsl_1.out.below hb)
  clear Fsl_1
  have Fsc_2 := Lib.hid (own_of_vblk kk (by simpa using HXc.out) hsc)
  have Psc : Hid (∀ g, (.slice (some ⟨w1.heap.size, 0, none⟩) nc nc : Value).ownBlock = some g → w1.heap.size ≤ g ∧ g < w2.heap.size) := Lib.hid (fun g h => Fsc_2.out.lt g h)
  clear kk hb
  go_wp2_with fail
  refine (specIsAt_any v _ _ _ _ _ _ l c _ r0 r1 HR Fsl_2.out.lies (own_ilies Fsc_2.out) HXl HXc hnl hnc (Nat.le_refl _)).mono ?_
  rintro e w3 ⟨rfl, hb⟩
  have S3 := Lib.hid (hb.size)
  have B3 := Lib.hid (Below.tr B2.out hb)
  have Fsl_3 := Lib.hid (Fsl_2.out.below hb)
  clear Fsl_2
  have Fsc_3 := Lib.hid (own_below Fsc_2.out hb)
  clear Fsc_2
  clear hb
  clear Fsl_3
  clear Fsc_3
  go_wp2_with fail
  refine (toIntSS_any _ _ _ l _ (HLl.out.below B3.out) HXl hsl HTl).mono ?_
  rintro e w4 ⟨rfl, ⟨vsxl, kk⟩, hb⟩
  have S4 := Lib.hid (hb.size)
  have B4 := Lib.hid (Below.tr B3.out hb)
  have Fxl_4 := Lib.hid (kk)
  have Pxl : Hid (∀ g, ((.slice (some ⟨w3.heap.size, 0, none⟩) nl nl : Value).ownBlock = some g ∨ blks vsxl g) → w3.heap.size ≤ g ∧ g < w4.heap.size) := Lib.hid (fun g h => h.elim (fun h => Fxl_4.out.outer.lt g h) (fun h => Fxl_4.out.inner.lt g h))
  clear kk hb
  go_wp2_with fail
  refine (toIntS_any _ _ _ c _ (HLc.out.below B4.out) HXc hsc).mono ?_
  rintro e w5 ⟨rfl, kk, hb⟩
  have S5 := Lib.hid (hb.size)
  have B5 := Lib.hid (Below.tr B4.out hb)
  have Fxl_5 := Lib.hid (Fxl_4.out.below hb)
  clear Fxl_4
  have Fxc_5 := Lib.hid (own_of_vblk kk (by simpa using HXc.out) hsc)
  have Pxc : Hid (∀ g, (.slice (some ⟨w4.heap.size, 0, none⟩) nc nc : Value).ownBlock = some g → w4.heap.size ≤ g ∧ g < w5.heap.size) := Lib.hid (fun g h => Fxc_5.out.lt g h)
  clear kk hb
  go_wp2_with fail
  refine (implIsAt_any v _ _ _ _ _ _ l c _ r0 r1 HR Fxl_5.out.lies (own_ilies Fxc_5.out) HXl HXc hnl hnc).mono ?_
  rintro e w6 ⟨rfl, hb⟩
  have S6 := Lib.hid (hb.size)
  have B6 := Lib.hid (Below.tr B5.out hb)
  have Fxl_6 := Lib.hid (Fxl_5.out.below hb)
  clear Fxl_5
  have Fxc_6 := Lib.hid (own_below Fxc_5.out hb)
  clear Fxc_5
  clear hb
  have hb0 : (r0 != r0) = false := by simp
  have hb1 : (r1 != r1) = false := by simp
  go_wp2_with fail
  refine (toIntSS_any _ _ _ l _ (HLl.out.below B6.out) HXl hsl HTl).mono ?_
  rintro e w7 ⟨rfl, ⟨vscl, kk⟩, hb⟩
  have S7 := Lib.hid (hb.size)
  have B7 := Lib.hid (Below.tr B6.out hb)
  have Fxl_7 := Lib.hid (Fxl_6.out.below hb)
  clear Fxl_6
  have Fxc_7 := Lib.hid (own_below Fxc_6.out hb)
  clear Fxc_6
  have Fcl_7 := Lib.hid (kk)
  have Pcl : Hid (∀ g, ((.slice (some ⟨w6.heap.size, 0, none⟩) nl nl : Value).ownBlock = some g ∨ blks vscl g) → w6.heap.size ≤ g ∧ g < w7.heap.size) := Lib.hid (fun g h => h.elim (fun h => Fcl_7.out.outer.lt g h) (fun h => Fcl_7.out.inner.lt g h))
  clear kk hb
  go_wp2_with fail
  refine (eqIntSS_same _ _ _ _ _ l _ Fxl_7.out.lies Fcl_7.out.lies HXl (by omega) (Lib.hid (by omega))).mono ?_
  rintro e w8 ⟨rfl, hb⟩
  have S8 := Lib.hid (hb.size)
  have B8 := Lib.hid (Below.tr B7.out hb)
  have Fxl_8 := Lib.hid (Fxl_7.out.below hb)
  clear Fxl_7
  have Fxc_8 := Lib.hid (own_below Fxc_7.out hb)
  clear Fxc_7
  have Fcl_8 := Lib.hid (Fcl_7.out.below hb)
  clear Fcl_7
  clear hb
  clear Fcl_8
  go_wp2_with fail
  refine (toIntS_any _ _ _ c _ (HLc.out.below B8.out) HXc hsc).mono ?_
  rintro e w9 ⟨rfl, kk, hb⟩
  have S9 := Lib.hid (hb.size)
  have B9 := Lib.hid (Below.tr B8.out hb)
  have Fxl_9 := Lib.hid (Fxl_8.out.below hb)
  clear Fxl_8
  have Fxc_9 := Lib.hid (own_below Fxc_8.out hb)
  clear Fxc_8
  have Fcc_9 := Lib.hid (own_of_vblk kk (by simpa using HXc.out) hsc)
  have Pcc : Hid (∀ g, (.slice (some ⟨w8.heap.size, 0, none⟩) nc nc : Value).ownBlock = some g → w8.heap.size ≤ g ∧ g < w9.heap.size) := Lib.hid (fun g h => Fcc_9.out.lt g h)
  clear kk hb
  go_wp2_with fail
  refine (eqIntS_same _ _ _ _ _ c _ (own_ilies Fxc_9.out) (own_ilies Fcc_9.out) HXc (by omega)).mono ?_
  rintro e w10 ⟨rfl, hb⟩
  have S10 := Lib.hid (hb.size)
  have B10 := Lib.hid (Below.tr B9.out hb)
  have Fxl_10 := Lib.hid (Fxl_9.out.below hb)
  clear Fxl_9
  have Fxc_10 := Lib.hid (own_below Fxc_9.out hb)
  clear Fxc_9
  have Fcc_10 := Lib.hid (own_below Fcc_9.out hb)
  clear Fcc_9
  clear hb
  clear Fcc_10
  go_wp2
  go_ret
  exact ⟨rfl, B10.out⟩
end Go.Proofs.Ytkkoeeoalkjhoaa
