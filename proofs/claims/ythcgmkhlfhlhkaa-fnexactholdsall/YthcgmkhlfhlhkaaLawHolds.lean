/-
  The walk of the law of Holds.
-/
import Derived.Test.YthcgmkhlfhlhkaaHolds
namespace Go.Proofs.Ythcgmkhlfhlhkaa
open Go.ChangeShapes Go.WideShapes Go.ChangeAt Go.RowKit

set_option maxRecDepth 100000 in
set_option maxHeartbeats 4000000 in
theorem lawHolds (v : Int) (Al : Option Addr) (capl : Nat) (l : List (List Int)) (Am : Option Addr) (capm : Nat) (m : List Bool) (w : World) (hnl : l.length ≤ 9223372036854775807) (hll : LLies w Al l) (hnm : m.length ≤ 9223372036854775807) (hlm : BLies w Am m) :
    Calls Try.prog 6 #[.int .i64 v, .slice Al l.length capl, .slice Am m.length capm] w fun e w' => e = .returned (.bool true) ∧ Below w.heap.size w w' := by
  obtain ⟨nl, hxl⟩ : ∃ n, l.length = n := ⟨_, rfl⟩
  rw [hxl] at hnl ⊢
  have HXl := Lib.hid hxl
  have HLl := Lib.hid hll
  clear hxl hll
  obtain ⟨nm, hxm⟩ : ∃ n, m.length = n := ⟨_, rfl⟩
  rw [hxm] at hnm ⊢
  have HXm := Lib.hid hxm
  have HLm := Lib.hid hlm
  clear hxm hlm
  by_cases hbm : 1048576 < nm
  · go_enter Try.func6, Try.ntmps6
    go_wp2
    go_ret
    exact ⟨rfl, Below.refl _ _⟩
  have hsm : nm ≤ 1048576 := by omega
  go_enter Try.func6, Try.ntmps6
  go_wp2_with fail
  refine (szIntSS_any _ _ _ l _ 1048576 HLl HXl hnl (by omega) (by omega)).mono ?_
  rintro e w' ⟨⟨ql, rfl, hql⟩, rfl⟩
  by_cases hnegl : ql < 0
  · clear hql
    go_wp2
    go_ret
    exact ⟨rfl, Below.refl _ _⟩
  have hqql : ql = 1048576 - (nl : Int) - (tot l : Int) := by omega
  have hsl : nl ≤ 1048576 := by omega
  have htl : tot l ≤ 1048576 := by omega
  have HTl : Hid (tot l ≤ 1048576) := Lib.hid htl
  clear hql
  obtain ⟨r0, r1, hr⟩ : ∃ r0 r1, HoldR v l m r0 r1 := ⟨_, _, rfl, rfl⟩
  have HR := Lib.hid hr
  clear hr
  go_wp2_with fail
  refine (toIntSS_any _ _ _ l _ (HLl.out.below (Below.refl _ _)) HXl hsl HTl).mono ?_
  rintro e w1 ⟨rfl, ⟨vssl, kk⟩, hb⟩
  have S1 := Lib.hid (hb.size)
  have B1 := Lib.hid (Below.tr (Below.refl _ _) hb)
  have Fsl_1 := Lib.hid (kk)
  have Psl : Hid (∀ g, ((.slice (some ⟨w.heap.size, 0, none⟩) nl nl : Value).ownBlock = some g ∨ blks vssl g) → w.heap.size ≤ g ∧ g < w1.heap.size) := Lib.hid (fun g h => h.elim (fun h => Fsl_1.out.outer.lt g h) (fun h => Fsl_1.out.inner.lt g h))
  clear kk hb
  go_wp2_with fail
  refine (toBoolS_any _ _ _ m _ (HLm.out.below B1.out) HXm hsm).mono ?_
  rintro e w2 ⟨rfl, kk, hb⟩
  have S2 := Lib.hid (hb.size)
  have B2 := Lib.hid (Below.tr B1.out hb)
  have Fsl_2 := Lib.hid (Fsl_1.out.below hb)
  clear Fsl_1
  have Fsm_2 := Lib.hid (own_of_vblk kk (by simpa using HXm.out) hsm)
  have Psm : Hid (∀ g, (.slice (some ⟨w1.heap.size, 0, none⟩) nm nm : Value).ownBlock = some g → w1.heap.size ≤ g ∧ g < w2.heap.size) := Lib.hid (fun g h => Fsm_2.out.lt g h)
  clear kk hb
  go_wp2_with fail
  refine (specHolds_any v _ _ _ _ _ _ l m _ r0 r1 HR Fsl_2.out.lies (own_blies Fsm_2.out) HXl HXm hnl).mono ?_
  rintro e w3 ⟨rfl, hb⟩
  have S3 := Lib.hid (hb.size)
  have B3 := Lib.hid (Below.tr B2.out hb)
  have Fsl_3 := Lib.hid (Fsl_2.out.below hb)
  clear Fsl_2
  have Fsm_3 := Lib.hid (own_below Fsm_2.out hb)
  clear Fsm_2
  clear hb
  clear Fsl_3
  clear Fsm_3
  go_wp2_with fail
  refine (toIntSS_any _ _ _ l _ (HLl.out.below B3.out) HXl hsl HTl).mono ?_
  rintro e w4 ⟨rfl, ⟨vsxl, kk⟩, hb⟩
  have S4 := Lib.hid (hb.size)
  have B4 := Lib.hid (Below.tr B3.out hb)
  have Fxl_4 := Lib.hid (kk)
  have Pxl : Hid (∀ g, ((.slice (some ⟨w3.heap.size, 0, none⟩) nl nl : Value).ownBlock = some g ∨ blks vsxl g) → w3.heap.size ≤ g ∧ g < w4.heap.size) := Lib.hid (fun g h => h.elim (fun h => Fxl_4.out.outer.lt g h) (fun h => Fxl_4.out.inner.lt g h))
  clear kk hb
  go_wp2_with fail
  refine (toBoolS_any _ _ _ m _ (HLm.out.below B4.out) HXm hsm).mono ?_
  rintro e w5 ⟨rfl, kk, hb⟩
  have S5 := Lib.hid (hb.size)
  have B5 := Lib.hid (Below.tr B4.out hb)
  have Fxl_5 := Lib.hid (Fxl_4.out.below hb)
  clear Fxl_4
  have Fxm_5 := Lib.hid (own_of_vblk kk (by simpa using HXm.out) hsm)
  have Pxm : Hid (∀ g, (.slice (some ⟨w4.heap.size, 0, none⟩) nm nm : Value).ownBlock = some g → w4.heap.size ≤ g ∧ g < w5.heap.size) := Lib.hid (fun g h => Fxm_5.out.lt g h)
  clear kk hb
  go_wp2_with fail
  refine (implHolds_any v _ _ _ _ _ _ l m _ r0 r1 HR Fxl_5.out.lies (own_blies Fxm_5.out) HXl HXm hnl).mono ?_
  rintro e w6 ⟨rfl, hb⟩
  have S6 := Lib.hid (hb.size)
  have B6 := Lib.hid (Below.tr B5.out hb)
  have Fxl_6 := Lib.hid (Fxl_5.out.below hb)
  clear Fxl_5
  have Fxm_6 := Lib.hid (own_below Fxm_5.out hb)
  clear Fxm_5
  clear hb
  have hb0 : (r0 != r0) = false := by simp
  have hb1 : (r1 != r1) = false := by simp
  go_wp2_with fail
  refine (toIntSS_any _ _ _ l _ (HLl.out.below B6.out) HXl hsl HTl).mono ?_
  rintro e w7 ⟨rfl, ⟨vscl, kk⟩, hb⟩
  have S7 := Lib.hid (hb.size)
  have B7 := Lib.hid (Below.tr B6.out hb)
  have Fxl_7 := Lib.hid (Fxl_6.out.below hb)
  clear Fxl_6
  have Fxm_7 := Lib.hid (own_below Fxm_6.out hb)
  clear Fxm_6
  have Fcl_7 := Lib.hid (kk)
  have Pcl : Hid (∀ g, ((.slice (some ⟨w6.heap.size, 0, none⟩) nl nl : Value).ownBlock = some g ∨ blks vscl g) → w6.heap.size ≤ g ∧ g < w7.heap.size) := Lib.hid (fun g h => h.elim (fun h => Fcl_7.out.outer.lt g h) (fun h => Fcl_7.out.inner.lt g h))
  clear kk hb
  go_wp2_with fail
  refine (eqIntSS_same _ _ _ _ _ l _ Fxl_7.out.lies Fcl_7.out.lies HXl (by omega) (Lib.hid (by omega))).mono ?_
  rintro e w8 ⟨rfl, hb⟩
  have S8 := Lib.hid (hb.size)
  have B8 := Lib.hid (Below.tr B7.out hb)
  have Fxl_8 := Lib.hid (Fxl_7.out.below hb)
  clear Fxl_7
  have Fxm_8 := Lib.hid (own_below Fxm_7.out hb)
  clear Fxm_7
  have Fcl_8 := Lib.hid (Fcl_7.out.below hb)
  clear Fcl_7
  clear hb
  clear Fcl_8
  go_wp2_with fail
  refine (toBoolS_any _ _ _ m _ (HLm.out.below B8.out) HXm hsm).mono ?_
  rintro e w9 ⟨rfl, kk, hb⟩
  have S9 := Lib.hid (hb.size)
  have B9 := Lib.hid (Below.tr B8.out hb)
  have Fxl_9 := Lib.hid (Fxl_8.out.below hb)
  clear Fxl_8
  have Fxm_9 := Lib.hid (own_below Fxm_8.out hb)
  clear Fxm_8
  have Fcm_9 := Lib.hid (own_of_vblk kk (by simpa using HXm.out) hsm)
  have Pcm : Hid (∀ g, (.slice (some ⟨w8.heap.size, 0, none⟩) nm nm : Value).ownBlock = some g → w8.heap.size ≤ g ∧ g < w9.heap.size) := Lib.hid (fun g h => Fcm_9.out.lt g h)
  clear kk hb
  go_wp2_with fail
  refine (eqBoolS_same _ _ _ _ _ m _ (own_blies Fxm_9.out) (own_blies Fcm_9.out) HXm (by omega)).mono ?_
  rintro e w10 ⟨rfl, hb⟩
  have S10 := Lib.hid (hb.size)
  have B10 := Lib.hid (Below.tr B9.out hb)
  have Fxl_10 := Lib.hid (Fxl_9.out.below hb)
  clear Fxl_9
  have Fxm_10 := Lib.hid (own_below Fxm_9.out hb)
  clear Fxm_9
  have Fcm_10 := Lib.hid (own_below Fcm_9.out hb)
  clear Fcm_9
  clear hb
  clear Fcm_10
  go_wp2
  go_ret
  exact ⟨rfl, B10.out⟩
end Go.Proofs.Ythcgmkhlfhlhkaa
