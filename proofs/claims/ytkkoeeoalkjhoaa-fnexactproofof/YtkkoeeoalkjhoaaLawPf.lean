/-
  The walk of the law of Pf.
-/
import Derived.Test.YtkkoeeoalkjhoaaPf
namespace Go.Proofs.Ytkkoeeoalkjhoaa
open Go.ChangeShapes Go.WideShapes Go.ChangeAt Go.RowKit

set_option maxRecDepth 100000 in
set_option maxHeartbeats 4000000 in
theorem lawPf (v : Int) (Al : Option Addr) (capl : Nat) (l : List (List Int)) (w : World) (hnl : l.length ≤ 9223372036854775807) (hll : LLies w Al l) :
    Calls Try.prog 9 #[.int .i64 v, .slice Al l.length capl] w fun e w' => e = .returned (.bool true) ∧ Below w.heap.size w w' := by
  obtain ⟨nl, hxl⟩ : ∃ n, l.length = n := ⟨_, rfl⟩
  rw [hxl] at hnl ⊢
  have HXl := Lib.hid hxl
  have HLl := Lib.hid hll
  clear hxl hll
  go_enter Try.func9, Try.ntmps9
  go_wp2_with fail
  refine (szIntSS_any _ _ _ l _ 1048576 HLl HXl hnl (by omega) (by omega)).mono ?_
  rintro e w' ⟨⟨ql, rfl, hql⟩, rfl⟩
  by_cases hnegl : ql < 0
  · clear hql
    go_wp2
    go_ret
    exact ⟨rfl, Below.refl _ _⟩
  have hqql : ql = 1048576 - (nl : Int) - (tot l : Int) := by omega
  have hsl : nl ≤ 1048576 := by omega
  have htl : tot l ≤ 1048576 := by omega
  have HTl : Hid (tot l ≤ 1048576) := Lib.hid htl
  have hlol : 0 ≤ ql := by omega
  have hhil : ql ≤ 1048576 := by omega
  clear hql hqql
  obtain ⟨r0, r1, hr⟩ := pfR_any v l
  have hrl : r0.length ≤ 1000 := by have := hr.small.1; omega
  have hrt : tot r0 ≤ 10000 := by have := hr.small.2; omega
  have HR := Lib.hid hr
  clear hr
  go_wp2_with fail
  refine (toIntSS_any _ _ _ l _ (HLl.out.below (Below.refl _ _)) HXl hsl HTl).mono ?_
  rintro e w1 ⟨rfl, ⟨vssl, kk⟩, hb⟩
  have S1 := Lib.hid (hb.size)
  have B1 := Lib.hid (Below.tr (Below.refl _ _) hb)
  have Fsl_1 := Lib.hid (kk)
  have Psl : Hid (∀ g, ((.slice (some ⟨w.heap.size, 0, none⟩) nl nl : Value).ownBlock = some g ∨ blks vssl g) → w.heap.size ≤ g ∧ g < w1.heap.size) := Lib.hid (fun g h => h.elim (fun h => Fsl_1.out.outer.lt g h) (fun h => Fsl_1.out.inner.lt g h))
  clear kk hb
  go_wp2_with fail
  refine (specPf_any v _ _ _ l _ r0 r1 HR Fsl_1.out.lies Fsl_1.out.lnil HXl hnl).mono ?_
  rintro e w2 ⟨Aw0, cw0, vsw0, rfl, ho0, hb⟩
  have S2 := Lib.hid (hb.size)
  have B2 := Lib.hid (Below.tr B1.out hb)
  have Fsl_2 := Lib.hid (Fsl_1.out.below hb)
  clear Fsl_1
  have Fw0_2 := Lib.hid (ho0)
  have Pw0 : Hid (∀ g, ((.slice Aw0 r0.length cw0 : Value).ownBlock = some g ∨ blks vsw0 g) → w1.heap.size ≤ g ∧ g < w2.heap.size) := Lib.hid (fun g h => h.elim (fun h => Fw0_2.out.outer.lt g h) (fun h => Fw0_2.out.inner.lt g h))
  clear hb ho0
  clear Fsl_2
  go_wp2_with fail
  refine (toIntSS_any _ _ _ l _ (HLl.out.below B2.out) HXl hsl HTl).mono ?_
  rintro e w3 ⟨rfl, ⟨vsxl, kk⟩, hb⟩
  have S3 := Lib.hid (hb.size)
  have B3 := Lib.hid (Below.tr B2.out hb)
  have Fw0_3 := Lib.hid (Fw0_2.out.below hb)
  clear Fw0_2
  have Fxl_3 := Lib.hid (kk)
  have Pxl : Hid (∀ g, ((.slice (some ⟨w2.heap.size, 0, none⟩) nl nl : Value).ownBlock = some g ∨ blks vsxl g) → w2.heap.size ≤ g ∧ g < w3.heap.size) := Lib.hid (fun g h => h.elim (fun h => Fxl_3.out.outer.lt g h) (fun h => Fxl_3.out.inner.lt g h))
  clear kk hb
  go_wp2_with fail
  refine (implPf_any v _ _ _ l _ r0 r1 HR Fxl_3.out.lies HXl (Lib.hid (fun h => by cases h)) hnl).mono ?_
  rintro e w4 ⟨Ag0, cg0, vsg0, rfl, ho0, hb⟩
  have S4 := Lib.hid (hb.size)
  have B4 := Lib.hid (Below.tr B3.out hb)
  have Fw0_4 := Lib.hid (Fw0_3.out.below hb)
  clear Fw0_3
  have Fxl_4 := Lib.hid (Fxl_3.out.below hb)
  clear Fxl_3
  have Fg0_4 := Lib.hid (ho0)
  have Pg0 : Hid (∀ g, ((.slice Ag0 r0.length cg0 : Value).ownBlock = some g ∨ blks vsg0 g) → w3.heap.size ≤ g ∧ g < w4.heap.size) := Lib.hid (fun g h => h.elim (fun h => Fg0_4.out.outer.lt g h) (fun h => Fg0_4.out.inner.lt g h))
  clear hb ho0
  have hb1 : (r1 != r1) = false := by simp
  go_wp2_with fail
  refine (eqIntSS_same _ _ _ _ _ r0 _ Fg0_4.out.lies Fw0_4.out.lies (Lib.hid rfl) (by omega) (Lib.hid (by omega))).mono ?_
  rintro e w5 ⟨rfl, hb⟩
  have S5 := Lib.hid (hb.size)
  have B5 := Lib.hid (Below.tr B4.out hb)
  have Fw0_5 := Lib.hid (Fw0_4.out.below hb)
  clear Fw0_4
  have Fxl_5 := Lib.hid (Fxl_4.out.below hb)
  clear Fxl_4
  have Fg0_5 := Lib.hid (Fg0_4.out.below hb)
  clear Fg0_4
  clear hb
  go_wp2_with fail
  refine (toIntSS_any _ _ _ l _ (HLl.out.below B5.out) HXl hsl HTl).mono ?_
  rintro e w6 ⟨rfl, ⟨vscl, kk⟩, hb⟩
  have S6 := Lib.hid (hb.size)
  have B6 := Lib.hid (Below.tr B5.out hb)
  have Fw0_6 := Lib.hid (Fw0_5.out.below hb)
  clear Fw0_5
  have Fxl_6 := Lib.hid (Fxl_5.out.below hb)
  clear Fxl_5
  have Fg0_6 := Lib.hid (Fg0_5.out.below hb)
  clear Fg0_5
  have Fcl_6 := Lib.hid (kk)
  have Pcl : Hid (∀ g, ((.slice (some ⟨w5.heap.size, 0, none⟩) nl nl : Value).ownBlock = some g ∨ blks vscl g) → w5.heap.size ≤ g ∧ g < w6.heap.size) := Lib.hid (fun g h => h.elim (fun h => Fcl_6.out.outer.lt g h) (fun h => Fcl_6.out.inner.lt g h))
  clear kk hb
  go_wp2_with fail
  refine (eqIntSS_same _ _ _ _ _ l _ Fxl_6.out.lies Fcl_6.out.lies HXl (by omega) (Lib.hid (by omega))).mono ?_
  rintro e w7 ⟨rfl, hb⟩
  have S7 := Lib.hid (hb.size)
  have B7 := Lib.hid (Below.tr B6.out hb)
  have Fw0_7 := Lib.hid (Fw0_6.out.below hb)
  clear Fw0_6
  have Fxl_7 := Lib.hid (Fxl_6.out.below hb)
  clear Fxl_6
  have Fg0_7 := Lib.hid (Fg0_6.out.below hb)
  clear Fg0_6
  have Fcl_7 := Lib.hid (Fcl_6.out.below hb)
  clear Fcl_6
  clear hb
  clear Fcl_7
  go_wp2_with fail
  refine (markIntSS_any _ _ _ _ _ l (1) _ Fxl_7 (by first | exact Lib.hid rfl | exact HXl) (by omega) (Lib.hid (by omega)) (by omega)).mono ?_
  rintro e w8 ⟨rfl, ho, hk⟩
  have S8 := Lib.hid (hk.size)
  have B8 := Lib.hid (hk.below B7.out B7.out.size (fun i hi => by have := Pxl.out i (.inr hi); have := S1.out; have := S2.out; have := S3.out; have := S4.out; have := S5.out; have := S6.out; have := S7.out; have := S8.out; omega))
  have Fw0_8 := Lib.hid (Fw0_7.out.kept hk (fun g h q => by have := Pxl.out g (.inr q); have := Pw0.out g (.inl h); have := S1.out; have := S2.out; have := S3.out; have := S4.out; have := S5.out; have := S6.out; have := S7.out; have := S8.out; omega) (fun g h q => by have := Pxl.out g (.inr q); have := Pw0.out g (.inr h); have := S1.out; have := S2.out; have := S3.out; have := S4.out; have := S5.out; have := S6.out; have := S7.out; have := S8.out; omega))
  clear Fw0_7
  have Fg0_8 := Lib.hid (Fg0_7.out.kept hk (fun g h q => by have := Pxl.out g (.inr q); have := Pg0.out g (.inl h); have := S1.out; have := S2.out; have := S3.out; have := S4.out; have := S5.out; have := S6.out; have := S7.out; have := S8.out; omega) (fun g h q => by have := Pxl.out g (.inr q); have := Pg0.out g (.inr h); have := S1.out; have := S2.out; have := S3.out; have := S4.out; have := S5.out; have := S6.out; have := S7.out; have := S8.out; omega))
  clear Fg0_7
  clear ho hk
  clear Fxl_7
  have hnegk : decide (1 + (tot l : Int) < 0) = false := by simp; omega
  go_wp2_with fail
  refine (eqIntSS_same _ _ _ _ _ r0 _ Fg0_8.out.lies Fw0_8.out.lies (Lib.hid rfl) (by omega) (Lib.hid (by omega))).mono ?_
  rintro e w9 ⟨rfl, hb⟩
  have S9 := Lib.hid (hb.size)
  have B9 := Lib.hid (Below.tr B8.out hb)
  have Fw0_9 := Lib.hid (Fw0_8.out.below hb)
  clear Fw0_8
  have Fg0_9 := Lib.hid (Fg0_8.out.below hb)
  clear Fg0_8
  clear hb
  go_wp2_with fail
  refine (markIntSS_any _ _ _ _ _ r0 (1) _ Fg0_9 (by first | exact Lib.hid rfl | exact HXr0) (by omega) (Lib.hid (by omega)) (by omega)).mono ?_
  rintro e w10 ⟨rfl, ho, hk⟩
  have S10 := Lib.hid (hk.size)
  have B10 := Lib.hid (hk.below B9.out B9.out.size (fun i hi => by have := Pg0.out i (.inr hi); have := S1.out; have := S2.out; have := S3.out; have := S4.out; have := S5.out; have := S6.out; have := S7.out; have := S8.out; have := S9.out; have := S10.out; omega))
  have Fw0_10 := Lib.hid (Fw0_9.out.kept hk (fun g h q => by have := Pg0.out g (.inr q); have := Pw0.out g (.inl h); have := S1.out; have := S2.out; have := S3.out; have := S4.out; have := S5.out; have := S6.out; have := S7.out; have := S8.out; have := S9.out; have := S10.out; omega) (fun g h q => by have := Pg0.out g (.inr q); have := Pw0.out g (.inr h); have := S1.out; have := S2.out; have := S3.out; have := S4.out; have := S5.out; have := S6.out; have := S7.out; have := S8.out; have := S9.out; have := S10.out; omega))
  clear Fw0_9
  clear Fg0_9
  have Fg0_10 := Lib.hid ho
  clear ho hk
  have hnegm : decide (1 + (tot r0 : Int) < 0) = false := by simp; omega
  have heqm : ((1 + (tot r0 : Int) : Int) != (1 + (tot r0 : Int) : Int)) = false := by simp
  go_wp2_with fail
  refine (heldIntSS_any _ _ _ r0 (1) _ Fg0_10.out.lies (Lib.hid rfl) (by omega) (Lib.hid (by omega)) (by omega)).mono ?_
  rintro e w' ⟨rfl, rfl⟩
  go_wp2_with fail
  refine (toIntSS_any _ _ _ l _ (HLl.out.below B10.out) HXl hsl HTl).mono ?_
  rintro e w11 ⟨rfl, ⟨vsyl, kk⟩, hb⟩
  have S11 := Lib.hid (hb.size)
  have B11 := Lib.hid (Below.tr B10.out hb)
  have Fw0_11 := Lib.hid (Fw0_10.out.below hb)
  clear Fw0_10
  have Fg0_11 := Lib.hid (Fg0_10.out.below hb)
  clear Fg0_10
  have Fyl_11 := Lib.hid (kk)
  have Pyl : Hid (∀ g, ((.slice (some ⟨w10.heap.size, 0, none⟩) nl nl : Value).ownBlock = some g ∨ blks vsyl g) → w10.heap.size ≤ g ∧ g < w11.heap.size) := Lib.hid (fun g h => h.elim (fun h => Fyl_11.out.outer.lt g h) (fun h => Fyl_11.out.inner.lt g h))
  clear kk hb
  go_wp2_with fail
  refine (implPf_any v _ _ _ l _ r0 r1 HR Fyl_11.out.lies HXl (Lib.hid (fun h => by cases h)) hnl).mono ?_
  rintro e w12 ⟨Ah0, ch0, vsh0, rfl, ho0, hb⟩
  have S12 := Lib.hid (hb.size)
  have B12 := Lib.hid (Below.tr B11.out hb)
  have Fw0_12 := Lib.hid (Fw0_11.out.below hb)
  clear Fw0_11
  have Fg0_12 := Lib.hid (Fg0_11.out.below hb)
  clear Fg0_11
  have Fyl_12 := Lib.hid (Fyl_11.out.below hb)
  clear Fyl_11
  have Fh0_12 := Lib.hid (ho0)
  have Ph0 : Hid (∀ g, ((.slice Ah0 r0.length ch0 : Value).ownBlock = some g ∨ blks vsh0 g) → w11.heap.size ≤ g ∧ g < w12.heap.size) := Lib.hid (fun g h => h.elim (fun h => Fh0_12.out.outer.lt g h) (fun h => Fh0_12.out.inner.lt g h))
  clear hb ho0
  clear Fyl_12
  go_wp2_with fail
  refine (eqIntSS_same _ _ _ _ _ r0 _ Fh0_12.out.lies Fw0_12.out.lies (Lib.hid rfl) (by omega) (Lib.hid (by omega))).mono ?_
  rintro e w13 ⟨rfl, hb⟩
  have S13 := Lib.hid (hb.size)
  have B13 := Lib.hid (Below.tr B12.out hb)
  have Fw0_13 := Lib.hid (Fw0_12.out.below hb)
  clear Fw0_12
  have Fg0_13 := Lib.hid (Fg0_12.out.below hb)
  clear Fg0_12
  have Fh0_13 := Lib.hid (Fh0_12.out.below hb)
  clear Fh0_12
  clear hb
  clear Fh0_13
  clear Fw0_13
  go_wp2_with fail
  refine (heldIntSS_any _ _ _ r0 (1) _ Fg0_13.out.lies (Lib.hid rfl) (by omega) (Lib.hid (by omega)) (by omega)).mono ?_
  rintro e w' ⟨rfl, rfl⟩
  go_wp2
  go_ret
  exact ⟨rfl, B13.out⟩
end Go.Proofs.Ytkkoeeoalkjhoaa
