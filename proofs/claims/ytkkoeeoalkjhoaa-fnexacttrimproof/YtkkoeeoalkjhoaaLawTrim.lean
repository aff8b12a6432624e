/-
  The walk of the law of Trim.
-/
import Derived.Test.YtkkoeeoalkjhoaaTrim
namespace Go.Proofs.Ytkkoeeoalkjhoaa
open Go.ChangeShapes Go.WideShapes Go.ChangeAt Go.RowKit

set_option maxRecDepth 100000 in
set_option maxHeartbeats 4000000 in
theorem lawTrim (v : Int) (Al : Option Addr) (capl : Nat) (l : List (List Int)) (Ap : Option Addr) (capp : Nat) (p : List (List Int)) (w : World) (hnl : l.length ≤ 9223372036854775807) (hll : LLies w Al l) (hnp : p.length ≤ 9223372036854775807) (hlp : LLies w Ap p) :
    Calls Try.prog 8 #[.int .i64 v, .slice Al l.length capl, .slice Ap p.length capp] w fun e w' => e = .returned (.bool true) ∧ Below w.heap.size w w' := by
  obtain ⟨nl, hxl⟩ : ∃ n, l.length = n := ⟨_, rfl⟩
  rw [hxl] at hnl ⊢
  have HXl := Lib.hid hxl
  have HLl := Lib.hid hll
  clear hxl hll
  obtain ⟨np, hxp⟩ : ∃ n, p.length = n := ⟨_, rfl⟩
  rw [hxp] at hnp ⊢
  have HXp := Lib.hid hxp
  have HLp := Lib.hid hlp
  clear hxp hlp
  go_enter Try.func8, Try.ntmps8
  go_wp2_with fail
  refine (szIntSS_any _ _ _ l _ 1048576 HLl HXl hnl (by omega) (by omega)).mono ?_
  rintro e w' ⟨⟨ql, rfl, hql⟩, rfl⟩
  by_cases hnegl : ql < 0
  · clear hql
    go_wp2
    go_ret
    exact ⟨rfl, Below.refl _ _⟩
  have hqql : ql = 1048576 - (nl : Int) - (tot l : Int) := by omega
  have hsl : nl ≤ 1048576 := by omega
  have htl : tot l ≤ 1048576 := by omega
  have HTl : Hid (tot l ≤ 1048576) := Lib.hid htl
  have hlol : 0 ≤ ql := by omega
  have hhil : ql ≤ 1048576 := by omega
  clear hql hqql
  go_wp2_with fail
  refine (szIntSS_any _ _ _ p _ ql HLp HXp hnp (by omega) (by omega)).mono ?_
  rintro e w' ⟨⟨qp, rfl, hqp⟩, rfl⟩
  by_cases hnegp : qp < 0
  · clear hqp
    go_wp2
    go_ret
    exact ⟨rfl, Below.refl _ _⟩
  have hqqp : qp = ql - (np : Int) - (tot p : Int) := by omega
  have hsp : np ≤ 1048576 := by omega
  have htp : tot p ≤ 1048576 := by omega
  have HTp : Hid (tot p ≤ 1048576) := Lib.hid htp
  have hlop : 0 ≤ qp := by omega
  have hhip : qp ≤ 1048576 := by omega
  clear hqp hqqp
  obtain ⟨r0, r1, hr⟩ := trimR_any v l p
  have hrl : r0.length ≤ 1000 := by have := hr.small.1; omega
  have hrt : tot r0 ≤ 10000 := by have := hr.small.2; omega
  have HR := Lib.hid hr
  clear hr
  go_wp2_with fail
  refine (toIntSS_any _ _ _ l _ (HLl.out.below (Below.refl _ _)) HXl hsl HTl).mono ?_
  rintro e w1 ⟨rfl, ⟨vssl, kk⟩, hb⟩
  have S1 := Lib.hid (hb.size)
  have B1 := Lib.hid (Below.tr (Below.refl _ _) hb)
  have Fsl_1 := Lib.hid (kk)
  have Psl : Hid (∀ g, ((.slice (some ⟨w.heap.size, 0, none⟩) nl nl : Value).ownBlock = some g ∨ blks vssl g) → w.heap.size ≤ g ∧ g < w1.heap.size) := Lib.hid (fun g h => h.elim (fun h => Fsl_1.out.outer.lt g h) (fun h => Fsl_1.out.inner.lt g h))
  clear kk hb
  go_wp2_with fail
  refine (toIntSS_any _ _ _ p _ (HLp.out.below B1.out) HXp hsp HTp).mono ?_
  rintro e w2 ⟨rfl, ⟨vssp, kk⟩, hb⟩
  have S2 := Lib.hid (hb.size)
  have B2 := Lib.hid (Below.tr B1.out hb)
  have Fsl_2 := Lib.hid (Fsl_1.out.below hb)
  clear Fsl_1
  have Fsp_2 := Lib.hid (kk)
  have Psp : Hid (∀ g, ((.slice (some ⟨w1.heap.size, 0, none⟩) np np : Value).ownBlock = some g ∨ blks vssp g) → w1.heap.size ≤ g ∧ g < w2.heap.size) := Lib.hid (fun g h => h.elim (fun h => Fsp_2.out.outer.lt g h) (fun h => Fsp_2.out.inner.lt g h))
  clear kk hb
  go_wp2_with fail
  refine (specTrim_any v _ _ _ _ _ _ l p _ r0 r1 HR Fsl_2.out.lies Fsl_2.out.lnil Fsp_2.out.lies Fsp_2.out.lnil HXl HXp hnl hnp).mono ?_
  rintro e w3 ⟨Aw0, cw0, vsw0, rfl, ho0, hb⟩
  have S3 := Lib.hid (hb.size)
  have B3 := Lib.hid (Below.tr B2.out hb)
  have Fsl_3 := Lib.hid (Fsl_2.out.below hb)
  clear Fsl_2
  have Fsp_3 := Lib.hid (Fsp_2.out.below hb)
  clear Fsp_2
  have Fw0_3 := Lib.hid (ho0)
  have Pw0 : Hid (∀ g, ((.slice Aw0 r0.length cw0 : Value).ownBlock = some g ∨ blks vsw0 g) → w2.heap.size ≤ g ∧ g < w3.heap.size) := Lib.hid (fun g h => h.elim (fun h => Fw0_3.out.outer.lt g h) (fun h => Fw0_3.out.inner.lt g h))
  clear hb ho0
  clear Fsl_3
  clear Fsp_3
  go_wp2_with fail
  refine (toIntSS_any _ _ _ l _ (HLl.out.below B3.out) HXl hsl HTl).mono ?_
  rintro e w4 ⟨rfl, ⟨vsxl, kk⟩, hb⟩
  have S4 := Lib.hid (hb.size)
  have B4 := Lib.hid (Below.tr B3.out hb)
  have Fw0_4 := Lib.hid (Fw0_3.out.below hb)
  clear Fw0_3
  have Fxl_4 := Lib.hid (kk)
  have Pxl : Hid (∀ g, ((.slice (some ⟨w3.heap.size, 0, none⟩) nl nl : Value).ownBlock = some g ∨ blks vsxl g) → w3.heap.size ≤ g ∧ g < w4.heap.size) := Lib.hid (fun g h => h.elim (fun h => Fxl_4.out.outer.lt g h) (fun h => Fxl_4.out.inner.lt g h))
  clear kk hb
  go_wp2_with fail
  refine (toIntSS_any _ _ _ p _ (HLp.out.below B4.out) HXp hsp HTp).mono ?_
  rintro e w5 ⟨rfl, ⟨vsxp, kk⟩, hb⟩
  have S5 := Lib.hid (hb.size)
  have B5 := Lib.hid (Below.tr B4.out hb)
  have Fw0_5 := Lib.hid (Fw0_4.out.below hb)
  clear Fw0_4
  have Fxl_5 := Lib.hid (Fxl_4.out.below hb)
  clear Fxl_4
  have Fxp_5 := Lib.hid (kk)
  have Pxp : Hid (∀ g, ((.slice (some ⟨w4.heap.size, 0, none⟩) np np : Value).ownBlock = some g ∨ blks vsxp g) → w4.heap.size ≤ g ∧ g < w5.heap.size) := Lib.hid (fun g h => h.elim (fun h => Fxp_5.out.outer.lt g h) (fun h => Fxp_5.out.inner.lt g h))
  clear kk hb
  go_wp2_with fail
  refine (implTrim_any v _ _ _ _ _ _ l p _ r0 r1 HR Fxl_5.out.lies Fxp_5.out.lies Fxp_5.out.lnil HXl HXp (Lib.hid (fun h => by cases h)) hnl hnp).mono ?_
  rintro e w6 ⟨Ag0, cg0, vsg0, rfl, ho0, hb⟩
  have S6 := Lib.hid (hb.size)
  have B6 := Lib.hid (Below.tr B5.out hb)
  have Fw0_6 := Lib.hid (Fw0_5.out.below hb)
  clear Fw0_5
  have Fxl_6 := Lib.hid (Fxl_5.out.below hb)
  clear Fxl_5
  have Fxp_6 := Lib.hid (Fxp_5.out.below hb)
  clear Fxp_5
  have Fg0_6 := Lib.hid (ho0)
  have Pg0 : Hid (∀ g, ((.slice Ag0 r0.length cg0 : Value).ownBlock = some g ∨ blks vsg0 g) → w5.heap.size ≤ g ∧ g < w6.heap.size) := Lib.hid (fun g h => h.elim (fun h => Fg0_6.out.outer.lt g h) (fun h => Fg0_6.out.inner.lt g h))
  clear hb ho0
  have hb1 : (r1 != r1) = false := by simp
  go_wp2_with fail
  refine (eqIntSS_same _ _ _ _ _ r0 _ Fg0_6.out.lies Fw0_6.out.lies (Lib.hid rfl) (by omega) (Lib.hid (by omega))).mono ?_
  rintro e w7 ⟨rfl, hb⟩
  have S7 := Lib.hid (hb.size)
  have B7 := Lib.hid (Below.tr B6.out hb)
  have Fw0_7 := Lib.hid (Fw0_6.out.below hb)
  clear Fw0_6
  have Fxl_7 := Lib.hid (Fxl_6.out.below hb)
  clear Fxl_6
  have Fxp_7 := Lib.hid (Fxp_6.out.below hb)
  clear Fxp_6
  have Fg0_7 := Lib.hid (Fg0_6.out.below hb)
  clear Fg0_6
  clear hb
  go_wp2_with fail
  refine (toIntSS_any _ _ _ l _ (HLl.out.below B7.out) HXl hsl HTl).mono ?_
  rintro e w8 ⟨rfl, ⟨vscl, kk⟩, hb⟩
  have S8 := Lib.hid (hb.size)
  have B8 := Lib.hid (Below.tr B7.out hb)
  have Fw0_8 := Lib.hid (Fw0_7.out.below hb)
  clear Fw0_7
  have Fxl_8 := Lib.hid (Fxl_7.out.below hb)
  clear Fxl_7
  have Fxp_8 := Lib.hid (Fxp_7.out.below hb)
  clear Fxp_7
  have Fg0_8 := Lib.hid (Fg0_7.out.below hb)
  clear Fg0_7
  have Fcl_8 := Lib.hid (kk)
  have Pcl : Hid (∀ g, ((.slice (some ⟨w7.heap.size, 0, none⟩) nl nl : Value).ownBlock = some g ∨ blks vscl g) → w7.heap.size ≤ g ∧ g < w8.heap.size) := Lib.hid (fun g h => h.elim (fun h => Fcl_8.out.outer.lt g h) (fun h => Fcl_8.out.inner.lt g h))
  clear kk hb
  go_wp2_with fail
  refine (eqIntSS_same _ _ _ _ _ l _ Fxl_8.out.lies Fcl_8.out.lies HXl (by omega) (Lib.hid (by omega))).mono ?_
  rintro e w9 ⟨rfl, hb⟩
  have S9 := Lib.hid (hb.size)
  have B9 := Lib.hid (Below.tr B8.out hb)
  have Fw0_9 := Lib.hid (Fw0_8.out.below hb)
  clear Fw0_8
  have Fxl_9 := Lib.hid (Fxl_8.out.below hb)
  clear Fxl_8
  have Fxp_9 := Lib.hid (Fxp_8.out.below hb)
  clear Fxp_8
  have Fg0_9 := Lib.hid (Fg0_8.out.below hb)
  clear Fg0_8
  have Fcl_9 := Lib.hid (Fcl_8.out.below hb)
  clear Fcl_8
  clear hb
  clear Fcl_9
  go_wp2_with fail
  refine (toIntSS_any _ _ _ p _ (HLp.out.below B9.out) HXp hsp HTp).mono ?_
  rintro e w10 ⟨rfl, ⟨vscp, kk⟩, hb⟩
  have S10 := Lib.hid (hb.size)
  have B10 := Lib.hid (Below.tr B9.out hb)
  have Fw0_10 := Lib.hid (Fw0_9.out.below hb)
  clear Fw0_9
  have Fxl_10 := Lib.hid (Fxl_9.out.below hb)
  clear Fxl_9
  have Fxp_10 := Lib.hid (Fxp_9.out.below hb)
  clear Fxp_9
  have Fg0_10 := Lib.hid (Fg0_9.out.below hb)
  clear Fg0_9
  have Fcp_10 := Lib.hid (kk)
  have Pcp : Hid (∀ g, ((.slice (some ⟨w9.heap.size, 0, none⟩) np np : Value).ownBlock = some g ∨ blks vscp g) → w9.heap.size ≤ g ∧ g < w10.heap.size) := Lib.hid (fun g h => h.elim (fun h => Fcp_10.out.outer.lt g h) (fun h => Fcp_10.out.inner.lt g h))
  clear kk hb
  go_wp2_with fail
  refine (eqIntSS_same _ _ _ _ _ p _ Fxp_10.out.lies Fcp_10.out.lies HXp (by omega) (Lib.hid (by omega))).mono ?_
  rintro e w11 ⟨rfl, hb⟩
  have S11 := Lib.hid (hb.size)
  have B11 := Lib.hid (Below.tr B10.out hb)
  have Fw0_11 := Lib.hid (Fw0_10.out.below hb)
  clear Fw0_10
  have Fxl_11 := Lib.hid (Fxl_10.out.below hb)
  clear Fxl_10
  have Fxp_11 := Lib.hid (Fxp_10.out.below hb)
  clear Fxp_10
  have Fg0_11 := Lib.hid (Fg0_10.out.below hb)
  clear Fg0_10
  have Fcp_11 := Lib.hid (Fcp_10.out.below hb)
  clear Fcp_10
  clear hb
  clear Fcp_11
  go_wp2_with fail
  refine (markIntSS_any _ _ _ _ _ l (1) _ Fxl_11 (by first | exact Lib.hid rfl | exact HXl) (by omega) (Lib.hid (by omega)) (by omega)).mono ?_
  rintro e w12 ⟨rfl, ho, hk⟩
  have S12 := Lib.hid (hk.size)
  have B12 := Lib.hid (hk.below B11.out B11.out.size (fun i hi => by have := Pxl.out i (.inr hi); have := S1.out; have := S2.out; have := S3.out; have := S4.out; have := S5.out; have := S6.out; have := S7.out; have := S8.out; have := S9.out; have := S10.out; have := S11.out; have := S12.out; omega))
  have Fw0_12 := Lib.hid (Fw0_11.out.kept hk (fun g h q => by have := Pxl.out g (.inr q); have := Pw0.out g (.inl h); have := S1.out; have := S2.out; have := S3.out; have := S4.out; have := S5.out; have := S6.out; have := S7.out; have := S8.out; have := S9.out; have := S10.out; have := S11.out; have := S12.out; omega) (fun g h q => by have := Pxl.out g (.inr q); have := Pw0.out g (.inr h); have := S1.out; have := S2.out; have := S3.out; have := S4.out; have := S5.out; have := S6.out; have := S7.out; have := S8.out; have := S9.out; have := S10.out; have := S11.out; have := S12.out; omega))
  clear Fw0_11
  have Fxp_12 := Lib.hid (Fxp_11.out.kept hk (fun g h q => by have := Pxl.out g (.inr q); have := Pxp.out g (.inl h); have := S1.out; have := S2.out; have := S3.out; have := S4.out; have := S5.out; have := S6.out; have := S7.out; have := S8.out; have := S9.out; have := S10.out; have := S11.out; have := S12.out; omega) (fun g h q => by have := Pxl.out g (.inr q); have := Pxp.out g (.inr h); have := S1.out; have := S2.out; have := S3.out; have := S4.out; have := S5.out; have := S6.out; have := S7.out; have := S8.out; have := S9.out; have := S10.out; have := S11.out; have := S12.out; omega))
  clear Fxp_11
  have Fg0_12 := Lib.hid (Fg0_11.out.kept hk (fun g h q => by have := Pxl.out g (.inr q); have := Pg0.out g (.inl h); have := S1.out; have := S2.out; have := S3.out; have := S4.out; have := S5.out; have := S6.out; have := S7.out; have := S8.out; have := S9.out; have := S10.out; have := S11.out; have := S12.out; omega) (fun g h q => by have := Pxl.out g (.inr q); have := Pg0.out g (.inr h); have := S1.out; have := S2.out; have := S3.out; have := S4.out; have := S5.out; have := S6.out; have := S7.out; have := S8.out; have := S9.out; have := S10.out; have := S11.out; have := S12.out; omega))
  clear Fg0_11
  clear ho hk
  clear Fxl_11
  go_wp2_with fail
  refine (markIntSS_any _ _ _ _ _ p (1 + (tot l : Int)) _ Fxp_12 (by first | exact Lib.hid rfl | exact HXp) (by omega) (Lib.hid (by omega)) (by omega)).mono ?_
  rintro e w13 ⟨rfl, ho, hk⟩
  have S13 := Lib.hid (hk.size)
  have B13 := Lib.hid (hk.below B12.out B12.out.size (fun i hi => by have := Pxp.out i (.inr hi); have := S1.out; have := S2.out; have := S3.out; have := S4.out; have := S5.out; have := S6.out; have := S7.out; have := S8.out; have := S9.out; have := S10.out; have := S11.out; have := S12.out; have := S13.out; omega))
  have Fw0_13 := Lib.hid (Fw0_12.out.kept hk (fun g h q => by have := Pxp.out g (.inr q); have := Pw0.out g (.inl h); have := S1.out; have := S2.out; have := S3.out; have := S4.out; have := S5.out; have := S6.out; have := S7.out; have := S8.out; have := S9.out; have := S10.out; have := S11.out; have := S12.out; have := S13.out; omega) (fun g h q => by have := Pxp.out g (.inr q); have := Pw0.out g (.inr h); have := S1.out; have := S2.out; have := S3.out; have := S4.out; have := S5.out; have := S6.out; have := S7.out; have := S8.out; have := S9.out; have := S10.out; have := S11.out; have := S12.out; have := S13.out; omega))
  clear Fw0_12
  have Fg0_13 := Lib.hid (Fg0_12.out.kept hk (fun g h q => by have := Pxp.out g (.inr q); have := Pg0.out g (.inl h); have := S1.out; have := S2.out; have := S3.out; have := S4.out; have := S5.out; have := S6.out; have := S7.out; have := S8.out; have := S9.out; have := S10.out; have := S11.out; have := S12.out; have := S13.out; omega) (fun g h q => by have := Pxp.out g (.inr q); have := Pg0.out g (.inr h); have := S1.out; have := S2.out; have := S3.out; have := S4.out; have := S5.out; have := S6.out; have := S7.out; have := S8.out; have := S9.out; have := S10.out; have := S11.out; have := S12.out; have := S13.out; omega))
  clear Fg0_12
  clear ho hk
  clear Fxp_12
  have hnegk : decide (1 + (tot l : Int) + (tot p : Int) < 0) = false := by simp; omega
  go_wp2_with fail
  refine (eqIntSS_same _ _ _ _ _ r0 _ Fg0_13.out.lies Fw0_13.out.lies (Lib.hid rfl) (by omega) (Lib.hid (by omega))).mono ?_
  rintro e w14 ⟨rfl, hb⟩
  have S14 := Lib.hid (hb.size)
  have B14 := Lib.hid (Below.tr B13.out hb)
  have Fw0_14 := Lib.hid (Fw0_13.out.below hb)
  clear Fw0_13
  have Fg0_14 := Lib.hid (Fg0_13.out.below hb)
  clear Fg0_13
  clear hb
  go_wp2_with fail
  refine (markIntSS_any _ _ _ _ _ r0 (1) _ Fg0_14 (by first | exact Lib.hid rfl | exact HXr0) (by omega) (Lib.hid (by omega)) (by omega)).mono ?_
  rintro e w15 ⟨rfl, ho, hk⟩
  have S15 := Lib.hid (hk.size)
  have B15 := Lib.hid (hk.below B14.out B14.out.size (fun i hi => by have := Pg0.out i (.inr hi); have := S1.out; have := S2.out; have := S3.out; have := S4.out; have := S5.out; have := S6.out; have := S7.out; have := S8.out; have := S9.out; have := S10.out; have := S11.out; have := S12.out; have := S13.out; have := S14.out; have := S15.out; omega))
  have Fw0_15 := Lib.hid (Fw0_14.out.kept hk (fun g h q => by have := Pg0.out g (.inr q); have := Pw0.out g (.inl h); have := S1.out; have := S2.out; have := S3.out; have := S4.out; have := S5.out; have := S6.out; have := S7.out; have := S8.out; have := S9.out; have := S10.out; have := S11.out; have := S12.out; have := S13.out; have := S14.out; have := S15.out; omega) (fun g h q => by have := Pg0.out g (.inr q); have := Pw0.out g (.inr h); have := S1.out; have := S2.out; have := S3.out; have := S4.out; have := S5.out; have := S6.out; have := S7.out; have := S8.out; have := S9.out; have := S10.out; have := S11.out; have := S12.out; have := S13.out; have := S14.out; have := S15.out; omega))
  clear Fw0_14
  clear Fg0_14
  have Fg0_15 := Lib.hid ho
  clear ho hk
  have hnegm : decide (1 + (tot r0 : Int) < 0) = false := by simp; omega
  have heqm : ((1 + (tot r0 : Int) : Int) != (1 + (tot r0 : Int) : Int)) = false := by simp
  go_wp2_with fail
  refine (heldIntSS_any _ _ _ r0 (1) _ Fg0_15.out.lies (Lib.hid rfl) (by omega) (Lib.hid (by omega)) (by omega)).mono ?_
  rintro e w' ⟨rfl, rfl⟩
  go_wp2_with fail
  refine (toIntSS_any _ _ _ l _ (HLl.out.below B15.out) HXl hsl HTl).mono ?_
  rintro e w16 ⟨rfl, ⟨vsyl, kk⟩, hb⟩
  have S16 := Lib.hid (hb.size)
  have B16 := Lib.hid (Below.tr B15.out hb)
  have Fw0_16 := Lib.hid (Fw0_15.out.below hb)
  clear Fw0_15
  have Fg0_16 := Lib.hid (Fg0_15.out.below hb)
  clear Fg0_15
  have Fyl_16 := Lib.hid (kk)
  have Pyl : Hid (∀ g, ((.slice (some ⟨w15.heap.size, 0, none⟩) nl nl : Value).ownBlock = some g ∨ blks vsyl g) → w15.heap.size ≤ g ∧ g < w16.heap.size) := Lib.hid (fun g h => h.elim (fun h => Fyl_16.out.outer.lt g h) (fun h => Fyl_16.out.inner.lt g h))
  clear kk hb
  go_wp2_with fail
  refine (toIntSS_any _ _ _ p _ (HLp.out.below B16.out) HXp hsp HTp).mono ?_
  rintro e w17 ⟨rfl, ⟨vsyp, kk⟩, hb⟩
  have S17 := Lib.hid (hb.size)
  have B17 := Lib.hid (Below.tr B16.out hb)
  have Fw0_17 := Lib.hid (Fw0_16.out.below hb)
  clear Fw0_16
  have Fg0_17 := Lib.hid (Fg0_16.out.below hb)
  clear Fg0_16
  have Fyl_17 := Lib.hid (Fyl_16.out.below hb)
  clear Fyl_16
  have Fyp_17 := Lib.hid (kk)
  have Pyp : Hid (∀ g, ((.slice (some ⟨w16.heap.size, 0, none⟩) np np : Value).ownBlock = some g ∨ blks vsyp g) → w16.heap.size ≤ g ∧ g < w17.heap.size) := Lib.hid (fun g h => h.elim (fun h => Fyp_17.out.outer.lt g h) (fun h => Fyp_17.out.inner.lt g h))
  clear kk hb
  go_wp2_with fail
  refine (implTrim_any v _ _ _ _ _ _ l p _ r0 r1 HR Fyl_17.out.lies Fyp_17.out.lies Fyp_17.out.lnil HXl HXp (Lib.hid (fun h => by cases h)) hnl hnp).mono ?_
  rintro e w18 ⟨Ah0, ch0, vsh0, rfl, ho0, hb⟩
  have S18 := Lib.hid (hb.size)
  have B18 := Lib.hid (Below.tr B17.out hb)
  have Fw0_18 := Lib.hid (Fw0_17.out.below hb)
  clear Fw0_17
  have Fg0_18 := Lib.hid (Fg0_17.out.below hb)
  clear Fg0_17
  have Fyl_18 := Lib.hid (Fyl_17.out.below hb)
  clear Fyl_17
  have Fyp_18 := Lib.hid (Fyp_17.out.below hb)
  clear Fyp_17
  have Fh0_18 := Lib.hid (ho0)
  have Ph0 : Hid (∀ g, ((.slice Ah0 r0.length ch0 : Value).ownBlock = some g ∨ blks vsh0 g) → w17.heap.size ≤ g ∧ g < w18.heap.size) := Lib.hid (fun g h => h.elim (fun h => Fh0_18.out.outer.lt g h) (fun h => Fh0_18.out.inner.lt g h))
  clear hb ho0
  clear Fyl_18
  clear Fyp_18
  go_wp2_with fail
  refine (eqIntSS_same _ _ _ _ _ r0 _ Fh0_18.out.lies Fw0_18.out.lies (Lib.hid rfl) (by omega) (Lib.hid (by omega))).mono ?_
  rintro e w19 ⟨rfl, hb⟩
  have S19 := Lib.hid (hb.size)
  have B19 := Lib.hid (Below.tr B18.out hb)
  have Fw0_19 := Lib.hid (Fw0_18.out.below hb)
  clear Fw0_18
  have Fg0_19 := Lib.hid (Fg0_18.out.below hb)
  clear Fg0_18
  have Fh0_19 := Lib.hid (Fh0_18.out.below hb)
  clear Fh0_18
  clear hb
  clear Fh0_19
  clear Fw0_19
  go_wp2_with fail
  refine (heldIntSS_any _ _ _ r0 (1) _ Fg0_19.out.lies (Lib.hid rfl) (by omega) (Lib.hid (by omega)) (by omega)).mono ?_
  rintro e w' ⟨rfl, rfl⟩
  go_wp2
  go_ret
  exact ⟨rfl, B19.out⟩
end Go.Proofs.Ytkkoeeoalkjhoaa
