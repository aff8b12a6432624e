/-
  The walk of the law of Check.
-/
import Derived.Test.YtkkoeeoalkjhoaaChk2
namespace Go.Proofs.Ytkkoeeoalkjhoaa
open Go.ChangeShapes Go.WideShapes Go.ChangeAt Go.RowKit

set_option maxRecDepth 100000 in
set_option maxHeartbeats 4000000 in
theorem lawCheck (v : Int) (Al : Option Addr) (capl : Nat) (l : List (List Int)) (Ap : Option Addr) (capp : Nat) (p : List (List Int)) (w : World) (hnl : l.length ≤ 9223372036854775807) (hll : LLies w Al l) (hnp : p.length ≤ 9223372036854775807) (hlp : LLies w Ap p) :
    Calls Try.prog 6 #[.int .i64 v, .slice Al l.length capl, .slice Ap p.length capp] w fun e w' => e = .returned (.bool true) ∧ Below w.heap.size w w' := by
  obtain ⟨nl, hxl⟩ : ∃ n, l.length = n := ⟨_, rfl⟩
  rw [hxl] at hnl ⊢
  have HXl := Lib.hid hxl
  have HLl := Lib.hid hll
  clear hxl hll
  obtain ⟨np, hxp⟩ : ∃ n, p.length = n := ⟨_, rfl⟩
  rw [hxp] at hnp ⊢
  have HXp := Lib.hid hxp
  have HLp := Lib.hid hlp
  clear hxp hlp
  go_enter Try.func6, Try.ntmps6
  go_wp2_with fail
  refine (szIntSS_any _ _ _ l _ 1048576 HLl HXl hnl (by omega) (by omega)).mono ?_
  rintro e w' ⟨⟨ql, rfl, hql⟩, rfl⟩
  by_cases hnegl : ql < 0
  · clear hql
    go_wp2
    go_ret
    exact ⟨rfl, Below.refl _ _⟩
  have hqql : ql = 1048576 - (nl : Int) - (tot l : Int) := by omega
  have hsl : nl ≤ 1048576 := by omega
  have htl : tot l ≤ 1048576 := by omega
  have HTl : Hid (tot l ≤ 1048576) := Lib.hid htl
  have hlol : 0 ≤ ql := by omega
  have hhil : ql ≤ 1048576 := by omega
  clear hql hqql
  go_wp2_with fail
  refine (szIntSS_any _ _ _ p _ ql HLp HXp hnp (by omega) (by omega)).mono ?_
  rintro e w' ⟨⟨qp, rfl, hqp⟩, rfl⟩
  by_cases hnegp : qp < 0
  · clear hqp
    go_wp2
    go_ret
    exact ⟨rfl, Below.refl _ _⟩
  have hqqp : qp = ql - (np : Int) - (tot p : Int) := by omega
  have hsp : np ≤ 1048576 := by omega
  have htp : tot p ≤ 1048576 := by omega
  have HTp : Hid (tot p ≤ 1048576) := Lib.hid htp
  have hlop : 0 ≤ qp := by omega
  have hhip : qp ≤ 1048576 := by omega
  clear hqp hqqp
  obtain ⟨r0, r1, r2, hr⟩ := checkR_any v l p
  have HR := Lib.hid hr
  clear hr
  have hb9 : ((r1 : Int) != (r1 : Int)) = false := by simp
  go_wp2_with fail
  refine (toIntSS_any _ _ _ l _ (HLl.out.below (Below.refl _ _)) HXl hsl HTl).mono ?_
  rintro e w1 ⟨rfl, ⟨vssl, kk⟩, hb⟩
  have S1 := Lib.hid (hb.size)
  have B1 := Lib.hid (Below.tr (Below.refl _ _) hb)
  have Fsl_1 := Lib.hid (kk)
  have Psl : Hid (∀ g, ((.slice (some ⟨w.heap.size, 0, none⟩) nl nl : Value).ownBlock = some g ∨ blks vssl g) → w.heap.size ≤ g ∧ g < w1.heap.size) := Lib.hid (fun g h => h.elim (fun h => Fsl_1.out.outer.lt g h) (fun h => Fsl_1.out.inner.lt g h))
  clear kk hb
  go_wp2_with fail
  refine (toIntSS_any _ _ _ p _ (HLp.out.below B1.out) HXp hsp HTp).mono ?_
  rintro e w2 ⟨rfl, ⟨vssp, kk⟩, hb⟩
  have S2 := Lib.hid (hb.size)
  have B2 := Lib.hid (Below.tr B1.out hb)
  have Fsl_2 := Lib.hid (Fsl_1.out.below hb)
  clear Fsl_1
  have Fsp_2 := Lib.hid (kk)
  have Psp : Hid (∀ g, ((.slice (some ⟨w1.heap.size, 0, none⟩) np np : Value).ownBlock = some g ∨ blks vssp g) → w1.heap.size ≤ g ∧ g < w2.heap.size) := Lib.hid (fun g h => h.elim (fun h => Fsp_2.out.outer.lt g h) (fun h => Fsp_2.out.inner.lt g h))
  clear kk hb
  go_wp2_with fail
  refine (specCheck_any v _ _ _ _ _ _ l p _ r0 r1 r2 HR Fsl_2.out.lies Fsl_2.out.lnil Fsp_2.out.lies HXl HXp hnl hnp).mono ?_
  rintro e w3 ⟨rfl, hb⟩
  have S3 := Lib.hid (hb.size)
  have B3 := Lib.hid (Below.tr B2.out hb)
  have Fsl_3 := Lib.hid (Fsl_2.out.below hb)
  clear Fsl_2
  have Fsp_3 := Lib.hid (Fsp_2.out.below hb)
  clear Fsp_2
  clear hb
  clear Fsl_3
  clear Fsp_3
  go_wp2_with fail
  refine (toIntSS_any _ _ _ l _ (HLl.out.below B3.out) HXl hsl HTl).mono ?_
  rintro e w4 ⟨rfl, ⟨vsxl, kk⟩, hb⟩
  have S4 := Lib.hid (hb.size)
  have B4 := Lib.hid (Below.tr B3.out hb)
  have Fxl_4 := Lib.hid (kk)
  have Pxl : Hid (∀ g, ((.slice (some ⟨w3.heap.size, 0, none⟩) nl nl : Value).ownBlock = some g ∨ blks vsxl g) → w3.heap.size ≤ g ∧ g < w4.heap.size) := Lib.hid (fun g h => h.elim (fun h => Fxl_4.out.outer.lt g h) (fun h => Fxl_4.out.inner.lt g h))
  clear kk hb
  go_wp2_with fail
  refine (toIntSS_any _ _ _ p _ (HLp.out.below B4.out) HXp hsp HTp).mono ?_
  rintro e w5 ⟨rfl, ⟨vsxp, kk⟩, hb⟩
  have S5 := Lib.hid (hb.size)
  have B5 := Lib.hid (Below.tr B4.out hb)
  have Fxl_5 := Lib.hid (Fxl_4.out.below hb)
  clear Fxl_4
  have Fxp_5 := Lib.hid (kk)
  have Pxp : Hid (∀ g, ((.slice (some ⟨w4.heap.size, 0, none⟩) np np : Value).ownBlock = some g ∨ blks vsxp g) → w4.heap.size ≤ g ∧ g < w5.heap.size) := Lib.hid (fun g h => h.elim (fun h => Fxp_5.out.outer.lt g h) (fun h => Fxp_5.out.inner.lt g h))
  clear kk hb
  go_wp2_with fail
  refine (implCheck_any v _ _ _ _ _ _ l p _ r0 r1 r2 HR Fxl_5.out.lies Fxp_5.out.lies HXl HXp (Lib.hid (fun h => by cases h)) hnl hnp).mono ?_
  rintro e w6 ⟨rfl, hb⟩
  have S6 := Lib.hid (hb.size)
  have B6 := Lib.hid (Below.tr B5.out hb)
  have Fxl_6 := Lib.hid (Fxl_5.out.below hb)
  clear Fxl_5
  have Fxp_6 := Lib.hid (Fxp_5.out.below hb)
  clear Fxp_5
  clear hb
  have hb0 : (r0 != r0) = false := by simp
  have hb1 : (r1 != r1) = false := by simp
  have hb2 : (r2 != r2) = false := by simp
  go_wp2_with fail
  refine (toIntSS_any _ _ _ l _ (HLl.out.below B6.out) HXl hsl HTl).mono ?_
  rintro e w7 ⟨rfl, ⟨vscl, kk⟩, hb⟩
  have S7 := Lib.hid (hb.size)
  have B7 := Lib.hid (Below.tr B6.out hb)
  have Fxl_7 := Lib.hid (Fxl_6.out.below hb)
  clear Fxl_6
  have Fxp_7 := Lib.hid (Fxp_6.out.below hb)
  clear Fxp_6
  have Fcl_7 := Lib.hid (kk)
  have Pcl : Hid (∀ g, ((.slice (some ⟨w6.heap.size, 0, none⟩) nl nl : Value).ownBlock = some g ∨ blks vscl g) → w6.heap.size ≤ g ∧ g < w7.heap.size) := Lib.hid (fun g h => h.elim (fun h => Fcl_7.out.outer.lt g h) (fun h => Fcl_7.out.inner.lt g h))
  clear kk hb
  go_wp2_with fail
  refine (eqIntSS_same _ _ _ _ _ l _ Fxl_7.out.lies Fcl_7.out.lies HXl (by omega) (Lib.hid (by omega))).mono ?_
  rintro e w8 ⟨rfl, hb⟩
  have S8 := Lib.hid (hb.size)
  have B8 := Lib.hid (Below.tr B7.out hb)
  have Fxl_8 := Lib.hid (Fxl_7.out.below hb)
  clear Fxl_7
  have Fxp_8 := Lib.hid (Fxp_7.out.below hb)
  clear Fxp_7
  have Fcl_8 := Lib.hid (Fcl_7.out.below hb)
  clear Fcl_7
  clear hb
  clear Fcl_8
  go_wp2_with fail
  refine (toIntSS_any _ _ _ p _ (HLp.out.below B8.out) HXp hsp HTp).mono ?_
  rintro e w9 ⟨rfl, ⟨vscp, kk⟩, hb⟩
  have S9 := Lib.hid (hb.size)
  have B9 := Lib.hid (Below.tr B8.out hb)
  have Fxl_9 := Lib.hid (Fxl_8.out.below hb)
  clear Fxl_8
  have Fxp_9 := Lib.hid (Fxp_8.out.below hb)
  clear Fxp_8
  have Fcp_9 := Lib.hid (kk)
  have Pcp : Hid (∀ g, ((.slice (some ⟨w8.heap.size, 0, none⟩) np np : Value).ownBlock = some g ∨ blks vscp g) → w8.heap.size ≤ g ∧ g < w9.heap.size) := Lib.hid (fun g h => h.elim (fun h => Fcp_9.out.outer.lt g h) (fun h => Fcp_9.out.inner.lt g h))
  clear kk hb
  go_wp2_with fail
  refine (eqIntSS_same _ _ _ _ _ p _ Fxp_9.out.lies Fcp_9.out.lies HXp (by omega) (Lib.hid (by omega))).mono ?_
  rintro e w10 ⟨rfl, hb⟩
  have S10 := Lib.hid (hb.size)
  have B10 := Lib.hid (Below.tr B9.out hb)
  have Fxl_10 := Lib.hid (Fxl_9.out.below hb)
  clear Fxl_9
  have Fxp_10 := Lib.hid (Fxp_9.out.below hb)
  clear Fxp_9
  have Fcp_10 := Lib.hid (Fcp_9.out.below hb)
  clear Fcp_9
  clear hb
  clear Fcp_10
  go_wp2
  go_ret
  exact ⟨rfl, B10.out⟩
end Go.Proofs.Ytkkoeeoalkjhoaa
