/-
  The walk of the law of Size.
-/
import Derived.Test.YtkkoeeoalkjhoaaOnce
namespace Go.Proofs.Ytkkoeeoalkjhoaa
open Go.ChangeShapes Go.WideShapes Go.ChangeAt Go.RowKit

set_option maxRecDepth 100000 in
set_option maxHeartbeats 4000000 in
theorem lawSize (Ap : Option Addr) (capp : Nat) (p : List (List Int)) (w : World) (hnp : p.length ≤ 9223372036854775807) (hlp : LLies w Ap p) :
    Calls Try.prog 11 #[.slice Ap p.length capp] w fun e w' => e = .returned (.bool true) ∧ Below w.heap.size w w' := by
  obtain ⟨np, hxp⟩ : ∃ n, p.length = n := ⟨_, rfl⟩
  rw [hxp] at hnp ⊢
  have HXp := Lib.hid hxp
  have HLp := Lib.hid hlp
  clear hxp hlp
  go_enter Try.func11, Try.ntmps11
  go_wp2_with fail
  refine (szIntSS_any _ _ _ p _ 1048576 HLp HXp hnp (by omega) (by omega)).mono ?_
  rintro e w' ⟨⟨qp, rfl, hqp⟩, rfl⟩
  by_cases hnegp : qp < 0
  · clear hqp
    go_wp2
    go_ret
    exact ⟨rfl, Below.refl _ _⟩
  have hqqp : qp = 1048576 - (np : Int) - (tot p : Int) := by omega
  have hsp : np ≤ 1048576 := by omega
  have htp : tot p ≤ 1048576 := by omega
  have HTp : Hid (tot p ≤ 1048576) := Lib.hid htp
  have hlop : 0 ≤ qp := by omega
  have hhip : qp ≤ 1048576 := by omega
  clear hqp hqqp
  obtain ⟨r0, r1, hr⟩ : ∃ r0 r1, SizeR p r0 r1 := ⟨_, _, rfl, rfl⟩
  have HR := Lib.hid hr
  clear hr
  have hb9 : ((r0 : Int) != (r0 : Int)) = false := by simp
  go_wp2_with fail
  refine (toIntSS_any _ _ _ p _ (HLp.out.below (Below.refl _ _)) HXp hsp HTp).mono ?_
  rintro e w1 ⟨rfl, ⟨vssp, kk⟩, hb⟩
  have S1 := Lib.hid (hb.size)
  have B1 := Lib.hid (Below.tr (Below.refl _ _) hb)
  have Fsp_1 := Lib.hid (kk)
  have Psp : Hid (∀ g, ((.slice (some ⟨w.heap.size, 0, none⟩) np np : Value).ownBlock = some g ∨ blks vssp g) → w.heap.size ≤ g ∧ g < w1.heap.size) := Lib.hid (fun g h => h.elim (fun h => Fsp_1.out.outer.lt g h) (fun h => Fsp_1.out.inner.lt g h))
  clear kk hb
  go_wp2_with fail
  refine (specSize_any _ _ _ p _ r0 r1 HR Fsp_1.out.lies HXp (by omega)).mono ?_
  rintro e w2 ⟨rfl, hb⟩
  have S2 := Lib.hid (hb.size)
  have B2 := Lib.hid (Below.tr B1.out hb)
  have Fsp_2 := Lib.hid (Fsp_1.out.below hb)
  clear Fsp_1
  clear hb
  clear Fsp_2
  go_wp2_with fail
  refine (toIntSS_any _ _ _ p _ (HLp.out.below B2.out) HXp hsp HTp).mono ?_
  rintro e w3 ⟨rfl, ⟨vsxp, kk⟩, hb⟩
  have S3 := Lib.hid (hb.size)
  have B3 := Lib.hid (Below.tr B2.out hb)
  have Fxp_3 := Lib.hid (kk)
  have Pxp : Hid (∀ g, ((.slice (some ⟨w2.heap.size, 0, none⟩) np np : Value).ownBlock = some g ∨ blks vsxp g) → w2.heap.size ≤ g ∧ g < w3.heap.size) := Lib.hid (fun g h => h.elim (fun h => Fxp_3.out.outer.lt g h) (fun h => Fxp_3.out.inner.lt g h))
  clear kk hb
  go_wp2_with fail
  refine (implSize_any _ _ _ p _ r0 r1 HR Fxp_3.out.lies HXp hnp).mono ?_
  rintro e w4 ⟨rfl, hb⟩
  have S4 := Lib.hid (hb.size)
  have B4 := Lib.hid (Below.tr B3.out hb)
  have Fxp_4 := Lib.hid (Fxp_3.out.below hb)
  clear Fxp_3
  clear hb
  have hb0 : (r0 != r0) = false := by simp
  have hb1 : (r1 != r1) = false := by simp
  go_wp2_with fail
  refine (toIntSS_any _ _ _ p _ (HLp.out.below B4.out) HXp hsp HTp).mono ?_
  rintro e w5 ⟨rfl, ⟨vscp, kk⟩, hb⟩
  have S5 := Lib.hid (hb.size)
  have B5 := Lib.hid (Below.tr B4.out hb)
  have Fxp_5 := Lib.hid (Fxp_4.out.below hb)
  clear Fxp_4
  have Fcp_5 := Lib.hid (kk)
  have Pcp : Hid (∀ g, ((.slice (some ⟨w4.heap.size, 0, none⟩) np np : Value).ownBlock = some g ∨ blks vscp g) → w4.heap.size ≤ g ∧ g < w5.heap.size) := Lib.hid (fun g h => h.elim (fun h => Fcp_5.out.outer.lt g h) (fun h => Fcp_5.out.inner.lt g h))
  clear kk hb
  go_wp2_with fail
  refine (eqIntSS_same _ _ _ _ _ p _ Fxp_5.out.lies Fcp_5.out.lies HXp (by omega) (Lib.hid (by omega))).mono ?_
  rintro e w6 ⟨rfl, hb⟩
  have S6 := Lib.hid (hb.size)
  have B6 := Lib.hid (Below.tr B5.out hb)
  have Fxp_6 := Lib.hid (Fxp_5.out.below hb)
  clear Fxp_5
  have Fcp_6 := Lib.hid (Fcp_5.out.below hb)
  clear Fcp_5
  clear hb
  clear Fcp_6
  go_wp2
  go_ret
  exact ⟨rfl, B6.out⟩
end Go.Proofs.Ytkkoeeoalkjhoaa
