/-
  The walk of the law of Ref.
-/
import Derived.Test.YtkkoeeoalkjhoaaPf
namespace Go.Proofs.Ytkkoeeoalkjhoaa
open Go.ChangeShapes Go.WideShapes Go.ChangeAt Go.RowKit

set_option maxRecDepth 100000 in
set_option maxHeartbeats 4000000 in
theorem lawRef (v : Int) (Al : Option Addr) (capl : Nat) (l : List (List Int)) (w : World) (hnl : l.length ≤ 9223372036854775807) (hll : LLies w Al l) :
    Calls Try.prog 10 #[.int .i64 v, .slice Al l.length capl] w fun e w' => e = .returned (.bool true) ∧ Below w.heap.size w w' := by
  obtain ⟨nl, hxl⟩ : ∃ n, l.length = n := ⟨_, rfl⟩
  rw [hxl] at hnl ⊢
  have HXl := Lib.hid hxl
  have HLl := Lib.hid hll
  clear hxl hll
  go_enter Try.func10, Try.ntmps10
  go_wp2_with fail
  refine (szIntSS_any _ _ _ l _ 1048576 HLl HXl hnl (by omega) (by omega)).mono ?_
  rintro e w' ⟨⟨ql, rfl, hql⟩, rfl⟩
  by_cases hnegl : ql < 0
  · clear hql
    go_wp2
    go_ret
    exact ⟨rfl, Below.refl _ _⟩
  have hqql : ql = 1048576 - (nl : Int) - (tot l : Int) := by omega
  have hsl : nl ≤ 1048576 := by omega
  have htl : tot l ≤ 1048576 := by omega
  have HTl : Hid (tot l ≤ 1048576) := Lib.hid htl
  have hlol : 0 ≤ ql := by omega
  have hhil : ql ≤ 1048576 := by omega
  clear hql hqql
  obtain ⟨r0, r1, hr⟩ := refR_any v l
  have HR := Lib.hid hr
  clear hr
  go_wp2_with fail
  refine (toIntSS_any _ _ _ l _ (HLl.out.below (Below.refl _ _)) HXl hsl HTl).mono ?_
  rintro e w1 ⟨rfl, ⟨vssl, kk⟩, hb⟩
  have S1 := Lib.hid (hb.size)
  have B1 := Lib.hid (Below.tr (Below.refl _ _) hb)
  have Fsl_1 := Lib.hid (kk)
  have Psl : Hid (∀ g, ((.slice (some ⟨w.heap.size, 0, none⟩) nl nl : Value).ownBlock = some g ∨ blks vssl g) → w.heap.size ≤ g ∧ g < w1.heap.size) := Lib.hid (fun g h => h.elim (fun h => Fsl_1.out.outer.lt g h) (fun h => Fsl_1.out.inner.lt g h))
  clear kk hb
  go_wp2_with fail
  refine (specRef_any v _ _ _ l _ r0 r1 HR Fsl_1.out.lies Fsl_1.out.lnil HXl hnl).mono ?_
  rintro e w2 ⟨rfl, hb⟩
  have S2 := Lib.hid (hb.size)
  have B2 := Lib.hid (Below.tr B1.out hb)
  have Fsl_2 := Lib.hid (Fsl_1.out.below hb)
  clear Fsl_1
  clear hb
  clear Fsl_2
  go_wp2_with fail
  refine (toIntSS_any _ _ _ l _ (HLl.out.below B2.out) HXl hsl HTl).mono ?_
  rintro e w3 ⟨rfl, ⟨vsxl, kk⟩, hb⟩
  have S3 := Lib.hid (hb.size)
  have B3 := Lib.hid (Below.tr B2.out hb)
  have Fxl_3 := Lib.hid (kk)
  have Pxl : Hid (∀ g, ((.slice (some ⟨w2.heap.size, 0, none⟩) nl nl : Value).ownBlock = some g ∨ blks vsxl g) → w2.heap.size ≤ g ∧ g < w3.heap.size) := Lib.hid (fun g h => h.elim (fun h => Fxl_3.out.outer.lt g h) (fun h => Fxl_3.out.inner.lt g h))
  clear kk hb
  go_wp2_with fail
  refine (implRef_any v _ _ _ l _ r0 r1 HR Fxl_3.out.lies HXl (Lib.hid (fun h => by cases h)) hnl).mono ?_
  rintro e w4 ⟨rfl, hb⟩
  have S4 := Lib.hid (hb.size)
  have B4 := Lib.hid (Below.tr B3.out hb)
  have Fxl_4 := Lib.hid (Fxl_3.out.below hb)
  clear Fxl_3
  clear hb
  have hb0 : (r0 != r0) = false := by simp
  have hb1 : (r1 != r1) = false := by simp
  go_wp2_with fail
  refine (toIntSS_any _ _ _ l _ (HLl.out.below B4.out) HXl hsl HTl).mono ?_
  rintro e w5 ⟨rfl, ⟨vscl, kk⟩, hb⟩
  have S5 := Lib.hid (hb.size)
  have B5 := Lib.hid (Below.tr B4.out hb)
  have Fxl_5 := Lib.hid (Fxl_4.out.below hb)
  clear Fxl_4
  have Fcl_5 := Lib.hid (kk)
  have Pcl : Hid (∀ g, ((.slice (some ⟨w4.heap.size, 0, none⟩) nl nl : Value).ownBlock = some g ∨ blks vscl g) → w4.heap.size ≤ g ∧ g < w5.heap.size) := Lib.hid (fun g h => h.elim (fun h => Fcl_5.out.outer.lt g h) (fun h => Fcl_5.out.inner.lt g h))
  clear kk hb
  go_wp2_with fail
  refine (eqIntSS_same _ _ _ _ _ l _ Fxl_5.out.lies Fcl_5.out.lies HXl (by omega) (Lib.hid (by omega))).mono ?_
  rintro e w6 ⟨rfl, hb⟩
  have S6 := Lib.hid (hb.size)
  have B6 := Lib.hid (Below.tr B5.out hb)
  have Fxl_6 := Lib.hid (Fxl_5.out.below hb)
  clear Fxl_5
  have Fcl_6 := Lib.hid (Fcl_5.out.below hb)
  clear Fcl_5
  clear hb
  clear Fcl_6
  go_wp2
  go_ret
  exact ⟨rfl, B6.out⟩
end Go.Proofs.Ytkkoeeoalkjhoaa
