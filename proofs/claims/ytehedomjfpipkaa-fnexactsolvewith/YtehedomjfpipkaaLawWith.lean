/-
  The walk of the law of With.
-/
import Derived.Test.YtehedomjfpipkaaWith
namespace Go.Proofs.Ytehedomjfpipkaa
open Go.ChangeShapes Go.WideShapes Go.ChangeAt Go.RowKit

set_option maxRecDepth 100000 in
set_option maxHeartbeats 4000000 in
theorem lawWith (v : Int) (Al : Option Addr) (capl : Nat) (l : List (List Int)) (Agv : Option Addr) (capgv : Nat) (gv : List Int) (w : World) (hnl : l.length ≤ 9223372036854775807) (hll : LLies w Al l) (hngv : gv.length ≤ 9223372036854775807) (hlgv : ILies w Agv gv) :
    Calls Try.prog 8 #[.int .i64 v, .slice Al l.length capl, .slice Agv gv.length capgv] w fun e w' => e = .returned (.bool true) ∧ Below w.heap.size w w' := by
  obtain ⟨nl, hxl⟩ : ∃ n, l.length = n := ⟨_, rfl⟩
  rw [hxl] at hnl ⊢
  have HXl := Lib.hid hxl
  have HLl := Lib.hid hll
  clear hxl hll
  obtain ⟨ngv, hxgv⟩ : ∃ n, gv.length = n := ⟨_, rfl⟩
  rw [hxgv] at hngv ⊢
  have HXgv := Lib.hid hxgv
  have HLgv := Lib.hid hlgv
  clear hxgv hlgv
  by_cases hbgv : 1048576 < ngv
  · go_enter Try.func8, Try.ntmps8
    go_wp2
    go_ret
    exact ⟨rfl, Below.refl _ _⟩
  have hsgv : ngv ≤ 1048576 := by omega
  go_enter Try.func8, Try.ntmps8
  go_wp2_with fail
  refine (szIntSS_any _ _ _ l _ 1048576 HLl HXl hnl (by omega) (by omega)).mono ?_
  rintro e w' ⟨⟨ql, rfl, hql⟩, rfl⟩
  by_cases hnegl : ql < 0
  · clear hql
    go_wp2
    go_ret
    exact ⟨rfl, Below.refl _ _⟩
  have hqql : ql = 1048576 - (nl : Int) - (tot l : Int) := by omega
  have hsl : nl ≤ 1048576 := by omega
  have htl : tot l ≤ 1048576 := by omega
  have HTl : Hid (tot l ≤ 1048576) := Lib.hid htl
  clear hql
  obtain ⟨r0, r1, r2, r3, hr⟩ := withR_any v l gv
  have hrl : r1.length ≤ 1000 := by have := hr.small.1; omega
  have hrl2 : r2.length ≤ 1000 := by have := hr.small.2.1; omega
  have hrt : tot r2 ≤ 10000 := by have := hr.small.2.2; omega
  have HR := Lib.hid hr
  clear hr
  go_wp2_with fail
  refine (toIntSS_any _ _ _ l _ (HLl.out.below (Below.refl _ _)) HXl hsl HTl).mono ?_
  rintro e w1 ⟨rfl, ⟨vssl, kk⟩, hb⟩
  have S1 := Lib.hid (hb.size)
  have B1 := Lib.hid (Below.tr (Below.refl _ _) hb)
  have Fsl_1 := Lib.hid (kk)
  have Psl : Hid (∀ g, ((.slice (some ⟨w.heap.size, 0, none⟩) nl nl : Value).ownBlock = some g ∨ blks vssl g) → w.heap.size ≤ g ∧ g < w1.heap.size) := Lib.hid (fun g h => h.elim (fun h => Fsl_1.out.outer.lt g h) (fun h => Fsl_1.out.inner.lt g h))
  clear kk hb
  go_wp2_with fail
  refine (toIntS_any _ _ _ gv _ (HLgv.out.below B1.out) HXgv hsgv).mono ?_
  rintro e w2 ⟨rfl, kk, hb⟩
  have S2 := Lib.hid (hb.size)
  have B2 := Lib.hid (Below.tr B1.out hb)
  have Fsl_2 := Lib.hid (Fsl_1.out.below hb)
  clear Fsl_1
  have Fsgv_2 := Lib.hid (own_of_vblk kk (by simpa using HXgv.out) hsgv)
  have Psgv : Hid (∀ g, (.slice (some ⟨w1.heap.size, 0, none⟩) ngv ngv : Value).ownBlock = some g → w1.heap.size ≤ g ∧ g < w2.heap.size) := Lib.hid (fun g h => Fsgv_2.out.lt g h)
  clear kk hb
  go_wp2_with fail
  refine (specWith_any v _ _ _ _ _ _ l gv _ r0 r1 r2 r3 HR Fsl_2.out.lies Fsl_2.out.lnil (own_ilies Fsgv_2.out) HXl HXgv hnl hngv (Nat.le_refl _)).mono ?_
  rintro e w3 ⟨Aw1, cw1, Aw2, cw2, vsw2, rfl, ho1, ho2, hap, hb⟩
  have S3 := Lib.hid (hb.size)
  have B3 := Lib.hid (Below.tr B2.out hb)
  have Fsl_3 := Lib.hid (Fsl_2.out.below hb)
  clear Fsl_2
  have Fsgv_3 := Lib.hid (own_below Fsgv_2.out hb)
  clear Fsgv_2
  have APw := Lib.hid hap
  clear hap
  have Fw1_3 := Lib.hid (ho1)
  have Pw1 : Hid (∀ g, (.slice Aw1 r1.length cw1 : Value).ownBlock = some g → w2.heap.size ≤ g ∧ g < w3.heap.size) := Lib.hid (fun g h => Fw1_3.out.lt g h)
  have Fw2_3 := Lib.hid (ho2)
  have Pw2 : Hid (∀ g, ((.slice Aw2 r2.length cw2 : Value).ownBlock = some g ∨ blks vsw2 g) → w2.heap.size ≤ g ∧ g < w3.heap.size) := Lib.hid (fun g h => h.elim (fun h => Fw2_3.out.outer.lt g h) (fun h => Fw2_3.out.inner.lt g h))
  clear hb ho1 ho2
  clear Fsl_3
  clear Fsgv_3
  go_wp2_with fail
  refine (toIntSS_any _ _ _ l _ (HLl.out.below B3.out) HXl hsl HTl).mono ?_
  rintro e w4 ⟨rfl, ⟨vsxl, kk⟩, hb⟩
  have S4 := Lib.hid (hb.size)
  have B4 := Lib.hid (Below.tr B3.out hb)
  have Fw1_4 := Lib.hid (own_below Fw1_3.out hb)
  clear Fw1_3
  have Fw2_4 := Lib.hid (Fw2_3.out.below hb)
  clear Fw2_3
  have Fxl_4 := Lib.hid (kk)
  have Pxl : Hid (∀ g, ((.slice (some ⟨w3.heap.size, 0, none⟩) nl nl : Value).ownBlock = some g ∨ blks vsxl g) → w3.heap.size ≤ g ∧ g < w4.heap.size) := Lib.hid (fun g h => h.elim (fun h => Fxl_4.out.outer.lt g h) (fun h => Fxl_4.out.inner.lt g h))
  clear kk hb
  go_wp2_with fail
  refine (toIntS_any _ _ _ gv _ (HLgv.out.below B4.out) HXgv hsgv).mono ?_
  rintro e w5 ⟨rfl, kk, hb⟩
  have S5 := Lib.hid (hb.size)
  have B5 := Lib.hid (Below.tr B4.out hb)
  have Fw1_5 := Lib.hid (own_below Fw1_4.out hb)
  clear Fw1_4
  have Fw2_5 := Lib.hid (Fw2_4.out.below hb)
  clear Fw2_4
  have Fxl_5 := Lib.hid (Fxl_4.out.below hb)
  clear Fxl_4
  have Fxgv_5 := Lib.hid (own_of_vblk kk (by simpa using HXgv.out) hsgv)
  have Pxgv : Hid (∀ g, (.slice (some ⟨w4.heap.size, 0, none⟩) ngv ngv : Value).ownBlock = some g → w4.heap.size ≤ g ∧ g < w5.heap.size) := Lib.hid (fun g h => Fxgv_5.out.lt g h)
  clear kk hb
  go_wp2_with fail
  refine (implWith_any v _ _ _ _ _ _ l gv _ r0 r1 r2 r3 HR Fxl_5.out.lies (own_ilies Fxgv_5.out) HXl HXgv (Lib.hid (fun h => by cases h)) hnl hngv).mono ?_
  rintro e w6 ⟨Ag1, cg1, Ag2, cg2, vsg2, rfl, ho1, ho2, hap, hb⟩
  have S6 := Lib.hid (hb.size)
  have B6 := Lib.hid (Below.tr B5.out hb)
  have Fw1_6 := Lib.hid (own_below Fw1_5.out hb)
  clear Fw1_5
  have Fw2_6 := Lib.hid (Fw2_5.out.below hb)
  clear Fw2_5
  have Fxl_6 := Lib.hid (Fxl_5.out.below hb)
  clear Fxl_5
  have Fxgv_6 := Lib.hid (own_below Fxgv_5.out hb)
  clear Fxgv_5
  have APg := Lib.hid hap
  clear hap
  have Fg1_6 := Lib.hid (ho1)
  have Pg1 : Hid (∀ g, (.slice Ag1 r1.length cg1 : Value).ownBlock = some g → w5.heap.size ≤ g ∧ g < w6.heap.size) := Lib.hid (fun g h => Fg1_6.out.lt g h)
  have Fg2_6 := Lib.hid (ho2)
  have Pg2 : Hid (∀ g, ((.slice Ag2 r2.length cg2 : Value).ownBlock = some g ∨ blks vsg2 g) → w5.heap.size ≤ g ∧ g < w6.heap.size) := Lib.hid (fun g h => h.elim (fun h => Fg2_6.out.outer.lt g h) (fun h => Fg2_6.out.inner.lt g h))
  clear hb ho1 ho2
  have hb0 : (r0 != r0) = false := by simp
  have hb3 : (r3 != r3) = false := by simp
  go_wp2_with fail
  refine (eqBoolS_same _ _ _ _ _ r1 _ (own_blies Fg1_6.out) (own_blies Fw1_6.out) (Lib.hid rfl) (by omega)).mono ?_
  rintro e w7 ⟨rfl, hb⟩
  have S7 := Lib.hid (hb.size)
  have B7 := Lib.hid (Below.tr B6.out hb)
  have Fw1_7 := Lib.hid (own_below Fw1_6.out hb)
  clear Fw1_6
  have Fw2_7 := Lib.hid (Fw2_6.out.below hb)
  clear Fw2_6
  have Fxl_7 := Lib.hid (Fxl_6.out.below hb)
  clear Fxl_6
  have Fxgv_7 := Lib.hid (own_below Fxgv_6.out hb)
  clear Fxgv_6
  have Fg1_7 := Lib.hid (own_below Fg1_6.out hb)
  clear Fg1_6
  have Fg2_7 := Lib.hid (Fg2_6.out.below hb)
  clear Fg2_6
  clear hb
  go_wp2_with fail
  refine (eqIntSS_same _ _ _ _ _ r2 _ Fg2_7.out.lies Fw2_7.out.lies (Lib.hid rfl) (by omega) (Lib.hid (by omega))).mono ?_
  rintro e w8 ⟨rfl, hb⟩
  have S8 := Lib.hid (hb.size)
  have B8 := Lib.hid (Below.tr B7.out hb)
  have Fw1_8 := Lib.hid (own_below Fw1_7.out hb)
  clear Fw1_7
  have Fw2_8 := Lib.hid (Fw2_7.out.below hb)
  clear Fw2_7
  have Fxl_8 := Lib.hid (Fxl_7.out.below hb)
  clear Fxl_7
  have Fxgv_8 := Lib.hid (own_below Fxgv_7.out hb)
  clear Fxgv_7
  have Fg1_8 := Lib.hid (own_below Fg1_7.out hb)
  clear Fg1_7
  have Fg2_8 := Lib.hid (Fg2_7.out.below hb)
  clear Fg2_7
  clear hb
  go_wp2_with fail
  refine (toIntSS_any _ _ _ l _ (HLl.out.below B8.out) HXl hsl HTl).mono ?_
  rintro e w9 ⟨rfl, ⟨vscl, kk⟩, hb⟩
  have S9 := Lib.hid (hb.size)
  have B9 := Lib.hid (Below.tr B8.out hb)
  have Fw1_9 := Lib.hid (own_below Fw1_8.out hb)
  clear Fw1_8
  have Fw2_9 := Lib.hid (Fw2_8.out.below hb)
  clear Fw2_8
  have Fxl_9 := Lib.hid (Fxl_8.out.below hb)
  clear Fxl_8
  have Fxgv_9 := Lib.hid (own_below Fxgv_8.out hb)
  clear Fxgv_8
  have Fg1_9 := Lib.hid (own_below Fg1_8.out hb)
  clear Fg1_8
  have Fg2_9 := Lib.hid (Fg2_8.out.below hb)
  clear Fg2_8
  have Fcl_9 := Lib.hid (kk)
  have Pcl : Hid (∀ g, ((.slice (some ⟨w8.heap.size, 0, none⟩) nl nl : Value).ownBlock = some g ∨ blks vscl g) → w8.heap.size ≤ g ∧ g < w9.heap.size) := Lib.hid (fun g h => h.elim (fun h => Fcl_9.out.outer.lt g h) (fun h => Fcl_9.out.inner.lt g h))
  clear kk hb
  go_wp2_with fail
  refine (eqIntSS_same _ _ _ _ _ l _ Fxl_9.out.lies Fcl_9.out.lies HXl (by omega) (Lib.hid (by omega))).mono ?_
  rintro e w10 ⟨rfl, hb⟩
  have S10 := Lib.hid (hb.size)
  have B10 := Lib.hid (Below.tr B9.out hb)
  have Fw1_10 := Lib.hid (own_below Fw1_9.out hb)
  clear Fw1_9
  have Fw2_10 := Lib.hid (Fw2_9.out.below hb)
  clear Fw2_9
  have Fxl_10 := Lib.hid (Fxl_9.out.below hb)
  clear Fxl_9
  have Fxgv_10 := Lib.hid (own_below Fxgv_9.out hb)
  clear Fxgv_9
  have Fg1_10 := Lib.hid (own_below Fg1_9.out hb)
  clear Fg1_9
  have Fg2_10 := Lib.hid (Fg2_9.out.below hb)
  clear Fg2_9
  have Fcl_10 := Lib.hid (Fcl_9.out.below hb)
  clear Fcl_9
  clear hb
  clear Fcl_10
  go_wp2_with fail
  refine (toIntS_any _ _ _ gv _ (HLgv.out.below B10.out) HXgv hsgv).mono ?_
  rintro e w11 ⟨rfl, kk, hb⟩
  have S11 := Lib.hid (hb.size)
  have B11 := Lib.hid (Below.tr B10.out hb)
  have Fw1_11 := Lib.hid (own_below Fw1_10.out hb)
  clear Fw1_10
  have Fw2_11 := Lib.hid (Fw2_10.out.below hb)
  clear Fw2_10
  have Fxl_11 := Lib.hid (Fxl_10.out.below hb)
  clear Fxl_10
  have Fxgv_11 := Lib.hid (own_below Fxgv_10.out hb)
  clear Fxgv_10
  have Fg1_11 := Lib.hid (own_below Fg1_10.out hb)
  clear Fg1_10
  have Fg2_11 := Lib.hid (Fg2_10.out.below hb)
  clear Fg2_10
  have Fcgv_11 := Lib.hid (own_of_vblk kk (by simpa using HXgv.out) hsgv)
  have Pcgv : Hid (∀ g, (.slice (some ⟨w10.heap.size, 0, none⟩) ngv ngv : Value).ownBlock = some g → w10.heap.size ≤ g ∧ g < w11.heap.size) := Lib.hid (fun g h => Fcgv_11.out.lt g h)
  clear kk hb
  go_wp2_with fail
  refine (eqIntS_same _ _ _ _ _ gv _ (own_ilies Fxgv_11.out) (own_ilies Fcgv_11.out) HXgv (by omega)).mono ?_
  rintro e w12 ⟨rfl, hb⟩
  have S12 := Lib.hid (hb.size)
  have B12 := Lib.hid (Below.tr B11.out hb)
  have Fw1_12 := Lib.hid (own_below Fw1_11.out hb)
  clear Fw1_11
  have Fw2_12 := Lib.hid (Fw2_11.out.below hb)
  clear Fw2_11
  have Fxl_12 := Lib.hid (Fxl_11.out.below hb)
  clear Fxl_11
  have Fxgv_12 := Lib.hid (own_below Fxgv_11.out hb)
  clear Fxgv_11
  have Fg1_12 := Lib.hid (own_below Fg1_11.out hb)
  clear Fg1_11
  have Fg2_12 := Lib.hid (Fg2_11.out.below hb)
  clear Fg2_11
  have Fcgv_12 := Lib.hid (own_below Fcgv_11.out hb)
  clear Fcgv_11
  clear hb
  clear Fcgv_12
  go_wp2_with fail
  refine (markIntSS_any _ _ _ _ _ l (1) _ Fxl_12 (by first | exact Lib.hid rfl | exact HXl) (by omega) (Lib.hid (by omega)) (by omega)).mono ?_
  rintro e w13 ⟨rfl, ho, hk⟩
  have S13 := Lib.hid (hk.size)
  have B13 := Lib.hid (hk.below B12.out B12.out.size (fun i hi => by have := Pxl.out i (.inr hi); have := S1.out; have := S2.out; have := S3.out; have := S4.out; have := S5.out; have := S6.out; have := S7.out; have := S8.out; have := S9.out; have := S10.out; have := S11.out; have := S12.out; have := S13.out; omega))
  have Fw1_13 := Lib.hid (hk.own Fw1_12.out (fun g h q => by have := Pxl.out g (.inr q); have := Pw1.out g h; have := S1.out; have := S2.out; have := S3.out; have := S4.out; have := S5.out; have := S6.out; have := S7.out; have := S8.out; have := S9.out; have := S10.out; have := S11.out; have := S12.out; have := S13.out; omega))
  clear Fw1_12
  have Fw2_13 := Lib.hid (Fw2_12.out.kept hk (fun g h q => by have := Pxl.out g (.inr q); have := Pw2.out g (.inl h); have := S1.out; have := S2.out; have := S3.out; have := S4.out; have := S5.out; have := S6.out; have := S7.out; have := S8.out; have := S9.out; have := S10.out; have := S11.out; have := S12.out; have := S13.out; omega) (fun g h q => by have := Pxl.out g (.inr q); have := Pw2.out g (.inr h); have := S1.out; have := S2.out; have := S3.out; have := S4.out; have := S5.out; have := S6.out; have := S7.out; have := S8.out; have := S9.out; have := S10.out; have := S11.out; have := S12.out; have := S13.out; omega))
  clear Fw2_12
  have Fxgv_13 := Lib.hid (hk.own Fxgv_12.out (fun g h q => by have := Pxl.out g (.inr q); have := Pxgv.out g h; have := S1.out; have := S2.out; have := S3.out; have := S4.out; have := S5.out; have := S6.out; have := S7.out; have := S8.out; have := S9.out; have := S10.out; have := S11.out; have := S12.out; have := S13.out; omega))
  clear Fxgv_12
  have Fg1_13 := Lib.hid (hk.own Fg1_12.out (fun g h q => by have := Pxl.out g (.inr q); have := Pg1.out g h; have := S1.out; have := S2.out; have := S3.out; have := S4.out; have := S5.out; have := S6.out; have := S7.out; have := S8.out; have := S9.out; have := S10.out; have := S11.out; have := S12.out; have := S13.out; omega))
  clear Fg1_12
  have Fg2_13 := Lib.hid (Fg2_12.out.kept hk (fun g h q => by have := Pxl.out g (.inr q); have := Pg2.out g (.inl h); have := S1.out; have := S2.out; have := S3.out; have := S4.out; have := S5.out; have := S6.out; have := S7.out; have := S8.out; have := S9.out; have := S10.out; have := S11.out; have := S12.out; have := S13.out; omega) (fun g h q => by have := Pxl.out g (.inr q); have := Pg2.out g (.inr h); have := S1.out; have := S2.out; have := S3.out; have := S4.out; have := S5.out; have := S6.out; have := S7.out; have := S8.out; have := S9.out; have := S10.out; have := S11.out; have := S12.out; have := S13.out; omega))
  clear Fg2_12
  clear ho hk
  clear Fxl_12
  go_wp2_with fail
  refine (markIntS_any _ _ _ _ gv (1 + (tot l : Int)) _ Fxgv_13 (by omega) (by omega)).mono ?_
  rintro e w14 ⟨rfl, ho, hg⟩
  have hk := Kept.of_grown (S := fun g => (.slice (some ⟨w4.heap.size, 0, none⟩) ngv ngv : Value).ownBlock = some g) hg (fun g h => h)
  clear hg
  have S14 := Lib.hid (hk.size)
  have B14 := Lib.hid (hk.below B13.out B13.out.size (fun i hi => by have := Pxgv.out i hi; have := S1.out; have := S2.out; have := S3.out; have := S4.out; have := S5.out; have := S6.out; have := S7.out; have := S8.out; have := S9.out; have := S10.out; have := S11.out; have := S12.out; have := S13.out; have := S14.out; omega))
  have Fw1_14 := Lib.hid (hk.own Fw1_13.out (fun g h q => by have := Pxgv.out g q; have := Pw1.out g h; have := S1.out; have := S2.out; have := S3.out; have := S4.out; have := S5.out; have := S6.out; have := S7.out; have := S8.out; have := S9.out; have := S10.out; have := S11.out; have := S12.out; have := S13.out; have := S14.out; omega))
  clear Fw1_13
  have Fw2_14 := Lib.hid (Fw2_13.out.kept hk (fun g h q => by have := Pxgv.out g q; have := Pw2.out g (.inl h); have := S1.out; have := S2.out; have := S3.out; have := S4.out; have := S5.out; have := S6.out; have := S7.out; have := S8.out; have := S9.out; have := S10.out; have := S11.out; have := S12.out; have := S13.out; have := S14.out; omega) (fun g h q => by have := Pxgv.out g q; have := Pw2.out g (.inr h); have := S1.out; have := S2.out; have := S3.out; have := S4.out; have := S5.out; have := S6.out; have := S7.out; have := S8.out; have := S9.out; have := S10.out; have := S11.out; have := S12.out; have := S13.out; have := S14.out; omega))
  clear Fw2_13
  have Fg1_14 := Lib.hid (hk.own Fg1_13.out (fun g h q => by have := Pxgv.out g q; have := Pg1.out g h; have := S1.out; have := S2.out; have := S3.out; have := S4.out; have := S5.out; have := S6.out; have := S7.out; have := S8.out; have := S9.out; have := S10.out; have := S11.out; have := S12.out; have := S13.out; have := S14.out; omega))
  clear Fg1_13
  have Fg2_14 := Lib.hid (Fg2_13.out.kept hk (fun g h q => by have := Pxgv.out g q; have := Pg2.out g (.inl h); have := S1.out; have := S2.out; have := S3.out; have := S4.out; have := S5.out; have := S6.out; have := S7.out; have := S8.out; have := S9.out; have := S10.out; have := S11.out; have := S12.out; have := S13.out; have := S14.out; omega) (fun g h q => by have := Pxgv.out g q; have := Pg2.out g (.inr h); have := S1.out; have := S2.out; have := S3.out; have := S4.out; have := S5.out; have := S6.out; have := S7.out; have := S8.out; have := S9.out; have := S10.out; have := S11.out; have := S12.out; have := S13.out; have := S14.out; omega))
  clear Fg2_13
  clear ho hk
  clear Fxgv_13
  have hnegk : decide (1 + (tot l : Int) + (ngv : Int) < 0) = false := by simp; omega
  go_wp2_with fail
  refine (eqBoolS_same _ _ _ _ _ r1 _ (own_blies Fg1_14.out) (own_blies Fw1_14.out) (Lib.hid rfl) (by omega)).mono ?_
  rintro e w15 ⟨rfl, hb⟩
  have S15 := Lib.hid (hb.size)
  have B15 := Lib.hid (Below.tr B14.out hb)
  have Fw1_15 := Lib.hid (own_below Fw1_14.out hb)
  clear Fw1_14
  have Fw2_15 := Lib.hid (Fw2_14.out.below hb)
  clear Fw2_14
  have Fg1_15 := Lib.hid (own_below Fg1_14.out hb)
  clear Fg1_14
  have Fg2_15 := Lib.hid (Fg2_14.out.below hb)
  clear Fg2_14
  clear hb
  go_wp2_with fail
  refine (eqIntSS_same _ _ _ _ _ r2 _ Fg2_15.out.lies Fw2_15.out.lies (Lib.hid rfl) (by omega) (Lib.hid (by omega))).mono ?_
  rintro e w16 ⟨rfl, hb⟩
  have S16 := Lib.hid (hb.size)
  have B16 := Lib.hid (Below.tr B15.out hb)
  have Fw1_16 := Lib.hid (own_below Fw1_15.out hb)
  clear Fw1_15
  have Fw2_16 := Lib.hid (Fw2_15.out.below hb)
  clear Fw2_15
  have Fg1_16 := Lib.hid (own_below Fg1_15.out hb)
  clear Fg1_15
  have Fg2_16 := Lib.hid (Fg2_15.out.below hb)
  clear Fg2_15
  clear hb
  go_wp2_with fail
  refine (markBoolS_any _ _ _ _ r1 (1) _ Fg1_16 (by omega) (by omega)).mono ?_
  rintro e w17 ⟨rfl, ho, hg⟩
  have hk := Kept.of_grown (S := fun g => (.slice Ag1 r1.length cg1 : Value).ownBlock = some g) hg (fun g h => h)
  clear hg
  have S17 := Lib.hid (hk.size)
  have B17 := Lib.hid (hk.below B16.out B16.out.size (fun i hi => by have := Pg1.out i hi; have := S1.out; have := S2.out; have := S3.out; have := S4.out; have := S5.out; have := S6.out; have := S7.out; have := S8.out; have := S9.out; have := S10.out; have := S11.out; have := S12.out; have := S13.out; have := S14.out; have := S15.out; have := S16.out; have := S17.out; omega))
  have Fw1_17 := Lib.hid (hk.own Fw1_16.out (fun g h q => by have := Pg1.out g q; have := Pw1.out g h; have := S1.out; have := S2.out; have := S3.out; have := S4.out; have := S5.out; have := S6.out; have := S7.out; have := S8.out; have := S9.out; have := S10.out; have := S11.out; have := S12.out; have := S13.out; have := S14.out; have := S15.out; have := S16.out; have := S17.out; omega))
  clear Fw1_16
  have Fw2_17 := Lib.hid (Fw2_16.out.kept hk (fun g h q => by have := Pg1.out g q; have := Pw2.out g (.inl h); have := S1.out; have := S2.out; have := S3.out; have := S4.out; have := S5.out; have := S6.out; have := S7.out; have := S8.out; have := S9.out; have := S10.out; have := S11.out; have := S12.out; have := S13.out; have := S14.out; have := S15.out; have := S16.out; have := S17.out; omega) (fun g h q => by have := Pg1.out g q; have := Pw2.out g (.inr h); have := S1.out; have := S2.out; have := S3.out; have := S4.out; have := S5.out; have := S6.out; have := S7.out; have := S8.out; have := S9.out; have := S10.out; have := S11.out; have := S12.out; have := S13.out; have := S14.out; have := S15.out; have := S16.out; have := S17.out; omega))
  clear Fw2_16
  have Fg2_17 := Lib.hid (Fg2_16.out.kept hk (fun g h q => (APg.out g q).1 h) (fun g h q => (APg.out g q).2 h))
  clear Fg2_16
  clear Fg1_16
  have Fg1_17 := Lib.hid ho
  clear ho hk
  go_wp2_with fail
  refine (markIntSS_any _ _ _ _ _ r2 (1 + (r1.length : Int)) _ Fg2_17 (by first | exact Lib.hid rfl | exact HXr2) (by omega) (Lib.hid (by omega)) (by omega)).mono ?_
  rintro e w18 ⟨rfl, ho, hk⟩
  have S18 := Lib.hid (hk.size)
  have B18 := Lib.hid (hk.below B17.out B17.out.size (fun i hi => by have := Pg2.out i (.inr hi); have := S1.out; have := S2.out; have := S3.out; have := S4.out; have := S5.out; have := S6.out; have := S7.out; have := S8.out; have := S9.out; have := S10.out; have := S11.out; have := S12.out; have := S13.out; have := S14.out; have := S15.out; have := S16.out; have := S17.out; have := S18.out; omega))
  have Fw1_18 := Lib.hid (hk.own Fw1_17.out (fun g h q => by have := Pg2.out g (.inr q); have := Pw1.out g h; have := S1.out; have := S2.out; have := S3.out; have := S4.out; have := S5.out; have := S6.out; have := S7.out; have := S8.out; have := S9.out; have := S10.out; have := S11.out; have := S12.out; have := S13.out; have := S14.out; have := S15.out; have := S16.out; have := S17.out; have := S18.out; omega))
  clear Fw1_17
  have Fw2_18 := Lib.hid (Fw2_17.out.kept hk (fun g h q => by have := Pg2.out g (.inr q); have := Pw2.out g (.inl h); have := S1.out; have := S2.out; have := S3.out; have := S4.out; have := S5.out; have := S6.out; have := S7.out; have := S8.out; have := S9.out; have := S10.out; have := S11.out; have := S12.out; have := S13.out; have := S14.out; have := S15.out; have := S16.out; have := S17.out; have := S18.out; omega) (fun g h q => by have := Pg2.out g (.inr q); have := Pw2.out g (.inr h); have := S1.out; have := S2.out; have := S3.out; have := S4.out; have := S5.out; have := S6.out; have := S7.out; have := S8.out; have := S9.out; have := S10.out; have := S11.out; have := S12.out; have := S13.out; have := S14.out; have := S15.out; have := S16.out; have := S17.out; have := S18.out; omega))
  clear Fw2_17
  have Fg1_18 := Lib.hid (hk.own Fg1_17.out (fun g h q => (APg.out g h).2 q))
  clear Fg1_17
  clear Fg2_17
  have Fg2_18 := Lib.hid ho
  clear ho hk
  have hnegm : decide (1 + (r1.length : Int) + (tot r2 : Int) < 0) = false := by simp; omega
  have heqm : ((1 + (r1.length : Int) + (tot r2 : Int) : Int) != (1 + (r1.length : Int) + (tot r2 : Int) : Int)) = false := by simp
  go_wp2_with fail
  refine (heldBoolS_any _ _ _ (1) _ (own_blies Fg1_18.out) (by omega) (by omega)).mono ?_
  rintro e w19 ⟨rfl, hb⟩
  have S19 := Lib.hid (hb.size)
  have B19 := Lib.hid (Below.tr B18.out hb)
  have Fw1_19 := Lib.hid (own_below Fw1_18.out hb)
  clear Fw1_18
  have Fw2_19 := Lib.hid (Fw2_18.out.below hb)
  clear Fw2_18
  have Fg1_19 := Lib.hid (own_below Fg1_18.out hb)
  clear Fg1_18
  have Fg2_19 := Lib.hid (Fg2_18.out.below hb)
  clear Fg2_18
  clear hb
  go_wp2_with fail
  refine (heldIntSS_any _ _ _ r2 (1 + (r1.length : Int)) _ Fg2_19.out.lies (Lib.hid rfl) (by omega) (Lib.hid (by omega)) (by omega)).mono ?_
  rintro e w' ⟨rfl, rfl⟩
  go_wp2_with fail
  refine (toIntSS_any _ _ _ l _ (HLl.out.below B19.out) HXl hsl HTl).mono ?_
  rintro e w20 ⟨rfl, ⟨vsyl, kk⟩, hb⟩
  have S20 := Lib.hid (hb.size)
  have B20 := Lib.hid (Below.tr B19.out hb)
  have Fw1_20 := Lib.hid (own_below Fw1_19.out hb)
  clear Fw1_19
  have Fw2_20 := Lib.hid (Fw2_19.out.below hb)
  clear Fw2_19
  have Fg1_20 := Lib.hid (own_below Fg1_19.out hb)
  clear Fg1_19
  have Fg2_20 := Lib.hid (Fg2_19.out.below hb)
  clear Fg2_19
  have Fyl_20 := Lib.hid (kk)
  have Pyl : Hid (∀ g, ((.slice (some ⟨w19.heap.size, 0, none⟩) nl nl : Value).ownBlock = some g ∨ blks vsyl g) → w19.heap.size ≤ g ∧ g < w20.heap.size) := Lib.hid (fun g h => h.elim (fun h => Fyl_20.out.outer.lt g h) (fun h => Fyl_20.out.inner.lt g h))
  clear kk hb
  go_wp2_with fail
  refine (toIntS_any _ _ _ gv _ (HLgv.out.below B20.out) HXgv hsgv).mono ?_
  rintro e w21 ⟨rfl, kk, hb⟩
  have S21 := Lib.hid (hb.size)
  have B21 := Lib.hid (Below.tr B20.out hb)
  have Fw1_21 := Lib.hid (own_below Fw1_20.out hb)
  clear Fw1_20
  have Fw2_21 := Lib.hid (Fw2_20.out.below hb)
  clear Fw2_20
  have Fg1_21 := Lib.hid (own_below Fg1_20.out hb)
  clear Fg1_20
  have Fg2_21 := Lib.hid (Fg2_20.out.below hb)
  clear Fg2_20
  have Fyl_21 := Lib.hid (Fyl_20.out.below hb)
  clear Fyl_20
  have Fygv_21 := Lib.hid (own_of_vblk kk (by simpa using HXgv.out) hsgv)
  have Pygv : Hid (∀ g, (.slice (some ⟨w20.heap.size, 0, none⟩) ngv ngv : Value).ownBlock = some g → w20.heap.size ≤ g ∧ g < w21.heap.size) := Lib.hid (fun g h => Fygv_21.out.lt g h)
  clear kk hb
  go_wp2_with fail
  refine (implWith_any v _ _ _ _ _ _ l gv _ r0 r1 r2 r3 HR Fyl_21.out.lies (own_ilies Fygv_21.out) HXl HXgv (Lib.hid (fun h => by cases h)) hnl hngv).mono ?_
  rintro e w22 ⟨Ah1, ch1, Ah2, ch2, vsh2, rfl, ho1, ho2, hap, hb⟩
  have S22 := Lib.hid (hb.size)
  have B22 := Lib.hid (Below.tr B21.out hb)
  have Fw1_22 := Lib.hid (own_below Fw1_21.out hb)
  clear Fw1_21
  have Fw2_22 := Lib.hid (Fw2_21.out.below hb)
  clear Fw2_21
  have Fg1_22 := Lib.hid (own_below Fg1_21.out hb)
  clear Fg1_21
  have Fg2_22 := Lib.hid (Fg2_21.out.below hb)
  clear Fg2_21
  have Fyl_22 := Lib.hid (Fyl_21.out.below hb)
  clear Fyl_21
  have Fygv_22 := Lib.hid (own_below Fygv_21.out hb)
  clear Fygv_21
  have APh := Lib.hid hap
  clear hap
  have Fh1_22 := Lib.hid (ho1)
  have Ph1 : Hid (∀ g, (.slice Ah1 r1.length ch1 : Value).ownBlock = some g → w21.heap.size ≤ g ∧ g < w22.heap.size) := Lib.hid (fun g h => Fh1_22.out.lt g h)
  have Fh2_22 := Lib.hid (ho2)
  have Ph2 : Hid (∀ g, ((.slice Ah2 r2.length ch2 : Value).ownBlock = some g ∨ blks vsh2 g) → w21.heap.size ≤ g ∧ g < w22.heap.size) := Lib.hid (fun g h => h.elim (fun h => Fh2_22.out.outer.lt g h) (fun h => Fh2_22.out.inner.lt g h))
  clear hb ho1 ho2
  clear Fyl_22
  clear Fygv_22
  go_wp2_with fail
  refine (eqBoolS_same _ _ _ _ _ r1 _ (own_blies Fh1_22.out) (own_blies Fw1_22.out) (Lib.hid rfl) (by omega)).mono ?_
  rintro e w23 ⟨rfl, hb⟩
  have S23 := Lib.hid (hb.size)
  have B23 := Lib.hid (Below.tr B22.out hb)
  have Fw1_23 := Lib.hid (own_below Fw1_22.out hb)
  clear Fw1_22
  have Fw2_23 := Lib.hid (Fw2_22.out.below hb)
  clear Fw2_22
  have Fg1_23 := Lib.hid (own_below Fg1_22.out hb)
  clear Fg1_22
  have Fg2_23 := Lib.hid (Fg2_22.out.below hb)
  clear Fg2_22
  have Fh1_23 := Lib.hid (own_below Fh1_22.out hb)
  clear Fh1_22
  have Fh2_23 := Lib.hid (Fh2_22.out.below hb)
  clear Fh2_22
  clear hb
  go_wp2_with fail
  refine (eqIntSS_same _ _ _ _ _ r2 _ Fh2_23.out.lies Fw2_23.out.lies (Lib.hid rfl) (by omega) (Lib.hid (by omega))).mono ?_
  rintro e w24 ⟨rfl, hb⟩
  have S24 := Lib.hid (hb.size)
  have B24 := Lib.hid (Below.tr B23.out hb)
  have Fw1_24 := Lib.hid (own_below Fw1_23.out hb)
  clear Fw1_23
  have Fw2_24 := Lib.hid (Fw2_23.out.below hb)
  clear Fw2_23
  have Fg1_24 := Lib.hid (own_below Fg1_23.out hb)
  clear Fg1_23
  have Fg2_24 := Lib.hid (Fg2_23.out.below hb)
  clear Fg2_23
  have Fh1_24 := Lib.hid (own_below Fh1_23.out hb)
  clear Fh1_23
  have Fh2_24 := Lib.hid (Fh2_23.out.below hb)
  clear Fh2_23
  clear hb
  clear Fh1_24
  clear Fw1_24
  clear Fh2_24
  clear Fw2_24
  go_wp2_with fail
  refine (heldBoolS_any _ _ _ (1) _ (own_blies Fg1_24.out) (by omega) (by omega)).mono ?_
  rintro e w25 ⟨rfl, hb⟩
  have S25 := Lib.hid (hb.size)
  have B25 := Lib.hid (Below.tr B24.out hb)
  have Fg1_25 := Lib.hid (own_below Fg1_24.out hb)
  clear Fg1_24
  have Fg2_25 := Lib.hid (Fg2_24.out.below hb)
  clear Fg2_24
  clear hb
  go_wp2_with fail
  refine (heldIntSS_any _ _ _ r2 (1 + (r1.length : Int)) _ Fg2_25.out.lies (Lib.hid rfl) (by omega) (Lib.hid (by omega)) (by omega)).mono ?_
  rintro e w' ⟨rfl, rfl⟩
  go_wp2
  go_ret
  exact ⟨rfl, B25.out⟩
end Go.Proofs.Ytehedomjfpipkaa
