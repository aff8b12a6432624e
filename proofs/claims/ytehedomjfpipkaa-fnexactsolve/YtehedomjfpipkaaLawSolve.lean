/-
  The walk of the law of Solve.
-/
import Derived.Test.YtehedomjfpipkaaWith
namespace Go.Proofs.Ytehedomjfpipkaa
open Go.ChangeShapes Go.WideShapes Go.ChangeAt Go.RowKit

set_option maxRecDepth 100000 in
set_option maxHeartbeats 4000000 in
theorem lawSolve (v : Int) (Al : Option Addr) (capl : Nat) (l : List (List Int)) (w : World) (hnl : l.length ≤ 9223372036854775807) (hll : LLies w Al l) :
    Calls Try.prog 5 #[.int .i64 v, .slice Al l.length capl] w fun e w' => e = .returned (.bool true) ∧ Below w.heap.size w w' := by
  obtain ⟨nl, hxl⟩ : ∃ n, l.length = n := ⟨_, rfl⟩
  rw [hxl] at hnl ⊢
  have HXl := Lib.hid hxl
  have HLl := Lib.hid hll
  clear hxl hll
  go_enter Try.func5, Try.ntmps5
  go_wp2_with fail
  refine (szIntSS_any _ _ _ l _ 1048576 HLl HXl hnl (by omega) (by omega)).mono ?_
  rintro e w' ⟨⟨ql, rfl, hql⟩, rfl⟩
  by_cases hnegl : ql < 0
  · clear hql
    go_wp2
    go_ret
    exact ⟨rfl, Below.refl _ _⟩
  have hqql : ql = 1048576 - (nl : Int) - (tot l : Int) := by omega
  have hsl : nl ≤ 1048576 := by omega
  have htl : tot l ≤ 1048576 := by omega
  have HTl : Hid (tot l ≤ 1048576) := Lib.hid htl
  clear hql
  obtain ⟨r0, r1, r2, r3, hr⟩ := solR_any v l
  have hrl : r1.length ≤ 1000 := by have := hr.small.1; omega
  have hrl2 : r2.length ≤ 1000 := by have := hr.small.2.1; omega
  have hrt : tot r2 ≤ 10000 := by have := hr.small.2.2.1; unfold tot; omega
  have HR := Lib.hid hr
  clear hr
  go_wp2_with fail
  refine (toIntSS_any _ _ _ l _ (HLl.out.below (Below.refl _ _)) HXl hsl HTl).mono ?_
  rintro e w1 ⟨rfl, ⟨vssl, kk⟩, hb⟩
  have S1 := Lib.hid (hb.size)
  have B1 := Lib.hid (Below.tr (Below.refl _ _) hb)
  have Fsl_1 := Lib.hid (kk)
  have Psl : Hid (∀ g, ((.slice (some ⟨w.heap.size, 0, none⟩) nl nl : Value).ownBlock = some g ∨ blks vssl g) → w.heap.size ≤ g ∧ g < w1.heap.size) := Lib.hid (fun g h => h.elim (fun h => Fsl_1.out.outer.lt g h) (fun h => Fsl_1.out.inner.lt g h))
  clear kk hb
  go_wp2_with fail
  refine (specSolve_any v _ _ _ l _ r0 r1 r2 r3 HR Fsl_1.out.lies Fsl_1.out.lnil HXl hnl).mono ?_
  rintro e w2 ⟨Aw1, cw1, Aw2, cw2, vsw2, rfl, ho1, ho2, hap, hb⟩
  have S2 := Lib.hid (hb.size)
  have B2 := Lib.hid (Below.tr B1.out hb)
  have Fsl_2 := Lib.hid (Fsl_1.out.below hb)
  clear Fsl_1
  have APw := Lib.hid hap
  clear hap
  have Fw1_2 := Lib.hid (ho1)
  have Pw1 : Hid (∀ g, (.slice Aw1 r1.length cw1 : Value).ownBlock = some g → w1.heap.size ≤ g ∧ g < w2.heap.size) := Lib.hid (fun g h => Fw1_2.out.lt g h)
  have Fw2_2 := Lib.hid (ho2)
  have Pw2 : Hid (∀ g, ((.slice Aw2 r2.length cw2 : Value).ownBlock = some g ∨ blks vsw2 g) → w1.heap.size ≤ g ∧ g < w2.heap.size) := Lib.hid (fun g h => h.elim (fun h => Fw2_2.out.outer.lt g h) (fun h => Fw2_2.out.inner.lt g h))
  clear hb ho1 ho2
  clear Fsl_2
  go_wp2_with fail
  refine (toIntSS_any _ _ _ l _ (HLl.out.below B2.out) HXl hsl HTl).mono ?_
  rintro e w3 ⟨rfl, ⟨vsxl, kk⟩, hb⟩
  have S3 := Lib.hid (hb.size)
  have B3 := Lib.hid (Below.tr B2.out hb)
  have Fw1_3 := Lib.hid (own_below Fw1_2.out hb)
  clear Fw1_2
  have Fw2_3 := Lib.hid (Fw2_2.out.below hb)
  clear Fw2_2
  have Fxl_3 := Lib.hid (kk)
  have Pxl : Hid (∀ g, ((.slice (some ⟨w2.heap.size, 0, none⟩) nl nl : Value).ownBlock = some g ∨ blks vsxl g) → w2.heap.size ≤ g ∧ g < w3.heap.size) := Lib.hid (fun g h => h.elim (fun h => Fxl_3.out.outer.lt g h) (fun h => Fxl_3.out.inner.lt g h))
  clear kk hb
  go_wp2_with fail
  refine (implSolve_any v _ _ _ l _ r0 r1 r2 r3 HR Fxl_3.out.lies HXl (Lib.hid (fun h => by cases h)) hnl).mono ?_
  rintro e w4 ⟨Ag1, cg1, Ag2, cg2, vsg2, rfl, ho1, ho2, hap, hb⟩
  have S4 := Lib.hid (hb.size)
  have B4 := Lib.hid (Below.tr B3.out hb)
  have Fw1_4 := Lib.hid (own_below Fw1_3.out hb)
  clear Fw1_3
  have Fw2_4 := Lib.hid (Fw2_3.out.below hb)
  clear Fw2_3
  have Fxl_4 := Lib.hid (Fxl_3.out.below hb)
  clear Fxl_3
  have APg := Lib.hid hap
  clear hap
  have Fg1_4 := Lib.hid (ho1)
  have Pg1 : Hid (∀ g, (.slice Ag1 r1.length cg1 : Value).ownBlock = some g → w3.heap.size ≤ g ∧ g < w4.heap.size) := Lib.hid (fun g h => Fg1_4.out.lt g h)
  have Fg2_4 := Lib.hid (ho2)
  have Pg2 : Hid (∀ g, ((.slice Ag2 r2.length cg2 : Value).ownBlock = some g ∨ blks vsg2 g) → w3.heap.size ≤ g ∧ g < w4.heap.size) := Lib.hid (fun g h => h.elim (fun h => Fg2_4.out.outer.lt g h) (fun h => Fg2_4.out.inner.lt g h))
  clear hb ho1 ho2
  have hb0 : (r0 != r0) = false := by simp
  have hb3 : (r3 != r3) = false := by simp
  go_wp2_with fail
  refine (eqBoolS_same _ _ _ _ _ r1 _ (own_blies Fg1_4.out) (own_blies Fw1_4.out) (Lib.hid rfl) (by omega)).mono ?_
  rintro e w5 ⟨rfl, hb⟩
  have S5 := Lib.hid (hb.size)
  have B5 := Lib.hid (Below.tr B4.out hb)
  have Fw1_5 := Lib.hid (own_below Fw1_4.out hb)
  clear Fw1_4
  have Fw2_5 := Lib.hid (Fw2_4.out.below hb)
  clear Fw2_4
  have Fxl_5 := Lib.hid (Fxl_4.out.below hb)
  clear Fxl_4
  have Fg1_5 := Lib.hid (own_below Fg1_4.out hb)
  clear Fg1_4
  have Fg2_5 := Lib.hid (Fg2_4.out.below hb)
  clear Fg2_4
  clear hb
  go_wp2_with fail
  refine (eqIntSS_same _ _ _ _ _ r2 _ Fg2_5.out.lies Fw2_5.out.lies (Lib.hid rfl) (by omega) (Lib.hid (by omega))).mono ?_
  rintro e w6 ⟨rfl, hb⟩
  have S6 := Lib.hid (hb.size)
  have B6 := Lib.hid (Below.tr B5.out hb)
  have Fw1_6 := Lib.hid (own_below Fw1_5.out hb)
  clear Fw1_5
  have Fw2_6 := Lib.hid (Fw2_5.out.below hb)
  clear Fw2_5
  have Fxl_6 := Lib.hid (Fxl_5.out.below hb)
  clear Fxl_5
  have Fg1_6 := Lib.hid (own_below Fg1_5.out hb)
  clear Fg1_5
  have Fg2_6 := Lib.hid (Fg2_5.out.below hb)
  clear Fg2_5
  clear hb
  go_wp2_with fail
  refine (toIntSS_any _ _ _ l _ (HLl.out.below B6.out) HXl hsl HTl).mono ?_
  rintro e w7 ⟨rfl, ⟨vscl, kk⟩, hb⟩
  have S7 := Lib.hid (hb.size)
  have B7 := Lib.hid (Below.tr B6.out hb)
  have Fw1_7 := Lib.hid (own_below Fw1_6.out hb)
  clear Fw1_6
  have Fw2_7 := Lib.hid (Fw2_6.out.below hb)
  clear Fw2_6
  have Fxl_7 := Lib.hid (Fxl_6.out.below hb)
  clear Fxl_6
  have Fg1_7 := Lib.hid (own_below Fg1_6.out hb)
  clear Fg1_6
  have Fg2_7 := Lib.hid (Fg2_6.out.below hb)
  clear Fg2_6
  have Fcl_7 := Lib.hid (kk)
  have Pcl : Hid (∀ g, ((.slice (some ⟨w6.heap.size, 0, none⟩) nl nl : Value).ownBlock = some g ∨ blks vscl g) → w6.heap.size ≤ g ∧ g < w7.heap.size) := Lib.hid (fun g h => h.elim (fun h => Fcl_7.out.outer.lt g h) (fun h => Fcl_7.out.inner.lt g h))
  clear kk hb
  go_wp2_with fail
  refine (eqIntSS_same _ _ _ _ _ l _ Fxl_7.out.lies Fcl_7.out.lies HXl (by omega) (Lib.hid (by omega))).mono ?_
  rintro e w8 ⟨rfl, hb⟩
  have S8 := Lib.hid (hb.size)
  have B8 := Lib.hid (Below.tr B7.out hb)
  have Fw1_8 := Lib.hid (own_below Fw1_7.out hb)
  clear Fw1_7
  have Fw2_8 := Lib.hid (Fw2_7.out.below hb)
  clear Fw2_7
  have Fxl_8 := Lib.hid (Fxl_7.out.below hb)
  clear Fxl_7
  have Fg1_8 := Lib.hid (own_below Fg1_7.out hb)
  clear Fg1_7
  have Fg2_8 := Lib.hid (Fg2_7.out.below hb)
  clear Fg2_7
  have Fcl_8 := Lib.hid (Fcl_7.out.below hb)
  clear Fcl_7
  clear hb
  clear Fcl_8
  go_wp2_with fail
  refine (markIntSS_any _ _ _ _ _ l (1) _ Fxl_8 (by first | exact Lib.hid rfl | exact HXl) (by omega) (Lib.hid (by omega)) (by omega)).mono ?_
  rintro e w9 ⟨rfl, ho, hk⟩
  have S9 := Lib.hid (hk.size)
  have B9 := Lib.hid (hk.below B8.out B8.out.size (fun i hi => by have := Pxl.out i (.inr hi); have := S1.out; have := S2.out; have := S3.out; have := S4.out; have := S5.out; have := S6.out; have := S7.out; have := S8.out; have := S9.out; omega))
  have Fw1_9 := Lib.hid (hk.own Fw1_8.out (fun g h q => by have := Pxl.out g (.inr q); have := Pw1.out g h; have := S1.out; have := S2.out; have := S3.out; have := S4.out; have := S5.out; have := S6.out; have := S7.out; have := S8.out; have := S9.out; omega))
  clear Fw1_8
  have Fw2_9 := Lib.hid (Fw2_8.out.kept hk (fun g h q => by have := Pxl.out g (.inr q); have := Pw2.out g (.inl h); have := S1.out; have := S2.out; have := S3.out; have := S4.out; have := S5.out; have := S6.out; have := S7.out; have := S8.out; have := S9.out; omega) (fun g h q => by have := Pxl.out g (.inr q); have := Pw2.out g (.inr h); have := S1.out; have := S2.out; have := S3.out; have := S4.out; have := S5.out; have := S6.out; have := S7.out; have := S8.out; have := S9.out; omega))
  clear Fw2_8
  have Fg1_9 := Lib.hid (hk.own Fg1_8.out (fun g h q => by have := Pxl.out g (.inr q); have := Pg1.out g h; have := S1.out; have := S2.out; have := S3.out; have := S4.out; have := S5.out; have := S6.out; have := S7.out; have := S8.out; have := S9.out; omega))
  clear Fg1_8
  have Fg2_9 := Lib.hid (Fg2_8.out.kept hk (fun g h q => by have := Pxl.out g (.inr q); have := Pg2.out g (.inl h); have := S1.out; have := S2.out; have := S3.out; have := S4.out; have := S5.out; have := S6.out; have := S7.out; have := S8.out; have := S9.out; omega) (fun g h q => by have := Pxl.out g (.inr q); have := Pg2.out g (.inr h); have := S1.out; have := S2.out; have := S3.out; have := S4.out; have := S5.out; have := S6.out; have := S7.out; have := S8.out; have := S9.out; omega))
  clear Fg2_8
  clear ho hk
  clear Fxl_8
  have hnegk : decide (1 + (tot l : Int) < 0) = false := by simp; omega
  go_wp2_with fail
  refine (eqBoolS_same _ _ _ _ _ r1 _ (own_blies Fg1_9.out) (own_blies Fw1_9.out) (Lib.hid rfl) (by omega)).mono ?_
  rintro e w10 ⟨rfl, hb⟩
  have S10 := Lib.hid (hb.size)
  have B10 := Lib.hid (Below.tr B9.out hb)
  have Fw1_10 := Lib.hid (own_below Fw1_9.out hb)
  clear Fw1_9
  have Fw2_10 := Lib.hid (Fw2_9.out.below hb)
  clear Fw2_9
  have Fg1_10 := Lib.hid (own_below Fg1_9.out hb)
  clear Fg1_9
  have Fg2_10 := Lib.hid (Fg2_9.out.below hb)
  clear Fg2_9
  clear hb
  go_wp2_with fail
  refine (eqIntSS_same _ _ _ _ _ r2 _ Fg2_10.out.lies Fw2_10.out.lies (Lib.hid rfl) (by omega) (Lib.hid (by omega))).mono ?_
  rintro e w11 ⟨rfl, hb⟩
  have S11 := Lib.hid (hb.size)
  have B11 := Lib.hid (Below.tr B10.out hb)
  have Fw1_11 := Lib.hid (own_below Fw1_10.out hb)
  clear Fw1_10
  have Fw2_11 := Lib.hid (Fw2_10.out.below hb)
  clear Fw2_10
  have Fg1_11 := Lib.hid (own_below Fg1_10.out hb)
  clear Fg1_10
  have Fg2_11 := Lib.hid (Fg2_10.out.below hb)
  clear Fg2_10
  clear hb
  go_wp2_with fail
  refine (markBoolS_any _ _ _ _ r1 (1) _ Fg1_11 (by omega) (by omega)).mono ?_
  rintro e w12 ⟨rfl, ho, hg⟩
  have hk := Kept.of_grown (S := fun g => (.slice Ag1 r1.length cg1 : Value).ownBlock = some g) hg (fun g h => h)
  clear hg
  have S12 := Lib.hid (hk.size)
  have B12 := Lib.hid (hk.below B11.out B11.out.size (fun i hi => by have := Pg1.out i hi; have := S1.out; have := S2.out; have := S3.out; have := S4.out; have := S5.out; have := S6.out; have := S7.out; have := S8.out; have := S9.out; have := S10.out; have := S11.out; have := S12.out; omega))
  have Fw1_12 := Lib.hid (hk.own Fw1_11.out (fun g h q => by have := Pg1.out g q; have := Pw1.out g h; have := S1.out; have := S2.out; have := S3.out; have := S4.out; have := S5.out; have := S6.out; have := S7.out; have := S8.out; have := S9.out; have := S10.out; have := S11.out; have := S12.out; omega))
  clear Fw1_11
  have Fw2_12 := Lib.hid (Fw2_11.out.kept hk (fun g h q => by have := Pg1.out g q; have := Pw2.out g (.inl h); have := S1.out; have := S2.out; have := S3.out; have := S4.out; have := S5.out; have := S6.out; have := S7.out; have := S8.out; have := S9.out; have := S10.out; have := S11.out; have := S12.out; omega) (fun g h q => by have := Pg1.out g q; have := Pw2.out g (.inr h); have := S1.out; have := S2.out; have := S3.out; have := S4.out; have := S5.out; have := S6.out; have := S7.out; have := S8.out; have := S9.out; have := S10.out; have := S11.out; have := S12.out; omega))
  clear Fw2_11
  have Fg2_12 := Lib.hid (Fg2_11.out.kept hk (fun g h q => (APg.out g q).1 h) (fun g h q => (APg.out g q).2 h))
  clear Fg2_11
  clear Fg1_11
  have Fg1_12 := Lib.hid ho
  clear ho hk
  go_wp2_with fail
  refine (markIntSS_any _ _ _ _ _ r2 (1 + (r1.length : Int)) _ Fg2_12 (by first | exact Lib.hid rfl | exact HXr2) (by omega) (Lib.hid (by omega)) (by omega)).mono ?_
  rintro e w13 ⟨rfl, ho, hk⟩
  have S13 := Lib.hid (hk.size)
  have B13 := Lib.hid (hk.below B12.out B12.out.size (fun i hi => by have := Pg2.out i (.inr hi); have := S1.out; have := S2.out; have := S3.out; have := S4.out; have := S5.out; have := S6.out; have := S7.out; have := S8.out; have := S9.out; have := S10.out; have := S11.out; have := S12.out; have := S13.out; omega))
  have Fw1_13 := Lib.hid (hk.own Fw1_12.out (fun g h q => by have := Pg2.out g (.inr q); have := Pw1.out g h; have := S1.out; have := S2.out; have := S3.out; have := S4.out; have := S5.out; have := S6.out; have := S7.out; have := S8.out; have := S9.out; have := S10.out; have := S11.out; have := S12.out; have := S13.out; omega))
  clear Fw1_12
  have Fw2_13 := Lib.hid (Fw2_12.out.kept hk (fun g h q => by have := Pg2.out g (.inr q); have := Pw2.out g (.inl h); have := S1.out; have := S2.out; have := S3.out; have := S4.out; have := S5.out; have := S6.out; have := S7.out; have := S8.out; have := S9.out; have := S10.out; have := S11.out; have := S12.out; have := S13.out; omega) (fun g h q => by have := Pg2.out g (.inr q); have := Pw2.out g (.inr h); have := S1.out; have := S2.out; have := S3.out; have := S4.out; have := S5.out; have := S6.out; have := S7.out; have := S8.out; have := S9.out; have := S10.out; have := S11.out; have := S12.out; have := S13.out; omega))
  clear Fw2_12
  have Fg1_13 := Lib.hid (hk.own Fg1_12.out (fun g h q => (APg.out g h).2 q))
  clear Fg1_12
  clear Fg2_12
  have Fg2_13 := Lib.hid ho
  clear ho hk
  have hnegm : decide (1 + (r1.length : Int) + (tot r2 : Int) < 0) = false := by simp; omega
  have heqm : ((1 + (r1.length : Int) + (tot r2 : Int) : Int) != (1 + (r1.length : Int) + (tot r2 : Int) : Int)) = false := by simp
  go_wp2_with fail
  refine (heldBoolS_any _ _ _ (1) _ (own_blies Fg1_13.out) (by omega) (by omega)).mono ?_
  rintro e w14 ⟨rfl, hb⟩
  have S14 := Lib.hid (hb.size)
  have B14 := Lib.hid (Below.tr B13.out hb)
  have Fw1_14 := Lib.hid (own_below Fw1_13.out hb)
  clear Fw1_13
  have Fw2_14 := Lib.hid (Fw2_13.out.below hb)
  clear Fw2_13
  have Fg1_14 := Lib.hid (own_below Fg1_13.out hb)
  clear Fg1_13
  have Fg2_14 := Lib.hid (Fg2_13.out.below hb)
  clear Fg2_13
  clear hb
  go_wp2_with fail
  refine (heldIntSS_any _ _ _ r2 (1 + (r1.length : Int)) _ Fg2_14.out.lies (Lib.hid rfl) (by omega) (Lib.hid (by omega)) (by omega)).mono ?_
  rintro e w' ⟨rfl, rfl⟩
  go_wp2_with fail
  refine (toIntSS_any _ _ _ l _ (HLl.out.below B14.out) HXl hsl HTl).mono ?_
  rintro e w15 ⟨rfl, ⟨vsyl, kk⟩, hb⟩
  have S15 := Lib.hid (hb.size)
  have B15 := Lib.hid (Below.tr B14.out hb)
  have Fw1_15 := Lib.hid (own_below Fw1_14.out hb)
  clear Fw1_14
  have Fw2_15 := Lib.hid (Fw2_14.out.below hb)
  clear Fw2_14
  have Fg1_15 := Lib.hid (own_below Fg1_14.out hb)
  clear Fg1_14
  have Fg2_15 := Lib.hid (Fg2_14.out.below hb)
  clear Fg2_14
  have Fyl_15 := Lib.hid (kk)
  have Pyl : Hid (∀ g, ((.slice (some ⟨w14.heap.size, 0, none⟩) nl nl : Value).ownBlock = some g ∨ blks vsyl g) → w14.heap.size ≤ g ∧ g < w15.heap.size) := Lib.hid (fun g h => h.elim (fun h => Fyl_15.out.outer.lt g h) (fun h => Fyl_15.out.inner.lt g h))
  clear kk hb
  go_wp2_with fail
  refine (implSolve_any v _ _ _ l _ r0 r1 r2 r3 HR Fyl_15.out.lies HXl (Lib.hid (fun h => by cases h)) hnl).mono ?_
  rintro e w16 ⟨Ah1, ch1, Ah2, ch2, vsh2, rfl, ho1, ho2, hap, hb⟩
  have S16 := Lib.hid (hb.size)
  have B16 := Lib.hid (Below.tr B15.out hb)
  have Fw1_16 := Lib.hid (own_below Fw1_15.out hb)
  clear Fw1_15
  have Fw2_16 := Lib.hid (Fw2_15.out.below hb)
  clear Fw2_15
  have Fg1_16 := Lib.hid (own_below Fg1_15.out hb)
  clear Fg1_15
  have Fg2_16 := Lib.hid (Fg2_15.out.below hb)
  clear Fg2_15
  have Fyl_16 := Lib.hid (Fyl_15.out.below hb)
  clear Fyl_15
  have APh := Lib.hid hap
  clear hap
  have Fh1_16 := Lib.hid (ho1)
  have Ph1 : Hid (∀ g, (.slice Ah1 r1.length ch1 : Value).ownBlock = some g → w15.heap.size ≤ g ∧ g < w16.heap.size) := Lib.hid (fun g h => Fh1_16.out.lt g h)
  have Fh2_16 := Lib.hid (ho2)
  have Ph2 : Hid (∀ g, ((.slice Ah2 r2.length ch2 : Value).ownBlock = some g ∨ blks vsh2 g) → w15.heap.size ≤ g ∧ g < w16.heap.size) := Lib.hid (fun g h => h.elim (fun h => Fh2_16.out.outer.lt g h) (fun h => Fh2_16.out.inner.lt g h))
  clear hb ho1 ho2
  clear Fyl_16
  go_wp2_with fail
  refine (eqBoolS_same _ _ _ _ _ r1 _ (own_blies Fh1_16.out) (own_blies Fw1_16.out) (Lib.hid rfl) (by omega)).mono ?_
  rintro e w17 ⟨rfl, hb⟩
  have S17 := Lib.hid (hb.size)
  have B17 := Lib.hid (Below.tr B16.out hb)
  have Fw1_17 := Lib.hid (own_below Fw1_16.out hb)
  clear Fw1_16
  have Fw2_17 := Lib.hid (Fw2_16.out.below hb)
  clear Fw2_16
  have Fg1_17 := Lib.hid (own_below Fg1_16.out hb)
  clear Fg1_16
  have Fg2_17 := Lib.hid (Fg2_16.out.below hb)
  clear Fg2_16
  have Fh1_17 := Lib.hid (own_below Fh1_16.out hb)
  clear Fh1_16
  have Fh2_17 := Lib.hid (Fh2_16.out.below hb)
  clear Fh2_16
  clear hb
  go_wp2_with fail
  refine (eqIntSS_same _ _ _ _ _ r2 _ Fh2_17.out.lies Fw2_17.out.lies (Lib.hid rfl) (by omega) (Lib.hid (by omega))).mono ?_
  rintro e w18 ⟨rfl, hb⟩
  have S18 := Lib.hid (hb.size)
  have B18 := Lib.hid (Below.tr B17.out hb)
  have Fw1_18 := Lib.hid (own_below Fw1_17.out hb)
  clear Fw1_17
  have Fw2_18 := Lib.hid (Fw2_17.out.below hb)
  clear Fw2_17
  have Fg1_18 := Lib.hid (own_below Fg1_17.out hb)
  clear Fg1_17
  have Fg2_18 := Lib.hid (Fg2_17.out.below hb)
  clear Fg2_17
  have Fh1_18 := Lib.hid (own_below Fh1_17.out hb)
  clear Fh1_17
  have Fh2_18 := Lib.hid (Fh2_17.out.below hb)
  clear Fh2_17
  clear hb
  clear Fh1_18
  clear Fw1_18
  clear Fh2_18
  clear Fw2_18
  go_wp2_with fail
  refine (heldBoolS_any _ _ _ (1) _ (own_blies Fg1_18.out) (by omega) (by omega)).mono ?_
  rintro e w19 ⟨rfl, hb⟩
  have S19 := Lib.hid (hb.size)
  have B19 := Lib.hid (Below.tr B18.out hb)
  have Fg1_19 := Lib.hid (own_below Fg1_18.out hb)
  clear Fg1_18
  have Fg2_19 := Lib.hid (Fg2_18.out.below hb)
  clear Fg2_18
  clear hb
  go_wp2_with fail
  refine (heldIntSS_any _ _ _ r2 (1 + (r1.length : Int)) _ Fg2_19.out.lies (Lib.hid rfl) (by omega) (Lib.hid (by omega)) (by omega)).mono ?_
  rintro e w' ⟨rfl, rfl⟩
  go_wp2
  go_ret
  exact ⟨rfl, B19.out⟩
end Go.Proofs.Ytehedomjfpipkaa
