/-
  The walk of the law of By.
-/
import Derived.Test.YthhmacocijcjiaaSp7
import Derived.Test.YthhmacocijcjiaaDLen
import Derived.Test.YthhmacocijcjiaaDOpen
namespace Go.Proofs.Ythhmacocijcjiaa
open Go.ChangeShapes Go.WideShapes Go.ChangeAt Go.RowKit

set_option maxRecDepth 100000 in
set_option maxHeartbeats 8000000 in
theorem lawBy (v : Int) (Al : Option Addr) (capl : Nat) (l : List (List Int)) (w : World) (hnl : l.length ≤ 9223372036854775807) (hll : LLies w Al l) :
    Calls Try.prog 13 #[.int .i64 v, .slice Al l.length capl] w fun e w' => e = .returned (.bool true) ∧ Below w.heap.size w w' := by
  obtain ⟨nl, hxl⟩ : ∃ n, l.length = n := ⟨_, rfl⟩
  rw [hxl] at hnl ⊢
  have HXl := Lib.hid hxl
  have HLl := Lib.hid hll
  clear hxl hll
  go_enter Try.func13, Try.ntmps13
  go_wp2_with fail
  refine (szIntSS_any _ _ _ l _ 1048576 HLl HXl hnl (by omega) (by omega)).mono ?_
  rintro e w' ⟨⟨ql, rfl, hql⟩, rfl⟩
  by_cases hnegl : ql < 0
  · clear hql
    go_wp2
    go_ret
    exact ⟨rfl, Below.refl _ _⟩
  have hsl : nl ≤ 1048576 := by omega
  have htl : tot l ≤ 1048576 := by omega
  have HTl : Hid (tot l ≤ 1048576) := Lib.hid htl
  clear hql
  obtain ⟨⟨⟨r0a, r0, r0b⟩, r1⟩, hr⟩ : ∃ x, rBy v l = x := ⟨_, rfl⟩
  have hrl : r0.length ≤ 64 := rBy_len hr
  have HR := Lib.hid hr
  clear hr
  go_wp2_with fail
  refine (toIntSS_any _ _ _ l _ (Lib.hid (HLl.out.below (Below.refl _ _))) HXl hsl HTl).mono ?_
  rintro e w1 ⟨rfl, ⟨vssl, kk⟩, hb⟩
  have S1 := Lib.hid (hb.size)
  have B1 := Lib.hid (Below.tr (Below.refl _ _) hb)
  have Fsl_1 := Lib.hid (kk)
  have Psl : Hid (∀ g, ((.slice (some ⟨w.heap.size, 0, none⟩) nl nl : Value).ownBlock = some g ∨ blks vssl g) → w.heap.size ≤ g ∧ g < w1.heap.size) := Lib.hid (fun g h => h.elim (fun h => Fsl_1.out.outer.lt g h) (fun h => Fsl_1.out.inner.lt g h))
  clear kk hb
  go_wp2_with fail
  refine (specBy_any v _ _ _ l _ r0a r0 r0b r1 HR Fsl_1.out.lies HXl hnl).mono ?_
  rintro e w2 ⟨Aw0, cw0, rfl, ho0, hb⟩
  have S2 := Lib.hid (hb.size)
  have B2 := Lib.hid (Below.tr B1.out hb)
  have Fsl_2 := Lib.hid (Fsl_1.out.below hb)
  clear Fsl_1
  have Fw0_2 := Lib.hid (ho0)
  have Pw0 : Hid (∀ g, (.slice Aw0 r0.length cw0 : Value).ownBlock = some g → w1.heap.size ≤ g ∧ g < w2.heap.size) := Lib.hid (fun g h => Fw0_2.out.lt g h)
  clear hb ho0
  clear Fsl_2
  go_wp2_with fail
  obtain ⟨w3, hw3⟩ : ∃ W, W = w2.alloc (.cells #[.int .i64 r0a, .slice Aw0 r0.length cw0, .int .i64 r0b] 28) := ⟨_, rfl⟩
  have hb : Below w2.heap.size w2 w3 := by rw [hw3]; exact below1 _ _
  have hx : Blk w3 w2.heap.size 28 [.int .i64 r0a, .slice Aw0 r0.length cw0, .int .i64 r0b] := by rw [hw3]; exact heap_alloc_new _ _
  have hsz : w3.heap.size = w2.heap.size + 1 := by rw [hw3]; simp
  rw [← hw3]
  clear hw3
  have S3 := Lib.hid (hb.size)
  have SE3 := Lib.hid hsz
  have B3 := Lib.hid (Below.tr B2.out hb)
  have Fw0_3 := Lib.hid (own_below Fw0_2.out hb)
  clear Fw0_2
  have Xw0_3 := Lib.hid hx
  clear hb hx hsz
  refine (toIntSS_any _ _ _ l _ (Lib.hid (HLl.out.below B3.out)) HXl hsl HTl).mono ?_
  rintro e w4 ⟨rfl, ⟨vsxl, kk⟩, hb⟩
  have S4 := Lib.hid (hb.size)
  have B4 := Lib.hid (Below.tr B3.out hb)
  have Fw0_4 := Lib.hid (own_below Fw0_3.out hb)
  clear Fw0_3
  have Xw0_4 := Lib.hid (Xw0_3.out.below hb)
  clear Xw0_3
  have Fxl_4 := Lib.hid (kk)
  have Pxl : Hid (∀ g, ((.slice (some ⟨w3.heap.size, 0, none⟩) nl nl : Value).ownBlock = some g ∨ blks vsxl g) → w3.heap.size ≤ g ∧ g < w4.heap.size) := Lib.hid (fun g h => h.elim (fun h => Fxl_4.out.outer.lt g h) (fun h => Fxl_4.out.inner.lt g h))
  clear kk hb
  obtain ⟨zw00, zw01, zw02, _, _, _, zw0l⟩ := blk_cells Xw0_4.out
  go_wp2_with fail
  clear zw00 zw01 zw02 zw0l
  refine (implBy_any v _ _ _ l _ r0a r0 r0b r1 HR Fxl_4.out.lies HXl hnl).mono ?_
  rintro e w5 ⟨Ag0, cg0, rfl, ho0, hb⟩
  have S5 := Lib.hid (hb.size)
  have B5 := Lib.hid (Below.tr B4.out hb)
  have Fw0_5 := Lib.hid (own_below Fw0_4.out hb)
  clear Fw0_4
  have Fxl_5 := Lib.hid (Fxl_4.out.below hb)
  clear Fxl_4
  have Xw0_5 := Lib.hid (Xw0_4.out.below hb)
  clear Xw0_4
  have Fg0_5 := Lib.hid (ho0)
  have Pg0 : Hid (∀ g, (.slice Ag0 r0.length cg0 : Value).ownBlock = some g → w4.heap.size ≤ g ∧ g < w5.heap.size) := Lib.hid (fun g h => Fg0_5.out.lt g h)
  clear hb ho0
  have hb1 : (r1 != r1) = false := by simp
  obtain ⟨zw00, zw01, zw02, _, _, _, zw0l⟩ := blk_cells Xw0_5.out
  go_wp2_with fail
  clear zw00 zw01 zw02 zw0l
  obtain ⟨w6, hw6⟩ : ∃ W, W = w5.alloc (.cells #[.int .i64 r0a, .slice Ag0 r0.length cg0, .int .i64 r0b] 28) := ⟨_, rfl⟩
  have hb : Below w5.heap.size w5 w6 := by rw [hw6]; exact below1 _ _
  have hx : Blk w6 w5.heap.size 28 [.int .i64 r0a, .slice Ag0 r0.length cg0, .int .i64 r0b] := by rw [hw6]; exact heap_alloc_new _ _
  have hsz : w6.heap.size = w5.heap.size + 1 := by rw [hw6]; simp
  rw [← hw6]
  clear hw6
  have S6 := Lib.hid (hb.size)
  have SE6 := Lib.hid hsz
  have B6 := Lib.hid (Below.tr B5.out hb)
  have Fw0_6 := Lib.hid (own_below Fw0_5.out hb)
  clear Fw0_5
  have Fxl_6 := Lib.hid (Fxl_5.out.below hb)
  clear Fxl_5
  have Fg0_6 := Lib.hid (own_below Fg0_5.out hb)
  clear Fg0_5
  have Xw0_6 := Lib.hid (Xw0_5.out.below hb)
  clear Xw0_5
  have Xg0_6 := Lib.hid hx
  clear hb hx hsz
  refine (eqDiagram_same r0a r0b _ _ _ _ _ r0 _ (Lib.hid (own_nlies rfl Fg0_6.out)) (Lib.hid (own_nlies rfl Fw0_6.out)) (Lib.hid rfl) (by omega)).mono ?_
  rintro e w7 ⟨rfl, hb⟩
  have S7 := Lib.hid (hb.size)
  have B7 := Lib.hid (Below.tr B6.out hb)
  have Fw0_7 := Lib.hid (own_below Fw0_6.out hb)
  clear Fw0_6
  have Fxl_7 := Lib.hid (Fxl_6.out.below hb)
  clear Fxl_6
  have Fg0_7 := Lib.hid (own_below Fg0_6.out hb)
  clear Fg0_6
  have Xw0_7 := Lib.hid (Xw0_6.out.below hb)
  clear Xw0_6
  have Xg0_7 := Lib.hid (Xg0_6.out.below hb)
  clear Xg0_6
  clear hb
  obtain ⟨zw00, zw01, zw02, _, _, _, zw0l⟩ := blk_cells Xw0_7.out
  obtain ⟨zg00, zg01, zg02, _, _, _, zg0l⟩ := blk_cells Xg0_7.out
  go_wp2_with fail
  clear zw00 zw01 zw02 zw0l
  clear zg00 zg01 zg02 zg0l
  refine (toIntSS_any _ _ _ l _ (Lib.hid (HLl.out.below B7.out)) HXl hsl HTl).mono ?_
  rintro e w8 ⟨rfl, ⟨vscl, kk⟩, hb⟩
  have S8 := Lib.hid (hb.size)
  have B8 := Lib.hid (Below.tr B7.out hb)
  have Fw0_8 := Lib.hid (own_below Fw0_7.out hb)
  clear Fw0_7
  have Fxl_8 := Lib.hid (Fxl_7.out.below hb)
  clear Fxl_7
  have Fg0_8 := Lib.hid (own_below Fg0_7.out hb)
  clear Fg0_7
  have Xw0_8 := Lib.hid (Xw0_7.out.below hb)
  clear Xw0_7
  have Xg0_8 := Lib.hid (Xg0_7.out.below hb)
  clear Xg0_7
  have Fcl_8 := Lib.hid (kk)
  have Pcl : Hid (∀ g, ((.slice (some ⟨w7.heap.size, 0, none⟩) nl nl : Value).ownBlock = some g ∨ blks vscl g) → w7.heap.size ≤ g ∧ g < w8.heap.size) := Lib.hid (fun g h => h.elim (fun h => Fcl_8.out.outer.lt g h) (fun h => Fcl_8.out.inner.lt g h))
  clear kk hb
  obtain ⟨zw00, zw01, zw02, _, _, _, zw0l⟩ := blk_cells Xw0_8.out
  obtain ⟨zg00, zg01, zg02, _, _, _, zg0l⟩ := blk_cells Xg0_8.out
  go_wp2_with fail
  clear zw00 zw01 zw02 zw0l
  clear zg00 zg01 zg02 zg0l
  refine (eqIntSS_same _ _ _ _ _ l _ (Lib.hid Fxl_8.out.lies) (Lib.hid Fcl_8.out.lies) HXl (by omega) (Lib.hid (by omega))).mono ?_
  rintro e w9 ⟨rfl, hb⟩
  have S9 := Lib.hid (hb.size)
  have B9 := Lib.hid (Below.tr B8.out hb)
  have Fw0_9 := Lib.hid (own_below Fw0_8.out hb)
  clear Fw0_8
  have Fxl_9 := Lib.hid (Fxl_8.out.below hb)
  clear Fxl_8
  have Fg0_9 := Lib.hid (own_below Fg0_8.out hb)
  clear Fg0_8
  have Fcl_9 := Lib.hid (Fcl_8.out.below hb)
  clear Fcl_8
  have Xw0_9 := Lib.hid (Xw0_8.out.below hb)
  clear Xw0_8
  have Xg0_9 := Lib.hid (Xg0_8.out.below hb)
  clear Xg0_8
  clear hb
  clear Fcl_9
  obtain ⟨zw00, zw01, zw02, _, _, _, zw0l⟩ := blk_cells Xw0_9.out
  obtain ⟨zg00, zg01, zg02, _, _, _, zg0l⟩ := blk_cells Xg0_9.out
  go_wp2_with fail
  clear zw00 zw01 zw02 zw0l
  clear zg00 zg01 zg02 zg0l
  refine (markIntSS_any _ _ _ _ _ l (1) _ Fxl_9 (by first | exact Lib.hid rfl | exact HXl) (by omega) (Lib.hid (by omega)) (by omega)).mono ?_
  rintro e w10 ⟨rfl, ho, hk⟩
  have S10 := Lib.hid (hk.size)
  have B10 := Lib.hid (hk.below B9.out B9.out.size (fun i hi => by have := Pxl.out i (.inr hi); have := S1.out; have := S2.out; have := S3.out; have := SE3.out; have := S4.out; have := S5.out; have := S6.out; have := SE6.out; have := S7.out; have := S8.out; have := S9.out; have := S10.out; omega))
  have Fw0_10 := Lib.hid (hk.own3 Fw0_9.out (fun g h q => by have := Pxl.out g (.inr q); have := Pw0.out g h; have := S1.out; have := S2.out; have := S3.out; have := SE3.out; have := S4.out; have := S5.out; have := S6.out; have := SE6.out; have := S7.out; have := S8.out; have := S9.out; have := S10.out; omega))
  clear Fw0_9
  have Fg0_10 := Lib.hid (hk.own3 Fg0_9.out (fun g h q => by have := Pxl.out g (.inr q); have := Pg0.out g h; have := S1.out; have := S2.out; have := S3.out; have := SE3.out; have := S4.out; have := S5.out; have := S6.out; have := SE6.out; have := S7.out; have := S8.out; have := S9.out; have := S10.out; omega))
  clear Fg0_9
  have Xw0_10 := Lib.hid (hk.blk Xw0_9.out (fun q => by have := Pxl.out _ (.inr q); have := Xw0_9.out.lt; have := S1.out; have := S2.out; have := S3.out; have := SE3.out; have := S4.out; have := S5.out; have := S6.out; have := SE6.out; have := S7.out; have := S8.out; have := S9.out; have := S10.out; omega))
  clear Xw0_9
  have Xg0_10 := Lib.hid (hk.blk Xg0_9.out (fun q => by have := Pxl.out _ (.inr q); have := Xg0_9.out.lt; have := S1.out; have := S2.out; have := S3.out; have := SE3.out; have := S4.out; have := S5.out; have := S6.out; have := SE6.out; have := S7.out; have := S8.out; have := S9.out; have := S10.out; omega))
  clear Xg0_9
  clear ho hk
  clear Fxl_9
  have hnegk : decide (1 + (tot l : Int) < 0) = false := by simp; omega
  obtain ⟨zw00, zw01, zw02, _, _, _, zw0l⟩ := blk_cells Xw0_10.out
  obtain ⟨zg00, zg01, zg02, _, _, _, zg0l⟩ := blk_cells Xg0_10.out
  go_wp2_with fail
  clear zw00 zw01 zw02 zw0l
  clear zg00 zg01 zg02 zg0l
  refine (eqDiagram_same r0a r0b _ _ _ _ _ r0 _ (Lib.hid (own_nlies rfl Fg0_10.out)) (Lib.hid (own_nlies rfl Fw0_10.out)) (Lib.hid rfl) (by omega)).mono ?_
  rintro e w11 ⟨rfl, hb⟩
  have S11 := Lib.hid (hb.size)
  have B11 := Lib.hid (Below.tr B10.out hb)
  have Fw0_11 := Lib.hid (own_below Fw0_10.out hb)
  clear Fw0_10
  have Fg0_11 := Lib.hid (own_below Fg0_10.out hb)
  clear Fg0_10
  have Xw0_11 := Lib.hid (Xw0_10.out.below hb)
  clear Xw0_10
  have Xg0_11 := Lib.hid (Xg0_10.out.below hb)
  clear Xg0_10
  clear hb
  obtain ⟨zw00, zw01, zw02, _, _, _, zw0l⟩ := blk_cells Xw0_11.out
  obtain ⟨zg00, zg01, zg02, _, _, _, zg0l⟩ := blk_cells Xg0_11.out
  go_wp2_with fail
  clear zw00 zw01 zw02 zw0l
  clear zg00 zg01 zg02 zg0l
  refine (markDiagram_any r0a r0b _ _ _ _ (ncells r0) (1) _ Fg0_11 (by omega) (by omega)).mono ?_
  rintro e w12 ⟨rfl, ho, hg⟩
  have hk := Kept.of_grown (S := fun g => (.slice Ag0 r0.length cg0 : Value).ownBlock = some g) hg (fun g h => h)
  clear hg
  have S12 := Lib.hid (hk.size)
  have B12 := Lib.hid (hk.below B11.out B11.out.size (fun i hi => by have := Pg0.out i hi; have := S1.out; have := S2.out; have := S3.out; have := SE3.out; have := S4.out; have := S5.out; have := S6.out; have := SE6.out; have := S7.out; have := S8.out; have := S9.out; have := S10.out; have := S11.out; have := S12.out; omega))
  have Fw0_12 := Lib.hid (hk.own3 Fw0_11.out (fun g h q => by have := Pg0.out g q; have := Pw0.out g h; have := S1.out; have := S2.out; have := S3.out; have := SE3.out; have := S4.out; have := S5.out; have := S6.out; have := SE6.out; have := S7.out; have := S8.out; have := S9.out; have := S10.out; have := S11.out; have := S12.out; omega))
  clear Fw0_11
  have Xw0_12 := Lib.hid (hk.blk Xw0_11.out (fun q => by have := Pg0.out _ q; have := Xw0_11.out.lt; have := S1.out; have := S2.out; have := S3.out; have := SE3.out; have := S4.out; have := S5.out; have := S6.out; have := SE6.out; have := S7.out; have := S8.out; have := S9.out; have := S10.out; have := S11.out; have := S12.out; omega))
  clear Xw0_11
  have Xg0_12 := Lib.hid (hk.blk Xg0_11.out (fun q => by have := Pg0.out _ q; have := Xg0_11.out.lt; have := S1.out; have := S2.out; have := S3.out; have := SE3.out; have := S4.out; have := S5.out; have := S6.out; have := SE6.out; have := S7.out; have := S8.out; have := S9.out; have := S10.out; have := S11.out; have := S12.out; omega))
  clear Xg0_11
  clear Fg0_11
  have Fg0_12 := Lib.hid ho
  clear ho hk
  have hnegm : decide (1 + (r0.length : Int) * 3 < 0) = false := by simp; omega
  have heqm : ((1 + (r0.length : Int) * 3 : Int) != (1 + (r0.length : Int) * 3 : Int)) = false := by simp
  obtain ⟨zw00, zw01, zw02, _, _, _, zw0l⟩ := blk_cells Xw0_12.out
  obtain ⟨zg00, zg01, zg02, _, _, _, zg0l⟩ := blk_cells Xg0_12.out
  go_wp2_with fail
  clear zw00 zw01 zw02 zw0l
  clear zg00 zg01 zg02 zg0l
  refine (heldDiagram_any r0a r0b _ _ _ (1) _ (Lib.hid (own_nlies (ndIs_len _ _) Fg0_12.out)) (by omega) (by omega)).mono ?_
  rintro e w13 ⟨rfl, hb⟩
  have S13 := Lib.hid (hb.size)
  have B13 := Lib.hid (Below.tr B12.out hb)
  have Fw0_13 := Lib.hid (own_below Fw0_12.out hb)
  clear Fw0_12
  have Fg0_13 := Lib.hid (own_below Fg0_12.out hb)
  clear Fg0_12
  have Xw0_13 := Lib.hid (Xw0_12.out.below hb)
  clear Xw0_12
  have Xg0_13 := Lib.hid (Xg0_12.out.below hb)
  clear Xg0_12
  clear hb
  obtain ⟨zw00, zw01, zw02, _, _, _, zw0l⟩ := blk_cells Xw0_13.out
  obtain ⟨zg00, zg01, zg02, _, _, _, zg0l⟩ := blk_cells Xg0_13.out
  go_wp2_with fail
  clear zw00 zw01 zw02 zw0l
  clear zg00 zg01 zg02 zg0l
  refine (toIntSS_any _ _ _ l _ (Lib.hid (HLl.out.below B13.out)) HXl hsl HTl).mono ?_
  rintro e w14 ⟨rfl, ⟨vsyl, kk⟩, hb⟩
  have S14 := Lib.hid (hb.size)
  have B14 := Lib.hid (Below.tr B13.out hb)
  have Fw0_14 := Lib.hid (own_below Fw0_13.out hb)
  clear Fw0_13
  have Fg0_14 := Lib.hid (own_below Fg0_13.out hb)
  clear Fg0_13
  have Xw0_14 := Lib.hid (Xw0_13.out.below hb)
  clear Xw0_13
  have Xg0_14 := Lib.hid (Xg0_13.out.below hb)
  clear Xg0_13
  have Fyl_14 := Lib.hid (kk)
  have Pyl : Hid (∀ g, ((.slice (some ⟨w13.heap.size, 0, none⟩) nl nl : Value).ownBlock = some g ∨ blks vsyl g) → w13.heap.size ≤ g ∧ g < w14.heap.size) := Lib.hid (fun g h => h.elim (fun h => Fyl_14.out.outer.lt g h) (fun h => Fyl_14.out.inner.lt g h))
  clear kk hb
  obtain ⟨zw00, zw01, zw02, _, _, _, zw0l⟩ := blk_cells Xw0_14.out
  obtain ⟨zg00, zg01, zg02, _, _, _, zg0l⟩ := blk_cells Xg0_14.out
  go_wp2_with fail
  clear zw00 zw01 zw02 zw0l
  clear zg00 zg01 zg02 zg0l
  refine (implBy_any v _ _ _ l _ r0a r0 r0b r1 HR Fyl_14.out.lies HXl hnl).mono ?_
  rintro e w15 ⟨Ah0, ch0, rfl, ho0, hb⟩
  have S15 := Lib.hid (hb.size)
  have B15 := Lib.hid (Below.tr B14.out hb)
  have Fw0_15 := Lib.hid (own_below Fw0_14.out hb)
  clear Fw0_14
  have Fg0_15 := Lib.hid (own_below Fg0_14.out hb)
  clear Fg0_14
  have Fyl_15 := Lib.hid (Fyl_14.out.below hb)
  clear Fyl_14
  have Xw0_15 := Lib.hid (Xw0_14.out.below hb)
  clear Xw0_14
  have Xg0_15 := Lib.hid (Xg0_14.out.below hb)
  clear Xg0_14
  have Fh0_15 := Lib.hid (ho0)
  have Ph0 : Hid (∀ g, (.slice Ah0 r0.length ch0 : Value).ownBlock = some g → w14.heap.size ≤ g ∧ g < w15.heap.size) := Lib.hid (fun g h => Fh0_15.out.lt g h)
  clear hb ho0
  clear Fyl_15
  obtain ⟨zw00, zw01, zw02, _, _, _, zw0l⟩ := blk_cells Xw0_15.out
  obtain ⟨zg00, zg01, zg02, _, _, _, zg0l⟩ := blk_cells Xg0_15.out
  go_wp2_with fail
  clear zw00 zw01 zw02 zw0l
  clear zg00 zg01 zg02 zg0l
  obtain ⟨w16, hw16⟩ : ∃ W, W = w15.alloc (.cells #[.int .i64 r0a, .slice Ah0 r0.length ch0, .int .i64 r0b] 28) := ⟨_, rfl⟩
  have hb : Below w15.heap.size w15 w16 := by rw [hw16]; exact below1 _ _
  have hx : Blk w16 w15.heap.size 28 [.int .i64 r0a, .slice Ah0 r0.length ch0, .int .i64 r0b] := by rw [hw16]; exact heap_alloc_new _ _
  have hsz : w16.heap.size = w15.heap.size + 1 := by rw [hw16]; simp
  rw [← hw16]
  clear hw16
  have S16 := Lib.hid (hb.size)
  have SE16 := Lib.hid hsz
  have B16 := Lib.hid (Below.tr B15.out hb)
  have Fw0_16 := Lib.hid (own_below Fw0_15.out hb)
  clear Fw0_15
  have Fg0_16 := Lib.hid (own_below Fg0_15.out hb)
  clear Fg0_15
  have Fh0_16 := Lib.hid (own_below Fh0_15.out hb)
  clear Fh0_15
  have Xw0_16 := Lib.hid (Xw0_15.out.below hb)
  clear Xw0_15
  have Xg0_16 := Lib.hid (Xg0_15.out.below hb)
  clear Xg0_15
  have Xh0_16 := Lib.hid hx
  clear hb hx hsz
  refine (eqDiagram_same r0a r0b _ _ _ _ _ r0 _ (Lib.hid (own_nlies rfl Fh0_16.out)) (Lib.hid (own_nlies rfl Fw0_16.out)) (Lib.hid rfl) (by omega)).mono ?_
  rintro e w17 ⟨rfl, hb⟩
  have S17 := Lib.hid (hb.size)
  have B17 := Lib.hid (Below.tr B16.out hb)
  have Fw0_17 := Lib.hid (own_below Fw0_16.out hb)
  clear Fw0_16
  have Fg0_17 := Lib.hid (own_below Fg0_16.out hb)
  clear Fg0_16
  have Fh0_17 := Lib.hid (own_below Fh0_16.out hb)
  clear Fh0_16
  have Xw0_17 := Lib.hid (Xw0_16.out.below hb)
  clear Xw0_16
  have Xg0_17 := Lib.hid (Xg0_16.out.below hb)
  clear Xg0_16
  have Xh0_17 := Lib.hid (Xh0_16.out.below hb)
  clear Xh0_16
  clear hb
  clear Fh0_17
  clear Fw0_17
  obtain ⟨zw00, zw01, zw02, _, _, _, zw0l⟩ := blk_cells Xw0_17.out
  obtain ⟨zg00, zg01, zg02, _, _, _, zg0l⟩ := blk_cells Xg0_17.out
  obtain ⟨zh00, zh01, zh02, _, _, _, zh0l⟩ := blk_cells Xh0_17.out
  go_wp2_with fail
  clear zw00 zw01 zw02 zw0l
  clear zg00 zg01 zg02 zg0l
  clear zh00 zh01 zh02 zh0l
  refine (heldDiagram_any r0a r0b _ _ _ (1) _ (Lib.hid (own_nlies (ndIs_len _ _) Fg0_17.out)) (by omega) (by omega)).mono ?_
  rintro e w18 ⟨rfl, hb⟩
  have S18 := Lib.hid (hb.size)
  have B18 := Lib.hid (Below.tr B17.out hb)
  have Fg0_18 := Lib.hid (own_below Fg0_17.out hb)
  clear Fg0_17
  have Xw0_18 := Lib.hid (Xw0_17.out.below hb)
  clear Xw0_17
  have Xg0_18 := Lib.hid (Xg0_17.out.below hb)
  clear Xg0_17
  have Xh0_18 := Lib.hid (Xh0_17.out.below hb)
  clear Xh0_17
  clear hb
  obtain ⟨zw00, zw01, zw02, _, _, _, zw0l⟩ := blk_cells Xw0_18.out
  obtain ⟨zg00, zg01, zg02, _, _, _, zg0l⟩ := blk_cells Xg0_18.out
  obtain ⟨zh00, zh01, zh02, _, _, _, zh0l⟩ := blk_cells Xh0_18.out
  go_wp2
  go_ret
  exact ⟨rfl, B18.out⟩
end Go.Proofs.Ythhmacocijcjiaa
