/-
  The walk of the law of Fix.
-/
import Derived.Test.YthhmacocijcjiaaSp7
import Derived.Test.YthhmacocijcjiaaDLen
import Derived.Test.YthhmacocijcjiaaDOpen
namespace Go.Proofs.Ythhmacocijcjiaa
open Go.ChangeShapes Go.WideShapes Go.ChangeAt Go.RowKit

set_option maxRecDepth 100000 in
set_option maxHeartbeats 8000000 in
theorem lawFix (d0 d2 : Int) (Ad : Option Addr) (capd : Nat) (d : List Nd) (v : Int) (so : Bool) (w : World) (hnd : d.length ≤ 9223372036854775807) (hld : NLies w Ad d) :
    Calls Try.prog 12 #[.agg #[.int .i64 d0, .slice Ad d.length capd, .int .i64 d2], .int .i64 v, .bool so] w fun e w' => e = .returned (.bool true) ∧ Below w.heap.size w w' := by
  obtain ⟨nd, hxd⟩ : ∃ n, d.length = n := ⟨_, rfl⟩
  rw [hxd] at hnd ⊢
  have HXd := Lib.hid hxd
  have HLd := Lib.hid hld
  clear hxd hld
  go_enter Try.func12, Try.ntmps12
  go_wp2_with fail
  obtain ⟨w1, hw1⟩ : ∃ W, W = w.alloc (.cells #[.int .i64 d0, .slice Ad nd capd, .int .i64 d2] 66) := ⟨_, rfl⟩
  have hb : Below w.heap.size w w1 := by rw [hw1]; exact below1 _ _
  have hx : Blk w1 w.heap.size 66 [.int .i64 d0, .slice Ad nd capd, .int .i64 d2] := by rw [hw1]; exact heap_alloc_new _ _
  have hsz : w1.heap.size = w.heap.size + 1 := by rw [hw1]; simp
  rw [← hw1]
  clear hw1
  have S1 := Lib.hid (hb.size)
  have SE1 := Lib.hid hsz
  have B1 := Lib.hid (Below.tr (Below.refl _ _) hb)
  have Xad_1 := Lib.hid hx
  clear hb hx hsz
  refine (szDiagram_any d0 d2 Ad nd capd 1048576 _ hnd (by omega) (by omega)).mono ?_
  rintro e w2 ⟨rfl, hb⟩
  have S2 := Lib.hid (hb.size)
  have B2 := Lib.hid (Below.tr B1.out hb)
  have Xad_2 := Lib.hid (Xad_1.out.below hb)
  clear Xad_1
  clear hb
  by_cases hnegd : 1048576 - (nd : Int) < 0
  · have hszd : szF 1048576 nd = -1 := if_pos (by omega)
    rw [hszd]
    go_wp2
    go_ret
    exact ⟨rfl, B2.out⟩
  have hszd : szF 1048576 nd = 1048576 - nd := if_neg (by omega)
  rw [hszd]
  clear hszd
  have hsd : nd ≤ 1048576 := by omega
  obtain ⟨⟨⟨r0a, r0, r0b⟩, r1⟩, hr⟩ : ∃ x, rFix d0 d d2 v so = x := ⟨_, rfl⟩
  have hrl : r0.length ≤ 64 := rFix_len hr
  have HR := Lib.hid hr
  clear hr
  obtain ⟨zad0, zad1, zad2, _, _, _, zadl⟩ := blk_cells Xad_2.out
  go_wp2_with fail
  clear zad0 zad1 zad2 zadl
  refine (toDiagram_any d0 d2 _ _ _ d _ (Lib.hid (HLd.out.below B2.out)) HXd hsd).mono ?_
  rintro e w3 ⟨gsd, rfl, hge, kk, hb⟩
  have S3 := Lib.hid (hb.size)
  have B3 := Lib.hid (Below.tr B2.out hb)
  have Xad_3 := Lib.hid (Xad_2.out.below hb)
  clear Xad_2
  have Fsd_3 := Lib.hid (own_baseN (own_of_nblk kk HXd.out hsd) hge)
  have Psd : Hid (∀ g, (.slice (some ⟨gsd, 0, none⟩) nd nd : Value).ownBlock = some g → w2.heap.size ≤ g ∧ g < w3.heap.size) := Lib.hid (fun g h => Fsd_3.out.lt g h)
  clear kk hb hge
  obtain ⟨zad0, zad1, zad2, _, _, _, zadl⟩ := blk_cells Xad_3.out
  go_wp2_with fail
  clear zad0 zad1 zad2 zadl
  refine (specFix_any d0 d2 v so _ _ _ d _ r0a r0 r0b r1 HR (Lib.hid (own_nlies HXd.out Fsd_3.out)) HXd hsd).mono ?_
  rintro e w4 ⟨Aw0, cw0, rfl, ho0, hb⟩
  have S4 := Lib.hid (hb.size)
  have B4 := Lib.hid (Below.tr B3.out hb)
  have Fsd_4 := Lib.hid (own_below Fsd_3.out hb)
  clear Fsd_3
  have Xad_4 := Lib.hid (Xad_3.out.below hb)
  clear Xad_3
  have Fw0_4 := Lib.hid (ho0)
  have Pw0 : Hid (∀ g, (.slice Aw0 r0.length cw0 : Value).ownBlock = some g → w3.heap.size ≤ g ∧ g < w4.heap.size) := Lib.hid (fun g h => Fw0_4.out.lt g h)
  clear hb ho0
  clear Fsd_4
  obtain ⟨zad0, zad1, zad2, _, _, _, zadl⟩ := blk_cells Xad_4.out
  go_wp2_with fail
  clear zad0 zad1 zad2 zadl
  obtain ⟨w5, hw5⟩ : ∃ W, W = w4.alloc (.cells #[.int .i64 r0a, .slice Aw0 r0.length cw0, .int .i64 r0b] 28) := ⟨_, rfl⟩
  have hb : Below w4.heap.size w4 w5 := by rw [hw5]; exact below1 _ _
  have hx : Blk w5 w4.heap.size 28 [.int .i64 r0a, .slice Aw0 r0.length cw0, .int .i64 r0b] := by rw [hw5]; exact heap_alloc_new _ _
  have hsz : w5.heap.size = w4.heap.size + 1 := by rw [hw5]; simp
  rw [← hw5]
  clear hw5
  have S5 := Lib.hid (hb.size)
  have SE5 := Lib.hid hsz
  have B5 := Lib.hid (Below.tr B4.out hb)
  have Fw0_5 := Lib.hid (own_below Fw0_4.out hb)
  clear Fw0_4
  have Xad_5 := Lib.hid (Xad_4.out.below hb)
  clear Xad_4
  have Xw0_5 := Lib.hid hx
  clear hb hx hsz
  refine (toDiagram_any d0 d2 _ _ _ d _ (Lib.hid (HLd.out.below B5.out)) HXd hsd).mono ?_
  rintro e w6 ⟨gxd, rfl, hge, kk, hb⟩
  have S6 := Lib.hid (hb.size)
  have B6 := Lib.hid (Below.tr B5.out hb)
  have Fw0_6 := Lib.hid (own_below Fw0_5.out hb)
  clear Fw0_5
  have Xad_6 := Lib.hid (Xad_5.out.below hb)
  clear Xad_5
  have Xw0_6 := Lib.hid (Xw0_5.out.below hb)
  clear Xw0_5
  have Fxd_6 := Lib.hid (own_baseN (own_of_nblk kk HXd.out hsd) hge)
  have Pxd : Hid (∀ g, (.slice (some ⟨gxd, 0, none⟩) nd nd : Value).ownBlock = some g → w5.heap.size ≤ g ∧ g < w6.heap.size) := Lib.hid (fun g h => Fxd_6.out.lt g h)
  clear kk hb hge
  obtain ⟨zad0, zad1, zad2, _, _, _, zadl⟩ := blk_cells Xad_6.out
  obtain ⟨zw00, zw01, zw02, _, _, _, zw0l⟩ := blk_cells Xw0_6.out
  go_wp2_with fail
  clear zad0 zad1 zad2 zadl
  clear zw00 zw01 zw02 zw0l
  obtain ⟨w7, hw7⟩ : ∃ W, W = w6.alloc (.cells #[.int .i64 d0, .slice (some ⟨gxd, 0, none⟩) nd nd, .int .i64 d2] 28) := ⟨_, rfl⟩
  have hb : Below w6.heap.size w6 w7 := by rw [hw7]; exact below1 _ _
  have hx : Blk w7 w6.heap.size 28 [.int .i64 d0, .slice (some ⟨gxd, 0, none⟩) nd nd, .int .i64 d2] := by rw [hw7]; exact heap_alloc_new _ _
  have hsz : w7.heap.size = w6.heap.size + 1 := by rw [hw7]; simp
  rw [← hw7]
  clear hw7
  have S7 := Lib.hid (hb.size)
  have SE7 := Lib.hid hsz
  have B7 := Lib.hid (Below.tr B6.out hb)
  have Fw0_7 := Lib.hid (own_below Fw0_6.out hb)
  clear Fw0_6
  have Fxd_7 := Lib.hid (own_below Fxd_6.out hb)
  clear Fxd_6
  have Xad_7 := Lib.hid (Xad_6.out.below hb)
  clear Xad_6
  have Xw0_7 := Lib.hid (Xw0_6.out.below hb)
  clear Xw0_6
  have Xxd_7 := Lib.hid hx
  clear hb hx hsz
  refine (implFix_any d0 d2 v so _ _ _ d _ r0a r0 r0b r1 HR (Lib.hid (own_nlies HXd.out Fxd_7.out)) HXd hsd).mono ?_
  rintro e w8 ⟨Ag0, cg0, rfl, ho0, hb⟩
  have S8 := Lib.hid (hb.size)
  have B8 := Lib.hid (Below.tr B7.out hb)
  have Fw0_8 := Lib.hid (own_below Fw0_7.out hb)
  clear Fw0_7
  have Fxd_8 := Lib.hid (own_below Fxd_7.out hb)
  clear Fxd_7
  have Xad_8 := Lib.hid (Xad_7.out.below hb)
  clear Xad_7
  have Xw0_8 := Lib.hid (Xw0_7.out.below hb)
  clear Xw0_7
  have Xxd_8 := Lib.hid (Xxd_7.out.below hb)
  clear Xxd_7
  have Fg0_8 := Lib.hid (ho0)
  have Pg0 : Hid (∀ g, (.slice Ag0 r0.length cg0 : Value).ownBlock = some g → w7.heap.size ≤ g ∧ g < w8.heap.size) := Lib.hid (fun g h => Fg0_8.out.lt g h)
  clear hb ho0
  have hb1 : (r1 != r1) = false := by simp
  obtain ⟨zad0, zad1, zad2, _, _, _, zadl⟩ := blk_cells Xad_8.out
  obtain ⟨zw00, zw01, zw02, _, _, _, zw0l⟩ := blk_cells Xw0_8.out
  obtain ⟨zxd0, zxd1, zxd2, _, _, _, zxdl⟩ := blk_cells Xxd_8.out
  go_wp2_with fail
  clear zad0 zad1 zad2 zadl
  clear zw00 zw01 zw02 zw0l
  clear zxd0 zxd1 zxd2 zxdl
  obtain ⟨w9, hw9⟩ : ∃ W, W = w8.alloc (.cells #[.int .i64 r0a, .slice Ag0 r0.length cg0, .int .i64 r0b] 28) := ⟨_, rfl⟩
  have hb : Below w8.heap.size w8 w9 := by rw [hw9]; exact below1 _ _
  have hx : Blk w9 w8.heap.size 28 [.int .i64 r0a, .slice Ag0 r0.length cg0, .int .i64 r0b] := by rw [hw9]; exact heap_alloc_new _ _
  have hsz : w9.heap.size = w8.heap.size + 1 := by rw [hw9]; simp
  rw [← hw9]
  clear hw9
  have S9 := Lib.hid (hb.size)
  have SE9 := Lib.hid hsz
  have B9 := Lib.hid (Below.tr B8.out hb)
  have Fw0_9 := Lib.hid (own_below Fw0_8.out hb)
  clear Fw0_8
  have Fxd_9 := Lib.hid (own_below Fxd_8.out hb)
  clear Fxd_8
  have Fg0_9 := Lib.hid (own_below Fg0_8.out hb)
  clear Fg0_8
  have Xad_9 := Lib.hid (Xad_8.out.below hb)
  clear Xad_8
  have Xw0_9 := Lib.hid (Xw0_8.out.below hb)
  clear Xw0_8
  have Xxd_9 := Lib.hid (Xxd_8.out.below hb)
  clear Xxd_8
  have Xg0_9 := Lib.hid hx
  clear hb hx hsz
  refine (eqDiagram_same r0a r0b _ _ _ _ _ r0 _ (Lib.hid (own_nlies rfl Fg0_9.out)) (Lib.hid (own_nlies rfl Fw0_9.out)) (Lib.hid rfl) (by omega)).mono ?_
  rintro e w10 ⟨rfl, hb⟩
  have S10 := Lib.hid (hb.size)
  have B10 := Lib.hid (Below.tr B9.out hb)
  have Fw0_10 := Lib.hid (own_below Fw0_9.out hb)
  clear Fw0_9
  have Fxd_10 := Lib.hid (own_below Fxd_9.out hb)
  clear Fxd_9
  have Fg0_10 := Lib.hid (own_below Fg0_9.out hb)
  clear Fg0_9
  have Xad_10 := Lib.hid (Xad_9.out.below hb)
  clear Xad_9
  have Xw0_10 := Lib.hid (Xw0_9.out.below hb)
  clear Xw0_9
  have Xxd_10 := Lib.hid (Xxd_9.out.below hb)
  clear Xxd_9
  have Xg0_10 := Lib.hid (Xg0_9.out.below hb)
  clear Xg0_9
  clear hb
  obtain ⟨zad0, zad1, zad2, _, _, _, zadl⟩ := blk_cells Xad_10.out
  obtain ⟨zw00, zw01, zw02, _, _, _, zw0l⟩ := blk_cells Xw0_10.out
  obtain ⟨zxd0, zxd1, zxd2, _, _, _, zxdl⟩ := blk_cells Xxd_10.out
  obtain ⟨zg00, zg01, zg02, _, _, _, zg0l⟩ := blk_cells Xg0_10.out
  go_wp2_with fail
  clear zad0 zad1 zad2 zadl
  clear zw00 zw01 zw02 zw0l
  clear zxd0 zxd1 zxd2 zxdl
  clear zg00 zg01 zg02 zg0l
  obtain ⟨zad0, zad1, zad2, _, _, _, zadl⟩ := blk_cells Xad_10.out
  obtain ⟨zw00, zw01, zw02, _, _, _, zw0l⟩ := blk_cells Xw0_10.out
  obtain ⟨zxd0, zxd1, zxd2, _, _, _, zxdl⟩ := blk_cells Xxd_10.out
  obtain ⟨zg00, zg01, zg02, _, _, _, zg0l⟩ := blk_cells Xg0_10.out
  refine wp_region_held_drew (S := fun W => W.cell? ⟨w6.heap.size, 0, none⟩ = some (.int .i64 d0) ∧ W.cell? ⟨w6.heap.size, 1, none⟩ = some (.slice (some ⟨gxd, 0, none⟩) nd nd) ∧ W.cell? ⟨w6.heap.size, 2, none⟩ = some (.int .i64 d2) ∧ W.cell? ⟨w.heap.size, 0, none⟩ = some (.int .i64 d0) ∧ W.cell? ⟨w.heap.size, 1, none⟩ = some (.slice Ad nd capd) ∧ W.cell? ⟨w.heap.size, 2, none⟩ = some (.int .i64 d2)) (by kernel_rfl) ?_ (fun hHeld => ?_)
  · exact ⟨zxd0, zxd1, zxd2, zad0, zad1, zad2⟩
  clear zad0 zad1 zad2 zadl
  clear zw00 zw01 zw02 zw0l
  clear zxd0 zxd1 zxd2 zxdl
  clear zg00 zg01 zg02 zg0l
  obtain ⟨w11, hw11⟩ : ∃ W, W = w10.drew := ⟨_, rfl⟩
  have hb : Below w10.heap.size w10 w11 := by rw [hw11]; exact (Below.refl _ _).drew
  rw [← hw11] at hHeld ⊢
  clear hw11
  have S11 := Lib.hid (hb.size)
  have B11 := Lib.hid (Below.tr B10.out hb)
  have Fw0_11 := Lib.hid (own_below Fw0_10.out hb)
  clear Fw0_10
  have Fxd_11 := Lib.hid (own_below Fxd_10.out hb)
  clear Fxd_10
  have Fg0_11 := Lib.hid (own_below Fg0_10.out hb)
  clear Fg0_10
  have Xad_11 := Lib.hid (Xad_10.out.below hb)
  clear Xad_10
  have Xw0_11 := Lib.hid (Xw0_10.out.below hb)
  clear Xw0_10
  have Xxd_11 := Lib.hid (Xxd_10.out.below hb)
  clear Xxd_10
  have Xg0_11 := Lib.hid (Xg0_10.out.below hb)
  clear Xg0_10
  clear hb
  refine wpAnyH_take (i := 0) (v := ?_) rfl (by kernel_rfl) (by kernel_rfl) (by kernel_rfl) (fun _ _ _ h => h) (Or.inl ⟨by rfl, ?_⟩) (by assumption) ?_
  rotate_left
  · intro W hSw
    try dsimp only at hSw
    go_simp
    try with_reducible rfl
  simp only [Act.put, List.setIfInBounds_toArray]
  refine wpAnyH_take (i := 1) (v := ?_) rfl (by kernel_rfl) (by kernel_rfl) (by kernel_rfl) (fun _ _ _ h => h) (Or.inl ⟨by rfl, ?_⟩) (by assumption) ?_
  rotate_left
  · intro W hSw
    try dsimp only at hSw
    go_simp
    try with_reducible rfl
  simp only [Act.put]
  refine wpAnyH_ready (rs := [2]) (by kernel_rfl) (by simp) ?_
  refine AllReadyH.cons rfl (fun K hK => ?_) AllReadyH.nil
  go_simp
  refine (toDiagram_any d0 d2 _ _ _ d _ (Lib.hid (HLd.out.below B11.out)) HXd hsd).mono ?_
  rintro e w12 ⟨gcd, rfl, hge, kk, hb⟩
  have S12 := Lib.hid (hb.size)
  have B12 := Lib.hid (Below.tr B11.out hb)
  have Fw0_12 := Lib.hid (own_below Fw0_11.out hb)
  clear Fw0_11
  have Fxd_12 := Lib.hid (own_below Fxd_11.out hb)
  clear Fxd_11
  have Fg0_12 := Lib.hid (own_below Fg0_11.out hb)
  clear Fg0_11
  have Xad_12 := Lib.hid (Xad_11.out.below hb)
  clear Xad_11
  have Xw0_12 := Lib.hid (Xw0_11.out.below hb)
  clear Xw0_11
  have Xxd_12 := Lib.hid (Xxd_11.out.below hb)
  clear Xxd_11
  have Xg0_12 := Lib.hid (Xg0_11.out.below hb)
  clear Xg0_11
  have Fcd_12 := Lib.hid (own_baseN (own_of_nblk kk HXd.out hsd) hge)
  have Pcd : Hid (∀ g, (.slice (some ⟨gcd, 0, none⟩) nd nd : Value).ownBlock = some g → w11.heap.size ≤ g ∧ g < w12.heap.size) := Lib.hid (fun g h => Fcd_12.out.lt g h)
  clear kk hb hge
  obtain ⟨zad0, zad1, zad2, _, _, _, zadl⟩ := blk_cells Xad_12.out
  obtain ⟨zw00, zw01, zw02, _, _, _, zw0l⟩ := blk_cells Xw0_12.out
  obtain ⟨zxd0, zxd1, zxd2, _, _, _, zxdl⟩ := blk_cells Xxd_12.out
  obtain ⟨zg00, zg01, zg02, _, _, _, zg0l⟩ := blk_cells Xg0_12.out
  refine hK.out _ _ ⟨zxd0, zxd1, zxd2, zad0, zad1, zad2⟩ (fun hH1 => ?_)
  clear hK K hHeld
  try simp only [Act.put, List.setIfInBounds_toArray, List.set_cons_zero, List.set_cons_succ]
  clear zad0 zad1 zad2 zadl
  clear zw00 zw01 zw02 zw0l
  clear zxd0 zxd1 zxd2 zxdl
  clear zg00 zg01 zg02 zg0l
  refine wpAnyH_ready (rs := [3]) (by kernel_rfl) (by simp) ?_
  refine AllReadyH.cons rfl (fun K hK => ?_) AllReadyH.nil
  go_simp
  refine (eqDiagram_same d0 d2 _ _ _ _ _ d _ (Lib.hid (own_nlies HXd.out Fxd_12.out)) (Lib.hid (own_nlies HXd.out Fcd_12.out)) HXd (by omega)).mono ?_
  rintro e w13 ⟨rfl, hb⟩
  have S13 := Lib.hid (hb.size)
  have B13 := Lib.hid (Below.tr B12.out hb)
  have Fw0_13 := Lib.hid (own_below Fw0_12.out hb)
  clear Fw0_12
  have Fxd_13 := Lib.hid (own_below Fxd_12.out hb)
  clear Fxd_12
  have Fg0_13 := Lib.hid (own_below Fg0_12.out hb)
  clear Fg0_12
  have Fcd_13 := Lib.hid (own_below Fcd_12.out hb)
  clear Fcd_12
  have Xad_13 := Lib.hid (Xad_12.out.below hb)
  clear Xad_12
  have Xw0_13 := Lib.hid (Xw0_12.out.below hb)
  clear Xw0_12
  have Xxd_13 := Lib.hid (Xxd_12.out.below hb)
  clear Xxd_12
  have Xg0_13 := Lib.hid (Xg0_12.out.below hb)
  clear Xg0_12
  clear hb
  clear Fcd_13
  obtain ⟨zad0, zad1, zad2, _, _, _, zadl⟩ := blk_cells Xad_13.out
  obtain ⟨zw00, zw01, zw02, _, _, _, zw0l⟩ := blk_cells Xw0_13.out
  obtain ⟨zxd0, zxd1, zxd2, _, _, _, zxdl⟩ := blk_cells Xxd_13.out
  obtain ⟨zg00, zg01, zg02, _, _, _, zg0l⟩ := blk_cells Xg0_13.out
  refine hK.out _ _ ⟨zxd0, zxd1, zxd2, zad0, zad1, zad2⟩ (fun hH2 => ?_)
  clear hK K hH1
  try simp only [Act.put, List.setIfInBounds_toArray, List.set_cons_zero, List.set_cons_succ]
  clear zad0 zad1 zad2 zadl
  clear zw00 zw01 zw02 zw0l
  clear zxd0 zxd1 zxd2 zxdl
  clear zg00 zg01 zg02 zg0l
  refine wpAnyH_ready (rs := [4]) (by kernel_rfl) (by simp) ?_
  refine AllReadyH.cons rfl (fun K hK => ?_) AllReadyH.nil
  go_simp
  obtain ⟨zad0, zad1, zad2, _, _, _, zadl⟩ := blk_cells Xad_13.out
  obtain ⟨zw00, zw01, zw02, _, _, _, zw0l⟩ := blk_cells Xw0_13.out
  obtain ⟨zxd0, zxd1, zxd2, _, _, _, zxdl⟩ := blk_cells Xxd_13.out
  obtain ⟨zg00, zg01, zg02, _, _, _, zg0l⟩ := blk_cells Xg0_13.out
  refine hK.out _ _ ⟨zxd0, zxd1, zxd2, zad0, zad1, zad2⟩ (fun hH3 => ?_)
  clear hK K hH2
  try simp only [Act.put, List.setIfInBounds_toArray, List.set_cons_zero, List.set_cons_succ]
  clear zad0 zad1 zad2 zadl
  clear zw00 zw01 zw02 zw0l
  clear zxd0 zxd1 zxd2 zxdl
  clear zg00 zg01 zg02 zg0l
  refine wpAnyH_done (by kernel_rfl) ?_ _
  clear hH3
  obtain ⟨zad0, zad1, zad2, _, _, _, zadl⟩ := blk_cells Xad_13.out
  obtain ⟨zw00, zw01, zw02, _, _, _, zw0l⟩ := blk_cells Xw0_13.out
  obtain ⟨zxd0, zxd1, zxd2, _, _, _, zxdl⟩ := blk_cells Xxd_13.out
  obtain ⟨zg00, zg01, zg02, _, _, _, zg0l⟩ := blk_cells Xg0_13.out
  go_wp2_with fail
  clear zad0 zad1 zad2 zadl
  clear zw00 zw01 zw02 zw0l
  clear zxd0 zxd1 zxd2 zxdl
  clear zg00 zg01 zg02 zg0l
  refine (markDiagram_any d0 d2 _ _ _ _ (ncells d) (1) _ Fxd_13 (by omega) (by omega)).mono ?_
  rintro e w14 ⟨rfl, ho, hg⟩
  have hk := Kept.of_grown (S := fun g => (.slice (some ⟨gxd, 0, none⟩) nd nd : Value).ownBlock = some g) hg (fun g h => h)
  clear hg
  have S14 := Lib.hid (hk.size)
  have B14 := Lib.hid (hk.below B13.out B13.out.size (fun i hi => by have := Pxd.out i hi; have := S1.out; have := SE1.out; have := S2.out; have := S3.out; have := S4.out; have := S5.out; have := SE5.out; have := S6.out; have := S7.out; have := SE7.out; have := S8.out; have := S9.out; have := SE9.out; have := S10.out; have := S11.out; have := S12.out; have := S13.out; have := S14.out; omega))
  have Fw0_14 := Lib.hid (hk.own3 Fw0_13.out (fun g h q => by have := Pxd.out g q; have := Pw0.out g h; have := S1.out; have := SE1.out; have := S2.out; have := S3.out; have := S4.out; have := S5.out; have := SE5.out; have := S6.out; have := S7.out; have := SE7.out; have := S8.out; have := S9.out; have := SE9.out; have := S10.out; have := S11.out; have := S12.out; have := S13.out; have := S14.out; omega))
  clear Fw0_13
  have Fg0_14 := Lib.hid (hk.own3 Fg0_13.out (fun g h q => by have := Pxd.out g q; have := Pg0.out g h; have := S1.out; have := SE1.out; have := S2.out; have := S3.out; have := S4.out; have := S5.out; have := SE5.out; have := S6.out; have := S7.out; have := SE7.out; have := S8.out; have := S9.out; have := SE9.out; have := S10.out; have := S11.out; have := S12.out; have := S13.out; have := S14.out; omega))
  clear Fg0_13
  have Xad_14 := Lib.hid (hk.blk Xad_13.out (fun q => by have := Pxd.out _ q; have := Xad_13.out.lt; have := S1.out; have := SE1.out; have := S2.out; have := S3.out; have := S4.out; have := S5.out; have := SE5.out; have := S6.out; have := S7.out; have := SE7.out; have := S8.out; have := S9.out; have := SE9.out; have := S10.out; have := S11.out; have := S12.out; have := S13.out; have := S14.out; omega))
  clear Xad_13
  have Xw0_14 := Lib.hid (hk.blk Xw0_13.out (fun q => by have := Pxd.out _ q; have := Xw0_13.out.lt; have := S1.out; have := SE1.out; have := S2.out; have := S3.out; have := S4.out; have := S5.out; have := SE5.out; have := S6.out; have := S7.out; have := SE7.out; have := S8.out; have := S9.out; have := SE9.out; have := S10.out; have := S11.out; have := S12.out; have := S13.out; have := S14.out; omega))
  clear Xw0_13
  have Xxd_14 := Lib.hid (hk.blk Xxd_13.out (fun q => by have := Pxd.out _ q; have := Xxd_13.out.lt; have := S1.out; have := SE1.out; have := S2.out; have := S3.out; have := S4.out; have := S5.out; have := SE5.out; have := S6.out; have := S7.out; have := SE7.out; have := S8.out; have := S9.out; have := SE9.out; have := S10.out; have := S11.out; have := S12.out; have := S13.out; have := S14.out; omega))
  clear Xxd_13
  have Xg0_14 := Lib.hid (hk.blk Xg0_13.out (fun q => by have := Pxd.out _ q; have := Xg0_13.out.lt; have := S1.out; have := SE1.out; have := S2.out; have := S3.out; have := S4.out; have := S5.out; have := SE5.out; have := S6.out; have := S7.out; have := SE7.out; have := S8.out; have := S9.out; have := SE9.out; have := S10.out; have := S11.out; have := S12.out; have := S13.out; have := S14.out; omega))
  clear Xg0_13
  clear ho hk
  clear Fxd_13
  have hnegk : decide (1 + (nd : Int) * 3 < 0) = false := by simp; omega
  obtain ⟨zad0, zad1, zad2, _, _, _, zadl⟩ := blk_cells Xad_14.out
  obtain ⟨zw00, zw01, zw02, _, _, _, zw0l⟩ := blk_cells Xw0_14.out
  obtain ⟨zxd0, zxd1, zxd2, _, _, _, zxdl⟩ := blk_cells Xxd_14.out
  obtain ⟨zg00, zg01, zg02, _, _, _, zg0l⟩ := blk_cells Xg0_14.out
  go_wp2_with fail
  clear zad0 zad1 zad2 zadl
  clear zw00 zw01 zw02 zw0l
  clear zxd0 zxd1 zxd2 zxdl
  clear zg00 zg01 zg02 zg0l
  refine (eqDiagram_same r0a r0b _ _ _ _ _ r0 _ (Lib.hid (own_nlies rfl Fg0_14.out)) (Lib.hid (own_nlies rfl Fw0_14.out)) (Lib.hid rfl) (by omega)).mono ?_
  rintro e w15 ⟨rfl, hb⟩
  have S15 := Lib.hid (hb.size)
  have B15 := Lib.hid (Below.tr B14.out hb)
  have Fw0_15 := Lib.hid (own_below Fw0_14.out hb)
  clear Fw0_14
  have Fg0_15 := Lib.hid (own_below Fg0_14.out hb)
  clear Fg0_14
  have Xad_15 := Lib.hid (Xad_14.out.below hb)
  clear Xad_14
  have Xw0_15 := Lib.hid (Xw0_14.out.below hb)
  clear Xw0_14
  have Xxd_15 := Lib.hid (Xxd_14.out.below hb)
  clear Xxd_14
  have Xg0_15 := Lib.hid (Xg0_14.out.below hb)
  clear Xg0_14
  clear hb
  obtain ⟨zad0, zad1, zad2, _, _, _, zadl⟩ := blk_cells Xad_15.out
  obtain ⟨zw00, zw01, zw02, _, _, _, zw0l⟩ := blk_cells Xw0_15.out
  obtain ⟨zxd0, zxd1, zxd2, _, _, _, zxdl⟩ := blk_cells Xxd_15.out
  obtain ⟨zg00, zg01, zg02, _, _, _, zg0l⟩ := blk_cells Xg0_15.out
  go_wp2_with fail
  clear zad0 zad1 zad2 zadl
  clear zw00 zw01 zw02 zw0l
  clear zxd0 zxd1 zxd2 zxdl
  clear zg00 zg01 zg02 zg0l
  refine (markDiagram_any r0a r0b _ _ _ _ (ncells r0) (1) _ Fg0_15 (by omega) (by omega)).mono ?_
  rintro e w16 ⟨rfl, ho, hg⟩
  have hk := Kept.of_grown (S := fun g => (.slice Ag0 r0.length cg0 : Value).ownBlock = some g) hg (fun g h => h)
  clear hg
  have S16 := Lib.hid (hk.size)
  have B16 := Lib.hid (hk.below B15.out B15.out.size (fun i hi => by have := Pg0.out i hi; have := S1.out; have := SE1.out; have := S2.out; have := S3.out; have := S4.out; have := S5.out; have := SE5.out; have := S6.out; have := S7.out; have := SE7.out; have := S8.out; have := S9.out; have := SE9.out; have := S10.out; have := S11.out; have := S12.out; have := S13.out; have := S14.out; have := S15.out; have := S16.out; omega))
  have Fw0_16 := Lib.hid (hk.own3 Fw0_15.out (fun g h q => by have := Pg0.out g q; have := Pw0.out g h; have := S1.out; have := SE1.out; have := S2.out; have := S3.out; have := S4.out; have := S5.out; have := SE5.out; have := S6.out; have := S7.out; have := SE7.out; have := S8.out; have := S9.out; have := SE9.out; have := S10.out; have := S11.out; have := S12.out; have := S13.out; have := S14.out; have := S15.out; have := S16.out; omega))
  clear Fw0_15
  have Xad_16 := Lib.hid (hk.blk Xad_15.out (fun q => by have := Pg0.out _ q; have := Xad_15.out.lt; have := S1.out; have := SE1.out; have := S2.out; have := S3.out; have := S4.out; have := S5.out; have := SE5.out; have := S6.out; have := S7.out; have := SE7.out; have := S8.out; have := S9.out; have := SE9.out; have := S10.out; have := S11.out; have := S12.out; have := S13.out; have := S14.out; have := S15.out; have := S16.out; omega))
  clear Xad_15
  have Xw0_16 := Lib.hid (hk.blk Xw0_15.out (fun q => by have := Pg0.out _ q; have := Xw0_15.out.lt; have := S1.out; have := SE1.out; have := S2.out; have := S3.out; have := S4.out; have := S5.out; have := SE5.out; have := S6.out; have := S7.out; have := SE7.out; have := S8.out; have := S9.out; have := SE9.out; have := S10.out; have := S11.out; have := S12.out; have := S13.out; have := S14.out; have := S15.out; have := S16.out; omega))
  clear Xw0_15
  have Xxd_16 := Lib.hid (hk.blk Xxd_15.out (fun q => by have := Pg0.out _ q; have := Xxd_15.out.lt; have := S1.out; have := SE1.out; have := S2.out; have := S3.out; have := S4.out; have := S5.out; have := SE5.out; have := S6.out; have := S7.out; have := SE7.out; have := S8.out; have := S9.out; have := SE9.out; have := S10.out; have := S11.out; have := S12.out; have := S13.out; have := S14.out; have := S15.out; have := S16.out; omega))
  clear Xxd_15
  have Xg0_16 := Lib.hid (hk.blk Xg0_15.out (fun q => by have := Pg0.out _ q; have := Xg0_15.out.lt; have := S1.out; have := SE1.out; have := S2.out; have := S3.out; have := S4.out; have := S5.out; have := SE5.out; have := S6.out; have := S7.out; have := SE7.out; have := S8.out; have := S9.out; have := SE9.out; have := S10.out; have := S11.out; have := S12.out; have := S13.out; have := S14.out; have := S15.out; have := S16.out; omega))
  clear Xg0_15
  clear Fg0_15
  have Fg0_16 := Lib.hid ho
  clear ho hk
  have hnegm : decide (1 + (r0.length : Int) * 3 < 0) = false := by simp; omega
  have heqm : ((1 + (r0.length : Int) * 3 : Int) != (1 + (r0.length : Int) * 3 : Int)) = false := by simp
  obtain ⟨zad0, zad1, zad2, _, _, _, zadl⟩ := blk_cells Xad_16.out
  obtain ⟨zw00, zw01, zw02, _, _, _, zw0l⟩ := blk_cells Xw0_16.out
  obtain ⟨zxd0, zxd1, zxd2, _, _, _, zxdl⟩ := blk_cells Xxd_16.out
  obtain ⟨zg00, zg01, zg02, _, _, _, zg0l⟩ := blk_cells Xg0_16.out
  go_wp2_with fail
  clear zad0 zad1 zad2 zadl
  clear zw00 zw01 zw02 zw0l
  clear zxd0 zxd1 zxd2 zxdl
  clear zg00 zg01 zg02 zg0l
  refine (heldDiagram_any r0a r0b _ _ _ (1) _ (Lib.hid (own_nlies (ndIs_len _ _) Fg0_16.out)) (by omega) (by omega)).mono ?_
  rintro e w17 ⟨rfl, hb⟩
  have S17 := Lib.hid (hb.size)
  have B17 := Lib.hid (Below.tr B16.out hb)
  have Fw0_17 := Lib.hid (own_below Fw0_16.out hb)
  clear Fw0_16
  have Fg0_17 := Lib.hid (own_below Fg0_16.out hb)
  clear Fg0_16
  have Xad_17 := Lib.hid (Xad_16.out.below hb)
  clear Xad_16
  have Xw0_17 := Lib.hid (Xw0_16.out.below hb)
  clear Xw0_16
  have Xxd_17 := Lib.hid (Xxd_16.out.below hb)
  clear Xxd_16
  have Xg0_17 := Lib.hid (Xg0_16.out.below hb)
  clear Xg0_16
  clear hb
  obtain ⟨zad0, zad1, zad2, _, _, _, zadl⟩ := blk_cells Xad_17.out
  obtain ⟨zw00, zw01, zw02, _, _, _, zw0l⟩ := blk_cells Xw0_17.out
  obtain ⟨zxd0, zxd1, zxd2, _, _, _, zxdl⟩ := blk_cells Xxd_17.out
  obtain ⟨zg00, zg01, zg02, _, _, _, zg0l⟩ := blk_cells Xg0_17.out
  go_wp2_with fail
  clear zad0 zad1 zad2 zadl
  clear zw00 zw01 zw02 zw0l
  clear zxd0 zxd1 zxd2 zxdl
  clear zg00 zg01 zg02 zg0l
  refine (toDiagram_any d0 d2 _ _ _ d _ (Lib.hid (HLd.out.below B17.out)) HXd hsd).mono ?_
  rintro e w18 ⟨gyd, rfl, hge, kk, hb⟩
  have S18 := Lib.hid (hb.size)
  have B18 := Lib.hid (Below.tr B17.out hb)
  have Fw0_18 := Lib.hid (own_below Fw0_17.out hb)
  clear Fw0_17
  have Fg0_18 := Lib.hid (own_below Fg0_17.out hb)
  clear Fg0_17
  have Xad_18 := Lib.hid (Xad_17.out.below hb)
  clear Xad_17
  have Xw0_18 := Lib.hid (Xw0_17.out.below hb)
  clear Xw0_17
  have Xxd_18 := Lib.hid (Xxd_17.out.below hb)
  clear Xxd_17
  have Xg0_18 := Lib.hid (Xg0_17.out.below hb)
  clear Xg0_17
  have Fyd_18 := Lib.hid (own_baseN (own_of_nblk kk HXd.out hsd) hge)
  have Pyd : Hid (∀ g, (.slice (some ⟨gyd, 0, none⟩) nd nd : Value).ownBlock = some g → w17.heap.size ≤ g ∧ g < w18.heap.size) := Lib.hid (fun g h => Fyd_18.out.lt g h)
  clear kk hb hge
  obtain ⟨zad0, zad1, zad2, _, _, _, zadl⟩ := blk_cells Xad_18.out
  obtain ⟨zw00, zw01, zw02, _, _, _, zw0l⟩ := blk_cells Xw0_18.out
  obtain ⟨zxd0, zxd1, zxd2, _, _, _, zxdl⟩ := blk_cells Xxd_18.out
  obtain ⟨zg00, zg01, zg02, _, _, _, zg0l⟩ := blk_cells Xg0_18.out
  go_wp2_with fail
  clear zad0 zad1 zad2 zadl
  clear zw00 zw01 zw02 zw0l
  clear zxd0 zxd1 zxd2 zxdl
  clear zg00 zg01 zg02 zg0l
  refine (implFix_any d0 d2 v so _ _ _ d _ r0a r0 r0b r1 HR (Lib.hid (own_nlies HXd.out Fyd_18.out)) HXd hsd).mono ?_
  rintro e w19 ⟨Ah0, ch0, rfl, ho0, hb⟩
  have S19 := Lib.hid (hb.size)
  have B19 := Lib.hid (Below.tr B18.out hb)
  have Fw0_19 := Lib.hid (own_below Fw0_18.out hb)
  clear Fw0_18
  have Fg0_19 := Lib.hid (own_below Fg0_18.out hb)
  clear Fg0_18
  have Fyd_19 := Lib.hid (own_below Fyd_18.out hb)
  clear Fyd_18
  have Xad_19 := Lib.hid (Xad_18.out.below hb)
  clear Xad_18
  have Xw0_19 := Lib.hid (Xw0_18.out.below hb)
  clear Xw0_18
  have Xxd_19 := Lib.hid (Xxd_18.out.below hb)
  clear Xxd_18
  have Xg0_19 := Lib.hid (Xg0_18.out.below hb)
  clear Xg0_18
  have Fh0_19 := Lib.hid (ho0)
  have Ph0 : Hid (∀ g, (.slice Ah0 r0.length ch0 : Value).ownBlock = some g → w18.heap.size ≤ g ∧ g < w19.heap.size) := Lib.hid (fun g h => Fh0_19.out.lt g h)
  clear hb ho0
  clear Fyd_19
  obtain ⟨zad0, zad1, zad2, _, _, _, zadl⟩ := blk_cells Xad_19.out
  obtain ⟨zw00, zw01, zw02, _, _, _, zw0l⟩ := blk_cells Xw0_19.out
  obtain ⟨zxd0, zxd1, zxd2, _, _, _, zxdl⟩ := blk_cells Xxd_19.out
  obtain ⟨zg00, zg01, zg02, _, _, _, zg0l⟩ := blk_cells Xg0_19.out
  go_wp2_with fail
  clear zad0 zad1 zad2 zadl
  clear zw00 zw01 zw02 zw0l
  clear zxd0 zxd1 zxd2 zxdl
  clear zg00 zg01 zg02 zg0l
  obtain ⟨w20, hw20⟩ : ∃ W, W = w19.alloc (.cells #[.int .i64 r0a, .slice Ah0 r0.length ch0, .int .i64 r0b] 28) := ⟨_, rfl⟩
  have hb : Below w19.heap.size w19 w20 := by rw [hw20]; exact below1 _ _
  have hx : Blk w20 w19.heap.size 28 [.int .i64 r0a, .slice Ah0 r0.length ch0, .int .i64 r0b] := by rw [hw20]; exact heap_alloc_new _ _
  have hsz : w20.heap.size = w19.heap.size + 1 := by rw [hw20]; simp
  rw [← hw20]
  clear hw20
  have S20 := Lib.hid (hb.size)
  have SE20 := Lib.hid hsz
  have B20 := Lib.hid (Below.tr B19.out hb)
  have Fw0_20 := Lib.hid (own_below Fw0_19.out hb)
  clear Fw0_19
  have Fg0_20 := Lib.hid (own_below Fg0_19.out hb)
  clear Fg0_19
  have Fh0_20 := Lib.hid (own_below Fh0_19.out hb)
  clear Fh0_19
  have Xad_20 := Lib.hid (Xad_19.out.below hb)
  clear Xad_19
  have Xw0_20 := Lib.hid (Xw0_19.out.below hb)
  clear Xw0_19
  have Xxd_20 := Lib.hid (Xxd_19.out.below hb)
  clear Xxd_19
  have Xg0_20 := Lib.hid (Xg0_19.out.below hb)
  clear Xg0_19
  have Xh0_20 := Lib.hid hx
  clear hb hx hsz
  refine (eqDiagram_same r0a r0b _ _ _ _ _ r0 _ (Lib.hid (own_nlies rfl Fh0_20.out)) (Lib.hid (own_nlies rfl Fw0_20.out)) (Lib.hid rfl) (by omega)).mono ?_
  rintro e w21 ⟨rfl, hb⟩
  have S21 := Lib.hid (hb.size)
  have B21 := Lib.hid (Below.tr B20.out hb)
  have Fw0_21 := Lib.hid (own_below Fw0_20.out hb)
  clear Fw0_20
  have Fg0_21 := Lib.hid (own_below Fg0_20.out hb)
  clear Fg0_20
  have Fh0_21 := Lib.hid (own_below Fh0_20.out hb)
  clear Fh0_20
  have Xad_21 := Lib.hid (Xad_20.out.below hb)
  clear Xad_20
  have Xw0_21 := Lib.hid (Xw0_20.out.below hb)
  clear Xw0_20
  have Xxd_21 := Lib.hid (Xxd_20.out.below hb)
  clear Xxd_20
  have Xg0_21 := Lib.hid (Xg0_20.out.below hb)
  clear Xg0_20
  have Xh0_21 := Lib.hid (Xh0_20.out.below hb)
  clear Xh0_20
  clear hb
  clear Fh0_21
  clear Fw0_21
  obtain ⟨zad0, zad1, zad2, _, _, _, zadl⟩ := blk_cells Xad_21.out
  obtain ⟨zw00, zw01, zw02, _, _, _, zw0l⟩ := blk_cells Xw0_21.out
  obtain ⟨zxd0, zxd1, zxd2, _, _, _, zxdl⟩ := blk_cells Xxd_21.out
  obtain ⟨zg00, zg01, zg02, _, _, _, zg0l⟩ := blk_cells Xg0_21.out
  obtain ⟨zh00, zh01, zh02, _, _, _, zh0l⟩ := blk_cells Xh0_21.out
  go_wp2_with fail
  clear zad0 zad1 zad2 zadl
  clear zw00 zw01 zw02 zw0l
  clear zxd0 zxd1 zxd2 zxdl
  clear zg00 zg01 zg02 zg0l
  clear zh00 zh01 zh02 zh0l
  refine (heldDiagram_any r0a r0b _ _ _ (1) _ (Lib.hid (own_nlies (ndIs_len _ _) Fg0_21.out)) (by omega) (by omega)).mono ?_
  rintro e w22 ⟨rfl, hb⟩
  have S22 := Lib.hid (hb.size)
  have B22 := Lib.hid (Below.tr B21.out hb)
  have Fg0_22 := Lib.hid (own_below Fg0_21.out hb)
  clear Fg0_21
  have Xad_22 := Lib.hid (Xad_21.out.below hb)
  clear Xad_21
  have Xw0_22 := Lib.hid (Xw0_21.out.below hb)
  clear Xw0_21
  have Xxd_22 := Lib.hid (Xxd_21.out.below hb)
  clear Xxd_21
  have Xg0_22 := Lib.hid (Xg0_21.out.below hb)
  clear Xg0_21
  have Xh0_22 := Lib.hid (Xh0_21.out.below hb)
  clear Xh0_21
  clear hb
  obtain ⟨zad0, zad1, zad2, _, _, _, zadl⟩ := blk_cells Xad_22.out
  obtain ⟨zw00, zw01, zw02, _, _, _, zw0l⟩ := blk_cells Xw0_22.out
  obtain ⟨zxd0, zxd1, zxd2, _, _, _, zxdl⟩ := blk_cells Xxd_22.out
  obtain ⟨zg00, zg01, zg02, _, _, _, zg0l⟩ := blk_cells Xg0_22.out
  obtain ⟨zh00, zh01, zh02, _, _, _, zh0l⟩ := blk_cells Xh0_22.out
  go_wp2
  go_ret
  exact ⟨rfl, B22.out⟩
end Go.Proofs.Ythhmacocijcjiaa
