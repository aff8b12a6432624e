/-
  The walk of the law of Tab.
-/
import Derived.Test.YthhmacocijcjiaaSp5
import Derived.Test.YthhmacocijcjiaaDOpen
namespace Go.Proofs.Ythhmacocijcjiaa
open Go.ChangeShapes Go.WideShapes Go.ChangeAt Go.RowKit

set_option maxRecDepth 100000 in
set_option maxHeartbeats 8000000 in
theorem lawTab (d0 d2 : Int) (Ad : Option Addr) (capd : Nat) (d : List Nd) (w : World) (hnd : d.length ≤ 9223372036854775807) (hld : NLies w Ad d) :
    Calls Try.prog 7 #[.agg #[.int .i64 d0, .slice Ad d.length capd, .int .i64 d2]] w fun e w' => e = .returned (.bool true) ∧ Below w.heap.size w w' := by
  obtain ⟨nd, hxd⟩ : ∃ n, d.length = n := ⟨_, rfl⟩
  rw [hxd] at hnd ⊢
  have HXd := Lib.hid hxd
  have HLd := Lib.hid hld
  clear hxd hld
  go_enter Try.func7, Try.ntmps7
  go_wp2_with fail
  obtain ⟨w1, hw1⟩ : ∃ W, W = w.alloc (.cells #[.int .i64 d0, .slice Ad nd capd, .int .i64 d2] 66) := ⟨_, rfl⟩
  have hb : Below w.heap.size w w1 := by rw [hw1]; exact below1 _ _
  have hx : Blk w1 w.heap.size 66 [.int .i64 d0, .slice Ad nd capd, .int .i64 d2] := by rw [hw1]; exact heap_alloc_new _ _
  have hsz : w1.heap.size = w.heap.size + 1 := by rw [hw1]; simp
  rw [← hw1]
  clear hw1
  have S1 := Lib.hid (hb.size)
  have SE1 := Lib.hid hsz
  have B1 := Lib.hid (Below.tr (Below.refl _ _) hb)
  have Xad_1 := Lib.hid hx
  clear hb hx hsz
  refine (szDiagram_any d0 d2 Ad nd capd 1048576 _ hnd (by omega) (by omega)).mono ?_
  rintro e w2 ⟨rfl, hb⟩
  have S2 := Lib.hid (hb.size)
  have B2 := Lib.hid (Below.tr B1.out hb)
  have Xad_2 := Lib.hid (Xad_1.out.below hb)
  clear Xad_1
  clear hb
  by_cases hnegd : 1048576 - (nd : Int) < 0
  · have hszd : szF 1048576 nd = -1 := if_pos (by omega)
    rw [hszd]
    go_wp2
    go_ret
    exact ⟨rfl, B2.out⟩
  have hszd : szF 1048576 nd = 1048576 - nd := if_neg (by omega)
  rw [hszd]
  clear hszd
  have hsd : nd ≤ 1048576 := by omega
  obtain ⟨r0, r1, hr⟩ : ∃ r0 r1, rTab d0 d d2 r0 r1 := ⟨_, _, rfl, rfl⟩
  have hrl : r0.length ≤ 64 := rTab_len hr
  have HR := Lib.hid hr
  clear hr
  obtain ⟨zad0, zad1, zad2, _, _, _, zadl⟩ := blk_cells Xad_2.out
  go_wp2_with fail
  clear zad0 zad1 zad2 zadl
  refine (toDiagram_any d0 d2 _ _ _ d _ (Lib.hid (HLd.out.below B2.out)) HXd hsd).mono ?_
  rintro e w3 ⟨gsd, rfl, hge, kk, hb⟩
  have S3 := Lib.hid (hb.size)
  have B3 := Lib.hid (Below.tr B2.out hb)
  have Xad_3 := Lib.hid (Xad_2.out.below hb)
  clear Xad_2
  have Fsd_3 := Lib.hid (own_baseN (own_of_nblk kk HXd.out hsd) hge)
  have Psd : Hid (∀ g, (.slice (some ⟨gsd, 0, none⟩) nd nd : Value).ownBlock = some g → w2.heap.size ≤ g ∧ g < w3.heap.size) := Lib.hid (fun g h => Fsd_3.out.lt g h)
  clear kk hb hge
  obtain ⟨zad0, zad1, zad2, _, _, _, zadl⟩ := blk_cells Xad_3.out
  go_wp2_with fail
  clear zad0 zad1 zad2 zadl
  refine (specTab_any d0 d2 _ _ _ d _ r0 r1 HR (Lib.hid (own_nlies HXd.out Fsd_3.out)) HXd hsd).mono ?_
  rintro e w4 ⟨Aw0, cw0, rfl, ho0, hb⟩
  have S4 := Lib.hid (hb.size)
  have B4 := Lib.hid (Below.tr B3.out hb)
  have Fsd_4 := Lib.hid (own_below Fsd_3.out hb)
  clear Fsd_3
  have Xad_4 := Lib.hid (Xad_3.out.below hb)
  clear Xad_3
  have Fw0_4 := Lib.hid (ho0)
  have Pw0 : Hid (∀ g, (.slice Aw0 r0.length cw0 : Value).ownBlock = some g → w3.heap.size ≤ g ∧ g < w4.heap.size) := Lib.hid (fun g h => Fw0_4.out.lt g h)
  clear hb ho0
  clear Fsd_4
  obtain ⟨zad0, zad1, zad2, _, _, _, zadl⟩ := blk_cells Xad_4.out
  go_wp2_with fail
  clear zad0 zad1 zad2 zadl
  refine (toDiagram_any d0 d2 _ _ _ d _ (Lib.hid (HLd.out.below B4.out)) HXd hsd).mono ?_
  rintro e w5 ⟨gxd, rfl, hge, kk, hb⟩
  have S5 := Lib.hid (hb.size)
  have B5 := Lib.hid (Below.tr B4.out hb)
  have Fw0_5 := Lib.hid (own_below Fw0_4.out hb)
  clear Fw0_4
  have Xad_5 := Lib.hid (Xad_4.out.below hb)
  clear Xad_4
  have Fxd_5 := Lib.hid (own_baseN (own_of_nblk kk HXd.out hsd) hge)
  have Pxd : Hid (∀ g, (.slice (some ⟨gxd, 0, none⟩) nd nd : Value).ownBlock = some g → w4.heap.size ≤ g ∧ g < w5.heap.size) := Lib.hid (fun g h => Fxd_5.out.lt g h)
  clear kk hb hge
  obtain ⟨zad0, zad1, zad2, _, _, _, zadl⟩ := blk_cells Xad_5.out
  go_wp2_with fail
  clear zad0 zad1 zad2 zadl
  obtain ⟨w6, hw6⟩ : ∃ W, W = w5.alloc (.cells #[.int .i64 d0, .slice (some ⟨gxd, 0, none⟩) nd nd, .int .i64 d2] 28) := ⟨_, rfl⟩
  have hb : Below w5.heap.size w5 w6 := by rw [hw6]; exact below1 _ _
  have hx : Blk w6 w5.heap.size 28 [.int .i64 d0, .slice (some ⟨gxd, 0, none⟩) nd nd, .int .i64 d2] := by rw [hw6]; exact heap_alloc_new _ _
  have hsz : w6.heap.size = w5.heap.size + 1 := by rw [hw6]; simp
  rw [← hw6]
  clear hw6
  have S6 := Lib.hid (hb.size)
  have SE6 := Lib.hid hsz
  have B6 := Lib.hid (Below.tr B5.out hb)
  have Fw0_6 := Lib.hid (own_below Fw0_5.out hb)
  clear Fw0_5
  have Fxd_6 := Lib.hid (own_below Fxd_5.out hb)
  clear Fxd_5
  have Xad_6 := Lib.hid (Xad_5.out.below hb)
  clear Xad_5
  have Xxd_6 := Lib.hid hx
  clear hb hx hsz
  refine (implTab_any d0 d2 _ _ _ d _ r0 r1 HR (Lib.hid (own_nlies HXd.out Fxd_6.out)) HXd hsd).mono ?_
  rintro e w7 ⟨Ag0, cg0, rfl, ho0, hb⟩
  have S7 := Lib.hid (hb.size)
  have B7 := Lib.hid (Below.tr B6.out hb)
  have Fw0_7 := Lib.hid (own_below Fw0_6.out hb)
  clear Fw0_6
  have Fxd_7 := Lib.hid (own_below Fxd_6.out hb)
  clear Fxd_6
  have Xad_7 := Lib.hid (Xad_6.out.below hb)
  clear Xad_6
  have Xxd_7 := Lib.hid (Xxd_6.out.below hb)
  clear Xxd_6
  have Fg0_7 := Lib.hid (ho0)
  have Pg0 : Hid (∀ g, (.slice Ag0 r0.length cg0 : Value).ownBlock = some g → w6.heap.size ≤ g ∧ g < w7.heap.size) := Lib.hid (fun g h => Fg0_7.out.lt g h)
  clear hb ho0
  have hb1 : (r1 != r1) = false := by simp
  obtain ⟨zad0, zad1, zad2, _, _, _, zadl⟩ := blk_cells Xad_7.out
  obtain ⟨zxd0, zxd1, zxd2, _, _, _, zxdl⟩ := blk_cells Xxd_7.out
  go_wp2_with fail
  clear zad0 zad1 zad2 zadl
  clear zxd0 zxd1 zxd2 zxdl
  refine (eqBoolS_same _ _ _ _ _ r0 _ (Lib.hid (own_blies Fg0_7.out)) (Lib.hid (own_blies Fw0_7.out)) (Lib.hid rfl) (by omega)).mono ?_
  rintro e w8 ⟨rfl, hb⟩
  have S8 := Lib.hid (hb.size)
  have B8 := Lib.hid (Below.tr B7.out hb)
  have Fw0_8 := Lib.hid (own_below Fw0_7.out hb)
  clear Fw0_7
  have Fxd_8 := Lib.hid (own_below Fxd_7.out hb)
  clear Fxd_7
  have Fg0_8 := Lib.hid (own_below Fg0_7.out hb)
  clear Fg0_7
  have Xad_8 := Lib.hid (Xad_7.out.below hb)
  clear Xad_7
  have Xxd_8 := Lib.hid (Xxd_7.out.below hb)
  clear Xxd_7
  clear hb
  obtain ⟨zad0, zad1, zad2, _, _, _, zadl⟩ := blk_cells Xad_8.out
  obtain ⟨zxd0, zxd1, zxd2, _, _, _, zxdl⟩ := blk_cells Xxd_8.out
  go_wp2_with fail
  clear zad0 zad1 zad2 zadl
  clear zxd0 zxd1 zxd2 zxdl
  obtain ⟨zad0, zad1, zad2, _, _, _, zadl⟩ := blk_cells Xad_8.out
  obtain ⟨zxd0, zxd1, zxd2, _, _, _, zxdl⟩ := blk_cells Xxd_8.out
  refine wp_region_held_drew (S := fun W => W.cell? ⟨w5.heap.size, 0, none⟩ = some (.int .i64 d0) ∧ W.cell? ⟨w5.heap.size, 1, none⟩ = some (.slice (some ⟨gxd, 0, none⟩) nd nd) ∧ W.cell? ⟨w5.heap.size, 2, none⟩ = some (.int .i64 d2) ∧ W.cell? ⟨w.heap.size, 0, none⟩ = some (.int .i64 d0) ∧ W.cell? ⟨w.heap.size, 1, none⟩ = some (.slice Ad nd capd) ∧ W.cell? ⟨w.heap.size, 2, none⟩ = some (.int .i64 d2)) (by kernel_rfl) ?_ (fun hHeld => ?_)
  · exact ⟨zxd0, zxd1, zxd2, zad0, zad1, zad2⟩
  clear zad0 zad1 zad2 zadl
  clear zxd0 zxd1 zxd2 zxdl
  obtain ⟨w9, hw9⟩ : ∃ W, W = w8.drew := ⟨_, rfl⟩
  have hb : Below w8.heap.size w8 w9 := by rw [hw9]; exact (Below.refl _ _).drew
  rw [← hw9] at hHeld ⊢
  clear hw9
  have S9 := Lib.hid (hb.size)
  have B9 := Lib.hid (Below.tr B8.out hb)
  have Fw0_9 := Lib.hid (own_below Fw0_8.out hb)
  clear Fw0_8
  have Fxd_9 := Lib.hid (own_below Fxd_8.out hb)
  clear Fxd_8
  have Fg0_9 := Lib.hid (own_below Fg0_8.out hb)
  clear Fg0_8
  have Xad_9 := Lib.hid (Xad_8.out.below hb)
  clear Xad_8
  have Xxd_9 := Lib.hid (Xxd_8.out.below hb)
  clear Xxd_8
  clear hb
  refine wpAnyH_take (i := 0) (v := ?_) rfl (by kernel_rfl) (by kernel_rfl) (by kernel_rfl) (fun _ _ _ h => h) (Or.inl ⟨by rfl, ?_⟩) (by assumption) ?_
  rotate_left
  · intro W hSw
    try dsimp only at hSw
    go_simp
    try with_reducible rfl
  simp only [Act.put, List.setIfInBounds_toArray]
  refine wpAnyH_take (i := 1) (v := ?_) rfl (by kernel_rfl) (by kernel_rfl) (by kernel_rfl) (fun _ _ _ h => h) (Or.inl ⟨by rfl, ?_⟩) (by assumption) ?_
  rotate_left
  · intro W hSw
    try dsimp only at hSw
    go_simp
    try with_reducible rfl
  simp only [Act.put]
  refine wpAnyH_ready (rs := [2]) (by kernel_rfl) (by simp) ?_
  refine AllReadyH.cons rfl (fun K hK => ?_) AllReadyH.nil
  go_simp
  refine (toDiagram_any d0 d2 _ _ _ d _ (Lib.hid (HLd.out.below B9.out)) HXd hsd).mono ?_
  rintro e w10 ⟨gcd, rfl, hge, kk, hb⟩
  have S10 := Lib.hid (hb.size)
  have B10 := Lib.hid (Below.tr B9.out hb)
  have Fw0_10 := Lib.hid (own_below Fw0_9.out hb)
  clear Fw0_9
  have Fxd_10 := Lib.hid (own_below Fxd_9.out hb)
  clear Fxd_9
  have Fg0_10 := Lib.hid (own_below Fg0_9.out hb)
  clear Fg0_9
  have Xad_10 := Lib.hid (Xad_9.out.below hb)
  clear Xad_9
  have Xxd_10 := Lib.hid (Xxd_9.out.below hb)
  clear Xxd_9
  have Fcd_10 := Lib.hid (own_baseN (own_of_nblk kk HXd.out hsd) hge)
  have Pcd : Hid (∀ g, (.slice (some ⟨gcd, 0, none⟩) nd nd : Value).ownBlock = some g → w9.heap.size ≤ g ∧ g < w10.heap.size) := Lib.hid (fun g h => Fcd_10.out.lt g h)
  clear kk hb hge
  obtain ⟨zad0, zad1, zad2, _, _, _, zadl⟩ := blk_cells Xad_10.out
  obtain ⟨zxd0, zxd1, zxd2, _, _, _, zxdl⟩ := blk_cells Xxd_10.out
  refine hK.out _ _ ⟨zxd0, zxd1, zxd2, zad0, zad1, zad2⟩ (fun hH1 => ?_)
  clear hK K hHeld
  try simp only [Act.put, List.setIfInBounds_toArray, List.set_cons_zero, List.set_cons_succ]
  clear zad0 zad1 zad2 zadl
  clear zxd0 zxd1 zxd2 zxdl
  refine wpAnyH_ready (rs := [3]) (by kernel_rfl) (by simp) ?_
  refine AllReadyH.cons rfl (fun K hK => ?_) AllReadyH.nil
  go_simp
  refine (eqDiagram_same d0 d2 _ _ _ _ _ d _ (Lib.hid (own_nlies HXd.out Fxd_10.out)) (Lib.hid (own_nlies HXd.out Fcd_10.out)) HXd (by omega)).mono ?_
  rintro e w11 ⟨rfl, hb⟩
  have S11 := Lib.hid (hb.size)
  have B11 := Lib.hid (Below.tr B10.out hb)
  have Fw0_11 := Lib.hid (own_below Fw0_10.out hb)
  clear Fw0_10
  have Fxd_11 := Lib.hid (own_below Fxd_10.out hb)
  clear Fxd_10
  have Fg0_11 := Lib.hid (own_below Fg0_10.out hb)
  clear Fg0_10
  have Fcd_11 := Lib.hid (own_below Fcd_10.out hb)
  clear Fcd_10
  have Xad_11 := Lib.hid (Xad_10.out.below hb)
  clear Xad_10
  have Xxd_11 := Lib.hid (Xxd_10.out.below hb)
  clear Xxd_10
  clear hb
  clear Fcd_11
  obtain ⟨zad0, zad1, zad2, _, _, _, zadl⟩ := blk_cells Xad_11.out
  obtain ⟨zxd0, zxd1, zxd2, _, _, _, zxdl⟩ := blk_cells Xxd_11.out
  refine hK.out _ _ ⟨zxd0, zxd1, zxd2, zad0, zad1, zad2⟩ (fun hH2 => ?_)
  clear hK K hH1
  try simp only [Act.put, List.setIfInBounds_toArray, List.set_cons_zero, List.set_cons_succ]
  clear zad0 zad1 zad2 zadl
  clear zxd0 zxd1 zxd2 zxdl
  refine wpAnyH_ready (rs := [4]) (by kernel_rfl) (by simp) ?_
  refine AllReadyH.cons rfl (fun K hK => ?_) AllReadyH.nil
  go_simp
  obtain ⟨zad0, zad1, zad2, _, _, _, zadl⟩ := blk_cells Xad_11.out
  obtain ⟨zxd0, zxd1, zxd2, _, _, _, zxdl⟩ := blk_cells Xxd_11.out
  refine hK.out _ _ ⟨zxd0, zxd1, zxd2, zad0, zad1, zad2⟩ (fun hH3 => ?_)
  clear hK K hH2
  try simp only [Act.put, List.setIfInBounds_toArray, List.set_cons_zero, List.set_cons_succ]
  clear zad0 zad1 zad2 zadl
  clear zxd0 zxd1 zxd2 zxdl
  refine wpAnyH_done (by kernel_rfl) ?_ _
  clear hH3
  obtain ⟨zad0, zad1, zad2, _, _, _, zadl⟩ := blk_cells Xad_11.out
  obtain ⟨zxd0, zxd1, zxd2, _, _, _, zxdl⟩ := blk_cells Xxd_11.out
  go_wp2_with fail
  clear zad0 zad1 zad2 zadl
  clear zxd0 zxd1 zxd2 zxdl
  refine (markDiagram_any d0 d2 _ _ _ _ (ncells d) (1) _ Fxd_11 (by omega) (by omega)).mono ?_
  rintro e w12 ⟨rfl, ho, hg⟩
  have hk := Kept.of_grown (S := fun g => (.slice (some ⟨gxd, 0, none⟩) nd nd : Value).ownBlock = some g) hg (fun g h => h)
  clear hg
  have S12 := Lib.hid (hk.size)
  have B12 := Lib.hid (hk.below B11.out B11.out.size (fun i hi => by have := Pxd.out i hi; have := S1.out; have := SE1.out; have := S2.out; have := S3.out; have := S4.out; have := S5.out; have := S6.out; have := SE6.out; have := S7.out; have := S8.out; have := S9.out; have := S10.out; have := S11.out; have := S12.out; omega))
  have Fw0_12 := Lib.hid (hk.own Fw0_11.out (fun g h q => by have := Pxd.out g q; have := Pw0.out g h; have := S1.out; have := SE1.out; have := S2.out; have := S3.out; have := S4.out; have := S5.out; have := S6.out; have := SE6.out; have := S7.out; have := S8.out; have := S9.out; have := S10.out; have := S11.out; have := S12.out; omega))
  clear Fw0_11
  have Fg0_12 := Lib.hid (hk.own Fg0_11.out (fun g h q => by have := Pxd.out g q; have := Pg0.out g h; have := S1.out; have := SE1.out; have := S2.out; have := S3.out; have := S4.out; have := S5.out; have := S6.out; have := SE6.out; have := S7.out; have := S8.out; have := S9.out; have := S10.out; have := S11.out; have := S12.out; omega))
  clear Fg0_11
  have Xad_12 := Lib.hid (hk.blk Xad_11.out (fun q => by have := Pxd.out _ q; have := Xad_11.out.lt; have := S1.out; have := SE1.out; have := S2.out; have := S3.out; have := S4.out; have := S5.out; have := S6.out; have := SE6.out; have := S7.out; have := S8.out; have := S9.out; have := S10.out; have := S11.out; have := S12.out; omega))
  clear Xad_11
  have Xxd_12 := Lib.hid (hk.blk Xxd_11.out (fun q => by have := Pxd.out _ q; have := Xxd_11.out.lt; have := S1.out; have := SE1.out; have := S2.out; have := S3.out; have := S4.out; have := S5.out; have := S6.out; have := SE6.out; have := S7.out; have := S8.out; have := S9.out; have := S10.out; have := S11.out; have := S12.out; omega))
  clear Xxd_11
  clear ho hk
  clear Fxd_11
  have hnegk : decide (1 + (nd : Int) * 3 < 0) = false := by simp; omega
  obtain ⟨zad0, zad1, zad2, _, _, _, zadl⟩ := blk_cells Xad_12.out
  obtain ⟨zxd0, zxd1, zxd2, _, _, _, zxdl⟩ := blk_cells Xxd_12.out
  go_wp2_with fail
  clear zad0 zad1 zad2 zadl
  clear zxd0 zxd1 zxd2 zxdl
  refine (eqBoolS_same _ _ _ _ _ r0 _ (Lib.hid (own_blies Fg0_12.out)) (Lib.hid (own_blies Fw0_12.out)) (Lib.hid rfl) (by omega)).mono ?_
  rintro e w13 ⟨rfl, hb⟩
  have S13 := Lib.hid (hb.size)
  have B13 := Lib.hid (Below.tr B12.out hb)
  have Fw0_13 := Lib.hid (own_below Fw0_12.out hb)
  clear Fw0_12
  have Fg0_13 := Lib.hid (own_below Fg0_12.out hb)
  clear Fg0_12
  have Xad_13 := Lib.hid (Xad_12.out.below hb)
  clear Xad_12
  have Xxd_13 := Lib.hid (Xxd_12.out.below hb)
  clear Xxd_12
  clear hb
  obtain ⟨zad0, zad1, zad2, _, _, _, zadl⟩ := blk_cells Xad_13.out
  obtain ⟨zxd0, zxd1, zxd2, _, _, _, zxdl⟩ := blk_cells Xxd_13.out
  go_wp2_with fail
  clear zad0 zad1 zad2 zadl
  clear zxd0 zxd1 zxd2 zxdl
  refine (markBoolS_any _ _ _ _ r0 (1) _ Fg0_13 (by omega) (by omega)).mono ?_
  rintro e w14 ⟨rfl, ho, hg⟩
  have hk := Kept.of_grown (S := fun g => (.slice Ag0 r0.length cg0 : Value).ownBlock = some g) hg (fun g h => h)
  clear hg
  have S14 := Lib.hid (hk.size)
  have B14 := Lib.hid (hk.below B13.out B13.out.size (fun i hi => by have := Pg0.out i hi; have := S1.out; have := SE1.out; have := S2.out; have := S3.out; have := S4.out; have := S5.out; have := S6.out; have := SE6.out; have := S7.out; have := S8.out; have := S9.out; have := S10.out; have := S11.out; have := S12.out; have := S13.out; have := S14.out; omega))
  have Fw0_14 := Lib.hid (hk.own Fw0_13.out (fun g h q => by have := Pg0.out g q; have := Pw0.out g h; have := S1.out; have := SE1.out; have := S2.out; have := S3.out; have := S4.out; have := S5.out; have := S6.out; have := SE6.out; have := S7.out; have := S8.out; have := S9.out; have := S10.out; have := S11.out; have := S12.out; have := S13.out; have := S14.out; omega))
  clear Fw0_13
  have Xad_14 := Lib.hid (hk.blk Xad_13.out (fun q => by have := Pg0.out _ q; have := Xad_13.out.lt; have := S1.out; have := SE1.out; have := S2.out; have := S3.out; have := S4.out; have := S5.out; have := S6.out; have := SE6.out; have := S7.out; have := S8.out; have := S9.out; have := S10.out; have := S11.out; have := S12.out; have := S13.out; have := S14.out; omega))
  clear Xad_13
  have Xxd_14 := Lib.hid (hk.blk Xxd_13.out (fun q => by have := Pg0.out _ q; have := Xxd_13.out.lt; have := S1.out; have := SE1.out; have := S2.out; have := S3.out; have := S4.out; have := S5.out; have := S6.out; have := SE6.out; have := S7.out; have := S8.out; have := S9.out; have := S10.out; have := S11.out; have := S12.out; have := S13.out; have := S14.out; omega))
  clear Xxd_13
  clear Fg0_13
  have Fg0_14 := Lib.hid ho
  clear ho hk
  have hnegm : decide (1 + (r0.length : Int) < 0) = false := by simp; omega
  have heqm : ((1 + (r0.length : Int) : Int) != (1 + (r0.length : Int) : Int)) = false := by simp
  obtain ⟨zad0, zad1, zad2, _, _, _, zadl⟩ := blk_cells Xad_14.out
  obtain ⟨zxd0, zxd1, zxd2, _, _, _, zxdl⟩ := blk_cells Xxd_14.out
  go_wp2_with fail
  clear zad0 zad1 zad2 zadl
  clear zxd0 zxd1 zxd2 zxdl
  refine (heldBoolS_any _ _ _ (1) _ (Lib.hid (own_blies Fg0_14.out)) (by omega) (by omega)).mono ?_
  rintro e w15 ⟨rfl, hb⟩
  have S15 := Lib.hid (hb.size)
  have B15 := Lib.hid (Below.tr B14.out hb)
  have Fw0_15 := Lib.hid (own_below Fw0_14.out hb)
  clear Fw0_14
  have Fg0_15 := Lib.hid (own_below Fg0_14.out hb)
  clear Fg0_14
  have Xad_15 := Lib.hid (Xad_14.out.below hb)
  clear Xad_14
  have Xxd_15 := Lib.hid (Xxd_14.out.below hb)
  clear Xxd_14
  clear hb
  obtain ⟨zad0, zad1, zad2, _, _, _, zadl⟩ := blk_cells Xad_15.out
  obtain ⟨zxd0, zxd1, zxd2, _, _, _, zxdl⟩ := blk_cells Xxd_15.out
  go_wp2_with fail
  clear zad0 zad1 zad2 zadl
  clear zxd0 zxd1 zxd2 zxdl
  refine (toDiagram_any d0 d2 _ _ _ d _ (Lib.hid (HLd.out.below B15.out)) HXd hsd).mono ?_
  rintro e w16 ⟨gyd, rfl, hge, kk, hb⟩
  have S16 := Lib.hid (hb.size)
  have B16 := Lib.hid (Below.tr B15.out hb)
  have Fw0_16 := Lib.hid (own_below Fw0_15.out hb)
  clear Fw0_15
  have Fg0_16 := Lib.hid (own_below Fg0_15.out hb)
  clear Fg0_15
  have Xad_16 := Lib.hid (Xad_15.out.below hb)
  clear Xad_15
  have Xxd_16 := Lib.hid (Xxd_15.out.below hb)
  clear Xxd_15
  have Fyd_16 := Lib.hid (own_baseN (own_of_nblk kk HXd.out hsd) hge)
  have Pyd : Hid (∀ g, (.slice (some ⟨gyd, 0, none⟩) nd nd : Value).ownBlock = some g → w15.heap.size ≤ g ∧ g < w16.heap.size) := Lib.hid (fun g h => Fyd_16.out.lt g h)
  clear kk hb hge
  obtain ⟨zad0, zad1, zad2, _, _, _, zadl⟩ := blk_cells Xad_16.out
  obtain ⟨zxd0, zxd1, zxd2, _, _, _, zxdl⟩ := blk_cells Xxd_16.out
  go_wp2_with fail
  clear zad0 zad1 zad2 zadl
  clear zxd0 zxd1 zxd2 zxdl
  refine (implTab_any d0 d2 _ _ _ d _ r0 r1 HR (Lib.hid (own_nlies HXd.out Fyd_16.out)) HXd hsd).mono ?_
  rintro e w17 ⟨Ah0, ch0, rfl, ho0, hb⟩
  have S17 := Lib.hid (hb.size)
  have B17 := Lib.hid (Below.tr B16.out hb)
  have Fw0_17 := Lib.hid (own_below Fw0_16.out hb)
  clear Fw0_16
  have Fg0_17 := Lib.hid (own_below Fg0_16.out hb)
  clear Fg0_16
  have Fyd_17 := Lib.hid (own_below Fyd_16.out hb)
  clear Fyd_16
  have Xad_17 := Lib.hid (Xad_16.out.below hb)
  clear Xad_16
  have Xxd_17 := Lib.hid (Xxd_16.out.below hb)
  clear Xxd_16
  have Fh0_17 := Lib.hid (ho0)
  have Ph0 : Hid (∀ g, (.slice Ah0 r0.length ch0 : Value).ownBlock = some g → w16.heap.size ≤ g ∧ g < w17.heap.size) := Lib.hid (fun g h => Fh0_17.out.lt g h)
  clear hb ho0
  clear Fyd_17
  obtain ⟨zad0, zad1, zad2, _, _, _, zadl⟩ := blk_cells Xad_17.out
  obtain ⟨zxd0, zxd1, zxd2, _, _, _, zxdl⟩ := blk_cells Xxd_17.out
  go_wp2_with fail
  clear zad0 zad1 zad2 zadl
  clear zxd0 zxd1 zxd2 zxdl
  refine (eqBoolS_same _ _ _ _ _ r0 _ (Lib.hid (own_blies Fh0_17.out)) (Lib.hid (own_blies Fw0_17.out)) (Lib.hid rfl) (by omega)).mono ?_
  rintro e w18 ⟨rfl, hb⟩
  have S18 := Lib.hid (hb.size)
  have B18 := Lib.hid (Below.tr B17.out hb)
  have Fw0_18 := Lib.hid (own_below Fw0_17.out hb)
  clear Fw0_17
  have Fg0_18 := Lib.hid (own_below Fg0_17.out hb)
  clear Fg0_17
  have Fh0_18 := Lib.hid (own_below Fh0_17.out hb)
  clear Fh0_17
  have Xad_18 := Lib.hid (Xad_17.out.below hb)
  clear Xad_17
  have Xxd_18 := Lib.hid (Xxd_17.out.below hb)
  clear Xxd_17
  clear hb
  clear Fh0_18
  clear Fw0_18
  obtain ⟨zad0, zad1, zad2, _, _, _, zadl⟩ := blk_cells Xad_18.out
  obtain ⟨zxd0, zxd1, zxd2, _, _, _, zxdl⟩ := blk_cells Xxd_18.out
  go_wp2_with fail
  clear zad0 zad1 zad2 zadl
  clear zxd0 zxd1 zxd2 zxdl
  refine (heldBoolS_any _ _ _ (1) _ (Lib.hid (own_blies Fg0_18.out)) (by omega) (by omega)).mono ?_
  rintro e w19 ⟨rfl, hb⟩
  have S19 := Lib.hid (hb.size)
  have B19 := Lib.hid (Below.tr B18.out hb)
  have Fg0_19 := Lib.hid (own_below Fg0_18.out hb)
  clear Fg0_18
  have Xad_19 := Lib.hid (Xad_18.out.below hb)
  clear Xad_18
  have Xxd_19 := Lib.hid (Xxd_18.out.below hb)
  clear Xxd_18
  clear hb
  obtain ⟨zad0, zad1, zad2, _, _, _, zadl⟩ := blk_cells Xad_19.out
  obtain ⟨zxd0, zxd1, zxd2, _, _, _, zxdl⟩ := blk_cells Xxd_19.out
  go_wp2
  go_ret
  exact ⟨rfl, B19.out⟩
end Go.Proofs.Ythhmacocijcjiaa
