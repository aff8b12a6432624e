/-
  The walk of the law of GoodD.
-/
import Derived.Test.YthhmacocijcjiaaSp5
import Derived.Test.YthhmacocijcjiaaDOpen
namespace Go.Proofs.Ythhmacocijcjiaa
open Go.ChangeShapes Go.WideShapes Go.ChangeAt Go.RowKit

set_option maxRecDepth 100000 in
set_option maxHeartbeats 8000000 in
theorem lawGoodD (d0 d2 : Int) (Ad : Option Addr) (capd : Nat) (d : List Nd) (w : World) (hnd : d.length ≤ 9223372036854775807) (hld : NLies w Ad d) :
    Calls Try.prog 6 #[.agg #[.int .i64 d0, .slice Ad d.length capd, .int .i64 d2]] w fun e w' => e = .returned (.bool true) ∧ Below w.heap.size w w' := by
  obtain ⟨nd, hxd⟩ : ∃ n, d.length = n := ⟨_, rfl⟩
  rw [hxd] at hnd ⊢
  have HXd := Lib.hid hxd
  have HLd := Lib.hid hld
  clear hxd hld
  go_enter Try.func6, Try.ntmps6
  go_wp2_with fail
  obtain ⟨w1, hw1⟩ : ∃ W, W = w.alloc (.cells #[.int .i64 d0, .slice Ad nd capd, .int .i64 d2] 66) := ⟨_, rfl⟩
  have hb : Below w.heap.size w w1 := by rw [hw1]; exact below1 _ _
  have hx : Blk w1 w.heap.size 66 [.int .i64 d0, .slice Ad nd capd, .int .i64 d2] := by rw [hw1]; exact heap_alloc_new _ _
  have hsz : w1.heap.size = w.heap.size + 1 := by rw [hw1]; simp
  rw [← hw1]
  clear hw1
  have S1 := Lib.hid (hb.size)
  have SE1 := Lib.hid hsz
  have B1 := Lib.hid (Below.tr (Below.refl _ _) hb)
  have Xad_1 := Lib.hid hx
  clear hb hx hsz
  refine (szDiagram_any d0 d2 Ad nd capd 1048576 _ hnd (by omega) (by omega)).mono ?_
  rintro e w2 ⟨rfl, hb⟩
  have S2 := Lib.hid (hb.size)
  have B2 := Lib.hid (Below.tr B1.out hb)
  have Xad_2 := Lib.hid (Xad_1.out.below hb)
  clear Xad_1
  clear hb
  by_cases hnegd : 1048576 - (nd : Int) < 0
  · have hszd : szF 1048576 nd = -1 := if_pos (by omega)
    rw [hszd]
    go_wp2
    go_ret
    exact ⟨rfl, B2.out⟩
  have hszd : szF 1048576 nd = 1048576 - nd := if_neg (by omega)
  rw [hszd]
  clear hszd
  have hsd : nd ≤ 1048576 := by omega
  obtain ⟨r0, hr0⟩ : ∃ b, goodDB d0 d d2 = b := ⟨_, rfl⟩
  have HR := Lib.hid hr0
  clear hr0
  obtain ⟨zad0, zad1, zad2, _, _, _, zadl⟩ := blk_cells Xad_2.out
  go_wp2_with fail
  clear zad0 zad1 zad2 zadl
  refine (toDiagram_any d0 d2 _ _ _ d _ (Lib.hid (HLd.out.below B2.out)) HXd hsd).mono ?_
  rintro e w3 ⟨gsd, rfl, hge, kk, hb⟩
  have S3 := Lib.hid (hb.size)
  have B3 := Lib.hid (Below.tr B2.out hb)
  have Xad_3 := Lib.hid (Xad_2.out.below hb)
  clear Xad_2
  have Fsd_3 := Lib.hid (own_baseN (own_of_nblk kk HXd.out hsd) hge)
  have Psd : Hid (∀ g, (.slice (some ⟨gsd, 0, none⟩) nd nd : Value).ownBlock = some g → w2.heap.size ≤ g ∧ g < w3.heap.size) := Lib.hid (fun g h => Fsd_3.out.lt g h)
  clear kk hb hge
  obtain ⟨zad0, zad1, zad2, _, _, _, zadl⟩ := blk_cells Xad_3.out
  go_wp2_with fail
  clear zad0 zad1 zad2 zadl
  refine (specGoodD_any d0 d2 _ _ _ d _ (Lib.hid (own_nlies HXd.out Fsd_3.out)) HXd hsd).mono ?_
  rintro e w4 ⟨rfl, hb⟩
  have S4 := Lib.hid (hb.size)
  have B4 := Lib.hid (Below.tr B3.out hb)
  have Fsd_4 := Lib.hid (own_below Fsd_3.out hb)
  clear Fsd_3
  have Xad_4 := Lib.hid (Xad_3.out.below hb)
  clear Xad_3
  clear hb
  clear Fsd_4
  obtain ⟨zad0, zad1, zad2, _, _, _, zadl⟩ := blk_cells Xad_4.out
  go_wp2_with fail
  clear zad0 zad1 zad2 zadl
  refine (toDiagram_any d0 d2 _ _ _ d _ (Lib.hid (HLd.out.below B4.out)) HXd hsd).mono ?_
  rintro e w5 ⟨gxd, rfl, hge, kk, hb⟩
  have S5 := Lib.hid (hb.size)
  have B5 := Lib.hid (Below.tr B4.out hb)
  have Xad_5 := Lib.hid (Xad_4.out.below hb)
  clear Xad_4
  have Fxd_5 := Lib.hid (own_baseN (own_of_nblk kk HXd.out hsd) hge)
  have Pxd : Hid (∀ g, (.slice (some ⟨gxd, 0, none⟩) nd nd : Value).ownBlock = some g → w4.heap.size ≤ g ∧ g < w5.heap.size) := Lib.hid (fun g h => Fxd_5.out.lt g h)
  clear kk hb hge
  obtain ⟨zad0, zad1, zad2, _, _, _, zadl⟩ := blk_cells Xad_5.out
  go_wp2_with fail
  clear zad0 zad1 zad2 zadl
  obtain ⟨w6, hw6⟩ : ∃ W, W = w5.alloc (.cells #[.int .i64 d0, .slice (some ⟨gxd, 0, none⟩) nd nd, .int .i64 d2] 28) := ⟨_, rfl⟩
  have hb : Below w5.heap.size w5 w6 := by rw [hw6]; exact below1 _ _
  have hx : Blk w6 w5.heap.size 28 [.int .i64 d0, .slice (some ⟨gxd, 0, none⟩) nd nd, .int .i64 d2] := by rw [hw6]; exact heap_alloc_new _ _
  have hsz : w6.heap.size = w5.heap.size + 1 := by rw [hw6]; simp
  rw [← hw6]
  clear hw6
  have S6 := Lib.hid (hb.size)
  have SE6 := Lib.hid hsz
  have B6 := Lib.hid (Below.tr B5.out hb)
  have Fxd_6 := Lib.hid (own_below Fxd_5.out hb)
  clear Fxd_5
  have Xad_6 := Lib.hid (Xad_5.out.below hb)
  clear Xad_5
  have Xxd_6 := Lib.hid hx
  clear hb hx hsz
  refine (implGoodD_any d0 d2 _ _ _ d _ (Lib.hid (own_nlies HXd.out Fxd_6.out)) HXd hsd).mono ?_
  rintro e w7 ⟨rfl, hb⟩
  have S7 := Lib.hid (hb.size)
  have B7 := Lib.hid (Below.tr B6.out hb)
  have Fxd_7 := Lib.hid (own_below Fxd_6.out hb)
  clear Fxd_6
  have Xad_7 := Lib.hid (Xad_6.out.below hb)
  clear Xad_6
  have Xxd_7 := Lib.hid (Xxd_6.out.below hb)
  clear Xxd_6
  clear hb
  have hb0 : (r0 != r0) = false := by simp
  obtain ⟨zad0, zad1, zad2, _, _, _, zadl⟩ := blk_cells Xad_7.out
  obtain ⟨zxd0, zxd1, zxd2, _, _, _, zxdl⟩ := blk_cells Xxd_7.out
  go_wp2_with fail
  clear zad0 zad1 zad2 zadl
  clear zxd0 zxd1 zxd2 zxdl
  obtain ⟨zad0, zad1, zad2, _, _, _, zadl⟩ := blk_cells Xad_7.out
  obtain ⟨zxd0, zxd1, zxd2, _, _, _, zxdl⟩ := blk_cells Xxd_7.out
  refine wp_region_held_drew (S := fun W => W.cell? ⟨w5.heap.size, 0, none⟩ = some (.int .i64 d0) ∧ W.cell? ⟨w5.heap.size, 1, none⟩ = some (.slice (some ⟨gxd, 0, none⟩) nd nd) ∧ W.cell? ⟨w5.heap.size, 2, none⟩ = some (.int .i64 d2) ∧ W.cell? ⟨w.heap.size, 0, none⟩ = some (.int .i64 d0) ∧ W.cell? ⟨w.heap.size, 1, none⟩ = some (.slice Ad nd capd) ∧ W.cell? ⟨w.heap.size, 2, none⟩ = some (.int .i64 d2)) (by kernel_rfl) ?_ (fun hHeld => ?_)
  · exact ⟨zxd0, zxd1, zxd2, zad0, zad1, zad2⟩
  clear zad0 zad1 zad2 zadl
  clear zxd0 zxd1 zxd2 zxdl
  obtain ⟨w8, hw8⟩ : ∃ W, W = w7.drew := ⟨_, rfl⟩
  have hb : Below w7.heap.size w7 w8 := by rw [hw8]; exact (Below.refl _ _).drew
  rw [← hw8] at hHeld ⊢
  clear hw8
  have S8 := Lib.hid (hb.size)
  have B8 := Lib.hid (Below.tr B7.out hb)
  have Fxd_8 := Lib.hid (own_below Fxd_7.out hb)
  clear Fxd_7
  have Xad_8 := Lib.hid (Xad_7.out.below hb)
  clear Xad_7
  have Xxd_8 := Lib.hid (Xxd_7.out.below hb)
  clear Xxd_7
  clear hb
  refine wpAnyH_take (i := 0) (v := ?_) rfl (by kernel_rfl) (by kernel_rfl) (by kernel_rfl) (fun _ _ _ h => h) (Or.inl ⟨by rfl, ?_⟩) (by assumption) ?_
  rotate_left
  · intro W hSw
    try dsimp only at hSw
    go_simp
    try with_reducible rfl
  simp only [Act.put, List.setIfInBounds_toArray]
  refine wpAnyH_take (i := 1) (v := ?_) rfl (by kernel_rfl) (by kernel_rfl) (by kernel_rfl) (fun _ _ _ h => h) (Or.inl ⟨by rfl, ?_⟩) (by assumption) ?_
  rotate_left
  · intro W hSw
    try dsimp only at hSw
    go_simp
    try with_reducible rfl
  simp only [Act.put]
  refine wpAnyH_ready (rs := [2]) (by kernel_rfl) (by simp) ?_
  refine AllReadyH.cons rfl (fun K hK => ?_) AllReadyH.nil
  go_simp
  refine (toDiagram_any d0 d2 _ _ _ d _ (Lib.hid (HLd.out.below B8.out)) HXd hsd).mono ?_
  rintro e w9 ⟨gcd, rfl, hge, kk, hb⟩
  have S9 := Lib.hid (hb.size)
  have B9 := Lib.hid (Below.tr B8.out hb)
  have Fxd_9 := Lib.hid (own_below Fxd_8.out hb)
  clear Fxd_8
  have Xad_9 := Lib.hid (Xad_8.out.below hb)
  clear Xad_8
  have Xxd_9 := Lib.hid (Xxd_8.out.below hb)
  clear Xxd_8
  have Fcd_9 := Lib.hid (own_baseN (own_of_nblk kk HXd.out hsd) hge)
  have Pcd : Hid (∀ g, (.slice (some ⟨gcd, 0, none⟩) nd nd : Value).ownBlock = some g → w8.heap.size ≤ g ∧ g < w9.heap.size) := Lib.hid (fun g h => Fcd_9.out.lt g h)
  clear kk hb hge
  obtain ⟨zad0, zad1, zad2, _, _, _, zadl⟩ := blk_cells Xad_9.out
  obtain ⟨zxd0, zxd1, zxd2, _, _, _, zxdl⟩ := blk_cells Xxd_9.out
  refine hK.out _ _ ⟨zxd0, zxd1, zxd2, zad0, zad1, zad2⟩ (fun hH1 => ?_)
  clear hK K hHeld
  try simp only [Act.put, List.setIfInBounds_toArray, List.set_cons_zero, List.set_cons_succ]
  clear zad0 zad1 zad2 zadl
  clear zxd0 zxd1 zxd2 zxdl
  refine wpAnyH_ready (rs := [3]) (by kernel_rfl) (by simp) ?_
  refine AllReadyH.cons rfl (fun K hK => ?_) AllReadyH.nil
  go_simp
  refine (eqDiagram_same d0 d2 _ _ _ _ _ d _ (Lib.hid (own_nlies HXd.out Fxd_9.out)) (Lib.hid (own_nlies HXd.out Fcd_9.out)) HXd (by omega)).mono ?_
  rintro e w10 ⟨rfl, hb⟩
  have S10 := Lib.hid (hb.size)
  have B10 := Lib.hid (Below.tr B9.out hb)
  have Fxd_10 := Lib.hid (own_below Fxd_9.out hb)
  clear Fxd_9
  have Fcd_10 := Lib.hid (own_below Fcd_9.out hb)
  clear Fcd_9
  have Xad_10 := Lib.hid (Xad_9.out.below hb)
  clear Xad_9
  have Xxd_10 := Lib.hid (Xxd_9.out.below hb)
  clear Xxd_9
  clear hb
  clear Fcd_10
  obtain ⟨zad0, zad1, zad2, _, _, _, zadl⟩ := blk_cells Xad_10.out
  obtain ⟨zxd0, zxd1, zxd2, _, _, _, zxdl⟩ := blk_cells Xxd_10.out
  refine hK.out _ _ ⟨zxd0, zxd1, zxd2, zad0, zad1, zad2⟩ (fun hH2 => ?_)
  clear hK K hH1
  try simp only [Act.put, List.setIfInBounds_toArray, List.set_cons_zero, List.set_cons_succ]
  clear zad0 zad1 zad2 zadl
  clear zxd0 zxd1 zxd2 zxdl
  refine wpAnyH_ready (rs := [4]) (by kernel_rfl) (by simp) ?_
  refine AllReadyH.cons rfl (fun K hK => ?_) AllReadyH.nil
  go_simp
  obtain ⟨zad0, zad1, zad2, _, _, _, zadl⟩ := blk_cells Xad_10.out
  obtain ⟨zxd0, zxd1, zxd2, _, _, _, zxdl⟩ := blk_cells Xxd_10.out
  refine hK.out _ _ ⟨zxd0, zxd1, zxd2, zad0, zad1, zad2⟩ (fun hH3 => ?_)
  clear hK K hH2
  try simp only [Act.put, List.setIfInBounds_toArray, List.set_cons_zero, List.set_cons_succ]
  clear zad0 zad1 zad2 zadl
  clear zxd0 zxd1 zxd2 zxdl
  refine wpAnyH_done (by kernel_rfl) ?_ _
  clear hH3
  obtain ⟨zad0, zad1, zad2, _, _, _, zadl⟩ := blk_cells Xad_10.out
  obtain ⟨zxd0, zxd1, zxd2, _, _, _, zxdl⟩ := blk_cells Xxd_10.out
  go_wp2
  go_ret
  exact ⟨rfl, B10.out⟩
end Go.Proofs.Ythhmacocijcjiaa
