/-
  The walk of the law of Eval.
-/
import Derived.Test.YthhmacocijcjiaaSp5
import Derived.Test.YthhmacocijcjiaaDOpen
namespace Go.Proofs.Ythhmacocijcjiaa
open Go.ChangeShapes Go.WideShapes Go.ChangeAt Go.RowKit

set_option maxRecDepth 100000 in
set_option maxHeartbeats 8000000 in
theorem lawEval (d0 d2 : Int) (Ad : Option Addr) (capd : Nat) (d : List Nd) (Am : Option Addr) (capm : Nat) (m : List Bool) (w : World) (hnd : d.length ≤ 9223372036854775807) (hld : NLies w Ad d) (hnm : m.length ≤ 9223372036854775807) (hlm : BLies w Am m) :
    Calls Try.prog 8 #[.agg #[.int .i64 d0, .slice Ad d.length capd, .int .i64 d2], .slice Am m.length capm] w fun e w' => e = .returned (.bool true) ∧ Below w.heap.size w w' := by
  obtain ⟨nd, hxd⟩ : ∃ n, d.length = n := ⟨_, rfl⟩
  rw [hxd] at hnd ⊢
  have HXd := Lib.hid hxd
  have HLd := Lib.hid hld
  clear hxd hld
  obtain ⟨nm, hxm⟩ : ∃ n, m.length = n := ⟨_, rfl⟩
  rw [hxm] at hnm ⊢
  have HXm := Lib.hid hxm
  have HLm := Lib.hid hlm
  clear hxm hlm
  by_cases hbm : 1048576 < nm
  · go_enter Try.func8, Try.ntmps8
    go_wp2
    go_ret
    exact ⟨rfl, below1 _ _⟩
  have hsm : nm ≤ 1048576 := by omega
  go_enter Try.func8, Try.ntmps8
  go_wp2_with fail
  obtain ⟨w1, hw1⟩ : ∃ W, W = w.alloc (.cells #[.int .i64 d0, .slice Ad nd capd, .int .i64 d2] 66) := ⟨_, rfl⟩
  have hb : Below w.heap.size w w1 := by rw [hw1]; exact below1 _ _
  have hx : Blk w1 w.heap.size 66 [.int .i64 d0, .slice Ad nd capd, .int .i64 d2] := by rw [hw1]; exact heap_alloc_new _ _
  have hsz : w1.heap.size = w.heap.size + 1 := by rw [hw1]; simp
  rw [← hw1]
  clear hw1
  have S1 := Lib.hid (hb.size)
  have SE1 := Lib.hid hsz
  have B1 := Lib.hid (Below.tr (Below.refl _ _) hb)
  have Xad_1 := Lib.hid hx
  clear hb hx hsz
  refine (szDiagram_any d0 d2 Ad nd capd 1048576 _ hnd (by omega) (by omega)).mono ?_
  rintro e w2 ⟨rfl, hb⟩
  have S2 := Lib.hid (hb.size)
  have B2 := Lib.hid (Below.tr B1.out hb)
  have Xad_2 := Lib.hid (Xad_1.out.below hb)
  clear Xad_1
  clear hb
  by_cases hnegd : 1048576 - (nd : Int) < 0
  · have hszd : szF 1048576 nd = -1 := if_pos (by omega)
    rw [hszd]
    go_wp2
    go_ret
    exact ⟨rfl, B2.out⟩
  have hszd : szF 1048576 nd = 1048576 - nd := if_neg (by omega)
  rw [hszd]
  clear hszd
  have hsd : nd ≤ 1048576 := by omega
  obtain ⟨r0, r1, hr⟩ : ∃ r0 r1, rEval d0 d d2 m r0 r1 := ⟨_, _, rfl, rfl⟩
  have HR := Lib.hid hr
  clear hr
  obtain ⟨zad0, zad1, zad2, _, _, _, zadl⟩ := blk_cells Xad_2.out
  go_wp2_with fail
  clear zad0 zad1 zad2 zadl
  refine (toDiagram_any d0 d2 _ _ _ d _ (Lib.hid (HLd.out.below B2.out)) HXd hsd).mono ?_
  rintro e w3 ⟨gsd, rfl, hge, kk, hb⟩
  have S3 := Lib.hid (hb.size)
  have B3 := Lib.hid (Below.tr B2.out hb)
  have Xad_3 := Lib.hid (Xad_2.out.below hb)
  clear Xad_2
  have Fsd_3 := Lib.hid (own_baseN (own_of_nblk kk HXd.out hsd) hge)
  have Psd : Hid (∀ g, (.slice (some ⟨gsd, 0, none⟩) nd nd : Value).ownBlock = some g → w2.heap.size ≤ g ∧ g < w3.heap.size) := Lib.hid (fun g h => Fsd_3.out.lt g h)
  clear kk hb hge
  obtain ⟨zad0, zad1, zad2, _, _, _, zadl⟩ := blk_cells Xad_3.out
  go_wp2_with fail
  clear zad0 zad1 zad2 zadl
  refine (toBoolS_any _ _ _ m _ (Lib.hid (HLm.out.below B3.out)) HXm hsm).mono ?_
  rintro e w4 ⟨rfl, kk, hb⟩
  have S4 := Lib.hid (hb.size)
  have B4 := Lib.hid (Below.tr B3.out hb)
  have Fsd_4 := Lib.hid (own_below Fsd_3.out hb)
  clear Fsd_3
  have Xad_4 := Lib.hid (Xad_3.out.below hb)
  clear Xad_3
  have Fsm_4 := Lib.hid (own_of_vblk kk (by simpa using HXm.out) hsm)
  have Psm : Hid (∀ g, (.slice (some ⟨w3.heap.size, 0, none⟩) nm nm : Value).ownBlock = some g → w3.heap.size ≤ g ∧ g < w4.heap.size) := Lib.hid (fun g h => Fsm_4.out.lt g h)
  clear kk hb
  obtain ⟨zad0, zad1, zad2, _, _, _, zadl⟩ := blk_cells Xad_4.out
  go_wp2_with fail
  clear zad0 zad1 zad2 zadl
  refine (specEval_any d0 d2 _ _ _ _ _ _ d m _ r0 r1 HR (Lib.hid (own_nlies HXd.out Fsd_4.out)) HXd hsd (own_blies Fsm_4.out) HXm (by omega)).mono ?_
  rintro e w5 ⟨rfl, hb⟩
  have S5 := Lib.hid (hb.size)
  have B5 := Lib.hid (Below.tr B4.out hb)
  have Fsd_5 := Lib.hid (own_below Fsd_4.out hb)
  clear Fsd_4
  have Fsm_5 := Lib.hid (own_below Fsm_4.out hb)
  clear Fsm_4
  have Xad_5 := Lib.hid (Xad_4.out.below hb)
  clear Xad_4
  clear hb
  clear Fsd_5
  clear Fsm_5
  obtain ⟨zad0, zad1, zad2, _, _, _, zadl⟩ := blk_cells Xad_5.out
  go_wp2_with fail
  clear zad0 zad1 zad2 zadl
  refine (toDiagram_any d0 d2 _ _ _ d _ (Lib.hid (HLd.out.below B5.out)) HXd hsd).mono ?_
  rintro e w6 ⟨gxd, rfl, hge, kk, hb⟩
  have S6 := Lib.hid (hb.size)
  have B6 := Lib.hid (Below.tr B5.out hb)
  have Xad_6 := Lib.hid (Xad_5.out.below hb)
  clear Xad_5
  have Fxd_6 := Lib.hid (own_baseN (own_of_nblk kk HXd.out hsd) hge)
  have Pxd : Hid (∀ g, (.slice (some ⟨gxd, 0, none⟩) nd nd : Value).ownBlock = some g → w5.heap.size ≤ g ∧ g < w6.heap.size) := Lib.hid (fun g h => Fxd_6.out.lt g h)
  clear kk hb hge
  obtain ⟨zad0, zad1, zad2, _, _, _, zadl⟩ := blk_cells Xad_6.out
  go_wp2_with fail
  clear zad0 zad1 zad2 zadl
  obtain ⟨w7, hw7⟩ : ∃ W, W = w6.alloc (.cells #[.int .i64 d0, .slice (some ⟨gxd, 0, none⟩) nd nd, .int .i64 d2] 28) := ⟨_, rfl⟩
  have hb : Below w6.heap.size w6 w7 := by rw [hw7]; exact below1 _ _
  have hx : Blk w7 w6.heap.size 28 [.int .i64 d0, .slice (some ⟨gxd, 0, none⟩) nd nd, .int .i64 d2] := by rw [hw7]; exact heap_alloc_new _ _
  have hsz : w7.heap.size = w6.heap.size + 1 := by rw [hw7]; simp
  rw [← hw7]
  clear hw7
  have S7 := Lib.hid (hb.size)
  have SE7 := Lib.hid hsz
  have B7 := Lib.hid (Below.tr B6.out hb)
  have Fxd_7 := Lib.hid (own_below Fxd_6.out hb)
  clear Fxd_6
  have Xad_7 := Lib.hid (Xad_6.out.below hb)
  clear Xad_6
  have Xxd_7 := Lib.hid hx
  clear hb hx hsz
  refine (toBoolS_any _ _ _ m _ (Lib.hid (HLm.out.below B7.out)) HXm hsm).mono ?_
  rintro e w8 ⟨rfl, kk, hb⟩
  have S8 := Lib.hid (hb.size)
  have B8 := Lib.hid (Below.tr B7.out hb)
  have Fxd_8 := Lib.hid (own_below Fxd_7.out hb)
  clear Fxd_7
  have Xad_8 := Lib.hid (Xad_7.out.below hb)
  clear Xad_7
  have Xxd_8 := Lib.hid (Xxd_7.out.below hb)
  clear Xxd_7
  have Fxm_8 := Lib.hid (own_of_vblk kk (by simpa using HXm.out) hsm)
  have Pxm : Hid (∀ g, (.slice (some ⟨w7.heap.size, 0, none⟩) nm nm : Value).ownBlock = some g → w7.heap.size ≤ g ∧ g < w8.heap.size) := Lib.hid (fun g h => Fxm_8.out.lt g h)
  clear kk hb
  obtain ⟨zad0, zad1, zad2, _, _, _, zadl⟩ := blk_cells Xad_8.out
  obtain ⟨zxd0, zxd1, zxd2, _, _, _, zxdl⟩ := blk_cells Xxd_8.out
  go_wp2_with fail
  clear zad0 zad1 zad2 zadl
  clear zxd0 zxd1 zxd2 zxdl
  refine (implEval_any d0 d2 _ _ _ _ _ _ d m _ r0 r1 HR (Lib.hid (own_nlies HXd.out Fxd_8.out)) HXd hsd (own_blies Fxm_8.out) HXm (by omega)).mono ?_
  rintro e w9 ⟨rfl, hb⟩
  have S9 := Lib.hid (hb.size)
  have B9 := Lib.hid (Below.tr B8.out hb)
  have Fxd_9 := Lib.hid (own_below Fxd_8.out hb)
  clear Fxd_8
  have Fxm_9 := Lib.hid (own_below Fxm_8.out hb)
  clear Fxm_8
  have Xad_9 := Lib.hid (Xad_8.out.below hb)
  clear Xad_8
  have Xxd_9 := Lib.hid (Xxd_8.out.below hb)
  clear Xxd_8
  clear hb
  have hb0 : (r0 != r0) = false := by simp
  have hb1 : (r1 != r1) = false := by simp
  obtain ⟨zad0, zad1, zad2, _, _, _, zadl⟩ := blk_cells Xad_9.out
  obtain ⟨zxd0, zxd1, zxd2, _, _, _, zxdl⟩ := blk_cells Xxd_9.out
  go_wp2_with fail
  clear zad0 zad1 zad2 zadl
  clear zxd0 zxd1 zxd2 zxdl
  obtain ⟨zad0, zad1, zad2, _, _, _, zadl⟩ := blk_cells Xad_9.out
  obtain ⟨zxd0, zxd1, zxd2, _, _, _, zxdl⟩ := blk_cells Xxd_9.out
  refine wp_region_held_drew (S := fun W => W.cell? ⟨w6.heap.size, 0, none⟩ = some (.int .i64 d0) ∧ W.cell? ⟨w6.heap.size, 1, none⟩ = some (.slice (some ⟨gxd, 0, none⟩) nd nd) ∧ W.cell? ⟨w6.heap.size, 2, none⟩ = some (.int .i64 d2) ∧ W.cell? ⟨w.heap.size, 0, none⟩ = some (.int .i64 d0) ∧ W.cell? ⟨w.heap.size, 1, none⟩ = some (.slice Ad nd capd) ∧ W.cell? ⟨w.heap.size, 2, none⟩ = some (.int .i64 d2)) (by kernel_rfl) ?_ (fun hHeld => ?_)
  · exact ⟨zxd0, zxd1, zxd2, zad0, zad1, zad2⟩
  clear zad0 zad1 zad2 zadl
  clear zxd0 zxd1 zxd2 zxdl
  obtain ⟨w10, hw10⟩ : ∃ W, W = w9.drew := ⟨_, rfl⟩
  have hb : Below w9.heap.size w9 w10 := by rw [hw10]; exact (Below.refl _ _).drew
  rw [← hw10] at hHeld ⊢
  clear hw10
  have S10 := Lib.hid (hb.size)
  have B10 := Lib.hid (Below.tr B9.out hb)
  have Fxd_10 := Lib.hid (own_below Fxd_9.out hb)
  clear Fxd_9
  have Fxm_10 := Lib.hid (own_below Fxm_9.out hb)
  clear Fxm_9
  have Xad_10 := Lib.hid (Xad_9.out.below hb)
  clear Xad_9
  have Xxd_10 := Lib.hid (Xxd_9.out.below hb)
  clear Xxd_9
  clear hb
  refine wpAnyH_take (i := 0) (v := ?_) rfl (by kernel_rfl) (by kernel_rfl) (by kernel_rfl) (fun _ _ _ h => h) (Or.inl ⟨by rfl, ?_⟩) (by assumption) ?_
  rotate_left
  · intro W hSw
    try dsimp only at hSw
    go_simp
    try with_reducible rfl
  simp only [Act.put, List.setIfInBounds_toArray]
  refine wpAnyH_take (i := 1) (v := ?_) rfl (by kernel_rfl) (by kernel_rfl) (by kernel_rfl) (fun _ _ _ h => h) (Or.inl ⟨by rfl, ?_⟩) (by assumption) ?_
  rotate_left
  · intro W hSw
    try dsimp only at hSw
    go_simp
    try with_reducible rfl
  simp only [Act.put]
  refine wpAnyH_ready (rs := [2]) (by kernel_rfl) (by simp) ?_
  refine AllReadyH.cons rfl (fun K hK => ?_) AllReadyH.nil
  go_simp
  refine (toDiagram_any d0 d2 _ _ _ d _ (Lib.hid (HLd.out.below B10.out)) HXd hsd).mono ?_
  rintro e w11 ⟨gcd, rfl, hge, kk, hb⟩
  have S11 := Lib.hid (hb.size)
  have B11 := Lib.hid (Below.tr B10.out hb)
  have Fxd_11 := Lib.hid (own_below Fxd_10.out hb)
  clear Fxd_10
  have Fxm_11 := Lib.hid (own_below Fxm_10.out hb)
  clear Fxm_10
  have Xad_11 := Lib.hid (Xad_10.out.below hb)
  clear Xad_10
  have Xxd_11 := Lib.hid (Xxd_10.out.below hb)
  clear Xxd_10
  have Fcd_11 := Lib.hid (own_baseN (own_of_nblk kk HXd.out hsd) hge)
  have Pcd : Hid (∀ g, (.slice (some ⟨gcd, 0, none⟩) nd nd : Value).ownBlock = some g → w10.heap.size ≤ g ∧ g < w11.heap.size) := Lib.hid (fun g h => Fcd_11.out.lt g h)
  clear kk hb hge
  obtain ⟨zad0, zad1, zad2, _, _, _, zadl⟩ := blk_cells Xad_11.out
  obtain ⟨zxd0, zxd1, zxd2, _, _, _, zxdl⟩ := blk_cells Xxd_11.out
  refine hK.out _ _ ⟨zxd0, zxd1, zxd2, zad0, zad1, zad2⟩ (fun hH1 => ?_)
  clear hK K hHeld
  try simp only [Act.put, List.setIfInBounds_toArray, List.set_cons_zero, List.set_cons_succ]
  clear zad0 zad1 zad2 zadl
  clear zxd0 zxd1 zxd2 zxdl
  refine wpAnyH_ready (rs := [3]) (by kernel_rfl) (by simp) ?_
  refine AllReadyH.cons rfl (fun K hK => ?_) AllReadyH.nil
  go_simp
  refine (eqDiagram_same d0 d2 _ _ _ _ _ d _ (Lib.hid (own_nlies HXd.out Fxd_11.out)) (Lib.hid (own_nlies HXd.out Fcd_11.out)) HXd (by omega)).mono ?_
  rintro e w12 ⟨rfl, hb⟩
  have S12 := Lib.hid (hb.size)
  have B12 := Lib.hid (Below.tr B11.out hb)
  have Fxd_12 := Lib.hid (own_below Fxd_11.out hb)
  clear Fxd_11
  have Fxm_12 := Lib.hid (own_below Fxm_11.out hb)
  clear Fxm_11
  have Fcd_12 := Lib.hid (own_below Fcd_11.out hb)
  clear Fcd_11
  have Xad_12 := Lib.hid (Xad_11.out.below hb)
  clear Xad_11
  have Xxd_12 := Lib.hid (Xxd_11.out.below hb)
  clear Xxd_11
  clear hb
  clear Fcd_12
  obtain ⟨zad0, zad1, zad2, _, _, _, zadl⟩ := blk_cells Xad_12.out
  obtain ⟨zxd0, zxd1, zxd2, _, _, _, zxdl⟩ := blk_cells Xxd_12.out
  refine hK.out _ _ ⟨zxd0, zxd1, zxd2, zad0, zad1, zad2⟩ (fun hH2 => ?_)
  clear hK K hH1
  try simp only [Act.put, List.setIfInBounds_toArray, List.set_cons_zero, List.set_cons_succ]
  clear zad0 zad1 zad2 zadl
  clear zxd0 zxd1 zxd2 zxdl
  refine wpAnyH_ready (rs := [4]) (by kernel_rfl) (by simp) ?_
  refine AllReadyH.cons rfl (fun K hK => ?_) AllReadyH.nil
  go_simp
  obtain ⟨zad0, zad1, zad2, _, _, _, zadl⟩ := blk_cells Xad_12.out
  obtain ⟨zxd0, zxd1, zxd2, _, _, _, zxdl⟩ := blk_cells Xxd_12.out
  refine hK.out _ _ ⟨zxd0, zxd1, zxd2, zad0, zad1, zad2⟩ (fun hH3 => ?_)
  clear hK K hH2
  try simp only [Act.put, List.setIfInBounds_toArray, List.set_cons_zero, List.set_cons_succ]
  clear zad0 zad1 zad2 zadl
  clear zxd0 zxd1 zxd2 zxdl
  refine wpAnyH_done (by kernel_rfl) ?_ _
  clear hH3
  obtain ⟨zad0, zad1, zad2, _, _, _, zadl⟩ := blk_cells Xad_12.out
  obtain ⟨zxd0, zxd1, zxd2, _, _, _, zxdl⟩ := blk_cells Xxd_12.out
  go_wp2_with fail
  clear zad0 zad1 zad2 zadl
  clear zxd0 zxd1 zxd2 zxdl
  refine (toBoolS_any _ _ _ m _ (Lib.hid (HLm.out.below B12.out)) HXm hsm).mono ?_
  rintro e w13 ⟨rfl, kk, hb⟩
  have S13 := Lib.hid (hb.size)
  have B13 := Lib.hid (Below.tr B12.out hb)
  have Fxd_13 := Lib.hid (own_below Fxd_12.out hb)
  clear Fxd_12
  have Fxm_13 := Lib.hid (own_below Fxm_12.out hb)
  clear Fxm_12
  have Xad_13 := Lib.hid (Xad_12.out.below hb)
  clear Xad_12
  have Xxd_13 := Lib.hid (Xxd_12.out.below hb)
  clear Xxd_12
  have Fcm_13 := Lib.hid (own_of_vblk kk (by simpa using HXm.out) hsm)
  have Pcm : Hid (∀ g, (.slice (some ⟨w12.heap.size, 0, none⟩) nm nm : Value).ownBlock = some g → w12.heap.size ≤ g ∧ g < w13.heap.size) := Lib.hid (fun g h => Fcm_13.out.lt g h)
  clear kk hb
  obtain ⟨zad0, zad1, zad2, _, _, _, zadl⟩ := blk_cells Xad_13.out
  obtain ⟨zxd0, zxd1, zxd2, _, _, _, zxdl⟩ := blk_cells Xxd_13.out
  go_wp2_with fail
  clear zad0 zad1 zad2 zadl
  clear zxd0 zxd1 zxd2 zxdl
  refine (eqBoolS_same _ _ _ _ _ m _ (Lib.hid (own_blies Fxm_13.out)) (Lib.hid (own_blies Fcm_13.out)) HXm (by omega)).mono ?_
  rintro e w14 ⟨rfl, hb⟩
  have S14 := Lib.hid (hb.size)
  have B14 := Lib.hid (Below.tr B13.out hb)
  have Fxd_14 := Lib.hid (own_below Fxd_13.out hb)
  clear Fxd_13
  have Fxm_14 := Lib.hid (own_below Fxm_13.out hb)
  clear Fxm_13
  have Fcm_14 := Lib.hid (own_below Fcm_13.out hb)
  clear Fcm_13
  have Xad_14 := Lib.hid (Xad_13.out.below hb)
  clear Xad_13
  have Xxd_14 := Lib.hid (Xxd_13.out.below hb)
  clear Xxd_13
  clear hb
  clear Fcm_14
  obtain ⟨zad0, zad1, zad2, _, _, _, zadl⟩ := blk_cells Xad_14.out
  obtain ⟨zxd0, zxd1, zxd2, _, _, _, zxdl⟩ := blk_cells Xxd_14.out
  go_wp2
  go_ret
  exact ⟨rfl, B14.out⟩
end Go.Proofs.Ythhmacocijcjiaa
