/-
  The walk of the law FnExactSplitLess.
-/
import Derived.Test.YtkffggnajoohfaaSt3
import Derived.Test.YtkffggnajoohfaaSt5
import Derived.Test.YtkffggnajoohfaaStH
namespace Go.Proofs.Ytkffggnajoohfaa.Op
open Go.Proofs.Ytkffggnajoohfaa
open Go.ChangeShapes Go.WideShapes Go.ChangeAt Go.RowKit

set_option maxRecDepth 100000 in
set_option maxHeartbeats 16000000 in
theorem lawSplitSt (al ah bl bh : Int) (w : World) :
    Calls Try.prog 9 #[.agg #[.int .i64 al, .int .i64 ah], .agg #[.int .i64 bl, .int .i64 bh]] w fun e w' => e = .returned (.bool true) ∧ Below w.heap.size w w' := by
  obtain ⟨Q, hQ⟩ : ∃ q, splitR2 ⟨al, ah⟩ ⟨bl, bh⟩ = q := ⟨_, rfl⟩
  obtain ⟨⟨x, y⟩, ⟨x', y'⟩, ok⟩ := Q
  have HQ := Lib.hid hQ
  clear hQ
  have e1 : (ok != ok) = false := by simp
  have N0 := two_newL w al ah bl bh
  go_enter Try.func9, Try.ntmps9
  go_upto_region 1 with fail
  unfold lO at N0
  generalize ((w.alloc (.cells #[.int .i64 al, .int .i64 ah] 35)).alloc (.cells #[.int .i64 bl, .int .i64 bh] 35)) = v0 at N0 ⊢
  have D0 := Lib.hid (Below.refl v0.heap.size v0)
  have D0z := D0.out.size
  have hz0 : w.heap.size < v0.heap.size := N0.out.1.lt
  go_cut [5, 6, 7] (fun s5 s6 s7 wx => ∃ g h, s5 = .pointer (some ⟨g, 0, none⟩) ∧ s6 = .pointer (some ⟨h, 0, none⟩) ∧ s7 = .bool ok ∧ SB wx g x y ∧ SB wx h x' y' ∧ v0.heap.size ≤ g ∧ v0.heap.size ≤ h ∧ g ≠ h ∧ Below v0.heap.size v0 wx)
  case first =>
    refine wp_region_held_drew (S := fun W => W.cell? ⟨w.heap.size, 0, none⟩ = some (.int .i64 al) ∧ W.cell? ⟨w.heap.size, 1, none⟩ = some (.int .i64 ah) ∧ W.cell? ⟨w.heap.size + 1, 0, none⟩ = some (.int .i64 bl) ∧ W.cell? ⟨w.heap.size + 1, 1, none⟩ = some (.int .i64 bh)) (by kernel_rfl) ?_ (fun hHeld => ?_)
    · exact ⟨(LB.below N0.out.1 D0.out).c0, (LB.below N0.out.1 D0.out).c1, (LB.below N0.out.2.1 D0.out).c0, (LB.below N0.out.2.1 D0.out).c1⟩
    refine wpAnyH_take (i := 0) (v := ?_) rfl (by kernel_rfl) (by kernel_rfl) (by kernel_rfl) (fun _ _ _ h => h) (Or.inl ⟨by rfl, ?_⟩) (by assumption) ?_
    rotate_left
    · intro W hSw
      try dsimp only at hSw
      go_simp
      try with_reducible rfl
    refine wpAnyH_take (i := 2) (v := ?_) rfl (by kernel_rfl) (by kernel_rfl) (by kernel_rfl) (fun _ _ _ h => h) (Or.inl ⟨by rfl, ?_⟩) (by assumption) ?_
    rotate_left
    · intro W hSw
      try dsimp only at hSw
      go_simp
      try with_reducible rfl
    refine wpAnyH_ready (rs := [1, 9, 10]) (by kernel_rfl) (by simp) ?_
    refine AllReadyH.cons rfl (fun K hK => ?_) (AllReadyH.cons rfl (fun K hK => ?_) (AllReadyH.cons rfl (fun K hK => ?_) AllReadyH.nil))
    · skip
      go_simp
      refine (toSt_any _ _ _).mono ?_
      rintro e y1 ⟨rfl, hb⟩
      have Y1 := Lib.hid (Below.tr (Below.drew D0.out) hb)
      have Y1z := Y1.out.size
      clear hb
      refine hK.out _ _ ⟨(LB.below N0.out.1 Y1.out).c0, (LB.below N0.out.1 Y1.out).c1, (LB.below N0.out.2.1 Y1.out).c0, (LB.below N0.out.2.1 Y1.out).c1⟩ (fun hHeld2 => ?_)
      clear hK K
      refine wpAnyH_ready (rs := [3, 9, 10]) (by kernel_rfl) (by simp) ?_
      refine AllReadyH.cons rfl (fun K hK => ?_) (AllReadyH.cons rfl (fun K hK => ?_) (AllReadyH.cons rfl (fun K hK => ?_) AllReadyH.nil))
      · skip
        go_simp
        refine (toSt_any _ _ _).mono ?_
        rintro e y2 ⟨rfl, hb⟩
        have Y2 := Lib.hid (Below.tr Y1.out hb)
        have Y2z := Y2.out.size
        clear hb
        refine hK.out _ _ ⟨(LB.below N0.out.1 Y2.out).c0, (LB.below N0.out.1 Y2.out).c1, (LB.below N0.out.2.1 Y2.out).c0, (LB.below N0.out.2.1 Y2.out).c1⟩ (fun hHeld2 => ?_)
        clear hK K
        refine wpAnyH_ready (rs := [4, 9, 10]) (by kernel_rfl) (by simp) ?_
        refine AllReadyH.cons rfl (fun K hK => ?_) (AllReadyH.cons rfl (fun K hK => ?_) (AllReadyH.cons rfl (fun K hK => ?_) AllReadyH.nil))
        · skip
          go_simp
          refine (splitM_any _ _ _ _ _).mono ?_
          rw [HQ.out]
          rintro e y3 ⟨rfl, hb⟩
          have Y3 := Lib.hid (Below.tr Y2.out hb)
          have Y3z := Y3.out.size
          clear hb
          refine hK.out _ _ ⟨(LB.below N0.out.1 Y3.out).c0, (LB.below N0.out.1 Y3.out).c1, (LB.below N0.out.2.1 Y3.out).c0, (LB.below N0.out.2.1 Y3.out).c1⟩ (fun hHeld2 => ?_)
          clear hK K
          refine wpAnyH_take (i := 5) (v := ?_) rfl (by kernel_rfl) (by kernel_rfl) (by kernel_rfl) (fun _ _ _ h => h) (Or.inl ⟨by rfl, ?_⟩) (by assumption) ?_
          rotate_left
          · intro W hSw
            try dsimp only at hSw
            go_simp
            try with_reducible rfl
          refine wpAnyH_take (i := 6) (v := ?_) rfl (by kernel_rfl) (by kernel_rfl) (by kernel_rfl) (fun _ _ _ h => h) (Or.inl ⟨by rfl, ?_⟩) (by assumption) ?_
          rotate_left
          · intro W hSw
            try dsimp only at hSw
            go_simp
            try with_reducible rfl
          refine wpAnyH_take (i := 7) (v := ?_) rfl (by kernel_rfl) (by kernel_rfl) (by kernel_rfl) (fun _ _ _ h => h) (Or.inl ⟨by rfl, ?_⟩) (by assumption) ?_
          rotate_left
          · intro W hSw
            try dsimp only at hSw
            go_simp
            try with_reducible rfl
          refine wpAnyH_take (i := 8) (v := ?_) rfl (by kernel_rfl) (by kernel_rfl) (by kernel_rfl) (fun _ _ _ h => h) (Or.inl ⟨by rfl, ?_⟩) (by assumption) ?_
          rotate_left
          · intro W hSw
            try dsimp only at hSw
            go_simp
            try with_reducible rfl
          refine wpAnyH_ready (rs := [9, 10]) (by kernel_rfl) (by simp) ?_
          refine AllReadyH.cons rfl (fun K hK => ?_) (AllReadyH.cons rfl (fun K hK => ?_) AllReadyH.nil)
          · skip
            go_simp
            refine hK.out _ _ ⟨(LB.below N0.out.1 (Below.tr Y3.out (below1 _ _))).c0, (LB.below N0.out.1 (Below.tr Y3.out (below1 _ _))).c1, (LB.below N0.out.2.1 (Below.tr Y3.out (below1 _ _))).c0, (LB.below N0.out.2.1 (Below.tr Y3.out (below1 _ _))).c1⟩ (fun hHeld2 => ?_)
            clear hK K
            refine wpAnyH_ready (rs := [10]) (by kernel_rfl) (by simp) ?_
            refine AllReadyH.cons rfl (fun K hK => ?_) AllReadyH.nil
            go_simp
            refine hK.out _ _ ⟨(LB.below N0.out.1 (Below.tr (Below.tr Y3.out (below1 _ _)) (below1 _ _))).c0, (LB.below N0.out.1 (Below.tr (Below.tr Y3.out (below1 _ _)) (below1 _ _))).c1, (LB.below N0.out.2.1 (Below.tr (Below.tr Y3.out (below1 _ _)) (below1 _ _))).c0, (LB.below N0.out.2.1 (Below.tr (Below.tr Y3.out (below1 _ _)) (below1 _ _))).c1⟩ (fun hHeld2 => ?_)
            clear hK K
            refine wpAnyH_ready (rs := [11]) (by kernel_rfl) (by simp) ?_
            refine AllReadyH.cons rfl (fun K hK => ?_) AllReadyH.nil
            go_simp
            refine hK.out _ _ ⟨(LB.below N0.out.1 (Below.tr (Below.tr Y3.out (below1 _ _)) (below1 _ _))).c0, (LB.below N0.out.1 (Below.tr (Below.tr Y3.out (below1 _ _)) (below1 _ _))).c1, (LB.below N0.out.2.1 (Below.tr (Below.tr Y3.out (below1 _ _)) (below1 _ _))).c0, (LB.below N0.out.2.1 (Below.tr (Below.tr Y3.out (below1 _ _)) (below1 _ _))).c1⟩ (fun hHeld2 => ?_)
            clear hK K
            refine wpAnyH_ready (rs := [12]) (by kernel_rfl) (by simp) ?_
            refine AllReadyH.cons rfl (fun K hK => ?_) AllReadyH.nil
            go_simp
            refine hK.out _ _ ⟨(LB.below N0.out.1 (Below.tr (Below.tr Y3.out (below1 _ _)) (below1 _ _))).c0, (LB.below N0.out.1 (Below.tr (Below.tr Y3.out (below1 _ _)) (below1 _ _))).c1, (LB.below N0.out.2.1 (Below.tr (Below.tr Y3.out (below1 _ _)) (below1 _ _))).c0, (LB.below N0.out.2.1 (Below.tr (Below.tr Y3.out (below1 _ _)) (below1 _ _))).c1⟩ (fun hHeld2 => ?_)
            clear hK K
            refine wpAnyH_ready (rs := [13]) (by kernel_rfl) (by simp) ?_
            refine AllReadyH.cons rfl (fun K hK => ?_) AllReadyH.nil
            go_simp
            refine hK.out _ _ ⟨(LB.below N0.out.1 (Below.tr (Below.tr Y3.out (below1 _ _)) (below1 _ _))).c0, (LB.below N0.out.1 (Below.tr (Below.tr Y3.out (below1 _ _)) (below1 _ _))).c1, (LB.below N0.out.2.1 (Below.tr (Below.tr Y3.out (below1 _ _)) (below1 _ _))).c0, (LB.below N0.out.2.1 (Below.tr (Below.tr Y3.out (below1 _ _)) (below1 _ _))).c1⟩ (fun hHeld2 => ?_)
            clear hK K
            refine wpAnyH_done (by kernel_rfl) ?_ _
            go_wp2_with fail
            go_meet
            exact ⟨_, _, rfl, rfl, rfl, (SB.below (SB.newAt (by first | rfl | simp)) (below1 _ _)), (SB.newAt1 (by first | rfl | simp)), by omega, by omega, by omega, (Below.tr (Below.tr Y3.out (below1 _ _)) (below1 _ _))⟩
          · skip
            go_simp
            refine hK.out _ _ ⟨(LB.below N0.out.1 (Below.tr Y3.out (below1 _ _))).c0, (LB.below N0.out.1 (Below.tr Y3.out (below1 _ _))).c1, (LB.below N0.out.2.1 (Below.tr Y3.out (below1 _ _))).c0, (LB.below N0.out.2.1 (Below.tr Y3.out (below1 _ _))).c1⟩ (fun hHeld2 => ?_)
            clear hK K
            refine wpAnyH_ready (rs := [9]) (by kernel_rfl) (by simp) ?_
            refine AllReadyH.cons rfl (fun K hK => ?_) AllReadyH.nil
            go_simp
            refine hK.out _ _ ⟨(LB.below N0.out.1 (Below.tr (Below.tr Y3.out (below1 _ _)) (below1 _ _))).c0, (LB.below N0.out.1 (Below.tr (Below.tr Y3.out (below1 _ _)) (below1 _ _))).c1, (LB.below N0.out.2.1 (Below.tr (Below.tr Y3.out (below1 _ _)) (below1 _ _))).c0, (LB.below N0.out.2.1 (Below.tr (Below.tr Y3.out (below1 _ _)) (below1 _ _))).c1⟩ (fun hHeld2 => ?_)
            clear hK K
            refine wpAnyH_ready (rs := [11]) (by kernel_rfl) (by simp) ?_
            refine AllReadyH.cons rfl (fun K hK => ?_) AllReadyH.nil
            go_simp
            refine hK.out _ _ ⟨(LB.below N0.out.1 (Below.tr (Below.tr Y3.out (below1 _ _)) (below1 _ _))).c0, (LB.below N0.out.1 (Below.tr (Below.tr Y3.out (below1 _ _)) (below1 _ _))).c1, (LB.below N0.out.2.1 (Below.tr (Below.tr Y3.out (below1 _ _)) (below1 _ _))).c0, (LB.below N0.out.2.1 (Below.tr (Below.tr Y3.out (below1 _ _)) (below1 _ _))).c1⟩ (fun hHeld2 => ?_)
            clear hK K
            refine wpAnyH_ready (rs := [12]) (by kernel_rfl) (by simp) ?_
            refine AllReadyH.cons rfl (fun K hK => ?_) AllReadyH.nil
            go_simp
            refine hK.out _ _ ⟨(LB.below N0.out.1 (Below.tr (Below.tr Y3.out (below1 _ _)) (below1 _ _))).c0, (LB.below N0.out.1 (Below.tr (Below.tr Y3.out (below1 _ _)) (below1 _ _))).c1, (LB.below N0.out.2.1 (Below.tr (Below.tr Y3.out (below1 _ _)) (below1 _ _))).c0, (LB.below N0.out.2.1 (Below.tr (Below.tr Y3.out (below1 _ _)) (below1 _ _))).c1⟩ (fun hHeld2 => ?_)
            clear hK K
            refine wpAnyH_ready (rs := [13]) (by kernel_rfl) (by simp) ?_
            refine AllReadyH.cons rfl (fun K hK => ?_) AllReadyH.nil
            go_simp
            refine hK.out _ _ ⟨(LB.below N0.out.1 (Below.tr (Below.tr Y3.out (below1 _ _)) (below1 _ _))).c0, (LB.below N0.out.1 (Below.tr (Below.tr Y3.out (below1 _ _)) (below1 _ _))).c1, (LB.below N0.out.2.1 (Below.tr (Below.tr Y3.out (below1 _ _)) (below1 _ _))).c0, (LB.below N0.out.2.1 (Below.tr (Below.tr Y3.out (below1 _ _)) (below1 _ _))).c1⟩ (fun hHeld2 => ?_)
            clear hK K
            refine wpAnyH_done (by kernel_rfl) ?_ _
            go_wp2_with fail
            go_meet
            exact ⟨_, _, rfl, rfl, rfl, (SB.newAt1 (by first | rfl | simp)), (SB.below (SB.newAt (by first | rfl | simp)) (below1 _ _)), by omega, by omega, by omega, (Below.tr (Below.tr Y3.out (below1 _ _)) (below1 _ _))⟩
        · skip
          go_simp
          refine hK.out _ _ ⟨(LB.below N0.out.1 (Below.tr Y2.out (below1 _ _))).c0, (LB.below N0.out.1 (Below.tr Y2.out (below1 _ _))).c1, (LB.below N0.out.2.1 (Below.tr Y2.out (below1 _ _))).c0, (LB.below N0.out.2.1 (Below.tr Y2.out (below1 _ _))).c1⟩ (fun hHeld2 => ?_)
          clear hK K
          refine wpAnyH_ready (rs := [4, 10]) (by kernel_rfl) (by simp) ?_
          refine AllReadyH.cons rfl (fun K hK => ?_) (AllReadyH.cons rfl (fun K hK => ?_) AllReadyH.nil)
          · skip
            go_simp
            refine (splitM_any _ _ _ _ _).mono ?_
            rw [HQ.out]
            rintro e y4 ⟨rfl, hb⟩
            have Y4 := Lib.hid (Below.tr (Below.tr Y2.out (below1 _ _)) hb)
            have Y4z := Y4.out.size
            have Y4_w := Lib.hid (SB.below (SB.newAt (by first | rfl | simp)) hb)
            have Y4_wx := Y4_w.out.c0
            have Y4_wy := Y4_w.out.c1
            have Y4_wf := Y4_w.out.f 0
            have Y4_wh := Y4_w.out.f 1
            have Y4_wl := Y4_w.out.lt
            clear hb
            refine hK.out _ _ ⟨(LB.below N0.out.1 Y4.out).c0, (LB.below N0.out.1 Y4.out).c1, (LB.below N0.out.2.1 Y4.out).c0, (LB.below N0.out.2.1 Y4.out).c1⟩ (fun hHeld2 => ?_)
            clear hK K
            refine wpAnyH_take (i := 5) (v := ?_) rfl (by kernel_rfl) (by kernel_rfl) (by kernel_rfl) (fun _ _ _ h => h) (Or.inl ⟨by rfl, ?_⟩) (by assumption) ?_
            rotate_left
            · intro W hSw
              try dsimp only at hSw
              go_simp
              try with_reducible rfl
            refine wpAnyH_take (i := 6) (v := ?_) rfl (by kernel_rfl) (by kernel_rfl) (by kernel_rfl) (fun _ _ _ h => h) (Or.inl ⟨by rfl, ?_⟩) (by assumption) ?_
            rotate_left
            · intro W hSw
              try dsimp only at hSw
              go_simp
              try with_reducible rfl
            refine wpAnyH_take (i := 7) (v := ?_) rfl (by kernel_rfl) (by kernel_rfl) (by kernel_rfl) (fun _ _ _ h => h) (Or.inl ⟨by rfl, ?_⟩) (by assumption) ?_
            rotate_left
            · intro W hSw
              try dsimp only at hSw
              go_simp
              try with_reducible rfl
            refine wpAnyH_take (i := 8) (v := ?_) rfl (by kernel_rfl) (by kernel_rfl) (by kernel_rfl) (fun _ _ _ h => h) (Or.inl ⟨by rfl, ?_⟩) (by assumption) ?_
            rotate_left
            · intro W hSw
              try dsimp only at hSw
              go_simp
              try with_reducible rfl
            refine wpAnyH_ready (rs := [10]) (by kernel_rfl) (by simp) ?_
            refine AllReadyH.cons rfl (fun K hK => ?_) AllReadyH.nil
            go_simp
            refine hK.out _ _ ⟨(LB.below N0.out.1 (Below.tr Y4.out (below1 _ _))).c0, (LB.below N0.out.1 (Below.tr Y4.out (below1 _ _))).c1, (LB.below N0.out.2.1 (Below.tr Y4.out (below1 _ _))).c0, (LB.below N0.out.2.1 (Below.tr Y4.out (below1 _ _))).c1⟩ (fun hHeld2 => ?_)
            clear hK K
            refine wpAnyH_ready (rs := [11]) (by kernel_rfl) (by simp) ?_
            refine AllReadyH.cons rfl (fun K hK => ?_) AllReadyH.nil
            go_simp
            refine hK.out _ _ ⟨(LB.below N0.out.1 (Below.tr (belowS2 Y4.out (by omega)) (below1 _ _))).c0, (LB.below N0.out.1 (Below.tr (belowS2 Y4.out (by omega)) (below1 _ _))).c1, (LB.below N0.out.2.1 (Below.tr (belowS2 Y4.out (by omega)) (below1 _ _))).c0, (LB.below N0.out.2.1 (Below.tr (belowS2 Y4.out (by omega)) (below1 _ _))).c1⟩ (fun hHeld2 => ?_)
            clear hK K
            refine wpAnyH_ready (rs := [12]) (by kernel_rfl) (by simp) ?_
            refine AllReadyH.cons rfl (fun K hK => ?_) AllReadyH.nil
            go_simp
            refine hK.out _ _ ⟨(LB.below N0.out.1 (Below.tr (belowS2 Y4.out (by omega)) (below1 _ _))).c0, (LB.below N0.out.1 (Below.tr (belowS2 Y4.out (by omega)) (below1 _ _))).c1, (LB.below N0.out.2.1 (Below.tr (belowS2 Y4.out (by omega)) (below1 _ _))).c0, (LB.below N0.out.2.1 (Below.tr (belowS2 Y4.out (by omega)) (below1 _ _))).c1⟩ (fun hHeld2 => ?_)
            clear hK K
            refine wpAnyH_ready (rs := [13]) (by kernel_rfl) (by simp) ?_
            refine AllReadyH.cons rfl (fun K hK => ?_) AllReadyH.nil
            go_simp
            refine hK.out _ _ ⟨(LB.below N0.out.1 (Below.tr (belowS2 Y4.out (by omega)) (below1 _ _))).c0, (LB.below N0.out.1 (Below.tr (belowS2 Y4.out (by omega)) (below1 _ _))).c1, (LB.below N0.out.2.1 (Below.tr (belowS2 Y4.out (by omega)) (below1 _ _))).c0, (LB.below N0.out.2.1 (Below.tr (belowS2 Y4.out (by omega)) (below1 _ _))).c1⟩ (fun hHeld2 => ?_)
            clear hK K
            refine wpAnyH_done (by kernel_rfl) ?_ _
            go_wp2_with fail
            go_meet
            exact ⟨_, _, rfl, rfl, rfl, (SB.below (SB.set2 Y4_w.out) (below1 _ _)), (SB.newAt (by first | rfl | simp)), by omega, by omega, by omega, (Below.tr (belowS2 Y4.out (by omega)) (below1 _ _))⟩
          · skip
            go_simp
            refine hK.out _ _ ⟨(LB.below N0.out.1 (Below.tr (Below.tr Y2.out (below1 _ _)) (below1 _ _))).c0, (LB.below N0.out.1 (Below.tr (Below.tr Y2.out (below1 _ _)) (below1 _ _))).c1, (LB.below N0.out.2.1 (Below.tr (Below.tr Y2.out (below1 _ _)) (below1 _ _))).c0, (LB.below N0.out.2.1 (Below.tr (Below.tr Y2.out (below1 _ _)) (below1 _ _))).c1⟩ (fun hHeld2 => ?_)
            clear hK K
            refine wpAnyH_ready (rs := [4]) (by kernel_rfl) (by simp) ?_
            refine AllReadyH.cons rfl (fun K hK => ?_) AllReadyH.nil
            go_simp
            refine (splitM_any _ _ _ _ _).mono ?_
            rw [HQ.out]
            rintro e y5 ⟨rfl, hb⟩
            have Y5 := Lib.hid (Below.tr (Below.tr (Below.tr Y2.out (below1 _ _)) (below1 _ _)) hb)
            have Y5z := Y5.out.size
            have Y5_w := Lib.hid (SB.below (SB.below (SB.newAt (by first | rfl | simp)) (below1 _ _)) hb)
            have Y5_wx := Y5_w.out.c0
            have Y5_wy := Y5_w.out.c1
            have Y5_wf := Y5_w.out.f 0
            have Y5_wh := Y5_w.out.f 1
            have Y5_wl := Y5_w.out.lt
            have Y5_z := Lib.hid (SB.below (SB.newAt1 (by first | rfl | simp)) hb)
            have Y5_zx := Y5_z.out.c0
            have Y5_zy := Y5_z.out.c1
            have Y5_zf := Y5_z.out.f 0
            have Y5_zh := Y5_z.out.f 1
            have Y5_zl := Y5_z.out.lt
            have Y5ne01 : y2.heap.size ≠ y2.heap.size + 1 := by omega
            have Y5ne10 : y2.heap.size + 1 ≠ y2.heap.size := by omega
            clear hb
            refine hK.out _ _ ⟨(LB.below N0.out.1 Y5.out).c0, (LB.below N0.out.1 Y5.out).c1, (LB.below N0.out.2.1 Y5.out).c0, (LB.below N0.out.2.1 Y5.out).c1⟩ (fun hHeld2 => ?_)
            clear hK K
            refine wpAnyH_take (i := 5) (v := ?_) rfl (by kernel_rfl) (by kernel_rfl) (by kernel_rfl) (fun _ _ _ h => h) (Or.inl ⟨by rfl, ?_⟩) (by assumption) ?_
            rotate_left
            · intro W hSw
              try dsimp only at hSw
              go_simp
              try with_reducible rfl
            refine wpAnyH_take (i := 6) (v := ?_) rfl (by kernel_rfl) (by kernel_rfl) (by kernel_rfl) (fun _ _ _ h => h) (Or.inl ⟨by rfl, ?_⟩) (by assumption) ?_
            rotate_left
            · intro W hSw
              try dsimp only at hSw
              go_simp
              try with_reducible rfl
            refine wpAnyH_take (i := 7) (v := ?_) rfl (by kernel_rfl) (by kernel_rfl) (by kernel_rfl) (fun _ _ _ h => h) (Or.inl ⟨by rfl, ?_⟩) (by assumption) ?_
            rotate_left
            · intro W hSw
              try dsimp only at hSw
              go_simp
              try with_reducible rfl
            refine wpAnyH_take (i := 8) (v := ?_) rfl (by kernel_rfl) (by kernel_rfl) (by kernel_rfl) (fun _ _ _ h => h) (Or.inl ⟨by rfl, ?_⟩) (by assumption) ?_
            rotate_left
            · intro W hSw
              try dsimp only at hSw
              go_simp
              try with_reducible rfl
            refine wpAnyH_ready (rs := [11]) (by kernel_rfl) (by simp) ?_
            refine AllReadyH.cons rfl (fun K hK => ?_) AllReadyH.nil
            go_simp
            refine hK.out _ _ ⟨(LB.below N0.out.1 (belowS2 Y5.out (by omega))).c0, (LB.below N0.out.1 (belowS2 Y5.out (by omega))).c1, (LB.below N0.out.2.1 (belowS2 Y5.out (by omega))).c0, (LB.below N0.out.2.1 (belowS2 Y5.out (by omega))).c1⟩ (fun hHeld2 => ?_)
            clear hK K
            refine wpAnyH_ready (rs := [12]) (by kernel_rfl) (by simp) ?_
            refine AllReadyH.cons rfl (fun K hK => ?_) AllReadyH.nil
            go_simp
            refine hK.out _ _ ⟨(LB.below N0.out.1 (belowS2 (belowS2 Y5.out (by omega)) (by omega))).c0, (LB.below N0.out.1 (belowS2 (belowS2 Y5.out (by omega)) (by omega))).c1, (LB.below N0.out.2.1 (belowS2 (belowS2 Y5.out (by omega)) (by omega))).c0, (LB.below N0.out.2.1 (belowS2 (belowS2 Y5.out (by omega)) (by omega))).c1⟩ (fun hHeld2 => ?_)
            clear hK K
            refine wpAnyH_ready (rs := [13]) (by kernel_rfl) (by simp) ?_
            refine AllReadyH.cons rfl (fun K hK => ?_) AllReadyH.nil
            go_simp
            refine hK.out _ _ ⟨(LB.below N0.out.1 (belowS2 (belowS2 Y5.out (by omega)) (by omega))).c0, (LB.below N0.out.1 (belowS2 (belowS2 Y5.out (by omega)) (by omega))).c1, (LB.below N0.out.2.1 (belowS2 (belowS2 Y5.out (by omega)) (by omega))).c0, (LB.below N0.out.2.1 (belowS2 (belowS2 Y5.out (by omega)) (by omega))).c1⟩ (fun hHeld2 => ?_)
            clear hK K
            refine wpAnyH_done (by kernel_rfl) ?_ _
            go_wp2_with fail
            go_meet
            exact ⟨_, _, rfl, rfl, rfl, (SB.far2 (SB.set2 Y5_w.out) (by omega)), (SB.set2 (SB.far2 Y5_z.out (by omega))), by omega, by omega, by omega, (belowS2 (belowS2 Y5.out (by omega)) (by omega))⟩
        · skip
          go_simp
          refine hK.out _ _ ⟨(LB.below N0.out.1 (Below.tr Y2.out (below1 _ _))).c0, (LB.below N0.out.1 (Below.tr Y2.out (below1 _ _))).c1, (LB.below N0.out.2.1 (Below.tr Y2.out (below1 _ _))).c0, (LB.below N0.out.2.1 (Below.tr Y2.out (below1 _ _))).c1⟩ (fun hHeld2 => ?_)
          clear hK K
          refine wpAnyH_ready (rs := [4, 9]) (by kernel_rfl) (by simp) ?_
          refine AllReadyH.cons rfl (fun K hK => ?_) (AllReadyH.cons rfl (fun K hK => ?_) AllReadyH.nil)
          · skip
            go_simp
            refine (splitM_any _ _ _ _ _).mono ?_
            rw [HQ.out]
            rintro e y6 ⟨rfl, hb⟩
            have Y6 := Lib.hid (Below.tr (Below.tr Y2.out (below1 _ _)) hb)
            have Y6z := Y6.out.size
            have Y6_z := Lib.hid (SB.below (SB.newAt (by first | rfl | simp)) hb)
            have Y6_zx := Y6_z.out.c0
            have Y6_zy := Y6_z.out.c1
            have Y6_zf := Y6_z.out.f 0
            have Y6_zh := Y6_z.out.f 1
            have Y6_zl := Y6_z.out.lt
            clear hb
            refine hK.out _ _ ⟨(LB.below N0.out.1 Y6.out).c0, (LB.below N0.out.1 Y6.out).c1, (LB.below N0.out.2.1 Y6.out).c0, (LB.below N0.out.2.1 Y6.out).c1⟩ (fun hHeld2 => ?_)
            clear hK K
            refine wpAnyH_take (i := 5) (v := ?_) rfl (by kernel_rfl) (by kernel_rfl) (by kernel_rfl) (fun _ _ _ h => h) (Or.inl ⟨by rfl, ?_⟩) (by assumption) ?_
            rotate_left
            · intro W hSw
              try dsimp only at hSw
              go_simp
              try with_reducible rfl
            refine wpAnyH_take (i := 6) (v := ?_) rfl (by kernel_rfl) (by kernel_rfl) (by kernel_rfl) (fun _ _ _ h => h) (Or.inl ⟨by rfl, ?_⟩) (by assumption) ?_
            rotate_left
            · intro W hSw
              try dsimp only at hSw
              go_simp
              try with_reducible rfl
            refine wpAnyH_take (i := 7) (v := ?_) rfl (by kernel_rfl) (by kernel_rfl) (by kernel_rfl) (fun _ _ _ h => h) (Or.inl ⟨by rfl, ?_⟩) (by assumption) ?_
            rotate_left
            · intro W hSw
              try dsimp only at hSw
              go_simp
              try with_reducible rfl
            refine wpAnyH_take (i := 8) (v := ?_) rfl (by kernel_rfl) (by kernel_rfl) (by kernel_rfl) (fun _ _ _ h => h) (Or.inl ⟨by rfl, ?_⟩) (by assumption) ?_
            rotate_left
            · intro W hSw
              try dsimp only at hSw
              go_simp
              try with_reducible rfl
            refine wpAnyH_ready (rs := [9]) (by kernel_rfl) (by simp) ?_
            refine AllReadyH.cons rfl (fun K hK => ?_) AllReadyH.nil
            go_simp
            refine hK.out _ _ ⟨(LB.below N0.out.1 (Below.tr Y6.out (below1 _ _))).c0, (LB.below N0.out.1 (Below.tr Y6.out (below1 _ _))).c1, (LB.below N0.out.2.1 (Below.tr Y6.out (below1 _ _))).c0, (LB.below N0.out.2.1 (Below.tr Y6.out (below1 _ _))).c1⟩ (fun hHeld2 => ?_)
            clear hK K
            refine wpAnyH_ready (rs := [11]) (by kernel_rfl) (by simp) ?_
            refine AllReadyH.cons rfl (fun K hK => ?_) AllReadyH.nil
            go_simp
            refine hK.out _ _ ⟨(LB.below N0.out.1 (Below.tr Y6.out (below1 _ _))).c0, (LB.below N0.out.1 (Below.tr Y6.out (below1 _ _))).c1, (LB.below N0.out.2.1 (Below.tr Y6.out (below1 _ _))).c0, (LB.below N0.out.2.1 (Below.tr Y6.out (below1 _ _))).c1⟩ (fun hHeld2 => ?_)
            clear hK K
            refine wpAnyH_ready (rs := [12]) (by kernel_rfl) (by simp) ?_
            refine AllReadyH.cons rfl (fun K hK => ?_) AllReadyH.nil
            go_simp
            refine hK.out _ _ ⟨(LB.below N0.out.1 (Below.tr (belowS2 Y6.out (by omega)) (below1 _ _))).c0, (LB.below N0.out.1 (Below.tr (belowS2 Y6.out (by omega)) (below1 _ _))).c1, (LB.below N0.out.2.1 (Below.tr (belowS2 Y6.out (by omega)) (below1 _ _))).c0, (LB.below N0.out.2.1 (Below.tr (belowS2 Y6.out (by omega)) (below1 _ _))).c1⟩ (fun hHeld2 => ?_)
            clear hK K
            refine wpAnyH_ready (rs := [13]) (by kernel_rfl) (by simp) ?_
            refine AllReadyH.cons rfl (fun K hK => ?_) AllReadyH.nil
            go_simp
            refine hK.out _ _ ⟨(LB.below N0.out.1 (Below.tr (belowS2 Y6.out (by omega)) (below1 _ _))).c0, (LB.below N0.out.1 (Below.tr (belowS2 Y6.out (by omega)) (below1 _ _))).c1, (LB.below N0.out.2.1 (Below.tr (belowS2 Y6.out (by omega)) (below1 _ _))).c0, (LB.below N0.out.2.1 (Below.tr (belowS2 Y6.out (by omega)) (below1 _ _))).c1⟩ (fun hHeld2 => ?_)
            clear hK K
            refine wpAnyH_done (by kernel_rfl) ?_ _
            go_wp2_with fail
            go_meet
            exact ⟨_, _, rfl, rfl, rfl, (SB.newAt (by first | rfl | simp)), (SB.below (SB.set2 Y6_z.out) (below1 _ _)), by omega, by omega, by omega, (Below.tr (belowS2 Y6.out (by omega)) (below1 _ _))⟩
          · skip
            go_simp
            refine hK.out _ _ ⟨(LB.below N0.out.1 (Below.tr (Below.tr Y2.out (below1 _ _)) (below1 _ _))).c0, (LB.below N0.out.1 (Below.tr (Below.tr Y2.out (below1 _ _)) (below1 _ _))).c1, (LB.below N0.out.2.1 (Below.tr (Below.tr Y2.out (below1 _ _)) (below1 _ _))).c0, (LB.below N0.out.2.1 (Below.tr (Below.tr Y2.out (below1 _ _)) (below1 _ _))).c1⟩ (fun hHeld2 => ?_)
            clear hK K
            refine wpAnyH_ready (rs := [4]) (by kernel_rfl) (by simp) ?_
            refine AllReadyH.cons rfl (fun K hK => ?_) AllReadyH.nil
            go_simp
            refine (splitM_any _ _ _ _ _).mono ?_
            rw [HQ.out]
            rintro e y7 ⟨rfl, hb⟩
            have Y7 := Lib.hid (Below.tr (Below.tr (Below.tr Y2.out (below1 _ _)) (below1 _ _)) hb)
            have Y7z := Y7.out.size
            have Y7_z := Lib.hid (SB.below (SB.below (SB.newAt (by first | rfl | simp)) (below1 _ _)) hb)
            have Y7_zx := Y7_z.out.c0
            have Y7_zy := Y7_z.out.c1
            have Y7_zf := Y7_z.out.f 0
            have Y7_zh := Y7_z.out.f 1
            have Y7_zl := Y7_z.out.lt
            have Y7_w := Lib.hid (SB.below (SB.newAt1 (by first | rfl | simp)) hb)
            have Y7_wx := Y7_w.out.c0
            have Y7_wy := Y7_w.out.c1
            have Y7_wf := Y7_w.out.f 0
            have Y7_wh := Y7_w.out.f 1
            have Y7_wl := Y7_w.out.lt
            have Y7ne01 : y2.heap.size ≠ y2.heap.size + 1 := by omega
            have Y7ne10 : y2.heap.size + 1 ≠ y2.heap.size := by omega
            clear hb
            refine hK.out _ _ ⟨(LB.below N0.out.1 Y7.out).c0, (LB.below N0.out.1 Y7.out).c1, (LB.below N0.out.2.1 Y7.out).c0, (LB.below N0.out.2.1 Y7.out).c1⟩ (fun hHeld2 => ?_)
            clear hK K
            refine wpAnyH_take (i := 5) (v := ?_) rfl (by kernel_rfl) (by kernel_rfl) (by kernel_rfl) (fun _ _ _ h => h) (Or.inl ⟨by rfl, ?_⟩) (by assumption) ?_
            rotate_left
            · intro W hSw
              try dsimp only at hSw
              go_simp
              try with_reducible rfl
            refine wpAnyH_take (i := 6) (v := ?_) rfl (by kernel_rfl) (by kernel_rfl) (by kernel_rfl) (fun _ _ _ h => h) (Or.inl ⟨by rfl, ?_⟩) (by assumption) ?_
            rotate_left
            · intro W hSw
              try dsimp only at hSw
              go_simp
              try with_reducible rfl
            refine wpAnyH_take (i := 7) (v := ?_) rfl (by kernel_rfl) (by kernel_rfl) (by kernel_rfl) (fun _ _ _ h => h) (Or.inl ⟨by rfl, ?_⟩) (by assumption) ?_
            rotate_left
            · intro W hSw
              try dsimp only at hSw
              go_simp
              try with_reducible rfl
            refine wpAnyH_take (i := 8) (v := ?_) rfl (by kernel_rfl) (by kernel_rfl) (by kernel_rfl) (fun _ _ _ h => h) (Or.inl ⟨by rfl, ?_⟩) (by assumption) ?_
            rotate_left
            · intro W hSw
              try dsimp only at hSw
              go_simp
              try with_reducible rfl
            refine wpAnyH_ready (rs := [11]) (by kernel_rfl) (by simp) ?_
            refine AllReadyH.cons rfl (fun K hK => ?_) AllReadyH.nil
            go_simp
            refine hK.out _ _ ⟨(LB.below N0.out.1 (belowS2 Y7.out (by omega))).c0, (LB.below N0.out.1 (belowS2 Y7.out (by omega))).c1, (LB.below N0.out.2.1 (belowS2 Y7.out (by omega))).c0, (LB.below N0.out.2.1 (belowS2 Y7.out (by omega))).c1⟩ (fun hHeld2 => ?_)
            clear hK K
            refine wpAnyH_ready (rs := [12]) (by kernel_rfl) (by simp) ?_
            refine AllReadyH.cons rfl (fun K hK => ?_) AllReadyH.nil
            go_simp
            refine hK.out _ _ ⟨(LB.below N0.out.1 (belowS2 (belowS2 Y7.out (by omega)) (by omega))).c0, (LB.below N0.out.1 (belowS2 (belowS2 Y7.out (by omega)) (by omega))).c1, (LB.below N0.out.2.1 (belowS2 (belowS2 Y7.out (by omega)) (by omega))).c0, (LB.below N0.out.2.1 (belowS2 (belowS2 Y7.out (by omega)) (by omega))).c1⟩ (fun hHeld2 => ?_)
            clear hK K
            refine wpAnyH_ready (rs := [13]) (by kernel_rfl) (by simp) ?_
            refine AllReadyH.cons rfl (fun K hK => ?_) AllReadyH.nil
            go_simp
            refine hK.out _ _ ⟨(LB.below N0.out.1 (belowS2 (belowS2 Y7.out (by omega)) (by omega))).c0, (LB.below N0.out.1 (belowS2 (belowS2 Y7.out (by omega)) (by omega))).c1, (LB.below N0.out.2.1 (belowS2 (belowS2 Y7.out (by omega)) (by omega))).c0, (LB.below N0.out.2.1 (belowS2 (belowS2 Y7.out (by omega)) (by omega))).c1⟩ (fun hHeld2 => ?_)
            clear hK K
            refine wpAnyH_done (by kernel_rfl) ?_ _
            go_wp2_with fail
            go_meet
            exact ⟨_, _, rfl, rfl, rfl, (SB.far2 (SB.set2 Y7_w.out) (by omega)), (SB.set2 (SB.far2 Y7_z.out (by omega))), by omega, by omega, by omega, (belowS2 (belowS2 Y7.out (by omega)) (by omega))⟩
      · skip
        go_simp
        refine hK.out _ _ ⟨(LB.below N0.out.1 (Below.tr Y1.out (below1 _ _))).c0, (LB.below N0.out.1 (Below.tr Y1.out (below1 _ _))).c1, (LB.below N0.out.2.1 (Below.tr Y1.out (below1 _ _))).c0, (LB.below N0.out.2.1 (Below.tr Y1.out (below1 _ _))).c1⟩ (fun hHeld2 => ?_)
        clear hK K
        refine wpAnyH_ready (rs := [3, 10]) (by kernel_rfl) (by simp) ?_
        refine AllReadyH.cons rfl (fun K hK => ?_) (AllReadyH.cons rfl (fun K hK => ?_) AllReadyH.nil)
        · skip
          go_simp
          refine (toSt_any _ _ _).mono ?_
          rintro e y8 ⟨rfl, hb⟩
          have Y8 := Lib.hid (Below.tr (Below.tr Y1.out (below1 _ _)) hb)
          have Y8z := Y8.out.size
          have Y8_w := Lib.hid (SB.below (SB.newAt (by first | rfl | simp)) hb)
          have Y8_wx := Y8_w.out.c0
          have Y8_wy := Y8_w.out.c1
          have Y8_wf := Y8_w.out.f 0
          have Y8_wh := Y8_w.out.f 1
          have Y8_wl := Y8_w.out.lt
          clear hb
          refine hK.out _ _ ⟨(LB.below N0.out.1 Y8.out).c0, (LB.below N0.out.1 Y8.out).c1, (LB.below N0.out.2.1 Y8.out).c0, (LB.below N0.out.2.1 Y8.out).c1⟩ (fun hHeld2 => ?_)
          clear hK K
          refine wpAnyH_ready (rs := [4, 10]) (by kernel_rfl) (by simp) ?_
          refine AllReadyH.cons rfl (fun K hK => ?_) (AllReadyH.cons rfl (fun K hK => ?_) AllReadyH.nil)
          · skip
            go_simp
            refine (splitM_any _ _ _ _ _).mono ?_
            rw [HQ.out]
            rintro e y9 ⟨rfl, hb⟩
            have Y9 := Lib.hid (Below.tr Y8.out hb)
            have Y9z := Y9.out.size
            have Y9_w := Lib.hid (SB.below Y8_w.out hb)
            have Y9_wx := Y9_w.out.c0
            have Y9_wy := Y9_w.out.c1
            have Y9_wf := Y9_w.out.f 0
            have Y9_wh := Y9_w.out.f 1
            have Y9_wl := Y9_w.out.lt
            clear hb
            refine hK.out _ _ ⟨(LB.below N0.out.1 Y9.out).c0, (LB.below N0.out.1 Y9.out).c1, (LB.below N0.out.2.1 Y9.out).c0, (LB.below N0.out.2.1 Y9.out).c1⟩ (fun hHeld2 => ?_)
            clear hK K
            refine wpAnyH_take (i := 5) (v := ?_) rfl (by kernel_rfl) (by kernel_rfl) (by kernel_rfl) (fun _ _ _ h => h) (Or.inl ⟨by rfl, ?_⟩) (by assumption) ?_
            rotate_left
            · intro W hSw
              try dsimp only at hSw
              go_simp
              try with_reducible rfl
            refine wpAnyH_take (i := 6) (v := ?_) rfl (by kernel_rfl) (by kernel_rfl) (by kernel_rfl) (fun _ _ _ h => h) (Or.inl ⟨by rfl, ?_⟩) (by assumption) ?_
            rotate_left
            · intro W hSw
              try dsimp only at hSw
              go_simp
              try with_reducible rfl
            refine wpAnyH_take (i := 7) (v := ?_) rfl (by kernel_rfl) (by kernel_rfl) (by kernel_rfl) (fun _ _ _ h => h) (Or.inl ⟨by rfl, ?_⟩) (by assumption) ?_
            rotate_left
            · intro W hSw
              try dsimp only at hSw
              go_simp
              try with_reducible rfl
            refine wpAnyH_take (i := 8) (v := ?_) rfl (by kernel_rfl) (by kernel_rfl) (by kernel_rfl) (fun _ _ _ h => h) (Or.inl ⟨by rfl, ?_⟩) (by assumption) ?_
            rotate_left
            · intro W hSw
              try dsimp only at hSw
              go_simp
              try with_reducible rfl
            refine wpAnyH_ready (rs := [10]) (by kernel_rfl) (by simp) ?_
            refine AllReadyH.cons rfl (fun K hK => ?_) AllReadyH.nil
            go_simp
            refine hK.out _ _ ⟨(LB.below N0.out.1 (Below.tr Y9.out (below1 _ _))).c0, (LB.below N0.out.1 (Below.tr Y9.out (below1 _ _))).c1, (LB.below N0.out.2.1 (Below.tr Y9.out (below1 _ _))).c0, (LB.below N0.out.2.1 (Below.tr Y9.out (below1 _ _))).c1⟩ (fun hHeld2 => ?_)
            clear hK K
            refine wpAnyH_ready (rs := [11]) (by kernel_rfl) (by simp) ?_
            refine AllReadyH.cons rfl (fun K hK => ?_) AllReadyH.nil
            go_simp
            refine hK.out _ _ ⟨(LB.below N0.out.1 (Below.tr (belowS2 Y9.out (by omega)) (below1 _ _))).c0, (LB.below N0.out.1 (Below.tr (belowS2 Y9.out (by omega)) (below1 _ _))).c1, (LB.below N0.out.2.1 (Below.tr (belowS2 Y9.out (by omega)) (below1 _ _))).c0, (LB.below N0.out.2.1 (Below.tr (belowS2 Y9.out (by omega)) (below1 _ _))).c1⟩ (fun hHeld2 => ?_)
            clear hK K
            refine wpAnyH_ready (rs := [12]) (by kernel_rfl) (by simp) ?_
            refine AllReadyH.cons rfl (fun K hK => ?_) AllReadyH.nil
            go_simp
            refine hK.out _ _ ⟨(LB.below N0.out.1 (Below.tr (belowS2 Y9.out (by omega)) (below1 _ _))).c0, (LB.below N0.out.1 (Below.tr (belowS2 Y9.out (by omega)) (below1 _ _))).c1, (LB.below N0.out.2.1 (Below.tr (belowS2 Y9.out (by omega)) (below1 _ _))).c0, (LB.below N0.out.2.1 (Below.tr (belowS2 Y9.out (by omega)) (below1 _ _))).c1⟩ (fun hHeld2 => ?_)
            clear hK K
            refine wpAnyH_ready (rs := [13]) (by kernel_rfl) (by simp) ?_
            refine AllReadyH.cons rfl (fun K hK => ?_) AllReadyH.nil
            go_simp
            refine hK.out _ _ ⟨(LB.below N0.out.1 (Below.tr (belowS2 Y9.out (by omega)) (below1 _ _))).c0, (LB.below N0.out.1 (Below.tr (belowS2 Y9.out (by omega)) (below1 _ _))).c1, (LB.below N0.out.2.1 (Below.tr (belowS2 Y9.out (by omega)) (below1 _ _))).c0, (LB.below N0.out.2.1 (Below.tr (belowS2 Y9.out (by omega)) (below1 _ _))).c1⟩ (fun hHeld2 => ?_)
            clear hK K
            refine wpAnyH_done (by kernel_rfl) ?_ _
            go_wp2_with fail
            go_meet
            exact ⟨_, _, rfl, rfl, rfl, (SB.below (SB.set2 Y9_w.out) (below1 _ _)), (SB.newAt (by first | rfl | simp)), by omega, by omega, by omega, (Below.tr (belowS2 Y9.out (by omega)) (below1 _ _))⟩
          · skip
            go_simp
            refine hK.out _ _ ⟨(LB.below N0.out.1 (Below.tr Y8.out (below1 _ _))).c0, (LB.below N0.out.1 (Below.tr Y8.out (below1 _ _))).c1, (LB.below N0.out.2.1 (Below.tr Y8.out (below1 _ _))).c0, (LB.below N0.out.2.1 (Below.tr Y8.out (below1 _ _))).c1⟩ (fun hHeld2 => ?_)
            clear hK K
            refine wpAnyH_ready (rs := [4]) (by kernel_rfl) (by simp) ?_
            refine AllReadyH.cons rfl (fun K hK => ?_) AllReadyH.nil
            go_simp
            refine (splitM_any _ _ _ _ _).mono ?_
            rw [HQ.out]
            rintro e y10 ⟨rfl, hb⟩
            have Y10 := Lib.hid (Below.tr (Below.tr Y8.out (below1 _ _)) hb)
            have Y10z := Y10.out.size
            have Y10_w := Lib.hid (SB.below (SB.below Y8_w.out (below1 _ _)) hb)
            have Y10_wx := Y10_w.out.c0
            have Y10_wy := Y10_w.out.c1
            have Y10_wf := Y10_w.out.f 0
            have Y10_wh := Y10_w.out.f 1
            have Y10_wl := Y10_w.out.lt
            have Y10_z := Lib.hid (SB.below (SB.newAt (by first | rfl | simp)) hb)
            have Y10_zx := Y10_z.out.c0
            have Y10_zy := Y10_z.out.c1
            have Y10_zf := Y10_z.out.f 0
            have Y10_zh := Y10_z.out.f 1
            have Y10_zl := Y10_z.out.lt
            have Y10ne01 : y1.heap.size ≠ y8.heap.size := by omega
            have Y10ne10 : y8.heap.size ≠ y1.heap.size := by omega
            clear hb
            refine hK.out _ _ ⟨(LB.below N0.out.1 Y10.out).c0, (LB.below N0.out.1 Y10.out).c1, (LB.below N0.out.2.1 Y10.out).c0, (LB.below N0.out.2.1 Y10.out).c1⟩ (fun hHeld2 => ?_)
            clear hK K
            refine wpAnyH_take (i := 5) (v := ?_) rfl (by kernel_rfl) (by kernel_rfl) (by kernel_rfl) (fun _ _ _ h => h) (Or.inl ⟨by rfl, ?_⟩) (by assumption) ?_
            rotate_left
            · intro W hSw
              try dsimp only at hSw
              go_simp
              try with_reducible rfl
            refine wpAnyH_take (i := 6) (v := ?_) rfl (by kernel_rfl) (by kernel_rfl) (by kernel_rfl) (fun _ _ _ h => h) (Or.inl ⟨by rfl, ?_⟩) (by assumption) ?_
            rotate_left
            · intro W hSw
              try dsimp only at hSw
              go_simp
              try with_reducible rfl
            refine wpAnyH_take (i := 7) (v := ?_) rfl (by kernel_rfl) (by kernel_rfl) (by kernel_rfl) (fun _ _ _ h => h) (Or.inl ⟨by rfl, ?_⟩) (by assumption) ?_
            rotate_left
            · intro W hSw
              try dsimp only at hSw
              go_simp
              try with_reducible rfl
            refine wpAnyH_take (i := 8) (v := ?_) rfl (by kernel_rfl) (by kernel_rfl) (by kernel_rfl) (fun _ _ _ h => h) (Or.inl ⟨by rfl, ?_⟩) (by assumption) ?_
            rotate_left
            · intro W hSw
              try dsimp only at hSw
              go_simp
              try with_reducible rfl
            refine wpAnyH_ready (rs := [11]) (by kernel_rfl) (by simp) ?_
            refine AllReadyH.cons rfl (fun K hK => ?_) AllReadyH.nil
            go_simp
            refine hK.out _ _ ⟨(LB.below N0.out.1 (belowS2 Y10.out (by omega))).c0, (LB.below N0.out.1 (belowS2 Y10.out (by omega))).c1, (LB.below N0.out.2.1 (belowS2 Y10.out (by omega))).c0, (LB.below N0.out.2.1 (belowS2 Y10.out (by omega))).c1⟩ (fun hHeld2 => ?_)
            clear hK K
            refine wpAnyH_ready (rs := [12]) (by kernel_rfl) (by simp) ?_
            refine AllReadyH.cons rfl (fun K hK => ?_) AllReadyH.nil
            go_simp
            refine hK.out _ _ ⟨(LB.below N0.out.1 (belowS2 (belowS2 Y10.out (by omega)) (by omega))).c0, (LB.below N0.out.1 (belowS2 (belowS2 Y10.out (by omega)) (by omega))).c1, (LB.below N0.out.2.1 (belowS2 (belowS2 Y10.out (by omega)) (by omega))).c0, (LB.below N0.out.2.1 (belowS2 (belowS2 Y10.out (by omega)) (by omega))).c1⟩ (fun hHeld2 => ?_)
            clear hK K
            refine wpAnyH_ready (rs := [13]) (by kernel_rfl) (by simp) ?_
            refine AllReadyH.cons rfl (fun K hK => ?_) AllReadyH.nil
            go_simp
            refine hK.out _ _ ⟨(LB.below N0.out.1 (belowS2 (belowS2 Y10.out (by omega)) (by omega))).c0, (LB.below N0.out.1 (belowS2 (belowS2 Y10.out (by omega)) (by omega))).c1, (LB.below N0.out.2.1 (belowS2 (belowS2 Y10.out (by omega)) (by omega))).c0, (LB.below N0.out.2.1 (belowS2 (belowS2 Y10.out (by omega)) (by omega))).c1⟩ (fun hHeld2 => ?_)
            clear hK K
            refine wpAnyH_done (by kernel_rfl) ?_ _
            go_wp2_with fail
            go_meet
            exact ⟨_, _, rfl, rfl, rfl, (SB.far2 (SB.set2 Y10_w.out) (by omega)), (SB.set2 (SB.far2 Y10_z.out (by omega))), by omega, by omega, by omega, (belowS2 (belowS2 Y10.out (by omega)) (by omega))⟩
        · skip
          go_simp
          refine hK.out _ _ ⟨(LB.below N0.out.1 (Below.tr (Below.tr Y1.out (below1 _ _)) (below1 _ _))).c0, (LB.below N0.out.1 (Below.tr (Below.tr Y1.out (below1 _ _)) (below1 _ _))).c1, (LB.below N0.out.2.1 (Below.tr (Below.tr Y1.out (below1 _ _)) (below1 _ _))).c0, (LB.below N0.out.2.1 (Below.tr (Below.tr Y1.out (below1 _ _)) (below1 _ _))).c1⟩ (fun hHeld2 => ?_)
          clear hK K
          refine wpAnyH_ready (rs := [3]) (by kernel_rfl) (by simp) ?_
          refine AllReadyH.cons rfl (fun K hK => ?_) AllReadyH.nil
          go_simp
          refine (toSt_any _ _ _).mono ?_
          rintro e y11 ⟨rfl, hb⟩
          have Y11 := Lib.hid (Below.tr (Below.tr (Below.tr Y1.out (below1 _ _)) (below1 _ _)) hb)
          have Y11z := Y11.out.size
          have Y11_w := Lib.hid (SB.below (SB.below (SB.newAt (by first | rfl | simp)) (below1 _ _)) hb)
          have Y11_wx := Y11_w.out.c0
          have Y11_wy := Y11_w.out.c1
          have Y11_wf := Y11_w.out.f 0
          have Y11_wh := Y11_w.out.f 1
          have Y11_wl := Y11_w.out.lt
          have Y11_z := Lib.hid (SB.below (SB.newAt1 (by first | rfl | simp)) hb)
          have Y11_zx := Y11_z.out.c0
          have Y11_zy := Y11_z.out.c1
          have Y11_zf := Y11_z.out.f 0
          have Y11_zh := Y11_z.out.f 1
          have Y11_zl := Y11_z.out.lt
          have Y11ne01 : y1.heap.size ≠ y1.heap.size + 1 := by omega
          have Y11ne10 : y1.heap.size + 1 ≠ y1.heap.size := by omega
          clear hb
          refine hK.out _ _ ⟨(LB.below N0.out.1 Y11.out).c0, (LB.below N0.out.1 Y11.out).c1, (LB.below N0.out.2.1 Y11.out).c0, (LB.below N0.out.2.1 Y11.out).c1⟩ (fun hHeld2 => ?_)
          clear hK K
          refine wpAnyH_ready (rs := [4]) (by kernel_rfl) (by simp) ?_
          refine AllReadyH.cons rfl (fun K hK => ?_) AllReadyH.nil
          go_simp
          refine (splitM_any _ _ _ _ _).mono ?_
          rw [HQ.out]
          rintro e y12 ⟨rfl, hb⟩
          have Y12 := Lib.hid (Below.tr Y11.out hb)
          have Y12z := Y12.out.size
          have Y12_w := Lib.hid (SB.below Y11_w.out hb)
          have Y12_wx := Y12_w.out.c0
          have Y12_wy := Y12_w.out.c1
          have Y12_wf := Y12_w.out.f 0
          have Y12_wh := Y12_w.out.f 1
          have Y12_wl := Y12_w.out.lt
          have Y12_z := Lib.hid (SB.below Y11_z.out hb)
          have Y12_zx := Y12_z.out.c0
          have Y12_zy := Y12_z.out.c1
          have Y12_zf := Y12_z.out.f 0
          have Y12_zh := Y12_z.out.f 1
          have Y12_zl := Y12_z.out.lt
          have Y12ne01 : y1.heap.size ≠ y1.heap.size + 1 := by omega
          have Y12ne10 : y1.heap.size + 1 ≠ y1.heap.size := by omega
          clear hb
          refine hK.out _ _ ⟨(LB.below N0.out.1 Y12.out).c0, (LB.below N0.out.1 Y12.out).c1, (LB.below N0.out.2.1 Y12.out).c0, (LB.below N0.out.2.1 Y12.out).c1⟩ (fun hHeld2 => ?_)
          clear hK K
          refine wpAnyH_take (i := 5) (v := ?_) rfl (by kernel_rfl) (by kernel_rfl) (by kernel_rfl) (fun _ _ _ h => h) (Or.inl ⟨by rfl, ?_⟩) (by assumption) ?_
          rotate_left
          · intro W hSw
            try dsimp only at hSw
            go_simp
            try with_reducible rfl
          refine wpAnyH_take (i := 6) (v := ?_) rfl (by kernel_rfl) (by kernel_rfl) (by kernel_rfl) (fun _ _ _ h => h) (Or.inl ⟨by rfl, ?_⟩) (by assumption) ?_
          rotate_left
          · intro W hSw
            try dsimp only at hSw
            go_simp
            try with_reducible rfl
          refine wpAnyH_take (i := 7) (v := ?_) rfl (by kernel_rfl) (by kernel_rfl) (by kernel_rfl) (fun _ _ _ h => h) (Or.inl ⟨by rfl, ?_⟩) (by assumption) ?_
          rotate_left
          · intro W hSw
            try dsimp only at hSw
            go_simp
            try with_reducible rfl
          refine wpAnyH_take (i := 8) (v := ?_) rfl (by kernel_rfl) (by kernel_rfl) (by kernel_rfl) (fun _ _ _ h => h) (Or.inl ⟨by rfl, ?_⟩) (by assumption) ?_
          rotate_left
          · intro W hSw
            try dsimp only at hSw
            go_simp
            try with_reducible rfl
          refine wpAnyH_ready (rs := [11]) (by kernel_rfl) (by simp) ?_
          refine AllReadyH.cons rfl (fun K hK => ?_) AllReadyH.nil
          go_simp
          refine hK.out _ _ ⟨(LB.below N0.out.1 (belowS2 Y12.out (by omega))).c0, (LB.below N0.out.1 (belowS2 Y12.out (by omega))).c1, (LB.below N0.out.2.1 (belowS2 Y12.out (by omega))).c0, (LB.below N0.out.2.1 (belowS2 Y12.out (by omega))).c1⟩ (fun hHeld2 => ?_)
          clear hK K
          refine wpAnyH_ready (rs := [12]) (by kernel_rfl) (by simp) ?_
          refine AllReadyH.cons rfl (fun K hK => ?_) AllReadyH.nil
          go_simp
          refine hK.out _ _ ⟨(LB.below N0.out.1 (belowS2 (belowS2 Y12.out (by omega)) (by omega))).c0, (LB.below N0.out.1 (belowS2 (belowS2 Y12.out (by omega)) (by omega))).c1, (LB.below N0.out.2.1 (belowS2 (belowS2 Y12.out (by omega)) (by omega))).c0, (LB.below N0.out.2.1 (belowS2 (belowS2 Y12.out (by omega)) (by omega))).c1⟩ (fun hHeld2 => ?_)
          clear hK K
          refine wpAnyH_ready (rs := [13]) (by kernel_rfl) (by simp) ?_
          refine AllReadyH.cons rfl (fun K hK => ?_) AllReadyH.nil
          go_simp
          refine hK.out _ _ ⟨(LB.below N0.out.1 (belowS2 (belowS2 Y12.out (by omega)) (by omega))).c0, (LB.below N0.out.1 (belowS2 (belowS2 Y12.out (by omega)) (by omega))).c1, (LB.below N0.out.2.1 (belowS2 (belowS2 Y12.out (by omega)) (by omega))).c0, (LB.below N0.out.2.1 (belowS2 (belowS2 Y12.out (by omega)) (by omega))).c1⟩ (fun hHeld2 => ?_)
          clear hK K
          refine wpAnyH_done (by kernel_rfl) ?_ _
          go_wp2_with fail
          go_meet
          exact ⟨_, _, rfl, rfl, rfl, (SB.far2 (SB.set2 Y12_w.out) (by omega)), (SB.set2 (SB.far2 Y12_z.out (by omega))), by omega, by omega, by omega, (belowS2 (belowS2 Y12.out (by omega)) (by omega))⟩
      · skip
        go_simp
        refine hK.out _ _ ⟨(LB.below N0.out.1 (Below.tr Y1.out (below1 _ _))).c0, (LB.below N0.out.1 (Below.tr Y1.out (below1 _ _))).c1, (LB.below N0.out.2.1 (Below.tr Y1.out (below1 _ _))).c0, (LB.below N0.out.2.1 (Below.tr Y1.out (below1 _ _))).c1⟩ (fun hHeld2 => ?_)
        clear hK K
        refine wpAnyH_ready (rs := [3, 9]) (by kernel_rfl) (by simp) ?_
        refine AllReadyH.cons rfl (fun K hK => ?_) (AllReadyH.cons rfl (fun K hK => ?_) AllReadyH.nil)
        · skip
          go_simp
          refine (toSt_any _ _ _).mono ?_
          rintro e y13 ⟨rfl, hb⟩
          have Y13 := Lib.hid (Below.tr (Below.tr Y1.out (below1 _ _)) hb)
          have Y13z := Y13.out.size
          have Y13_z := Lib.hid (SB.below (SB.newAt (by first | rfl | simp)) hb)
          have Y13_zx := Y13_z.out.c0
          have Y13_zy := Y13_z.out.c1
          have Y13_zf := Y13_z.out.f 0
          have Y13_zh := Y13_z.out.f 1
          have Y13_zl := Y13_z.out.lt
          clear hb
          refine hK.out _ _ ⟨(LB.below N0.out.1 Y13.out).c0, (LB.below N0.out.1 Y13.out).c1, (LB.below N0.out.2.1 Y13.out).c0, (LB.below N0.out.2.1 Y13.out).c1⟩ (fun hHeld2 => ?_)
          clear hK K
          refine wpAnyH_ready (rs := [4, 9]) (by kernel_rfl) (by simp) ?_
          refine AllReadyH.cons rfl (fun K hK => ?_) (AllReadyH.cons rfl (fun K hK => ?_) AllReadyH.nil)
          · skip
            go_simp
            refine (splitM_any _ _ _ _ _).mono ?_
            rw [HQ.out]
            rintro e y14 ⟨rfl, hb⟩
            have Y14 := Lib.hid (Below.tr Y13.out hb)
            have Y14z := Y14.out.size
            have Y14_z := Lib.hid (SB.below Y13_z.out hb)
            have Y14_zx := Y14_z.out.c0
            have Y14_zy := Y14_z.out.c1
            have Y14_zf := Y14_z.out.f 0
            have Y14_zh := Y14_z.out.f 1
            have Y14_zl := Y14_z.out.lt
            clear hb
            refine hK.out _ _ ⟨(LB.below N0.out.1 Y14.out).c0, (LB.below N0.out.1 Y14.out).c1, (LB.below N0.out.2.1 Y14.out).c0, (LB.below N0.out.2.1 Y14.out).c1⟩ (fun hHeld2 => ?_)
            clear hK K
            refine wpAnyH_take (i := 5) (v := ?_) rfl (by kernel_rfl) (by kernel_rfl) (by kernel_rfl) (fun _ _ _ h => h) (Or.inl ⟨by rfl, ?_⟩) (by assumption) ?_
            rotate_left
            · intro W hSw
              try dsimp only at hSw
              go_simp
              try with_reducible rfl
            refine wpAnyH_take (i := 6) (v := ?_) rfl (by kernel_rfl) (by kernel_rfl) (by kernel_rfl) (fun _ _ _ h => h) (Or.inl ⟨by rfl, ?_⟩) (by assumption) ?_
            rotate_left
            · intro W hSw
              try dsimp only at hSw
              go_simp
              try with_reducible rfl
            refine wpAnyH_take (i := 7) (v := ?_) rfl (by kernel_rfl) (by kernel_rfl) (by kernel_rfl) (fun _ _ _ h => h) (Or.inl ⟨by rfl, ?_⟩) (by assumption) ?_
            rotate_left
            · intro W hSw
              try dsimp only at hSw
              go_simp
              try with_reducible rfl
            refine wpAnyH_take (i := 8) (v := ?_) rfl (by kernel_rfl) (by kernel_rfl) (by kernel_rfl) (fun _ _ _ h => h) (Or.inl ⟨by rfl, ?_⟩) (by assumption) ?_
            rotate_left
            · intro W hSw
              try dsimp only at hSw
              go_simp
              try with_reducible rfl
            refine wpAnyH_ready (rs := [9]) (by kernel_rfl) (by simp) ?_
            refine AllReadyH.cons rfl (fun K hK => ?_) AllReadyH.nil
            go_simp
            refine hK.out _ _ ⟨(LB.below N0.out.1 (Below.tr Y14.out (below1 _ _))).c0, (LB.below N0.out.1 (Below.tr Y14.out (below1 _ _))).c1, (LB.below N0.out.2.1 (Below.tr Y14.out (below1 _ _))).c0, (LB.below N0.out.2.1 (Below.tr Y14.out (below1 _ _))).c1⟩ (fun hHeld2 => ?_)
            clear hK K
            refine wpAnyH_ready (rs := [11]) (by kernel_rfl) (by simp) ?_
            refine AllReadyH.cons rfl (fun K hK => ?_) AllReadyH.nil
            go_simp
            refine hK.out _ _ ⟨(LB.below N0.out.1 (Below.tr Y14.out (below1 _ _))).c0, (LB.below N0.out.1 (Below.tr Y14.out (below1 _ _))).c1, (LB.below N0.out.2.1 (Below.tr Y14.out (below1 _ _))).c0, (LB.below N0.out.2.1 (Below.tr Y14.out (below1 _ _))).c1⟩ (fun hHeld2 => ?_)
            clear hK K
            refine wpAnyH_ready (rs := [12]) (by kernel_rfl) (by simp) ?_
            refine AllReadyH.cons rfl (fun K hK => ?_) AllReadyH.nil
            go_simp
            refine hK.out _ _ ⟨(LB.below N0.out.1 (Below.tr (belowS2 Y14.out (by omega)) (below1 _ _))).c0, (LB.below N0.out.1 (Below.tr (belowS2 Y14.out (by omega)) (below1 _ _))).c1, (LB.below N0.out.2.1 (Below.tr (belowS2 Y14.out (by omega)) (below1 _ _))).c0, (LB.below N0.out.2.1 (Below.tr (belowS2 Y14.out (by omega)) (below1 _ _))).c1⟩ (fun hHeld2 => ?_)
            clear hK K
            refine wpAnyH_ready (rs := [13]) (by kernel_rfl) (by simp) ?_
            refine AllReadyH.cons rfl (fun K hK => ?_) AllReadyH.nil
            go_simp
            refine hK.out _ _ ⟨(LB.below N0.out.1 (Below.tr (belowS2 Y14.out (by omega)) (below1 _ _))).c0, (LB.below N0.out.1 (Below.tr (belowS2 Y14.out (by omega)) (below1 _ _))).c1, (LB.below N0.out.2.1 (Below.tr (belowS2 Y14.out (by omega)) (below1 _ _))).c0, (LB.below N0.out.2.1 (Below.tr (belowS2 Y14.out (by omega)) (below1 _ _))).c1⟩ (fun hHeld2 => ?_)
            clear hK K
            refine wpAnyH_done (by kernel_rfl) ?_ _
            go_wp2_with fail
            go_meet
            exact ⟨_, _, rfl, rfl, rfl, (SB.newAt (by first | rfl | simp)), (SB.below (SB.set2 Y14_z.out) (below1 _ _)), by omega, by omega, by omega, (Below.tr (belowS2 Y14.out (by omega)) (below1 _ _))⟩
          · skip
            go_simp
            refine hK.out _ _ ⟨(LB.below N0.out.1 (Below.tr Y13.out (below1 _ _))).c0, (LB.below N0.out.1 (Below.tr Y13.out (below1 _ _))).c1, (LB.below N0.out.2.1 (Below.tr Y13.out (below1 _ _))).c0, (LB.below N0.out.2.1 (Below.tr Y13.out (below1 _ _))).c1⟩ (fun hHeld2 => ?_)
            clear hK K
            refine wpAnyH_ready (rs := [4]) (by kernel_rfl) (by simp) ?_
            refine AllReadyH.cons rfl (fun K hK => ?_) AllReadyH.nil
            go_simp
            refine (splitM_any _ _ _ _ _).mono ?_
            rw [HQ.out]
            rintro e y15 ⟨rfl, hb⟩
            have Y15 := Lib.hid (Below.tr (Below.tr Y13.out (below1 _ _)) hb)
            have Y15z := Y15.out.size
            have Y15_z := Lib.hid (SB.below (SB.below Y13_z.out (below1 _ _)) hb)
            have Y15_zx := Y15_z.out.c0
            have Y15_zy := Y15_z.out.c1
            have Y15_zf := Y15_z.out.f 0
            have Y15_zh := Y15_z.out.f 1
            have Y15_zl := Y15_z.out.lt
            have Y15_w := Lib.hid (SB.below (SB.newAt (by first | rfl | simp)) hb)
            have Y15_wx := Y15_w.out.c0
            have Y15_wy := Y15_w.out.c1
            have Y15_wf := Y15_w.out.f 0
            have Y15_wh := Y15_w.out.f 1
            have Y15_wl := Y15_w.out.lt
            have Y15ne01 : y1.heap.size ≠ y13.heap.size := by omega
            have Y15ne10 : y13.heap.size ≠ y1.heap.size := by omega
            clear hb
            refine hK.out _ _ ⟨(LB.below N0.out.1 Y15.out).c0, (LB.below N0.out.1 Y15.out).c1, (LB.below N0.out.2.1 Y15.out).c0, (LB.below N0.out.2.1 Y15.out).c1⟩ (fun hHeld2 => ?_)
            clear hK K
            refine wpAnyH_take (i := 5) (v := ?_) rfl (by kernel_rfl) (by kernel_rfl) (by kernel_rfl) (fun _ _ _ h => h) (Or.inl ⟨by rfl, ?_⟩) (by assumption) ?_
            rotate_left
            · intro W hSw
              try dsimp only at hSw
              go_simp
              try with_reducible rfl
            refine wpAnyH_take (i := 6) (v := ?_) rfl (by kernel_rfl) (by kernel_rfl) (by kernel_rfl) (fun _ _ _ h => h) (Or.inl ⟨by rfl, ?_⟩) (by assumption) ?_
            rotate_left
            · intro W hSw
              try dsimp only at hSw
              go_simp
              try with_reducible rfl
            refine wpAnyH_take (i := 7) (v := ?_) rfl (by kernel_rfl) (by kernel_rfl) (by kernel_rfl) (fun _ _ _ h => h) (Or.inl ⟨by rfl, ?_⟩) (by assumption) ?_
            rotate_left
            · intro W hSw
              try dsimp only at hSw
              go_simp
              try with_reducible rfl
            refine wpAnyH_take (i := 8) (v := ?_) rfl (by kernel_rfl) (by kernel_rfl) (by kernel_rfl) (fun _ _ _ h => h) (Or.inl ⟨by rfl, ?_⟩) (by assumption) ?_
            rotate_left
            · intro W hSw
              try dsimp only at hSw
              go_simp
              try with_reducible rfl
            refine wpAnyH_ready (rs := [11]) (by kernel_rfl) (by simp) ?_
            refine AllReadyH.cons rfl (fun K hK => ?_) AllReadyH.nil
            go_simp
            refine hK.out _ _ ⟨(LB.below N0.out.1 (belowS2 Y15.out (by omega))).c0, (LB.below N0.out.1 (belowS2 Y15.out (by omega))).c1, (LB.below N0.out.2.1 (belowS2 Y15.out (by omega))).c0, (LB.below N0.out.2.1 (belowS2 Y15.out (by omega))).c1⟩ (fun hHeld2 => ?_)
            clear hK K
            refine wpAnyH_ready (rs := [12]) (by kernel_rfl) (by simp) ?_
            refine AllReadyH.cons rfl (fun K hK => ?_) AllReadyH.nil
            go_simp
            refine hK.out _ _ ⟨(LB.below N0.out.1 (belowS2 (belowS2 Y15.out (by omega)) (by omega))).c0, (LB.below N0.out.1 (belowS2 (belowS2 Y15.out (by omega)) (by omega))).c1, (LB.below N0.out.2.1 (belowS2 (belowS2 Y15.out (by omega)) (by omega))).c0, (LB.below N0.out.2.1 (belowS2 (belowS2 Y15.out (by omega)) (by omega))).c1⟩ (fun hHeld2 => ?_)
            clear hK K
            refine wpAnyH_ready (rs := [13]) (by kernel_rfl) (by simp) ?_
            refine AllReadyH.cons rfl (fun K hK => ?_) AllReadyH.nil
            go_simp
            refine hK.out _ _ ⟨(LB.below N0.out.1 (belowS2 (belowS2 Y15.out (by omega)) (by omega))).c0, (LB.below N0.out.1 (belowS2 (belowS2 Y15.out (by omega)) (by omega))).c1, (LB.below N0.out.2.1 (belowS2 (belowS2 Y15.out (by omega)) (by omega))).c0, (LB.below N0.out.2.1 (belowS2 (belowS2 Y15.out (by omega)) (by omega))).c1⟩ (fun hHeld2 => ?_)
            clear hK K
            refine wpAnyH_done (by kernel_rfl) ?_ _
            go_wp2_with fail
            go_meet
            exact ⟨_, _, rfl, rfl, rfl, (SB.far2 (SB.set2 Y15_w.out) (by omega)), (SB.set2 (SB.far2 Y15_z.out (by omega))), by omega, by omega, by omega, (belowS2 (belowS2 Y15.out (by omega)) (by omega))⟩
        · skip
          go_simp
          refine hK.out _ _ ⟨(LB.below N0.out.1 (Below.tr (Below.tr Y1.out (below1 _ _)) (below1 _ _))).c0, (LB.below N0.out.1 (Below.tr (Below.tr Y1.out (below1 _ _)) (below1 _ _))).c1, (LB.below N0.out.2.1 (Below.tr (Below.tr Y1.out (below1 _ _)) (below1 _ _))).c0, (LB.below N0.out.2.1 (Below.tr (Below.tr Y1.out (below1 _ _)) (below1 _ _))).c1⟩ (fun hHeld2 => ?_)
          clear hK K
          refine wpAnyH_ready (rs := [3]) (by kernel_rfl) (by simp) ?_
          refine AllReadyH.cons rfl (fun K hK => ?_) AllReadyH.nil
          go_simp
          refine (toSt_any _ _ _).mono ?_
          rintro e y16 ⟨rfl, hb⟩
          have Y16 := Lib.hid (Below.tr (Below.tr (Below.tr Y1.out (below1 _ _)) (below1 _ _)) hb)
          have Y16z := Y16.out.size
          have Y16_z := Lib.hid (SB.below (SB.below (SB.newAt (by first | rfl | simp)) (below1 _ _)) hb)
          have Y16_zx := Y16_z.out.c0
          have Y16_zy := Y16_z.out.c1
          have Y16_zf := Y16_z.out.f 0
          have Y16_zh := Y16_z.out.f 1
          have Y16_zl := Y16_z.out.lt
          have Y16_w := Lib.hid (SB.below (SB.newAt1 (by first | rfl | simp)) hb)
          have Y16_wx := Y16_w.out.c0
          have Y16_wy := Y16_w.out.c1
          have Y16_wf := Y16_w.out.f 0
          have Y16_wh := Y16_w.out.f 1
          have Y16_wl := Y16_w.out.lt
          have Y16ne01 : y1.heap.size ≠ y1.heap.size + 1 := by omega
          have Y16ne10 : y1.heap.size + 1 ≠ y1.heap.size := by omega
          clear hb
          refine hK.out _ _ ⟨(LB.below N0.out.1 Y16.out).c0, (LB.below N0.out.1 Y16.out).c1, (LB.below N0.out.2.1 Y16.out).c0, (LB.below N0.out.2.1 Y16.out).c1⟩ (fun hHeld2 => ?_)
          clear hK K
          refine wpAnyH_ready (rs := [4]) (by kernel_rfl) (by simp) ?_
          refine AllReadyH.cons rfl (fun K hK => ?_) AllReadyH.nil
          go_simp
          refine (splitM_any _ _ _ _ _).mono ?_
          rw [HQ.out]
          rintro e y17 ⟨rfl, hb⟩
          have Y17 := Lib.hid (Below.tr Y16.out hb)
          have Y17z := Y17.out.size
          have Y17_z := Lib.hid (SB.below Y16_z.out hb)
          have Y17_zx := Y17_z.out.c0
          have Y17_zy := Y17_z.out.c1
          have Y17_zf := Y17_z.out.f 0
          have Y17_zh := Y17_z.out.f 1
          have Y17_zl := Y17_z.out.lt
          have Y17_w := Lib.hid (SB.below Y16_w.out hb)
          have Y17_wx := Y17_w.out.c0
          have Y17_wy := Y17_w.out.c1
          have Y17_wf := Y17_w.out.f 0
          have Y17_wh := Y17_w.out.f 1
          have Y17_wl := Y17_w.out.lt
          have Y17ne01 : y1.heap.size ≠ y1.heap.size + 1 := by omega
          have Y17ne10 : y1.heap.size + 1 ≠ y1.heap.size := by omega
          clear hb
          refine hK.out _ _ ⟨(LB.below N0.out.1 Y17.out).c0, (LB.below N0.out.1 Y17.out).c1, (LB.below N0.out.2.1 Y17.out).c0, (LB.below N0.out.2.1 Y17.out).c1⟩ (fun hHeld2 => ?_)
          clear hK K
          refine wpAnyH_take (i := 5) (v := ?_) rfl (by kernel_rfl) (by kernel_rfl) (by kernel_rfl) (fun _ _ _ h => h) (Or.inl ⟨by rfl, ?_⟩) (by assumption) ?_
          rotate_left
          · intro W hSw
            try dsimp only at hSw
            go_simp
            try with_reducible rfl
          refine wpAnyH_take (i := 6) (v := ?_) rfl (by kernel_rfl) (by kernel_rfl) (by kernel_rfl) (fun _ _ _ h => h) (Or.inl ⟨by rfl, ?_⟩) (by assumption) ?_
          rotate_left
          · intro W hSw
            try dsimp only at hSw
            go_simp
            try with_reducible rfl
          refine wpAnyH_take (i := 7) (v := ?_) rfl (by kernel_rfl) (by kernel_rfl) (by kernel_rfl) (fun _ _ _ h => h) (Or.inl ⟨by rfl, ?_⟩) (by assumption) ?_
          rotate_left
          · intro W hSw
            try dsimp only at hSw
            go_simp
            try with_reducible rfl
          refine wpAnyH_take (i := 8) (v := ?_) rfl (by kernel_rfl) (by kernel_rfl) (by kernel_rfl) (fun _ _ _ h => h) (Or.inl ⟨by rfl, ?_⟩) (by assumption) ?_
          rotate_left
          · intro W hSw
            try dsimp only at hSw
            go_simp
            try with_reducible rfl
          refine wpAnyH_ready (rs := [11]) (by kernel_rfl) (by simp) ?_
          refine AllReadyH.cons rfl (fun K hK => ?_) AllReadyH.nil
          go_simp
          refine hK.out _ _ ⟨(LB.below N0.out.1 (belowS2 Y17.out (by omega))).c0, (LB.below N0.out.1 (belowS2 Y17.out (by omega))).c1, (LB.below N0.out.2.1 (belowS2 Y17.out (by omega))).c0, (LB.below N0.out.2.1 (belowS2 Y17.out (by omega))).c1⟩ (fun hHeld2 => ?_)
          clear hK K
          refine wpAnyH_ready (rs := [12]) (by kernel_rfl) (by simp) ?_
          refine AllReadyH.cons rfl (fun K hK => ?_) AllReadyH.nil
          go_simp
          refine hK.out _ _ ⟨(LB.below N0.out.1 (belowS2 (belowS2 Y17.out (by omega)) (by omega))).c0, (LB.below N0.out.1 (belowS2 (belowS2 Y17.out (by omega)) (by omega))).c1, (LB.below N0.out.2.1 (belowS2 (belowS2 Y17.out (by omega)) (by omega))).c0, (LB.below N0.out.2.1 (belowS2 (belowS2 Y17.out (by omega)) (by omega))).c1⟩ (fun hHeld2 => ?_)
          clear hK K
          refine wpAnyH_ready (rs := [13]) (by kernel_rfl) (by simp) ?_
          refine AllReadyH.cons rfl (fun K hK => ?_) AllReadyH.nil
          go_simp
          refine hK.out _ _ ⟨(LB.below N0.out.1 (belowS2 (belowS2 Y17.out (by omega)) (by omega))).c0, (LB.below N0.out.1 (belowS2 (belowS2 Y17.out (by omega)) (by omega))).c1, (LB.below N0.out.2.1 (belowS2 (belowS2 Y17.out (by omega)) (by omega))).c0, (LB.below N0.out.2.1 (belowS2 (belowS2 Y17.out (by omega)) (by omega))).c1⟩ (fun hHeld2 => ?_)
          clear hK K
          refine wpAnyH_done (by kernel_rfl) ?_ _
          go_wp2_with fail
          go_meet
          exact ⟨_, _, rfl, rfl, rfl, (SB.far2 (SB.set2 Y17_w.out) (by omega)), (SB.set2 (SB.far2 Y17_z.out (by omega))), by omega, by omega, by omega, (belowS2 (belowS2 Y17.out (by omega)) (by omega))⟩
    · skip
      go_simp
      refine hK.out _ _ ⟨(LB.below N0.out.1 (Below.tr D0.out (below1 _ _))).c0, (LB.below N0.out.1 (Below.tr D0.out (below1 _ _))).c1, (LB.below N0.out.2.1 (Below.tr D0.out (below1 _ _))).c0, (LB.below N0.out.2.1 (Below.tr D0.out (below1 _ _))).c1⟩ (fun hHeld2 => ?_)
      clear hK K
      refine wpAnyH_ready (rs := [1, 10]) (by kernel_rfl) (by simp) ?_
      refine AllReadyH.cons rfl (fun K hK => ?_) (AllReadyH.cons rfl (fun K hK => ?_) AllReadyH.nil)
      · skip
        go_simp
        refine (toSt_any _ _ _).mono ?_
        rintro e y18 ⟨rfl, hb⟩
        have Y18 := Lib.hid (Below.tr (Below.drew (Below.tr D0.out (below1 _ _))) hb)
        have Y18z := Y18.out.size
        have Y18_w := Lib.hid (SB.below (SB.drewn (SB.newAt (by first | rfl | simp))) hb)
        have Y18_wx := Y18_w.out.c0
        have Y18_wy := Y18_w.out.c1
        have Y18_wf := Y18_w.out.f 0
        have Y18_wh := Y18_w.out.f 1
        have Y18_wl := Y18_w.out.lt
        clear hb
        refine hK.out _ _ ⟨(LB.below N0.out.1 Y18.out).c0, (LB.below N0.out.1 Y18.out).c1, (LB.below N0.out.2.1 Y18.out).c0, (LB.below N0.out.2.1 Y18.out).c1⟩ (fun hHeld2 => ?_)
        clear hK K
        refine wpAnyH_ready (rs := [3, 10]) (by kernel_rfl) (by simp) ?_
        refine AllReadyH.cons rfl (fun K hK => ?_) (AllReadyH.cons rfl (fun K hK => ?_) AllReadyH.nil)
        · skip
          go_simp
          refine (toSt_any _ _ _).mono ?_
          rintro e y19 ⟨rfl, hb⟩
          have Y19 := Lib.hid (Below.tr Y18.out hb)
          have Y19z := Y19.out.size
          have Y19_w := Lib.hid (SB.below Y18_w.out hb)
          have Y19_wx := Y19_w.out.c0
          have Y19_wy := Y19_w.out.c1
          have Y19_wf := Y19_w.out.f 0
          have Y19_wh := Y19_w.out.f 1
          have Y19_wl := Y19_w.out.lt
          clear hb
          refine hK.out _ _ ⟨(LB.below N0.out.1 Y19.out).c0, (LB.below N0.out.1 Y19.out).c1, (LB.below N0.out.2.1 Y19.out).c0, (LB.below N0.out.2.1 Y19.out).c1⟩ (fun hHeld2 => ?_)
          clear hK K
          refine wpAnyH_ready (rs := [4, 10]) (by kernel_rfl) (by simp) ?_
          refine AllReadyH.cons rfl (fun K hK => ?_) (AllReadyH.cons rfl (fun K hK => ?_) AllReadyH.nil)
          · skip
            go_simp
            refine (splitM_any _ _ _ _ _).mono ?_
            rw [HQ.out]
            rintro e y20 ⟨rfl, hb⟩
            have Y20 := Lib.hid (Below.tr Y19.out hb)
            have Y20z := Y20.out.size
            have Y20_w := Lib.hid (SB.below Y19_w.out hb)
            have Y20_wx := Y20_w.out.c0
            have Y20_wy := Y20_w.out.c1
            have Y20_wf := Y20_w.out.f 0
            have Y20_wh := Y20_w.out.f 1
            have Y20_wl := Y20_w.out.lt
            clear hb
            refine hK.out _ _ ⟨(LB.below N0.out.1 Y20.out).c0, (LB.below N0.out.1 Y20.out).c1, (LB.below N0.out.2.1 Y20.out).c0, (LB.below N0.out.2.1 Y20.out).c1⟩ (fun hHeld2 => ?_)
            clear hK K
            refine wpAnyH_take (i := 5) (v := ?_) rfl (by kernel_rfl) (by kernel_rfl) (by kernel_rfl) (fun _ _ _ h => h) (Or.inl ⟨by rfl, ?_⟩) (by assumption) ?_
            rotate_left
            · intro W hSw
              try dsimp only at hSw
              go_simp
              try with_reducible rfl
            refine wpAnyH_take (i := 6) (v := ?_) rfl (by kernel_rfl) (by kernel_rfl) (by kernel_rfl) (fun _ _ _ h => h) (Or.inl ⟨by rfl, ?_⟩) (by assumption) ?_
            rotate_left
            · intro W hSw
              try dsimp only at hSw
              go_simp
              try with_reducible rfl
            refine wpAnyH_take (i := 7) (v := ?_) rfl (by kernel_rfl) (by kernel_rfl) (by kernel_rfl) (fun _ _ _ h => h) (Or.inl ⟨by rfl, ?_⟩) (by assumption) ?_
            rotate_left
            · intro W hSw
              try dsimp only at hSw
              go_simp
              try with_reducible rfl
            refine wpAnyH_take (i := 8) (v := ?_) rfl (by kernel_rfl) (by kernel_rfl) (by kernel_rfl) (fun _ _ _ h => h) (Or.inl ⟨by rfl, ?_⟩) (by assumption) ?_
            rotate_left
            · intro W hSw
              try dsimp only at hSw
              go_simp
              try with_reducible rfl
            refine wpAnyH_ready (rs := [10]) (by kernel_rfl) (by simp) ?_
            refine AllReadyH.cons rfl (fun K hK => ?_) AllReadyH.nil
            go_simp
            refine hK.out _ _ ⟨(LB.below N0.out.1 (Below.tr Y20.out (below1 _ _))).c0, (LB.below N0.out.1 (Below.tr Y20.out (below1 _ _))).c1, (LB.below N0.out.2.1 (Below.tr Y20.out (below1 _ _))).c0, (LB.below N0.out.2.1 (Below.tr Y20.out (below1 _ _))).c1⟩ (fun hHeld2 => ?_)
            clear hK K
            refine wpAnyH_ready (rs := [11]) (by kernel_rfl) (by simp) ?_
            refine AllReadyH.cons rfl (fun K hK => ?_) AllReadyH.nil
            go_simp
            refine hK.out _ _ ⟨(LB.below N0.out.1 (Below.tr (belowS2 Y20.out (by omega)) (below1 _ _))).c0, (LB.below N0.out.1 (Below.tr (belowS2 Y20.out (by omega)) (below1 _ _))).c1, (LB.below N0.out.2.1 (Below.tr (belowS2 Y20.out (by omega)) (below1 _ _))).c0, (LB.below N0.out.2.1 (Below.tr (belowS2 Y20.out (by omega)) (below1 _ _))).c1⟩ (fun hHeld2 => ?_)
            clear hK K
            refine wpAnyH_ready (rs := [12]) (by kernel_rfl) (by simp) ?_
            refine AllReadyH.cons rfl (fun K hK => ?_) AllReadyH.nil
            go_simp
            refine hK.out _ _ ⟨(LB.below N0.out.1 (Below.tr (belowS2 Y20.out (by omega)) (below1 _ _))).c0, (LB.below N0.out.1 (Below.tr (belowS2 Y20.out (by omega)) (below1 _ _))).c1, (LB.below N0.out.2.1 (Below.tr (belowS2 Y20.out (by omega)) (below1 _ _))).c0, (LB.below N0.out.2.1 (Below.tr (belowS2 Y20.out (by omega)) (below1 _ _))).c1⟩ (fun hHeld2 => ?_)
            clear hK K
            refine wpAnyH_ready (rs := [13]) (by kernel_rfl) (by simp) ?_
            refine AllReadyH.cons rfl (fun K hK => ?_) AllReadyH.nil
            go_simp
            refine hK.out _ _ ⟨(LB.below N0.out.1 (Below.tr (belowS2 Y20.out (by omega)) (below1 _ _))).c0, (LB.below N0.out.1 (Below.tr (belowS2 Y20.out (by omega)) (below1 _ _))).c1, (LB.below N0.out.2.1 (Below.tr (belowS2 Y20.out (by omega)) (below1 _ _))).c0, (LB.below N0.out.2.1 (Below.tr (belowS2 Y20.out (by omega)) (below1 _ _))).c1⟩ (fun hHeld2 => ?_)
            clear hK K
            refine wpAnyH_done (by kernel_rfl) ?_ _
            go_wp2_with fail
            go_meet
            exact ⟨_, _, rfl, rfl, rfl, (SB.below (SB.set2 Y20_w.out) (below1 _ _)), (SB.newAt (by first | rfl | simp)), by omega, by omega, by omega, (Below.tr (belowS2 Y20.out (by omega)) (below1 _ _))⟩
          · skip
            go_simp
            refine hK.out _ _ ⟨(LB.below N0.out.1 (Below.tr Y19.out (below1 _ _))).c0, (LB.below N0.out.1 (Below.tr Y19.out (below1 _ _))).c1, (LB.below N0.out.2.1 (Below.tr Y19.out (below1 _ _))).c0, (LB.below N0.out.2.1 (Below.tr Y19.out (below1 _ _))).c1⟩ (fun hHeld2 => ?_)
            clear hK K
            refine wpAnyH_ready (rs := [4]) (by kernel_rfl) (by simp) ?_
            refine AllReadyH.cons rfl (fun K hK => ?_) AllReadyH.nil
            go_simp
            refine (splitM_any _ _ _ _ _).mono ?_
            rw [HQ.out]
            rintro e y21 ⟨rfl, hb⟩
            have Y21 := Lib.hid (Below.tr (Below.tr Y19.out (below1 _ _)) hb)
            have Y21z := Y21.out.size
            have Y21_w := Lib.hid (SB.below (SB.below Y19_w.out (below1 _ _)) hb)
            have Y21_wx := Y21_w.out.c0
            have Y21_wy := Y21_w.out.c1
            have Y21_wf := Y21_w.out.f 0
            have Y21_wh := Y21_w.out.f 1
            have Y21_wl := Y21_w.out.lt
            have Y21_z := Lib.hid (SB.below (SB.newAt (by first | rfl | simp)) hb)
            have Y21_zx := Y21_z.out.c0
            have Y21_zy := Y21_z.out.c1
            have Y21_zf := Y21_z.out.f 0
            have Y21_zh := Y21_z.out.f 1
            have Y21_zl := Y21_z.out.lt
            have Y21ne01 : v0.heap.size ≠ y19.heap.size := by omega
            have Y21ne10 : y19.heap.size ≠ v0.heap.size := by omega
            clear hb
            refine hK.out _ _ ⟨(LB.below N0.out.1 Y21.out).c0, (LB.below N0.out.1 Y21.out).c1, (LB.below N0.out.2.1 Y21.out).c0, (LB.below N0.out.2.1 Y21.out).c1⟩ (fun hHeld2 => ?_)
            clear hK K
            refine wpAnyH_take (i := 5) (v := ?_) rfl (by kernel_rfl) (by kernel_rfl) (by kernel_rfl) (fun _ _ _ h => h) (Or.inl ⟨by rfl, ?_⟩) (by assumption) ?_
            rotate_left
            · intro W hSw
              try dsimp only at hSw
              go_simp
              try with_reducible rfl
            refine wpAnyH_take (i := 6) (v := ?_) rfl (by kernel_rfl) (by kernel_rfl) (by kernel_rfl) (fun _ _ _ h => h) (Or.inl ⟨by rfl, ?_⟩) (by assumption) ?_
            rotate_left
            · intro W hSw
              try dsimp only at hSw
              go_simp
              try with_reducible rfl
            refine wpAnyH_take (i := 7) (v := ?_) rfl (by kernel_rfl) (by kernel_rfl) (by kernel_rfl) (fun _ _ _ h => h) (Or.inl ⟨by rfl, ?_⟩) (by assumption) ?_
            rotate_left
            · intro W hSw
              try dsimp only at hSw
              go_simp
              try with_reducible rfl
            refine wpAnyH_take (i := 8) (v := ?_) rfl (by kernel_rfl) (by kernel_rfl) (by kernel_rfl) (fun _ _ _ h => h) (Or.inl ⟨by rfl, ?_⟩) (by assumption) ?_
            rotate_left
            · intro W hSw
              try dsimp only at hSw
              go_simp
              try with_reducible rfl
            refine wpAnyH_ready (rs := [11]) (by kernel_rfl) (by simp) ?_
            refine AllReadyH.cons rfl (fun K hK => ?_) AllReadyH.nil
            go_simp
            refine hK.out _ _ ⟨(LB.below N0.out.1 (belowS2 Y21.out (by omega))).c0, (LB.below N0.out.1 (belowS2 Y21.out (by omega))).c1, (LB.below N0.out.2.1 (belowS2 Y21.out (by omega))).c0, (LB.below N0.out.2.1 (belowS2 Y21.out (by omega))).c1⟩ (fun hHeld2 => ?_)
            clear hK K
            refine wpAnyH_ready (rs := [12]) (by kernel_rfl) (by simp) ?_
            refine AllReadyH.cons rfl (fun K hK => ?_) AllReadyH.nil
            go_simp
            refine hK.out _ _ ⟨(LB.below N0.out.1 (belowS2 (belowS2 Y21.out (by omega)) (by omega))).c0, (LB.below N0.out.1 (belowS2 (belowS2 Y21.out (by omega)) (by omega))).c1, (LB.below N0.out.2.1 (belowS2 (belowS2 Y21.out (by omega)) (by omega))).c0, (LB.below N0.out.2.1 (belowS2 (belowS2 Y21.out (by omega)) (by omega))).c1⟩ (fun hHeld2 => ?_)
            clear hK K
            refine wpAnyH_ready (rs := [13]) (by kernel_rfl) (by simp) ?_
            refine AllReadyH.cons rfl (fun K hK => ?_) AllReadyH.nil
            go_simp
            refine hK.out _ _ ⟨(LB.below N0.out.1 (belowS2 (belowS2 Y21.out (by omega)) (by omega))).c0, (LB.below N0.out.1 (belowS2 (belowS2 Y21.out (by omega)) (by omega))).c1, (LB.below N0.out.2.1 (belowS2 (belowS2 Y21.out (by omega)) (by omega))).c0, (LB.below N0.out.2.1 (belowS2 (belowS2 Y21.out (by omega)) (by omega))).c1⟩ (fun hHeld2 => ?_)
            clear hK K
            refine wpAnyH_done (by kernel_rfl) ?_ _
            go_wp2_with fail
            go_meet
            exact ⟨_, _, rfl, rfl, rfl, (SB.far2 (SB.set2 Y21_w.out) (by omega)), (SB.set2 (SB.far2 Y21_z.out (by omega))), by omega, by omega, by omega, (belowS2 (belowS2 Y21.out (by omega)) (by omega))⟩
        · skip
          go_simp
          refine hK.out _ _ ⟨(LB.below N0.out.1 (Below.tr Y18.out (below1 _ _))).c0, (LB.below N0.out.1 (Below.tr Y18.out (below1 _ _))).c1, (LB.below N0.out.2.1 (Below.tr Y18.out (below1 _ _))).c0, (LB.below N0.out.2.1 (Below.tr Y18.out (below1 _ _))).c1⟩ (fun hHeld2 => ?_)
          clear hK K
          refine wpAnyH_ready (rs := [3]) (by kernel_rfl) (by simp) ?_
          refine AllReadyH.cons rfl (fun K hK => ?_) AllReadyH.nil
          go_simp
          refine (toSt_any _ _ _).mono ?_
          rintro e y22 ⟨rfl, hb⟩
          have Y22 := Lib.hid (Below.tr (Below.tr Y18.out (below1 _ _)) hb)
          have Y22z := Y22.out.size
          have Y22_w := Lib.hid (SB.below (SB.below Y18_w.out (below1 _ _)) hb)
          have Y22_wx := Y22_w.out.c0
          have Y22_wy := Y22_w.out.c1
          have Y22_wf := Y22_w.out.f 0
          have Y22_wh := Y22_w.out.f 1
          have Y22_wl := Y22_w.out.lt
          have Y22_z := Lib.hid (SB.below (SB.newAt (by first | rfl | simp)) hb)
          have Y22_zx := Y22_z.out.c0
          have Y22_zy := Y22_z.out.c1
          have Y22_zf := Y22_z.out.f 0
          have Y22_zh := Y22_z.out.f 1
          have Y22_zl := Y22_z.out.lt
          have Y22ne01 : v0.heap.size ≠ y18.heap.size := by omega
          have Y22ne10 : y18.heap.size ≠ v0.heap.size := by omega
          clear hb
          refine hK.out _ _ ⟨(LB.below N0.out.1 Y22.out).c0, (LB.below N0.out.1 Y22.out).c1, (LB.below N0.out.2.1 Y22.out).c0, (LB.below N0.out.2.1 Y22.out).c1⟩ (fun hHeld2 => ?_)
          clear hK K
          refine wpAnyH_ready (rs := [4]) (by kernel_rfl) (by simp) ?_
          refine AllReadyH.cons rfl (fun K hK => ?_) AllReadyH.nil
          go_simp
          refine (splitM_any _ _ _ _ _).mono ?_
          rw [HQ.out]
          rintro e y23 ⟨rfl, hb⟩
          have Y23 := Lib.hid (Below.tr Y22.out hb)
          have Y23z := Y23.out.size
          have Y23_w := Lib.hid (SB.below Y22_w.out hb)
          have Y23_wx := Y23_w.out.c0
          have Y23_wy := Y23_w.out.c1
          have Y23_wf := Y23_w.out.f 0
          have Y23_wh := Y23_w.out.f 1
          have Y23_wl := Y23_w.out.lt
          have Y23_z := Lib.hid (SB.below Y22_z.out hb)
          have Y23_zx := Y23_z.out.c0
          have Y23_zy := Y23_z.out.c1
          have Y23_zf := Y23_z.out.f 0
          have Y23_zh := Y23_z.out.f 1
          have Y23_zl := Y23_z.out.lt
          have Y23ne01 : v0.heap.size ≠ y18.heap.size := by omega
          have Y23ne10 : y18.heap.size ≠ v0.heap.size := by omega
          clear hb
          refine hK.out _ _ ⟨(LB.below N0.out.1 Y23.out).c0, (LB.below N0.out.1 Y23.out).c1, (LB.below N0.out.2.1 Y23.out).c0, (LB.below N0.out.2.1 Y23.out).c1⟩ (fun hHeld2 => ?_)
          clear hK K
          refine wpAnyH_take (i := 5) (v := ?_) rfl (by kernel_rfl) (by kernel_rfl) (by kernel_rfl) (fun _ _ _ h => h) (Or.inl ⟨by rfl, ?_⟩) (by assumption) ?_
          rotate_left
          · intro W hSw
            try dsimp only at hSw
            go_simp
            try with_reducible rfl
          refine wpAnyH_take (i := 6) (v := ?_) rfl (by kernel_rfl) (by kernel_rfl) (by kernel_rfl) (fun _ _ _ h => h) (Or.inl ⟨by rfl, ?_⟩) (by assumption) ?_
          rotate_left
          · intro W hSw
            try dsimp only at hSw
            go_simp
            try with_reducible rfl
          refine wpAnyH_take (i := 7) (v := ?_) rfl (by kernel_rfl) (by kernel_rfl) (by kernel_rfl) (fun _ _ _ h => h) (Or.inl ⟨by rfl, ?_⟩) (by assumption) ?_
          rotate_left
          · intro W hSw
            try dsimp only at hSw
            go_simp
            try with_reducible rfl
          refine wpAnyH_take (i := 8) (v := ?_) rfl (by kernel_rfl) (by kernel_rfl) (by kernel_rfl) (fun _ _ _ h => h) (Or.inl ⟨by rfl, ?_⟩) (by assumption) ?_
          rotate_left
          · intro W hSw
            try dsimp only at hSw
            go_simp
            try with_reducible rfl
          refine wpAnyH_ready (rs := [11]) (by kernel_rfl) (by simp) ?_
          refine AllReadyH.cons rfl (fun K hK => ?_) AllReadyH.nil
          go_simp
          refine hK.out _ _ ⟨(LB.below N0.out.1 (belowS2 Y23.out (by omega))).c0, (LB.below N0.out.1 (belowS2 Y23.out (by omega))).c1, (LB.below N0.out.2.1 (belowS2 Y23.out (by omega))).c0, (LB.below N0.out.2.1 (belowS2 Y23.out (by omega))).c1⟩ (fun hHeld2 => ?_)
          clear hK K
          refine wpAnyH_ready (rs := [12]) (by kernel_rfl) (by simp) ?_
          refine AllReadyH.cons rfl (fun K hK => ?_) AllReadyH.nil
          go_simp
          refine hK.out _ _ ⟨(LB.below N0.out.1 (belowS2 (belowS2 Y23.out (by omega)) (by omega))).c0, (LB.below N0.out.1 (belowS2 (belowS2 Y23.out (by omega)) (by omega))).c1, (LB.below N0.out.2.1 (belowS2 (belowS2 Y23.out (by omega)) (by omega))).c0, (LB.below N0.out.2.1 (belowS2 (belowS2 Y23.out (by omega)) (by omega))).c1⟩ (fun hHeld2 => ?_)
          clear hK K
          refine wpAnyH_ready (rs := [13]) (by kernel_rfl) (by simp) ?_
          refine AllReadyH.cons rfl (fun K hK => ?_) AllReadyH.nil
          go_simp
          refine hK.out _ _ ⟨(LB.below N0.out.1 (belowS2 (belowS2 Y23.out (by omega)) (by omega))).c0, (LB.below N0.out.1 (belowS2 (belowS2 Y23.out (by omega)) (by omega))).c1, (LB.below N0.out.2.1 (belowS2 (belowS2 Y23.out (by omega)) (by omega))).c0, (LB.below N0.out.2.1 (belowS2 (belowS2 Y23.out (by omega)) (by omega))).c1⟩ (fun hHeld2 => ?_)
          clear hK K
          refine wpAnyH_done (by kernel_rfl) ?_ _
          go_wp2_with fail
          go_meet
          exact ⟨_, _, rfl, rfl, rfl, (SB.far2 (SB.set2 Y23_w.out) (by omega)), (SB.set2 (SB.far2 Y23_z.out (by omega))), by omega, by omega, by omega, (belowS2 (belowS2 Y23.out (by omega)) (by omega))⟩
      · skip
        go_simp
        refine hK.out _ _ ⟨(LB.below N0.out.1 (Below.tr (Below.tr D0.out (below1 _ _)) (below1 _ _))).c0, (LB.below N0.out.1 (Below.tr (Below.tr D0.out (below1 _ _)) (below1 _ _))).c1, (LB.below N0.out.2.1 (Below.tr (Below.tr D0.out (below1 _ _)) (below1 _ _))).c0, (LB.below N0.out.2.1 (Below.tr (Below.tr D0.out (below1 _ _)) (below1 _ _))).c1⟩ (fun hHeld2 => ?_)
        clear hK K
        refine wpAnyH_ready (rs := [1]) (by kernel_rfl) (by simp) ?_
        refine AllReadyH.cons rfl (fun K hK => ?_) AllReadyH.nil
        go_simp
        refine (toSt_any _ _ _).mono ?_
        rintro e y24 ⟨rfl, hb⟩
        have Y24 := Lib.hid (Below.tr (Below.drew (Below.tr (Below.tr D0.out (below1 _ _)) (below1 _ _))) hb)
        have Y24z := Y24.out.size
        have Y24_w := Lib.hid (SB.below (SB.drewn (SB.below (SB.newAt (by first | rfl | simp)) (below1 _ _))) hb)
        have Y24_wx := Y24_w.out.c0
        have Y24_wy := Y24_w.out.c1
        have Y24_wf := Y24_w.out.f 0
        have Y24_wh := Y24_w.out.f 1
        have Y24_wl := Y24_w.out.lt
        have Y24_z := Lib.hid (SB.below (SB.drewn (SB.newAt1 (by first | rfl | simp))) hb)
        have Y24_zx := Y24_z.out.c0
        have Y24_zy := Y24_z.out.c1
        have Y24_zf := Y24_z.out.f 0
        have Y24_zh := Y24_z.out.f 1
        have Y24_zl := Y24_z.out.lt
        have Y24ne01 : v0.heap.size ≠ v0.heap.size + 1 := by omega
        have Y24ne10 : v0.heap.size + 1 ≠ v0.heap.size := by omega
        clear hb
        refine hK.out _ _ ⟨(LB.below N0.out.1 Y24.out).c0, (LB.below N0.out.1 Y24.out).c1, (LB.below N0.out.2.1 Y24.out).c0, (LB.below N0.out.2.1 Y24.out).c1⟩ (fun hHeld2 => ?_)
        clear hK K
        refine wpAnyH_ready (rs := [3]) (by kernel_rfl) (by simp) ?_
        refine AllReadyH.cons rfl (fun K hK => ?_) AllReadyH.nil
        go_simp
        refine (toSt_any _ _ _).mono ?_
        rintro e y25 ⟨rfl, hb⟩
        have Y25 := Lib.hid (Below.tr Y24.out hb)
        have Y25z := Y25.out.size
        have Y25_w := Lib.hid (SB.below Y24_w.out hb)
        have Y25_wx := Y25_w.out.c0
        have Y25_wy := Y25_w.out.c1
        have Y25_wf := Y25_w.out.f 0
        have Y25_wh := Y25_w.out.f 1
        have Y25_wl := Y25_w.out.lt
        have Y25_z := Lib.hid (SB.below Y24_z.out hb)
        have Y25_zx := Y25_z.out.c0
        have Y25_zy := Y25_z.out.c1
        have Y25_zf := Y25_z.out.f 0
        have Y25_zh := Y25_z.out.f 1
        have Y25_zl := Y25_z.out.lt
        have Y25ne01 : v0.heap.size ≠ v0.heap.size + 1 := by omega
        have Y25ne10 : v0.heap.size + 1 ≠ v0.heap.size := by omega
        clear hb
        refine hK.out _ _ ⟨(LB.below N0.out.1 Y25.out).c0, (LB.below N0.out.1 Y25.out).c1, (LB.below N0.out.2.1 Y25.out).c0, (LB.below N0.out.2.1 Y25.out).c1⟩ (fun hHeld2 => ?_)
        clear hK K
        refine wpAnyH_ready (rs := [4]) (by kernel_rfl) (by simp) ?_
        refine AllReadyH.cons rfl (fun K hK => ?_) AllReadyH.nil
        go_simp
        refine (splitM_any _ _ _ _ _).mono ?_
        rw [HQ.out]
        rintro e y26 ⟨rfl, hb⟩
        have Y26 := Lib.hid (Below.tr Y25.out hb)
        have Y26z := Y26.out.size
        have Y26_w := Lib.hid (SB.below Y25_w.out hb)
        have Y26_wx := Y26_w.out.c0
        have Y26_wy := Y26_w.out.c1
        have Y26_wf := Y26_w.out.f 0
        have Y26_wh := Y26_w.out.f 1
        have Y26_wl := Y26_w.out.lt
        have Y26_z := Lib.hid (SB.below Y25_z.out hb)
        have Y26_zx := Y26_z.out.c0
        have Y26_zy := Y26_z.out.c1
        have Y26_zf := Y26_z.out.f 0
        have Y26_zh := Y26_z.out.f 1
        have Y26_zl := Y26_z.out.lt
        have Y26ne01 : v0.heap.size ≠ v0.heap.size + 1 := by omega
        have Y26ne10 : v0.heap.size + 1 ≠ v0.heap.size := by omega
        clear hb
        refine hK.out _ _ ⟨(LB.below N0.out.1 Y26.out).c0, (LB.below N0.out.1 Y26.out).c1, (LB.below N0.out.2.1 Y26.out).c0, (LB.below N0.out.2.1 Y26.out).c1⟩ (fun hHeld2 => ?_)
        clear hK K
        refine wpAnyH_take (i := 5) (v := ?_) rfl (by kernel_rfl) (by kernel_rfl) (by kernel_rfl) (fun _ _ _ h => h) (Or.inl ⟨by rfl, ?_⟩) (by assumption) ?_
        rotate_left
        · intro W hSw
          try dsimp only at hSw
          go_simp
          try with_reducible rfl
        refine wpAnyH_take (i := 6) (v := ?_) rfl (by kernel_rfl) (by kernel_rfl) (by kernel_rfl) (fun _ _ _ h => h) (Or.inl ⟨by rfl, ?_⟩) (by assumption) ?_
        rotate_left
        · intro W hSw
          try dsimp only at hSw
          go_simp
          try with_reducible rfl
        refine wpAnyH_take (i := 7) (v := ?_) rfl (by kernel_rfl) (by kernel_rfl) (by kernel_rfl) (fun _ _ _ h => h) (Or.inl ⟨by rfl, ?_⟩) (by assumption) ?_
        rotate_left
        · intro W hSw
          try dsimp only at hSw
          go_simp
          try with_reducible rfl
        refine wpAnyH_take (i := 8) (v := ?_) rfl (by kernel_rfl) (by kernel_rfl) (by kernel_rfl) (fun _ _ _ h => h) (Or.inl ⟨by rfl, ?_⟩) (by assumption) ?_
        rotate_left
        · intro W hSw
          try dsimp only at hSw
          go_simp
          try with_reducible rfl
        refine wpAnyH_ready (rs := [11]) (by kernel_rfl) (by simp) ?_
        refine AllReadyH.cons rfl (fun K hK => ?_) AllReadyH.nil
        go_simp
        refine hK.out _ _ ⟨(LB.below N0.out.1 (belowS2 Y26.out (by omega))).c0, (LB.below N0.out.1 (belowS2 Y26.out (by omega))).c1, (LB.below N0.out.2.1 (belowS2 Y26.out (by omega))).c0, (LB.below N0.out.2.1 (belowS2 Y26.out (by omega))).c1⟩ (fun hHeld2 => ?_)
        clear hK K
        refine wpAnyH_ready (rs := [12]) (by kernel_rfl) (by simp) ?_
        refine AllReadyH.cons rfl (fun K hK => ?_) AllReadyH.nil
        go_simp
        refine hK.out _ _ ⟨(LB.below N0.out.1 (belowS2 (belowS2 Y26.out (by omega)) (by omega))).c0, (LB.below N0.out.1 (belowS2 (belowS2 Y26.out (by omega)) (by omega))).c1, (LB.below N0.out.2.1 (belowS2 (belowS2 Y26.out (by omega)) (by omega))).c0, (LB.below N0.out.2.1 (belowS2 (belowS2 Y26.out (by omega)) (by omega))).c1⟩ (fun hHeld2 => ?_)
        clear hK K
        refine wpAnyH_ready (rs := [13]) (by kernel_rfl) (by simp) ?_
        refine AllReadyH.cons rfl (fun K hK => ?_) AllReadyH.nil
        go_simp
        refine hK.out _ _ ⟨(LB.below N0.out.1 (belowS2 (belowS2 Y26.out (by omega)) (by omega))).c0, (LB.below N0.out.1 (belowS2 (belowS2 Y26.out (by omega)) (by omega))).c1, (LB.below N0.out.2.1 (belowS2 (belowS2 Y26.out (by omega)) (by omega))).c0, (LB.below N0.out.2.1 (belowS2 (belowS2 Y26.out (by omega)) (by omega))).c1⟩ (fun hHeld2 => ?_)
        clear hK K
        refine wpAnyH_done (by kernel_rfl) ?_ _
        go_wp2_with fail
        go_meet
        exact ⟨_, _, rfl, rfl, rfl, (SB.far2 (SB.set2 Y26_w.out) (by omega)), (SB.set2 (SB.far2 Y26_z.out (by omega))), by omega, by omega, by omega, (belowS2 (belowS2 Y26.out (by omega)) (by omega))⟩
    · skip
      go_simp
      refine hK.out _ _ ⟨(LB.below N0.out.1 (Below.tr D0.out (below1 _ _))).c0, (LB.below N0.out.1 (Below.tr D0.out (below1 _ _))).c1, (LB.below N0.out.2.1 (Below.tr D0.out (below1 _ _))).c0, (LB.below N0.out.2.1 (Below.tr D0.out (below1 _ _))).c1⟩ (fun hHeld2 => ?_)
      clear hK K
      refine wpAnyH_ready (rs := [1, 9]) (by kernel_rfl) (by simp) ?_
      refine AllReadyH.cons rfl (fun K hK => ?_) (AllReadyH.cons rfl (fun K hK => ?_) AllReadyH.nil)
      · skip
        go_simp
        refine (toSt_any _ _ _).mono ?_
        rintro e y27 ⟨rfl, hb⟩
        have Y27 := Lib.hid (Below.tr (Below.drew (Below.tr D0.out (below1 _ _))) hb)
        have Y27z := Y27.out.size
        have Y27_z := Lib.hid (SB.below (SB.drewn (SB.newAt (by first | rfl | simp))) hb)
        have Y27_zx := Y27_z.out.c0
        have Y27_zy := Y27_z.out.c1
        have Y27_zf := Y27_z.out.f 0
        have Y27_zh := Y27_z.out.f 1
        have Y27_zl := Y27_z.out.lt
        clear hb
        refine hK.out _ _ ⟨(LB.below N0.out.1 Y27.out).c0, (LB.below N0.out.1 Y27.out).c1, (LB.below N0.out.2.1 Y27.out).c0, (LB.below N0.out.2.1 Y27.out).c1⟩ (fun hHeld2 => ?_)
        clear hK K
        refine wpAnyH_ready (rs := [3, 9]) (by kernel_rfl) (by simp) ?_
        refine AllReadyH.cons rfl (fun K hK => ?_) (AllReadyH.cons rfl (fun K hK => ?_) AllReadyH.nil)
        · skip
          go_simp
          refine (toSt_any _ _ _).mono ?_
          rintro e y28 ⟨rfl, hb⟩
          have Y28 := Lib.hid (Below.tr Y27.out hb)
          have Y28z := Y28.out.size
          have Y28_z := Lib.hid (SB.below Y27_z.out hb)
          have Y28_zx := Y28_z.out.c0
          have Y28_zy := Y28_z.out.c1
          have Y28_zf := Y28_z.out.f 0
          have Y28_zh := Y28_z.out.f 1
          have Y28_zl := Y28_z.out.lt
          clear hb
          refine hK.out _ _ ⟨(LB.below N0.out.1 Y28.out).c0, (LB.below N0.out.1 Y28.out).c1, (LB.below N0.out.2.1 Y28.out).c0, (LB.below N0.out.2.1 Y28.out).c1⟩ (fun hHeld2 => ?_)
          clear hK K
          refine wpAnyH_ready (rs := [4, 9]) (by kernel_rfl) (by simp) ?_
          refine AllReadyH.cons rfl (fun K hK => ?_) (AllReadyH.cons rfl (fun K hK => ?_) AllReadyH.nil)
          · skip
            go_simp
            refine (splitM_any _ _ _ _ _).mono ?_
            rw [HQ.out]
            rintro e y29 ⟨rfl, hb⟩
            have Y29 := Lib.hid (Below.tr Y28.out hb)
            have Y29z := Y29.out.size
            have Y29_z := Lib.hid (SB.below Y28_z.out hb)
            have Y29_zx := Y29_z.out.c0
            have Y29_zy := Y29_z.out.c1
            have Y29_zf := Y29_z.out.f 0
            have Y29_zh := Y29_z.out.f 1
            have Y29_zl := Y29_z.out.lt
            clear hb
            refine hK.out _ _ ⟨(LB.below N0.out.1 Y29.out).c0, (LB.below N0.out.1 Y29.out).c1, (LB.below N0.out.2.1 Y29.out).c0, (LB.below N0.out.2.1 Y29.out).c1⟩ (fun hHeld2 => ?_)
            clear hK K
            refine wpAnyH_take (i := 5) (v := ?_) rfl (by kernel_rfl) (by kernel_rfl) (by kernel_rfl) (fun _ _ _ h => h) (Or.inl ⟨by rfl, ?_⟩) (by assumption) ?_
            rotate_left
            · intro W hSw
              try dsimp only at hSw
              go_simp
              try with_reducible rfl
            refine wpAnyH_take (i := 6) (v := ?_) rfl (by kernel_rfl) (by kernel_rfl) (by kernel_rfl) (fun _ _ _ h => h) (Or.inl ⟨by rfl, ?_⟩) (by assumption) ?_
            rotate_left
            · intro W hSw
              try dsimp only at hSw
              go_simp
              try with_reducible rfl
            refine wpAnyH_take (i := 7) (v := ?_) rfl (by kernel_rfl) (by kernel_rfl) (by kernel_rfl) (fun _ _ _ h => h) (Or.inl ⟨by rfl, ?_⟩) (by assumption) ?_
            rotate_left
            · intro W hSw
              try dsimp only at hSw
              go_simp
              try with_reducible rfl
            refine wpAnyH_take (i := 8) (v := ?_) rfl (by kernel_rfl) (by kernel_rfl) (by kernel_rfl) (fun _ _ _ h => h) (Or.inl ⟨by rfl, ?_⟩) (by assumption) ?_
            rotate_left
            · intro W hSw
              try dsimp only at hSw
              go_simp
              try with_reducible rfl
            refine wpAnyH_ready (rs := [9]) (by kernel_rfl) (by simp) ?_
            refine AllReadyH.cons rfl (fun K hK => ?_) AllReadyH.nil
            go_simp
            refine hK.out _ _ ⟨(LB.below N0.out.1 (Below.tr Y29.out (below1 _ _))).c0, (LB.below N0.out.1 (Below.tr Y29.out (below1 _ _))).c1, (LB.below N0.out.2.1 (Below.tr Y29.out (below1 _ _))).c0, (LB.below N0.out.2.1 (Below.tr Y29.out (below1 _ _))).c1⟩ (fun hHeld2 => ?_)
            clear hK K
            refine wpAnyH_ready (rs := [11]) (by kernel_rfl) (by simp) ?_
            refine AllReadyH.cons rfl (fun K hK => ?_) AllReadyH.nil
            go_simp
            refine hK.out _ _ ⟨(LB.below N0.out.1 (Below.tr Y29.out (below1 _ _))).c0, (LB.below N0.out.1 (Below.tr Y29.out (below1 _ _))).c1, (LB.below N0.out.2.1 (Below.tr Y29.out (below1 _ _))).c0, (LB.below N0.out.2.1 (Below.tr Y29.out (below1 _ _))).c1⟩ (fun hHeld2 => ?_)
            clear hK K
            refine wpAnyH_ready (rs := [12]) (by kernel_rfl) (by simp) ?_
            refine AllReadyH.cons rfl (fun K hK => ?_) AllReadyH.nil
            go_simp
            refine hK.out _ _ ⟨(LB.below N0.out.1 (Below.tr (belowS2 Y29.out (by omega)) (below1 _ _))).c0, (LB.below N0.out.1 (Below.tr (belowS2 Y29.out (by omega)) (below1 _ _))).c1, (LB.below N0.out.2.1 (Below.tr (belowS2 Y29.out (by omega)) (below1 _ _))).c0, (LB.below N0.out.2.1 (Below.tr (belowS2 Y29.out (by omega)) (below1 _ _))).c1⟩ (fun hHeld2 => ?_)
            clear hK K
            refine wpAnyH_ready (rs := [13]) (by kernel_rfl) (by simp) ?_
            refine AllReadyH.cons rfl (fun K hK => ?_) AllReadyH.nil
            go_simp
            refine hK.out _ _ ⟨(LB.below N0.out.1 (Below.tr (belowS2 Y29.out (by omega)) (below1 _ _))).c0, (LB.below N0.out.1 (Below.tr (belowS2 Y29.out (by omega)) (below1 _ _))).c1, (LB.below N0.out.2.1 (Below.tr (belowS2 Y29.out (by omega)) (below1 _ _))).c0, (LB.below N0.out.2.1 (Below.tr (belowS2 Y29.out (by omega)) (below1 _ _))).c1⟩ (fun hHeld2 => ?_)
            clear hK K
            refine wpAnyH_done (by kernel_rfl) ?_ _
            go_wp2_with fail
            go_meet
            exact ⟨_, _, rfl, rfl, rfl, (SB.newAt (by first | rfl | simp)), (SB.below (SB.set2 Y29_z.out) (below1 _ _)), by omega, by omega, by omega, (Below.tr (belowS2 Y29.out (by omega)) (below1 _ _))⟩
          · skip
            go_simp
            refine hK.out _ _ ⟨(LB.below N0.out.1 (Below.tr Y28.out (below1 _ _))).c0, (LB.below N0.out.1 (Below.tr Y28.out (below1 _ _))).c1, (LB.below N0.out.2.1 (Below.tr Y28.out (below1 _ _))).c0, (LB.below N0.out.2.1 (Below.tr Y28.out (below1 _ _))).c1⟩ (fun hHeld2 => ?_)
            clear hK K
            refine wpAnyH_ready (rs := [4]) (by kernel_rfl) (by simp) ?_
            refine AllReadyH.cons rfl (fun K hK => ?_) AllReadyH.nil
            go_simp
            refine (splitM_any _ _ _ _ _).mono ?_
            rw [HQ.out]
            rintro e y30 ⟨rfl, hb⟩
            have Y30 := Lib.hid (Below.tr (Below.tr Y28.out (below1 _ _)) hb)
            have Y30z := Y30.out.size
            have Y30_z := Lib.hid (SB.below (SB.below Y28_z.out (below1 _ _)) hb)
            have Y30_zx := Y30_z.out.c0
            have Y30_zy := Y30_z.out.c1
            have Y30_zf := Y30_z.out.f 0
            have Y30_zh := Y30_z.out.f 1
            have Y30_zl := Y30_z.out.lt
            have Y30_w := Lib.hid (SB.below (SB.newAt (by first | rfl | simp)) hb)
            have Y30_wx := Y30_w.out.c0
            have Y30_wy := Y30_w.out.c1
            have Y30_wf := Y30_w.out.f 0
            have Y30_wh := Y30_w.out.f 1
            have Y30_wl := Y30_w.out.lt
            have Y30ne01 : v0.heap.size ≠ y28.heap.size := by omega
            have Y30ne10 : y28.heap.size ≠ v0.heap.size := by omega
            clear hb
            refine hK.out _ _ ⟨(LB.below N0.out.1 Y30.out).c0, (LB.below N0.out.1 Y30.out).c1, (LB.below N0.out.2.1 Y30.out).c0, (LB.below N0.out.2.1 Y30.out).c1⟩ (fun hHeld2 => ?_)
            clear hK K
            refine wpAnyH_take (i := 5) (v := ?_) rfl (by kernel_rfl) (by kernel_rfl) (by kernel_rfl) (fun _ _ _ h => h) (Or.inl ⟨by rfl, ?_⟩) (by assumption) ?_
            rotate_left
            · intro W hSw
              try dsimp only at hSw
              go_simp
              try with_reducible rfl
            refine wpAnyH_take (i := 6) (v := ?_) rfl (by kernel_rfl) (by kernel_rfl) (by kernel_rfl) (fun _ _ _ h => h) (Or.inl ⟨by rfl, ?_⟩) (by assumption) ?_
            rotate_left
            · intro W hSw
              try dsimp only at hSw
              go_simp
              try with_reducible rfl
            refine wpAnyH_take (i := 7) (v := ?_) rfl (by kernel_rfl) (by kernel_rfl) (by kernel_rfl) (fun _ _ _ h => h) (Or.inl ⟨by rfl, ?_⟩) (by assumption) ?_
            rotate_left
            · intro W hSw
              try dsimp only at hSw
              go_simp
              try with_reducible rfl
            refine wpAnyH_take (i := 8) (v := ?_) rfl (by kernel_rfl) (by kernel_rfl) (by kernel_rfl) (fun _ _ _ h => h) (Or.inl ⟨by rfl, ?_⟩) (by assumption) ?_
            rotate_left
            · intro W hSw
              try dsimp only at hSw
              go_simp
              try with_reducible rfl
            refine wpAnyH_ready (rs := [11]) (by kernel_rfl) (by simp) ?_
            refine AllReadyH.cons rfl (fun K hK => ?_) AllReadyH.nil
            go_simp
            refine hK.out _ _ ⟨(LB.below N0.out.1 (belowS2 Y30.out (by omega))).c0, (LB.below N0.out.1 (belowS2 Y30.out (by omega))).c1, (LB.below N0.out.2.1 (belowS2 Y30.out (by omega))).c0, (LB.below N0.out.2.1 (belowS2 Y30.out (by omega))).c1⟩ (fun hHeld2 => ?_)
            clear hK K
            refine wpAnyH_ready (rs := [12]) (by kernel_rfl) (by simp) ?_
            refine AllReadyH.cons rfl (fun K hK => ?_) AllReadyH.nil
            go_simp
            refine hK.out _ _ ⟨(LB.below N0.out.1 (belowS2 (belowS2 Y30.out (by omega)) (by omega))).c0, (LB.below N0.out.1 (belowS2 (belowS2 Y30.out (by omega)) (by omega))).c1, (LB.below N0.out.2.1 (belowS2 (belowS2 Y30.out (by omega)) (by omega))).c0, (LB.below N0.out.2.1 (belowS2 (belowS2 Y30.out (by omega)) (by omega))).c1⟩ (fun hHeld2 => ?_)
            clear hK K
            refine wpAnyH_ready (rs := [13]) (by kernel_rfl) (by simp) ?_
            refine AllReadyH.cons rfl (fun K hK => ?_) AllReadyH.nil
            go_simp
            refine hK.out _ _ ⟨(LB.below N0.out.1 (belowS2 (belowS2 Y30.out (by omega)) (by omega))).c0, (LB.below N0.out.1 (belowS2 (belowS2 Y30.out (by omega)) (by omega))).c1, (LB.below N0.out.2.1 (belowS2 (belowS2 Y30.out (by omega)) (by omega))).c0, (LB.below N0.out.2.1 (belowS2 (belowS2 Y30.out (by omega)) (by omega))).c1⟩ (fun hHeld2 => ?_)
            clear hK K
            refine wpAnyH_done (by kernel_rfl) ?_ _
            go_wp2_with fail
            go_meet
            exact ⟨_, _, rfl, rfl, rfl, (SB.far2 (SB.set2 Y30_w.out) (by omega)), (SB.set2 (SB.far2 Y30_z.out (by omega))), by omega, by omega, by omega, (belowS2 (belowS2 Y30.out (by omega)) (by omega))⟩
        · skip
          go_simp
          refine hK.out _ _ ⟨(LB.below N0.out.1 (Below.tr Y27.out (below1 _ _))).c0, (LB.below N0.out.1 (Below.tr Y27.out (below1 _ _))).c1, (LB.below N0.out.2.1 (Below.tr Y27.out (below1 _ _))).c0, (LB.below N0.out.2.1 (Below.tr Y27.out (below1 _ _))).c1⟩ (fun hHeld2 => ?_)
          clear hK K
          refine wpAnyH_ready (rs := [3]) (by kernel_rfl) (by simp) ?_
          refine AllReadyH.cons rfl (fun K hK => ?_) AllReadyH.nil
          go_simp
          refine (toSt_any _ _ _).mono ?_
          rintro e y31 ⟨rfl, hb⟩
          have Y31 := Lib.hid (Below.tr (Below.tr Y27.out (below1 _ _)) hb)
          have Y31z := Y31.out.size
          have Y31_z := Lib.hid (SB.below (SB.below Y27_z.out (below1 _ _)) hb)
          have Y31_zx := Y31_z.out.c0
          have Y31_zy := Y31_z.out.c1
          have Y31_zf := Y31_z.out.f 0
          have Y31_zh := Y31_z.out.f 1
          have Y31_zl := Y31_z.out.lt
          have Y31_w := Lib.hid (SB.below (SB.newAt (by first | rfl | simp)) hb)
          have Y31_wx := Y31_w.out.c0
          have Y31_wy := Y31_w.out.c1
          have Y31_wf := Y31_w.out.f 0
          have Y31_wh := Y31_w.out.f 1
          have Y31_wl := Y31_w.out.lt
          have Y31ne01 : v0.heap.size ≠ y27.heap.size := by omega
          have Y31ne10 : y27.heap.size ≠ v0.heap.size := by omega
          clear hb
          refine hK.out _ _ ⟨(LB.below N0.out.1 Y31.out).c0, (LB.below N0.out.1 Y31.out).c1, (LB.below N0.out.2.1 Y31.out).c0, (LB.below N0.out.2.1 Y31.out).c1⟩ (fun hHeld2 => ?_)
          clear hK K
          refine wpAnyH_ready (rs := [4]) (by kernel_rfl) (by simp) ?_
          refine AllReadyH.cons rfl (fun K hK => ?_) AllReadyH.nil
          go_simp
          refine (splitM_any _ _ _ _ _).mono ?_
          rw [HQ.out]
          rintro e y32 ⟨rfl, hb⟩
          have Y32 := Lib.hid (Below.tr Y31.out hb)
          have Y32z := Y32.out.size
          have Y32_z := Lib.hid (SB.below Y31_z.out hb)
          have Y32_zx := Y32_z.out.c0
          have Y32_zy := Y32_z.out.c1
          have Y32_zf := Y32_z.out.f 0
          have Y32_zh := Y32_z.out.f 1
          have Y32_zl := Y32_z.out.lt
          have Y32_w := Lib.hid (SB.below Y31_w.out hb)
          have Y32_wx := Y32_w.out.c0
          have Y32_wy := Y32_w.out.c1
          have Y32_wf := Y32_w.out.f 0
          have Y32_wh := Y32_w.out.f 1
          have Y32_wl := Y32_w.out.lt
          have Y32ne01 : v0.heap.size ≠ y27.heap.size := by omega
          have Y32ne10 : y27.heap.size ≠ v0.heap.size := by omega
          clear hb
          refine hK.out _ _ ⟨(LB.below N0.out.1 Y32.out).c0, (LB.below N0.out.1 Y32.out).c1, (LB.below N0.out.2.1 Y32.out).c0, (LB.below N0.out.2.1 Y32.out).c1⟩ (fun hHeld2 => ?_)
          clear hK K
          refine wpAnyH_take (i := 5) (v := ?_) rfl (by kernel_rfl) (by kernel_rfl) (by kernel_rfl) (fun _ _ _ h => h) (Or.inl ⟨by rfl, ?_⟩) (by assumption) ?_
          rotate_left
          · intro W hSw
            try dsimp only at hSw
            go_simp
            try with_reducible rfl
          refine wpAnyH_take (i := 6) (v := ?_) rfl (by kernel_rfl) (by kernel_rfl) (by kernel_rfl) (fun _ _ _ h => h) (Or.inl ⟨by rfl, ?_⟩) (by assumption) ?_
          rotate_left
          · intro W hSw
            try dsimp only at hSw
            go_simp
            try with_reducible rfl
          refine wpAnyH_take (i := 7) (v := ?_) rfl (by kernel_rfl) (by kernel_rfl) (by kernel_rfl) (fun _ _ _ h => h) (Or.inl ⟨by rfl, ?_⟩) (by assumption) ?_
          rotate_left
          · intro W hSw
            try dsimp only at hSw
            go_simp
            try with_reducible rfl
          refine wpAnyH_take (i := 8) (v := ?_) rfl (by kernel_rfl) (by kernel_rfl) (by kernel_rfl) (fun _ _ _ h => h) (Or.inl ⟨by rfl, ?_⟩) (by assumption) ?_
          rotate_left
          · intro W hSw
            try dsimp only at hSw
            go_simp
            try with_reducible rfl
          refine wpAnyH_ready (rs := [11]) (by kernel_rfl) (by simp) ?_
          refine AllReadyH.cons rfl (fun K hK => ?_) AllReadyH.nil
          go_simp
          refine hK.out _ _ ⟨(LB.below N0.out.1 (belowS2 Y32.out (by omega))).c0, (LB.below N0.out.1 (belowS2 Y32.out (by omega))).c1, (LB.below N0.out.2.1 (belowS2 Y32.out (by omega))).c0, (LB.below N0.out.2.1 (belowS2 Y32.out (by omega))).c1⟩ (fun hHeld2 => ?_)
          clear hK K
          refine wpAnyH_ready (rs := [12]) (by kernel_rfl) (by simp) ?_
          refine AllReadyH.cons rfl (fun K hK => ?_) AllReadyH.nil
          go_simp
          refine hK.out _ _ ⟨(LB.below N0.out.1 (belowS2 (belowS2 Y32.out (by omega)) (by omega))).c0, (LB.below N0.out.1 (belowS2 (belowS2 Y32.out (by omega)) (by omega))).c1, (LB.below N0.out.2.1 (belowS2 (belowS2 Y32.out (by omega)) (by omega))).c0, (LB.below N0.out.2.1 (belowS2 (belowS2 Y32.out (by omega)) (by omega))).c1⟩ (fun hHeld2 => ?_)
          clear hK K
          refine wpAnyH_ready (rs := [13]) (by kernel_rfl) (by simp) ?_
          refine AllReadyH.cons rfl (fun K hK => ?_) AllReadyH.nil
          go_simp
          refine hK.out _ _ ⟨(LB.below N0.out.1 (belowS2 (belowS2 Y32.out (by omega)) (by omega))).c0, (LB.below N0.out.1 (belowS2 (belowS2 Y32.out (by omega)) (by omega))).c1, (LB.below N0.out.2.1 (belowS2 (belowS2 Y32.out (by omega)) (by omega))).c0, (LB.below N0.out.2.1 (belowS2 (belowS2 Y32.out (by omega)) (by omega))).c1⟩ (fun hHeld2 => ?_)
          clear hK K
          refine wpAnyH_done (by kernel_rfl) ?_ _
          go_wp2_with fail
          go_meet
          exact ⟨_, _, rfl, rfl, rfl, (SB.far2 (SB.set2 Y32_w.out) (by omega)), (SB.set2 (SB.far2 Y32_z.out (by omega))), by omega, by omega, by omega, (belowS2 (belowS2 Y32.out (by omega)) (by omega))⟩
      · skip
        go_simp
        refine hK.out _ _ ⟨(LB.below N0.out.1 (Below.tr (Below.tr D0.out (below1 _ _)) (below1 _ _))).c0, (LB.below N0.out.1 (Below.tr (Below.tr D0.out (below1 _ _)) (below1 _ _))).c1, (LB.below N0.out.2.1 (Below.tr (Below.tr D0.out (below1 _ _)) (below1 _ _))).c0, (LB.below N0.out.2.1 (Below.tr (Below.tr D0.out (below1 _ _)) (below1 _ _))).c1⟩ (fun hHeld2 => ?_)
        clear hK K
        refine wpAnyH_ready (rs := [1]) (by kernel_rfl) (by simp) ?_
        refine AllReadyH.cons rfl (fun K hK => ?_) AllReadyH.nil
        go_simp
        refine (toSt_any _ _ _).mono ?_
        rintro e y33 ⟨rfl, hb⟩
        have Y33 := Lib.hid (Below.tr (Below.drew (Below.tr (Below.tr D0.out (below1 _ _)) (below1 _ _))) hb)
        have Y33z := Y33.out.size
        have Y33_z := Lib.hid (SB.below (SB.drewn (SB.below (SB.newAt (by first | rfl | simp)) (below1 _ _))) hb)
        have Y33_zx := Y33_z.out.c0
        have Y33_zy := Y33_z.out.c1
        have Y33_zf := Y33_z.out.f 0
        have Y33_zh := Y33_z.out.f 1
        have Y33_zl := Y33_z.out.lt
        have Y33_w := Lib.hid (SB.below (SB.drewn (SB.newAt1 (by first | rfl | simp))) hb)
        have Y33_wx := Y33_w.out.c0
        have Y33_wy := Y33_w.out.c1
        have Y33_wf := Y33_w.out.f 0
        have Y33_wh := Y33_w.out.f 1
        have Y33_wl := Y33_w.out.lt
        have Y33ne01 : v0.heap.size ≠ v0.heap.size + 1 := by omega
        have Y33ne10 : v0.heap.size + 1 ≠ v0.heap.size := by omega
        clear hb
        refine hK.out _ _ ⟨(LB.below N0.out.1 Y33.out).c0, (LB.below N0.out.1 Y33.out).c1, (LB.below N0.out.2.1 Y33.out).c0, (LB.below N0.out.2.1 Y33.out).c1⟩ (fun hHeld2 => ?_)
        clear hK K
        refine wpAnyH_ready (rs := [3]) (by kernel_rfl) (by simp) ?_
        refine AllReadyH.cons rfl (fun K hK => ?_) AllReadyH.nil
        go_simp
        refine (toSt_any _ _ _).mono ?_
        rintro e y34 ⟨rfl, hb⟩
        have Y34 := Lib.hid (Below.tr Y33.out hb)
        have Y34z := Y34.out.size
        have Y34_z := Lib.hid (SB.below Y33_z.out hb)
        have Y34_zx := Y34_z.out.c0
        have Y34_zy := Y34_z.out.c1
        have Y34_zf := Y34_z.out.f 0
        have Y34_zh := Y34_z.out.f 1
        have Y34_zl := Y34_z.out.lt
        have Y34_w := Lib.hid (SB.below Y33_w.out hb)
        have Y34_wx := Y34_w.out.c0
        have Y34_wy := Y34_w.out.c1
        have Y34_wf := Y34_w.out.f 0
        have Y34_wh := Y34_w.out.f 1
        have Y34_wl := Y34_w.out.lt
        have Y34ne01 : v0.heap.size ≠ v0.heap.size + 1 := by omega
        have Y34ne10 : v0.heap.size + 1 ≠ v0.heap.size := by omega
        clear hb
        refine hK.out _ _ ⟨(LB.below N0.out.1 Y34.out).c0, (LB.below N0.out.1 Y34.out).c1, (LB.below N0.out.2.1 Y34.out).c0, (LB.below N0.out.2.1 Y34.out).c1⟩ (fun hHeld2 => ?_)
        clear hK K
        refine wpAnyH_ready (rs := [4]) (by kernel_rfl) (by simp) ?_
        refine AllReadyH.cons rfl (fun K hK => ?_) AllReadyH.nil
        go_simp
        refine (splitM_any _ _ _ _ _).mono ?_
        rw [HQ.out]
        rintro e y35 ⟨rfl, hb⟩
        have Y35 := Lib.hid (Below.tr Y34.out hb)
        have Y35z := Y35.out.size
        have Y35_z := Lib.hid (SB.below Y34_z.out hb)
        have Y35_zx := Y35_z.out.c0
        have Y35_zy := Y35_z.out.c1
        have Y35_zf := Y35_z.out.f 0
        have Y35_zh := Y35_z.out.f 1
        have Y35_zl := Y35_z.out.lt
        have Y35_w := Lib.hid (SB.below Y34_w.out hb)
        have Y35_wx := Y35_w.out.c0
        have Y35_wy := Y35_w.out.c1
        have Y35_wf := Y35_w.out.f 0
        have Y35_wh := Y35_w.out.f 1
        have Y35_wl := Y35_w.out.lt
        have Y35ne01 : v0.heap.size ≠ v0.heap.size + 1 := by omega
        have Y35ne10 : v0.heap.size + 1 ≠ v0.heap.size := by omega
        clear hb
        refine hK.out _ _ ⟨(LB.below N0.out.1 Y35.out).c0, (LB.below N0.out.1 Y35.out).c1, (LB.below N0.out.2.1 Y35.out).c0, (LB.below N0.out.2.1 Y35.out).c1⟩ (fun hHeld2 => ?_)
        clear hK K
        refine wpAnyH_take (i := 5) (v := ?_) rfl (by kernel_rfl) (by kernel_rfl) (by kernel_rfl) (fun _ _ _ h => h) (Or.inl ⟨by rfl, ?_⟩) (by assumption) ?_
        rotate_left
        · intro W hSw
          try dsimp only at hSw
          go_simp
          try with_reducible rfl
        refine wpAnyH_take (i := 6) (v := ?_) rfl (by kernel_rfl) (by kernel_rfl) (by kernel_rfl) (fun _ _ _ h => h) (Or.inl ⟨by rfl, ?_⟩) (by assumption) ?_
        rotate_left
        · intro W hSw
          try dsimp only at hSw
          go_simp
          try with_reducible rfl
        refine wpAnyH_take (i := 7) (v := ?_) rfl (by kernel_rfl) (by kernel_rfl) (by kernel_rfl) (fun _ _ _ h => h) (Or.inl ⟨by rfl, ?_⟩) (by assumption) ?_
        rotate_left
        · intro W hSw
          try dsimp only at hSw
          go_simp
          try with_reducible rfl
        refine wpAnyH_take (i := 8) (v := ?_) rfl (by kernel_rfl) (by kernel_rfl) (by kernel_rfl) (fun _ _ _ h => h) (Or.inl ⟨by rfl, ?_⟩) (by assumption) ?_
        rotate_left
        · intro W hSw
          try dsimp only at hSw
          go_simp
          try with_reducible rfl
        refine wpAnyH_ready (rs := [11]) (by kernel_rfl) (by simp) ?_
        refine AllReadyH.cons rfl (fun K hK => ?_) AllReadyH.nil
        go_simp
        refine hK.out _ _ ⟨(LB.below N0.out.1 (belowS2 Y35.out (by omega))).c0, (LB.below N0.out.1 (belowS2 Y35.out (by omega))).c1, (LB.below N0.out.2.1 (belowS2 Y35.out (by omega))).c0, (LB.below N0.out.2.1 (belowS2 Y35.out (by omega))).c1⟩ (fun hHeld2 => ?_)
        clear hK K
        refine wpAnyH_ready (rs := [12]) (by kernel_rfl) (by simp) ?_
        refine AllReadyH.cons rfl (fun K hK => ?_) AllReadyH.nil
        go_simp
        refine hK.out _ _ ⟨(LB.below N0.out.1 (belowS2 (belowS2 Y35.out (by omega)) (by omega))).c0, (LB.below N0.out.1 (belowS2 (belowS2 Y35.out (by omega)) (by omega))).c1, (LB.below N0.out.2.1 (belowS2 (belowS2 Y35.out (by omega)) (by omega))).c0, (LB.below N0.out.2.1 (belowS2 (belowS2 Y35.out (by omega)) (by omega))).c1⟩ (fun hHeld2 => ?_)
        clear hK K
        refine wpAnyH_ready (rs := [13]) (by kernel_rfl) (by simp) ?_
        refine AllReadyH.cons rfl (fun K hK => ?_) AllReadyH.nil
        go_simp
        refine hK.out _ _ ⟨(LB.below N0.out.1 (belowS2 (belowS2 Y35.out (by omega)) (by omega))).c0, (LB.below N0.out.1 (belowS2 (belowS2 Y35.out (by omega)) (by omega))).c1, (LB.below N0.out.2.1 (belowS2 (belowS2 Y35.out (by omega)) (by omega))).c0, (LB.below N0.out.2.1 (belowS2 (belowS2 Y35.out (by omega)) (by omega))).c1⟩ (fun hHeld2 => ?_)
        clear hK K
        refine wpAnyH_done (by kernel_rfl) ?_ _
        go_wp2_with fail
        go_meet
        exact ⟨_, _, rfl, rfl, rfl, (SB.far2 (SB.set2 Y35_w.out) (by omega)), (SB.set2 (SB.far2 Y35_z.out (by omega))), by omega, by omega, by omega, (belowS2 (belowS2 Y35.out (by omega)) (by omega))⟩
  case rest =>
    obtain ⟨gw, gz, rfl, rfl, rfl, hs, ht, hgw, hgz, hgwz, hb⟩ := hcut
    obtain ⟨v1, hv⟩ : ∃ x, x = wc := ⟨_, rfl⟩
    subst hv
    have D1 := Lib.hid hb
    have S1 := Lib.hid hs
    have T1 := Lib.hid ht
    have D1z := D1.out.size
    clear hs ht hb
    have sx := S1.out.lt
    have tx := T1.out.lt
    have hn1 : gw ≠ gz := hgwz
    have hn2 : gz ≠ gw := Ne.symm hgwz
    go_upto_region 2 with fail
    go_cut [8, 9, 10] (fun s5 s6 s7 wx => ∃ g h, s5 = .pointer (some ⟨g, 0, none⟩) ∧ s6 = .pointer (some ⟨h, 0, none⟩) ∧ s7 = .bool ok ∧ SB wx g x y ∧ SB wx h x' y' ∧ SB wx gw x y ∧ SB wx gz x' y' ∧ Below v0.heap.size v0 wx)
    case first =>
      refine wp_region_held_drew (S := fun W => W.cell? ⟨w.heap.size, 0, none⟩ = some (.int .i64 al) ∧ W.cell? ⟨w.heap.size, 1, none⟩ = some (.int .i64 ah) ∧ W.cell? ⟨w.heap.size + 1, 0, none⟩ = some (.int .i64 bl) ∧ W.cell? ⟨w.heap.size + 1, 1, none⟩ = some (.int .i64 bh)) (by kernel_rfl) ?_ (fun hHeld => ?_)
      · exact ⟨(LB.below N0.out.1 D1.out).c0, (LB.below N0.out.1 D1.out).c1, (LB.below N0.out.2.1 D1.out).c0, (LB.below N0.out.2.1 D1.out).c1⟩
      refine wpAnyH_take (i := 0) (v := ?_) rfl (by kernel_rfl) (by kernel_rfl) (by kernel_rfl) (fun _ _ _ h => h) (Or.inl ⟨by rfl, ?_⟩) (by assumption) ?_
      rotate_left
      · intro W hSw
        try dsimp only at hSw
        go_simp
        try with_reducible rfl
      refine wpAnyH_take (i := 2) (v := ?_) rfl (by kernel_rfl) (by kernel_rfl) (by kernel_rfl) (fun _ _ _ h => h) (Or.inl ⟨by rfl, ?_⟩) (by assumption) ?_
      rotate_left
      · intro W hSw
        try dsimp only at hSw
        go_simp
        try with_reducible rfl
      refine wpAnyH_ready (rs := [1, 9, 10]) (by kernel_rfl) (by simp) ?_
      refine AllReadyH.cons rfl (fun K hK => ?_) (AllReadyH.cons rfl (fun K hK => ?_) (AllReadyH.cons rfl (fun K hK => ?_) AllReadyH.nil))
      · skip
        go_simp
        refine (toSt_any _ _ _).mono ?_
        rintro e y1 ⟨rfl, hb⟩
        have Y1 := Lib.hid (Below.tr (Below.drew D1.out) hb)
        have Y1z := Y1.out.size
        have Y1_w := Lib.hid (SB.below (SB.drewn S1.out) hb)
        have Y1_wx := Y1_w.out.c0
        have Y1_wy := Y1_w.out.c1
        have Y1_wf := Y1_w.out.f 0
        have Y1_wh := Y1_w.out.f 1
        have Y1_wl := Y1_w.out.lt
        have Y1_z := Lib.hid (SB.below (SB.drewn T1.out) hb)
        have Y1_zx := Y1_z.out.c0
        have Y1_zy := Y1_z.out.c1
        have Y1_zf := Y1_z.out.f 0
        have Y1_zh := Y1_z.out.f 1
        have Y1_zl := Y1_z.out.lt
        have Y1ne01 : gw ≠ gz := by omega
        have Y1ne10 : gz ≠ gw := by omega
        clear hb
        refine hK.out _ _ ⟨(LB.below N0.out.1 Y1.out).c0, (LB.below N0.out.1 Y1.out).c1, (LB.below N0.out.2.1 Y1.out).c0, (LB.below N0.out.2.1 Y1.out).c1⟩ (fun hHeld2 => ?_)
        clear hK K
        refine wpAnyH_ready (rs := [3, 9, 10]) (by kernel_rfl) (by simp) ?_
        refine AllReadyH.cons rfl (fun K hK => ?_) (AllReadyH.cons rfl (fun K hK => ?_) (AllReadyH.cons rfl (fun K hK => ?_) AllReadyH.nil))
        · skip
          go_simp
          refine (toSt_any _ _ _).mono ?_
          rintro e y2 ⟨rfl, hb⟩
          have Y2 := Lib.hid (Below.tr Y1.out hb)
          have Y2z := Y2.out.size
          have Y2_w := Lib.hid (SB.below Y1_w.out hb)
          have Y2_wx := Y2_w.out.c0
          have Y2_wy := Y2_w.out.c1
          have Y2_wf := Y2_w.out.f 0
          have Y2_wh := Y2_w.out.f 1
          have Y2_wl := Y2_w.out.lt
          have Y2_z := Lib.hid (SB.below Y1_z.out hb)
          have Y2_zx := Y2_z.out.c0
          have Y2_zy := Y2_z.out.c1
          have Y2_zf := Y2_z.out.f 0
          have Y2_zh := Y2_z.out.f 1
          have Y2_zl := Y2_z.out.lt
          have Y2ne01 : gw ≠ gz := by omega
          have Y2ne10 : gz ≠ gw := by omega
          clear hb
          refine hK.out _ _ ⟨(LB.below N0.out.1 Y2.out).c0, (LB.below N0.out.1 Y2.out).c1, (LB.below N0.out.2.1 Y2.out).c0, (LB.below N0.out.2.1 Y2.out).c1⟩ (fun hHeld2 => ?_)
          clear hK K
          refine wpAnyH_ready (rs := [4, 9, 10]) (by kernel_rfl) (by simp) ?_
          refine AllReadyH.cons rfl (fun K hK => ?_) (AllReadyH.cons rfl (fun K hK => ?_) (AllReadyH.cons rfl (fun K hK => ?_) AllReadyH.nil))
          · skip
            go_simp
            refine (splitI_any _ _ _ _ _).mono ?_
            rw [HQ.out]
            rintro e y3 ⟨rfl, hb⟩
            have Y3 := Lib.hid (Below.tr Y2.out hb)
            have Y3z := Y3.out.size
            have Y3_w := Lib.hid (SB.below Y2_w.out hb)
            have Y3_wx := Y3_w.out.c0
            have Y3_wy := Y3_w.out.c1
            have Y3_wf := Y3_w.out.f 0
            have Y3_wh := Y3_w.out.f 1
            have Y3_wl := Y3_w.out.lt
            have Y3_z := Lib.hid (SB.below Y2_z.out hb)
            have Y3_zx := Y3_z.out.c0
            have Y3_zy := Y3_z.out.c1
            have Y3_zf := Y3_z.out.f 0
            have Y3_zh := Y3_z.out.f 1
            have Y3_zl := Y3_z.out.lt
            have Y3ne01 : gw ≠ gz := by omega
            have Y3ne10 : gz ≠ gw := by omega
            clear hb
            refine hK.out _ _ ⟨(LB.below N0.out.1 Y3.out).c0, (LB.below N0.out.1 Y3.out).c1, (LB.below N0.out.2.1 Y3.out).c0, (LB.below N0.out.2.1 Y3.out).c1⟩ (fun hHeld2 => ?_)
            clear hK K
            refine wpAnyH_take (i := 5) (v := ?_) rfl (by kernel_rfl) (by kernel_rfl) (by kernel_rfl) (fun _ _ _ h => h) (Or.inl ⟨by rfl, ?_⟩) (by assumption) ?_
            rotate_left
            · intro W hSw
              try dsimp only at hSw
              go_simp
              try with_reducible rfl
            refine wpAnyH_take (i := 6) (v := ?_) rfl (by kernel_rfl) (by kernel_rfl) (by kernel_rfl) (fun _ _ _ h => h) (Or.inl ⟨by rfl, ?_⟩) (by assumption) ?_
            rotate_left
            · intro W hSw
              try dsimp only at hSw
              go_simp
              try with_reducible rfl
            refine wpAnyH_take (i := 7) (v := ?_) rfl (by kernel_rfl) (by kernel_rfl) (by kernel_rfl) (fun _ _ _ h => h) (Or.inl ⟨by rfl, ?_⟩) (by assumption) ?_
            rotate_left
            · intro W hSw
              try dsimp only at hSw
              go_simp
              try with_reducible rfl
            refine wpAnyH_take (i := 8) (v := ?_) rfl (by kernel_rfl) (by kernel_rfl) (by kernel_rfl) (fun _ _ _ h => h) (Or.inl ⟨by rfl, ?_⟩) (by assumption) ?_
            rotate_left
            · intro W hSw
              try dsimp only at hSw
              go_simp
              try with_reducible rfl
            refine wpAnyH_ready (rs := [9, 10]) (by kernel_rfl) (by simp) ?_
            refine AllReadyH.cons rfl (fun K hK => ?_) (AllReadyH.cons rfl (fun K hK => ?_) AllReadyH.nil)
            · skip
              go_simp
              refine hK.out _ _ ⟨(LB.below N0.out.1 (Below.tr Y3.out (below1 _ _))).c0, (LB.below N0.out.1 (Below.tr Y3.out (below1 _ _))).c1, (LB.below N0.out.2.1 (Below.tr Y3.out (below1 _ _))).c0, (LB.below N0.out.2.1 (Below.tr Y3.out (below1 _ _))).c1⟩ (fun hHeld2 => ?_)
              clear hK K
              refine wpAnyH_ready (rs := [10]) (by kernel_rfl) (by simp) ?_
              refine AllReadyH.cons rfl (fun K hK => ?_) AllReadyH.nil
              go_simp
              refine hK.out _ _ ⟨(LB.below N0.out.1 (Below.tr (Below.tr Y3.out (below1 _ _)) (below1 _ _))).c0, (LB.below N0.out.1 (Below.tr (Below.tr Y3.out (below1 _ _)) (below1 _ _))).c1, (LB.below N0.out.2.1 (Below.tr (Below.tr Y3.out (below1 _ _)) (below1 _ _))).c0, (LB.below N0.out.2.1 (Below.tr (Below.tr Y3.out (below1 _ _)) (below1 _ _))).c1⟩ (fun hHeld2 => ?_)
              clear hK K
              refine wpAnyH_ready (rs := [11]) (by kernel_rfl) (by simp) ?_
              refine AllReadyH.cons rfl (fun K hK => ?_) AllReadyH.nil
              go_simp
              refine hK.out _ _ ⟨(LB.below N0.out.1 (Below.tr (Below.tr Y3.out (below1 _ _)) (below1 _ _))).c0, (LB.below N0.out.1 (Below.tr (Below.tr Y3.out (below1 _ _)) (below1 _ _))).c1, (LB.below N0.out.2.1 (Below.tr (Below.tr Y3.out (below1 _ _)) (below1 _ _))).c0, (LB.below N0.out.2.1 (Below.tr (Below.tr Y3.out (below1 _ _)) (below1 _ _))).c1⟩ (fun hHeld2 => ?_)
              clear hK K
              refine wpAnyH_ready (rs := [12]) (by kernel_rfl) (by simp) ?_
              refine AllReadyH.cons rfl (fun K hK => ?_) AllReadyH.nil
              go_simp
              refine hK.out _ _ ⟨(LB.below N0.out.1 (Below.tr (Below.tr Y3.out (below1 _ _)) (below1 _ _))).c0, (LB.below N0.out.1 (Below.tr (Below.tr Y3.out (below1 _ _)) (below1 _ _))).c1, (LB.below N0.out.2.1 (Below.tr (Below.tr Y3.out (below1 _ _)) (below1 _ _))).c0, (LB.below N0.out.2.1 (Below.tr (Below.tr Y3.out (below1 _ _)) (below1 _ _))).c1⟩ (fun hHeld2 => ?_)
              clear hK K
              refine wpAnyH_ready (rs := [13]) (by kernel_rfl) (by simp) ?_
              refine AllReadyH.cons rfl (fun K hK => ?_) AllReadyH.nil
              go_simp
              refine hK.out _ _ ⟨(LB.below N0.out.1 (Below.tr (Below.tr Y3.out (below1 _ _)) (below1 _ _))).c0, (LB.below N0.out.1 (Below.tr (Below.tr Y3.out (below1 _ _)) (below1 _ _))).c1, (LB.below N0.out.2.1 (Below.tr (Below.tr Y3.out (below1 _ _)) (below1 _ _))).c0, (LB.below N0.out.2.1 (Below.tr (Below.tr Y3.out (below1 _ _)) (below1 _ _))).c1⟩ (fun hHeld2 => ?_)
              clear hK K
              refine wpAnyH_done (by kernel_rfl) ?_ _
              go_wp2_with fail
              go_meet
              exact ⟨_, _, rfl, rfl, rfl, (SB.below (SB.newAt (by first | rfl | simp)) (below1 _ _)), (SB.newAt1 (by first | rfl | simp)), (SB.below (SB.below Y3_w.out (below1 _ _)) (below1 _ _)), (SB.below (SB.below Y3_z.out (below1 _ _)) (below1 _ _)), (Below.tr (Below.tr Y3.out (below1 _ _)) (below1 _ _))⟩
            · skip
              go_simp
              refine hK.out _ _ ⟨(LB.below N0.out.1 (Below.tr Y3.out (below1 _ _))).c0, (LB.below N0.out.1 (Below.tr Y3.out (below1 _ _))).c1, (LB.below N0.out.2.1 (Below.tr Y3.out (below1 _ _))).c0, (LB.below N0.out.2.1 (Below.tr Y3.out (below1 _ _))).c1⟩ (fun hHeld2 => ?_)
              clear hK K
              refine wpAnyH_ready (rs := [9]) (by kernel_rfl) (by simp) ?_
              refine AllReadyH.cons rfl (fun K hK => ?_) AllReadyH.nil
              go_simp
              refine hK.out _ _ ⟨(LB.below N0.out.1 (Below.tr (Below.tr Y3.out (below1 _ _)) (below1 _ _))).c0, (LB.below N0.out.1 (Below.tr (Below.tr Y3.out (below1 _ _)) (below1 _ _))).c1, (LB.below N0.out.2.1 (Below.tr (Below.tr Y3.out (below1 _ _)) (below1 _ _))).c0, (LB.below N0.out.2.1 (Below.tr (Below.tr Y3.out (below1 _ _)) (below1 _ _))).c1⟩ (fun hHeld2 => ?_)
              clear hK K
              refine wpAnyH_ready (rs := [11]) (by kernel_rfl) (by simp) ?_
              refine AllReadyH.cons rfl (fun K hK => ?_) AllReadyH.nil
              go_simp
              refine hK.out _ _ ⟨(LB.below N0.out.1 (Below.tr (Below.tr Y3.out (below1 _ _)) (below1 _ _))).c0, (LB.below N0.out.1 (Below.tr (Below.tr Y3.out (below1 _ _)) (below1 _ _))).c1, (LB.below N0.out.2.1 (Below.tr (Below.tr Y3.out (below1 _ _)) (below1 _ _))).c0, (LB.below N0.out.2.1 (Below.tr (Below.tr Y3.out (below1 _ _)) (below1 _ _))).c1⟩ (fun hHeld2 => ?_)
              clear hK K
              refine wpAnyH_ready (rs := [12]) (by kernel_rfl) (by simp) ?_
              refine AllReadyH.cons rfl (fun K hK => ?_) AllReadyH.nil
              go_simp
              refine hK.out _ _ ⟨(LB.below N0.out.1 (Below.tr (Below.tr Y3.out (below1 _ _)) (below1 _ _))).c0, (LB.below N0.out.1 (Below.tr (Below.tr Y3.out (below1 _ _)) (below1 _ _))).c1, (LB.below N0.out.2.1 (Below.tr (Below.tr Y3.out (below1 _ _)) (below1 _ _))).c0, (LB.below N0.out.2.1 (Below.tr (Below.tr Y3.out (below1 _ _)) (below1 _ _))).c1⟩ (fun hHeld2 => ?_)
              clear hK K
              refine wpAnyH_ready (rs := [13]) (by kernel_rfl) (by simp) ?_
              refine AllReadyH.cons rfl (fun K hK => ?_) AllReadyH.nil
              go_simp
              refine hK.out _ _ ⟨(LB.below N0.out.1 (Below.tr (Below.tr Y3.out (below1 _ _)) (below1 _ _))).c0, (LB.below N0.out.1 (Below.tr (Below.tr Y3.out (below1 _ _)) (below1 _ _))).c1, (LB.below N0.out.2.1 (Below.tr (Below.tr Y3.out (below1 _ _)) (below1 _ _))).c0, (LB.below N0.out.2.1 (Below.tr (Below.tr Y3.out (below1 _ _)) (below1 _ _))).c1⟩ (fun hHeld2 => ?_)
              clear hK K
              refine wpAnyH_done (by kernel_rfl) ?_ _
              go_wp2_with fail
              go_meet
              exact ⟨_, _, rfl, rfl, rfl, (SB.newAt1 (by first | rfl | simp)), (SB.below (SB.newAt (by first | rfl | simp)) (below1 _ _)), (SB.below (SB.below Y3_w.out (below1 _ _)) (below1 _ _)), (SB.below (SB.below Y3_z.out (below1 _ _)) (below1 _ _)), (Below.tr (Below.tr Y3.out (below1 _ _)) (below1 _ _))⟩
          · skip
            go_simp
            refine hK.out _ _ ⟨(LB.below N0.out.1 (Below.tr Y2.out (below1 _ _))).c0, (LB.below N0.out.1 (Below.tr Y2.out (below1 _ _))).c1, (LB.below N0.out.2.1 (Below.tr Y2.out (below1 _ _))).c0, (LB.below N0.out.2.1 (Below.tr Y2.out (below1 _ _))).c1⟩ (fun hHeld2 => ?_)
            clear hK K
            refine wpAnyH_ready (rs := [4, 10]) (by kernel_rfl) (by simp) ?_
            refine AllReadyH.cons rfl (fun K hK => ?_) (AllReadyH.cons rfl (fun K hK => ?_) AllReadyH.nil)
            · skip
              go_simp
              refine (splitI_any _ _ _ _ _).mono ?_
              rw [HQ.out]
              rintro e y4 ⟨rfl, hb⟩
              have Y4 := Lib.hid (Below.tr (Below.tr Y2.out (below1 _ _)) hb)
              have Y4z := Y4.out.size
              have Y4_w := Lib.hid (SB.below (SB.below Y2_w.out (below1 _ _)) hb)
              have Y4_wx := Y4_w.out.c0
              have Y4_wy := Y4_w.out.c1
              have Y4_wf := Y4_w.out.f 0
              have Y4_wh := Y4_w.out.f 1
              have Y4_wl := Y4_w.out.lt
              have Y4_z := Lib.hid (SB.below (SB.below Y2_z.out (below1 _ _)) hb)
              have Y4_zx := Y4_z.out.c0
              have Y4_zy := Y4_z.out.c1
              have Y4_zf := Y4_z.out.f 0
              have Y4_zh := Y4_z.out.f 1
              have Y4_zl := Y4_z.out.lt
              have Y4_g := Lib.hid (SB.below (SB.newAt (by first | rfl | simp)) hb)
              have Y4_gx := Y4_g.out.c0
              have Y4_gy := Y4_g.out.c1
              have Y4_gf := Y4_g.out.f 0
              have Y4_gh := Y4_g.out.f 1
              have Y4_gl := Y4_g.out.lt
              have Y4ne01 : gw ≠ gz := by omega
              have Y4ne02 : gw ≠ y2.heap.size := by omega
              have Y4ne10 : gz ≠ gw := by omega
              have Y4ne12 : gz ≠ y2.heap.size := by omega
              have Y4ne20 : y2.heap.size ≠ gw := by omega
              have Y4ne21 : y2.heap.size ≠ gz := by omega
              clear hb
              refine hK.out _ _ ⟨(LB.below N0.out.1 Y4.out).c0, (LB.below N0.out.1 Y4.out).c1, (LB.below N0.out.2.1 Y4.out).c0, (LB.below N0.out.2.1 Y4.out).c1⟩ (fun hHeld2 => ?_)
              clear hK K
              refine wpAnyH_take (i := 5) (v := ?_) rfl (by kernel_rfl) (by kernel_rfl) (by kernel_rfl) (fun _ _ _ h => h) (Or.inl ⟨by rfl, ?_⟩) (by assumption) ?_
              rotate_left
              · intro W hSw
                try dsimp only at hSw
                go_simp
                try with_reducible rfl
              refine wpAnyH_take (i := 6) (v := ?_) rfl (by kernel_rfl) (by kernel_rfl) (by kernel_rfl) (fun _ _ _ h => h) (Or.inl ⟨by rfl, ?_⟩) (by assumption) ?_
              rotate_left
              · intro W hSw
                try dsimp only at hSw
                go_simp
                try with_reducible rfl
              refine wpAnyH_take (i := 7) (v := ?_) rfl (by kernel_rfl) (by kernel_rfl) (by kernel_rfl) (fun _ _ _ h => h) (Or.inl ⟨by rfl, ?_⟩) (by assumption) ?_
              rotate_left
              · intro W hSw
                try dsimp only at hSw
                go_simp
                try with_reducible rfl
              refine wpAnyH_take (i := 8) (v := ?_) rfl (by kernel_rfl) (by kernel_rfl) (by kernel_rfl) (fun _ _ _ h => h) (Or.inl ⟨by rfl, ?_⟩) (by assumption) ?_
              rotate_left
              · intro W hSw
                try dsimp only at hSw
                go_simp
                try with_reducible rfl
              refine wpAnyH_ready (rs := [10]) (by kernel_rfl) (by simp) ?_
              refine AllReadyH.cons rfl (fun K hK => ?_) AllReadyH.nil
              go_simp
              refine hK.out _ _ ⟨(LB.below N0.out.1 (Below.tr Y4.out (below1 _ _))).c0, (LB.below N0.out.1 (Below.tr Y4.out (below1 _ _))).c1, (LB.below N0.out.2.1 (Below.tr Y4.out (below1 _ _))).c0, (LB.below N0.out.2.1 (Below.tr Y4.out (below1 _ _))).c1⟩ (fun hHeld2 => ?_)
              clear hK K
              refine wpAnyH_ready (rs := [11]) (by kernel_rfl) (by simp) ?_
              refine AllReadyH.cons rfl (fun K hK => ?_) AllReadyH.nil
              go_simp
              refine hK.out _ _ ⟨(LB.below N0.out.1 (Below.tr (belowS2 Y4.out (by omega)) (below1 _ _))).c0, (LB.below N0.out.1 (Below.tr (belowS2 Y4.out (by omega)) (below1 _ _))).c1, (LB.below N0.out.2.1 (Below.tr (belowS2 Y4.out (by omega)) (below1 _ _))).c0, (LB.below N0.out.2.1 (Below.tr (belowS2 Y4.out (by omega)) (below1 _ _))).c1⟩ (fun hHeld2 => ?_)
              clear hK K
              refine wpAnyH_ready (rs := [12]) (by kernel_rfl) (by simp) ?_
              refine AllReadyH.cons rfl (fun K hK => ?_) AllReadyH.nil
              go_simp
              refine hK.out _ _ ⟨(LB.below N0.out.1 (Below.tr (belowS2 Y4.out (by omega)) (below1 _ _))).c0, (LB.below N0.out.1 (Below.tr (belowS2 Y4.out (by omega)) (below1 _ _))).c1, (LB.below N0.out.2.1 (Below.tr (belowS2 Y4.out (by omega)) (below1 _ _))).c0, (LB.below N0.out.2.1 (Below.tr (belowS2 Y4.out (by omega)) (below1 _ _))).c1⟩ (fun hHeld2 => ?_)
              clear hK K
              refine wpAnyH_ready (rs := [13]) (by kernel_rfl) (by simp) ?_
              refine AllReadyH.cons rfl (fun K hK => ?_) AllReadyH.nil
              go_simp
              refine hK.out _ _ ⟨(LB.below N0.out.1 (Below.tr (belowS2 Y4.out (by omega)) (below1 _ _))).c0, (LB.below N0.out.1 (Below.tr (belowS2 Y4.out (by omega)) (below1 _ _))).c1, (LB.below N0.out.2.1 (Below.tr (belowS2 Y4.out (by omega)) (below1 _ _))).c0, (LB.below N0.out.2.1 (Below.tr (belowS2 Y4.out (by omega)) (below1 _ _))).c1⟩ (fun hHeld2 => ?_)
              clear hK K
              refine wpAnyH_done (by kernel_rfl) ?_ _
              go_wp2_with fail
              go_meet
              exact ⟨_, _, rfl, rfl, rfl, (SB.below (SB.set2 Y4_g.out) (below1 _ _)), (SB.newAt (by first | rfl | simp)), (SB.below (SB.far2 Y4_w.out (by omega)) (below1 _ _)), (SB.below (SB.far2 Y4_z.out (by omega)) (below1 _ _)), (Below.tr (belowS2 Y4.out (by omega)) (below1 _ _))⟩
            · skip
              go_simp
              refine hK.out _ _ ⟨(LB.below N0.out.1 (Below.tr (Below.tr Y2.out (below1 _ _)) (below1 _ _))).c0, (LB.below N0.out.1 (Below.tr (Below.tr Y2.out (below1 _ _)) (below1 _ _))).c1, (LB.below N0.out.2.1 (Below.tr (Below.tr Y2.out (below1 _ _)) (below1 _ _))).c0, (LB.below N0.out.2.1 (Below.tr (Below.tr Y2.out (below1 _ _)) (below1 _ _))).c1⟩ (fun hHeld2 => ?_)
              clear hK K
              refine wpAnyH_ready (rs := [4]) (by kernel_rfl) (by simp) ?_
              refine AllReadyH.cons rfl (fun K hK => ?_) AllReadyH.nil
              go_simp
              refine (splitI_any _ _ _ _ _).mono ?_
              rw [HQ.out]
              rintro e y5 ⟨rfl, hb⟩
              have Y5 := Lib.hid (Below.tr (Below.tr (Below.tr Y2.out (below1 _ _)) (below1 _ _)) hb)
              have Y5z := Y5.out.size
              have Y5_w := Lib.hid (SB.below (SB.below (SB.below Y2_w.out (below1 _ _)) (below1 _ _)) hb)
              have Y5_wx := Y5_w.out.c0
              have Y5_wy := Y5_w.out.c1
              have Y5_wf := Y5_w.out.f 0
              have Y5_wh := Y5_w.out.f 1
              have Y5_wl := Y5_w.out.lt
              have Y5_z := Lib.hid (SB.below (SB.below (SB.below Y2_z.out (below1 _ _)) (below1 _ _)) hb)
              have Y5_zx := Y5_z.out.c0
              have Y5_zy := Y5_z.out.c1
              have Y5_zf := Y5_z.out.f 0
              have Y5_zh := Y5_z.out.f 1
              have Y5_zl := Y5_z.out.lt
              have Y5_g := Lib.hid (SB.below (SB.below (SB.newAt (by first | rfl | simp)) (below1 _ _)) hb)
              have Y5_gx := Y5_g.out.c0
              have Y5_gy := Y5_g.out.c1
              have Y5_gf := Y5_g.out.f 0
              have Y5_gh := Y5_g.out.f 1
              have Y5_gl := Y5_g.out.lt
              have Y5_h := Lib.hid (SB.below (SB.newAt1 (by first | rfl | simp)) hb)
              have Y5_hx := Y5_h.out.c0
              have Y5_hy := Y5_h.out.c1
              have Y5_hf := Y5_h.out.f 0
              have Y5_hh := Y5_h.out.f 1
              have Y5_hl := Y5_h.out.lt
              have Y5ne01 : gw ≠ gz := by omega
              have Y5ne02 : gw ≠ y2.heap.size := by omega
              have Y5ne03 : gw ≠ y2.heap.size + 1 := by omega
              have Y5ne10 : gz ≠ gw := by omega
              have Y5ne12 : gz ≠ y2.heap.size := by omega
              have Y5ne13 : gz ≠ y2.heap.size + 1 := by omega
              have Y5ne20 : y2.heap.size ≠ gw := by omega
              have Y5ne21 : y2.heap.size ≠ gz := by omega
              have Y5ne23 : y2.heap.size ≠ y2.heap.size + 1 := by omega
              have Y5ne30 : y2.heap.size + 1 ≠ gw := by omega
              have Y5ne31 : y2.heap.size + 1 ≠ gz := by omega
              have Y5ne32 : y2.heap.size + 1 ≠ y2.heap.size := by omega
              clear hb
              refine hK.out _ _ ⟨(LB.below N0.out.1 Y5.out).c0, (LB.below N0.out.1 Y5.out).c1, (LB.below N0.out.2.1 Y5.out).c0, (LB.below N0.out.2.1 Y5.out).c1⟩ (fun hHeld2 => ?_)
              clear hK K
              refine wpAnyH_take (i := 5) (v := ?_) rfl (by kernel_rfl) (by kernel_rfl) (by kernel_rfl) (fun _ _ _ h => h) (Or.inl ⟨by rfl, ?_⟩) (by assumption) ?_
              rotate_left
              · intro W hSw
                try dsimp only at hSw
                go_simp
                try with_reducible rfl
              refine wpAnyH_take (i := 6) (v := ?_) rfl (by kernel_rfl) (by kernel_rfl) (by kernel_rfl) (fun _ _ _ h => h) (Or.inl ⟨by rfl, ?_⟩) (by assumption) ?_
              rotate_left
              · intro W hSw
                try dsimp only at hSw
                go_simp
                try with_reducible rfl
              refine wpAnyH_take (i := 7) (v := ?_) rfl (by kernel_rfl) (by kernel_rfl) (by kernel_rfl) (fun _ _ _ h => h) (Or.inl ⟨by rfl, ?_⟩) (by assumption) ?_
              rotate_left
              · intro W hSw
                try dsimp only at hSw
                go_simp
                try with_reducible rfl
              refine wpAnyH_take (i := 8) (v := ?_) rfl (by kernel_rfl) (by kernel_rfl) (by kernel_rfl) (fun _ _ _ h => h) (Or.inl ⟨by rfl, ?_⟩) (by assumption) ?_
              rotate_left
              · intro W hSw
                try dsimp only at hSw
                go_simp
                try with_reducible rfl
              refine wpAnyH_ready (rs := [11]) (by kernel_rfl) (by simp) ?_
              refine AllReadyH.cons rfl (fun K hK => ?_) AllReadyH.nil
              go_simp
              refine hK.out _ _ ⟨(LB.below N0.out.1 (belowS2 Y5.out (by omega))).c0, (LB.below N0.out.1 (belowS2 Y5.out (by omega))).c1, (LB.below N0.out.2.1 (belowS2 Y5.out (by omega))).c0, (LB.below N0.out.2.1 (belowS2 Y5.out (by omega))).c1⟩ (fun hHeld2 => ?_)
              clear hK K
              refine wpAnyH_ready (rs := [12]) (by kernel_rfl) (by simp) ?_
              refine AllReadyH.cons rfl (fun K hK => ?_) AllReadyH.nil
              go_simp
              refine hK.out _ _ ⟨(LB.below N0.out.1 (belowS2 (belowS2 Y5.out (by omega)) (by omega))).c0, (LB.below N0.out.1 (belowS2 (belowS2 Y5.out (by omega)) (by omega))).c1, (LB.below N0.out.2.1 (belowS2 (belowS2 Y5.out (by omega)) (by omega))).c0, (LB.below N0.out.2.1 (belowS2 (belowS2 Y5.out (by omega)) (by omega))).c1⟩ (fun hHeld2 => ?_)
              clear hK K
              refine wpAnyH_ready (rs := [13]) (by kernel_rfl) (by simp) ?_
              refine AllReadyH.cons rfl (fun K hK => ?_) AllReadyH.nil
              go_simp
              refine hK.out _ _ ⟨(LB.below N0.out.1 (belowS2 (belowS2 Y5.out (by omega)) (by omega))).c0, (LB.below N0.out.1 (belowS2 (belowS2 Y5.out (by omega)) (by omega))).c1, (LB.below N0.out.2.1 (belowS2 (belowS2 Y5.out (by omega)) (by omega))).c0, (LB.below N0.out.2.1 (belowS2 (belowS2 Y5.out (by omega)) (by omega))).c1⟩ (fun hHeld2 => ?_)
              clear hK K
              refine wpAnyH_done (by kernel_rfl) ?_ _
              go_wp2_with fail
              go_meet
              exact ⟨_, _, rfl, rfl, rfl, (SB.far2 (SB.set2 Y5_g.out) (by omega)), (SB.set2 (SB.far2 Y5_h.out (by omega))), (SB.far2 (SB.far2 Y5_w.out (by omega)) (by omega)), (SB.far2 (SB.far2 Y5_z.out (by omega)) (by omega)), (belowS2 (belowS2 Y5.out (by omega)) (by omega))⟩
          · skip
            go_simp
            refine hK.out _ _ ⟨(LB.below N0.out.1 (Below.tr Y2.out (below1 _ _))).c0, (LB.below N0.out.1 (Below.tr Y2.out (below1 _ _))).c1, (LB.below N0.out.2.1 (Below.tr Y2.out (below1 _ _))).c0, (LB.below N0.out.2.1 (Below.tr Y2.out (below1 _ _))).c1⟩ (fun hHeld2 => ?_)
            clear hK K
            refine wpAnyH_ready (rs := [4, 9]) (by kernel_rfl) (by simp) ?_
            refine AllReadyH.cons rfl (fun K hK => ?_) (AllReadyH.cons rfl (fun K hK => ?_) AllReadyH.nil)
            · skip
              go_simp
              refine (splitI_any _ _ _ _ _).mono ?_
              rw [HQ.out]
              rintro e y6 ⟨rfl, hb⟩
              have Y6 := Lib.hid (Below.tr (Below.tr Y2.out (below1 _ _)) hb)
              have Y6z := Y6.out.size
              have Y6_w := Lib.hid (SB.below (SB.below Y2_w.out (below1 _ _)) hb)
              have Y6_wx := Y6_w.out.c0
              have Y6_wy := Y6_w.out.c1
              have Y6_wf := Y6_w.out.f 0
              have Y6_wh := Y6_w.out.f 1
              have Y6_wl := Y6_w.out.lt
              have Y6_z := Lib.hid (SB.below (SB.below Y2_z.out (below1 _ _)) hb)
              have Y6_zx := Y6_z.out.c0
              have Y6_zy := Y6_z.out.c1
              have Y6_zf := Y6_z.out.f 0
              have Y6_zh := Y6_z.out.f 1
              have Y6_zl := Y6_z.out.lt
              have Y6_h := Lib.hid (SB.below (SB.newAt (by first | rfl | simp)) hb)
              have Y6_hx := Y6_h.out.c0
              have Y6_hy := Y6_h.out.c1
              have Y6_hf := Y6_h.out.f 0
              have Y6_hh := Y6_h.out.f 1
              have Y6_hl := Y6_h.out.lt
              have Y6ne01 : gw ≠ gz := by omega
              have Y6ne02 : gw ≠ y2.heap.size := by omega
              have Y6ne10 : gz ≠ gw := by omega
              have Y6ne12 : gz ≠ y2.heap.size := by omega
              have Y6ne20 : y2.heap.size ≠ gw := by omega
              have Y6ne21 : y2.heap.size ≠ gz := by omega
              clear hb
              refine hK.out _ _ ⟨(LB.below N0.out.1 Y6.out).c0, (LB.below N0.out.1 Y6.out).c1, (LB.below N0.out.2.1 Y6.out).c0, (LB.below N0.out.2.1 Y6.out).c1⟩ (fun hHeld2 => ?_)
              clear hK K
              refine wpAnyH_take (i := 5) (v := ?_) rfl (by kernel_rfl) (by kernel_rfl) (by kernel_rfl) (fun _ _ _ h => h) (Or.inl ⟨by rfl, ?_⟩) (by assumption) ?_
              rotate_left
              · intro W hSw
                try dsimp only at hSw
                go_simp
                try with_reducible rfl
              refine wpAnyH_take (i := 6) (v := ?_) rfl (by kernel_rfl) (by kernel_rfl) (by kernel_rfl) (fun _ _ _ h => h) (Or.inl ⟨by rfl, ?_⟩) (by assumption) ?_
              rotate_left
              · intro W hSw
                try dsimp only at hSw
                go_simp
                try with_reducible rfl
              refine wpAnyH_take (i := 7) (v := ?_) rfl (by kernel_rfl) (by kernel_rfl) (by kernel_rfl) (fun _ _ _ h => h) (Or.inl ⟨by rfl, ?_⟩) (by assumption) ?_
              rotate_left
              · intro W hSw
                try dsimp only at hSw
                go_simp
                try with_reducible rfl
              refine wpAnyH_take (i := 8) (v := ?_) rfl (by kernel_rfl) (by kernel_rfl) (by kernel_rfl) (fun _ _ _ h => h) (Or.inl ⟨by rfl, ?_⟩) (by assumption) ?_
              rotate_left
              · intro W hSw
                try dsimp only at hSw
                go_simp
                try with_reducible rfl
              refine wpAnyH_ready (rs := [9]) (by kernel_rfl) (by simp) ?_
              refine AllReadyH.cons rfl (fun K hK => ?_) AllReadyH.nil
              go_simp
              refine hK.out _ _ ⟨(LB.below N0.out.1 (Below.tr Y6.out (below1 _ _))).c0, (LB.below N0.out.1 (Below.tr Y6.out (below1 _ _))).c1, (LB.below N0.out.2.1 (Below.tr Y6.out (below1 _ _))).c0, (LB.below N0.out.2.1 (Below.tr Y6.out (below1 _ _))).c1⟩ (fun hHeld2 => ?_)
              clear hK K
              refine wpAnyH_ready (rs := [11]) (by kernel_rfl) (by simp) ?_
              refine AllReadyH.cons rfl (fun K hK => ?_) AllReadyH.nil
              go_simp
              refine hK.out _ _ ⟨(LB.below N0.out.1 (Below.tr Y6.out (below1 _ _))).c0, (LB.below N0.out.1 (Below.tr Y6.out (below1 _ _))).c1, (LB.below N0.out.2.1 (Below.tr Y6.out (below1 _ _))).c0, (LB.below N0.out.2.1 (Below.tr Y6.out (below1 _ _))).c1⟩ (fun hHeld2 => ?_)
              clear hK K
              refine wpAnyH_ready (rs := [12]) (by kernel_rfl) (by simp) ?_
              refine AllReadyH.cons rfl (fun K hK => ?_) AllReadyH.nil
              go_simp
              refine hK.out _ _ ⟨(LB.below N0.out.1 (Below.tr (belowS2 Y6.out (by omega)) (below1 _ _))).c0, (LB.below N0.out.1 (Below.tr (belowS2 Y6.out (by omega)) (below1 _ _))).c1, (LB.below N0.out.2.1 (Below.tr (belowS2 Y6.out (by omega)) (below1 _ _))).c0, (LB.below N0.out.2.1 (Below.tr (belowS2 Y6.out (by omega)) (below1 _ _))).c1⟩ (fun hHeld2 => ?_)
              clear hK K
              refine wpAnyH_ready (rs := [13]) (by kernel_rfl) (by simp) ?_
              refine AllReadyH.cons rfl (fun K hK => ?_) AllReadyH.nil
              go_simp
              refine hK.out _ _ ⟨(LB.below N0.out.1 (Below.tr (belowS2 Y6.out (by omega)) (below1 _ _))).c0, (LB.below N0.out.1 (Below.tr (belowS2 Y6.out (by omega)) (below1 _ _))).c1, (LB.below N0.out.2.1 (Below.tr (belowS2 Y6.out (by omega)) (below1 _ _))).c0, (LB.below N0.out.2.1 (Below.tr (belowS2 Y6.out (by omega)) (below1 _ _))).c1⟩ (fun hHeld2 => ?_)
              clear hK K
              refine wpAnyH_done (by kernel_rfl) ?_ _
              go_wp2_with fail
              go_meet
              exact ⟨_, _, rfl, rfl, rfl, (SB.newAt (by first | rfl | simp)), (SB.below (SB.set2 Y6_h.out) (below1 _ _)), (SB.below (SB.far2 Y6_w.out (by omega)) (below1 _ _)), (SB.below (SB.far2 Y6_z.out (by omega)) (below1 _ _)), (Below.tr (belowS2 Y6.out (by omega)) (below1 _ _))⟩
            · skip
              go_simp
              refine hK.out _ _ ⟨(LB.below N0.out.1 (Below.tr (Below.tr Y2.out (below1 _ _)) (below1 _ _))).c0, (LB.below N0.out.1 (Below.tr (Below.tr Y2.out (below1 _ _)) (below1 _ _))).c1, (LB.below N0.out.2.1 (Below.tr (Below.tr Y2.out (below1 _ _)) (below1 _ _))).c0, (LB.below N0.out.2.1 (Below.tr (Below.tr Y2.out (below1 _ _)) (below1 _ _))).c1⟩ (fun hHeld2 => ?_)
              clear hK K
              refine wpAnyH_ready (rs := [4]) (by kernel_rfl) (by simp) ?_
              refine AllReadyH.cons rfl (fun K hK => ?_) AllReadyH.nil
              go_simp
              refine (splitI_any _ _ _ _ _).mono ?_
              rw [HQ.out]
              rintro e y7 ⟨rfl, hb⟩
              have Y7 := Lib.hid (Below.tr (Below.tr (Below.tr Y2.out (below1 _ _)) (below1 _ _)) hb)
              have Y7z := Y7.out.size
              have Y7_w := Lib.hid (SB.below (SB.below (SB.below Y2_w.out (below1 _ _)) (below1 _ _)) hb)
              have Y7_wx := Y7_w.out.c0
              have Y7_wy := Y7_w.out.c1
              have Y7_wf := Y7_w.out.f 0
              have Y7_wh := Y7_w.out.f 1
              have Y7_wl := Y7_w.out.lt
              have Y7_z := Lib.hid (SB.below (SB.below (SB.below Y2_z.out (below1 _ _)) (below1 _ _)) hb)
              have Y7_zx := Y7_z.out.c0
              have Y7_zy := Y7_z.out.c1
              have Y7_zf := Y7_z.out.f 0
              have Y7_zh := Y7_z.out.f 1
              have Y7_zl := Y7_z.out.lt
              have Y7_h := Lib.hid (SB.below (SB.below (SB.newAt (by first | rfl | simp)) (below1 _ _)) hb)
              have Y7_hx := Y7_h.out.c0
              have Y7_hy := Y7_h.out.c1
              have Y7_hf := Y7_h.out.f 0
              have Y7_hh := Y7_h.out.f 1
              have Y7_hl := Y7_h.out.lt
              have Y7_g := Lib.hid (SB.below (SB.newAt1 (by first | rfl | simp)) hb)
              have Y7_gx := Y7_g.out.c0
              have Y7_gy := Y7_g.out.c1
              have Y7_gf := Y7_g.out.f 0
              have Y7_gh := Y7_g.out.f 1
              have Y7_gl := Y7_g.out.lt
              have Y7ne01 : gw ≠ gz := by omega
              have Y7ne02 : gw ≠ y2.heap.size := by omega
              have Y7ne03 : gw ≠ y2.heap.size + 1 := by omega
              have Y7ne10 : gz ≠ gw := by omega
              have Y7ne12 : gz ≠ y2.heap.size := by omega
              have Y7ne13 : gz ≠ y2.heap.size + 1 := by omega
              have Y7ne20 : y2.heap.size ≠ gw := by omega
              have Y7ne21 : y2.heap.size ≠ gz := by omega
              have Y7ne23 : y2.heap.size ≠ y2.heap.size + 1 := by omega
              have Y7ne30 : y2.heap.size + 1 ≠ gw := by omega
              have Y7ne31 : y2.heap.size + 1 ≠ gz := by omega
              have Y7ne32 : y2.heap.size + 1 ≠ y2.heap.size := by omega
              clear hb
              refine hK.out _ _ ⟨(LB.below N0.out.1 Y7.out).c0, (LB.below N0.out.1 Y7.out).c1, (LB.below N0.out.2.1 Y7.out).c0, (LB.below N0.out.2.1 Y7.out).c1⟩ (fun hHeld2 => ?_)
              clear hK K
              refine wpAnyH_take (i := 5) (v := ?_) rfl (by kernel_rfl) (by kernel_rfl) (by kernel_rfl) (fun _ _ _ h => h) (Or.inl ⟨by rfl, ?_⟩) (by assumption) ?_
              rotate_left
              · intro W hSw
                try dsimp only at hSw
                go_simp
                try with_reducible rfl
              refine wpAnyH_take (i := 6) (v := ?_) rfl (by kernel_rfl) (by kernel_rfl) (by kernel_rfl) (fun _ _ _ h => h) (Or.inl ⟨by rfl, ?_⟩) (by assumption) ?_
              rotate_left
              · intro W hSw
                try dsimp only at hSw
                go_simp
                try with_reducible rfl
              refine wpAnyH_take (i := 7) (v := ?_) rfl (by kernel_rfl) (by kernel_rfl) (by kernel_rfl) (fun _ _ _ h => h) (Or.inl ⟨by rfl, ?_⟩) (by assumption) ?_
              rotate_left
              · intro W hSw
                try dsimp only at hSw
                go_simp
                try with_reducible rfl
              refine wpAnyH_take (i := 8) (v := ?_) rfl (by kernel_rfl) (by kernel_rfl) (by kernel_rfl) (fun _ _ _ h => h) (Or.inl ⟨by rfl, ?_⟩) (by assumption) ?_
              rotate_left
              · intro W hSw
                try dsimp only at hSw
                go_simp
                try with_reducible rfl
              refine wpAnyH_ready (rs := [11]) (by kernel_rfl) (by simp) ?_
              refine AllReadyH.cons rfl (fun K hK => ?_) AllReadyH.nil
              go_simp
              refine hK.out _ _ ⟨(LB.below N0.out.1 (belowS2 Y7.out (by omega))).c0, (LB.below N0.out.1 (belowS2 Y7.out (by omega))).c1, (LB.below N0.out.2.1 (belowS2 Y7.out (by omega))).c0, (LB.below N0.out.2.1 (belowS2 Y7.out (by omega))).c1⟩ (fun hHeld2 => ?_)
              clear hK K
              refine wpAnyH_ready (rs := [12]) (by kernel_rfl) (by simp) ?_
              refine AllReadyH.cons rfl (fun K hK => ?_) AllReadyH.nil
              go_simp
              refine hK.out _ _ ⟨(LB.below N0.out.1 (belowS2 (belowS2 Y7.out (by omega)) (by omega))).c0, (LB.below N0.out.1 (belowS2 (belowS2 Y7.out (by omega)) (by omega))).c1, (LB.below N0.out.2.1 (belowS2 (belowS2 Y7.out (by omega)) (by omega))).c0, (LB.below N0.out.2.1 (belowS2 (belowS2 Y7.out (by omega)) (by omega))).c1⟩ (fun hHeld2 => ?_)
              clear hK K
              refine wpAnyH_ready (rs := [13]) (by kernel_rfl) (by simp) ?_
              refine AllReadyH.cons rfl (fun K hK => ?_) AllReadyH.nil
              go_simp
              refine hK.out _ _ ⟨(LB.below N0.out.1 (belowS2 (belowS2 Y7.out (by omega)) (by omega))).c0, (LB.below N0.out.1 (belowS2 (belowS2 Y7.out (by omega)) (by omega))).c1, (LB.below N0.out.2.1 (belowS2 (belowS2 Y7.out (by omega)) (by omega))).c0, (LB.below N0.out.2.1 (belowS2 (belowS2 Y7.out (by omega)) (by omega))).c1⟩ (fun hHeld2 => ?_)
              clear hK K
              refine wpAnyH_done (by kernel_rfl) ?_ _
              go_wp2_with fail
              go_meet
              exact ⟨_, _, rfl, rfl, rfl, (SB.far2 (SB.set2 Y7_g.out) (by omega)), (SB.set2 (SB.far2 Y7_h.out (by omega))), (SB.far2 (SB.far2 Y7_w.out (by omega)) (by omega)), (SB.far2 (SB.far2 Y7_z.out (by omega)) (by omega)), (belowS2 (belowS2 Y7.out (by omega)) (by omega))⟩
        · skip
          go_simp
          refine hK.out _ _ ⟨(LB.below N0.out.1 (Below.tr Y1.out (below1 _ _))).c0, (LB.below N0.out.1 (Below.tr Y1.out (below1 _ _))).c1, (LB.below N0.out.2.1 (Below.tr Y1.out (below1 _ _))).c0, (LB.below N0.out.2.1 (Below.tr Y1.out (below1 _ _))).c1⟩ (fun hHeld2 => ?_)
          clear hK K
          refine wpAnyH_ready (rs := [3, 10]) (by kernel_rfl) (by simp) ?_
          refine AllReadyH.cons rfl (fun K hK => ?_) (AllReadyH.cons rfl (fun K hK => ?_) AllReadyH.nil)
          · skip
            go_simp
            refine (toSt_any _ _ _).mono ?_
            rintro e y8 ⟨rfl, hb⟩
            have Y8 := Lib.hid (Below.tr (Below.tr Y1.out (below1 _ _)) hb)
            have Y8z := Y8.out.size
            have Y8_w := Lib.hid (SB.below (SB.below Y1_w.out (below1 _ _)) hb)
            have Y8_wx := Y8_w.out.c0
            have Y8_wy := Y8_w.out.c1
            have Y8_wf := Y8_w.out.f 0
            have Y8_wh := Y8_w.out.f 1
            have Y8_wl := Y8_w.out.lt
            have Y8_z := Lib.hid (SB.below (SB.below Y1_z.out (below1 _ _)) hb)
            have Y8_zx := Y8_z.out.c0
            have Y8_zy := Y8_z.out.c1
            have Y8_zf := Y8_z.out.f 0
            have Y8_zh := Y8_z.out.f 1
            have Y8_zl := Y8_z.out.lt
            have Y8_g := Lib.hid (SB.below (SB.newAt (by first | rfl | simp)) hb)
            have Y8_gx := Y8_g.out.c0
            have Y8_gy := Y8_g.out.c1
            have Y8_gf := Y8_g.out.f 0
            have Y8_gh := Y8_g.out.f 1
            have Y8_gl := Y8_g.out.lt
            have Y8ne01 : gw ≠ gz := by omega
            have Y8ne02 : gw ≠ y1.heap.size := by omega
            have Y8ne10 : gz ≠ gw := by omega
            have Y8ne12 : gz ≠ y1.heap.size := by omega
            have Y8ne20 : y1.heap.size ≠ gw := by omega
            have Y8ne21 : y1.heap.size ≠ gz := by omega
            clear hb
            refine hK.out _ _ ⟨(LB.below N0.out.1 Y8.out).c0, (LB.below N0.out.1 Y8.out).c1, (LB.below N0.out.2.1 Y8.out).c0, (LB.below N0.out.2.1 Y8.out).c1⟩ (fun hHeld2 => ?_)
            clear hK K
            refine wpAnyH_ready (rs := [4, 10]) (by kernel_rfl) (by simp) ?_
            refine AllReadyH.cons rfl (fun K hK => ?_) (AllReadyH.cons rfl (fun K hK => ?_) AllReadyH.nil)
            · skip
              go_simp
              refine (splitI_any _ _ _ _ _).mono ?_
              rw [HQ.out]
              rintro e y9 ⟨rfl, hb⟩
              have Y9 := Lib.hid (Below.tr Y8.out hb)
              have Y9z := Y9.out.size
              have Y9_w := Lib.hid (SB.below Y8_w.out hb)
              have Y9_wx := Y9_w.out.c0
              have Y9_wy := Y9_w.out.c1
              have Y9_wf := Y9_w.out.f 0
              have Y9_wh := Y9_w.out.f 1
              have Y9_wl := Y9_w.out.lt
              have Y9_z := Lib.hid (SB.below Y8_z.out hb)
              have Y9_zx := Y9_z.out.c0
              have Y9_zy := Y9_z.out.c1
              have Y9_zf := Y9_z.out.f 0
              have Y9_zh := Y9_z.out.f 1
              have Y9_zl := Y9_z.out.lt
              have Y9_g := Lib.hid (SB.below Y8_g.out hb)
              have Y9_gx := Y9_g.out.c0
              have Y9_gy := Y9_g.out.c1
              have Y9_gf := Y9_g.out.f 0
              have Y9_gh := Y9_g.out.f 1
              have Y9_gl := Y9_g.out.lt
              have Y9ne01 : gw ≠ gz := by omega
              have Y9ne02 : gw ≠ y1.heap.size := by omega
              have Y9ne10 : gz ≠ gw := by omega
              have Y9ne12 : gz ≠ y1.heap.size := by omega
              have Y9ne20 : y1.heap.size ≠ gw := by omega
              have Y9ne21 : y1.heap.size ≠ gz := by omega
              clear hb
              refine hK.out _ _ ⟨(LB.below N0.out.1 Y9.out).c0, (LB.below N0.out.1 Y9.out).c1, (LB.below N0.out.2.1 Y9.out).c0, (LB.below N0.out.2.1 Y9.out).c1⟩ (fun hHeld2 => ?_)
              clear hK K
              refine wpAnyH_take (i := 5) (v := ?_) rfl (by kernel_rfl) (by kernel_rfl) (by kernel_rfl) (fun _ _ _ h => h) (Or.inl ⟨by rfl, ?_⟩) (by assumption) ?_
              rotate_left
              · intro W hSw
                try dsimp only at hSw
                go_simp
                try with_reducible rfl
              refine wpAnyH_take (i := 6) (v := ?_) rfl (by kernel_rfl) (by kernel_rfl) (by kernel_rfl) (fun _ _ _ h => h) (Or.inl ⟨by rfl, ?_⟩) (by assumption) ?_
              rotate_left
              · intro W hSw
                try dsimp only at hSw
                go_simp
                try with_reducible rfl
              refine wpAnyH_take (i := 7) (v := ?_) rfl (by kernel_rfl) (by kernel_rfl) (by kernel_rfl) (fun _ _ _ h => h) (Or.inl ⟨by rfl, ?_⟩) (by assumption) ?_
              rotate_left
              · intro W hSw
                try dsimp only at hSw
                go_simp
                try with_reducible rfl
              refine wpAnyH_take (i := 8) (v := ?_) rfl (by kernel_rfl) (by kernel_rfl) (by kernel_rfl) (fun _ _ _ h => h) (Or.inl ⟨by rfl, ?_⟩) (by assumption) ?_
              rotate_left
              · intro W hSw
                try dsimp only at hSw
                go_simp
                try with_reducible rfl
              refine wpAnyH_ready (rs := [10]) (by kernel_rfl) (by simp) ?_
              refine AllReadyH.cons rfl (fun K hK => ?_) AllReadyH.nil
              go_simp
              refine hK.out _ _ ⟨(LB.below N0.out.1 (Below.tr Y9.out (below1 _ _))).c0, (LB.below N0.out.1 (Below.tr Y9.out (below1 _ _))).c1, (LB.below N0.out.2.1 (Below.tr Y9.out (below1 _ _))).c0, (LB.below N0.out.2.1 (Below.tr Y9.out (below1 _ _))).c1⟩ (fun hHeld2 => ?_)
              clear hK K
              refine wpAnyH_ready (rs := [11]) (by kernel_rfl) (by simp) ?_
              refine AllReadyH.cons rfl (fun K hK => ?_) AllReadyH.nil
              go_simp
              refine hK.out _ _ ⟨(LB.below N0.out.1 (Below.tr (belowS2 Y9.out (by omega)) (below1 _ _))).c0, (LB.below N0.out.1 (Below.tr (belowS2 Y9.out (by omega)) (below1 _ _))).c1, (LB.below N0.out.2.1 (Below.tr (belowS2 Y9.out (by omega)) (below1 _ _))).c0, (LB.below N0.out.2.1 (Below.tr (belowS2 Y9.out (by omega)) (below1 _ _))).c1⟩ (fun hHeld2 => ?_)
              clear hK K
              refine wpAnyH_ready (rs := [12]) (by kernel_rfl) (by simp) ?_
              refine AllReadyH.cons rfl (fun K hK => ?_) AllReadyH.nil
              go_simp
              refine hK.out _ _ ⟨(LB.below N0.out.1 (Below.tr (belowS2 Y9.out (by omega)) (below1 _ _))).c0, (LB.below N0.out.1 (Below.tr (belowS2 Y9.out (by omega)) (below1 _ _))).c1, (LB.below N0.out.2.1 (Below.tr (belowS2 Y9.out (by omega)) (below1 _ _))).c0, (LB.below N0.out.2.1 (Below.tr (belowS2 Y9.out (by omega)) (below1 _ _))).c1⟩ (fun hHeld2 => ?_)
              clear hK K
              refine wpAnyH_ready (rs := [13]) (by kernel_rfl) (by simp) ?_
              refine AllReadyH.cons rfl (fun K hK => ?_) AllReadyH.nil
              go_simp
              refine hK.out _ _ ⟨(LB.below N0.out.1 (Below.tr (belowS2 Y9.out (by omega)) (below1 _ _))).c0, (LB.below N0.out.1 (Below.tr (belowS2 Y9.out (by omega)) (below1 _ _))).c1, (LB.below N0.out.2.1 (Below.tr (belowS2 Y9.out (by omega)) (below1 _ _))).c0, (LB.below N0.out.2.1 (Below.tr (belowS2 Y9.out (by omega)) (below1 _ _))).c1⟩ (fun hHeld2 => ?_)
              clear hK K
              refine wpAnyH_done (by kernel_rfl) ?_ _
              go_wp2_with fail
              go_meet
              exact ⟨_, _, rfl, rfl, rfl, (SB.below (SB.set2 Y9_g.out) (below1 _ _)), (SB.newAt (by first | rfl | simp)), (SB.below (SB.far2 Y9_w.out (by omega)) (below1 _ _)), (SB.below (SB.far2 Y9_z.out (by omega)) (below1 _ _)), (Below.tr (belowS2 Y9.out (by omega)) (below1 _ _))⟩
            · skip
              go_simp
              refine hK.out _ _ ⟨(LB.below N0.out.1 (Below.tr Y8.out (below1 _ _))).c0, (LB.below N0.out.1 (Below.tr Y8.out (below1 _ _))).c1, (LB.below N0.out.2.1 (Below.tr Y8.out (below1 _ _))).c0, (LB.below N0.out.2.1 (Below.tr Y8.out (below1 _ _))).c1⟩ (fun hHeld2 => ?_)
              clear hK K
              refine wpAnyH_ready (rs := [4]) (by kernel_rfl) (by simp) ?_
              refine AllReadyH.cons rfl (fun K hK => ?_) AllReadyH.nil
              go_simp
              refine (splitI_any _ _ _ _ _).mono ?_
              rw [HQ.out]
              rintro e y10 ⟨rfl, hb⟩
              have Y10 := Lib.hid (Below.tr (Below.tr Y8.out (below1 _ _)) hb)
              have Y10z := Y10.out.size
              have Y10_w := Lib.hid (SB.below (SB.below Y8_w.out (below1 _ _)) hb)
              have Y10_wx := Y10_w.out.c0
              have Y10_wy := Y10_w.out.c1
              have Y10_wf := Y10_w.out.f 0
              have Y10_wh := Y10_w.out.f 1
              have Y10_wl := Y10_w.out.lt
              have Y10_z := Lib.hid (SB.below (SB.below Y8_z.out (below1 _ _)) hb)
              have Y10_zx := Y10_z.out.c0
              have Y10_zy := Y10_z.out.c1
              have Y10_zf := Y10_z.out.f 0
              have Y10_zh := Y10_z.out.f 1
              have Y10_zl := Y10_z.out.lt
              have Y10_g := Lib.hid (SB.below (SB.below Y8_g.out (below1 _ _)) hb)
              have Y10_gx := Y10_g.out.c0
              have Y10_gy := Y10_g.out.c1
              have Y10_gf := Y10_g.out.f 0
              have Y10_gh := Y10_g.out.f 1
              have Y10_gl := Y10_g.out.lt
              have Y10_h := Lib.hid (SB.below (SB.newAt (by first | rfl | simp)) hb)
              have Y10_hx := Y10_h.out.c0
              have Y10_hy := Y10_h.out.c1
              have Y10_hf := Y10_h.out.f 0
              have Y10_hh := Y10_h.out.f 1
              have Y10_hl := Y10_h.out.lt
              have Y10ne01 : gw ≠ gz := by omega
              have Y10ne02 : gw ≠ y1.heap.size := by omega
              have Y10ne03 : gw ≠ y8.heap.size := by omega
              have Y10ne10 : gz ≠ gw := by omega
              have Y10ne12 : gz ≠ y1.heap.size := by omega
              have Y10ne13 : gz ≠ y8.heap.size := by omega
              have Y10ne20 : y1.heap.size ≠ gw := by omega
              have Y10ne21 : y1.heap.size ≠ gz := by omega
              have Y10ne23 : y1.heap.size ≠ y8.heap.size := by omega
              have Y10ne30 : y8.heap.size ≠ gw := by omega
              have Y10ne31 : y8.heap.size ≠ gz := by omega
              have Y10ne32 : y8.heap.size ≠ y1.heap.size := by omega
              clear hb
              refine hK.out _ _ ⟨(LB.below N0.out.1 Y10.out).c0, (LB.below N0.out.1 Y10.out).c1, (LB.below N0.out.2.1 Y10.out).c0, (LB.below N0.out.2.1 Y10.out).c1⟩ (fun hHeld2 => ?_)
              clear hK K
              refine wpAnyH_take (i := 5) (v := ?_) rfl (by kernel_rfl) (by kernel_rfl) (by kernel_rfl) (fun _ _ _ h => h) (Or.inl ⟨by rfl, ?_⟩) (by assumption) ?_
              rotate_left
              · intro W hSw
                try dsimp only at hSw
                go_simp
                try with_reducible rfl
              refine wpAnyH_take (i := 6) (v := ?_) rfl (by kernel_rfl) (by kernel_rfl) (by kernel_rfl) (fun _ _ _ h => h) (Or.inl ⟨by rfl, ?_⟩) (by assumption) ?_
              rotate_left
              · intro W hSw
                try dsimp only at hSw
                go_simp
                try with_reducible rfl
              refine wpAnyH_take (i := 7) (v := ?_) rfl (by kernel_rfl) (by kernel_rfl) (by kernel_rfl) (fun _ _ _ h => h) (Or.inl ⟨by rfl, ?_⟩) (by assumption) ?_
              rotate_left
              · intro W hSw
                try dsimp only at hSw
                go_simp
                try with_reducible rfl
              refine wpAnyH_take (i := 8) (v := ?_) rfl (by kernel_rfl) (by kernel_rfl) (by kernel_rfl) (fun _ _ _ h => h) (Or.inl ⟨by rfl, ?_⟩) (by assumption) ?_
              rotate_left
              · intro W hSw
                try dsimp only at hSw
                go_simp
                try with_reducible rfl
              refine wpAnyH_ready (rs := [11]) (by kernel_rfl) (by simp) ?_
              refine AllReadyH.cons rfl (fun K hK => ?_) AllReadyH.nil
              go_simp
              refine hK.out _ _ ⟨(LB.below N0.out.1 (belowS2 Y10.out (by omega))).c0, (LB.below N0.out.1 (belowS2 Y10.out (by omega))).c1, (LB.below N0.out.2.1 (belowS2 Y10.out (by omega))).c0, (LB.below N0.out.2.1 (belowS2 Y10.out (by omega))).c1⟩ (fun hHeld2 => ?_)
              clear hK K
              refine wpAnyH_ready (rs := [12]) (by kernel_rfl) (by simp) ?_
              refine AllReadyH.cons rfl (fun K hK => ?_) AllReadyH.nil
              go_simp
              refine hK.out _ _ ⟨(LB.below N0.out.1 (belowS2 (belowS2 Y10.out (by omega)) (by omega))).c0, (LB.below N0.out.1 (belowS2 (belowS2 Y10.out (by omega)) (by omega))).c1, (LB.below N0.out.2.1 (belowS2 (belowS2 Y10.out (by omega)) (by omega))).c0, (LB.below N0.out.2.1 (belowS2 (belowS2 Y10.out (by omega)) (by omega))).c1⟩ (fun hHeld2 => ?_)
              clear hK K
              refine wpAnyH_ready (rs := [13]) (by kernel_rfl) (by simp) ?_
              refine AllReadyH.cons rfl (fun K hK => ?_) AllReadyH.nil
              go_simp
              refine hK.out _ _ ⟨(LB.below N0.out.1 (belowS2 (belowS2 Y10.out (by omega)) (by omega))).c0, (LB.below N0.out.1 (belowS2 (belowS2 Y10.out (by omega)) (by omega))).c1, (LB.below N0.out.2.1 (belowS2 (belowS2 Y10.out (by omega)) (by omega))).c0, (LB.below N0.out.2.1 (belowS2 (belowS2 Y10.out (by omega)) (by omega))).c1⟩ (fun hHeld2 => ?_)
              clear hK K
              refine wpAnyH_done (by kernel_rfl) ?_ _
              go_wp2_with fail
              go_meet
              exact ⟨_, _, rfl, rfl, rfl, (SB.far2 (SB.set2 Y10_g.out) (by omega)), (SB.set2 (SB.far2 Y10_h.out (by omega))), (SB.far2 (SB.far2 Y10_w.out (by omega)) (by omega)), (SB.far2 (SB.far2 Y10_z.out (by omega)) (by omega)), (belowS2 (belowS2 Y10.out (by omega)) (by omega))⟩
          · skip
            go_simp
            refine hK.out _ _ ⟨(LB.below N0.out.1 (Below.tr (Below.tr Y1.out (below1 _ _)) (below1 _ _))).c0, (LB.below N0.out.1 (Below.tr (Below.tr Y1.out (below1 _ _)) (below1 _ _))).c1, (LB.below N0.out.2.1 (Below.tr (Below.tr Y1.out (below1 _ _)) (below1 _ _))).c0, (LB.below N0.out.2.1 (Below.tr (Below.tr Y1.out (below1 _ _)) (below1 _ _))).c1⟩ (fun hHeld2 => ?_)
            clear hK K
            refine wpAnyH_ready (rs := [3]) (by kernel_rfl) (by simp) ?_
            refine AllReadyH.cons rfl (fun K hK => ?_) AllReadyH.nil
            go_simp
            refine (toSt_any _ _ _).mono ?_
            rintro e y11 ⟨rfl, hb⟩
            have Y11 := Lib.hid (Below.tr (Below.tr (Below.tr Y1.out (below1 _ _)) (below1 _ _)) hb)
            have Y11z := Y11.out.size
            have Y11_w := Lib.hid (SB.below (SB.below (SB.below Y1_w.out (below1 _ _)) (below1 _ _)) hb)
            have Y11_wx := Y11_w.out.c0
            have Y11_wy := Y11_w.out.c1
            have Y11_wf := Y11_w.out.f 0
            have Y11_wh := Y11_w.out.f 1
            have Y11_wl := Y11_w.out.lt
            have Y11_z := Lib.hid (SB.below (SB.below (SB.below Y1_z.out (below1 _ _)) (below1 _ _)) hb)
            have Y11_zx := Y11_z.out.c0
            have Y11_zy := Y11_z.out.c1
            have Y11_zf := Y11_z.out.f 0
            have Y11_zh := Y11_z.out.f 1
            have Y11_zl := Y11_z.out.lt
            have Y11_g := Lib.hid (SB.below (SB.below (SB.newAt (by first | rfl | simp)) (below1 _ _)) hb)
            have Y11_gx := Y11_g.out.c0
            have Y11_gy := Y11_g.out.c1
            have Y11_gf := Y11_g.out.f 0
            have Y11_gh := Y11_g.out.f 1
            have Y11_gl := Y11_g.out.lt
            have Y11_h := Lib.hid (SB.below (SB.newAt1 (by first | rfl | simp)) hb)
            have Y11_hx := Y11_h.out.c0
            have Y11_hy := Y11_h.out.c1
            have Y11_hf := Y11_h.out.f 0
            have Y11_hh := Y11_h.out.f 1
            have Y11_hl := Y11_h.out.lt
            have Y11ne01 : gw ≠ gz := by omega
            have Y11ne02 : gw ≠ y1.heap.size := by omega
            have Y11ne03 : gw ≠ y1.heap.size + 1 := by omega
            have Y11ne10 : gz ≠ gw := by omega
            have Y11ne12 : gz ≠ y1.heap.size := by omega
            have Y11ne13 : gz ≠ y1.heap.size + 1 := by omega
            have Y11ne20 : y1.heap.size ≠ gw := by omega
            have Y11ne21 : y1.heap.size ≠ gz := by omega
            have Y11ne23 : y1.heap.size ≠ y1.heap.size + 1 := by omega
            have Y11ne30 : y1.heap.size + 1 ≠ gw := by omega
            have Y11ne31 : y1.heap.size + 1 ≠ gz := by omega
            have Y11ne32 : y1.heap.size + 1 ≠ y1.heap.size := by omega
            clear hb
            refine hK.out _ _ ⟨(LB.below N0.out.1 Y11.out).c0, (LB.below N0.out.1 Y11.out).c1, (LB.below N0.out.2.1 Y11.out).c0, (LB.below N0.out.2.1 Y11.out).c1⟩ (fun hHeld2 => ?_)
            clear hK K
            refine wpAnyH_ready (rs := [4]) (by kernel_rfl) (by simp) ?_
            refine AllReadyH.cons rfl (fun K hK => ?_) AllReadyH.nil
            go_simp
            refine (splitI_any _ _ _ _ _).mono ?_
            rw [HQ.out]
            rintro e y12 ⟨rfl, hb⟩
            have Y12 := Lib.hid (Below.tr Y11.out hb)
            have Y12z := Y12.out.size
            have Y12_w := Lib.hid (SB.below Y11_w.out hb)
            have Y12_wx := Y12_w.out.c0
            have Y12_wy := Y12_w.out.c1
            have Y12_wf := Y12_w.out.f 0
            have Y12_wh := Y12_w.out.f 1
            have Y12_wl := Y12_w.out.lt
            have Y12_z := Lib.hid (SB.below Y11_z.out hb)
            have Y12_zx := Y12_z.out.c0
            have Y12_zy := Y12_z.out.c1
            have Y12_zf := Y12_z.out.f 0
            have Y12_zh := Y12_z.out.f 1
            have Y12_zl := Y12_z.out.lt
            have Y12_g := Lib.hid (SB.below Y11_g.out hb)
            have Y12_gx := Y12_g.out.c0
            have Y12_gy := Y12_g.out.c1
            have Y12_gf := Y12_g.out.f 0
            have Y12_gh := Y12_g.out.f 1
            have Y12_gl := Y12_g.out.lt
            have Y12_h := Lib.hid (SB.below Y11_h.out hb)
            have Y12_hx := Y12_h.out.c0
            have Y12_hy := Y12_h.out.c1
            have Y12_hf := Y12_h.out.f 0
            have Y12_hh := Y12_h.out.f 1
            have Y12_hl := Y12_h.out.lt
            have Y12ne01 : gw ≠ gz := by omega
            have Y12ne02 : gw ≠ y1.heap.size := by omega
            have Y12ne03 : gw ≠ y1.heap.size + 1 := by omega
            have Y12ne10 : gz ≠ gw := by omega
            have Y12ne12 : gz ≠ y1.heap.size := by omega
            have Y12ne13 : gz ≠ y1.heap.size + 1 := by omega
            have Y12ne20 : y1.heap.size ≠ gw := by omega
            have Y12ne21 : y1.heap.size ≠ gz := by omega
            have Y12ne23 : y1.heap.size ≠ y1.heap.size + 1 := by omega
            have Y12ne30 : y1.heap.size + 1 ≠ gw := by omega
            have Y12ne31 : y1.heap.size + 1 ≠ gz := by omega
            have Y12ne32 : y1.heap.size + 1 ≠ y1.heap.size := by omega
            clear hb
            refine hK.out _ _ ⟨(LB.below N0.out.1 Y12.out).c0, (LB.below N0.out.1 Y12.out).c1, (LB.below N0.out.2.1 Y12.out).c0, (LB.below N0.out.2.1 Y12.out).c1⟩ (fun hHeld2 => ?_)
            clear hK K
            refine wpAnyH_take (i := 5) (v := ?_) rfl (by kernel_rfl) (by kernel_rfl) (by kernel_rfl) (fun _ _ _ h => h) (Or.inl ⟨by rfl, ?_⟩) (by assumption) ?_
            rotate_left
            · intro W hSw
              try dsimp only at hSw
              go_simp
              try with_reducible rfl
            refine wpAnyH_take (i := 6) (v := ?_) rfl (by kernel_rfl) (by kernel_rfl) (by kernel_rfl) (fun _ _ _ h => h) (Or.inl ⟨by rfl, ?_⟩) (by assumption) ?_
            rotate_left
            · intro W hSw
              try dsimp only at hSw
              go_simp
              try with_reducible rfl
            refine wpAnyH_take (i := 7) (v := ?_) rfl (by kernel_rfl) (by kernel_rfl) (by kernel_rfl) (fun _ _ _ h => h) (Or.inl ⟨by rfl, ?_⟩) (by assumption) ?_
            rotate_left
            · intro W hSw
              try dsimp only at hSw
              go_simp
              try with_reducible rfl
            refine wpAnyH_take (i := 8) (v := ?_) rfl (by kernel_rfl) (by kernel_rfl) (by kernel_rfl) (fun _ _ _ h => h) (Or.inl ⟨by rfl, ?_⟩) (by assumption) ?_
            rotate_left
            · intro W hSw
              try dsimp only at hSw
              go_simp
              try with_reducible rfl
            refine wpAnyH_ready (rs := [11]) (by kernel_rfl) (by simp) ?_
            refine AllReadyH.cons rfl (fun K hK => ?_) AllReadyH.nil
            go_simp
            refine hK.out _ _ ⟨(LB.below N0.out.1 (belowS2 Y12.out (by omega))).c0, (LB.below N0.out.1 (belowS2 Y12.out (by omega))).c1, (LB.below N0.out.2.1 (belowS2 Y12.out (by omega))).c0, (LB.below N0.out.2.1 (belowS2 Y12.out (by omega))).c1⟩ (fun hHeld2 => ?_)
            clear hK K
            refine wpAnyH_ready (rs := [12]) (by kernel_rfl) (by simp) ?_
            refine AllReadyH.cons rfl (fun K hK => ?_) AllReadyH.nil
            go_simp
            refine hK.out _ _ ⟨(LB.below N0.out.1 (belowS2 (belowS2 Y12.out (by omega)) (by omega))).c0, (LB.below N0.out.1 (belowS2 (belowS2 Y12.out (by omega)) (by omega))).c1, (LB.below N0.out.2.1 (belowS2 (belowS2 Y12.out (by omega)) (by omega))).c0, (LB.below N0.out.2.1 (belowS2 (belowS2 Y12.out (by omega)) (by omega))).c1⟩ (fun hHeld2 => ?_)
            clear hK K
            refine wpAnyH_ready (rs := [13]) (by kernel_rfl) (by simp) ?_
            refine AllReadyH.cons rfl (fun K hK => ?_) AllReadyH.nil
            go_simp
            refine hK.out _ _ ⟨(LB.below N0.out.1 (belowS2 (belowS2 Y12.out (by omega)) (by omega))).c0, (LB.below N0.out.1 (belowS2 (belowS2 Y12.out (by omega)) (by omega))).c1, (LB.below N0.out.2.1 (belowS2 (belowS2 Y12.out (by omega)) (by omega))).c0, (LB.below N0.out.2.1 (belowS2 (belowS2 Y12.out (by omega)) (by omega))).c1⟩ (fun hHeld2 => ?_)
            clear hK K
            refine wpAnyH_done (by kernel_rfl) ?_ _
            go_wp2_with fail
            go_meet
            exact ⟨_, _, rfl, rfl, rfl, (SB.far2 (SB.set2 Y12_g.out) (by omega)), (SB.set2 (SB.far2 Y12_h.out (by omega))), (SB.far2 (SB.far2 Y12_w.out (by omega)) (by omega)), (SB.far2 (SB.far2 Y12_z.out (by omega)) (by omega)), (belowS2 (belowS2 Y12.out (by omega)) (by omega))⟩
        · skip
          go_simp
          refine hK.out _ _ ⟨(LB.below N0.out.1 (Below.tr Y1.out (below1 _ _))).c0, (LB.below N0.out.1 (Below.tr Y1.out (below1 _ _))).c1, (LB.below N0.out.2.1 (Below.tr Y1.out (below1 _ _))).c0, (LB.below N0.out.2.1 (Below.tr Y1.out (below1 _ _))).c1⟩ (fun hHeld2 => ?_)
          clear hK K
          refine wpAnyH_ready (rs := [3, 9]) (by kernel_rfl) (by simp) ?_
          refine AllReadyH.cons rfl (fun K hK => ?_) (AllReadyH.cons rfl (fun K hK => ?_) AllReadyH.nil)
          · skip
            go_simp
            refine (toSt_any _ _ _).mono ?_
            rintro e y13 ⟨rfl, hb⟩
            have Y13 := Lib.hid (Below.tr (Below.tr Y1.out (below1 _ _)) hb)
            have Y13z := Y13.out.size
            have Y13_w := Lib.hid (SB.below (SB.below Y1_w.out (below1 _ _)) hb)
            have Y13_wx := Y13_w.out.c0
            have Y13_wy := Y13_w.out.c1
            have Y13_wf := Y13_w.out.f 0
            have Y13_wh := Y13_w.out.f 1
            have Y13_wl := Y13_w.out.lt
            have Y13_z := Lib.hid (SB.below (SB.below Y1_z.out (below1 _ _)) hb)
            have Y13_zx := Y13_z.out.c0
            have Y13_zy := Y13_z.out.c1
            have Y13_zf := Y13_z.out.f 0
            have Y13_zh := Y13_z.out.f 1
            have Y13_zl := Y13_z.out.lt
            have Y13_h := Lib.hid (SB.below (SB.newAt (by first | rfl | simp)) hb)
            have Y13_hx := Y13_h.out.c0
            have Y13_hy := Y13_h.out.c1
            have Y13_hf := Y13_h.out.f 0
            have Y13_hh := Y13_h.out.f 1
            have Y13_hl := Y13_h.out.lt
            have Y13ne01 : gw ≠ gz := by omega
            have Y13ne02 : gw ≠ y1.heap.size := by omega
            have Y13ne10 : gz ≠ gw := by omega
            have Y13ne12 : gz ≠ y1.heap.size := by omega
            have Y13ne20 : y1.heap.size ≠ gw := by omega
            have Y13ne21 : y1.heap.size ≠ gz := by omega
            clear hb
            refine hK.out _ _ ⟨(LB.below N0.out.1 Y13.out).c0, (LB.below N0.out.1 Y13.out).c1, (LB.below N0.out.2.1 Y13.out).c0, (LB.below N0.out.2.1 Y13.out).c1⟩ (fun hHeld2 => ?_)
            clear hK K
            refine wpAnyH_ready (rs := [4, 9]) (by kernel_rfl) (by simp) ?_
            refine AllReadyH.cons rfl (fun K hK => ?_) (AllReadyH.cons rfl (fun K hK => ?_) AllReadyH.nil)
            · skip
              go_simp
              refine (splitI_any _ _ _ _ _).mono ?_
              rw [HQ.out]
              rintro e y14 ⟨rfl, hb⟩
              have Y14 := Lib.hid (Below.tr Y13.out hb)
              have Y14z := Y14.out.size
              have Y14_w := Lib.hid (SB.below Y13_w.out hb)
              have Y14_wx := Y14_w.out.c0
              have Y14_wy := Y14_w.out.c1
              have Y14_wf := Y14_w.out.f 0
              have Y14_wh := Y14_w.out.f 1
              have Y14_wl := Y14_w.out.lt
              have Y14_z := Lib.hid (SB.below Y13_z.out hb)
              have Y14_zx := Y14_z.out.c0
              have Y14_zy := Y14_z.out.c1
              have Y14_zf := Y14_z.out.f 0
              have Y14_zh := Y14_z.out.f 1
              have Y14_zl := Y14_z.out.lt
              have Y14_h := Lib.hid (SB.below Y13_h.out hb)
              have Y14_hx := Y14_h.out.c0
              have Y14_hy := Y14_h.out.c1
              have Y14_hf := Y14_h.out.f 0
              have Y14_hh := Y14_h.out.f 1
              have Y14_hl := Y14_h.out.lt
              have Y14ne01 : gw ≠ gz := by omega
              have Y14ne02 : gw ≠ y1.heap.size := by omega
              have Y14ne10 : gz ≠ gw := by omega
              have Y14ne12 : gz ≠ y1.heap.size := by omega
              have Y14ne20 : y1.heap.size ≠ gw := by omega
              have Y14ne21 : y1.heap.size ≠ gz := by omega
              clear hb
              refine hK.out _ _ ⟨(LB.below N0.out.1 Y14.out).c0, (LB.below N0.out.1 Y14.out).c1, (LB.below N0.out.2.1 Y14.out).c0, (LB.below N0.out.2.1 Y14.out).c1⟩ (fun hHeld2 => ?_)
              clear hK K
              refine wpAnyH_take (i := 5) (v := ?_) rfl (by kernel_rfl) (by kernel_rfl) (by kernel_rfl) (fun _ _ _ h => h) (Or.inl ⟨by rfl, ?_⟩) (by assumption) ?_
              rotate_left
              · intro W hSw
                try dsimp only at hSw
                go_simp
                try with_reducible rfl
              refine wpAnyH_take (i := 6) (v := ?_) rfl (by kernel_rfl) (by kernel_rfl) (by kernel_rfl) (fun _ _ _ h => h) (Or.inl ⟨by rfl, ?_⟩) (by assumption) ?_
              rotate_left
              · intro W hSw
                try dsimp only at hSw
                go_simp
                try with_reducible rfl
              refine wpAnyH_take (i := 7) (v := ?_) rfl (by kernel_rfl) (by kernel_rfl) (by kernel_rfl) (fun _ _ _ h => h) (Or.inl ⟨by rfl, ?_⟩) (by assumption) ?_
              rotate_left
              · intro W hSw
                try dsimp only at hSw
                go_simp
                try with_reducible rfl
              refine wpAnyH_take (i := 8) (v := ?_) rfl (by kernel_rfl) (by kernel_rfl) (by kernel_rfl) (fun _ _ _ h => h) (Or.inl ⟨by rfl, ?_⟩) (by assumption) ?_
              rotate_left
              · intro W hSw
                try dsimp only at hSw
                go_simp
                try with_reducible rfl
              refine wpAnyH_ready (rs := [9]) (by kernel_rfl) (by simp) ?_
              refine AllReadyH.cons rfl (fun K hK => ?_) AllReadyH.nil
              go_simp
              refine hK.out _ _ ⟨(LB.below N0.out.1 (Below.tr Y14.out (below1 _ _))).c0, (LB.below N0.out.1 (Below.tr Y14.out (below1 _ _))).c1, (LB.below N0.out.2.1 (Below.tr Y14.out (below1 _ _))).c0, (LB.below N0.out.2.1 (Below.tr Y14.out (below1 _ _))).c1⟩ (fun hHeld2 => ?_)
              clear hK K
              refine wpAnyH_ready (rs := [11]) (by kernel_rfl) (by simp) ?_
              refine AllReadyH.cons rfl (fun K hK => ?_) AllReadyH.nil
              go_simp
              refine hK.out _ _ ⟨(LB.below N0.out.1 (Below.tr Y14.out (below1 _ _))).c0, (LB.below N0.out.1 (Below.tr Y14.out (below1 _ _))).c1, (LB.below N0.out.2.1 (Below.tr Y14.out (below1 _ _))).c0, (LB.below N0.out.2.1 (Below.tr Y14.out (below1 _ _))).c1⟩ (fun hHeld2 => ?_)
              clear hK K
              refine wpAnyH_ready (rs := [12]) (by kernel_rfl) (by simp) ?_
              refine AllReadyH.cons rfl (fun K hK => ?_) AllReadyH.nil
              go_simp
              refine hK.out _ _ ⟨(LB.below N0.out.1 (Below.tr (belowS2 Y14.out (by omega)) (below1 _ _))).c0, (LB.below N0.out.1 (Below.tr (belowS2 Y14.out (by omega)) (below1 _ _))).c1, (LB.below N0.out.2.1 (Below.tr (belowS2 Y14.out (by omega)) (below1 _ _))).c0, (LB.below N0.out.2.1 (Below.tr (belowS2 Y14.out (by omega)) (below1 _ _))).c1⟩ (fun hHeld2 => ?_)
              clear hK K
              refine wpAnyH_ready (rs := [13]) (by kernel_rfl) (by simp) ?_
              refine AllReadyH.cons rfl (fun K hK => ?_) AllReadyH.nil
              go_simp
              refine hK.out _ _ ⟨(LB.below N0.out.1 (Below.tr (belowS2 Y14.out (by omega)) (below1 _ _))).c0, (LB.below N0.out.1 (Below.tr (belowS2 Y14.out (by omega)) (below1 _ _))).c1, (LB.below N0.out.2.1 (Below.tr (belowS2 Y14.out (by omega)) (below1 _ _))).c0, (LB.below N0.out.2.1 (Below.tr (belowS2 Y14.out (by omega)) (below1 _ _))).c1⟩ (fun hHeld2 => ?_)
              clear hK K
              refine wpAnyH_done (by kernel_rfl) ?_ _
              go_wp2_with fail
              go_meet
              exact ⟨_, _, rfl, rfl, rfl, (SB.newAt (by first | rfl | simp)), (SB.below (SB.set2 Y14_h.out) (below1 _ _)), (SB.below (SB.far2 Y14_w.out (by omega)) (below1 _ _)), (SB.below (SB.far2 Y14_z.out (by omega)) (below1 _ _)), (Below.tr (belowS2 Y14.out (by omega)) (below1 _ _))⟩
            · skip
              go_simp
              refine hK.out _ _ ⟨(LB.below N0.out.1 (Below.tr Y13.out (below1 _ _))).c0, (LB.below N0.out.1 (Below.tr Y13.out (below1 _ _))).c1, (LB.below N0.out.2.1 (Below.tr Y13.out (below1 _ _))).c0, (LB.below N0.out.2.1 (Below.tr Y13.out (below1 _ _))).c1⟩ (fun hHeld2 => ?_)
              clear hK K
              refine wpAnyH_ready (rs := [4]) (by kernel_rfl) (by simp) ?_
              refine AllReadyH.cons rfl (fun K hK => ?_) AllReadyH.nil
              go_simp
              refine (splitI_any _ _ _ _ _).mono ?_
              rw [HQ.out]
              rintro e y15 ⟨rfl, hb⟩
              have Y15 := Lib.hid (Below.tr (Below.tr Y13.out (below1 _ _)) hb)
              have Y15z := Y15.out.size
              have Y15_w := Lib.hid (SB.below (SB.below Y13_w.out (below1 _ _)) hb)
              have Y15_wx := Y15_w.out.c0
              have Y15_wy := Y15_w.out.c1
              have Y15_wf := Y15_w.out.f 0
              have Y15_wh := Y15_w.out.f 1
              have Y15_wl := Y15_w.out.lt
              have Y15_z := Lib.hid (SB.below (SB.below Y13_z.out (below1 _ _)) hb)
              have Y15_zx := Y15_z.out.c0
              have Y15_zy := Y15_z.out.c1
              have Y15_zf := Y15_z.out.f 0
              have Y15_zh := Y15_z.out.f 1
              have Y15_zl := Y15_z.out.lt
              have Y15_h := Lib.hid (SB.below (SB.below Y13_h.out (below1 _ _)) hb)
              have Y15_hx := Y15_h.out.c0
              have Y15_hy := Y15_h.out.c1
              have Y15_hf := Y15_h.out.f 0
              have Y15_hh := Y15_h.out.f 1
              have Y15_hl := Y15_h.out.lt
              have Y15_g := Lib.hid (SB.below (SB.newAt (by first | rfl | simp)) hb)
              have Y15_gx := Y15_g.out.c0
              have Y15_gy := Y15_g.out.c1
              have Y15_gf := Y15_g.out.f 0
              have Y15_gh := Y15_g.out.f 1
              have Y15_gl := Y15_g.out.lt
              have Y15ne01 : gw ≠ gz := by omega
              have Y15ne02 : gw ≠ y1.heap.size := by omega
              have Y15ne03 : gw ≠ y13.heap.size := by omega
              have Y15ne10 : gz ≠ gw := by omega
              have Y15ne12 : gz ≠ y1.heap.size := by omega
              have Y15ne13 : gz ≠ y13.heap.size := by omega
              have Y15ne20 : y1.heap.size ≠ gw := by omega
              have Y15ne21 : y1.heap.size ≠ gz := by omega
              have Y15ne23 : y1.heap.size ≠ y13.heap.size := by omega
              have Y15ne30 : y13.heap.size ≠ gw := by omega
              have Y15ne31 : y13.heap.size ≠ gz := by omega
              have Y15ne32 : y13.heap.size ≠ y1.heap.size := by omega
              clear hb
              refine hK.out _ _ ⟨(LB.below N0.out.1 Y15.out).c0, (LB.below N0.out.1 Y15.out).c1, (LB.below N0.out.2.1 Y15.out).c0, (LB.below N0.out.2.1 Y15.out).c1⟩ (fun hHeld2 => ?_)
              clear hK K
              refine wpAnyH_take (i := 5) (v := ?_) rfl (by kernel_rfl) (by kernel_rfl) (by kernel_rfl) (fun _ _ _ h => h) (Or.inl ⟨by rfl, ?_⟩) (by assumption) ?_
              rotate_left
              · intro W hSw
                try dsimp only at hSw
                go_simp
                try with_reducible rfl
              refine wpAnyH_take (i := 6) (v := ?_) rfl (by kernel_rfl) (by kernel_rfl) (by kernel_rfl) (fun _ _ _ h => h) (Or.inl ⟨by rfl, ?_⟩) (by assumption) ?_
              rotate_left
              · intro W hSw
                try dsimp only at hSw
                go_simp
                try with_reducible rfl
              refine wpAnyH_take (i := 7) (v := ?_) rfl (by kernel_rfl) (by kernel_rfl) (by kernel_rfl) (fun _ _ _ h => h) (Or.inl ⟨by rfl, ?_⟩) (by assumption) ?_
              rotate_left
              · intro W hSw
                try dsimp only at hSw
                go_simp
                try with_reducible rfl
              refine wpAnyH_take (i := 8) (v := ?_) rfl (by kernel_rfl) (by kernel_rfl) (by kernel_rfl) (fun _ _ _ h => h) (Or.inl ⟨by rfl, ?_⟩) (by assumption) ?_
              rotate_left
              · intro W hSw
                try dsimp only at hSw
                go_simp
                try with_reducible rfl
              refine wpAnyH_ready (rs := [11]) (by kernel_rfl) (by simp) ?_
              refine AllReadyH.cons rfl (fun K hK => ?_) AllReadyH.nil
              go_simp
              refine hK.out _ _ ⟨(LB.below N0.out.1 (belowS2 Y15.out (by omega))).c0, (LB.below N0.out.1 (belowS2 Y15.out (by omega))).c1, (LB.below N0.out.2.1 (belowS2 Y15.out (by omega))).c0, (LB.below N0.out.2.1 (belowS2 Y15.out (by omega))).c1⟩ (fun hHeld2 => ?_)
              clear hK K
              refine wpAnyH_ready (rs := [12]) (by kernel_rfl) (by simp) ?_
              refine AllReadyH.cons rfl (fun K hK => ?_) AllReadyH.nil
              go_simp
              refine hK.out _ _ ⟨(LB.below N0.out.1 (belowS2 (belowS2 Y15.out (by omega)) (by omega))).c0, (LB.below N0.out.1 (belowS2 (belowS2 Y15.out (by omega)) (by omega))).c1, (LB.below N0.out.2.1 (belowS2 (belowS2 Y15.out (by omega)) (by omega))).c0, (LB.below N0.out.2.1 (belowS2 (belowS2 Y15.out (by omega)) (by omega))).c1⟩ (fun hHeld2 => ?_)
              clear hK K
              refine wpAnyH_ready (rs := [13]) (by kernel_rfl) (by simp) ?_
              refine AllReadyH.cons rfl (fun K hK => ?_) AllReadyH.nil
              go_simp
              refine hK.out _ _ ⟨(LB.below N0.out.1 (belowS2 (belowS2 Y15.out (by omega)) (by omega))).c0, (LB.below N0.out.1 (belowS2 (belowS2 Y15.out (by omega)) (by omega))).c1, (LB.below N0.out.2.1 (belowS2 (belowS2 Y15.out (by omega)) (by omega))).c0, (LB.below N0.out.2.1 (belowS2 (belowS2 Y15.out (by omega)) (by omega))).c1⟩ (fun hHeld2 => ?_)
              clear hK K
              refine wpAnyH_done (by kernel_rfl) ?_ _
              go_wp2_with fail
              go_meet
              exact ⟨_, _, rfl, rfl, rfl, (SB.far2 (SB.set2 Y15_g.out) (by omega)), (SB.set2 (SB.far2 Y15_h.out (by omega))), (SB.far2 (SB.far2 Y15_w.out (by omega)) (by omega)), (SB.far2 (SB.far2 Y15_z.out (by omega)) (by omega)), (belowS2 (belowS2 Y15.out (by omega)) (by omega))⟩
          · skip
            go_simp
            refine hK.out _ _ ⟨(LB.below N0.out.1 (Below.tr (Below.tr Y1.out (below1 _ _)) (below1 _ _))).c0, (LB.below N0.out.1 (Below.tr (Below.tr Y1.out (below1 _ _)) (below1 _ _))).c1, (LB.below N0.out.2.1 (Below.tr (Below.tr Y1.out (below1 _ _)) (below1 _ _))).c0, (LB.below N0.out.2.1 (Below.tr (Below.tr Y1.out (below1 _ _)) (below1 _ _))).c1⟩ (fun hHeld2 => ?_)
            clear hK K
            refine wpAnyH_ready (rs := [3]) (by kernel_rfl) (by simp) ?_
            refine AllReadyH.cons rfl (fun K hK => ?_) AllReadyH.nil
            go_simp
            refine (toSt_any _ _ _).mono ?_
            rintro e y16 ⟨rfl, hb⟩
            have Y16 := Lib.hid (Below.tr (Below.tr (Below.tr Y1.out (below1 _ _)) (below1 _ _)) hb)
            have Y16z := Y16.out.size
            have Y16_w := Lib.hid (SB.below (SB.below (SB.below Y1_w.out (below1 _ _)) (below1 _ _)) hb)
            have Y16_wx := Y16_w.out.c0
            have Y16_wy := Y16_w.out.c1
            have Y16_wf := Y16_w.out.f 0
            have Y16_wh := Y16_w.out.f 1
            have Y16_wl := Y16_w.out.lt
            have Y16_z := Lib.hid (SB.below (SB.below (SB.below Y1_z.out (below1 _ _)) (below1 _ _)) hb)
            have Y16_zx := Y16_z.out.c0
            have Y16_zy := Y16_z.out.c1
            have Y16_zf := Y16_z.out.f 0
            have Y16_zh := Y16_z.out.f 1
            have Y16_zl := Y16_z.out.lt
            have Y16_h := Lib.hid (SB.below (SB.below (SB.newAt (by first | rfl | simp)) (below1 _ _)) hb)
            have Y16_hx := Y16_h.out.c0
            have Y16_hy := Y16_h.out.c1
            have Y16_hf := Y16_h.out.f 0
            have Y16_hh := Y16_h.out.f 1
            have Y16_hl := Y16_h.out.lt
            have Y16_g := Lib.hid (SB.below (SB.newAt1 (by first | rfl | simp)) hb)
            have Y16_gx := Y16_g.out.c0
            have Y16_gy := Y16_g.out.c1
            have Y16_gf := Y16_g.out.f 0
            have Y16_gh := Y16_g.out.f 1
            have Y16_gl := Y16_g.out.lt
            have Y16ne01 : gw ≠ gz := by omega
            have Y16ne02 : gw ≠ y1.heap.size := by omega
            have Y16ne03 : gw ≠ y1.heap.size + 1 := by omega
            have Y16ne10 : gz ≠ gw := by omega
            have Y16ne12 : gz ≠ y1.heap.size := by omega
            have Y16ne13 : gz ≠ y1.heap.size + 1 := by omega
            have Y16ne20 : y1.heap.size ≠ gw := by omega
            have Y16ne21 : y1.heap.size ≠ gz := by omega
            have Y16ne23 : y1.heap.size ≠ y1.heap.size + 1 := by omega
            have Y16ne30 : y1.heap.size + 1 ≠ gw := by omega
            have Y16ne31 : y1.heap.size + 1 ≠ gz := by omega
            have Y16ne32 : y1.heap.size + 1 ≠ y1.heap.size := by omega
            clear hb
            refine hK.out _ _ ⟨(LB.below N0.out.1 Y16.out).c0, (LB.below N0.out.1 Y16.out).c1, (LB.below N0.out.2.1 Y16.out).c0, (LB.below N0.out.2.1 Y16.out).c1⟩ (fun hHeld2 => ?_)
            clear hK K
            refine wpAnyH_ready (rs := [4]) (by kernel_rfl) (by simp) ?_
            refine AllReadyH.cons rfl (fun K hK => ?_) AllReadyH.nil
            go_simp
            refine (splitI_any _ _ _ _ _).mono ?_
            rw [HQ.out]
            rintro e y17 ⟨rfl, hb⟩
            have Y17 := Lib.hid (Below.tr Y16.out hb)
            have Y17z := Y17.out.size
            have Y17_w := Lib.hid (SB.below Y16_w.out hb)
            have Y17_wx := Y17_w.out.c0
            have Y17_wy := Y17_w.out.c1
            have Y17_wf := Y17_w.out.f 0
            have Y17_wh := Y17_w.out.f 1
            have Y17_wl := Y17_w.out.lt
            have Y17_z := Lib.hid (SB.below Y16_z.out hb)
            have Y17_zx := Y17_z.out.c0
            have Y17_zy := Y17_z.out.c1
            have Y17_zf := Y17_z.out.f 0
            have Y17_zh := Y17_z.out.f 1
            have Y17_zl := Y17_z.out.lt
            have Y17_h := Lib.hid (SB.below Y16_h.out hb)
            have Y17_hx := Y17_h.out.c0
            have Y17_hy := Y17_h.out.c1
            have Y17_hf := Y17_h.out.f 0
            have Y17_hh := Y17_h.out.f 1
            have Y17_hl := Y17_h.out.lt
            have Y17_g := Lib.hid (SB.below Y16_g.out hb)
            have Y17_gx := Y17_g.out.c0
            have Y17_gy := Y17_g.out.c1
            have Y17_gf := Y17_g.out.f 0
            have Y17_gh := Y17_g.out.f 1
            have Y17_gl := Y17_g.out.lt
            have Y17ne01 : gw ≠ gz := by omega
            have Y17ne02 : gw ≠ y1.heap.size := by omega
            have Y17ne03 : gw ≠ y1.heap.size + 1 := by omega
            have Y17ne10 : gz ≠ gw := by omega
            have Y17ne12 : gz ≠ y1.heap.size := by omega
            have Y17ne13 : gz ≠ y1.heap.size + 1 := by omega
            have Y17ne20 : y1.heap.size ≠ gw := by omega
            have Y17ne21 : y1.heap.size ≠ gz := by omega
            have Y17ne23 : y1.heap.size ≠ y1.heap.size + 1 := by omega
            have Y17ne30 : y1.heap.size + 1 ≠ gw := by omega
            have Y17ne31 : y1.heap.size + 1 ≠ gz := by omega
            have Y17ne32 : y1.heap.size + 1 ≠ y1.heap.size := by omega
            clear hb
            refine hK.out _ _ ⟨(LB.below N0.out.1 Y17.out).c0, (LB.below N0.out.1 Y17.out).c1, (LB.below N0.out.2.1 Y17.out).c0, (LB.below N0.out.2.1 Y17.out).c1⟩ (fun hHeld2 => ?_)
            clear hK K
            refine wpAnyH_take (i := 5) (v := ?_) rfl (by kernel_rfl) (by kernel_rfl) (by kernel_rfl) (fun _ _ _ h => h) (Or.inl ⟨by rfl, ?_⟩) (by assumption) ?_
            rotate_left
            · intro W hSw
              try dsimp only at hSw
              go_simp
              try with_reducible rfl
            refine wpAnyH_take (i := 6) (v := ?_) rfl (by kernel_rfl) (by kernel_rfl) (by kernel_rfl) (fun _ _ _ h => h) (Or.inl ⟨by rfl, ?_⟩) (by assumption) ?_
            rotate_left
            · intro W hSw
              try dsimp only at hSw
              go_simp
              try with_reducible rfl
            refine wpAnyH_take (i := 7) (v := ?_) rfl (by kernel_rfl) (by kernel_rfl) (by kernel_rfl) (fun _ _ _ h => h) (Or.inl ⟨by rfl, ?_⟩) (by assumption) ?_
            rotate_left
            · intro W hSw
              try dsimp only at hSw
              go_simp
              try with_reducible rfl
            refine wpAnyH_take (i := 8) (v := ?_) rfl (by kernel_rfl) (by kernel_rfl) (by kernel_rfl) (fun _ _ _ h => h) (Or.inl ⟨by rfl, ?_⟩) (by assumption) ?_
            rotate_left
            · intro W hSw
              try dsimp only at hSw
              go_simp
              try with_reducible rfl
            refine wpAnyH_ready (rs := [11]) (by kernel_rfl) (by simp) ?_
            refine AllReadyH.cons rfl (fun K hK => ?_) AllReadyH.nil
            go_simp
            refine hK.out _ _ ⟨(LB.below N0.out.1 (belowS2 Y17.out (by omega))).c0, (LB.below N0.out.1 (belowS2 Y17.out (by omega))).c1, (LB.below N0.out.2.1 (belowS2 Y17.out (by omega))).c0, (LB.below N0.out.2.1 (belowS2 Y17.out (by omega))).c1⟩ (fun hHeld2 => ?_)
            clear hK K
            refine wpAnyH_ready (rs := [12]) (by kernel_rfl) (by simp) ?_
            refine AllReadyH.cons rfl (fun K hK => ?_) AllReadyH.nil
            go_simp
            refine hK.out _ _ ⟨(LB.below N0.out.1 (belowS2 (belowS2 Y17.out (by omega)) (by omega))).c0, (LB.below N0.out.1 (belowS2 (belowS2 Y17.out (by omega)) (by omega))).c1, (LB.below N0.out.2.1 (belowS2 (belowS2 Y17.out (by omega)) (by omega))).c0, (LB.below N0.out.2.1 (belowS2 (belowS2 Y17.out (by omega)) (by omega))).c1⟩ (fun hHeld2 => ?_)
            clear hK K
            refine wpAnyH_ready (rs := [13]) (by kernel_rfl) (by simp) ?_
            refine AllReadyH.cons rfl (fun K hK => ?_) AllReadyH.nil
            go_simp
            refine hK.out _ _ ⟨(LB.below N0.out.1 (belowS2 (belowS2 Y17.out (by omega)) (by omega))).c0, (LB.below N0.out.1 (belowS2 (belowS2 Y17.out (by omega)) (by omega))).c1, (LB.below N0.out.2.1 (belowS2 (belowS2 Y17.out (by omega)) (by omega))).c0, (LB.below N0.out.2.1 (belowS2 (belowS2 Y17.out (by omega)) (by omega))).c1⟩ (fun hHeld2 => ?_)
            clear hK K
            refine wpAnyH_done (by kernel_rfl) ?_ _
            go_wp2_with fail
            go_meet
            exact ⟨_, _, rfl, rfl, rfl, (SB.far2 (SB.set2 Y17_g.out) (by omega)), (SB.set2 (SB.far2 Y17_h.out (by omega))), (SB.far2 (SB.far2 Y17_w.out (by omega)) (by omega)), (SB.far2 (SB.far2 Y17_z.out (by omega)) (by omega)), (belowS2 (belowS2 Y17.out (by omega)) (by omega))⟩
      · skip
        go_simp
        refine hK.out _ _ ⟨(LB.below N0.out.1 (Below.tr D1.out (below1 _ _))).c0, (LB.below N0.out.1 (Below.tr D1.out (below1 _ _))).c1, (LB.below N0.out.2.1 (Below.tr D1.out (below1 _ _))).c0, (LB.below N0.out.2.1 (Below.tr D1.out (below1 _ _))).c1⟩ (fun hHeld2 => ?_)
        clear hK K
        refine wpAnyH_ready (rs := [1, 10]) (by kernel_rfl) (by simp) ?_
        refine AllReadyH.cons rfl (fun K hK => ?_) (AllReadyH.cons rfl (fun K hK => ?_) AllReadyH.nil)
        · skip
          go_simp
          refine (toSt_any _ _ _).mono ?_
          rintro e y18 ⟨rfl, hb⟩
          have Y18 := Lib.hid (Below.tr (Below.drew (Below.tr D1.out (below1 _ _))) hb)
          have Y18z := Y18.out.size
          have Y18_w := Lib.hid (SB.below (SB.drewn (SB.below S1.out (below1 _ _))) hb)
          have Y18_wx := Y18_w.out.c0
          have Y18_wy := Y18_w.out.c1
          have Y18_wf := Y18_w.out.f 0
          have Y18_wh := Y18_w.out.f 1
          have Y18_wl := Y18_w.out.lt
          have Y18_z := Lib.hid (SB.below (SB.drewn (SB.below T1.out (below1 _ _))) hb)
          have Y18_zx := Y18_z.out.c0
          have Y18_zy := Y18_z.out.c1
          have Y18_zf := Y18_z.out.f 0
          have Y18_zh := Y18_z.out.f 1
          have Y18_zl := Y18_z.out.lt
          have Y18_g := Lib.hid (SB.below (SB.drewn (SB.newAt (by first | rfl | simp))) hb)
          have Y18_gx := Y18_g.out.c0
          have Y18_gy := Y18_g.out.c1
          have Y18_gf := Y18_g.out.f 0
          have Y18_gh := Y18_g.out.f 1
          have Y18_gl := Y18_g.out.lt
          have Y18ne01 : gw ≠ gz := by omega
          have Y18ne02 : gw ≠ v1.heap.size := by omega
          have Y18ne10 : gz ≠ gw := by omega
          have Y18ne12 : gz ≠ v1.heap.size := by omega
          have Y18ne20 : v1.heap.size ≠ gw := by omega
          have Y18ne21 : v1.heap.size ≠ gz := by omega
          clear hb
          refine hK.out _ _ ⟨(LB.below N0.out.1 Y18.out).c0, (LB.below N0.out.1 Y18.out).c1, (LB.below N0.out.2.1 Y18.out).c0, (LB.below N0.out.2.1 Y18.out).c1⟩ (fun hHeld2 => ?_)
          clear hK K
          refine wpAnyH_ready (rs := [3, 10]) (by kernel_rfl) (by simp) ?_
          refine AllReadyH.cons rfl (fun K hK => ?_) (AllReadyH.cons rfl (fun K hK => ?_) AllReadyH.nil)
          · skip
            go_simp
            refine (toSt_any _ _ _).mono ?_
            rintro e y19 ⟨rfl, hb⟩
            have Y19 := Lib.hid (Below.tr Y18.out hb)
            have Y19z := Y19.out.size
            have Y19_w := Lib.hid (SB.below Y18_w.out hb)
            have Y19_wx := Y19_w.out.c0
            have Y19_wy := Y19_w.out.c1
            have Y19_wf := Y19_w.out.f 0
            have Y19_wh := Y19_w.out.f 1
            have Y19_wl := Y19_w.out.lt
            have Y19_z := Lib.hid (SB.below Y18_z.out hb)
            have Y19_zx := Y19_z.out.c0
            have Y19_zy := Y19_z.out.c1
            have Y19_zf := Y19_z.out.f 0
            have Y19_zh := Y19_z.out.f 1
            have Y19_zl := Y19_z.out.lt
            have Y19_g := Lib.hid (SB.below Y18_g.out hb)
            have Y19_gx := Y19_g.out.c0
            have Y19_gy := Y19_g.out.c1
            have Y19_gf := Y19_g.out.f 0
            have Y19_gh := Y19_g.out.f 1
            have Y19_gl := Y19_g.out.lt
            have Y19ne01 : gw ≠ gz := by omega
            have Y19ne02 : gw ≠ v1.heap.size := by omega
            have Y19ne10 : gz ≠ gw := by omega
            have Y19ne12 : gz ≠ v1.heap.size := by omega
            have Y19ne20 : v1.heap.size ≠ gw := by omega
            have Y19ne21 : v1.heap.size ≠ gz := by omega
            clear hb
            refine hK.out _ _ ⟨(LB.below N0.out.1 Y19.out).c0, (LB.below N0.out.1 Y19.out).c1, (LB.below N0.out.2.1 Y19.out).c0, (LB.below N0.out.2.1 Y19.out).c1⟩ (fun hHeld2 => ?_)
            clear hK K
            refine wpAnyH_ready (rs := [4, 10]) (by kernel_rfl) (by simp) ?_
            refine AllReadyH.cons rfl (fun K hK => ?_) (AllReadyH.cons rfl (fun K hK => ?_) AllReadyH.nil)
            · skip
              go_simp
              refine (splitI_any _ _ _ _ _).mono ?_
              rw [HQ.out]
              rintro e y20 ⟨rfl, hb⟩
              have Y20 := Lib.hid (Below.tr Y19.out hb)
              have Y20z := Y20.out.size
              have Y20_w := Lib.hid (SB.below Y19_w.out hb)
              have Y20_wx := Y20_w.out.c0
              have Y20_wy := Y20_w.out.c1
              have Y20_wf := Y20_w.out.f 0
              have Y20_wh := Y20_w.out.f 1
              have Y20_wl := Y20_w.out.lt
              have Y20_z := Lib.hid (SB.below Y19_z.out hb)
              have Y20_zx := Y20_z.out.c0
              have Y20_zy := Y20_z.out.c1
              have Y20_zf := Y20_z.out.f 0
              have Y20_zh := Y20_z.out.f 1
              have Y20_zl := Y20_z.out.lt
              have Y20_g := Lib.hid (SB.below Y19_g.out hb)
              have Y20_gx := Y20_g.out.c0
              have Y20_gy := Y20_g.out.c1
              have Y20_gf := Y20_g.out.f 0
              have Y20_gh := Y20_g.out.f 1
              have Y20_gl := Y20_g.out.lt
              have Y20ne01 : gw ≠ gz := by omega
              have Y20ne02 : gw ≠ v1.heap.size := by omega
              have Y20ne10 : gz ≠ gw := by omega
              have Y20ne12 : gz ≠ v1.heap.size := by omega
              have Y20ne20 : v1.heap.size ≠ gw := by omega
              have Y20ne21 : v1.heap.size ≠ gz := by omega
              clear hb
              refine hK.out _ _ ⟨(LB.below N0.out.1 Y20.out).c0, (LB.below N0.out.1 Y20.out).c1, (LB.below N0.out.2.1 Y20.out).c0, (LB.below N0.out.2.1 Y20.out).c1⟩ (fun hHeld2 => ?_)
              clear hK K
              refine wpAnyH_take (i := 5) (v := ?_) rfl (by kernel_rfl) (by kernel_rfl) (by kernel_rfl) (fun _ _ _ h => h) (Or.inl ⟨by rfl, ?_⟩) (by assumption) ?_
              rotate_left
              · intro W hSw
                try dsimp only at hSw
                go_simp
                try with_reducible rfl
              refine wpAnyH_take (i := 6) (v := ?_) rfl (by kernel_rfl) (by kernel_rfl) (by kernel_rfl) (fun _ _ _ h => h) (Or.inl ⟨by rfl, ?_⟩) (by assumption) ?_
              rotate_left
              · intro W hSw
                try dsimp only at hSw
                go_simp
                try with_reducible rfl
              refine wpAnyH_take (i := 7) (v := ?_) rfl (by kernel_rfl) (by kernel_rfl) (by kernel_rfl) (fun _ _ _ h => h) (Or.inl ⟨by rfl, ?_⟩) (by assumption) ?_
              rotate_left
              · intro W hSw
                try dsimp only at hSw
                go_simp
                try with_reducible rfl
              refine wpAnyH_take (i := 8) (v := ?_) rfl (by kernel_rfl) (by kernel_rfl) (by kernel_rfl) (fun _ _ _ h => h) (Or.inl ⟨by rfl, ?_⟩) (by assumption) ?_
              rotate_left
              · intro W hSw
                try dsimp only at hSw
                go_simp
                try with_reducible rfl
              refine wpAnyH_ready (rs := [10]) (by kernel_rfl) (by simp) ?_
              refine AllReadyH.cons rfl (fun K hK => ?_) AllReadyH.nil
              go_simp
              refine hK.out _ _ ⟨(LB.below N0.out.1 (Below.tr Y20.out (below1 _ _))).c0, (LB.below N0.out.1 (Below.tr Y20.out (below1 _ _))).c1, (LB.below N0.out.2.1 (Below.tr Y20.out (below1 _ _))).c0, (LB.below N0.out.2.1 (Below.tr Y20.out (below1 _ _))).c1⟩ (fun hHeld2 => ?_)
              clear hK K
              refine wpAnyH_ready (rs := [11]) (by kernel_rfl) (by simp) ?_
              refine AllReadyH.cons rfl (fun K hK => ?_) AllReadyH.nil
              go_simp
              refine hK.out _ _ ⟨(LB.below N0.out.1 (Below.tr (belowS2 Y20.out (by omega)) (below1 _ _))).c0, (LB.below N0.out.1 (Below.tr (belowS2 Y20.out (by omega)) (below1 _ _))).c1, (LB.below N0.out.2.1 (Below.tr (belowS2 Y20.out (by omega)) (below1 _ _))).c0, (LB.below N0.out.2.1 (Below.tr (belowS2 Y20.out (by omega)) (below1 _ _))).c1⟩ (fun hHeld2 => ?_)
              clear hK K
              refine wpAnyH_ready (rs := [12]) (by kernel_rfl) (by simp) ?_
              refine AllReadyH.cons rfl (fun K hK => ?_) AllReadyH.nil
              go_simp
              refine hK.out _ _ ⟨(LB.below N0.out.1 (Below.tr (belowS2 Y20.out (by omega)) (below1 _ _))).c0, (LB.below N0.out.1 (Below.tr (belowS2 Y20.out (by omega)) (below1 _ _))).c1, (LB.below N0.out.2.1 (Below.tr (belowS2 Y20.out (by omega)) (below1 _ _))).c0, (LB.below N0.out.2.1 (Below.tr (belowS2 Y20.out (by omega)) (below1 _ _))).c1⟩ (fun hHeld2 => ?_)
              clear hK K
              refine wpAnyH_ready (rs := [13]) (by kernel_rfl) (by simp) ?_
              refine AllReadyH.cons rfl (fun K hK => ?_) AllReadyH.nil
              go_simp
              refine hK.out _ _ ⟨(LB.below N0.out.1 (Below.tr (belowS2 Y20.out (by omega)) (below1 _ _))).c0, (LB.below N0.out.1 (Below.tr (belowS2 Y20.out (by omega)) (below1 _ _))).c1, (LB.below N0.out.2.1 (Below.tr (belowS2 Y20.out (by omega)) (below1 _ _))).c0, (LB.below N0.out.2.1 (Below.tr (belowS2 Y20.out (by omega)) (below1 _ _))).c1⟩ (fun hHeld2 => ?_)
              clear hK K
              refine wpAnyH_done (by kernel_rfl) ?_ _
              go_wp2_with fail
              go_meet
              exact ⟨_, _, rfl, rfl, rfl, (SB.below (SB.set2 Y20_g.out) (below1 _ _)), (SB.newAt (by first | rfl | simp)), (SB.below (SB.far2 Y20_w.out (by omega)) (below1 _ _)), (SB.below (SB.far2 Y20_z.out (by omega)) (below1 _ _)), (Below.tr (belowS2 Y20.out (by omega)) (below1 _ _))⟩
            · skip
              go_simp
              refine hK.out _ _ ⟨(LB.below N0.out.1 (Below.tr Y19.out (below1 _ _))).c0, (LB.below N0.out.1 (Below.tr Y19.out (below1 _ _))).c1, (LB.below N0.out.2.1 (Below.tr Y19.out (below1 _ _))).c0, (LB.below N0.out.2.1 (Below.tr Y19.out (below1 _ _))).c1⟩ (fun hHeld2 => ?_)
              clear hK K
              refine wpAnyH_ready (rs := [4]) (by kernel_rfl) (by simp) ?_
              refine AllReadyH.cons rfl (fun K hK => ?_) AllReadyH.nil
              go_simp
              refine (splitI_any _ _ _ _ _).mono ?_
              rw [HQ.out]
              rintro e y21 ⟨rfl, hb⟩
              have Y21 := Lib.hid (Below.tr (Below.tr Y19.out (below1 _ _)) hb)
              have Y21z := Y21.out.size
              have Y21_w := Lib.hid (SB.below (SB.below Y19_w.out (below1 _ _)) hb)
              have Y21_wx := Y21_w.out.c0
              have Y21_wy := Y21_w.out.c1
              have Y21_wf := Y21_w.out.f 0
              have Y21_wh := Y21_w.out.f 1
              have Y21_wl := Y21_w.out.lt
              have Y21_z := Lib.hid (SB.below (SB.below Y19_z.out (below1 _ _)) hb)
              have Y21_zx := Y21_z.out.c0
              have Y21_zy := Y21_z.out.c1
              have Y21_zf := Y21_z.out.f 0
              have Y21_zh := Y21_z.out.f 1
              have Y21_zl := Y21_z.out.lt
              have Y21_g := Lib.hid (SB.below (SB.below Y19_g.out (below1 _ _)) hb)
              have Y21_gx := Y21_g.out.c0
              have Y21_gy := Y21_g.out.c1
              have Y21_gf := Y21_g.out.f 0
              have Y21_gh := Y21_g.out.f 1
              have Y21_gl := Y21_g.out.lt
              have Y21_h := Lib.hid (SB.below (SB.newAt (by first | rfl | simp)) hb)
              have Y21_hx := Y21_h.out.c0
              have Y21_hy := Y21_h.out.c1
              have Y21_hf := Y21_h.out.f 0
              have Y21_hh := Y21_h.out.f 1
              have Y21_hl := Y21_h.out.lt
              have Y21ne01 : gw ≠ gz := by omega
              have Y21ne02 : gw ≠ v1.heap.size := by omega
              have Y21ne03 : gw ≠ y19.heap.size := by omega
              have Y21ne10 : gz ≠ gw := by omega
              have Y21ne12 : gz ≠ v1.heap.size := by omega
              have Y21ne13 : gz ≠ y19.heap.size := by omega
              have Y21ne20 : v1.heap.size ≠ gw := by omega
              have Y21ne21 : v1.heap.size ≠ gz := by omega
              have Y21ne23 : v1.heap.size ≠ y19.heap.size := by omega
              have Y21ne30 : y19.heap.size ≠ gw := by omega
              have Y21ne31 : y19.heap.size ≠ gz := by omega
              have Y21ne32 : y19.heap.size ≠ v1.heap.size := by omega
              clear hb
              refine hK.out _ _ ⟨(LB.below N0.out.1 Y21.out).c0, (LB.below N0.out.1 Y21.out).c1, (LB.below N0.out.2.1 Y21.out).c0, (LB.below N0.out.2.1 Y21.out).c1⟩ (fun hHeld2 => ?_)
              clear hK K
              refine wpAnyH_take (i := 5) (v := ?_) rfl (by kernel_rfl) (by kernel_rfl) (by kernel_rfl) (fun _ _ _ h => h) (Or.inl ⟨by rfl, ?_⟩) (by assumption) ?_
              rotate_left
              · intro W hSw
                try dsimp only at hSw
                go_simp
                try with_reducible rfl
              refine wpAnyH_take (i := 6) (v := ?_) rfl (by kernel_rfl) (by kernel_rfl) (by kernel_rfl) (fun _ _ _ h => h) (Or.inl ⟨by rfl, ?_⟩) (by assumption) ?_
              rotate_left
              · intro W hSw
                try dsimp only at hSw
                go_simp
                try with_reducible rfl
              refine wpAnyH_take (i := 7) (v := ?_) rfl (by kernel_rfl) (by kernel_rfl) (by kernel_rfl) (fun _ _ _ h => h) (Or.inl ⟨by rfl, ?_⟩) (by assumption) ?_
              rotate_left
              · intro W hSw
                try dsimp only at hSw
                go_simp
                try with_reducible rfl
              refine wpAnyH_take (i := 8) (v := ?_) rfl (by kernel_rfl) (by kernel_rfl) (by kernel_rfl) (fun _ _ _ h => h) (Or.inl ⟨by rfl, ?_⟩) (by assumption) ?_
              rotate_left
              · intro W hSw
                try dsimp only at hSw
                go_simp
                try with_reducible rfl
              refine wpAnyH_ready (rs := [11]) (by kernel_rfl) (by simp) ?_
              refine AllReadyH.cons rfl (fun K hK => ?_) AllReadyH.nil
              go_simp
              refine hK.out _ _ ⟨(LB.below N0.out.1 (belowS2 Y21.out (by omega))).c0, (LB.below N0.out.1 (belowS2 Y21.out (by omega))).c1, (LB.below N0.out.2.1 (belowS2 Y21.out (by omega))).c0, (LB.below N0.out.2.1 (belowS2 Y21.out (by omega))).c1⟩ (fun hHeld2 => ?_)
              clear hK K
              refine wpAnyH_ready (rs := [12]) (by kernel_rfl) (by simp) ?_
              refine AllReadyH.cons rfl (fun K hK => ?_) AllReadyH.nil
              go_simp
              refine hK.out _ _ ⟨(LB.below N0.out.1 (belowS2 (belowS2 Y21.out (by omega)) (by omega))).c0, (LB.below N0.out.1 (belowS2 (belowS2 Y21.out (by omega)) (by omega))).c1, (LB.below N0.out.2.1 (belowS2 (belowS2 Y21.out (by omega)) (by omega))).c0, (LB.below N0.out.2.1 (belowS2 (belowS2 Y21.out (by omega)) (by omega))).c1⟩ (fun hHeld2 => ?_)
              clear hK K
              refine wpAnyH_ready (rs := [13]) (by kernel_rfl) (by simp) ?_
              refine AllReadyH.cons rfl (fun K hK => ?_) AllReadyH.nil
              go_simp
              refine hK.out _ _ ⟨(LB.below N0.out.1 (belowS2 (belowS2 Y21.out (by omega)) (by omega))).c0, (LB.below N0.out.1 (belowS2 (belowS2 Y21.out (by omega)) (by omega))).c1, (LB.below N0.out.2.1 (belowS2 (belowS2 Y21.out (by omega)) (by omega))).c0, (LB.below N0.out.2.1 (belowS2 (belowS2 Y21.out (by omega)) (by omega))).c1⟩ (fun hHeld2 => ?_)
              clear hK K
              refine wpAnyH_done (by kernel_rfl) ?_ _
              go_wp2_with fail
              go_meet
              exact ⟨_, _, rfl, rfl, rfl, (SB.far2 (SB.set2 Y21_g.out) (by omega)), (SB.set2 (SB.far2 Y21_h.out (by omega))), (SB.far2 (SB.far2 Y21_w.out (by omega)) (by omega)), (SB.far2 (SB.far2 Y21_z.out (by omega)) (by omega)), (belowS2 (belowS2 Y21.out (by omega)) (by omega))⟩
          · skip
            go_simp
            refine hK.out _ _ ⟨(LB.below N0.out.1 (Below.tr Y18.out (below1 _ _))).c0, (LB.below N0.out.1 (Below.tr Y18.out (below1 _ _))).c1, (LB.below N0.out.2.1 (Below.tr Y18.out (below1 _ _))).c0, (LB.below N0.out.2.1 (Below.tr Y18.out (below1 _ _))).c1⟩ (fun hHeld2 => ?_)
            clear hK K
            refine wpAnyH_ready (rs := [3]) (by kernel_rfl) (by simp) ?_
            refine AllReadyH.cons rfl (fun K hK => ?_) AllReadyH.nil
            go_simp
            refine (toSt_any _ _ _).mono ?_
            rintro e y22 ⟨rfl, hb⟩
            have Y22 := Lib.hid (Below.tr (Below.tr Y18.out (below1 _ _)) hb)
            have Y22z := Y22.out.size
            have Y22_w := Lib.hid (SB.below (SB.below Y18_w.out (below1 _ _)) hb)
            have Y22_wx := Y22_w.out.c0
            have Y22_wy := Y22_w.out.c1
            have Y22_wf := Y22_w.out.f 0
            have Y22_wh := Y22_w.out.f 1
            have Y22_wl := Y22_w.out.lt
            have Y22_z := Lib.hid (SB.below (SB.below Y18_z.out (below1 _ _)) hb)
            have Y22_zx := Y22_z.out.c0
            have Y22_zy := Y22_z.out.c1
            have Y22_zf := Y22_z.out.f 0
            have Y22_zh := Y22_z.out.f 1
            have Y22_zl := Y22_z.out.lt
            have Y22_g := Lib.hid (SB.below (SB.below Y18_g.out (below1 _ _)) hb)
            have Y22_gx := Y22_g.out.c0
            have Y22_gy := Y22_g.out.c1
            have Y22_gf := Y22_g.out.f 0
            have Y22_gh := Y22_g.out.f 1
            have Y22_gl := Y22_g.out.lt
            have Y22_h := Lib.hid (SB.below (SB.newAt (by first | rfl | simp)) hb)
            have Y22_hx := Y22_h.out.c0
            have Y22_hy := Y22_h.out.c1
            have Y22_hf := Y22_h.out.f 0
            have Y22_hh := Y22_h.out.f 1
            have Y22_hl := Y22_h.out.lt
            have Y22ne01 : gw ≠ gz := by omega
            have Y22ne02 : gw ≠ v1.heap.size := by omega
            have Y22ne03 : gw ≠ y18.heap.size := by omega
            have Y22ne10 : gz ≠ gw := by omega
            have Y22ne12 : gz ≠ v1.heap.size := by omega
            have Y22ne13 : gz ≠ y18.heap.size := by omega
            have Y22ne20 : v1.heap.size ≠ gw := by omega
            have Y22ne21 : v1.heap.size ≠ gz := by omega
            have Y22ne23 : v1.heap.size ≠ y18.heap.size := by omega
            have Y22ne30 : y18.heap.size ≠ gw := by omega
            have Y22ne31 : y18.heap.size ≠ gz := by omega
            have Y22ne32 : y18.heap.size ≠ v1.heap.size := by omega
            clear hb
            refine hK.out _ _ ⟨(LB.below N0.out.1 Y22.out).c0, (LB.below N0.out.1 Y22.out).c1, (LB.below N0.out.2.1 Y22.out).c0, (LB.below N0.out.2.1 Y22.out).c1⟩ (fun hHeld2 => ?_)
            clear hK K
            refine wpAnyH_ready (rs := [4]) (by kernel_rfl) (by simp) ?_
            refine AllReadyH.cons rfl (fun K hK => ?_) AllReadyH.nil
            go_simp
            refine (splitI_any _ _ _ _ _).mono ?_
            rw [HQ.out]
            rintro e y23 ⟨rfl, hb⟩
            have Y23 := Lib.hid (Below.tr Y22.out hb)
            have Y23z := Y23.out.size
            have Y23_w := Lib.hid (SB.below Y22_w.out hb)
            have Y23_wx := Y23_w.out.c0
            have Y23_wy := Y23_w.out.c1
            have Y23_wf := Y23_w.out.f 0
            have Y23_wh := Y23_w.out.f 1
            have Y23_wl := Y23_w.out.lt
            have Y23_z := Lib.hid (SB.below Y22_z.out hb)
            have Y23_zx := Y23_z.out.c0
            have Y23_zy := Y23_z.out.c1
            have Y23_zf := Y23_z.out.f 0
            have Y23_zh := Y23_z.out.f 1
            have Y23_zl := Y23_z.out.lt
            have Y23_g := Lib.hid (SB.below Y22_g.out hb)
            have Y23_gx := Y23_g.out.c0
            have Y23_gy := Y23_g.out.c1
            have Y23_gf := Y23_g.out.f 0
            have Y23_gh := Y23_g.out.f 1
            have Y23_gl := Y23_g.out.lt
            have Y23_h := Lib.hid (SB.below Y22_h.out hb)
            have Y23_hx := Y23_h.out.c0
            have Y23_hy := Y23_h.out.c1
            have Y23_hf := Y23_h.out.f 0
            have Y23_hh := Y23_h.out.f 1
            have Y23_hl := Y23_h.out.lt
            have Y23ne01 : gw ≠ gz := by omega
            have Y23ne02 : gw ≠ v1.heap.size := by omega
            have Y23ne03 : gw ≠ y18.heap.size := by omega
            have Y23ne10 : gz ≠ gw := by omega
            have Y23ne12 : gz ≠ v1.heap.size := by omega
            have Y23ne13 : gz ≠ y18.heap.size := by omega
            have Y23ne20 : v1.heap.size ≠ gw := by omega
            have Y23ne21 : v1.heap.size ≠ gz := by omega
            have Y23ne23 : v1.heap.size ≠ y18.heap.size := by omega
            have Y23ne30 : y18.heap.size ≠ gw := by omega
            have Y23ne31 : y18.heap.size ≠ gz := by omega
            have Y23ne32 : y18.heap.size ≠ v1.heap.size := by omega
            clear hb
            refine hK.out _ _ ⟨(LB.below N0.out.1 Y23.out).c0, (LB.below N0.out.1 Y23.out).c1, (LB.below N0.out.2.1 Y23.out).c0, (LB.below N0.out.2.1 Y23.out).c1⟩ (fun hHeld2 => ?_)
            clear hK K
            refine wpAnyH_take (i := 5) (v := ?_) rfl (by kernel_rfl) (by kernel_rfl) (by kernel_rfl) (fun _ _ _ h => h) (Or.inl ⟨by rfl, ?_⟩) (by assumption) ?_
            rotate_left
            · intro W hSw
              try dsimp only at hSw
              go_simp
              try with_reducible rfl
            refine wpAnyH_take (i := 6) (v := ?_) rfl (by kernel_rfl) (by kernel_rfl) (by kernel_rfl) (fun _ _ _ h => h) (Or.inl ⟨by rfl, ?_⟩) (by assumption) ?_
            rotate_left
            · intro W hSw
              try dsimp only at hSw
              go_simp
              try with_reducible rfl
            refine wpAnyH_take (i := 7) (v := ?_) rfl (by kernel_rfl) (by kernel_rfl) (by kernel_rfl) (fun _ _ _ h => h) (Or.inl ⟨by rfl, ?_⟩) (by assumption) ?_
            rotate_left
            · intro W hSw
              try dsimp only at hSw
              go_simp
              try with_reducible rfl
            refine wpAnyH_take (i := 8) (v := ?_) rfl (by kernel_rfl) (by kernel_rfl) (by kernel_rfl) (fun _ _ _ h => h) (Or.inl ⟨by rfl, ?_⟩) (by assumption) ?_
            rotate_left
            · intro W hSw
              try dsimp only at hSw
              go_simp
              try with_reducible rfl
            refine wpAnyH_ready (rs := [11]) (by kernel_rfl) (by simp) ?_
            refine AllReadyH.cons rfl (fun K hK => ?_) AllReadyH.nil
            go_simp
            refine hK.out _ _ ⟨(LB.below N0.out.1 (belowS2 Y23.out (by omega))).c0, (LB.below N0.out.1 (belowS2 Y23.out (by omega))).c1, (LB.below N0.out.2.1 (belowS2 Y23.out (by omega))).c0, (LB.below N0.out.2.1 (belowS2 Y23.out (by omega))).c1⟩ (fun hHeld2 => ?_)
            clear hK K
            refine wpAnyH_ready (rs := [12]) (by kernel_rfl) (by simp) ?_
            refine AllReadyH.cons rfl (fun K hK => ?_) AllReadyH.nil
            go_simp
            refine hK.out _ _ ⟨(LB.below N0.out.1 (belowS2 (belowS2 Y23.out (by omega)) (by omega))).c0, (LB.below N0.out.1 (belowS2 (belowS2 Y23.out (by omega)) (by omega))).c1, (LB.below N0.out.2.1 (belowS2 (belowS2 Y23.out (by omega)) (by omega))).c0, (LB.below N0.out.2.1 (belowS2 (belowS2 Y23.out (by omega)) (by omega))).c1⟩ (fun hHeld2 => ?_)
            clear hK K
            refine wpAnyH_ready (rs := [13]) (by kernel_rfl) (by simp) ?_
            refine AllReadyH.cons rfl (fun K hK => ?_) AllReadyH.nil
            go_simp
            refine hK.out _ _ ⟨(LB.below N0.out.1 (belowS2 (belowS2 Y23.out (by omega)) (by omega))).c0, (LB.below N0.out.1 (belowS2 (belowS2 Y23.out (by omega)) (by omega))).c1, (LB.below N0.out.2.1 (belowS2 (belowS2 Y23.out (by omega)) (by omega))).c0, (LB.below N0.out.2.1 (belowS2 (belowS2 Y23.out (by omega)) (by omega))).c1⟩ (fun hHeld2 => ?_)
            clear hK K
            refine wpAnyH_done (by kernel_rfl) ?_ _
            go_wp2_with fail
            go_meet
            exact ⟨_, _, rfl, rfl, rfl, (SB.far2 (SB.set2 Y23_g.out) (by omega)), (SB.set2 (SB.far2 Y23_h.out (by omega))), (SB.far2 (SB.far2 Y23_w.out (by omega)) (by omega)), (SB.far2 (SB.far2 Y23_z.out (by omega)) (by omega)), (belowS2 (belowS2 Y23.out (by omega)) (by omega))⟩
        · skip
          go_simp
          refine hK.out _ _ ⟨(LB.below N0.out.1 (Below.tr (Below.tr D1.out (below1 _ _)) (below1 _ _))).c0, (LB.below N0.out.1 (Below.tr (Below.tr D1.out (below1 _ _)) (below1 _ _))).c1, (LB.below N0.out.2.1 (Below.tr (Below.tr D1.out (below1 _ _)) (below1 _ _))).c0, (LB.below N0.out.2.1 (Below.tr (Below.tr D1.out (below1 _ _)) (below1 _ _))).c1⟩ (fun hHeld2 => ?_)
          clear hK K
          refine wpAnyH_ready (rs := [1]) (by kernel_rfl) (by simp) ?_
          refine AllReadyH.cons rfl (fun K hK => ?_) AllReadyH.nil
          go_simp
          refine (toSt_any _ _ _).mono ?_
          rintro e y24 ⟨rfl, hb⟩
          have Y24 := Lib.hid (Below.tr (Below.drew (Below.tr (Below.tr D1.out (below1 _ _)) (below1 _ _))) hb)
          have Y24z := Y24.out.size
          have Y24_w := Lib.hid (SB.below (SB.drewn (SB.below (SB.below S1.out (below1 _ _)) (below1 _ _))) hb)
          have Y24_wx := Y24_w.out.c0
          have Y24_wy := Y24_w.out.c1
          have Y24_wf := Y24_w.out.f 0
          have Y24_wh := Y24_w.out.f 1
          have Y24_wl := Y24_w.out.lt
          have Y24_z := Lib.hid (SB.below (SB.drewn (SB.below (SB.below T1.out (below1 _ _)) (below1 _ _))) hb)
          have Y24_zx := Y24_z.out.c0
          have Y24_zy := Y24_z.out.c1
          have Y24_zf := Y24_z.out.f 0
          have Y24_zh := Y24_z.out.f 1
          have Y24_zl := Y24_z.out.lt
          have Y24_g := Lib.hid (SB.below (SB.drewn (SB.below (SB.newAt (by first | rfl | simp)) (below1 _ _))) hb)
          have Y24_gx := Y24_g.out.c0
          have Y24_gy := Y24_g.out.c1
          have Y24_gf := Y24_g.out.f 0
          have Y24_gh := Y24_g.out.f 1
          have Y24_gl := Y24_g.out.lt
          have Y24_h := Lib.hid (SB.below (SB.drewn (SB.newAt1 (by first | rfl | simp))) hb)
          have Y24_hx := Y24_h.out.c0
          have Y24_hy := Y24_h.out.c1
          have Y24_hf := Y24_h.out.f 0
          have Y24_hh := Y24_h.out.f 1
          have Y24_hl := Y24_h.out.lt
          have Y24ne01 : gw ≠ gz := by omega
          have Y24ne02 : gw ≠ v1.heap.size := by omega
          have Y24ne03 : gw ≠ v1.heap.size + 1 := by omega
          have Y24ne10 : gz ≠ gw := by omega
          have Y24ne12 : gz ≠ v1.heap.size := by omega
          have Y24ne13 : gz ≠ v1.heap.size + 1 := by omega
          have Y24ne20 : v1.heap.size ≠ gw := by omega
          have Y24ne21 : v1.heap.size ≠ gz := by omega
          have Y24ne23 : v1.heap.size ≠ v1.heap.size + 1 := by omega
          have Y24ne30 : v1.heap.size + 1 ≠ gw := by omega
          have Y24ne31 : v1.heap.size + 1 ≠ gz := by omega
          have Y24ne32 : v1.heap.size + 1 ≠ v1.heap.size := by omega
          clear hb
          refine hK.out _ _ ⟨(LB.below N0.out.1 Y24.out).c0, (LB.below N0.out.1 Y24.out).c1, (LB.below N0.out.2.1 Y24.out).c0, (LB.below N0.out.2.1 Y24.out).c1⟩ (fun hHeld2 => ?_)
          clear hK K
          refine wpAnyH_ready (rs := [3]) (by kernel_rfl) (by simp) ?_
          refine AllReadyH.cons rfl (fun K hK => ?_) AllReadyH.nil
          go_simp
          refine (toSt_any _ _ _).mono ?_
          rintro e y25 ⟨rfl, hb⟩
          have Y25 := Lib.hid (Below.tr Y24.out hb)
          have Y25z := Y25.out.size
          have Y25_w := Lib.hid (SB.below Y24_w.out hb)
          have Y25_wx := Y25_w.out.c0
          have Y25_wy := Y25_w.out.c1
          have Y25_wf := Y25_w.out.f 0
          have Y25_wh := Y25_w.out.f 1
          have Y25_wl := Y25_w.out.lt
          have Y25_z := Lib.hid (SB.below Y24_z.out hb)
          have Y25_zx := Y25_z.out.c0
          have Y25_zy := Y25_z.out.c1
          have Y25_zf := Y25_z.out.f 0
          have Y25_zh := Y25_z.out.f 1
          have Y25_zl := Y25_z.out.lt
          have Y25_g := Lib.hid (SB.below Y24_g.out hb)
          have Y25_gx := Y25_g.out.c0
          have Y25_gy := Y25_g.out.c1
          have Y25_gf := Y25_g.out.f 0
          have Y25_gh := Y25_g.out.f 1
          have Y25_gl := Y25_g.out.lt
          have Y25_h := Lib.hid (SB.below Y24_h.out hb)
          have Y25_hx := Y25_h.out.c0
          have Y25_hy := Y25_h.out.c1
          have Y25_hf := Y25_h.out.f 0
          have Y25_hh := Y25_h.out.f 1
          have Y25_hl := Y25_h.out.lt
          have Y25ne01 : gw ≠ gz := by omega
          have Y25ne02 : gw ≠ v1.heap.size := by omega
          have Y25ne03 : gw ≠ v1.heap.size + 1 := by omega
          have Y25ne10 : gz ≠ gw := by omega
          have Y25ne12 : gz ≠ v1.heap.size := by omega
          have Y25ne13 : gz ≠ v1.heap.size + 1 := by omega
          have Y25ne20 : v1.heap.size ≠ gw := by omega
          have Y25ne21 : v1.heap.size ≠ gz := by omega
          have Y25ne23 : v1.heap.size ≠ v1.heap.size + 1 := by omega
          have Y25ne30 : v1.heap.size + 1 ≠ gw := by omega
          have Y25ne31 : v1.heap.size + 1 ≠ gz := by omega
          have Y25ne32 : v1.heap.size + 1 ≠ v1.heap.size := by omega
          clear hb
          refine hK.out _ _ ⟨(LB.below N0.out.1 Y25.out).c0, (LB.below N0.out.1 Y25.out).c1, (LB.below N0.out.2.1 Y25.out).c0, (LB.below N0.out.2.1 Y25.out).c1⟩ (fun hHeld2 => ?_)
          clear hK K
          refine wpAnyH_ready (rs := [4]) (by kernel_rfl) (by simp) ?_
          refine AllReadyH.cons rfl (fun K hK => ?_) AllReadyH.nil
          go_simp
          refine (splitI_any _ _ _ _ _).mono ?_
          rw [HQ.out]
          rintro e y26 ⟨rfl, hb⟩
          have Y26 := Lib.hid (Below.tr Y25.out hb)
          have Y26z := Y26.out.size
          have Y26_w := Lib.hid (SB.below Y25_w.out hb)
          have Y26_wx := Y26_w.out.c0
          have Y26_wy := Y26_w.out.c1
          have Y26_wf := Y26_w.out.f 0
          have Y26_wh := Y26_w.out.f 1
          have Y26_wl := Y26_w.out.lt
          have Y26_z := Lib.hid (SB.below Y25_z.out hb)
          have Y26_zx := Y26_z.out.c0
          have Y26_zy := Y26_z.out.c1
          have Y26_zf := Y26_z.out.f 0
          have Y26_zh := Y26_z.out.f 1
          have Y26_zl := Y26_z.out.lt
          have Y26_g := Lib.hid (SB.below Y25_g.out hb)
          have Y26_gx := Y26_g.out.c0
          have Y26_gy := Y26_g.out.c1
          have Y26_gf := Y26_g.out.f 0
          have Y26_gh := Y26_g.out.f 1
          have Y26_gl := Y26_g.out.lt
          have Y26_h := Lib.hid (SB.below Y25_h.out hb)
          have Y26_hx := Y26_h.out.c0
          have Y26_hy := Y26_h.out.c1
          have Y26_hf := Y26_h.out.f 0
          have Y26_hh := Y26_h.out.f 1
          have Y26_hl := Y26_h.out.lt
          have Y26ne01 : gw ≠ gz := by omega
          have Y26ne02 : gw ≠ v1.heap.size := by omega
          have Y26ne03 : gw ≠ v1.heap.size + 1 := by omega
          have Y26ne10 : gz ≠ gw := by omega
          have Y26ne12 : gz ≠ v1.heap.size := by omega
          have Y26ne13 : gz ≠ v1.heap.size + 1 := by omega
          have Y26ne20 : v1.heap.size ≠ gw := by omega
          have Y26ne21 : v1.heap.size ≠ gz := by omega
          have Y26ne23 : v1.heap.size ≠ v1.heap.size + 1 := by omega
          have Y26ne30 : v1.heap.size + 1 ≠ gw := by omega
          have Y26ne31 : v1.heap.size + 1 ≠ gz := by omega
          have Y26ne32 : v1.heap.size + 1 ≠ v1.heap.size := by omega
          clear hb
          refine hK.out _ _ ⟨(LB.below N0.out.1 Y26.out).c0, (LB.below N0.out.1 Y26.out).c1, (LB.below N0.out.2.1 Y26.out).c0, (LB.below N0.out.2.1 Y26.out).c1⟩ (fun hHeld2 => ?_)
          clear hK K
          refine wpAnyH_take (i := 5) (v := ?_) rfl (by kernel_rfl) (by kernel_rfl) (by kernel_rfl) (fun _ _ _ h => h) (Or.inl ⟨by rfl, ?_⟩) (by assumption) ?_
          rotate_left
          · intro W hSw
            try dsimp only at hSw
            go_simp
            try with_reducible rfl
          refine wpAnyH_take (i := 6) (v := ?_) rfl (by kernel_rfl) (by kernel_rfl) (by kernel_rfl) (fun _ _ _ h => h) (Or.inl ⟨by rfl, ?_⟩) (by assumption) ?_
          rotate_left
          · intro W hSw
            try dsimp only at hSw
            go_simp
            try with_reducible rfl
          refine wpAnyH_take (i := 7) (v := ?_) rfl (by kernel_rfl) (by kernel_rfl) (by kernel_rfl) (fun _ _ _ h => h) (Or.inl ⟨by rfl, ?_⟩) (by assumption) ?_
          rotate_left
          · intro W hSw
            try dsimp only at hSw
            go_simp
            try with_reducible rfl
          refine wpAnyH_take (i := 8) (v := ?_) rfl (by kernel_rfl) (by kernel_rfl) (by kernel_rfl) (fun _ _ _ h => h) (Or.inl ⟨by rfl, ?_⟩) (by assumption) ?_
          rotate_left
          · intro W hSw
            try dsimp only at hSw
            go_simp
            try with_reducible rfl
          refine wpAnyH_ready (rs := [11]) (by kernel_rfl) (by simp) ?_
          refine AllReadyH.cons rfl (fun K hK => ?_) AllReadyH.nil
          go_simp
          refine hK.out _ _ ⟨(LB.below N0.out.1 (belowS2 Y26.out (by omega))).c0, (LB.below N0.out.1 (belowS2 Y26.out (by omega))).c1, (LB.below N0.out.2.1 (belowS2 Y26.out (by omega))).c0, (LB.below N0.out.2.1 (belowS2 Y26.out (by omega))).c1⟩ (fun hHeld2 => ?_)
          clear hK K
          refine wpAnyH_ready (rs := [12]) (by kernel_rfl) (by simp) ?_
          refine AllReadyH.cons rfl (fun K hK => ?_) AllReadyH.nil
          go_simp
          refine hK.out _ _ ⟨(LB.below N0.out.1 (belowS2 (belowS2 Y26.out (by omega)) (by omega))).c0, (LB.below N0.out.1 (belowS2 (belowS2 Y26.out (by omega)) (by omega))).c1, (LB.below N0.out.2.1 (belowS2 (belowS2 Y26.out (by omega)) (by omega))).c0, (LB.below N0.out.2.1 (belowS2 (belowS2 Y26.out (by omega)) (by omega))).c1⟩ (fun hHeld2 => ?_)
          clear hK K
          refine wpAnyH_ready (rs := [13]) (by kernel_rfl) (by simp) ?_
          refine AllReadyH.cons rfl (fun K hK => ?_) AllReadyH.nil
          go_simp
          refine hK.out _ _ ⟨(LB.below N0.out.1 (belowS2 (belowS2 Y26.out (by omega)) (by omega))).c0, (LB.below N0.out.1 (belowS2 (belowS2 Y26.out (by omega)) (by omega))).c1, (LB.below N0.out.2.1 (belowS2 (belowS2 Y26.out (by omega)) (by omega))).c0, (LB.below N0.out.2.1 (belowS2 (belowS2 Y26.out (by omega)) (by omega))).c1⟩ (fun hHeld2 => ?_)
          clear hK K
          refine wpAnyH_done (by kernel_rfl) ?_ _
          go_wp2_with fail
          go_meet
          exact ⟨_, _, rfl, rfl, rfl, (SB.far2 (SB.set2 Y26_g.out) (by omega)), (SB.set2 (SB.far2 Y26_h.out (by omega))), (SB.far2 (SB.far2 Y26_w.out (by omega)) (by omega)), (SB.far2 (SB.far2 Y26_z.out (by omega)) (by omega)), (belowS2 (belowS2 Y26.out (by omega)) (by omega))⟩
      · skip
        go_simp
        refine hK.out _ _ ⟨(LB.below N0.out.1 (Below.tr D1.out (below1 _ _))).c0, (LB.below N0.out.1 (Below.tr D1.out (below1 _ _))).c1, (LB.below N0.out.2.1 (Below.tr D1.out (below1 _ _))).c0, (LB.below N0.out.2.1 (Below.tr D1.out (below1 _ _))).c1⟩ (fun hHeld2 => ?_)
        clear hK K
        refine wpAnyH_ready (rs := [1, 9]) (by kernel_rfl) (by simp) ?_
        refine AllReadyH.cons rfl (fun K hK => ?_) (AllReadyH.cons rfl (fun K hK => ?_) AllReadyH.nil)
        · skip
          go_simp
          refine (toSt_any _ _ _).mono ?_
          rintro e y27 ⟨rfl, hb⟩
          have Y27 := Lib.hid (Below.tr (Below.drew (Below.tr D1.out (below1 _ _))) hb)
          have Y27z := Y27.out.size
          have Y27_w := Lib.hid (SB.below (SB.drewn (SB.below S1.out (below1 _ _))) hb)
          have Y27_wx := Y27_w.out.c0
          have Y27_wy := Y27_w.out.c1
          have Y27_wf := Y27_w.out.f 0
          have Y27_wh := Y27_w.out.f 1
          have Y27_wl := Y27_w.out.lt
          have Y27_z := Lib.hid (SB.below (SB.drewn (SB.below T1.out (below1 _ _))) hb)
          have Y27_zx := Y27_z.out.c0
          have Y27_zy := Y27_z.out.c1
          have Y27_zf := Y27_z.out.f 0
          have Y27_zh := Y27_z.out.f 1
          have Y27_zl := Y27_z.out.lt
          have Y27_h := Lib.hid (SB.below (SB.drewn (SB.newAt (by first | rfl | simp))) hb)
          have Y27_hx := Y27_h.out.c0
          have Y27_hy := Y27_h.out.c1
          have Y27_hf := Y27_h.out.f 0
          have Y27_hh := Y27_h.out.f 1
          have Y27_hl := Y27_h.out.lt
          have Y27ne01 : gw ≠ gz := by omega
          have Y27ne02 : gw ≠ v1.heap.size := by omega
          have Y27ne10 : gz ≠ gw := by omega
          have Y27ne12 : gz ≠ v1.heap.size := by omega
          have Y27ne20 : v1.heap.size ≠ gw := by omega
          have Y27ne21 : v1.heap.size ≠ gz := by omega
          clear hb
          refine hK.out _ _ ⟨(LB.below N0.out.1 Y27.out).c0, (LB.below N0.out.1 Y27.out).c1, (LB.below N0.out.2.1 Y27.out).c0, (LB.below N0.out.2.1 Y27.out).c1⟩ (fun hHeld2 => ?_)
          clear hK K
          refine wpAnyH_ready (rs := [3, 9]) (by kernel_rfl) (by simp) ?_
          refine AllReadyH.cons rfl (fun K hK => ?_) (AllReadyH.cons rfl (fun K hK => ?_) AllReadyH.nil)
          · skip
            go_simp
            refine (toSt_any _ _ _).mono ?_
            rintro e y28 ⟨rfl, hb⟩
            have Y28 := Lib.hid (Below.tr Y27.out hb)
            have Y28z := Y28.out.size
            have Y28_w := Lib.hid (SB.below Y27_w.out hb)
            have Y28_wx := Y28_w.out.c0
            have Y28_wy := Y28_w.out.c1
            have Y28_wf := Y28_w.out.f 0
            have Y28_wh := Y28_w.out.f 1
            have Y28_wl := Y28_w.out.lt
            have Y28_z := Lib.hid (SB.below Y27_z.out hb)
            have Y28_zx := Y28_z.out.c0
            have Y28_zy := Y28_z.out.c1
            have Y28_zf := Y28_z.out.f 0
            have Y28_zh := Y28_z.out.f 1
            have Y28_zl := Y28_z.out.lt
            have Y28_h := Lib.hid (SB.below Y27_h.out hb)
            have Y28_hx := Y28_h.out.c0
            have Y28_hy := Y28_h.out.c1
            have Y28_hf := Y28_h.out.f 0
            have Y28_hh := Y28_h.out.f 1
            have Y28_hl := Y28_h.out.lt
            have Y28ne01 : gw ≠ gz := by omega
            have Y28ne02 : gw ≠ v1.heap.size := by omega
            have Y28ne10 : gz ≠ gw := by omega
            have Y28ne12 : gz ≠ v1.heap.size := by omega
            have Y28ne20 : v1.heap.size ≠ gw := by omega
            have Y28ne21 : v1.heap.size ≠ gz := by omega
            clear hb
            refine hK.out _ _ ⟨(LB.below N0.out.1 Y28.out).c0, (LB.below N0.out.1 Y28.out).c1, (LB.below N0.out.2.1 Y28.out).c0, (LB.below N0.out.2.1 Y28.out).c1⟩ (fun hHeld2 => ?_)
            clear hK K
            refine wpAnyH_ready (rs := [4, 9]) (by kernel_rfl) (by simp) ?_
            refine AllReadyH.cons rfl (fun K hK => ?_) (AllReadyH.cons rfl (fun K hK => ?_) AllReadyH.nil)
            · skip
              go_simp
              refine (splitI_any _ _ _ _ _).mono ?_
              rw [HQ.out]
              rintro e y29 ⟨rfl, hb⟩
              have Y29 := Lib.hid (Below.tr Y28.out hb)
              have Y29z := Y29.out.size
              have Y29_w := Lib.hid (SB.below Y28_w.out hb)
              have Y29_wx := Y29_w.out.c0
              have Y29_wy := Y29_w.out.c1
              have Y29_wf := Y29_w.out.f 0
              have Y29_wh := Y29_w.out.f 1
              have Y29_wl := Y29_w.out.lt
              have Y29_z := Lib.hid (SB.below Y28_z.out hb)
              have Y29_zx := Y29_z.out.c0
              have Y29_zy := Y29_z.out.c1
              have Y29_zf := Y29_z.out.f 0
              have Y29_zh := Y29_z.out.f 1
              have Y29_zl := Y29_z.out.lt
              have Y29_h := Lib.hid (SB.below Y28_h.out hb)
              have Y29_hx := Y29_h.out.c0
              have Y29_hy := Y29_h.out.c1
              have Y29_hf := Y29_h.out.f 0
              have Y29_hh := Y29_h.out.f 1
              have Y29_hl := Y29_h.out.lt
              have Y29ne01 : gw ≠ gz := by omega
              have Y29ne02 : gw ≠ v1.heap.size := by omega
              have Y29ne10 : gz ≠ gw := by omega
              have Y29ne12 : gz ≠ v1.heap.size := by omega
              have Y29ne20 : v1.heap.size ≠ gw := by omega
              have Y29ne21 : v1.heap.size ≠ gz := by omega
              clear hb
              refine hK.out _ _ ⟨(LB.below N0.out.1 Y29.out).c0, (LB.below N0.out.1 Y29.out).c1, (LB.below N0.out.2.1 Y29.out).c0, (LB.below N0.out.2.1 Y29.out).c1⟩ (fun hHeld2 => ?_)
              clear hK K
              refine wpAnyH_take (i := 5) (v := ?_) rfl (by kernel_rfl) (by kernel_rfl) (by kernel_rfl) (fun _ _ _ h => h) (Or.inl ⟨by rfl, ?_⟩) (by assumption) ?_
              rotate_left
              · intro W hSw
                try dsimp only at hSw
                go_simp
                try with_reducible rfl
              refine wpAnyH_take (i := 6) (v := ?_) rfl (by kernel_rfl) (by kernel_rfl) (by kernel_rfl) (fun _ _ _ h => h) (Or.inl ⟨by rfl, ?_⟩) (by assumption) ?_
              rotate_left
              · intro W hSw
                try dsimp only at hSw
                go_simp
                try with_reducible rfl
              refine wpAnyH_take (i := 7) (v := ?_) rfl (by kernel_rfl) (by kernel_rfl) (by kernel_rfl) (fun _ _ _ h => h) (Or.inl ⟨by rfl, ?_⟩) (by assumption) ?_
              rotate_left
              · intro W hSw
                try dsimp only at hSw
                go_simp
                try with_reducible rfl
              refine wpAnyH_take (i := 8) (v := ?_) rfl (by kernel_rfl) (by kernel_rfl) (by kernel_rfl) (fun _ _ _ h => h) (Or.inl ⟨by rfl, ?_⟩) (by assumption) ?_
              rotate_left
              · intro W hSw
                try dsimp only at hSw
                go_simp
                try with_reducible rfl
              refine wpAnyH_ready (rs := [9]) (by kernel_rfl) (by simp) ?_
              refine AllReadyH.cons rfl (fun K hK => ?_) AllReadyH.nil
              go_simp
              refine hK.out _ _ ⟨(LB.below N0.out.1 (Below.tr Y29.out (below1 _ _))).c0, (LB.below N0.out.1 (Below.tr Y29.out (below1 _ _))).c1, (LB.below N0.out.2.1 (Below.tr Y29.out (below1 _ _))).c0, (LB.below N0.out.2.1 (Below.tr Y29.out (below1 _ _))).c1⟩ (fun hHeld2 => ?_)
              clear hK K
              refine wpAnyH_ready (rs := [11]) (by kernel_rfl) (by simp) ?_
              refine AllReadyH.cons rfl (fun K hK => ?_) AllReadyH.nil
              go_simp
              refine hK.out _ _ ⟨(LB.below N0.out.1 (Below.tr Y29.out (below1 _ _))).c0, (LB.below N0.out.1 (Below.tr Y29.out (below1 _ _))).c1, (LB.below N0.out.2.1 (Below.tr Y29.out (below1 _ _))).c0, (LB.below N0.out.2.1 (Below.tr Y29.out (below1 _ _))).c1⟩ (fun hHeld2 => ?_)
              clear hK K
              refine wpAnyH_ready (rs := [12]) (by kernel_rfl) (by simp) ?_
              refine AllReadyH.cons rfl (fun K hK => ?_) AllReadyH.nil
              go_simp
              refine hK.out _ _ ⟨(LB.below N0.out.1 (Below.tr (belowS2 Y29.out (by omega)) (below1 _ _))).c0, (LB.below N0.out.1 (Below.tr (belowS2 Y29.out (by omega)) (below1 _ _))).c1, (LB.below N0.out.2.1 (Below.tr (belowS2 Y29.out (by omega)) (below1 _ _))).c0, (LB.below N0.out.2.1 (Below.tr (belowS2 Y29.out (by omega)) (below1 _ _))).c1⟩ (fun hHeld2 => ?_)
              clear hK K
              refine wpAnyH_ready (rs := [13]) (by kernel_rfl) (by simp) ?_
              refine AllReadyH.cons rfl (fun K hK => ?_) AllReadyH.nil
              go_simp
              refine hK.out _ _ ⟨(LB.below N0.out.1 (Below.tr (belowS2 Y29.out (by omega)) (below1 _ _))).c0, (LB.below N0.out.1 (Below.tr (belowS2 Y29.out (by omega)) (below1 _ _))).c1, (LB.below N0.out.2.1 (Below.tr (belowS2 Y29.out (by omega)) (below1 _ _))).c0, (LB.below N0.out.2.1 (Below.tr (belowS2 Y29.out (by omega)) (below1 _ _))).c1⟩ (fun hHeld2 => ?_)
              clear hK K
              refine wpAnyH_done (by kernel_rfl) ?_ _
              go_wp2_with fail
              go_meet
              exact ⟨_, _, rfl, rfl, rfl, (SB.newAt (by first | rfl | simp)), (SB.below (SB.set2 Y29_h.out) (below1 _ _)), (SB.below (SB.far2 Y29_w.out (by omega)) (below1 _ _)), (SB.below (SB.far2 Y29_z.out (by omega)) (below1 _ _)), (Below.tr (belowS2 Y29.out (by omega)) (below1 _ _))⟩
            · skip
              go_simp
              refine hK.out _ _ ⟨(LB.below N0.out.1 (Below.tr Y28.out (below1 _ _))).c0, (LB.below N0.out.1 (Below.tr Y28.out (below1 _ _))).c1, (LB.below N0.out.2.1 (Below.tr Y28.out (below1 _ _))).c0, (LB.below N0.out.2.1 (Below.tr Y28.out (below1 _ _))).c1⟩ (fun hHeld2 => ?_)
              clear hK K
              refine wpAnyH_ready (rs := [4]) (by kernel_rfl) (by simp) ?_
              refine AllReadyH.cons rfl (fun K hK => ?_) AllReadyH.nil
              go_simp
              refine (splitI_any _ _ _ _ _).mono ?_
              rw [HQ.out]
              rintro e y30 ⟨rfl, hb⟩
              have Y30 := Lib.hid (Below.tr (Below.tr Y28.out (below1 _ _)) hb)
              have Y30z := Y30.out.size
              have Y30_w := Lib.hid (SB.below (SB.below Y28_w.out (below1 _ _)) hb)
              have Y30_wx := Y30_w.out.c0
              have Y30_wy := Y30_w.out.c1
              have Y30_wf := Y30_w.out.f 0
              have Y30_wh := Y30_w.out.f 1
              have Y30_wl := Y30_w.out.lt
              have Y30_z := Lib.hid (SB.below (SB.below Y28_z.out (below1 _ _)) hb)
              have Y30_zx := Y30_z.out.c0
              have Y30_zy := Y30_z.out.c1
              have Y30_zf := Y30_z.out.f 0
              have Y30_zh := Y30_z.out.f 1
              have Y30_zl := Y30_z.out.lt
              have Y30_h := Lib.hid (SB.below (SB.below Y28_h.out (below1 _ _)) hb)
              have Y30_hx := Y30_h.out.c0
              have Y30_hy := Y30_h.out.c1
              have Y30_hf := Y30_h.out.f 0
              have Y30_hh := Y30_h.out.f 1
              have Y30_hl := Y30_h.out.lt
              have Y30_g := Lib.hid (SB.below (SB.newAt (by first | rfl | simp)) hb)
              have Y30_gx := Y30_g.out.c0
              have Y30_gy := Y30_g.out.c1
              have Y30_gf := Y30_g.out.f 0
              have Y30_gh := Y30_g.out.f 1
              have Y30_gl := Y30_g.out.lt
              have Y30ne01 : gw ≠ gz := by omega
              have Y30ne02 : gw ≠ v1.heap.size := by omega
              have Y30ne03 : gw ≠ y28.heap.size := by omega
              have Y30ne10 : gz ≠ gw := by omega
              have Y30ne12 : gz ≠ v1.heap.size := by omega
              have Y30ne13 : gz ≠ y28.heap.size := by omega
              have Y30ne20 : v1.heap.size ≠ gw := by omega
              have Y30ne21 : v1.heap.size ≠ gz := by omega
              have Y30ne23 : v1.heap.size ≠ y28.heap.size := by omega
              have Y30ne30 : y28.heap.size ≠ gw := by omega
              have Y30ne31 : y28.heap.size ≠ gz := by omega
              have Y30ne32 : y28.heap.size ≠ v1.heap.size := by omega
              clear hb
              refine hK.out _ _ ⟨(LB.below N0.out.1 Y30.out).c0, (LB.below N0.out.1 Y30.out).c1, (LB.below N0.out.2.1 Y30.out).c0, (LB.below N0.out.2.1 Y30.out).c1⟩ (fun hHeld2 => ?_)
              clear hK K
              refine wpAnyH_take (i := 5) (v := ?_) rfl (by kernel_rfl) (by kernel_rfl) (by kernel_rfl) (fun _ _ _ h => h) (Or.inl ⟨by rfl, ?_⟩) (by assumption) ?_
              rotate_left
              · intro W hSw
                try dsimp only at hSw
                go_simp
                try with_reducible rfl
              refine wpAnyH_take (i := 6) (v := ?_) rfl (by kernel_rfl) (by kernel_rfl) (by kernel_rfl) (fun _ _ _ h => h) (Or.inl ⟨by rfl, ?_⟩) (by assumption) ?_
              rotate_left
              · intro W hSw
                try dsimp only at hSw
                go_simp
                try with_reducible rfl
              refine wpAnyH_take (i := 7) (v := ?_) rfl (by kernel_rfl) (by kernel_rfl) (by kernel_rfl) (fun _ _ _ h => h) (Or.inl ⟨by rfl, ?_⟩) (by assumption) ?_
              rotate_left
              · intro W hSw
                try dsimp only at hSw
                go_simp
                try with_reducible rfl
              refine wpAnyH_take (i := 8) (v := ?_) rfl (by kernel_rfl) (by kernel_rfl) (by kernel_rfl) (fun _ _ _ h => h) (Or.inl ⟨by rfl, ?_⟩) (by assumption) ?_
              rotate_left
              · intro W hSw
                try dsimp only at hSw
                go_simp
                try with_reducible rfl
              refine wpAnyH_ready (rs := [11]) (by kernel_rfl) (by simp) ?_
              refine AllReadyH.cons rfl (fun K hK => ?_) AllReadyH.nil
              go_simp
              refine hK.out _ _ ⟨(LB.below N0.out.1 (belowS2 Y30.out (by omega))).c0, (LB.below N0.out.1 (belowS2 Y30.out (by omega))).c1, (LB.below N0.out.2.1 (belowS2 Y30.out (by omega))).c0, (LB.below N0.out.2.1 (belowS2 Y30.out (by omega))).c1⟩ (fun hHeld2 => ?_)
              clear hK K
              refine wpAnyH_ready (rs := [12]) (by kernel_rfl) (by simp) ?_
              refine AllReadyH.cons rfl (fun K hK => ?_) AllReadyH.nil
              go_simp
              refine hK.out _ _ ⟨(LB.below N0.out.1 (belowS2 (belowS2 Y30.out (by omega)) (by omega))).c0, (LB.below N0.out.1 (belowS2 (belowS2 Y30.out (by omega)) (by omega))).c1, (LB.below N0.out.2.1 (belowS2 (belowS2 Y30.out (by omega)) (by omega))).c0, (LB.below N0.out.2.1 (belowS2 (belowS2 Y30.out (by omega)) (by omega))).c1⟩ (fun hHeld2 => ?_)
              clear hK K
              refine wpAnyH_ready (rs := [13]) (by kernel_rfl) (by simp) ?_
              refine AllReadyH.cons rfl (fun K hK => ?_) AllReadyH.nil
              go_simp
              refine hK.out _ _ ⟨(LB.below N0.out.1 (belowS2 (belowS2 Y30.out (by omega)) (by omega))).c0, (LB.below N0.out.1 (belowS2 (belowS2 Y30.out (by omega)) (by omega))).c1, (LB.below N0.out.2.1 (belowS2 (belowS2 Y30.out (by omega)) (by omega))).c0, (LB.below N0.out.2.1 (belowS2 (belowS2 Y30.out (by omega)) (by omega))).c1⟩ (fun hHeld2 => ?_)
              clear hK K
              refine wpAnyH_done (by kernel_rfl) ?_ _
              go_wp2_with fail
              go_meet
              exact ⟨_, _, rfl, rfl, rfl, (SB.far2 (SB.set2 Y30_g.out) (by omega)), (SB.set2 (SB.far2 Y30_h.out (by omega))), (SB.far2 (SB.far2 Y30_w.out (by omega)) (by omega)), (SB.far2 (SB.far2 Y30_z.out (by omega)) (by omega)), (belowS2 (belowS2 Y30.out (by omega)) (by omega))⟩
          · skip
            go_simp
            refine hK.out _ _ ⟨(LB.below N0.out.1 (Below.tr Y27.out (below1 _ _))).c0, (LB.below N0.out.1 (Below.tr Y27.out (below1 _ _))).c1, (LB.below N0.out.2.1 (Below.tr Y27.out (below1 _ _))).c0, (LB.below N0.out.2.1 (Below.tr Y27.out (below1 _ _))).c1⟩ (fun hHeld2 => ?_)
            clear hK K
            refine wpAnyH_ready (rs := [3]) (by kernel_rfl) (by simp) ?_
            refine AllReadyH.cons rfl (fun K hK => ?_) AllReadyH.nil
            go_simp
            refine (toSt_any _ _ _).mono ?_
            rintro e y31 ⟨rfl, hb⟩
            have Y31 := Lib.hid (Below.tr (Below.tr Y27.out (below1 _ _)) hb)
            have Y31z := Y31.out.size
            have Y31_w := Lib.hid (SB.below (SB.below Y27_w.out (below1 _ _)) hb)
            have Y31_wx := Y31_w.out.c0
            have Y31_wy := Y31_w.out.c1
            have Y31_wf := Y31_w.out.f 0
            have Y31_wh := Y31_w.out.f 1
            have Y31_wl := Y31_w.out.lt
            have Y31_z := Lib.hid (SB.below (SB.below Y27_z.out (below1 _ _)) hb)
            have Y31_zx := Y31_z.out.c0
            have Y31_zy := Y31_z.out.c1
            have Y31_zf := Y31_z.out.f 0
            have Y31_zh := Y31_z.out.f 1
            have Y31_zl := Y31_z.out.lt
            have Y31_h := Lib.hid (SB.below (SB.below Y27_h.out (below1 _ _)) hb)
            have Y31_hx := Y31_h.out.c0
            have Y31_hy := Y31_h.out.c1
            have Y31_hf := Y31_h.out.f 0
            have Y31_hh := Y31_h.out.f 1
            have Y31_hl := Y31_h.out.lt
            have Y31_g := Lib.hid (SB.below (SB.newAt (by first | rfl | simp)) hb)
            have Y31_gx := Y31_g.out.c0
            have Y31_gy := Y31_g.out.c1
            have Y31_gf := Y31_g.out.f 0
            have Y31_gh := Y31_g.out.f 1
            have Y31_gl := Y31_g.out.lt
            have Y31ne01 : gw ≠ gz := by omega
            have Y31ne02 : gw ≠ v1.heap.size := by omega
            have Y31ne03 : gw ≠ y27.heap.size := by omega
            have Y31ne10 : gz ≠ gw := by omega
            have Y31ne12 : gz ≠ v1.heap.size := by omega
            have Y31ne13 : gz ≠ y27.heap.size := by omega
            have Y31ne20 : v1.heap.size ≠ gw := by omega
            have Y31ne21 : v1.heap.size ≠ gz := by omega
            have Y31ne23 : v1.heap.size ≠ y27.heap.size := by omega
            have Y31ne30 : y27.heap.size ≠ gw := by omega
            have Y31ne31 : y27.heap.size ≠ gz := by omega
            have Y31ne32 : y27.heap.size ≠ v1.heap.size := by omega
            clear hb
            refine hK.out _ _ ⟨(LB.below N0.out.1 Y31.out).c0, (LB.below N0.out.1 Y31.out).c1, (LB.below N0.out.2.1 Y31.out).c0, (LB.below N0.out.2.1 Y31.out).c1⟩ (fun hHeld2 => ?_)
            clear hK K
            refine wpAnyH_ready (rs := [4]) (by kernel_rfl) (by simp) ?_
            refine AllReadyH.cons rfl (fun K hK => ?_) AllReadyH.nil
            go_simp
            refine (splitI_any _ _ _ _ _).mono ?_
            rw [HQ.out]
            rintro e y32 ⟨rfl, hb⟩
            have Y32 := Lib.hid (Below.tr Y31.out hb)
            have Y32z := Y32.out.size
            have Y32_w := Lib.hid (SB.below Y31_w.out hb)
            have Y32_wx := Y32_w.out.c0
            have Y32_wy := Y32_w.out.c1
            have Y32_wf := Y32_w.out.f 0
            have Y32_wh := Y32_w.out.f 1
            have Y32_wl := Y32_w.out.lt
            have Y32_z := Lib.hid (SB.below Y31_z.out hb)
            have Y32_zx := Y32_z.out.c0
            have Y32_zy := Y32_z.out.c1
            have Y32_zf := Y32_z.out.f 0
            have Y32_zh := Y32_z.out.f 1
            have Y32_zl := Y32_z.out.lt
            have Y32_h := Lib.hid (SB.below Y31_h.out hb)
            have Y32_hx := Y32_h.out.c0
            have Y32_hy := Y32_h.out.c1
            have Y32_hf := Y32_h.out.f 0
            have Y32_hh := Y32_h.out.f 1
            have Y32_hl := Y32_h.out.lt
            have Y32_g := Lib.hid (SB.below Y31_g.out hb)
            have Y32_gx := Y32_g.out.c0
            have Y32_gy := Y32_g.out.c1
            have Y32_gf := Y32_g.out.f 0
            have Y32_gh := Y32_g.out.f 1
            have Y32_gl := Y32_g.out.lt
            have Y32ne01 : gw ≠ gz := by omega
            have Y32ne02 : gw ≠ v1.heap.size := by omega
            have Y32ne03 : gw ≠ y27.heap.size := by omega
            have Y32ne10 : gz ≠ gw := by omega
            have Y32ne12 : gz ≠ v1.heap.size := by omega
            have Y32ne13 : gz ≠ y27.heap.size := by omega
            have Y32ne20 : v1.heap.size ≠ gw := by omega
            have Y32ne21 : v1.heap.size ≠ gz := by omega
            have Y32ne23 : v1.heap.size ≠ y27.heap.size := by omega
            have Y32ne30 : y27.heap.size ≠ gw := by omega
            have Y32ne31 : y27.heap.size ≠ gz := by omega
            have Y32ne32 : y27.heap.size ≠ v1.heap.size := by omega
            clear hb
            refine hK.out _ _ ⟨(LB.below N0.out.1 Y32.out).c0, (LB.below N0.out.1 Y32.out).c1, (LB.below N0.out.2.1 Y32.out).c0, (LB.below N0.out.2.1 Y32.out).c1⟩ (fun hHeld2 => ?_)
            clear hK K
            refine wpAnyH_take (i := 5) (v := ?_) rfl (by kernel_rfl) (by kernel_rfl) (by kernel_rfl) (fun _ _ _ h => h) (Or.inl ⟨by rfl, ?_⟩) (by assumption) ?_
            rotate_left
            · intro W hSw
              try dsimp only at hSw
              go_simp
              try with_reducible rfl
            refine wpAnyH_take (i := 6) (v := ?_) rfl (by kernel_rfl) (by kernel_rfl) (by kernel_rfl) (fun _ _ _ h => h) (Or.inl ⟨by rfl, ?_⟩) (by assumption) ?_
            rotate_left
            · intro W hSw
              try dsimp only at hSw
              go_simp
              try with_reducible rfl
            refine wpAnyH_take (i := 7) (v := ?_) rfl (by kernel_rfl) (by kernel_rfl) (by kernel_rfl) (fun _ _ _ h => h) (Or.inl ⟨by rfl, ?_⟩) (by assumption) ?_
            rotate_left
            · intro W hSw
              try dsimp only at hSw
              go_simp
              try with_reducible rfl
            refine wpAnyH_take (i := 8) (v := ?_) rfl (by kernel_rfl) (by kernel_rfl) (by kernel_rfl) (fun _ _ _ h => h) (Or.inl ⟨by rfl, ?_⟩) (by assumption) ?_
            rotate_left
            · intro W hSw
              try dsimp only at hSw
              go_simp
              try with_reducible rfl
            refine wpAnyH_ready (rs := [11]) (by kernel_rfl) (by simp) ?_
            refine AllReadyH.cons rfl (fun K hK => ?_) AllReadyH.nil
            go_simp
            refine hK.out _ _ ⟨(LB.below N0.out.1 (belowS2 Y32.out (by omega))).c0, (LB.below N0.out.1 (belowS2 Y32.out (by omega))).c1, (LB.below N0.out.2.1 (belowS2 Y32.out (by omega))).c0, (LB.below N0.out.2.1 (belowS2 Y32.out (by omega))).c1⟩ (fun hHeld2 => ?_)
            clear hK K
            refine wpAnyH_ready (rs := [12]) (by kernel_rfl) (by simp) ?_
            refine AllReadyH.cons rfl (fun K hK => ?_) AllReadyH.nil
            go_simp
            refine hK.out _ _ ⟨(LB.below N0.out.1 (belowS2 (belowS2 Y32.out (by omega)) (by omega))).c0, (LB.below N0.out.1 (belowS2 (belowS2 Y32.out (by omega)) (by omega))).c1, (LB.below N0.out.2.1 (belowS2 (belowS2 Y32.out (by omega)) (by omega))).c0, (LB.below N0.out.2.1 (belowS2 (belowS2 Y32.out (by omega)) (by omega))).c1⟩ (fun hHeld2 => ?_)
            clear hK K
            refine wpAnyH_ready (rs := [13]) (by kernel_rfl) (by simp) ?_
            refine AllReadyH.cons rfl (fun K hK => ?_) AllReadyH.nil
            go_simp
            refine hK.out _ _ ⟨(LB.below N0.out.1 (belowS2 (belowS2 Y32.out (by omega)) (by omega))).c0, (LB.below N0.out.1 (belowS2 (belowS2 Y32.out (by omega)) (by omega))).c1, (LB.below N0.out.2.1 (belowS2 (belowS2 Y32.out (by omega)) (by omega))).c0, (LB.below N0.out.2.1 (belowS2 (belowS2 Y32.out (by omega)) (by omega))).c1⟩ (fun hHeld2 => ?_)
            clear hK K
            refine wpAnyH_done (by kernel_rfl) ?_ _
            go_wp2_with fail
            go_meet
            exact ⟨_, _, rfl, rfl, rfl, (SB.far2 (SB.set2 Y32_g.out) (by omega)), (SB.set2 (SB.far2 Y32_h.out (by omega))), (SB.far2 (SB.far2 Y32_w.out (by omega)) (by omega)), (SB.far2 (SB.far2 Y32_z.out (by omega)) (by omega)), (belowS2 (belowS2 Y32.out (by omega)) (by omega))⟩
        · skip
          go_simp
          refine hK.out _ _ ⟨(LB.below N0.out.1 (Below.tr (Below.tr D1.out (below1 _ _)) (below1 _ _))).c0, (LB.below N0.out.1 (Below.tr (Below.tr D1.out (below1 _ _)) (below1 _ _))).c1, (LB.below N0.out.2.1 (Below.tr (Below.tr D1.out (below1 _ _)) (below1 _ _))).c0, (LB.below N0.out.2.1 (Below.tr (Below.tr D1.out (below1 _ _)) (below1 _ _))).c1⟩ (fun hHeld2 => ?_)
          clear hK K
          refine wpAnyH_ready (rs := [1]) (by kernel_rfl) (by simp) ?_
          refine AllReadyH.cons rfl (fun K hK => ?_) AllReadyH.nil
          go_simp
          refine (toSt_any _ _ _).mono ?_
          rintro e y33 ⟨rfl, hb⟩
          have Y33 := Lib.hid (Below.tr (Below.drew (Below.tr (Below.tr D1.out (below1 _ _)) (below1 _ _))) hb)
          have Y33z := Y33.out.size
          have Y33_w := Lib.hid (SB.below (SB.drewn (SB.below (SB.below S1.out (below1 _ _)) (below1 _ _))) hb)
          have Y33_wx := Y33_w.out.c0
          have Y33_wy := Y33_w.out.c1
          have Y33_wf := Y33_w.out.f 0
          have Y33_wh := Y33_w.out.f 1
          have Y33_wl := Y33_w.out.lt
          have Y33_z := Lib.hid (SB.below (SB.drewn (SB.below (SB.below T1.out (below1 _ _)) (below1 _ _))) hb)
          have Y33_zx := Y33_z.out.c0
          have Y33_zy := Y33_z.out.c1
          have Y33_zf := Y33_z.out.f 0
          have Y33_zh := Y33_z.out.f 1
          have Y33_zl := Y33_z.out.lt
          have Y33_h := Lib.hid (SB.below (SB.drewn (SB.below (SB.newAt (by first | rfl | simp)) (below1 _ _))) hb)
          have Y33_hx := Y33_h.out.c0
          have Y33_hy := Y33_h.out.c1
          have Y33_hf := Y33_h.out.f 0
          have Y33_hh := Y33_h.out.f 1
          have Y33_hl := Y33_h.out.lt
          have Y33_g := Lib.hid (SB.below (SB.drewn (SB.newAt1 (by first | rfl | simp))) hb)
          have Y33_gx := Y33_g.out.c0
          have Y33_gy := Y33_g.out.c1
          have Y33_gf := Y33_g.out.f 0
          have Y33_gh := Y33_g.out.f 1
          have Y33_gl := Y33_g.out.lt
          have Y33ne01 : gw ≠ gz := by omega
          have Y33ne02 : gw ≠ v1.heap.size := by omega
          have Y33ne03 : gw ≠ v1.heap.size + 1 := by omega
          have Y33ne10 : gz ≠ gw := by omega
          have Y33ne12 : gz ≠ v1.heap.size := by omega
          have Y33ne13 : gz ≠ v1.heap.size + 1 := by omega
          have Y33ne20 : v1.heap.size ≠ gw := by omega
          have Y33ne21 : v1.heap.size ≠ gz := by omega
          have Y33ne23 : v1.heap.size ≠ v1.heap.size + 1 := by omega
          have Y33ne30 : v1.heap.size + 1 ≠ gw := by omega
          have Y33ne31 : v1.heap.size + 1 ≠ gz := by omega
          have Y33ne32 : v1.heap.size + 1 ≠ v1.heap.size := by omega
          clear hb
          refine hK.out _ _ ⟨(LB.below N0.out.1 Y33.out).c0, (LB.below N0.out.1 Y33.out).c1, (LB.below N0.out.2.1 Y33.out).c0, (LB.below N0.out.2.1 Y33.out).c1⟩ (fun hHeld2 => ?_)
          clear hK K
          refine wpAnyH_ready (rs := [3]) (by kernel_rfl) (by simp) ?_
          refine AllReadyH.cons rfl (fun K hK => ?_) AllReadyH.nil
          go_simp
          refine (toSt_any _ _ _).mono ?_
          rintro e y34 ⟨rfl, hb⟩
          have Y34 := Lib.hid (Below.tr Y33.out hb)
          have Y34z := Y34.out.size
          have Y34_w := Lib.hid (SB.below Y33_w.out hb)
          have Y34_wx := Y34_w.out.c0
          have Y34_wy := Y34_w.out.c1
          have Y34_wf := Y34_w.out.f 0
          have Y34_wh := Y34_w.out.f 1
          have Y34_wl := Y34_w.out.lt
          have Y34_z := Lib.hid (SB.below Y33_z.out hb)
          have Y34_zx := Y34_z.out.c0
          have Y34_zy := Y34_z.out.c1
          have Y34_zf := Y34_z.out.f 0
          have Y34_zh := Y34_z.out.f 1
          have Y34_zl := Y34_z.out.lt
          have Y34_h := Lib.hid (SB.below Y33_h.out hb)
          have Y34_hx := Y34_h.out.c0
          have Y34_hy := Y34_h.out.c1
          have Y34_hf := Y34_h.out.f 0
          have Y34_hh := Y34_h.out.f 1
          have Y34_hl := Y34_h.out.lt
          have Y34_g := Lib.hid (SB.below Y33_g.out hb)
          have Y34_gx := Y34_g.out.c0
          have Y34_gy := Y34_g.out.c1
          have Y34_gf := Y34_g.out.f 0
          have Y34_gh := Y34_g.out.f 1
          have Y34_gl := Y34_g.out.lt
          have Y34ne01 : gw ≠ gz := by omega
          have Y34ne02 : gw ≠ v1.heap.size := by omega
          have Y34ne03 : gw ≠ v1.heap.size + 1 := by omega
          have Y34ne10 : gz ≠ gw := by omega
          have Y34ne12 : gz ≠ v1.heap.size := by omega
          have Y34ne13 : gz ≠ v1.heap.size + 1 := by omega
          have Y34ne20 : v1.heap.size ≠ gw := by omega
          have Y34ne21 : v1.heap.size ≠ gz := by omega
          have Y34ne23 : v1.heap.size ≠ v1.heap.size + 1 := by omega
          have Y34ne30 : v1.heap.size + 1 ≠ gw := by omega
          have Y34ne31 : v1.heap.size + 1 ≠ gz := by omega
          have Y34ne32 : v1.heap.size + 1 ≠ v1.heap.size := by omega
          clear hb
          refine hK.out _ _ ⟨(LB.below N0.out.1 Y34.out).c0, (LB.below N0.out.1 Y34.out).c1, (LB.below N0.out.2.1 Y34.out).c0, (LB.below N0.out.2.1 Y34.out).c1⟩ (fun hHeld2 => ?_)
          clear hK K
          refine wpAnyH_ready (rs := [4]) (by kernel_rfl) (by simp) ?_
          refine AllReadyH.cons rfl (fun K hK => ?_) AllReadyH.nil
          go_simp
          refine (splitI_any _ _ _ _ _).mono ?_
          rw [HQ.out]
          rintro e y35 ⟨rfl, hb⟩
          have Y35 := Lib.hid (Below.tr Y34.out hb)
          have Y35z := Y35.out.size
          have Y35_w := Lib.hid (SB.below Y34_w.out hb)
          have Y35_wx := Y35_w.out.c0
          have Y35_wy := Y35_w.out.c1
          have Y35_wf := Y35_w.out.f 0
          have Y35_wh := Y35_w.out.f 1
          have Y35_wl := Y35_w.out.lt
          have Y35_z := Lib.hid (SB.below Y34_z.out hb)
          have Y35_zx := Y35_z.out.c0
          have Y35_zy := Y35_z.out.c1
          have Y35_zf := Y35_z.out.f 0
          have Y35_zh := Y35_z.out.f 1
          have Y35_zl := Y35_z.out.lt
          have Y35_h := Lib.hid (SB.below Y34_h.out hb)
          have Y35_hx := Y35_h.out.c0
          have Y35_hy := Y35_h.out.c1
          have Y35_hf := Y35_h.out.f 0
          have Y35_hh := Y35_h.out.f 1
          have Y35_hl := Y35_h.out.lt
          have Y35_g := Lib.hid (SB.below Y34_g.out hb)
          have Y35_gx := Y35_g.out.c0
          have Y35_gy := Y35_g.out.c1
          have Y35_gf := Y35_g.out.f 0
          have Y35_gh := Y35_g.out.f 1
          have Y35_gl := Y35_g.out.lt
          have Y35ne01 : gw ≠ gz := by omega
          have Y35ne02 : gw ≠ v1.heap.size := by omega
          have Y35ne03 : gw ≠ v1.heap.size + 1 := by omega
          have Y35ne10 : gz ≠ gw := by omega
          have Y35ne12 : gz ≠ v1.heap.size := by omega
          have Y35ne13 : gz ≠ v1.heap.size + 1 := by omega
          have Y35ne20 : v1.heap.size ≠ gw := by omega
          have Y35ne21 : v1.heap.size ≠ gz := by omega
          have Y35ne23 : v1.heap.size ≠ v1.heap.size + 1 := by omega
          have Y35ne30 : v1.heap.size + 1 ≠ gw := by omega
          have Y35ne31 : v1.heap.size + 1 ≠ gz := by omega
          have Y35ne32 : v1.heap.size + 1 ≠ v1.heap.size := by omega
          clear hb
          refine hK.out _ _ ⟨(LB.below N0.out.1 Y35.out).c0, (LB.below N0.out.1 Y35.out).c1, (LB.below N0.out.2.1 Y35.out).c0, (LB.below N0.out.2.1 Y35.out).c1⟩ (fun hHeld2 => ?_)
          clear hK K
          refine wpAnyH_take (i := 5) (v := ?_) rfl (by kernel_rfl) (by kernel_rfl) (by kernel_rfl) (fun _ _ _ h => h) (Or.inl ⟨by rfl, ?_⟩) (by assumption) ?_
          rotate_left
          · intro W hSw
            try dsimp only at hSw
            go_simp
            try with_reducible rfl
          refine wpAnyH_take (i := 6) (v := ?_) rfl (by kernel_rfl) (by kernel_rfl) (by kernel_rfl) (fun _ _ _ h => h) (Or.inl ⟨by rfl, ?_⟩) (by assumption) ?_
          rotate_left
          · intro W hSw
            try dsimp only at hSw
            go_simp
            try with_reducible rfl
          refine wpAnyH_take (i := 7) (v := ?_) rfl (by kernel_rfl) (by kernel_rfl) (by kernel_rfl) (fun _ _ _ h => h) (Or.inl ⟨by rfl, ?_⟩) (by assumption) ?_
          rotate_left
          · intro W hSw
            try dsimp only at hSw
            go_simp
            try with_reducible rfl
          refine wpAnyH_take (i := 8) (v := ?_) rfl (by kernel_rfl) (by kernel_rfl) (by kernel_rfl) (fun _ _ _ h => h) (Or.inl ⟨by rfl, ?_⟩) (by assumption) ?_
          rotate_left
          · intro W hSw
            try dsimp only at hSw
            go_simp
            try with_reducible rfl
          refine wpAnyH_ready (rs := [11]) (by kernel_rfl) (by simp) ?_
          refine AllReadyH.cons rfl (fun K hK => ?_) AllReadyH.nil
          go_simp
          refine hK.out _ _ ⟨(LB.below N0.out.1 (belowS2 Y35.out (by omega))).c0, (LB.below N0.out.1 (belowS2 Y35.out (by omega))).c1, (LB.below N0.out.2.1 (belowS2 Y35.out (by omega))).c0, (LB.below N0.out.2.1 (belowS2 Y35.out (by omega))).c1⟩ (fun hHeld2 => ?_)
          clear hK K
          refine wpAnyH_ready (rs := [12]) (by kernel_rfl) (by simp) ?_
          refine AllReadyH.cons rfl (fun K hK => ?_) AllReadyH.nil
          go_simp
          refine hK.out _ _ ⟨(LB.below N0.out.1 (belowS2 (belowS2 Y35.out (by omega)) (by omega))).c0, (LB.below N0.out.1 (belowS2 (belowS2 Y35.out (by omega)) (by omega))).c1, (LB.below N0.out.2.1 (belowS2 (belowS2 Y35.out (by omega)) (by omega))).c0, (LB.below N0.out.2.1 (belowS2 (belowS2 Y35.out (by omega)) (by omega))).c1⟩ (fun hHeld2 => ?_)
          clear hK K
          refine wpAnyH_ready (rs := [13]) (by kernel_rfl) (by simp) ?_
          refine AllReadyH.cons rfl (fun K hK => ?_) AllReadyH.nil
          go_simp
          refine hK.out _ _ ⟨(LB.below N0.out.1 (belowS2 (belowS2 Y35.out (by omega)) (by omega))).c0, (LB.below N0.out.1 (belowS2 (belowS2 Y35.out (by omega)) (by omega))).c1, (LB.below N0.out.2.1 (belowS2 (belowS2 Y35.out (by omega)) (by omega))).c0, (LB.below N0.out.2.1 (belowS2 (belowS2 Y35.out (by omega)) (by omega))).c1⟩ (fun hHeld2 => ?_)
          clear hK K
          refine wpAnyH_done (by kernel_rfl) ?_ _
          go_wp2_with fail
          go_meet
          exact ⟨_, _, rfl, rfl, rfl, (SB.far2 (SB.set2 Y35_g.out) (by omega)), (SB.set2 (SB.far2 Y35_h.out (by omega))), (SB.far2 (SB.far2 Y35_w.out (by omega)) (by omega)), (SB.far2 (SB.far2 Y35_z.out (by omega)) (by omega)), (belowS2 (belowS2 Y35.out (by omega)) (by omega))⟩
    case rest =>
      obtain ⟨gg, gh, rfl, rfl, rfl, h1, h2, h3, h4, hb⟩ := hcut
      have x1 := h1.c0
      have z1 := h1.c1
      have x2 := h2.c0
      have z2 := h2.c1
      have x3 := h3.c0
      have z3 := h3.c1
      have x4 := h4.c0
      have z4 := h4.c1
      have D2 := Lib.hid hb
      have H2 := Lib.hid h2
      have H4 := Lib.hid h4
      clear h1 h2 h3 h4 hb
      go_wp2_with fail
      refine (eqSt_any _ _ _).mono ?_
      rintro e w9 ⟨rfl, hb⟩
      have p2 := (H2.out.below hb).c0
      have q2 := (H2.out.below hb).c1
      have p4 := (H4.out.below hb).c0
      have q4 := (H4.out.below hb).c1
      have D3 := Lib.hid (Below.tr (Below.tr N0.out.2.2 D2.out) hb)
      clear hb
      go_wp2_with fail
      refine (eqSt_any _ _ _).mono ?_
      rintro e w8 ⟨rfl, hb⟩
      have D4 := Lib.hid (Below.tr D3.out hb)
      clear hb
      go_wp2
      go_ret
      exact ⟨rfl, D4.out⟩
end Go.Proofs.Ytkffggnajoohfaa.Op
