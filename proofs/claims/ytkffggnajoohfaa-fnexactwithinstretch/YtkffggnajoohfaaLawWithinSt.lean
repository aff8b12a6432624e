/-
  The walk of the law FnExactWithinStretch.
-/
import Derived.Test.YtkffggnajoohfaaSt3
import Derived.Test.YtkffggnajoohfaaSt4
import Derived.Test.YtkffggnajoohfaaStH
namespace Go.Proofs.Ytkffggnajoohfaa.Op
open Go.Proofs.Ytkffggnajoohfaa
open Go.ChangeShapes Go.WideShapes Go.ChangeAt Go.RowKit

set_option maxRecDepth 100000 in
set_option maxHeartbeats 16000000 in
theorem lawWithinSt (al ah bl bh : Int) (w : World) :
    Calls Try.prog 8 #[.agg #[.int .i64 al, .int .i64 ah], .agg #[.int .i64 bl, .int .i64 bh]] w fun e w' => e = .returned (.bool true) ∧ Below w.heap.size w w' := by
  obtain ⟨Q, hQ⟩ : ∃ q, withinR ⟨al, ah⟩ ⟨bl, bh⟩ = q := ⟨_, rfl⟩
  obtain ⟨q, r⟩ := Q
  have HQ := Lib.hid hQ
  clear hQ
  have e1 : (q != q) = false := by simp
  have e2 : (r != r) = false := by simp
  have N0 := two_newL w al ah bl bh
  go_enter Try.func8, Try.ntmps8
  go_upto_region 1 with fail
  unfold lO at N0
  generalize ((w.alloc (.cells #[.int .i64 al, .int .i64 ah] 35)).alloc (.cells #[.int .i64 bl, .int .i64 bh] 35)) = v0 at N0 ⊢
  have D0 := Lib.hid (Below.refl v0.heap.size v0)
  have D0z := D0.out.size
  have hz0 : w.heap.size < v0.heap.size := N0.out.1.lt
  go_cut [5, 6] (fun s5 s6 wx => s5 = .bool q ∧ s6 = .bool r ∧ Below v0.heap.size v0 wx)
  case first =>
    refine wp_region_held_drew (S := fun W => W.cell? ⟨w.heap.size, 0, none⟩ = some (.int .i64 al) ∧ W.cell? ⟨w.heap.size, 1, none⟩ = some (.int .i64 ah) ∧ W.cell? ⟨w.heap.size + 1, 0, none⟩ = some (.int .i64 bl) ∧ W.cell? ⟨w.heap.size + 1, 1, none⟩ = some (.int .i64 bh)) (by kernel_rfl) ?_ (fun hHeld => ?_)
    · exact ⟨(LB.below N0.out.1 D0.out).c0, (LB.below N0.out.1 D0.out).c1, (LB.below N0.out.2.1 D0.out).c0, (LB.below N0.out.2.1 D0.out).c1⟩
    refine wpAnyH_take (i := 0) (v := ?_) rfl (by kernel_rfl) (by kernel_rfl) (by kernel_rfl) (fun _ _ _ h => h) (Or.inl ⟨by rfl, ?_⟩) (by assumption) ?_
    rotate_left
    · intro W hSw
      try dsimp only at hSw
      go_simp
      try with_reducible rfl
    refine wpAnyH_take (i := 2) (v := ?_) rfl (by kernel_rfl) (by kernel_rfl) (by kernel_rfl) (fun _ _ _ h => h) (Or.inl ⟨by rfl, ?_⟩) (by assumption) ?_
    rotate_left
    · intro W hSw
      try dsimp only at hSw
      go_simp
      try with_reducible rfl
    refine wpAnyH_ready (rs := [1]) (by kernel_rfl) (by simp) ?_
    refine AllReadyH.cons rfl (fun K hK => ?_) AllReadyH.nil
    go_simp
    refine (toSt_any _ _ _).mono ?_
    rintro e y1 ⟨rfl, hb⟩
    have Y1 := Lib.hid (Below.tr (Below.drew D0.out) hb)
    have Y1z := Y1.out.size
    clear hb
    refine hK.out _ _ ⟨(LB.below N0.out.1 Y1.out).c0, (LB.below N0.out.1 Y1.out).c1, (LB.below N0.out.2.1 Y1.out).c0, (LB.below N0.out.2.1 Y1.out).c1⟩ (fun hHeld2 => ?_)
    clear hK K
    refine wpAnyH_ready (rs := [3]) (by kernel_rfl) (by simp) ?_
    refine AllReadyH.cons rfl (fun K hK => ?_) AllReadyH.nil
    go_simp
    refine (toSt_any _ _ _).mono ?_
    rintro e y2 ⟨rfl, hb⟩
    have Y2 := Lib.hid (Below.tr Y1.out hb)
    have Y2z := Y2.out.size
    clear hb
    refine hK.out _ _ ⟨(LB.below N0.out.1 Y2.out).c0, (LB.below N0.out.1 Y2.out).c1, (LB.below N0.out.2.1 Y2.out).c0, (LB.below N0.out.2.1 Y2.out).c1⟩ (fun hHeld2 => ?_)
    clear hK K
    refine wpAnyH_ready (rs := [4]) (by kernel_rfl) (by simp) ?_
    refine AllReadyH.cons rfl (fun K hK => ?_) AllReadyH.nil
    go_simp
    refine (withinM_any _ _ _ _ _).mono ?_
    rw [HQ.out]
    rintro e y3 ⟨rfl, hb⟩
    have Y3 := Lib.hid (Below.tr Y2.out hb)
    have Y3z := Y3.out.size
    clear hb
    refine hK.out _ _ ⟨(LB.below N0.out.1 Y3.out).c0, (LB.below N0.out.1 Y3.out).c1, (LB.below N0.out.2.1 Y3.out).c0, (LB.below N0.out.2.1 Y3.out).c1⟩ (fun hHeld2 => ?_)
    clear hK K
    refine wpAnyH_take (i := 5) (v := ?_) rfl (by kernel_rfl) (by kernel_rfl) (by kernel_rfl) (fun _ _ _ h => h) (Or.inl ⟨by rfl, ?_⟩) (by assumption) ?_
    rotate_left
    · intro W hSw
      try dsimp only at hSw
      go_simp
      try with_reducible rfl
    refine wpAnyH_take (i := 6) (v := ?_) rfl (by kernel_rfl) (by kernel_rfl) (by kernel_rfl) (fun _ _ _ h => h) (Or.inl ⟨by rfl, ?_⟩) (by assumption) ?_
    rotate_left
    · intro W hSw
      try dsimp only at hSw
      go_simp
      try with_reducible rfl
    refine wpAnyH_take (i := 7) (v := ?_) rfl (by kernel_rfl) (by kernel_rfl) (by kernel_rfl) (fun _ _ _ h => h) (Or.inl ⟨by rfl, ?_⟩) (by assumption) ?_
    rotate_left
    · intro W hSw
      try dsimp only at hSw
      go_simp
      try with_reducible rfl
    refine wpAnyH_ready (rs := [8]) (by kernel_rfl) (by simp) ?_
    refine AllReadyH.cons rfl (fun K hK => ?_) AllReadyH.nil
    go_simp
    refine hK.out _ _ ⟨(LB.below N0.out.1 Y3.out).c0, (LB.below N0.out.1 Y3.out).c1, (LB.below N0.out.2.1 Y3.out).c0, (LB.below N0.out.2.1 Y3.out).c1⟩ (fun hHeld2 => ?_)
    clear hK K
    refine wpAnyH_ready (rs := [9]) (by kernel_rfl) (by simp) ?_
    refine AllReadyH.cons rfl (fun K hK => ?_) AllReadyH.nil
    go_simp
    refine hK.out _ _ ⟨(LB.below N0.out.1 Y3.out).c0, (LB.below N0.out.1 Y3.out).c1, (LB.below N0.out.2.1 Y3.out).c0, (LB.below N0.out.2.1 Y3.out).c1⟩ (fun hHeld2 => ?_)
    clear hK K
    refine wpAnyH_done (by kernel_rfl) ?_ _
    go_wp2_with fail
    go_meet
    exact ⟨rfl, rfl, Y3.out⟩
  case rest =>
    obtain ⟨rfl, rfl, hb⟩ := hcut
    obtain ⟨v1, hv⟩ : ∃ x, x = wc := ⟨_, rfl⟩
    subst hv
    have D1 := Lib.hid hb
    have D1z := D1.out.size
    clear hb
    go_upto_region 2 with fail
    go_cut [7, 8] (fun s5 s6 wx => s5 = .bool q ∧ s6 = .bool r ∧ Below v0.heap.size v0 wx)
    case first =>
      refine wp_region_held_drew (S := fun W => W.cell? ⟨w.heap.size, 0, none⟩ = some (.int .i64 al) ∧ W.cell? ⟨w.heap.size, 1, none⟩ = some (.int .i64 ah) ∧ W.cell? ⟨w.heap.size + 1, 0, none⟩ = some (.int .i64 bl) ∧ W.cell? ⟨w.heap.size + 1, 1, none⟩ = some (.int .i64 bh)) (by kernel_rfl) ?_ (fun hHeld => ?_)
      · exact ⟨(LB.below N0.out.1 D1.out).c0, (LB.below N0.out.1 D1.out).c1, (LB.below N0.out.2.1 D1.out).c0, (LB.below N0.out.2.1 D1.out).c1⟩
      refine wpAnyH_take (i := 0) (v := ?_) rfl (by kernel_rfl) (by kernel_rfl) (by kernel_rfl) (fun _ _ _ h => h) (Or.inl ⟨by rfl, ?_⟩) (by assumption) ?_
      rotate_left
      · intro W hSw
        try dsimp only at hSw
        go_simp
        try with_reducible rfl
      refine wpAnyH_take (i := 2) (v := ?_) rfl (by kernel_rfl) (by kernel_rfl) (by kernel_rfl) (fun _ _ _ h => h) (Or.inl ⟨by rfl, ?_⟩) (by assumption) ?_
      rotate_left
      · intro W hSw
        try dsimp only at hSw
        go_simp
        try with_reducible rfl
      refine wpAnyH_ready (rs := [1]) (by kernel_rfl) (by simp) ?_
      refine AllReadyH.cons rfl (fun K hK => ?_) AllReadyH.nil
      go_simp
      refine (toSt_any _ _ _).mono ?_
      rintro e y1 ⟨rfl, hb⟩
      have Y1 := Lib.hid (Below.tr (Below.drew D1.out) hb)
      have Y1z := Y1.out.size
      clear hb
      refine hK.out _ _ ⟨(LB.below N0.out.1 Y1.out).c0, (LB.below N0.out.1 Y1.out).c1, (LB.below N0.out.2.1 Y1.out).c0, (LB.below N0.out.2.1 Y1.out).c1⟩ (fun hHeld2 => ?_)
      clear hK K
      refine wpAnyH_ready (rs := [3]) (by kernel_rfl) (by simp) ?_
      refine AllReadyH.cons rfl (fun K hK => ?_) AllReadyH.nil
      go_simp
      refine (toSt_any _ _ _).mono ?_
      rintro e y2 ⟨rfl, hb⟩
      have Y2 := Lib.hid (Below.tr Y1.out hb)
      have Y2z := Y2.out.size
      clear hb
      refine hK.out _ _ ⟨(LB.below N0.out.1 Y2.out).c0, (LB.below N0.out.1 Y2.out).c1, (LB.below N0.out.2.1 Y2.out).c0, (LB.below N0.out.2.1 Y2.out).c1⟩ (fun hHeld2 => ?_)
      clear hK K
      refine wpAnyH_ready (rs := [4]) (by kernel_rfl) (by simp) ?_
      refine AllReadyH.cons rfl (fun K hK => ?_) AllReadyH.nil
      go_simp
      refine (withinI_any _ _ _ _ _).mono ?_
      rw [HQ.out]
      rintro e y3 ⟨rfl, hb⟩
      have Y3 := Lib.hid (Below.tr Y2.out hb)
      have Y3z := Y3.out.size
      clear hb
      refine hK.out _ _ ⟨(LB.below N0.out.1 Y3.out).c0, (LB.below N0.out.1 Y3.out).c1, (LB.below N0.out.2.1 Y3.out).c0, (LB.below N0.out.2.1 Y3.out).c1⟩ (fun hHeld2 => ?_)
      clear hK K
      refine wpAnyH_take (i := 5) (v := ?_) rfl (by kernel_rfl) (by kernel_rfl) (by kernel_rfl) (fun _ _ _ h => h) (Or.inl ⟨by rfl, ?_⟩) (by assumption) ?_
      rotate_left
      · intro W hSw
        try dsimp only at hSw
        go_simp
        try with_reducible rfl
      refine wpAnyH_take (i := 6) (v := ?_) rfl (by kernel_rfl) (by kernel_rfl) (by kernel_rfl) (fun _ _ _ h => h) (Or.inl ⟨by rfl, ?_⟩) (by assumption) ?_
      rotate_left
      · intro W hSw
        try dsimp only at hSw
        go_simp
        try with_reducible rfl
      refine wpAnyH_take (i := 7) (v := ?_) rfl (by kernel_rfl) (by kernel_rfl) (by kernel_rfl) (fun _ _ _ h => h) (Or.inl ⟨by rfl, ?_⟩) (by assumption) ?_
      rotate_left
      · intro W hSw
        try dsimp only at hSw
        go_simp
        try with_reducible rfl
      refine wpAnyH_ready (rs := [8]) (by kernel_rfl) (by simp) ?_
      refine AllReadyH.cons rfl (fun K hK => ?_) AllReadyH.nil
      go_simp
      refine hK.out _ _ ⟨(LB.below N0.out.1 Y3.out).c0, (LB.below N0.out.1 Y3.out).c1, (LB.below N0.out.2.1 Y3.out).c0, (LB.below N0.out.2.1 Y3.out).c1⟩ (fun hHeld2 => ?_)
      clear hK K
      refine wpAnyH_ready (rs := [9]) (by kernel_rfl) (by simp) ?_
      refine AllReadyH.cons rfl (fun K hK => ?_) AllReadyH.nil
      go_simp
      refine hK.out _ _ ⟨(LB.below N0.out.1 Y3.out).c0, (LB.below N0.out.1 Y3.out).c1, (LB.below N0.out.2.1 Y3.out).c0, (LB.below N0.out.2.1 Y3.out).c1⟩ (fun hHeld2 => ?_)
      clear hK K
      refine wpAnyH_done (by kernel_rfl) ?_ _
      go_wp2_with fail
      go_meet
      exact ⟨rfl, rfl, Y3.out⟩
    case rest =>
      obtain ⟨rfl, rfl, hb⟩ := hcut
      obtain ⟨v2, hv⟩ : ∃ x, x = wc := ⟨_, rfl⟩
      subst hv
      have D2 := Lib.hid hb
      have D2z := D2.out.size
      clear hb
      go_wp2
      go_ret
      exact ⟨rfl, Below.tr N0.out.2.2 D2.out⟩
end Go.Proofs.Ytkffggnajoohfaa.Op
