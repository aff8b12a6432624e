/-
  Contracts of chapter 9: SplitLess, WithinStretch, InStretch, SizeOf of the program.
-/
import Derived.Test.YtkffggnajoohfaaDoorSt2
namespace Go.Proofs.YtkffggnajoohfaaDoor.Op
open Go.Proofs.YtkffggnajoohfaaDoor
open Go.ChangeShapes Go.WideShapes Go.ChangeAt Go.RowKit

set_option maxRecDepth 100000 in
set_option maxHeartbeats 2000000 in
theorem withinI_any (al ah bl bh : Int) (w : World) :
    Calls Tryd.prog 71 #[.agg #[.int .i64 al, .int .i64 ah], .agg #[.int .i64 bl, .int .i64 bh]] w fun e w' => e = .returned (.tuple #[.bool (withinR ⟨al, ah⟩ ⟨bl, bh⟩).1, .bool (withinR ⟨al, ah⟩ ⟨bl, bh⟩).2]) ∧ Below w.heap.size w w' := by
  obtain ⟨Q, hQ⟩ : ∃ q, joinR ⟨al, ah⟩ ⟨bl, bh⟩ = q := ⟨_, rfl⟩
  obtain ⟨⟨x, y⟩, ok⟩ := Q
  have HQ := Lib.hid hQ
  clear hQ
  have q0 := eql_st x y bl bh
  have N0 := two_news w (al) (ah) (bl) (bh)
  go_enter Tryd.func71, Tryd.ntmps71
  go_wp2_with fail
  unfold sO at N0
  generalize ((w.alloc (.cells #[.int .i64 al, .int .i64 ah] 46)).alloc (.cells #[.int .i64 bl, .int .i64 bh] 46)) = v0 at N0 ⊢
  have D0 := Lib.hid (Below.refl v0.heap.size v0)
  refine (joinI_any _ _ _ _ _).mono ?_
  rw [HQ.out]
  rintro e v1 ⟨rfl, hb⟩
  have D1 := Lib.hid (Below.tr D0.out hb)
  clear hb
  have k0 := (SB.below N0.out.1 D1.out).c0
  have m0 := (SB.below N0.out.1 D1.out).c1
  have l0 := (SB.below N0.out.1 D1.out).lt
  have k1 := (SB.below N0.out.2.1 D1.out).c0
  have m1 := (SB.below N0.out.2.1 D1.out).c1
  have l1 := (SB.below N0.out.2.1 D1.out).lt
  have e : withinR ⟨al, ah⟩ ⟨bl, bh⟩ = (ok && decide (x = bl ∧ y = bh), ok) := within_of_join HQ.out
  have E := Lib.hid e
  clear e
  cases ok
  · go_wp2
    go_ret2
    exact ⟨ret_bools (by rw [E.out]; rfl) (by rw [E.out]), Below.tr (Below.tr N0.out.2.2 D1.out) (below1 _ _)⟩
  · go_wp2
    go_ret2
    exact ⟨ret_bools (by rw [E.out]; simp) (by rw [E.out]), Below.tr (Below.tr N0.out.2.2 D1.out) (below1 _ _)⟩

set_option maxRecDepth 100000 in
set_option maxHeartbeats 2000000 in
theorem inI_any (al ah n : Int) (w : World) :
    Calls Tryd.prog 27 #[.agg #[.int .i64 al, .int .i64 ah], .int .i64 n] w fun e w' => e = .returned (.tuple #[.bool (inR ⟨al, ah⟩ n).1, .bool (inR ⟨al, ah⟩ n).2]) ∧ Below w.heap.size w w' := by
  have N0 := one_news w (al) (ah)
  go_enter Tryd.func27, Tryd.ntmps27
  go_wp2_with fail
  unfold sO at N0
  generalize (w.alloc (.cells #[.int .i64 al, .int .i64 ah] 46)) = v0 at N0 ⊢
  have D0 := Lib.hid (Below.refl v0.heap.size v0)
  refine wp_region_held_drew (S := fun W => W.cell? ⟨w.heap.size, 0, none⟩ = some (.int .i64 al) ∧ W.cell? ⟨w.heap.size, 1, none⟩ = some (.int .i64 ah)) (by kernel_rfl) ?_ (fun hHeld => ?_)
  · exact ⟨(SB.below N0.out.1 D0.out).c0, (SB.below N0.out.1 D0.out).c1⟩
  refine wpAnyH_take (i := 0) (v := ?_) rfl (by kernel_rfl) (by kernel_rfl) (by kernel_rfl) (fun _ _ _ h => h) (Or.inl ⟨by rfl, ?_⟩) (by assumption) ?_
  rotate_left
  · intro W hSw
    try dsimp only at hSw
    go_simp
    try with_reducible rfl
  simp only [Act.put, List.setIfInBounds_toArray]
  refine wpAnyH_take (i := 2) (v := ?_) rfl (by kernel_rfl) (by kernel_rfl) (by kernel_rfl) (fun _ _ _ h => h) (Or.inl ⟨by rfl, ?_⟩) (by assumption) ?_
  rotate_left
  · intro W hSw
    try dsimp only at hSw
    go_simp
    try with_reducible rfl
  simp only [Act.put]
  refine wpAnyH_ready (rs := [1]) (by kernel_rfl) (by simp) ?_
  refine AllReadyH.cons rfl (fun K hK => ?_) AllReadyH.nil
  go_simp
  refine (onlyWord_any _ _).mono ?_
  rintro e v1 ⟨rfl, hb⟩
  have D1 := Lib.hid (Below.tr D0.out (Below.tr (Below.refl _ _).drew hb))
  clear hb
  refine hK.out _ _ ⟨(SB.below N0.out.1 D1.out).c0, (SB.below N0.out.1 D1.out).c1⟩ (fun hHeld2 => ?_)
  clear hK K
  try simp only [Act.put, List.setIfInBounds_toArray, List.set_cons_zero, List.set_cons_succ]
  refine wpAnyH_ready (rs := [3]) (by kernel_rfl) (by simp) ?_
  refine AllReadyH.cons rfl (fun K hK => ?_) AllReadyH.nil
  go_simp
  refine (withinI_any _ _ _ _ _).mono ?_
  rintro e v2 ⟨rfl, hb⟩
  have D2 := Lib.hid (Below.tr D1.out hb)
  clear hb
  refine hK.out _ _ ⟨(SB.below N0.out.1 D2.out).c0, (SB.below N0.out.1 D2.out).c1⟩ (fun hHeld2 => ?_)
  clear hK K
  try simp only [Act.put, List.setIfInBounds_toArray, List.set_cons_zero, List.set_cons_succ]
  refine wpAnyH_take (i := 4) (v := ?_) rfl (by kernel_rfl) (by kernel_rfl) (by kernel_rfl) (fun _ _ _ h => h) (Or.inl ⟨by rfl, ?_⟩) (by assumption) ?_
  rotate_left
  · intro W hSw
    try dsimp only at hSw
    go_simp
    try with_reducible rfl
  simp only [Act.put, List.setIfInBounds_toArray]
  refine wpAnyH_take (i := 5) (v := ?_) rfl (by kernel_rfl) (by kernel_rfl) (by kernel_rfl) (fun _ _ _ h => h) (Or.inl ⟨by rfl, ?_⟩) (by assumption) ?_
  rotate_left
  · intro W hSw
    try dsimp only at hSw
    go_simp
    try with_reducible rfl
  simp only [Act.put]
  refine wpAnyH_ready (rs := [6]) (by kernel_rfl) (by simp) ?_
  refine AllReadyH.cons rfl (fun K hK => ?_) (AllReadyH.nil)
  go_simp
  refine hK.out _ _ (by assumption) (fun hHeld2 => ?_)
  clear hK K
  try simp only [Act.put, List.setIfInBounds_toArray, List.set_cons_zero, List.set_cons_succ]
  refine wpAnyH_ready (rs := [7]) (by kernel_rfl) (by simp) ?_
  refine AllReadyH.cons rfl (fun K hK => ?_) (AllReadyH.nil)
  go_simp
  refine hK.out _ _ (by assumption) (fun hHeld2 => ?_)
  clear hK K
  try simp only [Act.put, List.setIfInBounds_toArray, List.set_cons_zero, List.set_cons_succ]
  refine wpAnyH_done (by kernel_rfl) ?_ _
  go_wp2
  go_ret2
  exact ⟨ret_bools (by rw [in_within]) (by rw [in_within]), (Below.tr N0.out.2 D2.out)⟩

set_option maxRecDepth 100000 in
set_option maxHeartbeats 2000000 in
theorem sizeI_any (al ah : Int) (w : World) :
    Calls Tryd.prog 24 #[.agg #[.int .i64 al, .int .i64 ah]] w fun e w' => e = .returned (.tuple #[.int .i64 (sizeR ⟨al, ah⟩).1, .bool (sizeR ⟨al, ah⟩).2]) ∧ Below w.heap.size w w' := by
  obtain ⟨g1, hg1⟩ : ∃ g, goodS ⟨al, ah⟩ = g := ⟨_, rfl⟩
  have G1 := Lib.hid hg1
  clear hg1
  have N0 := one_news w (al) (ah)
  go_enter Tryd.func24, Tryd.ntmps24
  go_wp2_with fail
  unfold sO at N0
  generalize (w.alloc (.cells #[.int .i64 al, .int .i64 ah] 46)) = v0 at N0 ⊢
  have D0 := Lib.hid (Below.refl v0.heap.size v0)
  refine (goodI_any _ _ _).mono ?_
  rw [G1.out]
  rintro e v1 ⟨rfl, hb⟩
  have D1 := Lib.hid (Below.tr D0.out hb)
  clear hb
  have k0 := (SB.below N0.out.1 D1.out).c0
  have m0 := (SB.below N0.out.1 D1.out).c1
  cases g1
  · go_wp2
    go_ret2
    exact ⟨ret_two (by simp [sizeR, G1.out]) (by simp [sizeR, G1.out]), (Below.tr N0.out.2 D1.out)⟩
  · obtain ⟨z1, z2, z3⟩ := goodS_yes G1.out
    simp only at z1 z2 z3
    go_wp2
    go_ret2
    exact ⟨ret_two (by simp [sizeR, G1.out, sizeSt]) (by simp [sizeR, G1.out]), (Below.tr N0.out.2 D1.out)⟩

end Go.Proofs.YtkffggnajoohfaaDoor.Op
