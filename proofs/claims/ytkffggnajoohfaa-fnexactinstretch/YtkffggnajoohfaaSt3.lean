/-
  Contracts of chapter 9: SplitLess, WithinStretch, InStretch, SizeOf of the program.
-/
import Derived.Test.YtkffggnajoohfaaSt2
namespace Go.Proofs.Ytkffggnajoohfaa.Op
open Go.Proofs.Ytkffggnajoohfaa
open Go.ChangeShapes Go.WideShapes Go.ChangeAt Go.RowKit

set_option maxRecDepth 100000 in
set_option maxHeartbeats 2000000 in
theorem splitI_any (al ah bl bh : Int) (w : World) :
    Calls Try.prog 16 #[.agg #[.int .i64 al, .int .i64 ah], .agg #[.int .i64 bl, .int .i64 bh]] w fun e w' => e = .returned (.tuple #[.agg #[.int .i64 (splitR2 ⟨al, ah⟩ ⟨bl, bh⟩).1.lo, .int .i64 (splitR2 ⟨al, ah⟩ ⟨bl, bh⟩).1.hi], .agg #[.int .i64 (splitR2 ⟨al, ah⟩ ⟨bl, bh⟩).2.1.lo, .int .i64 (splitR2 ⟨al, ah⟩ ⟨bl, bh⟩).2.1.hi], .bool (splitR2 ⟨al, ah⟩ ⟨bl, bh⟩).2.2]) ∧ Below w.heap.size w w' := by
  obtain ⟨g1, hg1⟩ : ∃ g, goodS ⟨al, ah⟩ = g := ⟨_, rfl⟩
  have G1 := Lib.hid hg1
  clear hg1
  obtain ⟨g2, hg2⟩ : ∃ g, goodS ⟨bl, bh⟩ = g := ⟨_, rfl⟩
  have G2 := Lib.hid hg2
  clear hg2
  have q0 := run_min ah (bh - 1)
  have q1 := run_max (al + 1) bl
  have N0 := four_news w (al) (ah) (bl) (bh) (0) (0) (0) (0)
  go_enter Try.func16, Try.ntmps16
  go_wp2_with fail
  unfold sO at N0
  generalize ((((w.alloc (.cells #[.int .i64 al, .int .i64 ah] 24)).alloc (.cells #[.int .i64 bl, .int .i64 bh] 24)).alloc (.cells #[.int .i64 0, .int .i64 0] 24)).alloc (.cells #[.int .i64 0, .int .i64 0] 24)) = v0 at N0 ⊢
  have D0 := Lib.hid (Below.refl v0.heap.size v0)
  refine (goodI_any _ _ _).mono ?_
  rw [G1.out]
  rintro e v1 ⟨rfl, hb⟩
  have D1 := Lib.hid (Below.tr D0.out hb)
  clear hb
  have k0 := (SB.below N0.out.1 D1.out).c0
  have m0 := (SB.below N0.out.1 D1.out).c1
  have k1 := (SB.below N0.out.2.1 D1.out).c0
  have m1 := (SB.below N0.out.2.1 D1.out).c1
  have k2 := (SB.below N0.out.2.2.1 D1.out).c0
  have m2 := (SB.below N0.out.2.2.1 D1.out).c1
  have f2 := (SB.below N0.out.2.2.1 D1.out).f 0
  have j2 := (SB.below N0.out.2.2.1 D1.out).f 1
  have k3 := (SB.below N0.out.2.2.2.1 D1.out).c0
  have m3 := (SB.below N0.out.2.2.2.1 D1.out).c1
  have f3 := (SB.below N0.out.2.2.2.1 D1.out).f 0
  have j3 := (SB.below N0.out.2.2.2.1 D1.out).f 1
  cases g1
  · go_wp2
    refine shut2 (ok := false) (((SB.below N0.out.2.2.1 D1.out).set2).far2 (by omega)) (((SB.below N0.out.2.2.2.1 D1.out).far2 (by omega)).set2) (belowS2 (belowS2 (Below.tr N0.out.2.2.2.2 D1.out) (by omega)) (by omega)) ?_ ?_
    · intro c0 c1 c2 c3; simp [results, Try.results16, go_sem, c0, c1, c2, c3]
    · simp [splitR2, G1.out, G2.out]
  · go_wp2_with fail
    refine (goodI_any _ _ _).mono ?_
    rw [G2.out]
    rintro e v2 ⟨rfl, hb⟩
    have D2 := Lib.hid (Below.tr D1.out hb)
    clear hb
    have k0 := (SB.below N0.out.1 D2.out).c0
    have m0 := (SB.below N0.out.1 D2.out).c1
    have l0 := (SB.below N0.out.1 D2.out).lt
    have k1 := (SB.below N0.out.2.1 D2.out).c0
    have m1 := (SB.below N0.out.2.1 D2.out).c1
    have l1 := (SB.below N0.out.2.1 D2.out).lt
    have k2 := (SB.below N0.out.2.2.1 D2.out).c0
    have m2 := (SB.below N0.out.2.2.1 D2.out).c1
    have f2 := (SB.below N0.out.2.2.1 D2.out).f 0
    have j2 := (SB.below N0.out.2.2.1 D2.out).f 1
    have l2 := (SB.below N0.out.2.2.1 D2.out).lt
    have k3 := (SB.below N0.out.2.2.2.1 D2.out).c0
    have m3 := (SB.below N0.out.2.2.2.1 D2.out).c1
    have f3 := (SB.below N0.out.2.2.2.1 D2.out).f 0
    have j3 := (SB.below N0.out.2.2.2.1 D2.out).f 1
    have l3 := (SB.below N0.out.2.2.2.1 D2.out).lt
    cases g2
    · go_wp2
      refine shut2 (ok := false) (((SB.below N0.out.2.2.1 D2.out).set2).far2 (by omega)) (((SB.below N0.out.2.2.2.1 D2.out).far2 (by omega)).set2) (belowS2 (belowS2 (Below.tr N0.out.2.2.2.2 D2.out) (by omega)) (by omega)) ?_ ?_
      · intro c0 c1 c2 c3; simp [results, Try.results16, go_sem, c0, c1, c2, c3]
      · simp [splitR2, G1.out, G2.out]
    · obtain ⟨z1, z2, z3⟩ := goodS_yes G1.out
      obtain ⟨z4, z5, z6⟩ := goodS_yes G2.out
      simp only at z1 z2 z3 z4 z5 z6
      by_cases hm : al < bh
      · have HM := Lib.hid hm
        go_wp2
        go_region
        go_wp2
        refine shut2 (ok := true) ((((SB.below N0.out.2.2.1 D2.out).set2).far2 (by omega)).below ((below2 _ _ _).drew)) ((((SB.below N0.out.2.2.2.1 D2.out).far2 (by omega)).set2).below ((below2 _ _ _).drew)) (Below.tr (belowS2 (belowS2 (Below.tr N0.out.2.2.2.2 D2.out) (by omega)) (by omega)) ((below2 _ _ _).drew)) ?_ ?_
        · intro c0 c1 c2 c3; simp [results, Try.results16, go_sem, c0, c1, c2, c3]
        · rw [splitR2_yes G1.out G2.out HM.out]; simp only [splitL, splitR, maxI_comm bl (al + 1)]
      · have HM := Lib.hid (show bh ≤ al by omega)
        go_wp2
        refine shut2 (ok := false) (((SB.below N0.out.2.2.1 D2.out).set2).far2 (by omega)) (((SB.below N0.out.2.2.2.1 D2.out).far2 (by omega)).set2) (belowS2 (belowS2 (Below.tr N0.out.2.2.2.2 D2.out) (by omega)) (by omega)) ?_ ?_
        · intro c0 c1 c2 c3; simp [results, Try.results16, go_sem, c0, c1, c2, c3]
        · rw [splitR2_no (a := ⟨al, ah⟩) (b := ⟨bl, bh⟩) HM.out]

set_option maxRecDepth 100000 in
set_option maxHeartbeats 2000000 in
theorem withinI_any (al ah bl bh : Int) (w : World) :
    Calls Try.prog 18 #[.agg #[.int .i64 al, .int .i64 ah], .agg #[.int .i64 bl, .int .i64 bh]] w fun e w' => e = .returned (.tuple #[.bool (withinR ⟨al, ah⟩ ⟨bl, bh⟩).1, .bool (withinR ⟨al, ah⟩ ⟨bl, bh⟩).2]) ∧ Below w.heap.size w w' := by
  obtain ⟨Q, hQ⟩ : ∃ q, joinR ⟨al, ah⟩ ⟨bl, bh⟩ = q := ⟨_, rfl⟩
  obtain ⟨⟨x, y⟩, ok⟩ := Q
  have HQ := Lib.hid hQ
  clear hQ
  have q0 := eql_st x y bl bh
  have N0 := two_news w (al) (ah) (bl) (bh)
  go_enter Try.func18, Try.ntmps18
  go_wp2_with fail
  unfold sO at N0
  generalize ((w.alloc (.cells #[.int .i64 al, .int .i64 ah] 24)).alloc (.cells #[.int .i64 bl, .int .i64 bh] 24)) = v0 at N0 ⊢
  have D0 := Lib.hid (Below.refl v0.heap.size v0)
  refine (joinI_any _ _ _ _ _).mono ?_
  rw [HQ.out]
  rintro e v1 ⟨rfl, hb⟩
  have D1 := Lib.hid (Below.tr D0.out hb)
  clear hb
  have k0 := (SB.below N0.out.1 D1.out).c0
  have m0 := (SB.below N0.out.1 D1.out).c1
  have l0 := (SB.below N0.out.1 D1.out).lt
  have k1 := (SB.below N0.out.2.1 D1.out).c0
  have m1 := (SB.below N0.out.2.1 D1.out).c1
  have l1 := (SB.below N0.out.2.1 D1.out).lt
  have e : withinR ⟨al, ah⟩ ⟨bl, bh⟩ = (ok && decide (x = bl ∧ y = bh), ok) := within_of_join HQ.out
  have E := Lib.hid e
  clear e
  cases ok
  · go_wp2
    go_ret2
    exact ⟨ret_bools (by rw [E.out]; rfl) (by rw [E.out]), Below.tr (Below.tr N0.out.2.2 D1.out) (below1 _ _)⟩
  · go_wp2
    go_ret2
    exact ⟨ret_bools (by rw [E.out]; simp) (by rw [E.out]), Below.tr (Below.tr N0.out.2.2 D1.out) (below1 _ _)⟩

set_option maxRecDepth 100000 in
set_option maxHeartbeats 2000000 in
theorem inI_any (al ah n : Int) (w : World) :
    Calls Try.prog 26 #[.agg #[.int .i64 al, .int .i64 ah], .int .i64 n] w fun e w' => e = .returned (.tuple #[.bool (inR ⟨al, ah⟩ n).1, .bool (inR ⟨al, ah⟩ n).2]) ∧ Below w.heap.size w w' := by
  have N0 := one_news w (al) (ah)
  go_enter Try.func26, Try.ntmps26
  go_wp2_with fail
  unfold sO at N0
  generalize (w.alloc (.cells #[.int .i64 al, .int .i64 ah] 24)) = v0 at N0 ⊢
  have D0 := Lib.hid (Below.refl v0.heap.size v0)
  refine wp_region_held_drew (S := fun W => W.cell? ⟨w.heap.size, 0, none⟩ = some (.int .i64 al) ∧ W.cell? ⟨w.heap.size, 1, none⟩ = some (.int .i64 ah)) (by kernel_rfl) ?_ (fun hHeld => ?_)
  · exact ⟨(SB.below N0.out.1 D0.out).c0, (SB.below N0.out.1 D0.out).c1⟩
  refine wpAnyH_take (i := 0) (v := ?_) rfl (by kernel_rfl) (by kernel_rfl) (by kernel_rfl) (fun _ _ _ h => h) (Or.inl ⟨by rfl, ?_⟩) (by assumption) ?_
  rotate_left
  · intro W hSw
    try dsimp only at hSw
    go_simp
    try with_reducible rfl
  simp only [Act.put, List.setIfInBounds_toArray]
  refine wpAnyH_take (i := 2) (v := ?_) rfl (by kernel_rfl) (by kernel_rfl) (by kernel_rfl) (fun _ _ _ h => h) (Or.inl ⟨by rfl, ?_⟩) (by assumption) ?_
  rotate_left
  · intro W hSw
    try dsimp only at hSw
    go_simp
    try with_reducible rfl
  simp only [Act.put]
  refine wpAnyH_ready (rs := [1]) (by kernel_rfl) (by simp) ?_
  refine AllReadyH.cons rfl (fun K hK => ?_) AllReadyH.nil
  go_simp
  refine (onlyWord_any _ _).mono ?_
  rintro e v1 ⟨rfl, hb⟩
  have D1 := Lib.hid (Below.tr D0.out (Below.tr (Below.refl _ _).drew hb))
  clear hb
  refine hK.out _ _ ⟨(SB.below N0.out.1 D1.out).c0, (SB.below N0.out.1 D1.out).c1⟩ (fun hHeld2 => ?_)
  clear hK K
  try simp only [Act.put, List.setIfInBounds_toArray, List.set_cons_zero, List.set_cons_succ]
  refine wpAnyH_ready (rs := [3]) (by kernel_rfl) (by simp) ?_
  refine AllReadyH.cons rfl (fun K hK => ?_) AllReadyH.nil
  go_simp
  refine (withinI_any _ _ _ _ _).mono ?_
  rintro e v2 ⟨rfl, hb⟩
  have D2 := Lib.hid (Below.tr D1.out hb)
  clear hb
  refine hK.out _ _ ⟨(SB.below N0.out.1 D2.out).c0, (SB.below N0.out.1 D2.out).c1⟩ (fun hHeld2 => ?_)
  clear hK K
  try simp only [Act.put, List.setIfInBounds_toArray, List.set_cons_zero, List.set_cons_succ]
  refine wpAnyH_take (i := 4) (v := ?_) rfl (by kernel_rfl) (by kernel_rfl) (by kernel_rfl) (fun _ _ _ h => h) (Or.inl ⟨by rfl, ?_⟩) (by assumption) ?_
  rotate_left
  · intro W hSw
    try dsimp only at hSw
    go_simp
    try with_reducible rfl
  simp only [Act.put, List.setIfInBounds_toArray]
  refine wpAnyH_take (i := 5) (v := ?_) rfl (by kernel_rfl) (by kernel_rfl) (by kernel_rfl) (fun _ _ _ h => h) (Or.inl ⟨by rfl, ?_⟩) (by assumption) ?_
  rotate_left
  · intro W hSw
    try dsimp only at hSw
    go_simp
    try with_reducible rfl
  simp only [Act.put]
  refine wpAnyH_ready (rs := [6]) (by kernel_rfl) (by simp) ?_
  refine AllReadyH.cons rfl (fun K hK => ?_) (AllReadyH.nil)
  go_simp
  refine hK.out _ _ (by assumption) (fun hHeld2 => ?_)
  clear hK K
  try simp only [Act.put, List.setIfInBounds_toArray, List.set_cons_zero, List.set_cons_succ]
  refine wpAnyH_ready (rs := [7]) (by kernel_rfl) (by simp) ?_
  refine AllReadyH.cons rfl (fun K hK => ?_) (AllReadyH.nil)
  go_simp
  refine hK.out _ _ (by assumption) (fun hHeld2 => ?_)
  clear hK K
  try simp only [Act.put, List.setIfInBounds_toArray, List.set_cons_zero, List.set_cons_succ]
  refine wpAnyH_done (by kernel_rfl) ?_ _
  go_wp2
  go_ret2
  exact ⟨ret_bools (by rw [in_within]) (by rw [in_within]), (Below.tr N0.out.2 D2.out)⟩

set_option maxRecDepth 100000 in
set_option maxHeartbeats 2000000 in
theorem sizeI_any (al ah : Int) (w : World) :
    Calls Try.prog 29 #[.agg #[.int .i64 al, .int .i64 ah]] w fun e w' => e = .returned (.tuple #[.int .i64 (sizeR ⟨al, ah⟩).1, .bool (sizeR ⟨al, ah⟩).2]) ∧ Below w.heap.size w w' := by
  obtain ⟨g1, hg1⟩ : ∃ g, goodS ⟨al, ah⟩ = g := ⟨_, rfl⟩
  have G1 := Lib.hid hg1
  clear hg1
  have N0 := one_news w (al) (ah)
  go_enter Try.func29, Try.ntmps29
  go_wp2_with fail
  unfold sO at N0
  generalize (w.alloc (.cells #[.int .i64 al, .int .i64 ah] 24)) = v0 at N0 ⊢
  have D0 := Lib.hid (Below.refl v0.heap.size v0)
  refine (goodI_any _ _ _).mono ?_
  rw [G1.out]
  rintro e v1 ⟨rfl, hb⟩
  have D1 := Lib.hid (Below.tr D0.out hb)
  clear hb
  have k0 := (SB.below N0.out.1 D1.out).c0
  have m0 := (SB.below N0.out.1 D1.out).c1
  cases g1
  · go_wp2
    go_ret2
    exact ⟨ret_two (by simp [sizeR, G1.out]) (by simp [sizeR, G1.out]), (Below.tr N0.out.2 D1.out)⟩
  · obtain ⟨z1, z2, z3⟩ := goodS_yes G1.out
    simp only at z1 z2 z3
    go_wp2
    go_ret2
    exact ⟨ret_two (by simp [sizeR, G1.out, sizeSt]) (by simp [sizeR, G1.out]), (Below.tr N0.out.2 D1.out)⟩

end Go.Proofs.Ytkffggnajoohfaa.Op
