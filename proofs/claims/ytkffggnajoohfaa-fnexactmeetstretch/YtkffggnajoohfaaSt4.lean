/-
  Contracts of chapter 9: the model's functions over intervals.
-/
import Derived.Test.YtkffggnajoohfaaSt2
namespace Go.Proofs.Ytkffggnajoohfaa.Op
open Go.Proofs.Ytkffggnajoohfaa
open Go.ChangeShapes Go.WideShapes Go.ChangeAt Go.RowKit

set_option maxRecDepth 100000 in
set_option maxHeartbeats 2000000 in
theorem l9Two_any (al ah bl bh : Int) (w : World) :
    Calls Try.prog 31 #[.agg #[.int .i64 al, .int .i64 ah], .agg #[.int .i64 bl, .int .i64 bh]] w fun e w' => e = .returned (.bool (goodS ⟨al, ah⟩ && goodS ⟨bl, bh⟩)) ∧ Below w.heap.size w w' := by
  obtain ⟨g1, hg1⟩ : ∃ g, goodS ⟨al, ah⟩ = g := ⟨_, rfl⟩
  have G1 := Lib.hid hg1
  clear hg1
  obtain ⟨g2, hg2⟩ : ∃ g, goodS ⟨bl, bh⟩ = g := ⟨_, rfl⟩
  have G2 := Lib.hid hg2
  clear hg2
  have N0 := two_news w (al) (ah) (bl) (bh)
  go_enter Try.func31, Try.ntmps31
  go_wp2_with fail
  unfold sO at N0
  generalize ((w.alloc (.cells #[.int .i64 al, .int .i64 ah] 24)).alloc (.cells #[.int .i64 bl, .int .i64 bh] 24)) = v0 at N0 ⊢
  have D0 := Lib.hid (Below.refl v0.heap.size v0)
  refine (goodM_any _ _ _).mono ?_
  rw [G1.out]
  rintro e v1 ⟨rfl, hb⟩
  have D1 := Lib.hid (Below.tr D0.out hb)
  clear hb
  have k0 := (SB.below N0.out.1 D1.out).c0
  have m0 := (SB.below N0.out.1 D1.out).c1
  have k1 := (SB.below N0.out.2.1 D1.out).c0
  have m1 := (SB.below N0.out.2.1 D1.out).c1
  cases g1
  · go_wp2
    go_ret
    exact ⟨ret_bool (by rw [G1.out]; rfl), (Below.tr N0.out.2.2 D1.out)⟩
  · go_wp2_with fail
    refine (goodM_any _ _ _).mono ?_
    rw [G2.out]
    rintro e v2 ⟨rfl, hb⟩
    have D2 := Lib.hid (Below.tr D1.out hb)
    clear hb
    go_wp2
    go_ret
    exact ⟨ret_bool (by rw [G1.out, G2.out]; rfl), (Below.tr N0.out.2.2 D2.out)⟩

set_option maxRecDepth 100000 in
set_option maxHeartbeats 2000000 in
theorem l9Within_any (al ah bl bh : Int) (w : World) :
    Calls Try.prog 35 #[.agg #[.int .i64 al, .int .i64 ah], .agg #[.int .i64 bl, .int .i64 bh]] w fun e w' => e = .returned (.bool (withinB ⟨al, ah⟩ ⟨bl, bh⟩)) ∧ Below w.heap.size w w' := by
  by_cases h1 : bl ≤ al
  all_goals
    go_enter Try.func35, Try.ntmps35
    go_wp2
    go_ret
    exact ⟨ret_bool (by simp [withinB]; try omega), below2 _ _ _⟩

set_option maxRecDepth 100000 in
set_option maxHeartbeats 2000000 in
theorem l9Join_any (al ah bl bh : Int) (w : World) :
    Calls Try.prog 33 #[.agg #[.int .i64 al, .int .i64 ah], .agg #[.int .i64 bl, .int .i64 bh]] w fun e w' => e = .returned (.agg #[.int .i64 (minI al bl), .int .i64 (maxI ah bh)]) ∧ Below w.heap.size w w' := by
  have N0 := three_news w (al) (ah) (bl) (bh) (0) (0)
  go_enter Try.func33, Try.ntmps33
  go_wp2_with fail
  unfold sO at N0
  generalize (((w.alloc (.cells #[.int .i64 al, .int .i64 ah] 24)).alloc (.cells #[.int .i64 bl, .int .i64 bh] 24)).alloc (.cells #[.int .i64 0, .int .i64 0] 24)) = v0 at N0 ⊢
  have D0 := Lib.hid (Below.refl v0.heap.size v0)
  have k0 := (SB.below N0.out.1 D0.out).c0
  have m0 := (SB.below N0.out.1 D0.out).c1
  have k1 := (SB.below N0.out.2.1 D0.out).c0
  have m1 := (SB.below N0.out.2.1 D0.out).c1
  have k2 := (SB.below N0.out.2.2.1 D0.out).c0
  have m2 := (SB.below N0.out.2.2.1 D0.out).c1
  have f2 := (SB.below N0.out.2.2.1 D0.out).f 0
  have j2 := (SB.below N0.out.2.2.1 D0.out).f 1
  refine wp_region_still_tail 11 (by kernel_rfl) (by kernel_rfl) ?_
  simp only [List.take_succ_cons, List.take_zero, List.drop_succ_cons, List.drop_zero]
  change wpStill _ _ (World.drew v0) _ _ _
  repeat still_step
  still_call ((l1Least_any _ _ _).mono (fun e w' h => ⟨h.1, h.2.symm⟩))
  repeat still_step
  still_call ((l1Most_any _ _ _).mono (fun e w' h => ⟨h.1, h.2.symm⟩))
  repeat still_step
  refine wpStill_nil ?_
  change wpList _ _ _ _ _ (World.drew v0)
  go_wp2
  refine shut0 (((SB.below N0.out.2.2.1 D0.out).set2).below ((Below.refl _ _).drew)) (Below.tr (belowS2 (Below.tr N0.out.2.2.2 D0.out) (by omega)) ((Below.refl _ _).drew)) ?_ ?_
  · intro c0 c1; simp [results, Try.results33, go_sem, c0, c1]
  · rfl

set_option maxRecDepth 100000 in
set_option maxHeartbeats 2000000 in
theorem joinM_any (al ah bl bh : Int) (w : World) :
    Calls Try.prog 15 #[.agg #[.int .i64 al, .int .i64 ah], .agg #[.int .i64 bl, .int .i64 bh]] w fun e w' => e = .returned (.tuple #[.agg #[.int .i64 (joinR ⟨al, ah⟩ ⟨bl, bh⟩).1.lo, .int .i64 (joinR ⟨al, ah⟩ ⟨bl, bh⟩).1.hi], .bool (joinR ⟨al, ah⟩ ⟨bl, bh⟩).2]) ∧ Below w.heap.size w w' := by
  obtain ⟨g1, hg1⟩ : ∃ g, goodS ⟨al, ah⟩ = g := ⟨_, rfl⟩
  have G1 := Lib.hid hg1
  clear hg1
  obtain ⟨g2, hg2⟩ : ∃ g, goodS ⟨bl, bh⟩ = g := ⟨_, rfl⟩
  have G2 := Lib.hid hg2
  clear hg2
  have N0 := three_news w (al) (ah) (bl) (bh) (0) (0)
  go_enter Try.func15, Try.ntmps15
  go_wp2_with fail
  unfold sO at N0
  generalize (((w.alloc (.cells #[.int .i64 al, .int .i64 ah] 24)).alloc (.cells #[.int .i64 bl, .int .i64 bh] 24)).alloc (.cells #[.int .i64 0, .int .i64 0] 24)) = v0 at N0 ⊢
  have D0 := Lib.hid (Below.refl v0.heap.size v0)
  refine (l9Two_any _ _ _ _ _).mono ?_
  rw [G1.out, G2.out]
  rintro e v1 ⟨rfl, hb⟩
  have D1 := Lib.hid (Below.tr D0.out hb)
  clear hb
  have k0 := (SB.below N0.out.1 D1.out).c0
  have m0 := (SB.below N0.out.1 D1.out).c1
  have k1 := (SB.below N0.out.2.1 D1.out).c0
  have m1 := (SB.below N0.out.2.1 D1.out).c1
  have k2 := (SB.below N0.out.2.2.1 D1.out).c0
  have m2 := (SB.below N0.out.2.2.1 D1.out).c1
  have f2 := (SB.below N0.out.2.2.1 D1.out).f 0
  have j2 := (SB.below N0.out.2.2.1 D1.out).f 1
  cases hgg : (g1 && g2)
  · have GG := Lib.hid hgg
    go_wp2
    refine shut1 (ok := false) ((SB.below N0.out.2.2.1 D1.out).set2) (belowS2 (Below.tr N0.out.2.2.2 D1.out) (by omega)) ?_ ?_
    · intro c0 c1; simp [results, Try.results15, go_sem, c0, c1]
    · simp [joinR, G1.out, G2.out, GG.out]
  · simp only [Bool.and_eq_true] at hgg
    obtain ⟨rfl, rfl⟩ := hgg
    go_wp2_with fail
    refine (l9Join_any _ _ _ _ _).mono ?_
    rintro e v2 ⟨rfl, hb⟩
    have D2 := Lib.hid (Below.tr D1.out hb)
    clear hb
    have k2 := (SB.below N0.out.2.2.1 D2.out).c0
    have m2 := (SB.below N0.out.2.2.1 D2.out).c1
    have f2 := (SB.below N0.out.2.2.1 D2.out).f 0
    have j2 := (SB.below N0.out.2.2.1 D2.out).f 1
    go_wp2
    refine shut1 (ok := true) ((SB.below N0.out.2.2.1 D2.out).set2) (belowS2 (Below.tr N0.out.2.2.2 D2.out) (by omega)) ?_ ?_
    · intro c0 c1; simp [results, Try.results15, go_sem, c0, c1]
    · simp [joinR, G1.out, G2.out, joinSt]

set_option maxRecDepth 100000 in
set_option maxHeartbeats 2000000 in
theorem withinM_any (al ah bl bh : Int) (w : World) :
    Calls Try.prog 21 #[.agg #[.int .i64 al, .int .i64 ah], .agg #[.int .i64 bl, .int .i64 bh]] w fun e w' => e = .returned (.tuple #[.bool (withinR ⟨al, ah⟩ ⟨bl, bh⟩).1, .bool (withinR ⟨al, ah⟩ ⟨bl, bh⟩).2]) ∧ Below w.heap.size w w' := by
  obtain ⟨g1, hg1⟩ : ∃ g, goodS ⟨al, ah⟩ = g := ⟨_, rfl⟩
  have G1 := Lib.hid hg1
  clear hg1
  obtain ⟨g2, hg2⟩ : ∃ g, goodS ⟨bl, bh⟩ = g := ⟨_, rfl⟩
  have G2 := Lib.hid hg2
  clear hg2
  have N0 := two_news w (al) (ah) (bl) (bh)
  go_enter Try.func21, Try.ntmps21
  go_wp2_with fail
  unfold sO at N0
  generalize ((w.alloc (.cells #[.int .i64 al, .int .i64 ah] 24)).alloc (.cells #[.int .i64 bl, .int .i64 bh] 24)) = v0 at N0 ⊢
  have D0 := Lib.hid (Below.refl v0.heap.size v0)
  refine (l9Two_any _ _ _ _ _).mono ?_
  rw [G1.out, G2.out]
  rintro e v1 ⟨rfl, hb⟩
  have D1 := Lib.hid (Below.tr D0.out hb)
  clear hb
  have k0 := (SB.below N0.out.1 D1.out).c0
  have m0 := (SB.below N0.out.1 D1.out).c1
  have k1 := (SB.below N0.out.2.1 D1.out).c0
  have m1 := (SB.below N0.out.2.1 D1.out).c1
  cases hgg : (g1 && g2)
  · have GG := Lib.hid hgg
    go_wp2
    go_ret2
    exact ⟨ret_bools (by simp [withinR, G1.out, G2.out, GG.out]) (by simp [withinR, G1.out, G2.out, GG.out]), (Below.tr N0.out.2.2 D1.out)⟩
  · simp only [Bool.and_eq_true] at hgg
    obtain ⟨rfl, rfl⟩ := hgg
    go_wp2_with fail
    refine (l9Within_any _ _ _ _ _).mono ?_
    rintro e v2 ⟨rfl, hb⟩
    have D2 := Lib.hid (Below.tr D1.out hb)
    clear hb
    go_wp2
    go_ret2
    exact ⟨ret_bools (by simp [withinR, G1.out, G2.out]) (by simp [withinR, G1.out, G2.out]), (Below.tr N0.out.2.2 D2.out)⟩

set_option maxRecDepth 100000 in
set_option maxHeartbeats 2000000 in
theorem inM_any (al ah n : Int) (w : World) :
    Calls Try.prog 25 #[.agg #[.int .i64 al, .int .i64 ah], .int .i64 n] w fun e w' => e = .returned (.tuple #[.bool (inR ⟨al, ah⟩ n).1, .bool (inR ⟨al, ah⟩ n).2]) ∧ Below w.heap.size w w' := by
  obtain ⟨g1, hg1⟩ : ∃ g, goodS ⟨al, ah⟩ = g := ⟨_, rfl⟩
  have G1 := Lib.hid hg1
  clear hg1
  obtain ⟨g2, hg2⟩ : ∃ g, isW n = g := ⟨_, rfl⟩
  have G2 := Lib.hid hg2
  clear hg2
  obtain ⟨g3, hg3⟩ : ∃ g, inSt ⟨al, ah⟩ n = g := ⟨_, rfl⟩
  have G3 := Lib.hid hg3
  clear hg3
  have N0 := one_news w (al) (ah)
  go_enter Try.func25, Try.ntmps25
  go_wp2_with fail
  unfold sO at N0
  generalize (w.alloc (.cells #[.int .i64 al, .int .i64 ah] 24)) = v0 at N0 ⊢
  have D0 := Lib.hid (Below.refl v0.heap.size v0)
  refine (goodM_any _ _ _).mono ?_
  rw [G1.out]
  rintro e v1 ⟨rfl, hb⟩
  have D1 := Lib.hid (Below.tr D0.out hb)
  clear hb
  have k0 := (SB.below N0.out.1 D1.out).c0
  have m0 := (SB.below N0.out.1 D1.out).c1
  cases g1
  · go_wp2
    go_ret2
    exact ⟨ret_bools (by simp [inR, G1.out]) (by simp [inR, G1.out]), (Below.tr N0.out.2 D1.out)⟩
  · go_wp2_with fail
    refine (l1Word_any _ _ _ G2.out).mono ?_
    rintro e v9 ⟨rfl, rfl⟩
    cases g2
    · go_wp2
      go_ret2
      exact ⟨ret_bools (by simp [inR, G1.out, G2.out]) (by simp [inR, G1.out, G2.out]), (Below.tr N0.out.2 D1.out)⟩
    · go_wp2_with fail
      refine (l1In_any _ _ _ _ g3 G3.out).mono ?_
      rintro e v9 ⟨rfl, rfl⟩
      go_wp2
      go_ret2
      exact ⟨ret_bools (by simp [inR, G1.out, G2.out, G3.out]) (by simp [inR, G1.out, G2.out]), (Below.tr N0.out.2 D1.out)⟩

set_option maxRecDepth 100000 in
set_option maxHeartbeats 2000000 in
theorem sizeM_any (al ah : Int) (w : World) :
    Calls Try.prog 28 #[.agg #[.int .i64 al, .int .i64 ah]] w fun e w' => e = .returned (.tuple #[.int .i64 (sizeR ⟨al, ah⟩).1, .bool (sizeR ⟨al, ah⟩).2]) ∧ Below w.heap.size w w' := by
  obtain ⟨g1, hg1⟩ : ∃ g, goodS ⟨al, ah⟩ = g := ⟨_, rfl⟩
  have G1 := Lib.hid hg1
  clear hg1
  have N0 := one_news w (al) (ah)
  go_enter Try.func28, Try.ntmps28
  go_wp2_with fail
  unfold sO at N0
  generalize (w.alloc (.cells #[.int .i64 al, .int .i64 ah] 24)) = v0 at N0 ⊢
  have D0 := Lib.hid (Below.refl v0.heap.size v0)
  refine (goodM_any _ _ _).mono ?_
  rw [G1.out]
  rintro e v1 ⟨rfl, hb⟩
  have D1 := Lib.hid (Below.tr D0.out hb)
  clear hb
  have k0 := (SB.below N0.out.1 D1.out).c0
  have m0 := (SB.below N0.out.1 D1.out).c1
  cases g1
  · go_wp2
    go_ret2
    exact ⟨ret_two (by simp [sizeR, G1.out]) (by simp [sizeR, G1.out]), (Below.tr N0.out.2 D1.out)⟩
  · obtain ⟨z1, z2, z3⟩ := goodS_yes G1.out
    simp only at z1 z2 z3
    go_wp2
    go_ret2
    exact ⟨ret_two (by simp [sizeR, G1.out, sizeSt]) (by simp [sizeR, G1.out]), (Below.tr N0.out.2 D1.out)⟩

end Go.Proofs.Ytkffggnajoohfaa.Op
