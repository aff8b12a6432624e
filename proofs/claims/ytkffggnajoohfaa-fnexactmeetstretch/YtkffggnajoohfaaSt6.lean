/-
  Contracts of chapter 9: the model's MeetStretch.
-/
import Derived.Test.YtkffggnajoohfaaSt4
namespace Go.Proofs.Ytkffggnajoohfaa.Op
open Go.Proofs.Ytkffggnajoohfaa
open Go.ChangeShapes Go.WideShapes Go.ChangeAt Go.RowKit

def metR (a b : St) : St × Bool := if meetB a b then (meetSt a b, true) else (⟨0, 0⟩, false)
theorem metR_yes {a b : St} (h : maxI a.lo b.lo ≤ minI a.hi b.hi) : metR a b = (meetSt a b, true) := by unfold metR; rw [meetB_yes.2 h]; rfl
theorem metR_no {a b : St} (h : minI a.hi b.hi < maxI a.lo b.lo) : metR a b = (⟨0, 0⟩, false) := by
  have hm : meetB a b = false := by simp only [meetB, decide_eq_false_iff_not]; omega
  unfold metR; rw [hm]; rfl

set_option maxRecDepth 100000 in
set_option maxHeartbeats 4000000 in
theorem l9Meet_any (al ah bl bh : Int) (w : World) :
    Calls Try.prog 32 #[.agg #[.int .i64 al, .int .i64 ah], .agg #[.int .i64 bl, .int .i64 bh]] w fun e w' => e = .returned (.tuple #[.agg #[.int .i64 (metR ⟨al, ah⟩ ⟨bl, bh⟩).1.lo, .int .i64 (metR ⟨al, ah⟩ ⟨bl, bh⟩).1.hi], .bool (metR ⟨al, ah⟩ ⟨bl, bh⟩).2]) ∧ Below w.heap.size w w' := by
  by_cases hm : maxI al bl ≤ minI ah bh
  · have HM := Lib.hid hm
    have N0 := three_news w (al) (ah) (bl) (bh) (0) (0)
    go_enter Try.func32, Try.ntmps32
    go_wp2_with fail
    unfold sO at N0
    generalize (((w.alloc (.cells #[.int .i64 al, .int .i64 ah] 24)).alloc (.cells #[.int .i64 bl, .int .i64 bh] 24)).alloc (.cells #[.int .i64 0, .int .i64 0] 24)) = v0 at N0 ⊢
    have D0 := Lib.hid (Below.refl v0.heap.size v0)
    have l2 := N0.out.2.2.1.lt
    have k0 := (SB.below N0.out.1 D0.out).c0
    have m0 := (SB.below N0.out.1 D0.out).c1
    have k1 := (SB.below N0.out.2.1 D0.out).c0
    have m1 := (SB.below N0.out.2.1 D0.out).c1
    have k2 := (SB.below N0.out.2.2.1 D0.out).c0
    have m2 := (SB.below N0.out.2.2.1 D0.out).c1
    have f2 := (SB.below N0.out.2.2.1 D0.out).f 0
    have j2 := (SB.below N0.out.2.2.1 D0.out).f 1
    refine wp_region_held_drew (S := fun W => W.cell? ⟨w.heap.size, 0, none⟩ = some (.int .i64 al) ∧ W.cell? ⟨w.heap.size, 1, none⟩ = some (.int .i64 ah) ∧ W.cell? ⟨w.heap.size + 1, 0, none⟩ = some (.int .i64 bl) ∧ W.cell? ⟨w.heap.size + 1, 1, none⟩ = some (.int .i64 bh)) (by kernel_rfl) ?_ (fun hHeld => ?_)
    · exact ⟨(SB.below N0.out.1 D0.out).c0, (SB.below N0.out.1 D0.out).c1, (SB.below N0.out.2.1 D0.out).c0, (SB.below N0.out.2.1 D0.out).c1⟩
    refine wpAnyH_take (i := 0) (v := ?_) rfl (by kernel_rfl) (by kernel_rfl) (by kernel_rfl) (fun _ _ _ h => h) (Or.inl ⟨by rfl, ?_⟩) (by assumption) ?_
    rotate_left
    · intro W hSw
      try dsimp only at hSw
      go_simp
      try with_reducible rfl
    simp only [Act.put, List.setIfInBounds_toArray]
    refine wpAnyH_take (i := 1) (v := ?_) rfl (by kernel_rfl) (by kernel_rfl) (by kernel_rfl) (fun _ _ _ h => h) (Or.inl ⟨by rfl, ?_⟩) (by assumption) ?_
    rotate_left
    · intro W hSw
      try dsimp only at hSw
      go_simp
      try with_reducible rfl
    simp only [Act.put]
    refine wpAnyH_take (i := 2) (v := ?_) rfl (by kernel_rfl) (by kernel_rfl) (by kernel_rfl) (fun _ _ _ h => h) (Or.inl ⟨by rfl, ?_⟩) (by assumption) ?_
    rotate_left
    · intro W hSw
      try dsimp only at hSw
      go_simp
      try with_reducible rfl
    simp only [Act.put]
    refine wpAnyH_take (i := 3) (v := ?_) rfl (by kernel_rfl) (by kernel_rfl) (by kernel_rfl) (fun _ _ _ h => h) (Or.inl ⟨by rfl, ?_⟩) (by assumption) ?_
    rotate_left
    · intro W hSw
      try dsimp only at hSw
      go_simp
      try with_reducible rfl
    simp only [Act.put]
    refine wpAnyH_take (i := 5) (v := ?_) rfl (by kernel_rfl) (by kernel_rfl) (by kernel_rfl) (fun _ _ _ h => h) (Or.inl ⟨by rfl, ?_⟩) (by assumption) ?_
    rotate_left
    · intro W hSw
      try dsimp only at hSw
      go_simp
      try with_reducible rfl
    simp only [Act.put]
    refine wpAnyH_take (i := 6) (v := ?_) rfl (by kernel_rfl) (by kernel_rfl) (by kernel_rfl) (fun _ _ _ h => h) (Or.inl ⟨by rfl, ?_⟩) (by assumption) ?_
    rotate_left
    · intro W hSw
      try dsimp only at hSw
      go_simp
      try with_reducible rfl
    simp only [Act.put]
    refine wpAnyH_take (i := 7) (v := ?_) rfl (by kernel_rfl) (by kernel_rfl) (by kernel_rfl) (fun _ _ _ h => h) (Or.inl ⟨by rfl, ?_⟩) (by assumption) ?_
    rotate_left
    · intro W hSw
      try dsimp only at hSw
      go_simp
      try with_reducible rfl
    simp only [Act.put]
    refine wpAnyH_take (i := 8) (v := ?_) rfl (by kernel_rfl) (by kernel_rfl) (by kernel_rfl) (fun _ _ _ h => h) (Or.inl ⟨by rfl, ?_⟩) (by assumption) ?_
    rotate_left
    · intro W hSw
      try dsimp only at hSw
      go_simp
      try with_reducible rfl
    simp only [Act.put]
    refine wpAnyH_ready (rs := [4, 11]) (by kernel_rfl) (by simp) ?_
    refine AllReadyH.cons rfl (fun K hK => ?_) (AllReadyH.cons rfl (fun K hK => ?_) (AllReadyH.nil))
    · skip
      go_simp
      refine (l1Most_any _ _ _).mono ?_
      rintro e v9 ⟨rfl, rfl⟩
      refine hK.out _ _ (by assumption) (fun hHeld2 => ?_)
      clear hK K
      try simp only [Act.put, List.setIfInBounds_toArray, List.set_cons_zero, List.set_cons_succ]
      refine wpAnyH_ready (rs := [9, 11]) (by kernel_rfl) (by simp) ?_
      refine AllReadyH.cons rfl (fun K hK => ?_) (AllReadyH.cons rfl (fun K hK => ?_) (AllReadyH.nil))
      · skip
        go_simp
        refine (l1Least_any _ _ _).mono ?_
        rintro e v9 ⟨rfl, rfl⟩
        refine hK.out _ _ (by assumption) (fun hHeld2 => ?_)
        clear hK K
        try simp only [Act.put, List.setIfInBounds_toArray, List.set_cons_zero, List.set_cons_succ]
        refine wpAnyH_take (i := 10) (v := ?_) rfl (by kernel_rfl) (by kernel_rfl) (by kernel_rfl) (fun _ _ _ h => h) (Or.inl ⟨by rfl, ?_⟩) (by assumption) ?_
        rotate_left
        · intro W hSw
          try dsimp only at hSw
          go_simp
          try with_reducible rfl
        simp only [Act.put, List.setIfInBounds_toArray]
        refine wpAnyH_ready (rs := [11]) (by kernel_rfl) (by simp) ?_
        refine AllReadyH.cons rfl (fun K hK => ?_) AllReadyH.nil
        go_simp
        refine hK.out _ _ ⟨(SB.below (SB.below N0.out.1 D0.out) (below1 _ _)).c0, (SB.below (SB.below N0.out.1 D0.out) (below1 _ _)).c1, (SB.below (SB.below N0.out.2.1 D0.out) (below1 _ _)).c0, (SB.below (SB.below N0.out.2.1 D0.out) (below1 _ _)).c1⟩ (fun hHeld2 => ?_)
        clear hK K
        try simp only [Act.put, List.setIfInBounds_toArray, List.set_cons_zero, List.set_cons_succ]
        refine wpAnyH_ready (rs := [12]) (by kernel_rfl) (by simp) ?_
        refine AllReadyH.cons rfl (fun K hK => ?_) (AllReadyH.nil)
        go_simp
        refine hK.out _ _ (⟨(SB.below (SB.below N0.out.1 D0.out) (below1 _ _)).c0, (SB.below (SB.below N0.out.1 D0.out) (below1 _ _)).c1, (SB.below (SB.below N0.out.2.1 D0.out) (below1 _ _)).c0, (SB.below (SB.below N0.out.2.1 D0.out) (below1 _ _)).c1⟩) (fun hHeld2 => ?_)
        clear hK K
        try simp only [Act.put, List.setIfInBounds_toArray, List.set_cons_zero, List.set_cons_succ]
        refine wpAnyH_done (by kernel_rfl) ?_ _
        go_wp2
        refine shut1 (ok := true) (((SB.below N0.out.2.2.1 D0.out).set2).below ((below1 _ _).drew)) (Below.tr (belowS2 (Below.tr N0.out.2.2.2 D0.out) (by omega)) ((below1 _ _).drew)) ?_ ?_
        · intro c0 c1; simp [results, Try.results32, go_sem, c0, c1]
        · rw [metR_yes HM.out]; rfl
      · skip
        go_simp
        refine hK.out _ _ ⟨(SB.below (SB.below N0.out.1 D0.out) (below1 _ _)).c0, (SB.below (SB.below N0.out.1 D0.out) (below1 _ _)).c1, (SB.below (SB.below N0.out.2.1 D0.out) (below1 _ _)).c0, (SB.below (SB.below N0.out.2.1 D0.out) (below1 _ _)).c1⟩ (fun hHeld2 => ?_)
        clear hK K
        try simp only [Act.put, List.setIfInBounds_toArray, List.set_cons_zero, List.set_cons_succ]
        refine wpAnyH_ready (rs := [9]) (by kernel_rfl) (by simp) ?_
        refine AllReadyH.cons rfl (fun K hK => ?_) AllReadyH.nil
        go_simp
        refine (l1Least_any _ _ _).mono ?_
        rintro e v9 ⟨rfl, rfl⟩
        refine hK.out _ _ (by assumption) (fun hHeld2 => ?_)
        clear hK K
        try simp only [Act.put, List.setIfInBounds_toArray, List.set_cons_zero, List.set_cons_succ]
        refine wpAnyH_take (i := 10) (v := ?_) rfl (by kernel_rfl) (by kernel_rfl) (by kernel_rfl) (fun _ _ _ h => h) (Or.inl ⟨by rfl, ?_⟩) (by assumption) ?_
        rotate_left
        · intro W hSw
          try dsimp only at hSw
          go_simp
          try with_reducible rfl
        simp only [Act.put, List.setIfInBounds_toArray]
        refine wpAnyH_ready (rs := [12]) (by kernel_rfl) (by simp) ?_
        refine AllReadyH.cons rfl (fun K hK => ?_) (AllReadyH.nil)
        go_simp
        refine hK.out _ _ (⟨(SB.below (SB.below N0.out.1 D0.out) (below1 _ _)).c0, (SB.below (SB.below N0.out.1 D0.out) (below1 _ _)).c1, (SB.below (SB.below N0.out.2.1 D0.out) (below1 _ _)).c0, (SB.below (SB.below N0.out.2.1 D0.out) (below1 _ _)).c1⟩) (fun hHeld2 => ?_)
        clear hK K
        try simp only [Act.put, List.setIfInBounds_toArray, List.set_cons_zero, List.set_cons_succ]
        refine wpAnyH_done (by kernel_rfl) ?_ _
        go_wp2
        refine shut1 (ok := true) (((SB.below N0.out.2.2.1 D0.out).set2).below ((below1 _ _).drew)) (Below.tr (belowS2 (Below.tr N0.out.2.2.2 D0.out) (by omega)) ((below1 _ _).drew)) ?_ ?_
        · intro c0 c1; simp [results, Try.results32, go_sem, c0, c1]
        · rw [metR_yes HM.out]; rfl
    · skip
      go_simp
      refine hK.out _ _ ⟨(SB.below (SB.below N0.out.1 D0.out) (below1 _ _)).c0, (SB.below (SB.below N0.out.1 D0.out) (below1 _ _)).c1, (SB.below (SB.below N0.out.2.1 D0.out) (below1 _ _)).c0, (SB.below (SB.below N0.out.2.1 D0.out) (below1 _ _)).c1⟩ (fun hHeld2 => ?_)
      clear hK K
      try simp only [Act.put, List.setIfInBounds_toArray, List.set_cons_zero, List.set_cons_succ]
      refine wpAnyH_ready (rs := [4]) (by kernel_rfl) (by simp) ?_
      refine AllReadyH.cons rfl (fun K hK => ?_) AllReadyH.nil
      go_simp
      refine (l1Most_any _ _ _).mono ?_
      rintro e v9 ⟨rfl, rfl⟩
      refine hK.out _ _ (by assumption) (fun hHeld2 => ?_)
      clear hK K
      try simp only [Act.put, List.setIfInBounds_toArray, List.set_cons_zero, List.set_cons_succ]
      refine wpAnyH_ready (rs := [9]) (by kernel_rfl) (by simp) ?_
      refine AllReadyH.cons rfl (fun K hK => ?_) AllReadyH.nil
      go_simp
      refine (l1Least_any _ _ _).mono ?_
      rintro e v9 ⟨rfl, rfl⟩
      refine hK.out _ _ (by assumption) (fun hHeld2 => ?_)
      clear hK K
      try simp only [Act.put, List.setIfInBounds_toArray, List.set_cons_zero, List.set_cons_succ]
      refine wpAnyH_take (i := 10) (v := ?_) rfl (by kernel_rfl) (by kernel_rfl) (by kernel_rfl) (fun _ _ _ h => h) (Or.inl ⟨by rfl, ?_⟩) (by assumption) ?_
      rotate_left
      · intro W hSw
        try dsimp only at hSw
        go_simp
        try with_reducible rfl
      simp only [Act.put, List.setIfInBounds_toArray]
      refine wpAnyH_ready (rs := [12]) (by kernel_rfl) (by simp) ?_
      refine AllReadyH.cons rfl (fun K hK => ?_) (AllReadyH.nil)
      go_simp
      refine hK.out _ _ (⟨(SB.below (SB.below N0.out.1 D0.out) (below1 _ _)).c0, (SB.below (SB.below N0.out.1 D0.out) (below1 _ _)).c1, (SB.below (SB.below N0.out.2.1 D0.out) (below1 _ _)).c0, (SB.below (SB.below N0.out.2.1 D0.out) (below1 _ _)).c1⟩) (fun hHeld2 => ?_)
      clear hK K
      try simp only [Act.put, List.setIfInBounds_toArray, List.set_cons_zero, List.set_cons_succ]
      refine wpAnyH_done (by kernel_rfl) ?_ _
      go_wp2
      refine shut1 (ok := true) (((SB.below N0.out.2.2.1 D0.out).set2).below ((below1 _ _).drew)) (Below.tr (belowS2 (Below.tr N0.out.2.2.2 D0.out) (by omega)) ((below1 _ _).drew)) ?_ ?_
      · intro c0 c1; simp [results, Try.results32, go_sem, c0, c1]
      · rw [metR_yes HM.out]; rfl
  · have HM := Lib.hid (show minI ah bh < maxI al bl by omega)
    have N0 := three_news w (al) (ah) (bl) (bh) (0) (0)
    go_enter Try.func32, Try.ntmps32
    go_wp2_with fail
    unfold sO at N0
    generalize (((w.alloc (.cells #[.int .i64 al, .int .i64 ah] 24)).alloc (.cells #[.int .i64 bl, .int .i64 bh] 24)).alloc (.cells #[.int .i64 0, .int .i64 0] 24)) = v0 at N0 ⊢
    have D0 := Lib.hid (Below.refl v0.heap.size v0)
    have l2 := N0.out.2.2.1.lt
    have k0 := (SB.below N0.out.1 D0.out).c0
    have m0 := (SB.below N0.out.1 D0.out).c1
    have k1 := (SB.below N0.out.2.1 D0.out).c0
    have m1 := (SB.below N0.out.2.1 D0.out).c1
    have k2 := (SB.below N0.out.2.2.1 D0.out).c0
    have m2 := (SB.below N0.out.2.2.1 D0.out).c1
    have f2 := (SB.below N0.out.2.2.1 D0.out).f 0
    have j2 := (SB.below N0.out.2.2.1 D0.out).f 1
    refine wp_region_held_drew (S := fun W => W.cell? ⟨w.heap.size, 0, none⟩ = some (.int .i64 al) ∧ W.cell? ⟨w.heap.size, 1, none⟩ = some (.int .i64 ah) ∧ W.cell? ⟨w.heap.size + 1, 0, none⟩ = some (.int .i64 bl) ∧ W.cell? ⟨w.heap.size + 1, 1, none⟩ = some (.int .i64 bh)) (by kernel_rfl) ?_ (fun hHeld => ?_)
    · exact ⟨(SB.below N0.out.1 D0.out).c0, (SB.below N0.out.1 D0.out).c1, (SB.below N0.out.2.1 D0.out).c0, (SB.below N0.out.2.1 D0.out).c1⟩
    refine wpAnyH_take (i := 0) (v := ?_) rfl (by kernel_rfl) (by kernel_rfl) (by kernel_rfl) (fun _ _ _ h => h) (Or.inl ⟨by rfl, ?_⟩) (by assumption) ?_
    rotate_left
    · intro W hSw
      try dsimp only at hSw
      go_simp
      try with_reducible rfl
    simp only [Act.put, List.setIfInBounds_toArray]
    refine wpAnyH_take (i := 1) (v := ?_) rfl (by kernel_rfl) (by kernel_rfl) (by kernel_rfl) (fun _ _ _ h => h) (Or.inl ⟨by rfl, ?_⟩) (by assumption) ?_
    rotate_left
    · intro W hSw
      try dsimp only at hSw
      go_simp
      try with_reducible rfl
    simp only [Act.put]
    refine wpAnyH_take (i := 2) (v := ?_) rfl (by kernel_rfl) (by kernel_rfl) (by kernel_rfl) (fun _ _ _ h => h) (Or.inl ⟨by rfl, ?_⟩) (by assumption) ?_
    rotate_left
    · intro W hSw
      try dsimp only at hSw
      go_simp
      try with_reducible rfl
    simp only [Act.put]
    refine wpAnyH_take (i := 3) (v := ?_) rfl (by kernel_rfl) (by kernel_rfl) (by kernel_rfl) (fun _ _ _ h => h) (Or.inl ⟨by rfl, ?_⟩) (by assumption) ?_
    rotate_left
    · intro W hSw
      try dsimp only at hSw
      go_simp
      try with_reducible rfl
    simp only [Act.put]
    refine wpAnyH_take (i := 5) (v := ?_) rfl (by kernel_rfl) (by kernel_rfl) (by kernel_rfl) (fun _ _ _ h => h) (Or.inl ⟨by rfl, ?_⟩) (by assumption) ?_
    rotate_left
    · intro W hSw
      try dsimp only at hSw
      go_simp
      try with_reducible rfl
    simp only [Act.put]
    refine wpAnyH_take (i := 6) (v := ?_) rfl (by kernel_rfl) (by kernel_rfl) (by kernel_rfl) (fun _ _ _ h => h) (Or.inl ⟨by rfl, ?_⟩) (by assumption) ?_
    rotate_left
    · intro W hSw
      try dsimp only at hSw
      go_simp
      try with_reducible rfl
    simp only [Act.put]
    refine wpAnyH_take (i := 7) (v := ?_) rfl (by kernel_rfl) (by kernel_rfl) (by kernel_rfl) (fun _ _ _ h => h) (Or.inl ⟨by rfl, ?_⟩) (by assumption) ?_
    rotate_left
    · intro W hSw
      try dsimp only at hSw
      go_simp
      try with_reducible rfl
    simp only [Act.put]
    refine wpAnyH_take (i := 8) (v := ?_) rfl (by kernel_rfl) (by kernel_rfl) (by kernel_rfl) (fun _ _ _ h => h) (Or.inl ⟨by rfl, ?_⟩) (by assumption) ?_
    rotate_left
    · intro W hSw
      try dsimp only at hSw
      go_simp
      try with_reducible rfl
    simp only [Act.put]
    refine wpAnyH_ready (rs := [4, 11]) (by kernel_rfl) (by simp) ?_
    refine AllReadyH.cons rfl (fun K hK => ?_) (AllReadyH.cons rfl (fun K hK => ?_) (AllReadyH.nil))
    · skip
      go_simp
      refine (l1Most_any _ _ _).mono ?_
      rintro e v9 ⟨rfl, rfl⟩
      refine hK.out _ _ (by assumption) (fun hHeld2 => ?_)
      clear hK K
      try simp only [Act.put, List.setIfInBounds_toArray, List.set_cons_zero, List.set_cons_succ]
      refine wpAnyH_ready (rs := [9, 11]) (by kernel_rfl) (by simp) ?_
      refine AllReadyH.cons rfl (fun K hK => ?_) (AllReadyH.cons rfl (fun K hK => ?_) (AllReadyH.nil))
      · skip
        go_simp
        refine (l1Least_any _ _ _).mono ?_
        rintro e v9 ⟨rfl, rfl⟩
        refine hK.out _ _ (by assumption) (fun hHeld2 => ?_)
        clear hK K
        try simp only [Act.put, List.setIfInBounds_toArray, List.set_cons_zero, List.set_cons_succ]
        refine wpAnyH_take (i := 10) (v := ?_) rfl (by kernel_rfl) (by kernel_rfl) (by kernel_rfl) (fun _ _ _ h => h) (Or.inl ⟨by rfl, ?_⟩) (by assumption) ?_
        rotate_left
        · intro W hSw
          try dsimp only at hSw
          go_simp
          try with_reducible rfl
        simp only [Act.put, List.setIfInBounds_toArray]
        refine wpAnyH_ready (rs := [11]) (by kernel_rfl) (by simp) ?_
        refine AllReadyH.cons rfl (fun K hK => ?_) AllReadyH.nil
        go_simp
        refine hK.out _ _ ⟨(SB.below (SB.below N0.out.1 D0.out) (below1 _ _)).c0, (SB.below (SB.below N0.out.1 D0.out) (below1 _ _)).c1, (SB.below (SB.below N0.out.2.1 D0.out) (below1 _ _)).c0, (SB.below (SB.below N0.out.2.1 D0.out) (below1 _ _)).c1⟩ (fun hHeld2 => ?_)
        clear hK K
        try simp only [Act.put, List.setIfInBounds_toArray, List.set_cons_zero, List.set_cons_succ]
        refine wpAnyH_ready (rs := [12]) (by kernel_rfl) (by simp) ?_
        refine AllReadyH.cons rfl (fun K hK => ?_) (AllReadyH.nil)
        go_simp
        refine hK.out _ _ (⟨(SB.below (SB.below N0.out.1 D0.out) (below1 _ _)).c0, (SB.below (SB.below N0.out.1 D0.out) (below1 _ _)).c1, (SB.below (SB.below N0.out.2.1 D0.out) (below1 _ _)).c0, (SB.below (SB.below N0.out.2.1 D0.out) (below1 _ _)).c1⟩) (fun hHeld2 => ?_)
        clear hK K
        try simp only [Act.put, List.setIfInBounds_toArray, List.set_cons_zero, List.set_cons_succ]
        refine wpAnyH_done (by kernel_rfl) ?_ _
        go_wp2
        refine shut1 (ok := false) (((SB.below N0.out.2.2.1 D0.out).set2).below ((below1 _ _).drew)) (Below.tr (belowS2 (Below.tr N0.out.2.2.2 D0.out) (by omega)) ((below1 _ _).drew)) ?_ ?_
        · intro c0 c1; simp [results, Try.results32, go_sem, c0, c1]
        · rw [metR_no (a := ⟨al, ah⟩) (b := ⟨bl, bh⟩) HM.out]
      · skip
        go_simp
        refine hK.out _ _ ⟨(SB.below (SB.below N0.out.1 D0.out) (below1 _ _)).c0, (SB.below (SB.below N0.out.1 D0.out) (below1 _ _)).c1, (SB.below (SB.below N0.out.2.1 D0.out) (below1 _ _)).c0, (SB.below (SB.below N0.out.2.1 D0.out) (below1 _ _)).c1⟩ (fun hHeld2 => ?_)
        clear hK K
        try simp only [Act.put, List.setIfInBounds_toArray, List.set_cons_zero, List.set_cons_succ]
        refine wpAnyH_ready (rs := [9]) (by kernel_rfl) (by simp) ?_
        refine AllReadyH.cons rfl (fun K hK => ?_) AllReadyH.nil
        go_simp
        refine (l1Least_any _ _ _).mono ?_
        rintro e v9 ⟨rfl, rfl⟩
        refine hK.out _ _ (by assumption) (fun hHeld2 => ?_)
        clear hK K
        try simp only [Act.put, List.setIfInBounds_toArray, List.set_cons_zero, List.set_cons_succ]
        refine wpAnyH_take (i := 10) (v := ?_) rfl (by kernel_rfl) (by kernel_rfl) (by kernel_rfl) (fun _ _ _ h => h) (Or.inl ⟨by rfl, ?_⟩) (by assumption) ?_
        rotate_left
        · intro W hSw
          try dsimp only at hSw
          go_simp
          try with_reducible rfl
        simp only [Act.put, List.setIfInBounds_toArray]
        refine wpAnyH_ready (rs := [12]) (by kernel_rfl) (by simp) ?_
        refine AllReadyH.cons rfl (fun K hK => ?_) (AllReadyH.nil)
        go_simp
        refine hK.out _ _ (⟨(SB.below (SB.below N0.out.1 D0.out) (below1 _ _)).c0, (SB.below (SB.below N0.out.1 D0.out) (below1 _ _)).c1, (SB.below (SB.below N0.out.2.1 D0.out) (below1 _ _)).c0, (SB.below (SB.below N0.out.2.1 D0.out) (below1 _ _)).c1⟩) (fun hHeld2 => ?_)
        clear hK K
        try simp only [Act.put, List.setIfInBounds_toArray, List.set_cons_zero, List.set_cons_succ]
        refine wpAnyH_done (by kernel_rfl) ?_ _
        go_wp2
        refine shut1 (ok := false) (((SB.below N0.out.2.2.1 D0.out).set2).below ((below1 _ _).drew)) (Below.tr (belowS2 (Below.tr N0.out.2.2.2 D0.out) (by omega)) ((below1 _ _).drew)) ?_ ?_
        · intro c0 c1; simp [results, Try.results32, go_sem, c0, c1]
        · rw [metR_no (a := ⟨al, ah⟩) (b := ⟨bl, bh⟩) HM.out]
    · skip
      go_simp
      refine hK.out _ _ ⟨(SB.below (SB.below N0.out.1 D0.out) (below1 _ _)).c0, (SB.below (SB.below N0.out.1 D0.out) (below1 _ _)).c1, (SB.below (SB.below N0.out.2.1 D0.out) (below1 _ _)).c0, (SB.below (SB.below N0.out.2.1 D0.out) (below1 _ _)).c1⟩ (fun hHeld2 => ?_)
      clear hK K
      try simp only [Act.put, List.setIfInBounds_toArray, List.set_cons_zero, List.set_cons_succ]
      refine wpAnyH_ready (rs := [4]) (by kernel_rfl) (by simp) ?_
      refine AllReadyH.cons rfl (fun K hK => ?_) AllReadyH.nil
      go_simp
      refine (l1Most_any _ _ _).mono ?_
      rintro e v9 ⟨rfl, rfl⟩
      refine hK.out _ _ (by assumption) (fun hHeld2 => ?_)
      clear hK K
      try simp only [Act.put, List.setIfInBounds_toArray, List.set_cons_zero, List.set_cons_succ]
      refine wpAnyH_ready (rs := [9]) (by kernel_rfl) (by simp) ?_
      refine AllReadyH.cons rfl (fun K hK => ?_) AllReadyH.nil
      go_simp
      refine (l1Least_any _ _ _).mono ?_
      rintro e v9 ⟨rfl, rfl⟩
      refine hK.out _ _ (by assumption) (fun hHeld2 => ?_)
      clear hK K
      try simp only [Act.put, List.setIfInBounds_toArray, List.set_cons_zero, List.set_cons_succ]
      refine wpAnyH_take (i := 10) (v := ?_) rfl (by kernel_rfl) (by kernel_rfl) (by kernel_rfl) (fun _ _ _ h => h) (Or.inl ⟨by rfl, ?_⟩) (by assumption) ?_
      rotate_left
      · intro W hSw
        try dsimp only at hSw
        go_simp
        try with_reducible rfl
      simp only [Act.put, List.setIfInBounds_toArray]
      refine wpAnyH_ready (rs := [12]) (by kernel_rfl) (by simp) ?_
      refine AllReadyH.cons rfl (fun K hK => ?_) (AllReadyH.nil)
      go_simp
      refine hK.out _ _ (⟨(SB.below (SB.below N0.out.1 D0.out) (below1 _ _)).c0, (SB.below (SB.below N0.out.1 D0.out) (below1 _ _)).c1, (SB.below (SB.below N0.out.2.1 D0.out) (below1 _ _)).c0, (SB.below (SB.below N0.out.2.1 D0.out) (below1 _ _)).c1⟩) (fun hHeld2 => ?_)
      clear hK K
      try simp only [Act.put, List.setIfInBounds_toArray, List.set_cons_zero, List.set_cons_succ]
      refine wpAnyH_done (by kernel_rfl) ?_ _
      go_wp2
      refine shut1 (ok := false) (((SB.below N0.out.2.2.1 D0.out).set2).below ((below1 _ _).drew)) (Below.tr (belowS2 (Below.tr N0.out.2.2.2 D0.out) (by omega)) ((below1 _ _).drew)) ?_ ?_
      · intro c0 c1; simp [results, Try.results32, go_sem, c0, c1]
      · rw [metR_no (a := ⟨al, ah⟩) (b := ⟨bl, bh⟩) HM.out]

set_option maxRecDepth 100000 in
set_option maxHeartbeats 2000000 in
theorem meetM_any (al ah bl bh : Int) (w : World) :
    Calls Try.prog 13 #[.agg #[.int .i64 al, .int .i64 ah], .agg #[.int .i64 bl, .int .i64 bh]] w fun e w' => e = .returned (.tuple #[.agg #[.int .i64 (meetR ⟨al, ah⟩ ⟨bl, bh⟩).1.lo, .int .i64 (meetR ⟨al, ah⟩ ⟨bl, bh⟩).1.hi], .bool (meetR ⟨al, ah⟩ ⟨bl, bh⟩).2]) ∧ Below w.heap.size w w' := by
  obtain ⟨g1, hg1⟩ : ∃ g, goodS ⟨al, ah⟩ = g := ⟨_, rfl⟩
  have G1 := Lib.hid hg1
  clear hg1
  obtain ⟨g2, hg2⟩ : ∃ g, goodS ⟨bl, bh⟩ = g := ⟨_, rfl⟩
  have G2 := Lib.hid hg2
  clear hg2
  obtain ⟨Q, hQ⟩ : ∃ q, metR ⟨al, ah⟩ ⟨bl, bh⟩ = q := ⟨_, rfl⟩
  obtain ⟨⟨x, y⟩, ok⟩ := Q
  have HL := Lib.hid hQ
  clear hQ
  have N0 := three_news w (al) (ah) (bl) (bh) (0) (0)
  go_enter Try.func13, Try.ntmps13
  go_wp2_with fail
  unfold sO at N0
  generalize (((w.alloc (.cells #[.int .i64 al, .int .i64 ah] 24)).alloc (.cells #[.int .i64 bl, .int .i64 bh] 24)).alloc (.cells #[.int .i64 0, .int .i64 0] 24)) = v0 at N0 ⊢
  have D0 := Lib.hid (Below.refl v0.heap.size v0)
  refine (l9Two_any _ _ _ _ _).mono ?_
  rw [G1.out, G2.out]
  rintro e v1 ⟨rfl, hb⟩
  have D1 := Lib.hid (Below.tr D0.out hb)
  clear hb
  have k0 := (SB.below N0.out.1 D1.out).c0
  have m0 := (SB.below N0.out.1 D1.out).c1
  have k1 := (SB.below N0.out.2.1 D1.out).c0
  have m1 := (SB.below N0.out.2.1 D1.out).c1
  have k2 := (SB.below N0.out.2.2.1 D1.out).c0
  have m2 := (SB.below N0.out.2.2.1 D1.out).c1
  have f2 := (SB.below N0.out.2.2.1 D1.out).f 0
  have j2 := (SB.below N0.out.2.2.1 D1.out).f 1
  cases hgg : (g1 && g2)
  · have GG := Lib.hid hgg
    go_wp2
    refine shut1 (ok := false) ((SB.below N0.out.2.2.1 D1.out).set2) (belowS2 (Below.tr N0.out.2.2.2 D1.out) (by omega)) ?_ ?_
    · intro c0 c1; simp [results, Try.results13, go_sem, c0, c1]
    · simp [meetR, G1.out, G2.out, GG.out]
  · simp only [Bool.and_eq_true] at hgg
    obtain ⟨rfl, rfl⟩ := hgg
    go_wp2_with fail
    refine (l9Meet_any _ _ _ _ _).mono ?_
    rw [HL.out]
    rintro e v2 ⟨rfl, hb⟩
    have D2 := Lib.hid (Below.tr D1.out hb)
    clear hb
    have k2 := (SB.below N0.out.2.2.1 D2.out).c0
    have m2 := (SB.below N0.out.2.2.1 D2.out).c1
    have f2 := (SB.below N0.out.2.2.1 D2.out).f 0
    have j2 := (SB.below N0.out.2.2.1 D2.out).f 1
    go_wp2
    refine shut1 (ok := ok) ((SB.below N0.out.2.2.1 D2.out).set2) (belowS2 (Below.tr N0.out.2.2.2 D2.out) (by omega)) ?_ ?_
    · intro c0 c1; simp [results, Try.results13, go_sem, c0, c1]
    · have e := HL.out; unfold metR at e; unfold meetR; rw [G1.out, G2.out]; simp only [Bool.true_and]; rw [e]

end Go.Proofs.Ytkffggnajoohfaa.Op
