/-
  Contracts of chapter 9: shifts of intervals.
-/
import Derived.Test.YtkffggnajoohfaaDoorSt8
namespace Go.Proofs.YtkffggnajoohfaaDoor.Op
open Go.Proofs.YtkffggnajoohfaaDoor
open Go.ChangeShapes Go.WideShapes Go.ChangeAt Go.RowKit

theorem PowTab.bel {w w' : World} (h : PowTab w) (hb : Below w.heap.size w w') : PowTab w' := fun i hi =>
  (hb.cell (p := ⟨0, i, none⟩) (World.block_lt_of_cell? w _ (h i hi))).trans (h i hi)

set_option maxRecDepth 100000 in
set_option maxHeartbeats 4000000 in
theorem shlI_any (al ah bl bh : Int) (w : World) (a1 : 0 ≤ al) (a2 : al ≤ ah) (a3 : ah < 65536) (b1 : 0 ≤ bl) (b2 : bl ≤ bh) (b3 : bh < 65536) (HT : Hid (PowTab w)) :
    Calls Tryd.prog 61 #[.agg #[.int .i64 al, .int .i64 ah], .agg #[.int .i64 bl, .int .i64 bh]] w fun e w' => e = .returned (.agg #[.int .i64 (shlS ⟨al, ah⟩ ⟨bl, bh⟩).lo, .int .i64 (shlS ⟨al, ah⟩ ⟨bl, bh⟩).hi]) ∧ Below w.heap.size w w' := by
  have s1 := sf_le bl
  have s2 := mul_sf al bl a1 (by omega)
  have s3 := mul_sf ah bl (by omega) a3
  have s4 : ¬ (sf bl = 0) := by omega
  by_cases hb : bl = bh
  · skip
    have E : Hid (shlS ⟨al, ah⟩ ⟨bl, bh⟩ = wrapS (al * sf bl) (ah * sf bl)) := Lib.hid (by unfold shlS; exact if_pos hb)
    have q0 : ∀ W : World, (binOp .neq 46 (.agg #[.int .i64 bl, .int .i64 bh]) (.agg #[.int .i64 bl, .int .i64 bl])).run Tryd.prog W = .ok (.bool false) W := fun W => by rw [neq_st]; simp [hb]
    clear hb
    have N0 := three_news w (al) (ah) (bl) (bh) (0) (0)
    go_enter Tryd.func61, Tryd.ntmps61
    go_wp2_with fail
    unfold sO at N0
    generalize (((w.alloc (.cells #[.int .i64 al, .int .i64 ah] 46)).alloc (.cells #[.int .i64 bl, .int .i64 bh] 46)).alloc (.cells #[.int .i64 0, .int .i64 0] 46)) = v0 at N0 ⊢
    have D0 := Lib.hid (Below.refl v0.heap.size v0)
    refine wp_region_held_drew (S := fun W => W.cell? ⟨w.heap.size, 0, none⟩ = some (.int .i64 al) ∧ W.cell? ⟨w.heap.size, 1, none⟩ = some (.int .i64 ah) ∧ W.cell? ⟨w.heap.size + 1, 0, none⟩ = some (.int .i64 bl) ∧ W.cell? ⟨w.heap.size + 1, 1, none⟩ = some (.int .i64 bh)) (by kernel_rfl) ?_ (fun hHeld => ?_)
    · exact ⟨(SB.below N0.out.1 D0.out).c0, (SB.below N0.out.1 D0.out).c1, (SB.below N0.out.2.1 D0.out).c0, (SB.below N0.out.2.1 D0.out).c1⟩
    refine wpAnyH_take (i := 0) (v := ?_) rfl (by kernel_rfl) (by kernel_rfl) (by kernel_rfl) (fun _ _ _ h => h) (Or.inl ⟨by rfl, ?_⟩) (by assumption) ?_
    rotate_left
    · intro W hSw
      try dsimp only at hSw
      go_simp
      try with_reducible rfl
    refine wpAnyH_take (i := 1) (v := ?_) rfl (by kernel_rfl) (by kernel_rfl) (by kernel_rfl) (fun _ _ _ h => h) (Or.inl ⟨by rfl, ?_⟩) (by assumption) ?_
    rotate_left
    · intro W hSw
      try dsimp only at hSw
      go_simp
      try with_reducible rfl
    refine wpAnyH_take (i := 2) (v := ?_) rfl (by kernel_rfl) (by kernel_rfl) (by kernel_rfl) (fun _ _ _ h => h) (Or.inl ⟨by rfl, ?_⟩) (by assumption) ?_
    rotate_left
    · intro W hSw
      try dsimp only at hSw
      go_simp
      try with_reducible rfl
    refine wpAnyH_ready (rs := [3]) (by kernel_rfl) (by simp) ?_
    refine AllReadyH.cons rfl (fun K hK => ?_) AllReadyH.nil
    go_simp
    refine (onlyWord_any _ _).mono ?_
    rintro e v1 ⟨rfl, hb⟩
    have V1 := Lib.hid (Below.tr (Below.drew D0.out) hb)
    have V1z := V1.out.size
    clear hb
    refine hK.out _ _ ⟨(SB.below N0.out.1 V1.out).c0, (SB.below N0.out.1 V1.out).c1, (SB.below N0.out.2.1 V1.out).c0, (SB.below N0.out.2.1 V1.out).c1⟩ (fun hHeld2 => ?_)
    clear hK K
    refine wpAnyH_take (i := 4) (v := ?_) rfl (by kernel_rfl) (by kernel_rfl) (by kernel_rfl) (fun _ _ _ h => h) (Or.inl ⟨by rfl, ?_⟩) (by assumption) ?_
    rotate_left
    · intro W hSw
      try dsimp only at hSw
      go_simp
      try with_reducible rfl
    refine wpAnyH_done (by kernel_rfl) ?_ _
    go_wp2_with fail
    have D1 := V1
    have k0 := (SB.below N0.out.1 D1.out).c0
    have m0 := (SB.below N0.out.1 D1.out).c1
    have k1 := (SB.below N0.out.2.1 D1.out).c0
    have m1 := (SB.below N0.out.2.1 D1.out).c1
    have k2 := (SB.below N0.out.2.2.1 D1.out).c0
    have m2 := (SB.below N0.out.2.2.1 D1.out).c1
    have f2 := (SB.below N0.out.2.2.1 D1.out).f 0
    have j2 := (SB.below N0.out.2.2.1 D1.out).f 1
    refine (shiftFactor_any _ _ b1 (by omega) (Lib.hid (HT.out.bel (Below.tr N0.out.2.2.2 D1.out)))).mono ?_
    rintro e v9 ⟨rfl, rfl⟩
    go_wp2_with fail
    refine (wrapI_any (al * sf bl) (ah * sf bl) _ (by omega) (by omega) (by omega) (by omega)).mono ?_
    rintro e v2 ⟨rfl, hb⟩
    have D2 := Lib.hid (Below.tr D1.out hb)
    clear hb
    have k2 := (SB.below N0.out.2.2.1 D2.out).c0
    have m2 := (SB.below N0.out.2.2.1 D2.out).c1
    have f2 := (SB.below N0.out.2.2.1 D2.out).f 0
    have j2 := (SB.below N0.out.2.2.1 D2.out).f 1
    go_wp2
    refine shut0 ((SB.below N0.out.2.2.1 D2.out).set2) (belowS2 (Below.tr N0.out.2.2.2 D2.out) (by omega)) ?_ ?_
    · intro c0 c1; simp [results, Tryd.results61, go_sem, c0, c1]
    · rw [E.out]
  · skip
    have E : Hid (shlS ⟨al, ah⟩ ⟨bl, bh⟩ = ⟨0, 65535⟩) := Lib.hid (by unfold shlS; exact if_neg hb)
    have q0 : ∀ W : World, (binOp .neq 46 (.agg #[.int .i64 bl, .int .i64 bh]) (.agg #[.int .i64 bl, .int .i64 bl])).run Tryd.prog W = .ok (.bool true) W := fun W => by rw [neq_st]; simp [Ne.symm hb]
    clear hb
    have N0 := three_news w (al) (ah) (bl) (bh) (0) (0)
    go_enter Tryd.func61, Tryd.ntmps61
    go_wp2_with fail
    unfold sO at N0
    generalize (((w.alloc (.cells #[.int .i64 al, .int .i64 ah] 46)).alloc (.cells #[.int .i64 bl, .int .i64 bh] 46)).alloc (.cells #[.int .i64 0, .int .i64 0] 46)) = v0 at N0 ⊢
    have D0 := Lib.hid (Below.refl v0.heap.size v0)
    refine wp_region_held_drew (S := fun W => W.cell? ⟨w.heap.size, 0, none⟩ = some (.int .i64 al) ∧ W.cell? ⟨w.heap.size, 1, none⟩ = some (.int .i64 ah) ∧ W.cell? ⟨w.heap.size + 1, 0, none⟩ = some (.int .i64 bl) ∧ W.cell? ⟨w.heap.size + 1, 1, none⟩ = some (.int .i64 bh)) (by kernel_rfl) ?_ (fun hHeld => ?_)
    · exact ⟨(SB.below N0.out.1 D0.out).c0, (SB.below N0.out.1 D0.out).c1, (SB.below N0.out.2.1 D0.out).c0, (SB.below N0.out.2.1 D0.out).c1⟩
    refine wpAnyH_take (i := 0) (v := ?_) rfl (by kernel_rfl) (by kernel_rfl) (by kernel_rfl) (fun _ _ _ h => h) (Or.inl ⟨by rfl, ?_⟩) (by assumption) ?_
    rotate_left
    · intro W hSw
      try dsimp only at hSw
      go_simp
      try with_reducible rfl
    refine wpAnyH_take (i := 1) (v := ?_) rfl (by kernel_rfl) (by kernel_rfl) (by kernel_rfl) (fun _ _ _ h => h) (Or.inl ⟨by rfl, ?_⟩) (by assumption) ?_
    rotate_left
    · intro W hSw
      try dsimp only at hSw
      go_simp
      try with_reducible rfl
    refine wpAnyH_take (i := 2) (v := ?_) rfl (by kernel_rfl) (by kernel_rfl) (by kernel_rfl) (fun _ _ _ h => h) (Or.inl ⟨by rfl, ?_⟩) (by assumption) ?_
    rotate_left
    · intro W hSw
      try dsimp only at hSw
      go_simp
      try with_reducible rfl
    refine wpAnyH_ready (rs := [3]) (by kernel_rfl) (by simp) ?_
    refine AllReadyH.cons rfl (fun K hK => ?_) AllReadyH.nil
    go_simp
    refine (onlyWord_any _ _).mono ?_
    rintro e v1 ⟨rfl, hb⟩
    have V1 := Lib.hid (Below.tr (Below.drew D0.out) hb)
    have V1z := V1.out.size
    clear hb
    refine hK.out _ _ ⟨(SB.below N0.out.1 V1.out).c0, (SB.below N0.out.1 V1.out).c1, (SB.below N0.out.2.1 V1.out).c0, (SB.below N0.out.2.1 V1.out).c1⟩ (fun hHeld2 => ?_)
    clear hK K
    refine wpAnyH_take (i := 4) (v := ?_) rfl (by kernel_rfl) (by kernel_rfl) (by kernel_rfl) (fun _ _ _ h => h) (Or.inl ⟨by rfl, ?_⟩) (by assumption) ?_
    rotate_left
    · intro W hSw
      try dsimp only at hSw
      go_simp
      try with_reducible rfl
    refine wpAnyH_done (by kernel_rfl) ?_ _
    go_wp2_with fail
    have D1 := V1
    have k0 := (SB.below N0.out.1 D1.out).c0
    have m0 := (SB.below N0.out.1 D1.out).c1
    have k1 := (SB.below N0.out.2.1 D1.out).c0
    have m1 := (SB.below N0.out.2.1 D1.out).c1
    have k2 := (SB.below N0.out.2.2.1 D1.out).c0
    have m2 := (SB.below N0.out.2.2.1 D1.out).c1
    have f2 := (SB.below N0.out.2.2.1 D1.out).f 0
    have j2 := (SB.below N0.out.2.2.1 D1.out).f 1
    refine (everyI_any _).mono ?_
    rintro e v2 ⟨rfl, hb⟩
    have D2 := Lib.hid (Below.tr D1.out hb)
    clear hb
    have k2 := (SB.below N0.out.2.2.1 D2.out).c0
    have m2 := (SB.below N0.out.2.2.1 D2.out).c1
    have f2 := (SB.below N0.out.2.2.1 D2.out).f 0
    have j2 := (SB.below N0.out.2.2.1 D2.out).f 1
    go_wp2
    refine shut0 ((SB.below N0.out.2.2.1 D2.out).set2) (belowS2 (Below.tr N0.out.2.2.2 D2.out) (by omega)) ?_ ?_
    · intro c0 c1; simp [results, Tryd.results61, go_sem, c0, c1]
    · rw [E.out]

set_option maxRecDepth 100000 in
set_option maxHeartbeats 4000000 in
theorem shrI_any (al ah bl bh : Int) (w : World) (a1 : 0 ≤ al) (a2 : al ≤ ah) (a3 : ah < 65536) (b1 : 0 ≤ bl) (b2 : bl ≤ bh) (b3 : bh < 65536) (HT : Hid (PowTab w)) :
    Calls Tryd.prog 62 #[.agg #[.int .i64 al, .int .i64 ah], .agg #[.int .i64 bl, .int .i64 bh]] w fun e w' => e = .returned (.agg #[.int .i64 (shrS ⟨al, ah⟩ ⟨bl, bh⟩).lo, .int .i64 (shrS ⟨al, ah⟩ ⟨bl, bh⟩).hi]) ∧ Below w.heap.size w w' := by
  have s1 := sf_le bl
  have s2 := mul_sf al bl a1 (by omega)
  have s3 := mul_sf ah bl (by omega) a3
  have s4 : ¬ (sf bl = 0) := by omega
  by_cases hb : bl = bh
  · skip
    have E : Hid (shrS ⟨al, ah⟩ ⟨bl, bh⟩ = ⟨al / sf bl, ah / sf bl⟩) := Lib.hid (by unfold shrS; exact if_pos hb)
    have q0 : ∀ W : World, (binOp .neq 46 (.agg #[.int .i64 bl, .int .i64 bh]) (.agg #[.int .i64 bl, .int .i64 bl])).run Tryd.prog W = .ok (.bool false) W := fun W => by rw [neq_st]; simp [hb]
    clear hb
    have N0 := three_news w (al) (ah) (bl) (bh) (0) (0)
    go_enter Tryd.func62, Tryd.ntmps62
    go_wp2_with fail
    unfold sO at N0
    generalize (((w.alloc (.cells #[.int .i64 al, .int .i64 ah] 46)).alloc (.cells #[.int .i64 bl, .int .i64 bh] 46)).alloc (.cells #[.int .i64 0, .int .i64 0] 46)) = v0 at N0 ⊢
    have D0 := Lib.hid (Below.refl v0.heap.size v0)
    refine wp_region_held_drew (S := fun W => W.cell? ⟨w.heap.size, 0, none⟩ = some (.int .i64 al) ∧ W.cell? ⟨w.heap.size, 1, none⟩ = some (.int .i64 ah) ∧ W.cell? ⟨w.heap.size + 1, 0, none⟩ = some (.int .i64 bl) ∧ W.cell? ⟨w.heap.size + 1, 1, none⟩ = some (.int .i64 bh)) (by kernel_rfl) ?_ (fun hHeld => ?_)
    · exact ⟨(SB.below N0.out.1 D0.out).c0, (SB.below N0.out.1 D0.out).c1, (SB.below N0.out.2.1 D0.out).c0, (SB.below N0.out.2.1 D0.out).c1⟩
    refine wpAnyH_take (i := 0) (v := ?_) rfl (by kernel_rfl) (by kernel_rfl) (by kernel_rfl) (fun _ _ _ h => h) (Or.inl ⟨by rfl, ?_⟩) (by assumption) ?_
    rotate_left
    · intro W hSw
      try dsimp only at hSw
      go_simp
      try with_reducible rfl
    refine wpAnyH_take (i := 1) (v := ?_) rfl (by kernel_rfl) (by kernel_rfl) (by kernel_rfl) (fun _ _ _ h => h) (Or.inl ⟨by rfl, ?_⟩) (by assumption) ?_
    rotate_left
    · intro W hSw
      try dsimp only at hSw
      go_simp
      try with_reducible rfl
    refine wpAnyH_take (i := 2) (v := ?_) rfl (by kernel_rfl) (by kernel_rfl) (by kernel_rfl) (fun _ _ _ h => h) (Or.inl ⟨by rfl, ?_⟩) (by assumption) ?_
    rotate_left
    · intro W hSw
      try dsimp only at hSw
      go_simp
      try with_reducible rfl
    refine wpAnyH_ready (rs := [3]) (by kernel_rfl) (by simp) ?_
    refine AllReadyH.cons rfl (fun K hK => ?_) AllReadyH.nil
    go_simp
    refine (onlyWord_any _ _).mono ?_
    rintro e v1 ⟨rfl, hb⟩
    have V1 := Lib.hid (Below.tr (Below.drew D0.out) hb)
    have V1z := V1.out.size
    clear hb
    refine hK.out _ _ ⟨(SB.below N0.out.1 V1.out).c0, (SB.below N0.out.1 V1.out).c1, (SB.below N0.out.2.1 V1.out).c0, (SB.below N0.out.2.1 V1.out).c1⟩ (fun hHeld2 => ?_)
    clear hK K
    refine wpAnyH_take (i := 4) (v := ?_) rfl (by kernel_rfl) (by kernel_rfl) (by kernel_rfl) (fun _ _ _ h => h) (Or.inl ⟨by rfl, ?_⟩) (by assumption) ?_
    rotate_left
    · intro W hSw
      try dsimp only at hSw
      go_simp
      try with_reducible rfl
    refine wpAnyH_done (by kernel_rfl) ?_ _
    go_wp2_with fail
    have D1 := V1
    have k0 := (SB.below N0.out.1 D1.out).c0
    have m0 := (SB.below N0.out.1 D1.out).c1
    have k1 := (SB.below N0.out.2.1 D1.out).c0
    have m1 := (SB.below N0.out.2.1 D1.out).c1
    have k2 := (SB.below N0.out.2.2.1 D1.out).c0
    have m2 := (SB.below N0.out.2.2.1 D1.out).c1
    have f2 := (SB.below N0.out.2.2.1 D1.out).f 0
    have j2 := (SB.below N0.out.2.2.1 D1.out).f 1
    refine (shiftFactor_any _ _ b1 (by omega) (Lib.hid (HT.out.bel (Below.tr N0.out.2.2.2 D1.out)))).mono ?_
    rintro e v9 ⟨rfl, rfl⟩
    go_wp2_with fail
    go_region
    go_wp2
    refine shut0 (((SB.below N0.out.2.2.1 D1.out).set2).below ((Below.refl _ _).drew)) (Below.tr (belowS2 (Below.tr N0.out.2.2.2 D1.out) (by omega)) ((Below.refl _ _).drew)) ?_ ?_
    · intro c0 c1; simp [results, Tryd.results62, go_sem, c0, c1]
    · rw [E.out]
  · skip
    have E : Hid (shrS ⟨al, ah⟩ ⟨bl, bh⟩ = ⟨0, ah⟩) := Lib.hid (by unfold shrS; exact if_neg hb)
    have q0 : ∀ W : World, (binOp .neq 46 (.agg #[.int .i64 bl, .int .i64 bh]) (.agg #[.int .i64 bl, .int .i64 bl])).run Tryd.prog W = .ok (.bool true) W := fun W => by rw [neq_st]; simp [Ne.symm hb]
    clear hb
    have N0 := three_news w (al) (ah) (bl) (bh) (0) (0)
    go_enter Tryd.func62, Tryd.ntmps62
    go_wp2_with fail
    unfold sO at N0
    generalize (((w.alloc (.cells #[.int .i64 al, .int .i64 ah] 46)).alloc (.cells #[.int .i64 bl, .int .i64 bh] 46)).alloc (.cells #[.int .i64 0, .int .i64 0] 46)) = v0 at N0 ⊢
    have D0 := Lib.hid (Below.refl v0.heap.size v0)
    refine wp_region_held_drew (S := fun W => W.cell? ⟨w.heap.size, 0, none⟩ = some (.int .i64 al) ∧ W.cell? ⟨w.heap.size, 1, none⟩ = some (.int .i64 ah) ∧ W.cell? ⟨w.heap.size + 1, 0, none⟩ = some (.int .i64 bl) ∧ W.cell? ⟨w.heap.size + 1, 1, none⟩ = some (.int .i64 bh)) (by kernel_rfl) ?_ (fun hHeld => ?_)
    · exact ⟨(SB.below N0.out.1 D0.out).c0, (SB.below N0.out.1 D0.out).c1, (SB.below N0.out.2.1 D0.out).c0, (SB.below N0.out.2.1 D0.out).c1⟩
    refine wpAnyH_take (i := 0) (v := ?_) rfl (by kernel_rfl) (by kernel_rfl) (by kernel_rfl) (fun _ _ _ h => h) (Or.inl ⟨by rfl, ?_⟩) (by assumption) ?_
    rotate_left
    · intro W hSw
      try dsimp only at hSw
      go_simp
      try with_reducible rfl
    refine wpAnyH_take (i := 1) (v := ?_) rfl (by kernel_rfl) (by kernel_rfl) (by kernel_rfl) (fun _ _ _ h => h) (Or.inl ⟨by rfl, ?_⟩) (by assumption) ?_
    rotate_left
    · intro W hSw
      try dsimp only at hSw
      go_simp
      try with_reducible rfl
    refine wpAnyH_take (i := 2) (v := ?_) rfl (by kernel_rfl) (by kernel_rfl) (by kernel_rfl) (fun _ _ _ h => h) (Or.inl ⟨by rfl, ?_⟩) (by assumption) ?_
    rotate_left
    · intro W hSw
      try dsimp only at hSw
      go_simp
      try with_reducible rfl
    refine wpAnyH_ready (rs := [3]) (by kernel_rfl) (by simp) ?_
    refine AllReadyH.cons rfl (fun K hK => ?_) AllReadyH.nil
    go_simp
    refine (onlyWord_any _ _).mono ?_
    rintro e v1 ⟨rfl, hb⟩
    have V1 := Lib.hid (Below.tr (Below.drew D0.out) hb)
    have V1z := V1.out.size
    clear hb
    refine hK.out _ _ ⟨(SB.below N0.out.1 V1.out).c0, (SB.below N0.out.1 V1.out).c1, (SB.below N0.out.2.1 V1.out).c0, (SB.below N0.out.2.1 V1.out).c1⟩ (fun hHeld2 => ?_)
    clear hK K
    refine wpAnyH_take (i := 4) (v := ?_) rfl (by kernel_rfl) (by kernel_rfl) (by kernel_rfl) (fun _ _ _ h => h) (Or.inl ⟨by rfl, ?_⟩) (by assumption) ?_
    rotate_left
    · intro W hSw
      try dsimp only at hSw
      go_simp
      try with_reducible rfl
    refine wpAnyH_done (by kernel_rfl) ?_ _
    go_wp2_with fail
    have D1 := V1
    have k0 := (SB.below N0.out.1 D1.out).c0
    have m0 := (SB.below N0.out.1 D1.out).c1
    have k1 := (SB.below N0.out.2.1 D1.out).c0
    have m1 := (SB.below N0.out.2.1 D1.out).c1
    have k2 := (SB.below N0.out.2.2.1 D1.out).c0
    have m2 := (SB.below N0.out.2.2.1 D1.out).c1
    have f2 := (SB.below N0.out.2.2.1 D1.out).f 0
    have j2 := (SB.below N0.out.2.2.1 D1.out).f 1
    refine (upTo_any ah _).mono ?_
    rintro e v2 ⟨rfl, hb⟩
    have D2 := Lib.hid (Below.tr D1.out hb)
    clear hb
    have k2 := (SB.below N0.out.2.2.1 D2.out).c0
    have m2 := (SB.below N0.out.2.2.1 D2.out).c1
    have f2 := (SB.below N0.out.2.2.1 D2.out).f 0
    have j2 := (SB.below N0.out.2.2.1 D2.out).f 1
    go_wp2
    refine shut0 ((SB.below N0.out.2.2.1 D2.out).set2) (belowS2 (Below.tr N0.out.2.2.2 D2.out) (by omega)) ?_ ?_
    · intro c0 c1; simp [results, Tryd.results62, go_sem, c0, c1]
    · rw [E.out]

set_option maxRecDepth 100000 in
set_option maxHeartbeats 4000000 in
theorem l9Shift9_any (al ah bl bh : Int) (w : World) (a1 : 0 ≤ al) (a2 : al ≤ ah) (a3 : ah < 65536) (b1 : 0 ≤ bl) (_b2 : bl ≤ bh) (_b3 : bh < 65536) :
    Calls Tryd.prog 94 #[.int .i64 9, .agg #[.int .i64 al, .int .i64 ah], .agg #[.int .i64 bl, .int .i64 bh]] w fun e w' => e = .returned (.agg #[.int .i64 (shlS ⟨al, ah⟩ ⟨bl, bh⟩).lo, .int .i64 (shlS ⟨al, ah⟩ ⟨bl, bh⟩).hi]) ∧ Below w.heap.size w w' := by
  have s1 := sf_le bl
  have s2 := mul_sf al bl a1 (by omega)
  have s3 := mul_sf ah bl (by omega) a3
  have W1 := Lib.hid (wrap_sf al bl a1 (by omega))
  have W2 := Lib.hid (wrap_sf ah bl (by omega) a3)
  by_cases hb : bl = bh
  · skip
    have e1 : (bl != bh) = false := by simp [hb]
    have E : Hid (shlS ⟨al, ah⟩ ⟨bl, bh⟩ = wrapS (al * sf bl) (ah * sf bl)) := Lib.hid (by unfold shlS; exact if_pos hb)
    clear hb
    have N0 := three_news w (al) (ah) (bl) (bh) (0) (0)
    go_enter Tryd.func94, Tryd.ntmps94
    go_wp2_with fail
    unfold sO at N0
    generalize (((w.alloc (.cells #[.int .i64 al, .int .i64 ah] 46)).alloc (.cells #[.int .i64 bl, .int .i64 bh] 46)).alloc (.cells #[.int .i64 0, .int .i64 0] 46)) = v0 at N0 ⊢
    have D0 := Lib.hid (Below.refl v0.heap.size v0)
    rw [W1.out, W2.out]
    refine (l9Ends_any (al * sf bl) (ah * sf bl) _ (by omega) (by omega) (by omega) (by omega)).mono ?_
    rintro e v1 ⟨rfl, hb⟩
    have D1 := Lib.hid (Below.tr D0.out hb)
    clear hb
    have k2 := (SB.below N0.out.2.2.1 D1.out).c0
    have m2 := (SB.below N0.out.2.2.1 D1.out).c1
    have f2 := (SB.below N0.out.2.2.1 D1.out).f 0
    have j2 := (SB.below N0.out.2.2.1 D1.out).f 1
    go_wp2
    refine shut0 ((SB.below N0.out.2.2.1 D1.out).set2) (belowS2 (Below.tr N0.out.2.2.2 D1.out) (by omega)) ?_ ?_
    · intro c0 c1; simp [results, Tryd.results94, go_sem, c0, c1]
    · rw [E.out]
  · skip
    have e1 : (bl != bh) = true := by simp [hb]
    have E : Hid (shlS ⟨al, ah⟩ ⟨bl, bh⟩ = ⟨0, 65535⟩) := Lib.hid (by unfold shlS; exact if_neg hb)
    clear hb
    have N0 := three_news w (al) (ah) (bl) (bh) (0) (0)
    go_enter Tryd.func94, Tryd.ntmps94
    go_wp2_with fail
    unfold sO at N0
    generalize (((w.alloc (.cells #[.int .i64 al, .int .i64 ah] 46)).alloc (.cells #[.int .i64 bl, .int .i64 bh] 46)).alloc (.cells #[.int .i64 0, .int .i64 0] 46)) = v0 at N0 ⊢
    have D0 := Lib.hid (Below.refl v0.heap.size v0)
    refine (l9All_any _).mono ?_
    rintro e v1 ⟨rfl, hb⟩
    have D1 := Lib.hid (Below.tr D0.out hb)
    clear hb
    have k2 := (SB.below N0.out.2.2.1 D1.out).c0
    have m2 := (SB.below N0.out.2.2.1 D1.out).c1
    have f2 := (SB.below N0.out.2.2.1 D1.out).f 0
    have j2 := (SB.below N0.out.2.2.1 D1.out).f 1
    go_wp2
    refine shut0 ((SB.below N0.out.2.2.1 D1.out).set2) (belowS2 (Below.tr N0.out.2.2.2 D1.out) (by omega)) ?_ ?_
    · intro c0 c1; simp [results, Tryd.results94, go_sem, c0, c1]
    · rw [E.out]

set_option maxRecDepth 100000 in
set_option maxHeartbeats 4000000 in
theorem l9Shift10_any (al ah bl bh : Int) (w : World) (a1 : 0 ≤ al) (a2 : al ≤ ah) (a3 : ah < 65536) (b1 : 0 ≤ bl) (_b2 : bl ≤ bh) (_b3 : bh < 65536) :
    Calls Tryd.prog 94 #[.int .i64 10, .agg #[.int .i64 al, .int .i64 ah], .agg #[.int .i64 bl, .int .i64 bh]] w fun e w' => e = .returned (.agg #[.int .i64 (shrS ⟨al, ah⟩ ⟨bl, bh⟩).lo, .int .i64 (shrS ⟨al, ah⟩ ⟨bl, bh⟩).hi]) ∧ Below w.heap.size w w' := by
  have s1 := sf_le bl
  have s2 := mul_sf al bl a1 (by omega)
  have s3 := mul_sf ah bl (by omega) a3
  have W1 := Lib.hid (wrap_sf al bl a1 (by omega))
  have W2 := Lib.hid (wrap_sf ah bl (by omega) a3)
  by_cases hb : bl = bh
  · skip
    have e1 : (bl != bh) = false := by simp [hb]
    have E : Hid (shrS ⟨al, ah⟩ ⟨bl, bh⟩ = ⟨al / sf bl, ah / sf bl⟩) := Lib.hid (by unfold shrS; exact if_pos hb)
    clear hb
    go_enter Tryd.func94, Tryd.ntmps94
    go_wp2
    have N1 := three_news w al ah bl bh (al / sf bl) (ah / sf bl)
    unfold sO at N1
    refine shut0 N1.out.2.2.1 N1.out.2.2.2 ?_ (by rw [E.out])
    intro c0 c1; simp [results, Tryd.results94, go_sem, c0, c1]
  · skip
    have e1 : (bl != bh) = true := by simp [hb]
    have E : Hid (shrS ⟨al, ah⟩ ⟨bl, bh⟩ = ⟨0, ah⟩) := Lib.hid (by unfold shrS; exact if_neg hb)
    clear hb
    go_enter Tryd.func94, Tryd.ntmps94
    go_wp2
    have N1 := three_news w al ah bl bh 0 ah
    unfold sO at N1
    refine shut0 N1.out.2.2.1 N1.out.2.2.2 ?_ (by rw [E.out])
    intro c0 c1; simp [results, Tryd.results94, go_sem, c0, c1]

end Go.Proofs.YtkffggnajoohfaaDoor.Op
