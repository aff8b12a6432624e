/-
  Contracts of chapter 9: the model's SplitLess.
-/
import Derived.Test.YtkffggnajoohfaaSt4
namespace Go.Proofs.Ytkffggnajoohfaa.Op
open Go.Proofs.Ytkffggnajoohfaa
open Go.ChangeShapes Go.WideShapes Go.ChangeAt Go.RowKit

def lessR (a b : St) : St × St × Bool := if splitB a b then (splitL a b, splitR a b, true) else (⟨0, 0⟩, ⟨0, 0⟩, false)
theorem lessR_yes {a b : St} (h : a.lo < b.hi) : lessR a b = (splitL a b, splitR a b, true) := by unfold lessR; rw [splitB_yes.2 h]; rfl
theorem lessR_no {a b : St} (h : b.hi ≤ a.lo) : lessR a b = (⟨0, 0⟩, ⟨0, 0⟩, false) := by
  have hm : splitB a b = false := by simp only [splitB, decide_eq_false_iff_not]; omega
  unfold lessR; rw [hm]; rfl

set_option maxRecDepth 100000 in
set_option maxHeartbeats 2000000 in
theorem l9Less_any (al ah bl bh : Int) (w : World) (z1 : 0 ≤ al) (z2 : al < 65536) (z3 : 0 ≤ bh) (z4 : bh < 65536) :
    Calls Try.prog 34 #[.agg #[.int .i64 al, .int .i64 ah], .agg #[.int .i64 bl, .int .i64 bh]] w fun e w' => e = .returned (.tuple #[.agg #[.int .i64 (lessR ⟨al, ah⟩ ⟨bl, bh⟩).1.lo, .int .i64 (lessR ⟨al, ah⟩ ⟨bl, bh⟩).1.hi], .agg #[.int .i64 (lessR ⟨al, ah⟩ ⟨bl, bh⟩).2.1.lo, .int .i64 (lessR ⟨al, ah⟩ ⟨bl, bh⟩).2.1.hi], .bool (lessR ⟨al, ah⟩ ⟨bl, bh⟩).2.2]) ∧ Below w.heap.size w w' := by
  by_cases hm : al < bh
  · have HM := Lib.hid hm
    have N0 := four_news w (al) (ah) (bl) (bh) (0) (0) (0) (0)
    go_enter Try.func34, Try.ntmps34
    go_wp2_with fail
    unfold sO at N0
    generalize ((((w.alloc (.cells #[.int .i64 al, .int .i64 ah] 24)).alloc (.cells #[.int .i64 bl, .int .i64 bh] 24)).alloc (.cells #[.int .i64 0, .int .i64 0] 24)).alloc (.cells #[.int .i64 0, .int .i64 0] 24)) = v0 at N0 ⊢
    have D0 := Lib.hid (Below.refl v0.heap.size v0)
    have k0 := (SB.below N0.out.1 D0.out).c0
    have m0 := (SB.below N0.out.1 D0.out).c1
    have k1 := (SB.below N0.out.2.1 D0.out).c0
    have m1 := (SB.below N0.out.2.1 D0.out).c1
    have k2 := (SB.below N0.out.2.2.1 D0.out).c0
    have m2 := (SB.below N0.out.2.2.1 D0.out).c1
    have f2 := (SB.below N0.out.2.2.1 D0.out).f 0
    have j2 := (SB.below N0.out.2.2.1 D0.out).f 1
    have k3 := (SB.below N0.out.2.2.2.1 D0.out).c0
    have m3 := (SB.below N0.out.2.2.2.1 D0.out).c1
    have f3 := (SB.below N0.out.2.2.2.1 D0.out).f 0
    have j3 := (SB.below N0.out.2.2.2.1 D0.out).f 1
    refine wp_region_held_drew (S := fun W => W.cell? ⟨w.heap.size, 0, none⟩ = some (.int .i64 al) ∧ W.cell? ⟨w.heap.size, 1, none⟩ = some (.int .i64 ah) ∧ W.cell? ⟨w.heap.size + 1, 0, none⟩ = some (.int .i64 bl) ∧ W.cell? ⟨w.heap.size + 1, 1, none⟩ = some (.int .i64 bh)) (by kernel_rfl) ?_ (fun hHeld => ?_)
    · exact ⟨(SB.below N0.out.1 D0.out).c0, (SB.below N0.out.1 D0.out).c1, (SB.below N0.out.2.1 D0.out).c0, (SB.below N0.out.2.1 D0.out).c1⟩
    refine wpAnyH_take (i := 0) (v := ?_) rfl (by kernel_rfl) (by kernel_rfl) (by kernel_rfl) (fun _ _ _ h => h) (Or.inl ⟨by rfl, ?_⟩) (by assumption) ?_
    rotate_left
    · intro W hSw
      try dsimp only at hSw
      go_simp
      try with_reducible rfl
    simp only [Act.put, List.setIfInBounds_toArray]
    refine wpAnyH_take (i := 1) (v := ?_) rfl (by kernel_rfl) (by kernel_rfl) (by kernel_rfl) (fun _ _ _ h => h) (Or.inl ⟨by rfl, ?_⟩) (by assumption) ?_
    rotate_left
    · intro W hSw
      try dsimp only at hSw
      go_simp
      try with_reducible rfl
    simp only [Act.put]
    refine wpAnyH_take (i := 2) (v := ?_) rfl (by kernel_rfl) (by kernel_rfl) (by kernel_rfl) (fun _ _ _ h => h) (Or.inl ⟨by rfl, ?_⟩) (by assumption) ?_
    rotate_left
    · intro W hSw
      try dsimp only at hSw
      go_simp
      try with_reducible rfl
    simp only [Act.put]
    refine wpAnyH_take (i := 3) (v := ?_) rfl (by kernel_rfl) (by kernel_rfl) (by kernel_rfl) (fun _ _ _ h => h) (Or.inl ⟨by rfl, ?_⟩) (by assumption) ?_
    rotate_left
    · intro W hSw
      try dsimp only at hSw
      go_simp
      try with_reducible rfl
    simp only [Act.put]
    refine wpAnyH_take (i := 4) (v := ?_) rfl (by kernel_rfl) (by kernel_rfl) (by kernel_rfl) (fun _ _ _ h => h) (Or.inl ⟨by rfl, ?_⟩) (by assumption) ?_
    rotate_left
    · intro W hSw
      try dsimp only at hSw
      go_simp
      try with_reducible rfl
    simp only [Act.put]
    refine wpAnyH_take (i := 5) (v := ?_) rfl (by kernel_rfl) (by kernel_rfl) (by kernel_rfl) (fun _ _ _ h => h) (Or.inl ⟨by rfl, ?_⟩) (by assumption) ?_
    rotate_left
    · intro W hSw
      try dsimp only at hSw
      go_simp
      try with_reducible rfl
    simp only [Act.put]
    refine wpAnyH_take (i := 6) (v := ?_) rfl (by kernel_rfl) (by kernel_rfl) (by kernel_rfl) (fun _ _ _ h => h) (Or.inl ⟨by rfl, ?_⟩) (by assumption) ?_
    rotate_left
    · intro W hSw
      try dsimp only at hSw
      go_simp
      try with_reducible rfl
    simp only [Act.put]
    refine wpAnyH_take (i := 9) (v := ?_) rfl (by kernel_rfl) (by kernel_rfl) (by kernel_rfl) (fun _ _ _ h => h) (Or.inl ⟨by rfl, ?_⟩) (by assumption) ?_
    rotate_left
    · intro W hSw
      try dsimp only at hSw
      go_simp
      try with_reducible rfl
    simp only [Act.put]
    refine wpAnyH_take (i := 10) (v := ?_) rfl (by kernel_rfl) (by kernel_rfl) (by kernel_rfl) (fun _ _ _ h => h) (Or.inl ⟨by rfl, ?_⟩) (by assumption) ?_
    rotate_left
    · intro W hSw
      try dsimp only at hSw
      go_simp
      try with_reducible rfl
    simp only [Act.put]
    refine wpAnyH_take (i := 11) (v := ?_) rfl (by kernel_rfl) (by kernel_rfl) (by kernel_rfl) (fun _ _ _ h => h) (Or.inl ⟨by rfl, ?_⟩) (by assumption) ?_
    rotate_left
    · intro W hSw
      try dsimp only at hSw
      go_simp
      try with_reducible rfl
    simp only [Act.put]
    refine wpAnyH_take (i := 12) (v := ?_) rfl (by kernel_rfl) (by kernel_rfl) (by kernel_rfl) (fun _ _ _ h => h) (Or.inl ⟨by rfl, ?_⟩) (by assumption) ?_
    rotate_left
    · intro W hSw
      try dsimp only at hSw
      go_simp
      try with_reducible rfl
    simp only [Act.put]
    refine wpAnyH_take (i := 13) (v := ?_) rfl (by kernel_rfl) (by kernel_rfl) (by kernel_rfl) (fun _ _ _ h => h) (Or.inl ⟨by rfl, ?_⟩) (by assumption) ?_
    rotate_left
    · intro W hSw
      try dsimp only at hSw
      go_simp
      try with_reducible rfl
    simp only [Act.put]
    refine wpAnyH_take (i := 15) (v := ?_) rfl (by kernel_rfl) (by kernel_rfl) (by kernel_rfl) (fun _ _ _ h => h) (Or.inl ⟨by rfl, ?_⟩) (by assumption) ?_
    rotate_left
    · intro W hSw
      try dsimp only at hSw
      go_simp
      try with_reducible rfl
    simp only [Act.put]
    refine wpAnyH_take (i := 16) (v := ?_) rfl (by kernel_rfl) (by kernel_rfl) (by kernel_rfl) (fun _ _ _ h => h) (Or.inl ⟨by rfl, ?_⟩) (by assumption) ?_
    rotate_left
    · intro W hSw
      try dsimp only at hSw
      go_simp
      try with_reducible rfl
    simp only [Act.put]
    refine wpAnyH_ready (rs := [7]) (by kernel_rfl) (by simp) ?_
    refine AllReadyH.cons rfl (fun K hK => ?_) AllReadyH.nil
    go_simp
    refine (l1Least_any _ _ _).mono ?_
    rintro e v9 ⟨rfl, rfl⟩
    refine hK.out _ _ (by assumption) (fun hHeld2 => ?_)
    clear hK K
    try simp only [Act.put, List.setIfInBounds_toArray, List.set_cons_zero, List.set_cons_succ]
    refine wpAnyH_take (i := 8) (v := ?_) rfl (by kernel_rfl) (by kernel_rfl) (by kernel_rfl) (fun _ _ _ h => h) (Or.inl ⟨by rfl, ?_⟩) (by assumption) ?_
    rotate_left
    · intro W hSw
      try dsimp only at hSw
      go_simp
      try with_reducible rfl
    simp only [Act.put, List.setIfInBounds_toArray]
    refine wpAnyH_ready (rs := [14]) (by kernel_rfl) (by simp) ?_
    refine AllReadyH.cons rfl (fun K hK => ?_) AllReadyH.nil
    go_simp
    refine (l1Most_any _ _ _).mono ?_
    rintro e v9 ⟨rfl, rfl⟩
    refine hK.out _ _ (by assumption) (fun hHeld2 => ?_)
    clear hK K
    try simp only [Act.put, List.setIfInBounds_toArray, List.set_cons_zero, List.set_cons_succ]
    refine wpAnyH_take (i := 17) (v := ?_) rfl (by kernel_rfl) (by kernel_rfl) (by kernel_rfl) (fun _ _ _ h => h) (Or.inl ⟨by rfl, ?_⟩) (by assumption) ?_
    rotate_left
    · intro W hSw
      try dsimp only at hSw
      go_simp
      try with_reducible rfl
    simp only [Act.put, List.setIfInBounds_toArray]
    refine wpAnyH_ready (rs := [18]) (by kernel_rfl) (by simp) ?_
    refine AllReadyH.cons rfl (fun K hK => ?_) (AllReadyH.nil)
    go_simp
    refine hK.out _ _ (⟨((SB.below N0.out.1 D0.out).far2 (by omega)).c0, ((SB.below N0.out.1 D0.out).far2 (by omega)).c1, ((SB.below N0.out.2.1 D0.out).far2 (by omega)).c0, ((SB.below N0.out.2.1 D0.out).far2 (by omega)).c1⟩) (fun hHeld2 => ?_)
    clear hK K
    try simp only [Act.put, List.setIfInBounds_toArray, List.set_cons_zero, List.set_cons_succ]
    refine wpAnyH_ready (rs := [19]) (by kernel_rfl) (by simp) ?_
    refine AllReadyH.cons rfl (fun K hK => ?_) (AllReadyH.nil)
    go_simp
    refine hK.out _ _ (⟨(((SB.below N0.out.1 D0.out).far2 (by omega)).far2 (by omega)).c0, (((SB.below N0.out.1 D0.out).far2 (by omega)).far2 (by omega)).c1, (((SB.below N0.out.2.1 D0.out).far2 (by omega)).far2 (by omega)).c0, (((SB.below N0.out.2.1 D0.out).far2 (by omega)).far2 (by omega)).c1⟩) (fun hHeld2 => ?_)
    clear hK K
    try simp only [Act.put, List.setIfInBounds_toArray, List.set_cons_zero, List.set_cons_succ]
    refine wpAnyH_ready (rs := [20]) (by kernel_rfl) (by simp) ?_
    refine AllReadyH.cons rfl (fun K hK => ?_) (AllReadyH.nil)
    go_simp
    refine hK.out _ _ (⟨(((SB.below N0.out.1 D0.out).far2 (by omega)).far2 (by omega)).c0, (((SB.below N0.out.1 D0.out).far2 (by omega)).far2 (by omega)).c1, (((SB.below N0.out.2.1 D0.out).far2 (by omega)).far2 (by omega)).c0, (((SB.below N0.out.2.1 D0.out).far2 (by omega)).far2 (by omega)).c1⟩) (fun hHeld2 => ?_)
    clear hK K
    try simp only [Act.put, List.setIfInBounds_toArray, List.set_cons_zero, List.set_cons_succ]
    refine wpAnyH_done (by kernel_rfl) ?_ _
    go_wp2
    have e1 : IntKind.i64.wrap (bh - 1) = bh - 1 := by rw [IntKind.wrap_i64]; omega
    have e2 : IntKind.i64.wrap (al + 1) = al + 1 := by rw [IntKind.wrap_i64]; omega
    refine shut2 (ok := true) ((((SB.below N0.out.2.2.1 D0.out).set2).far2 (by omega)).below ((Below.refl _ _).drew)) ((((SB.below N0.out.2.2.2.1 D0.out).far2 (by omega)).set2).below ((Below.refl _ _).drew)) (Below.tr (belowS2 (belowS2 (Below.tr N0.out.2.2.2.2 D0.out) (by omega)) (by omega)) ((Below.refl _ _).drew)) ?_ ?_
    · intro c0 c1 c2 c3; simp [results, Try.results34, go_sem, c0, c1, c2, c3]
    · rw [lessR_yes HM.out, e1, e2]; rfl
  · have HM := Lib.hid (show bh ≤ al by omega)
    have N0 := four_news w (al) (ah) (bl) (bh) (0) (0) (0) (0)
    go_enter Try.func34, Try.ntmps34
    go_wp2_with fail
    unfold sO at N0
    obtain ⟨n0, n1, n2, n3, n4⟩ := N0.out
    refine shut2 (ok := false) n2 n3 n4 ?_ ?_
    · intro c0 c1 c2 c3; simp [results, Try.results34, go_sem, c0, c1, c2, c3]
    · rw [lessR_no (a := ⟨al, ah⟩) (b := ⟨bl, bh⟩) HM.out]

set_option maxRecDepth 100000 in
set_option maxHeartbeats 2000000 in
theorem splitM_any (al ah bl bh : Int) (w : World) :
    Calls Try.prog 17 #[.agg #[.int .i64 al, .int .i64 ah], .agg #[.int .i64 bl, .int .i64 bh]] w fun e w' => e = .returned (.tuple #[.agg #[.int .i64 (splitR2 ⟨al, ah⟩ ⟨bl, bh⟩).1.lo, .int .i64 (splitR2 ⟨al, ah⟩ ⟨bl, bh⟩).1.hi], .agg #[.int .i64 (splitR2 ⟨al, ah⟩ ⟨bl, bh⟩).2.1.lo, .int .i64 (splitR2 ⟨al, ah⟩ ⟨bl, bh⟩).2.1.hi], .bool (splitR2 ⟨al, ah⟩ ⟨bl, bh⟩).2.2]) ∧ Below w.heap.size w w' := by
  obtain ⟨g1, hg1⟩ : ∃ g, goodS ⟨al, ah⟩ = g := ⟨_, rfl⟩
  have G1 := Lib.hid hg1
  clear hg1
  obtain ⟨g2, hg2⟩ : ∃ g, goodS ⟨bl, bh⟩ = g := ⟨_, rfl⟩
  have G2 := Lib.hid hg2
  clear hg2
  obtain ⟨Q, hQ⟩ : ∃ q, lessR ⟨al, ah⟩ ⟨bl, bh⟩ = q := ⟨_, rfl⟩
  obtain ⟨⟨x, y⟩, ⟨x', y'⟩, ok⟩ := Q
  have HL := Lib.hid hQ
  clear hQ
  have N0 := four_news w (al) (ah) (bl) (bh) (0) (0) (0) (0)
  go_enter Try.func17, Try.ntmps17
  go_wp2_with fail
  unfold sO at N0
  generalize ((((w.alloc (.cells #[.int .i64 al, .int .i64 ah] 24)).alloc (.cells #[.int .i64 bl, .int .i64 bh] 24)).alloc (.cells #[.int .i64 0, .int .i64 0] 24)).alloc (.cells #[.int .i64 0, .int .i64 0] 24)) = v0 at N0 ⊢
  have D0 := Lib.hid (Below.refl v0.heap.size v0)
  refine (l9Two_any _ _ _ _ _).mono ?_
  rw [G1.out, G2.out]
  rintro e v1 ⟨rfl, hb⟩
  have D1 := Lib.hid (Below.tr D0.out hb)
  clear hb
  have k0 := (SB.below N0.out.1 D1.out).c0
  have m0 := (SB.below N0.out.1 D1.out).c1
  have k1 := (SB.below N0.out.2.1 D1.out).c0
  have m1 := (SB.below N0.out.2.1 D1.out).c1
  have k2 := (SB.below N0.out.2.2.1 D1.out).c0
  have m2 := (SB.below N0.out.2.2.1 D1.out).c1
  have f2 := (SB.below N0.out.2.2.1 D1.out).f 0
  have j2 := (SB.below N0.out.2.2.1 D1.out).f 1
  have k3 := (SB.below N0.out.2.2.2.1 D1.out).c0
  have m3 := (SB.below N0.out.2.2.2.1 D1.out).c1
  have f3 := (SB.below N0.out.2.2.2.1 D1.out).f 0
  have j3 := (SB.below N0.out.2.2.2.1 D1.out).f 1
  cases hgg : (g1 && g2)
  · have GG := Lib.hid hgg
    go_wp2
    refine shut2 (ok := false) (((SB.below N0.out.2.2.1 D1.out).set2).far2 (by omega)) (((SB.below N0.out.2.2.2.1 D1.out).far2 (by omega)).set2) (belowS2 (belowS2 (Below.tr N0.out.2.2.2.2 D1.out) (by omega)) (by omega)) ?_ ?_
    · intro c0 c1 c2 c3; simp [results, Try.results17, go_sem, c0, c1, c2, c3]
    · simp [splitR2, G1.out, G2.out, GG.out]
  · simp only [Bool.and_eq_true] at hgg
    obtain ⟨rfl, rfl⟩ := hgg
    go_wp2_with fail
    obtain ⟨z1, z2, z3⟩ := goodS_yes G1.out
    obtain ⟨z4, z5, z6⟩ := goodS_yes G2.out
    simp only at z1 z2 z3 z4 z5 z6
    refine (l9Less_any _ _ _ _ _ (by omega) (by omega) (by omega) (by omega)).mono ?_
    rw [HL.out]
    rintro e v2 ⟨rfl, hb⟩
    have D2 := Lib.hid (Below.tr D1.out hb)
    clear hb
    have k2 := (SB.below N0.out.2.2.1 D2.out).c0
    have m2 := (SB.below N0.out.2.2.1 D2.out).c1
    have f2 := (SB.below N0.out.2.2.1 D2.out).f 0
    have j2 := (SB.below N0.out.2.2.1 D2.out).f 1
    have k3 := (SB.below N0.out.2.2.2.1 D2.out).c0
    have m3 := (SB.below N0.out.2.2.2.1 D2.out).c1
    have f3 := (SB.below N0.out.2.2.2.1 D2.out).f 0
    have j3 := (SB.below N0.out.2.2.2.1 D2.out).f 1
    go_wp2
    refine shut2 (ok := ok) (((SB.below N0.out.2.2.1 D2.out).set2).far2 (by omega)) (((SB.below N0.out.2.2.2.1 D2.out).far2 (by omega)).set2) (belowS2 (belowS2 (Below.tr N0.out.2.2.2.2 D2.out) (by omega)) (by omega)) ?_ ?_
    · intro c0 c1 c2 c3; simp [results, Try.results17, go_sem, c0, c1, c2, c3]
    · have e := HL.out; unfold lessR at e; unfold splitR2; rw [G1.out, G2.out]; simp only [Bool.true_and]; rw [e]

end Go.Proofs.Ytkffggnajoohfaa.Op
