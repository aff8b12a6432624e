/-
  Contracts of chapter 9: DoStretch of the model.
-/
import Derived.Test.YtkffggnajoohfaaDoorSt10
import Derived.Test.YtkffggnajoohfaaDoorSt4
namespace Go.Proofs.YtkffggnajoohfaaDoor.Op
open Go.Proofs.YtkffggnajoohfaaDoor
open Go.ChangeShapes Go.WideShapes Go.ChangeAt Go.RowKit

set_option maxRecDepth 100000 in
set_option maxHeartbeats 16000000 in
theorem l9Do_any (op al ah bl bh : Int) (w : World) (a1 : 0 ≤ al) (a2 : al ≤ ah) (a3 : ah < 65536) (b1 : 0 ≤ bl) (b2 : bl ≤ bh) (b3 : bh < 65536) (o1 : 1 ≤ op) (o2 : op ≤ 10) :
    Calls Tryd.prog 64 #[.int .i64 op, .agg #[.int .i64 al, .int .i64 ah], .agg #[.int .i64 bl, .int .i64 bh]] w fun e w' => e = .returned (.agg #[.int .i64 (doSt op ⟨al, ah⟩ ⟨bl, bh⟩).lo, .int .i64 (doSt op ⟨al, ah⟩ ⟨bl, bh⟩).hi]) ∧ Below w.heap.size w w' := by
  have p1 := mul_words al bl a1 (by omega) b1 (by omega)
  have p2 := mul_words ah bh (by omega) a3 (by omega) b3
  have p3 : 0 ≤ maxI ah bh ∧ maxI ah bh < 65536 := by unfold maxI; split <;> omega
  rcases (by omega : op = 1 ∨ op = 2 ∨ op = 3 ∨ op = 4 ∨ op = 5 ∨ op = 6 ∨ op = 7 ∨ op = 8 ∨ op = 9 ∨ op = 10) with rfl | rfl | rfl | rfl | rfl | rfl | rfl | rfl | rfl | rfl
  · skip
    have E : Hid (doSt 1 ⟨al, ah⟩ ⟨bl, bh⟩ = wrapS (al + bl) (ah + bh)) := Lib.hid rfl
    have N0 := three_news w (al) (ah) (bl) (bh) (0) (0)
    go_enter Tryd.func64, Tryd.ntmps64
    go_wp2_with fail
    unfold sO at N0
    generalize (((w.alloc (.cells #[.int .i64 al, .int .i64 ah] 46)).alloc (.cells #[.int .i64 bl, .int .i64 bh] 46)).alloc (.cells #[.int .i64 0, .int .i64 0] 46)) = v0 at N0 ⊢
    have D0 := Lib.hid (Below.refl v0.heap.size v0)
    refine (l9Ends_any (al + bl) (ah + bh) _ (by omega) (by omega) (by omega) (by omega)).mono ?_
    rintro e v1 ⟨rfl, hb⟩
    have D1 := Lib.hid (Below.tr D0.out hb)
    clear hb
    have k2 := (SB.below N0.out.2.2.1 D1.out).c0
    have m2 := (SB.below N0.out.2.2.1 D1.out).c1
    have f2 := (SB.below N0.out.2.2.1 D1.out).f 0
    have j2 := (SB.below N0.out.2.2.1 D1.out).f 1
    go_wp2
    refine shut0 ((SB.below N0.out.2.2.1 D1.out).set2) (belowS2 (Below.tr N0.out.2.2.2 D1.out) (by omega)) ?_ ?_
    · intro c0 c1; simp [results, Tryd.results64, go_sem, c0, c1]
    · rw [E.out]
  · skip
    have E : Hid (doSt 2 ⟨al, ah⟩ ⟨bl, bh⟩ = wrapS (al - bh) (ah - bl)) := Lib.hid rfl
    have N0 := three_news w (al) (ah) (bl) (bh) (0) (0)
    go_enter Tryd.func64, Tryd.ntmps64
    go_wp2_with fail
    unfold sO at N0
    generalize (((w.alloc (.cells #[.int .i64 al, .int .i64 ah] 46)).alloc (.cells #[.int .i64 bl, .int .i64 bh] 46)).alloc (.cells #[.int .i64 0, .int .i64 0] 46)) = v0 at N0 ⊢
    have D0 := Lib.hid (Below.refl v0.heap.size v0)
    refine (l9Ends_any (al - bh) (ah - bl) _ (by omega) (by omega) (by omega) (by omega)).mono ?_
    rintro e v1 ⟨rfl, hb⟩
    have D1 := Lib.hid (Below.tr D0.out hb)
    clear hb
    have k2 := (SB.below N0.out.2.2.1 D1.out).c0
    have m2 := (SB.below N0.out.2.2.1 D1.out).c1
    have f2 := (SB.below N0.out.2.2.1 D1.out).f 0
    have j2 := (SB.below N0.out.2.2.1 D1.out).f 1
    go_wp2
    refine shut0 ((SB.below N0.out.2.2.1 D1.out).set2) (belowS2 (Below.tr N0.out.2.2.2 D1.out) (by omega)) ?_ ?_
    · intro c0 c1; simp [results, Tryd.results64, go_sem, c0, c1]
    · rw [E.out]
  · skip
    have E : Hid (doSt 3 ⟨al, ah⟩ ⟨bl, bh⟩ = wrapS (al * bl) (ah * bh)) := Lib.hid rfl
    have N0 := three_news w (al) (ah) (bl) (bh) (0) (0)
    go_enter Tryd.func64, Tryd.ntmps64
    go_wp2_with fail
    unfold sO at N0
    generalize (((w.alloc (.cells #[.int .i64 al, .int .i64 ah] 46)).alloc (.cells #[.int .i64 bl, .int .i64 bh] 46)).alloc (.cells #[.int .i64 0, .int .i64 0] 46)) = v0 at N0 ⊢
    have D0 := Lib.hid (Below.refl v0.heap.size v0)
    refine (l9Ends_any (al * bl) (ah * bh) _ (by omega) (by omega) (by omega) (by omega)).mono ?_
    rintro e v1 ⟨rfl, hb⟩
    have D1 := Lib.hid (Below.tr D0.out hb)
    clear hb
    have k2 := (SB.below N0.out.2.2.1 D1.out).c0
    have m2 := (SB.below N0.out.2.2.1 D1.out).c1
    have f2 := (SB.below N0.out.2.2.1 D1.out).f 0
    have j2 := (SB.below N0.out.2.2.1 D1.out).f 1
    go_wp2
    refine shut0 ((SB.below N0.out.2.2.1 D1.out).set2) (belowS2 (Below.tr N0.out.2.2.2 D1.out) (by omega)) ?_ ?_
    · intro c0 c1; simp [results, Tryd.results64, go_sem, c0, c1]
    · rw [E.out]
  · skip
    have E : Hid (doSt 4 ⟨al, ah⟩ ⟨bl, bh⟩ = quoS ⟨al, ah⟩ ⟨bl, bh⟩) := Lib.hid rfl
    by_cases hb : bl = 0
    · have e1 : (bl == 0) = true := by simp [hb]
      have E2 : Hid (quoS ⟨al, ah⟩ ⟨bl, bh⟩ = ⟨0, ah⟩) := Lib.hid (by unfold quoS; exact if_pos hb)
      clear hb
      go_enter Tryd.func64, Tryd.ntmps64
      go_wp2
      have N1 := three_news w al ah bl bh 0 ah
      unfold sO at N1
      refine shut0 N1.out.2.2.1 N1.out.2.2.2 ?_ (by rw [E.out, E2.out])
      intro c0 c1; simp [results, Tryd.results64, go_sem, c0, c1]
    · have e1 : (bl == 0) = false := by simp [hb]
      have nb1 : ¬ (bl = 0) := hb
      have nb2 : ¬ (bh = 0) := by omega
      have E2 : Hid (quoS ⟨al, ah⟩ ⟨bl, bh⟩ = ⟨al / bh, ah / bl⟩) := Lib.hid (by unfold quoS; exact if_neg hb)
      clear hb
      have N0 := three_news w (al) (ah) (bl) (bh) (0) (0)
      go_enter Tryd.func64, Tryd.ntmps64
      go_wp2_with fail
      unfold sO at N0
      generalize (((w.alloc (.cells #[.int .i64 al, .int .i64 ah] 46)).alloc (.cells #[.int .i64 bl, .int .i64 bh] 46)).alloc (.cells #[.int .i64 0, .int .i64 0] 46)) = v0 at N0 ⊢
      have D0 := Lib.hid (Below.refl v0.heap.size v0)
      have k0 := (SB.below N0.out.1 D0.out).c0
      have m0 := (SB.below N0.out.1 D0.out).c1
      have k1 := (SB.below N0.out.2.1 D0.out).c0
      have m1 := (SB.below N0.out.2.1 D0.out).c1
      have k2 := (SB.below N0.out.2.2.1 D0.out).c0
      have m2 := (SB.below N0.out.2.2.1 D0.out).c1
      have f2 := (SB.below N0.out.2.2.1 D0.out).f 0
      have j2 := (SB.below N0.out.2.2.1 D0.out).f 1
      go_region
      go_wp2
      refine shut0 (((SB.below N0.out.2.2.1 D0.out).set2).below ((Below.refl _ _).drew)) (Below.tr (belowS2 (Below.tr N0.out.2.2.2 D0.out) (by omega)) ((Below.refl _ _).drew)) ?_ ?_
      · intro c0 c1; simp [results, Tryd.results64, go_sem, c0, c1]
      · rw [E.out, E2.out]
  · skip
    have E : Hid (doSt 5 ⟨al, ah⟩ ⟨bl, bh⟩ = modS ⟨al, ah⟩ ⟨bl, bh⟩) := Lib.hid rfl
    have N0 := three_news w (al) (ah) (bl) (bh) (0) (0)
    go_enter Tryd.func64, Tryd.ntmps64
    go_wp2_with fail
    unfold sO at N0
    generalize (((w.alloc (.cells #[.int .i64 al, .int .i64 ah] 46)).alloc (.cells #[.int .i64 bl, .int .i64 bh] 46)).alloc (.cells #[.int .i64 0, .int .i64 0] 46)) = v0 at N0 ⊢
    have D0 := Lib.hid (Below.refl v0.heap.size v0)
    refine (l9Mod_any _ _ _ _ _ a1 a2 a3 b1 b2 b3).mono ?_
    rintro e v1 ⟨rfl, hb⟩
    have D1 := Lib.hid (Below.tr D0.out hb)
    clear hb
    have k2 := (SB.below N0.out.2.2.1 D1.out).c0
    have m2 := (SB.below N0.out.2.2.1 D1.out).c1
    have f2 := (SB.below N0.out.2.2.1 D1.out).f 0
    have j2 := (SB.below N0.out.2.2.1 D1.out).f 1
    go_wp2
    refine shut0 ((SB.below N0.out.2.2.1 D1.out).set2) (belowS2 (Below.tr N0.out.2.2.2 D1.out) (by omega)) ?_ ?_
    · intro c0 c1; simp [results, Tryd.results64, go_sem, c0, c1]
    · rw [E.out]
  · skip
    have E : Hid (doSt 6 ⟨al, ah⟩ ⟨bl, bh⟩ = ⟨0, minI ah bh⟩) := Lib.hid rfl
    have N0 := three_news w (al) (ah) (bl) (bh) (0) (0)
    go_enter Tryd.func64, Tryd.ntmps64
    go_wp2_with fail
    unfold sO at N0
    generalize (((w.alloc (.cells #[.int .i64 al, .int .i64 ah] 46)).alloc (.cells #[.int .i64 bl, .int .i64 bh] 46)).alloc (.cells #[.int .i64 0, .int .i64 0] 46)) = v0 at N0 ⊢
    have D0 := Lib.hid (Below.refl v0.heap.size v0)
    refine (l1Least_any _ _ _).mono ?_
    rintro e v9 ⟨rfl, rfl⟩
    have k2 := (SB.below N0.out.2.2.1 D0.out).c0
    have m2 := (SB.below N0.out.2.2.1 D0.out).c1
    have f2 := (SB.below N0.out.2.2.1 D0.out).f 0
    have j2 := (SB.below N0.out.2.2.1 D0.out).f 1
    go_wp2
    refine shut0 ((SB.below N0.out.2.2.1 D0.out).set2) (belowS2 (Below.tr N0.out.2.2.2 D0.out) (by omega)) ?_ ?_
    · intro c0 c1; simp [results, Tryd.results64, go_sem, c0, c1]
    · rw [E.out]
  · skip
    have E : Hid (doSt 7 ⟨al, ah⟩ ⟨bl, bh⟩ = ⟨maxI al bl, onesN (maxI ah bh).toNat⟩) := Lib.hid rfl
    have N0 := three_news w (al) (ah) (bl) (bh) (0) (0)
    go_enter Tryd.func64, Tryd.ntmps64
    go_wp2_with fail
    unfold sO at N0
    generalize (((w.alloc (.cells #[.int .i64 al, .int .i64 ah] 46)).alloc (.cells #[.int .i64 bl, .int .i64 bh] 46)).alloc (.cells #[.int .i64 0, .int .i64 0] 46)) = v0 at N0 ⊢
    have D0 := Lib.hid (Below.refl v0.heap.size v0)
    have k0 := (SB.below N0.out.1 D0.out).c0
    have m0 := (SB.below N0.out.1 D0.out).c1
    have k1 := (SB.below N0.out.2.1 D0.out).c0
    have m1 := (SB.below N0.out.2.1 D0.out).c1
    have k2 := (SB.below N0.out.2.2.1 D0.out).c0
    have m2 := (SB.below N0.out.2.2.1 D0.out).c1
    have f2 := (SB.below N0.out.2.2.1 D0.out).f 0
    have j2 := (SB.below N0.out.2.2.1 D0.out).f 1
    refine wp_region_still_tail 12 (by kernel_rfl) (by kernel_rfl) ?_
    simp only [List.take_succ_cons, List.take_zero, List.drop_succ_cons, List.drop_zero]
    change wpStill _ _ (World.drew v0) _ _ _
    repeat still_step
    still_call ((l1Most_any _ _ _).mono (fun e w' h => ⟨h.1, h.2.symm⟩))
    repeat still_step
    still_call ((l1Most_any _ _ _).mono (fun e w' h => ⟨h.1, h.2.symm⟩))
    repeat still_step
    still_call ((l9Ones_any (maxI ah bh) p3.1 p3.2 _).mono (fun e w' h => ⟨h.1, h.2.symm⟩))
    repeat still_step
    refine wpStill_nil ?_
    change wpList _ _ _ _ _ (World.drew v0)
    go_wp2
    refine shut0 (((SB.below N0.out.2.2.1 D0.out).set2).below ((Below.refl _ _).drew)) (Below.tr (belowS2 (Below.tr N0.out.2.2.2 D0.out) (by omega)) ((Below.refl _ _).drew)) ?_ ?_
    · intro c0 c1; simp [results, Tryd.results64, go_sem, c0, c1]
    · rw [E.out]
  · skip
    have E : Hid (doSt 8 ⟨al, ah⟩ ⟨bl, bh⟩ = ⟨0, onesN (maxI ah bh).toNat⟩) := Lib.hid rfl
    have N0 := three_news w (al) (ah) (bl) (bh) (0) (0)
    go_enter Tryd.func64, Tryd.ntmps64
    go_wp2_with fail
    unfold sO at N0
    generalize (((w.alloc (.cells #[.int .i64 al, .int .i64 ah] 46)).alloc (.cells #[.int .i64 bl, .int .i64 bh] 46)).alloc (.cells #[.int .i64 0, .int .i64 0] 46)) = v0 at N0 ⊢
    have D0 := Lib.hid (Below.refl v0.heap.size v0)
    refine (l1Most_any _ _ _).mono ?_
    rintro e v9 ⟨rfl, rfl⟩
    go_wp2_with fail
    refine (l9Ones_any (maxI ah bh) p3.1 p3.2 _).mono ?_
    rintro e v9 ⟨rfl, rfl⟩
    have k2 := (SB.below N0.out.2.2.1 D0.out).c0
    have m2 := (SB.below N0.out.2.2.1 D0.out).c1
    have f2 := (SB.below N0.out.2.2.1 D0.out).f 0
    have j2 := (SB.below N0.out.2.2.1 D0.out).f 1
    go_wp2
    refine shut0 ((SB.below N0.out.2.2.1 D0.out).set2) (belowS2 (Below.tr N0.out.2.2.2 D0.out) (by omega)) ?_ ?_
    · intro c0 c1; simp [results, Tryd.results64, go_sem, c0, c1]
    · rw [E.out]
  · skip
    have E : Hid (doSt 9 ⟨al, ah⟩ ⟨bl, bh⟩ = shlS ⟨al, ah⟩ ⟨bl, bh⟩) := Lib.hid rfl
    have N0 := three_news w (al) (ah) (bl) (bh) (0) (0)
    go_enter Tryd.func64, Tryd.ntmps64
    go_wp2_with fail
    unfold sO at N0
    generalize (((w.alloc (.cells #[.int .i64 al, .int .i64 ah] 46)).alloc (.cells #[.int .i64 bl, .int .i64 bh] 46)).alloc (.cells #[.int .i64 0, .int .i64 0] 46)) = v0 at N0 ⊢
    have D0 := Lib.hid (Below.refl v0.heap.size v0)
    refine (l9Shift9_any _ _ _ _ _ a1 a2 a3 b1 b2 b3).mono ?_
    rintro e v1 ⟨rfl, hb⟩
    have D1 := Lib.hid (Below.tr D0.out hb)
    clear hb
    have k2 := (SB.below N0.out.2.2.1 D1.out).c0
    have m2 := (SB.below N0.out.2.2.1 D1.out).c1
    have f2 := (SB.below N0.out.2.2.1 D1.out).f 0
    have j2 := (SB.below N0.out.2.2.1 D1.out).f 1
    go_wp2
    refine shut0 ((SB.below N0.out.2.2.1 D1.out).set2) (belowS2 (Below.tr N0.out.2.2.2 D1.out) (by omega)) ?_ ?_
    · intro c0 c1; simp [results, Tryd.results64, go_sem, c0, c1]
    · rw [E.out]
  · skip
    have E : Hid (doSt 10 ⟨al, ah⟩ ⟨bl, bh⟩ = shrS ⟨al, ah⟩ ⟨bl, bh⟩) := Lib.hid rfl
    have N0 := three_news w (al) (ah) (bl) (bh) (0) (0)
    go_enter Tryd.func64, Tryd.ntmps64
    go_wp2_with fail
    unfold sO at N0
    generalize (((w.alloc (.cells #[.int .i64 al, .int .i64 ah] 46)).alloc (.cells #[.int .i64 bl, .int .i64 bh] 46)).alloc (.cells #[.int .i64 0, .int .i64 0] 46)) = v0 at N0 ⊢
    have D0 := Lib.hid (Below.refl v0.heap.size v0)
    refine (l9Shift10_any _ _ _ _ _ a1 a2 a3 b1 b2 b3).mono ?_
    rintro e v1 ⟨rfl, hb⟩
    have D1 := Lib.hid (Below.tr D0.out hb)
    clear hb
    have k2 := (SB.below N0.out.2.2.1 D1.out).c0
    have m2 := (SB.below N0.out.2.2.1 D1.out).c1
    have f2 := (SB.below N0.out.2.2.1 D1.out).f 0
    have j2 := (SB.below N0.out.2.2.1 D1.out).f 1
    go_wp2
    refine shut0 ((SB.below N0.out.2.2.1 D1.out).set2) (belowS2 (Below.tr N0.out.2.2.2 D1.out) (by omega)) ?_ ?_
    · intro c0 c1; simp [results, Tryd.results64, go_sem, c0, c1]
    · rw [E.out]

set_option maxRecDepth 100000 in
set_option maxHeartbeats 4000000 in
theorem doM_any (op al ah bl bh : Int) (w : World) :
    Calls Tryd.prog 21 #[.int .i64 op, .agg #[.int .i64 al, .int .i64 ah], .agg #[.int .i64 bl, .int .i64 bh]] w fun e w' => e = .returned (.tuple #[.agg #[.int .i64 (doR op ⟨al, ah⟩ ⟨bl, bh⟩).1.lo, .int .i64 (doR op ⟨al, ah⟩ ⟨bl, bh⟩).1.hi], .bool (doR op ⟨al, ah⟩ ⟨bl, bh⟩).2]) ∧ Below w.heap.size w w' := by
  obtain ⟨g0, hg0⟩ : ∃ g, isOp op = g := ⟨_, rfl⟩
  have G0 := Lib.hid hg0
  clear hg0
  obtain ⟨g1, hg1⟩ : ∃ g, goodS ⟨al, ah⟩ = g := ⟨_, rfl⟩
  have G1 := Lib.hid hg1
  clear hg1
  obtain ⟨g2, hg2⟩ : ∃ g, goodS ⟨bl, bh⟩ = g := ⟨_, rfl⟩
  have G2 := Lib.hid hg2
  clear hg2
  have N0 := three_news w (al) (ah) (bl) (bh) (0) (0)
  go_enter Tryd.func21, Tryd.ntmps21
  go_wp2_with fail
  unfold sO at N0
  generalize (((w.alloc (.cells #[.int .i64 al, .int .i64 ah] 46)).alloc (.cells #[.int .i64 bl, .int .i64 bh] 46)).alloc (.cells #[.int .i64 0, .int .i64 0] 46)) = v0 at N0 ⊢
  have D0 := Lib.hid (Below.refl v0.heap.size v0)
  refine (l1In_any _ _ _ _ g0 G0.out).mono ?_
  rintro e v9 ⟨rfl, rfl⟩
  have k0 := (SB.below N0.out.1 D0.out).c0
  have m0 := (SB.below N0.out.1 D0.out).c1
  have k1 := (SB.below N0.out.2.1 D0.out).c0
  have m1 := (SB.below N0.out.2.1 D0.out).c1
  have k2 := (SB.below N0.out.2.2.1 D0.out).c0
  have m2 := (SB.below N0.out.2.2.1 D0.out).c1
  have f2 := (SB.below N0.out.2.2.1 D0.out).f 0
  have j2 := (SB.below N0.out.2.2.1 D0.out).f 1
  cases g0
  · go_wp2
    refine shut1 (ok := false) ((SB.below N0.out.2.2.1 D0.out).set2) (belowS2 (Below.tr N0.out.2.2.2 D0.out) (by omega)) ?_ ?_
    · intro c0 c1; simp [results, Tryd.results21, go_sem, c0, c1]
    · rw [doR_no (by rw [G0.out]; rfl)]
  · go_wp2_with fail
    refine (l9Two_any _ _ _ _ _).mono ?_
    rw [G1.out, G2.out]
    rintro e v1 ⟨rfl, hb⟩
    have D1 := Lib.hid (Below.tr D0.out hb)
    clear hb
    have k0 := (SB.below N0.out.1 D1.out).c0
    have m0 := (SB.below N0.out.1 D1.out).c1
    have k1 := (SB.below N0.out.2.1 D1.out).c0
    have m1 := (SB.below N0.out.2.1 D1.out).c1
    have k2 := (SB.below N0.out.2.2.1 D1.out).c0
    have m2 := (SB.below N0.out.2.2.1 D1.out).c1
    have f2 := (SB.below N0.out.2.2.1 D1.out).f 0
    have j2 := (SB.below N0.out.2.2.1 D1.out).f 1
    cases hgg : (g1 && g2)
    · have GG := Lib.hid hgg
      go_wp2
      refine shut1 (ok := false) ((SB.below N0.out.2.2.1 D1.out).set2) (belowS2 (Below.tr N0.out.2.2.2 D1.out) (by omega)) ?_ ?_
      · intro c0 c1; simp [results, Tryd.results21, go_sem, c0, c1]
      · rw [doR_no (by rw [G0.out, G1.out, G2.out]; exact GG.out)]
    · simp only [Bool.and_eq_true] at hgg
      obtain ⟨rfl, rfl⟩ := hgg
      obtain ⟨a1, a2, a3⟩ := goodS_yes G1.out
      obtain ⟨b1, b2, b3⟩ := goodS_yes G2.out
      simp only at a1 a2 a3 b1 b2 b3
      obtain ⟨o1, o2⟩ : 1 ≤ op ∧ op ≤ 10 := by simpa [isOp] using G0.out
      go_wp2_with fail
      refine (l9Do_any _ _ _ _ _ _ a1 a2 a3 b1 b2 b3 o1 o2).mono ?_
      rintro e v2 ⟨rfl, hb⟩
      have D2 := Lib.hid (Below.tr D1.out hb)
      clear hb
      have k2 := (SB.below N0.out.2.2.1 D2.out).c0
      have m2 := (SB.below N0.out.2.2.1 D2.out).c1
      have f2 := (SB.below N0.out.2.2.1 D2.out).f 0
      have j2 := (SB.below N0.out.2.2.1 D2.out).f 1
      go_wp2
      refine shut1 (ok := true) ((SB.below N0.out.2.2.1 D2.out).set2) (belowS2 (Below.tr N0.out.2.2.2 D2.out) (by omega)) ?_ ?_
      · intro c0 c1; simp [results, Tryd.results21, go_sem, c0, c1]
      · rw [doR_yes G0.out G1.out G2.out]

end Go.Proofs.YtkffggnajoohfaaDoor.Op
