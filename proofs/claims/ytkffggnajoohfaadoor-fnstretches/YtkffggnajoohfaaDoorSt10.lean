/-
  Contracts of chapter 9: DoStretch of the program.
-/
import Derived.Test.YtkffggnajoohfaaDoorSt9
namespace Go.Proofs.YtkffggnajoohfaaDoor.Op
open Go.Proofs.YtkffggnajoohfaaDoor
open Go.ChangeShapes Go.WideShapes Go.ChangeAt Go.RowKit

theorem doR_yes {op : Int} {a b : St} (ho : isOp op = true) (h1 : goodS a = true) (h2 : goodS b = true) : doR op a b = (doSt op a b, true) := by
  unfold doR; rw [ho, h1, h2]; rfl
theorem doR_no {op : Int} {a b : St} (h : (isOp op && goodS a && goodS b) = false) : doR op a b = (⟨0, 0⟩, false) := by
  unfold doR; rw [h]; rfl
theorem doSt_4 (a b : St) : doSt 4 a b = quoS a b := rfl
theorem doSt_5 (a b : St) : doSt 5 a b = modS a b := rfl
theorem doSt_9 (a b : St) : doSt 9 a b = shlS a b := rfl
theorem doSt_10 (a b : St) : doSt 10 a b = shrS a b := rfl

set_option maxRecDepth 100000 in
set_option maxHeartbeats 16000000 in
theorem doI_any (op al ah bl bh : Int) (w : World) (HT : Hid (PowTab w)) :
    Calls Tryd.prog 20 #[.int .i64 op, .agg #[.int .i64 al, .int .i64 ah], .agg #[.int .i64 bl, .int .i64 bh]] w fun e w' => e = .returned (.tuple #[.agg #[.int .i64 (doR op ⟨al, ah⟩ ⟨bl, bh⟩).1.lo, .int .i64 (doR op ⟨al, ah⟩ ⟨bl, bh⟩).1.hi], .bool (doR op ⟨al, ah⟩ ⟨bl, bh⟩).2]) ∧ Below w.heap.size w w' := by
  obtain ⟨g1, hg1⟩ : ∃ g, goodS ⟨al, ah⟩ = g := ⟨_, rfl⟩
  have G1 := Lib.hid hg1
  clear hg1
  obtain ⟨g2, hg2⟩ : ∃ g, goodS ⟨bl, bh⟩ = g := ⟨_, rfl⟩
  have G2 := Lib.hid hg2
  clear hg2
  have q0 := run_min ah bh
  have q1 := run_max al bl
  have q2 := run_max ah bh
  have N0 := three_news w (al) (ah) (bl) (bh) (0) (0)
  go_enter Tryd.func20, Tryd.ntmps20
  go_wp2_with fail
  unfold sO at N0
  generalize (((w.alloc (.cells #[.int .i64 al, .int .i64 ah] 46)).alloc (.cells #[.int .i64 bl, .int .i64 bh] 46)).alloc (.cells #[.int .i64 0, .int .i64 0] 46)) = v0 at N0 ⊢
  have D0 := Lib.hid (Below.refl v0.heap.size v0)
  refine (goodI_any _ _ _).mono ?_
  rw [G1.out]
  rintro e v1 ⟨rfl, hb⟩
  have D1 := Lib.hid (Below.tr D0.out hb)
  clear hb
  have k0 := (SB.below N0.out.1 D1.out).c0
  have m0 := (SB.below N0.out.1 D1.out).c1
  have k1 := (SB.below N0.out.2.1 D1.out).c0
  have m1 := (SB.below N0.out.2.1 D1.out).c1
  have k2 := (SB.below N0.out.2.2.1 D1.out).c0
  have m2 := (SB.below N0.out.2.2.1 D1.out).c1
  have f2 := (SB.below N0.out.2.2.1 D1.out).f 0
  have j2 := (SB.below N0.out.2.2.1 D1.out).f 1
  cases g1
  · go_wp2
    refine shut1 (ok := false) ((SB.below N0.out.2.2.1 D1.out).set2) (belowS2 (Below.tr N0.out.2.2.2 D1.out) (by omega)) ?_ ?_
    · intro c0 c1; simp [results, Tryd.results20, go_sem, c0, c1]
    · rw [doR_no (by rw [G1.out]; simp)]
  · go_wp2_with fail
    refine (goodI_any _ _ _).mono ?_
    rw [G2.out]
    rintro e v2 ⟨rfl, hb⟩
    have D2 := Lib.hid (Below.tr D1.out hb)
    clear hb
    have k0 := (SB.below N0.out.1 D2.out).c0
    have m0 := (SB.below N0.out.1 D2.out).c1
    have k1 := (SB.below N0.out.2.1 D2.out).c0
    have m1 := (SB.below N0.out.2.1 D2.out).c1
    have k2 := (SB.below N0.out.2.2.1 D2.out).c0
    have m2 := (SB.below N0.out.2.2.1 D2.out).c1
    have f2 := (SB.below N0.out.2.2.1 D2.out).f 0
    have j2 := (SB.below N0.out.2.2.1 D2.out).f 1
    cases g2
    · go_wp2
      refine shut1 (ok := false) ((SB.below N0.out.2.2.1 D2.out).set2) (belowS2 (Below.tr N0.out.2.2.2 D2.out) (by omega)) ?_ ?_
      · intro c0 c1; simp [results, Tryd.results20, go_sem, c0, c1]
      · rw [doR_no (by rw [G2.out]; simp)]
    · obtain ⟨a1, a2, a3⟩ := goodS_yes G1.out
      obtain ⟨b1, b2, b3⟩ := goodS_yes G2.out
      simp only at a1 a2 a3 b1 b2 b3
      have p1 := mul_words al bl a1 (by omega) b1 (by omega)
      have p2 := mul_words ah bh (by omega) a3 (by omega) b3
      have p3 : 0 ≤ maxI ah bh ∧ maxI ah bh < 65536 := by unfold maxI; split <;> omega
      by_cases ho : 1 ≤ op ∧ op ≤ 10
      · obtain ⟨o1, o2⟩ := ho
        rcases (by omega : op = 1 ∨ op = 2 ∨ op = 3 ∨ op = 4 ∨ op = 5 ∨ op = 6 ∨ op = 7 ∨ op = 8 ∨ op = 9 ∨ op = 10) with rfl | rfl | rfl | rfl | rfl | rfl | rfl | rfl | rfl | rfl
        · skip
          have E : Hid (doR 1 ⟨al, ah⟩ ⟨bl, bh⟩ = (wrapS (al + bl) (ah + bh), true)) := Lib.hid (doR_yes (by decide) G1.out G2.out)
          go_wp2_with fail
          refine (wrapI_any (al + bl) (ah + bh) _ (by omega) (by omega) (by omega) (by omega)).mono ?_
          rintro e v3 ⟨rfl, hb⟩
          have D3 := Lib.hid (Below.tr D2.out hb)
          clear hb
          have k2 := (SB.below N0.out.2.2.1 D3.out).c0
          have m2 := (SB.below N0.out.2.2.1 D3.out).c1
          have f2 := (SB.below N0.out.2.2.1 D3.out).f 0
          have j2 := (SB.below N0.out.2.2.1 D3.out).f 1
          go_wp2
          refine shut1 (ok := true) ((SB.below N0.out.2.2.1 D3.out).set2) (belowS2 (Below.tr N0.out.2.2.2 D3.out) (by omega)) ?_ ?_
          · intro c0 c1; simp [results, Tryd.results20, go_sem, c0, c1]
          · rw [E.out]
        · skip
          have E : Hid (doR 2 ⟨al, ah⟩ ⟨bl, bh⟩ = (wrapS (al - bh) (ah - bl), true)) := Lib.hid (doR_yes (by decide) G1.out G2.out)
          go_wp2_with fail
          refine (wrapI_any (al - bh) (ah - bl) _ (by omega) (by omega) (by omega) (by omega)).mono ?_
          rintro e v3 ⟨rfl, hb⟩
          have D3 := Lib.hid (Below.tr D2.out hb)
          clear hb
          have k2 := (SB.below N0.out.2.2.1 D3.out).c0
          have m2 := (SB.below N0.out.2.2.1 D3.out).c1
          have f2 := (SB.below N0.out.2.2.1 D3.out).f 0
          have j2 := (SB.below N0.out.2.2.1 D3.out).f 1
          go_wp2
          refine shut1 (ok := true) ((SB.below N0.out.2.2.1 D3.out).set2) (belowS2 (Below.tr N0.out.2.2.2 D3.out) (by omega)) ?_ ?_
          · intro c0 c1; simp [results, Tryd.results20, go_sem, c0, c1]
          · rw [E.out]
        · skip
          have E : Hid (doR 3 ⟨al, ah⟩ ⟨bl, bh⟩ = (wrapS (al * bl) (ah * bh), true)) := Lib.hid (doR_yes (by decide) G1.out G2.out)
          go_wp2_with fail
          refine (wrapI_any (al * bl) (ah * bh) _ (by omega) (by omega) (by omega) (by omega)).mono ?_
          rintro e v3 ⟨rfl, hb⟩
          have D3 := Lib.hid (Below.tr D2.out hb)
          clear hb
          have k2 := (SB.below N0.out.2.2.1 D3.out).c0
          have m2 := (SB.below N0.out.2.2.1 D3.out).c1
          have f2 := (SB.below N0.out.2.2.1 D3.out).f 0
          have j2 := (SB.below N0.out.2.2.1 D3.out).f 1
          go_wp2
          refine shut1 (ok := true) ((SB.below N0.out.2.2.1 D3.out).set2) (belowS2 (Below.tr N0.out.2.2.2 D3.out) (by omega)) ?_ ?_
          · intro c0 c1; simp [results, Tryd.results20, go_sem, c0, c1]
          · rw [E.out]
        · skip
          have E : Hid (doR 4 ⟨al, ah⟩ ⟨bl, bh⟩ = (quoS ⟨al, ah⟩ ⟨bl, bh⟩, true)) := Lib.hid (doR_yes (by decide) G1.out G2.out)
          go_wp2_with fail
          refine (quoI_any _ _ _ _ _ a1 a2 a3 b1 b2 b3).mono ?_
          rintro e v3 ⟨rfl, hb⟩
          have D3 := Lib.hid (Below.tr D2.out hb)
          clear hb
          have k2 := (SB.below N0.out.2.2.1 D3.out).c0
          have m2 := (SB.below N0.out.2.2.1 D3.out).c1
          have f2 := (SB.below N0.out.2.2.1 D3.out).f 0
          have j2 := (SB.below N0.out.2.2.1 D3.out).f 1
          go_wp2
          refine shut1 (ok := true) ((SB.below N0.out.2.2.1 D3.out).set2) (belowS2 (Below.tr N0.out.2.2.2 D3.out) (by omega)) ?_ ?_
          · intro c0 c1; simp [results, Tryd.results20, go_sem, c0, c1]
          · rw [E.out]
        · skip
          have E : Hid (doR 5 ⟨al, ah⟩ ⟨bl, bh⟩ = (modS ⟨al, ah⟩ ⟨bl, bh⟩, true)) := Lib.hid (doR_yes (by decide) G1.out G2.out)
          go_wp2_with fail
          refine (modI_any _ _ _ _ _ a1 a2 a3 b1 b2 b3).mono ?_
          rintro e v3 ⟨rfl, hb⟩
          have D3 := Lib.hid (Below.tr D2.out hb)
          clear hb
          have k2 := (SB.below N0.out.2.2.1 D3.out).c0
          have m2 := (SB.below N0.out.2.2.1 D3.out).c1
          have f2 := (SB.below N0.out.2.2.1 D3.out).f 0
          have j2 := (SB.below N0.out.2.2.1 D3.out).f 1
          go_wp2
          refine shut1 (ok := true) ((SB.below N0.out.2.2.1 D3.out).set2) (belowS2 (Below.tr N0.out.2.2.2 D3.out) (by omega)) ?_ ?_
          · intro c0 c1; simp [results, Tryd.results20, go_sem, c0, c1]
          · rw [E.out]
        · skip
          have E : Hid (doR 6 ⟨al, ah⟩ ⟨bl, bh⟩ = (⟨0, minI ah bh⟩, true)) := Lib.hid (doR_yes (by decide) G1.out G2.out)
          go_wp2_with fail
          refine (upTo_any _ _).mono ?_
          rintro e v3 ⟨rfl, hb⟩
          have D3 := Lib.hid (Below.tr D2.out hb)
          clear hb
          have k2 := (SB.below N0.out.2.2.1 D3.out).c0
          have m2 := (SB.below N0.out.2.2.1 D3.out).c1
          have f2 := (SB.below N0.out.2.2.1 D3.out).f 0
          have j2 := (SB.below N0.out.2.2.1 D3.out).f 1
          go_wp2
          refine shut1 (ok := true) ((SB.below N0.out.2.2.1 D3.out).set2) (belowS2 (Below.tr N0.out.2.2.2 D3.out) (by omega)) ?_ ?_
          · intro c0 c1; simp [results, Tryd.results20, go_sem, c0, c1]
          · rw [E.out]
        · skip
          have E : Hid (doR 7 ⟨al, ah⟩ ⟨bl, bh⟩ = (⟨maxI al bl, onesN (maxI ah bh).toNat⟩, true)) := Lib.hid (doR_yes (by decide) G1.out G2.out)
          go_wp2_with fail
          refine wp_region_still_tail 12 (by kernel_rfl) (by kernel_rfl) ?_
          simp only [List.take_succ_cons, List.take_zero, List.drop_succ_cons, List.drop_zero]
          change wpStill _ _ (World.drew v2) _ _ _
          repeat still_step
          still_call ((ones_any (maxI ah bh) p3.1 p3.2 _).mono (fun e w' h => ⟨h.1, h.2.symm⟩))
          repeat still_step
          refine wpStill_nil ?_
          change wpList _ _ _ _ _ (World.drew v2)
          go_wp2
          refine shut1 (ok := true) (((SB.below N0.out.2.2.1 D2.out).set2).below ((Below.refl _ _).drew)) (Below.tr (belowS2 (Below.tr N0.out.2.2.2 D2.out) (by omega)) ((Below.refl _ _).drew)) ?_ ?_
          · intro c0 c1; simp [results, Tryd.results20, go_sem, c0, c1]
          · rw [E.out]
        · skip
          have E : Hid (doR 8 ⟨al, ah⟩ ⟨bl, bh⟩ = (⟨0, onesN (maxI ah bh).toNat⟩, true)) := Lib.hid (doR_yes (by decide) G1.out G2.out)
          go_wp2_with fail
          refine (ones_any (maxI ah bh) p3.1 p3.2 _).mono ?_
          rintro e v9 ⟨rfl, rfl⟩
          go_wp2_with fail
          refine (upTo_any _ _).mono ?_
          rintro e v3 ⟨rfl, hb⟩
          have D3 := Lib.hid (Below.tr D2.out hb)
          clear hb
          have k2 := (SB.below N0.out.2.2.1 D3.out).c0
          have m2 := (SB.below N0.out.2.2.1 D3.out).c1
          have f2 := (SB.below N0.out.2.2.1 D3.out).f 0
          have j2 := (SB.below N0.out.2.2.1 D3.out).f 1
          go_wp2
          refine shut1 (ok := true) ((SB.below N0.out.2.2.1 D3.out).set2) (belowS2 (Below.tr N0.out.2.2.2 D3.out) (by omega)) ?_ ?_
          · intro c0 c1; simp [results, Tryd.results20, go_sem, c0, c1]
          · rw [E.out]
        · skip
          have E : Hid (doR 9 ⟨al, ah⟩ ⟨bl, bh⟩ = (shlS ⟨al, ah⟩ ⟨bl, bh⟩, true)) := Lib.hid (doR_yes (by decide) G1.out G2.out)
          go_wp2_with fail
          refine (shlI_any _ _ _ _ _ a1 a2 a3 b1 b2 b3 (Lib.hid (HT.out.bel (Below.tr N0.out.2.2.2 D2.out)))).mono ?_
          rintro e v3 ⟨rfl, hb⟩
          have D3 := Lib.hid (Below.tr D2.out hb)
          clear hb
          have k2 := (SB.below N0.out.2.2.1 D3.out).c0
          have m2 := (SB.below N0.out.2.2.1 D3.out).c1
          have f2 := (SB.below N0.out.2.2.1 D3.out).f 0
          have j2 := (SB.below N0.out.2.2.1 D3.out).f 1
          go_wp2
          refine shut1 (ok := true) ((SB.below N0.out.2.2.1 D3.out).set2) (belowS2 (Below.tr N0.out.2.2.2 D3.out) (by omega)) ?_ ?_
          · intro c0 c1; simp [results, Tryd.results20, go_sem, c0, c1]
          · rw [E.out]
        · skip
          have E : Hid (doR 10 ⟨al, ah⟩ ⟨bl, bh⟩ = (shrS ⟨al, ah⟩ ⟨bl, bh⟩, true)) := Lib.hid (doR_yes (by decide) G1.out G2.out)
          go_wp2_with fail
          refine (shrI_any _ _ _ _ _ a1 a2 a3 b1 b2 b3 (Lib.hid (HT.out.bel (Below.tr N0.out.2.2.2 D2.out)))).mono ?_
          rintro e v3 ⟨rfl, hb⟩
          have D3 := Lib.hid (Below.tr D2.out hb)
          clear hb
          have k2 := (SB.below N0.out.2.2.1 D3.out).c0
          have m2 := (SB.below N0.out.2.2.1 D3.out).c1
          have f2 := (SB.below N0.out.2.2.1 D3.out).f 0
          have j2 := (SB.below N0.out.2.2.1 D3.out).f 1
          go_wp2
          refine shut1 (ok := true) ((SB.below N0.out.2.2.1 D3.out).set2) (belowS2 (Below.tr N0.out.2.2.2 D3.out) (by omega)) ?_ ?_
          · intro c0 c1; simp [results, Tryd.results20, go_sem, c0, c1]
          · rw [E.out]
      · have E : Hid (doR op ⟨al, ah⟩ ⟨bl, bh⟩ = (⟨0, 0⟩, false)) := Lib.hid (doR_no (by have h0 : isOp op = false := decide_eq_false ho; rw [h0]; rfl))
        have o1 : (op == 1) = false := beq_eq_false_iff_ne.2 (by omega)
        have o2 : (op == 2) = false := beq_eq_false_iff_ne.2 (by omega)
        have o3 : (op == 3) = false := beq_eq_false_iff_ne.2 (by omega)
        have o4 : (op == 4) = false := beq_eq_false_iff_ne.2 (by omega)
        have o5 : (op == 5) = false := beq_eq_false_iff_ne.2 (by omega)
        have o6 : (op == 6) = false := beq_eq_false_iff_ne.2 (by omega)
        have o7 : (op == 7) = false := beq_eq_false_iff_ne.2 (by omega)
        have o8 : (op == 8) = false := beq_eq_false_iff_ne.2 (by omega)
        have o9 : (op == 9) = false := beq_eq_false_iff_ne.2 (by omega)
        have o10 : (op == 10) = false := beq_eq_false_iff_ne.2 (by omega)
        clear ho
        go_wp2
        refine shut1 (ok := false) ((SB.below N0.out.2.2.1 D2.out).set2) (belowS2 (Below.tr N0.out.2.2.2 D2.out) (by omega)) ?_ ?_
        · intro c0 c1; simp [results, Tryd.results20, go_sem, c0, c1]
        · rw [E.out]

end Go.Proofs.YtkffggnajoohfaaDoor.Op
