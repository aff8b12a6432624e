/-
  Contracts of chapter 9: quotients, remainders, shifts of intervals.
-/
import Derived.Test.YtkffggnajoohfaaDoorSt7
import Derived.Test.YtkffggnajoohfaaDoorStH
namespace Go.Proofs.YtkffggnajoohfaaDoor.Op
open Go.Proofs.YtkffggnajoohfaaDoor
open Go.ChangeShapes Go.WideShapes Go.ChangeAt Go.RowKit

def quoS (a b : St) : St := if b.lo = 0 then ⟨0, a.hi⟩ else ⟨a.lo / b.hi, a.hi / b.lo⟩
def modS (a b : St) : St := if a.hi < b.lo then a else if b.lo = 0 then ⟨0, a.hi⟩ else ⟨0, minI a.hi (b.hi - 1)⟩
def shlS (a b : St) : St := if b.lo = b.hi then wrapS (a.lo * sf b.lo) (a.hi * sf b.lo) else ⟨0, 65535⟩
def shrS (a b : St) : St := if b.lo = b.hi then ⟨a.lo / sf b.lo, a.hi / sf b.lo⟩ else ⟨0, a.hi⟩

set_option maxRecDepth 100000 in
set_option maxHeartbeats 4000000 in
theorem quoI_any (al ah bl bh : Int) (w : World) (a1 : 0 ≤ al) (a2 : al ≤ ah) (a3 : ah < 65536) (b1 : 0 ≤ bl) (b2 : bl ≤ bh) (b3 : bh < 65536) :
    Calls Tryd.prog 57 #[.agg #[.int .i64 al, .int .i64 ah], .agg #[.int .i64 bl, .int .i64 bh]] w fun e w' => e = .returned (.agg #[.int .i64 (quoS ⟨al, ah⟩ ⟨bl, bh⟩).lo, .int .i64 (quoS ⟨al, ah⟩ ⟨bl, bh⟩).hi]) ∧ Below w.heap.size w w' := by
  by_cases hb : bl = 0
  · skip
    have e1 : (bl == 0) = true := by simp [hb]
    have E : Hid (quoS ⟨al, ah⟩ ⟨bl, bh⟩ = ⟨0, ah⟩) := Lib.hid (by unfold quoS; exact if_pos hb)
    clear hb
    have N0 := three_news w (al) (ah) (bl) (bh) (0) (0)
    go_enter Tryd.func57, Tryd.ntmps57
    go_wp2_with fail
    unfold sO at N0
    generalize (((w.alloc (.cells #[.int .i64 al, .int .i64 ah] 46)).alloc (.cells #[.int .i64 bl, .int .i64 bh] 46)).alloc (.cells #[.int .i64 0, .int .i64 0] 46)) = v0 at N0 ⊢
    have D0 := Lib.hid (Below.refl v0.heap.size v0)
    refine (upTo_any ah _).mono ?_
    rintro e v1 ⟨rfl, hb⟩
    have D1 := Lib.hid (Below.tr D0.out hb)
    clear hb
    have k2 := (SB.below N0.out.2.2.1 D1.out).c0
    have m2 := (SB.below N0.out.2.2.1 D1.out).c1
    have f2 := (SB.below N0.out.2.2.1 D1.out).f 0
    have j2 := (SB.below N0.out.2.2.1 D1.out).f 1
    go_wp2
    refine shut0 ((SB.below N0.out.2.2.1 D1.out).set2) (belowS2 (Below.tr N0.out.2.2.2 D1.out) (by omega)) ?_ ?_
    · intro c0 c1; simp [results, Tryd.results57, go_sem, c0, c1]
    · rw [E.out]
  · skip
    have e1 : (bl == 0) = false := by simp [hb]
    have nb1 : ¬ (bl = 0) := hb
    have nb2 : ¬ (bh = 0) := by omega
    have E : Hid (quoS ⟨al, ah⟩ ⟨bl, bh⟩ = ⟨al / bh, ah / bl⟩) := Lib.hid (by unfold quoS; exact if_neg hb)
    clear hb
    have N0 := three_news w (al) (ah) (bl) (bh) (0) (0)
    go_enter Tryd.func57, Tryd.ntmps57
    go_wp2_with fail
    unfold sO at N0
    generalize (((w.alloc (.cells #[.int .i64 al, .int .i64 ah] 46)).alloc (.cells #[.int .i64 bl, .int .i64 bh] 46)).alloc (.cells #[.int .i64 0, .int .i64 0] 46)) = v0 at N0 ⊢
    have D0 := Lib.hid (Below.refl v0.heap.size v0)
    have k0 := (SB.below N0.out.1 D0.out).c0
    have m0 := (SB.below N0.out.1 D0.out).c1
    have k1 := (SB.below N0.out.2.1 D0.out).c0
    have m1 := (SB.below N0.out.2.1 D0.out).c1
    have k2 := (SB.below N0.out.2.2.1 D0.out).c0
    have m2 := (SB.below N0.out.2.2.1 D0.out).c1
    have f2 := (SB.below N0.out.2.2.1 D0.out).f 0
    have j2 := (SB.below N0.out.2.2.1 D0.out).f 1
    go_region
    go_wp2
    refine shut0 (((SB.below N0.out.2.2.1 D0.out).set2).below ((Below.refl _ _).drew)) (Below.tr (belowS2 (Below.tr N0.out.2.2.2 D0.out) (by omega)) ((Below.refl _ _).drew)) ?_ ?_
    · intro c0 c1; simp [results, Tryd.results57, go_sem, c0, c1]
    · rw [E.out]

set_option maxRecDepth 100000 in
set_option maxHeartbeats 4000000 in
theorem modI_any (al ah bl bh : Int) (w : World) (a1 : 0 ≤ al) (a2 : al ≤ ah) (a3 : ah < 65536) (b1 : 0 ≤ bl) (b2 : bl ≤ bh) (b3 : bh < 65536) :
    Calls Tryd.prog 58 #[.agg #[.int .i64 al, .int .i64 ah], .agg #[.int .i64 bl, .int .i64 bh]] w fun e w' => e = .returned (.agg #[.int .i64 (modS ⟨al, ah⟩ ⟨bl, bh⟩).lo, .int .i64 (modS ⟨al, ah⟩ ⟨bl, bh⟩).hi]) ∧ Below w.heap.size w w' := by
  have q0 := run_min ah (bh - 1)
  by_cases h1 : ah < bl
  · skip
    have E : Hid (modS ⟨al, ah⟩ ⟨bl, bh⟩ = ⟨al, ah⟩) := Lib.hid (by unfold modS; exact if_pos h1)
    have N0 := three_news w al ah bl bh 0 0
    go_enter Tryd.func58, Tryd.ntmps58
    go_wp2
    have N1 := three_news w al ah bl bh al ah
    unfold sO at N1
    refine shut0 N1.out.2.2.1 N1.out.2.2.2 ?_ (by rw [E.out])
    intro c0 c1; simp [results, Tryd.results58, go_sem, c0, c1]
  · by_cases hb : bl = 0
    · skip
      have e1 : (bl == 0) = true := by simp [hb]
      have e2 : ¬ (0 < bl) := by omega
      have E : Hid (modS ⟨al, ah⟩ ⟨bl, bh⟩ = ⟨0, ah⟩) := Lib.hid (by unfold modS; rw [if_neg h1, if_pos hb])
      clear hb
      have N0 := three_news w (al) (ah) (bl) (bh) (0) (0)
      go_enter Tryd.func58, Tryd.ntmps58
      go_wp2_with fail
      unfold sO at N0
      generalize (((w.alloc (.cells #[.int .i64 al, .int .i64 ah] 46)).alloc (.cells #[.int .i64 bl, .int .i64 bh] 46)).alloc (.cells #[.int .i64 0, .int .i64 0] 46)) = v0 at N0 ⊢
      have D0 := Lib.hid (Below.refl v0.heap.size v0)
      refine (upTo_any ah _).mono ?_
      rintro e v1 ⟨rfl, hb⟩
      have D1 := Lib.hid (Below.tr D0.out hb)
      clear hb
      have k2 := (SB.below N0.out.2.2.1 D1.out).c0
      have m2 := (SB.below N0.out.2.2.1 D1.out).c1
      have f2 := (SB.below N0.out.2.2.1 D1.out).f 0
      have j2 := (SB.below N0.out.2.2.1 D1.out).f 1
      go_wp2
      refine shut0 ((SB.below N0.out.2.2.1 D1.out).set2) (belowS2 (Below.tr N0.out.2.2.2 D1.out) (by omega)) ?_ ?_
      · intro c0 c1; simp [results, Tryd.results58, go_sem, c0, c1]
      · rw [E.out]
    · skip
      have e1 : (bl == 0) = false := by simp [hb]
      have e2 : 0 < bl := by omega
      have E : Hid (modS ⟨al, ah⟩ ⟨bl, bh⟩ = ⟨0, minI ah (bh - 1)⟩) := Lib.hid (by unfold modS; rw [if_neg h1, if_neg hb])
      clear hb
      have N0 := three_news w (al) (ah) (bl) (bh) (0) (0)
      go_enter Tryd.func58, Tryd.ntmps58
      go_wp2_with fail
      unfold sO at N0
      generalize (((w.alloc (.cells #[.int .i64 al, .int .i64 ah] 46)).alloc (.cells #[.int .i64 bl, .int .i64 bh] 46)).alloc (.cells #[.int .i64 0, .int .i64 0] 46)) = v0 at N0 ⊢
      have D0 := Lib.hid (Below.refl v0.heap.size v0)
      refine (upTo_any (minI ah (bh - 1)) _).mono ?_
      rintro e v1 ⟨rfl, hb⟩
      have D1 := Lib.hid (Below.tr D0.out hb)
      clear hb
      have k2 := (SB.below N0.out.2.2.1 D1.out).c0
      have m2 := (SB.below N0.out.2.2.1 D1.out).c1
      have f2 := (SB.below N0.out.2.2.1 D1.out).f 0
      have j2 := (SB.below N0.out.2.2.1 D1.out).f 1
      go_wp2
      refine shut0 ((SB.below N0.out.2.2.1 D1.out).set2) (belowS2 (Below.tr N0.out.2.2.2 D1.out) (by omega)) ?_ ?_
      · intro c0 c1; simp [results, Tryd.results58, go_sem, c0, c1]
      · rw [E.out]

set_option maxRecDepth 100000 in
set_option maxHeartbeats 4000000 in
theorem l9Mod_any (al ah bl bh : Int) (w : World) (a1 : 0 ≤ al) (a2 : al ≤ ah) (a3 : ah < 65536) (b1 : 0 ≤ bl) (b2 : bl ≤ bh) (b3 : bh < 65536) :
    Calls Tryd.prog 92 #[.agg #[.int .i64 al, .int .i64 ah], .agg #[.int .i64 bl, .int .i64 bh]] w fun e w' => e = .returned (.agg #[.int .i64 (modS ⟨al, ah⟩ ⟨bl, bh⟩).lo, .int .i64 (modS ⟨al, ah⟩ ⟨bl, bh⟩).hi]) ∧ Below w.heap.size w w' := by
  by_cases h1 : ah < bl
  · skip
    have E : Hid (modS ⟨al, ah⟩ ⟨bl, bh⟩ = ⟨al, ah⟩) := Lib.hid (by unfold modS; exact if_pos h1)
    have N0 := three_news w al ah bl bh 0 0
    go_enter Tryd.func92, Tryd.ntmps92
    go_wp2
    have N1 := three_news w al ah bl bh al ah
    unfold sO at N1
    refine shut0 N1.out.2.2.1 N1.out.2.2.2 ?_ (by rw [E.out])
    intro c0 c1; simp [results, Tryd.results92, go_sem, c0, c1]
  · by_cases hb : bl = 0
    · skip
      have e1 : (bl == 0) = true := by simp [hb]
      have e2 : ¬ (0 < bl) := by omega
      have E : Hid (modS ⟨al, ah⟩ ⟨bl, bh⟩ = ⟨0, ah⟩) := Lib.hid (by unfold modS; rw [if_neg h1, if_pos hb])
      clear hb
      go_enter Tryd.func92, Tryd.ntmps92
      go_wp2
      have N1 := three_news w al ah bl bh 0 ah
      unfold sO at N1
      refine shut0 N1.out.2.2.1 N1.out.2.2.2 ?_ (by rw [E.out])
      intro c0 c1; simp [results, Tryd.results92, go_sem, c0, c1]
    · skip
      have e1 : (bl == 0) = false := by simp [hb]
      have e2 : 0 < bl := by omega
      have E : Hid (modS ⟨al, ah⟩ ⟨bl, bh⟩ = ⟨0, minI ah (bh - 1)⟩) := Lib.hid (by unfold modS; rw [if_neg h1, if_neg hb])
      clear hb
      have N0 := three_news w (al) (ah) (bl) (bh) (0) (0)
      go_enter Tryd.func92, Tryd.ntmps92
      go_wp2_with fail
      unfold sO at N0
      generalize (((w.alloc (.cells #[.int .i64 al, .int .i64 ah] 46)).alloc (.cells #[.int .i64 bl, .int .i64 bh] 46)).alloc (.cells #[.int .i64 0, .int .i64 0] 46)) = v0 at N0 ⊢
      have D0 := Lib.hid (Below.refl v0.heap.size v0)
      refine (l1Least_any _ _ _).mono ?_
      rintro e v9 ⟨rfl, rfl⟩
      have k2 := (SB.below N0.out.2.2.1 D0.out).c0
      have m2 := (SB.below N0.out.2.2.1 D0.out).c1
      have f2 := (SB.below N0.out.2.2.1 D0.out).f 0
      have j2 := (SB.below N0.out.2.2.1 D0.out).f 1
      go_wp2
      refine shut0 ((SB.below N0.out.2.2.1 D0.out).set2) (belowS2 (Below.tr N0.out.2.2.2 D0.out) (by omega)) ?_ ?_
      · intro c0 c1; simp [results, Tryd.results92, go_sem, c0, c1]
      · rw [E.out]

end Go.Proofs.YtkffggnajoohfaaDoor.Op
