/-
  Contracts of chapter 9: the model's functions over intervals.
-/
import Derived.Test.YtkffggnajoohfaaDoorSt2
namespace Go.Proofs.YtkffggnajoohfaaDoor.Op
open Go.Proofs.YtkffggnajoohfaaDoor
open Go.ChangeShapes Go.WideShapes Go.ChangeAt Go.RowKit

set_option maxRecDepth 100000 in
set_option maxHeartbeats 2000000 in
theorem l9Two_any (al ah bl bh : Int) (w : World) :
    Calls Tryd.prog 63 #[.agg #[.int .i64 al, .int .i64 ah], .agg #[.int .i64 bl, .int .i64 bh]] w fun e w' => e = .returned (.bool (goodS ⟨al, ah⟩ && goodS ⟨bl, bh⟩)) ∧ Below w.heap.size w w' := by
  obtain ⟨g1, hg1⟩ : ∃ g, goodS ⟨al, ah⟩ = g := ⟨_, rfl⟩
  have G1 := Lib.hid hg1
  clear hg1
  obtain ⟨g2, hg2⟩ : ∃ g, goodS ⟨bl, bh⟩ = g := ⟨_, rfl⟩
  have G2 := Lib.hid hg2
  clear hg2
  have N0 := two_news w (al) (ah) (bl) (bh)
  go_enter Tryd.func63, Tryd.ntmps63
  go_wp2_with fail
  unfold sO at N0
  generalize ((w.alloc (.cells #[.int .i64 al, .int .i64 ah] 46)).alloc (.cells #[.int .i64 bl, .int .i64 bh] 46)) = v0 at N0 ⊢
  have D0 := Lib.hid (Below.refl v0.heap.size v0)
  refine (goodM_any _ _ _).mono ?_
  rw [G1.out]
  rintro e v1 ⟨rfl, hb⟩
  have D1 := Lib.hid (Below.tr D0.out hb)
  clear hb
  have k0 := (SB.below N0.out.1 D1.out).c0
  have m0 := (SB.below N0.out.1 D1.out).c1
  have k1 := (SB.below N0.out.2.1 D1.out).c0
  have m1 := (SB.below N0.out.2.1 D1.out).c1
  cases g1
  · go_wp2
    go_ret
    exact ⟨ret_bool (by rw [G1.out]; rfl), (Below.tr N0.out.2.2 D1.out)⟩
  · go_wp2_with fail
    refine (goodM_any _ _ _).mono ?_
    rw [G2.out]
    rintro e v2 ⟨rfl, hb⟩
    have D2 := Lib.hid (Below.tr D1.out hb)
    clear hb
    go_wp2
    go_ret
    exact ⟨ret_bool (by rw [G1.out, G2.out]; rfl), (Below.tr N0.out.2.2 D2.out)⟩

set_option maxRecDepth 100000 in
set_option maxHeartbeats 2000000 in
theorem inM_any (al ah n : Int) (w : World) :
    Calls Tryd.prog 29 #[.agg #[.int .i64 al, .int .i64 ah], .int .i64 n] w fun e w' => e = .returned (.tuple #[.bool (inR ⟨al, ah⟩ n).1, .bool (inR ⟨al, ah⟩ n).2]) ∧ Below w.heap.size w w' := by
  obtain ⟨g1, hg1⟩ : ∃ g, goodS ⟨al, ah⟩ = g := ⟨_, rfl⟩
  have G1 := Lib.hid hg1
  clear hg1
  obtain ⟨g2, hg2⟩ : ∃ g, isW n = g := ⟨_, rfl⟩
  have G2 := Lib.hid hg2
  clear hg2
  obtain ⟨g3, hg3⟩ : ∃ g, inSt ⟨al, ah⟩ n = g := ⟨_, rfl⟩
  have G3 := Lib.hid hg3
  clear hg3
  have N0 := one_news w (al) (ah)
  go_enter Tryd.func29, Tryd.ntmps29
  go_wp2_with fail
  unfold sO at N0
  generalize (w.alloc (.cells #[.int .i64 al, .int .i64 ah] 46)) = v0 at N0 ⊢
  have D0 := Lib.hid (Below.refl v0.heap.size v0)
  refine (goodM_any _ _ _).mono ?_
  rw [G1.out]
  rintro e v1 ⟨rfl, hb⟩
  have D1 := Lib.hid (Below.tr D0.out hb)
  clear hb
  have k0 := (SB.below N0.out.1 D1.out).c0
  have m0 := (SB.below N0.out.1 D1.out).c1
  cases g1
  · go_wp2
    go_ret2
    exact ⟨ret_bools (by simp [inR, G1.out]) (by simp [inR, G1.out]), (Below.tr N0.out.2 D1.out)⟩
  · go_wp2_with fail
    refine (l1Word_any _ _ _ G2.out).mono ?_
    rintro e v9 ⟨rfl, rfl⟩
    cases g2
    · go_wp2
      go_ret2
      exact ⟨ret_bools (by simp [inR, G1.out, G2.out]) (by simp [inR, G1.out, G2.out]), (Below.tr N0.out.2 D1.out)⟩
    · go_wp2_with fail
      refine (l1In_any _ _ _ _ g3 G3.out).mono ?_
      rintro e v9 ⟨rfl, rfl⟩
      go_wp2
      go_ret2
      exact ⟨ret_bools (by simp [inR, G1.out, G2.out, G3.out]) (by simp [inR, G1.out, G2.out]), (Below.tr N0.out.2 D1.out)⟩

set_option maxRecDepth 100000 in
set_option maxHeartbeats 2000000 in
theorem sizeM_any (al ah : Int) (w : World) :
    Calls Tryd.prog 30 #[.agg #[.int .i64 al, .int .i64 ah]] w fun e w' => e = .returned (.tuple #[.int .i64 (sizeR ⟨al, ah⟩).1, .bool (sizeR ⟨al, ah⟩).2]) ∧ Below w.heap.size w w' := by
  obtain ⟨g1, hg1⟩ : ∃ g, goodS ⟨al, ah⟩ = g := ⟨_, rfl⟩
  have G1 := Lib.hid hg1
  clear hg1
  have N0 := one_news w (al) (ah)
  go_enter Tryd.func30, Tryd.ntmps30
  go_wp2_with fail
  unfold sO at N0
  generalize (w.alloc (.cells #[.int .i64 al, .int .i64 ah] 46)) = v0 at N0 ⊢
  have D0 := Lib.hid (Below.refl v0.heap.size v0)
  refine (goodM_any _ _ _).mono ?_
  rw [G1.out]
  rintro e v1 ⟨rfl, hb⟩
  have D1 := Lib.hid (Below.tr D0.out hb)
  clear hb
  have k0 := (SB.below N0.out.1 D1.out).c0
  have m0 := (SB.below N0.out.1 D1.out).c1
  cases g1
  · go_wp2
    go_ret2
    exact ⟨ret_two (by simp [sizeR, G1.out]) (by simp [sizeR, G1.out]), (Below.tr N0.out.2 D1.out)⟩
  · obtain ⟨z1, z2, z3⟩ := goodS_yes G1.out
    simp only at z1 z2 z3
    go_wp2
    go_ret2
    exact ⟨ret_two (by simp [sizeR, G1.out, sizeSt]) (by simp [sizeR, G1.out]), (Below.tr N0.out.2 D1.out)⟩

end Go.Proofs.YtkffggnajoohfaaDoor.Op
