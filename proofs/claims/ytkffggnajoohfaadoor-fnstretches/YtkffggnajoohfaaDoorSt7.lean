/-
  Contracts of chapter 9: the helpers of DoStretch.
-/
import Derived.Test.YtkffggnajoohfaaDoorSt2
import Derived.Test.YtkffggnajoohfaaDoorOnes
namespace Go.Proofs.YtkffggnajoohfaaDoor.Op
open Go.Proofs.YtkffggnajoohfaaDoor
open Go.ChangeShapes Go.WideShapes Go.ChangeAt Go.RowKit

set_option maxRecDepth 100000 in
set_option maxHeartbeats 400000 in
theorem everyI_any (w : World) : Calls Tryd.prog 89 #[] w fun e w' => e = .returned (.agg #[.int .i64 0, .int .i64 65535]) ∧ Below w.heap.size w w' := by
  have N0 := one_news w 0 0
  go_enter Tryd.func89, Tryd.ntmps89
  go_wp2_with fail
  unfold sO at N0
  generalize (w.alloc (.cells #[.int .i64 0, .int .i64 0] 46)) = v0 at N0 ⊢
  refine (upTo_any 65535 _).mono ?_
  rintro e v1 ⟨rfl, hb⟩
  have k0 := (SB.below N0.out.1 hb).c0
  have m0 := (SB.below N0.out.1 hb).c1
  have f0 := (SB.below N0.out.1 hb).f 0
  have j0 := (SB.below N0.out.1 hb).f 1
  have D1 := Lib.hid hb
  clear hb
  go_wp2
  refine shut0 (SB.set2 (SB.below N0.out.1 D1.out)) (belowS2 (Below.tr N0.out.2 D1.out) (by omega)) ?_ ?_
  · intro c0 c1; simp [results, Tryd.results89, go_sem, c0, c1]
  · rfl
set_option maxRecDepth 100000 in
set_option maxHeartbeats 400000 in
theorem l9All_any (w : World) : Calls Tryd.prog 109 #[] w fun e w' => e = .returned (.agg #[.int .i64 0, .int .i64 65535]) ∧ Below w.heap.size w w' := by
  go_enter Tryd.func109, Tryd.ntmps109
  go_wp2
  exact bodyPost_ret (v := .agg #[.int .i64 0, .int .i64 65535]) (by simp [results, Tryd.results109, go_sem]) rfl ⟨rfl, below1 _ _⟩
set_option maxRecDepth 100000 in
set_option maxHeartbeats 400000 in
theorem l9Floor_any (n : Int) (w : World) (h1 : -1000000000000 ≤ n) (h2 : n ≤ 1000000000000) : Calls Tryd.prog 108 #[.int .i64 n] w fun e w' => e = .returned (.int .i64 (n / 65536)) ∧ w = w' := by
  obtain ⟨x, hx⟩ : ∃ x, wd n = x := ⟨_, rfl⟩
  have hb := wd_lt n
  have HX := Lib.hid hx
  rw [hx] at hb
  clear hx
  go_enter Tryd.func108, Tryd.ntmps108
  go_wp2_with (go_at_call 102; refine (l1Wrap_any _ _).mono ?_; rw [HX.out]; rintro e w' ⟨rfl, rfl⟩)
  go_ret
  exact ⟨ret_int (by
    have e := HX.out
    unfold wd at e
    have hd : n - x = n / 65536 * 65536 := by omega
    rw [hd]
    first | exact Int.mul_ediv_cancel _ (by decide) | exact Int.mul_tdiv_cancel _ (by decide) | (simp; omega)), rfl⟩

set_option maxRecDepth 100000 in
set_option maxHeartbeats 2000000 in
theorem wrapI_any (l h : Int) (w : World) (l1 : -1000000000000 ≤ l) (l2 : l ≤ 1000000000000) (h1 : -1000000000000 ≤ h) (h2 : h ≤ 1000000000000) :
    Calls Tryd.prog 56 #[.int .i64 l, .int .i64 h] w fun e w' => e = .returned (.agg #[.int .i64 (wrapS l h).lo, .int .i64 (wrapS l h).hi]) ∧ Below w.heap.size w w' := by
  obtain ⟨x, hx⟩ : ∃ x, wd l = x := ⟨_, rfl⟩
  obtain ⟨y, hy⟩ : ∃ y, wd h = y := ⟨_, rfl⟩
  have bx := wd_lt l
  have bY := wd_lt h
  rw [hx] at bx
  rw [hy] at bY
  have HX := Lib.hid hx
  have HY := Lib.hid hy
  by_cases hq : l / 65536 = h / 65536
  · have E : Hid (wrapS l h = ⟨x, y⟩) := Lib.hid (by unfold wrapS; rw [if_pos hq, hx, hy])
    have ne : (l - x != h - y) = false := by unfold wd at hx hy; simp; omega
    clear hx hy hq
    have N0 := one_news w (0) (0)
    go_enter Tryd.func56, Tryd.ntmps56
    go_wp2_with (go_at_call 67; refine (wordOf_any _ _).mono ?_; rintro e w' ⟨rfl, rfl⟩; first | rw [HX.out] | rw [HY.out])
    refine shut0 (SB.below (SB.new w x y) (below1 _ _)) (below2 _ _ _) ?_ (by rw [E.out])
    intro c0 c1; simp [results, Tryd.results56, go_sem, c0, c1]
  · have E : Hid (wrapS l h = ⟨0, 65535⟩) := Lib.hid (by unfold wrapS; rw [if_neg hq])
    have ne : (l - x != h - y) = true := by unfold wd at hx hy; simp; omega
    clear hx hy hq
    have N0 := one_news w (0) (0)
    go_enter Tryd.func56, Tryd.ntmps56
    go_wp2_with (first | (go_at_call 67; refine (wordOf_any _ _).mono ?_; rintro e w' ⟨rfl, rfl⟩; first | rw [HX.out] | rw [HY.out]) | fail)
    have N2 := two_news w 0 0 x y
    unfold sO at N2
    generalize ((w.alloc (.cells #[.int .i64 0, .int .i64 0] 46)).alloc (.cells #[.int .i64 x, .int .i64 y] 46)) = v0 at N2 ⊢
    refine (everyI_any _).mono ?_
    rintro e v1 ⟨rfl, hb⟩
    have k0 := (SB.below N2.out.1 hb).c0
    have m0 := (SB.below N2.out.1 hb).c1
    have f0 := (SB.below N2.out.1 hb).f 0
    have j0 := (SB.below N2.out.1 hb).f 1
    have D1 := Lib.hid hb
    clear hb
    go_wp2
    refine shut0 (SB.set2 (SB.below N2.out.1 D1.out)) (belowS2 (Below.tr N2.out.2.2 D1.out) (by omega)) ?_ (by rw [E.out])
    intro c0 c1; simp [results, Tryd.results56, go_sem, c0, c1]

set_option maxRecDepth 100000 in
set_option maxHeartbeats 2000000 in
theorem l9Ends_any (l h : Int) (w : World) (l1 : -1000000000000 ≤ l) (l2 : l ≤ 1000000000000) (h1 : -1000000000000 ≤ h) (h2 : h ≤ 1000000000000) :
    Calls Tryd.prog 91 #[.int .i64 l, .int .i64 h] w fun e w' => e = .returned (.agg #[.int .i64 (wrapS l h).lo, .int .i64 (wrapS l h).hi]) ∧ Below w.heap.size w w' := by
  obtain ⟨x, hx⟩ : ∃ x, wd l = x := ⟨_, rfl⟩
  obtain ⟨y, hy⟩ : ∃ y, wd h = y := ⟨_, rfl⟩
  have bx := wd_lt l
  have bY := wd_lt h
  rw [hx] at bx
  rw [hy] at bY
  have HX := Lib.hid hx
  have HY := Lib.hid hy
  by_cases hq : l / 65536 = h / 65536
  · have E : Hid (wrapS l h = ⟨x, y⟩) := Lib.hid (by unfold wrapS; rw [if_pos hq, hx, hy])
    have ne : (l / 65536 != h / 65536) = false := by simp [hq]
    have nd1 : -1000000000000 ≤ l / 65536 ∧ l / 65536 ≤ 1000000000000 := by omega
    clear hx hy hq
    have N0 := one_news w (0) (0)
    go_enter Tryd.func91, Tryd.ntmps91
    go_wp2_with (first | (go_at_call 108; refine (l9Floor_any _ _ (by omega) (by omega)).mono ?_; rintro e w' ⟨rfl, rfl⟩) | (go_at_call 102; refine (l1Wrap_any _ _).mono ?_; rintro e w' ⟨rfl, rfl⟩; first | rw [HX.out] | rw [HY.out]))
    refine shut0 (SB.new w x y) (below1 _ _) ?_ (by rw [E.out])
    intro c0 c1; simp [results, Tryd.results91, go_sem, c0, c1]
  · have E : Hid (wrapS l h = ⟨0, 65535⟩) := Lib.hid (by unfold wrapS; rw [if_neg hq])
    have ne : (l / 65536 != h / 65536) = true := by simp [hq]
    have nd1 : -1000000000000 ≤ l / 65536 ∧ l / 65536 ≤ 1000000000000 := by omega
    clear hx hy hq
    have N0 := one_news w (0) (0)
    go_enter Tryd.func91, Tryd.ntmps91
    go_wp2_with (first | (go_at_call 108; refine (l9Floor_any _ _ (by omega) (by omega)).mono ?_; rintro e w' ⟨rfl, rfl⟩) | fail)
    unfold sO at N0
    generalize (w.alloc (.cells #[.int .i64 0, .int .i64 0] 46)) = v0 at N0 ⊢
    have D0 := Lib.hid (Below.refl v0.heap.size v0)
    refine (l9All_any _).mono ?_
    rintro e v1 ⟨rfl, hb⟩
    have D1 := Lib.hid (Below.tr D0.out hb)
    clear hb
    have k0 := (SB.below N0.out.1 D1.out).c0
    have m0 := (SB.below N0.out.1 D1.out).c1
    have f0 := (SB.below N0.out.1 D1.out).f 0
    have j0 := (SB.below N0.out.1 D1.out).f 1
    go_wp2
    refine shut0 ((SB.below N0.out.1 D1.out).set2) (belowS2 (Below.tr N0.out.2 D1.out) (by omega)) ?_ ?_
    · intro c0 c1; simp [results, Tryd.results91, go_sem, c0, c1]
    · rw [E.out]

end Go.Proofs.YtkffggnajoohfaaDoor.Op
