/-
  The drawing of a step.
-/
import Derived.Test.YtilnegmjnbffhaaDoorDrawStep
namespace Go.Proofs.YtilnegmjnbffhaaDoor
open Go.ChangeShapes Go.WideShapes Go.ChangeAt Go.RowKit

theorem mul_bd {a b : Int} (h1 : 0 ≤ a) (h2 : a < 256) (h3 : 0 ≤ b) (h4 : b < 250) : 0 ≤ a * b ∧ a * b ≤ 65025 :=
  ⟨Int.mul_nonneg h1 h3, Int.le_trans (Int.mul_le_mul_of_nonneg_right (show a ≤ 255 by omega) h3) (by omega)⟩
/-- it answers a step -/
def GaveStepD (c K : Nat) (w : World) (e : Ending) (w' : World) : Prop :=
  ∃ y : Stp, e = .returned (.agg #[.int .i64 y.k, .int .i64 y.o, .int .i64 y.d, .int .i64 y.s, .int .i64 y.i, .int .i64 y.t]) ∧ Cur w' c K ∧ w.grownBy w' (some c)

theorem list17 (w : World) (A : Obj) : Hid ([1, 1, 2, 2, 2, 3, 3, 4, 5, 5, 6, 7, 7, 8, 9, 10, 10].length = 17 ∧ ∀ i : Nat, i < 17 → ((w.alloc A).alloc (.cells ([1, 1, 2, 2, 2, 3, 3, 4, 5, 5, 6, 7, 7, 8, 9, 10, 10].map fun z => Value.int .i64 z).toArray 3)).cell? ⟨w.heap.size + 1, i, none⟩ = some (.int .i64 ([1, 1, 2, 2, 2, 3, 3, 4, 5, 5, 6, 7, 7, 8, 9, 10, 10][i]?.getD 0))) := by
  refine ⟨rfl, fun i hi => ?_⟩
  have := cells_new (w.alloc A) [1, 1, 2, 2, 2, 3, 3, 4, 5, 5, 6, 7, 7, 8, 9, 10, 10] 3 i hi
  rw [World.size_alloc] at this
  exact this
/-- the step's own block, once it is laid -/
theorem dr_zero (w w1 : World) (l : Obj) (c : Nat) (hc : c < w.heap.size) (hg : ((w.alloc (.cells #[.int .i64 0, .int .i64 0, .int .i64 0, .int .i64 0, .int .i64 0, .int .i64 0] 67)).alloc l).grownBy w1 (some c)) :
    (∀ (n : Int) {K : Nat}, Cur w1 c K → Dr w c w1.heap.size K ⟨n, 0, 0, 0, 0, 0⟩ (w1.alloc (.cells #[.int .i64 n, .int .i64 0, .int .i64 0, .int .i64 0, .int .i64 0, .int .i64 0] 67))) ∧ w.heap.size < w1.heap.size := by
  have hs := hg.size
  simp only [World.size_alloc] at hs
  refine ⟨fun n K hcur => ⟨hcur.alloc _, ?_, heap_alloc_new w1 _, ?_, hc, by omega⟩, by omega⟩
  · show (w1.alloc _).heap[w.heap.size]? = _
    rw [Below.heap_alloc _ _ _ (by omega), hg.block w.heap.size (by simp only [World.size_alloc]; omega) (by simp; omega), Below.heap_alloc _ _ _ (by simp)]
    exact heap_alloc_new w _
  · exact grownC_trans (grownC_trans (grownC_trans (World.grownBy_alloc w _ _) (World.grownBy_alloc _ _ _)) hg) (World.grownBy_alloc _ _ _)

set_option maxRecDepth 100000 in
set_option maxHeartbeats 4000000 in
theorem step_any (c K : Nat) (room : Int) (w : World) (h : Hid (Cur w c K)) (hK : K ≤ 800000000000) (hr : 0 ≤ room ∧ room ≤ 1000) :
    Calls Tryd.prog 34 #[.pointer (some ⟨c, 0, none⟩), .int .i64 room] w (GaveStepD c (K + 20) w) := by
  have hcl := h.out.lt
  go_enter Tryd.func34, Tryd.ntmps34
  go_wp2_with fail
  refine (among_any c K (w.heap.size + 1) 17 [1, 1, 2, 2, 2, 3, 3, 4, 5, 5, 6, 7, 7, 8, 9, 10, 10] _ ((h.out.alloc _).alloc _) (by omega) (by omega) (by omega) (by omega) (list17 w _)).mono ?_
  rintro e w1 ⟨n0, hin, rfl, hc1, hg1⟩
  have C1 := Lib.hid hc1
  have G1 := Lib.hid hg1
  have Z1 := Lib.hid (dr_zero w w1 _ _ hcl hg1)
  have zlt := Z1.out.2
  clear hc1 hg1
  have hk : n0 = 1 ∨ n0 = 2 ∨ n0 = 3 ∨ n0 = 4 ∨ n0 = 5 ∨ n0 = 6 ∨ n0 = 7 ∨ n0 = 8 ∨ n0 = 9 ∨ n0 = 10 := by
    simp only [List.mem_cons, List.mem_nil_iff, or_false] at hin
    omega
  clear hin
  rcases hk with rfl | rfl | rfl | rfl | rfl | rfl | rfl | rfl | rfl | rfl
  · have D0 := Lib.hid (Z1.out.1 1 C1.out)
    go_wp2_with fail
    refine (pickD w c w1.heap.size (K + 2) ⟨1, 0, 0, 0, 0, 0⟩ _ _ D0 (by omega) (by omega) (by omega)).mono ?_
    rintro e v1 ⟨n1, ⟨l1, u1⟩, rfl, hd1⟩
    have P1 := Lib.hid hd1
    clear hd1
    obtain ⟨⟨x0, x1, x2, x3, x4, x5⟩, xf, ⟨r0, r1, r2, r3, r4, r5⟩, rf⟩ := P1.out.cells
    simp only [Nat.zero_add] at x1 x2 x3 x4 x5 r1 r2 r3 r4 r5
    have D1 := Lib.hid (P1.out.set 3 n1 ⟨1, 0, 0, n1, 0, 0⟩ rfl)
    go_wp2_with fail
    refine (pickD w c w1.heap.size (K + 4) ⟨1, 0, 0, n1, 0, 0⟩ _ _ D1 (by omega) (by omega) (by omega)).mono ?_
    rintro e v2 ⟨n2, ⟨l2, u2⟩, rfl, hd2⟩
    have P2 := Lib.hid hd2
    clear hd2 x0 x1 x2 x3 x4 x5 xf r0 r1 r2 r3 r4 r5 rf
    obtain ⟨⟨x0, x1, x2, x3, x4, x5⟩, xf, ⟨r0, r1, r2, r3, r4, r5⟩, rf⟩ := P2.out.cells
    simp only [Nat.zero_add] at x1 x2 x3 x4 x5 r1 r2 r3 r4 r5
    have D2 := Lib.hid (P2.out.set 2 n2 ⟨1, 0, n2, n1, 0, 0⟩ rfl)
    go_wp2_with fail
    refine (pickD w c w1.heap.size (K + 6) ⟨1, 0, n2, n1, 0, 0⟩ _ _ D2 (by omega) (by omega) (by omega)).mono ?_
    rintro e v3 ⟨n3, ⟨l3, u3⟩, rfl, hd3⟩
    have P3 := Lib.hid hd3
    clear hd3 x0 x1 x2 x3 x4 x5 xf r0 r1 r2 r3 r4 r5 rf
    obtain ⟨⟨x0, x1, x2, x3, x4, x5⟩, xf, ⟨r0, r1, r2, r3, r4, r5⟩, rf⟩ := P3.out.cells
    simp only [Nat.zero_add] at x1 x2 x3 x4 x5 r1 r2 r3 r4 r5
    have D3 := Lib.hid (P3.out.set 1 (1 + n3) ⟨1, (1 + n3), n2, n1, 0, 0⟩ rfl)
    clear x0 x1 x2 x3 x4 x5 xf r0 r1 r2 r3 r4 r5 rf
    obtain ⟨⟨x0, x1, x2, x3, x4, x5⟩, xf, ⟨r0, r1, r2, r3, r4, r5⟩, rf⟩ := P3.out.cells
    simp only [Nat.zero_add] at x1 x2 x3 x4 x5 r1 r2 r3 r4 r5
    go_wp2
    have FN := Lib.hid (D3.out.fin)
    exact bodyPost_ret (v := .agg #[.int .i64 1, .int .i64 (1 + n3), .int .i64 n2, .int .i64 n1, .int .i64 0, .int .i64 0]) (by simp [results, Tryd.results34, go_sem, r0, r1, r2, r3, r4, r5]) rfl ⟨⟨1, (1 + n3), n2, n1, 0, 0⟩, rfl, FN.out.1.mono (by omega), FN.out.2⟩
  · have D0 := Lib.hid (Z1.out.1 2 C1.out)
    go_wp2_with fail
    refine (pickD w c w1.heap.size (K + 2) ⟨2, 0, 0, 0, 0, 0⟩ _ _ D0 (by omega) (by omega) (by omega)).mono ?_
    rintro e v1 ⟨n1, ⟨l1, u1⟩, rfl, hd1⟩
    have P1 := Lib.hid hd1
    clear hd1
    obtain ⟨⟨x0, x1, x2, x3, x4, x5⟩, xf, ⟨r0, r1, r2, r3, r4, r5⟩, rf⟩ := P1.out.cells
    simp only [Nat.zero_add] at x1 x2 x3 x4 x5 r1 r2 r3 r4 r5
    have D1 := Lib.hid (P1.out.set 2 n1 ⟨2, 0, n1, 0, 0, 0⟩ rfl)
    go_wp2_with fail
    refine (pickD w c w1.heap.size (K + 4) ⟨2, 0, n1, 0, 0, 0⟩ _ _ D1 (by omega) (by omega) (by omega)).mono ?_
    rintro e v2 ⟨n2, ⟨l2, u2⟩, rfl, hd2⟩
    have P2 := Lib.hid hd2
    clear hd2 x0 x1 x2 x3 x4 x5 xf r0 r1 r2 r3 r4 r5 rf
    obtain ⟨⟨x0, x1, x2, x3, x4, x5⟩, xf, ⟨r0, r1, r2, r3, r4, r5⟩, rf⟩ := P2.out.cells
    simp only [Nat.zero_add] at x1 x2 x3 x4 x5 r1 r2 r3 r4 r5
    have D2 := Lib.hid (P2.out.set 1 (1 + n2) ⟨2, (1 + n2), n1, 0, 0, 0⟩ rfl)
    go_wp2_with fail
    refine (pickD w c w1.heap.size (K + 6) ⟨2, (1 + n2), n1, 0, 0, 0⟩ _ _ D2 (by omega) (by omega) (by omega)).mono ?_
    rintro e v3 ⟨n3, ⟨l3, u3⟩, rfl, hd3⟩
    have P3 := Lib.hid hd3
    clear hd3 x0 x1 x2 x3 x4 x5 xf r0 r1 r2 r3 r4 r5 rf
    obtain ⟨⟨x0, x1, x2, x3, x4, x5⟩, xf, ⟨r0, r1, r2, r3, r4, r5⟩, rf⟩ := P3.out.cells
    simp only [Nat.zero_add] at x1 x2 x3 x4 x5 r1 r2 r3 r4 r5
    go_wp2_with fail
    refine (amongD w c w1.heap.size (K + 8) ⟨2, (1 + n2), n1, 0, 0, 0⟩ [0, 1, 3, 7, 255, n3] 6 v3 P3 (by omega) rfl (by omega) (by omega)).mono ?_
    rintro e v4 ⟨n4, -, rfl, hd4⟩
    have P4 := Lib.hid hd4
    clear hd4 x0 x1 x2 x3 x4 x5 xf r0 r1 r2 r3 r4 r5 rf
    obtain ⟨⟨x0, x1, x2, x3, x4, x5⟩, xf, ⟨r0, r1, r2, r3, r4, r5⟩, rf⟩ := P4.out.cells
    simp only [Nat.zero_add] at x1 x2 x3 x4 x5 r1 r2 r3 r4 r5
    have D4 := Lib.hid (P4.out.set 4 n4 ⟨2, (1 + n2), n1, 0, n4, 0⟩ rfl)
    clear x0 x1 x2 x3 x4 x5 xf r0 r1 r2 r3 r4 r5 rf
    obtain ⟨⟨x0, x1, x2, x3, x4, x5⟩, xf, ⟨r0, r1, r2, r3, r4, r5⟩, rf⟩ := P4.out.cells
    simp only [Nat.zero_add] at x1 x2 x3 x4 x5 r1 r2 r3 r4 r5
    go_wp2
    have FN := Lib.hid (D4.out.fin)
    exact bodyPost_ret (v := .agg #[.int .i64 2, .int .i64 (1 + n2), .int .i64 n1, .int .i64 0, .int .i64 n4, .int .i64 0]) (by simp [results, Tryd.results34, go_sem, r0, r1, r2, r3, r4, r5]) rfl ⟨⟨2, (1 + n2), n1, 0, n4, 0⟩, rfl, FN.out.1.mono (by omega), FN.out.2⟩
  · have D0 := Lib.hid (Z1.out.1 3 C1.out)
    go_wp2_with fail
    refine (pickD w c w1.heap.size (K + 2) ⟨3, 0, 0, 0, 0, 0⟩ _ _ D0 (by omega) (by omega) (by omega)).mono ?_
    rintro e v1 ⟨n1, ⟨l1, u1⟩, rfl, hd1⟩
    have P1 := Lib.hid hd1
    clear hd1
    obtain ⟨⟨x0, x1, x2, x3, x4, x5⟩, xf, ⟨r0, r1, r2, r3, r4, r5⟩, rf⟩ := P1.out.cells
    simp only [Nat.zero_add] at x1 x2 x3 x4 x5 r1 r2 r3 r4 r5
    have D1 := Lib.hid (P1.out.set 2 n1 ⟨3, 0, n1, 0, 0, 0⟩ rfl)
    go_wp2_with fail
    refine (pickD w c w1.heap.size (K + 4) ⟨3, 0, n1, 0, 0, 0⟩ _ _ D1 (by omega) (by omega) (by omega)).mono ?_
    rintro e v2 ⟨n2, ⟨l2, u2⟩, rfl, hd2⟩
    have P2 := Lib.hid hd2
    clear hd2 x0 x1 x2 x3 x4 x5 xf r0 r1 r2 r3 r4 r5 rf
    obtain ⟨⟨x0, x1, x2, x3, x4, x5⟩, xf, ⟨r0, r1, r2, r3, r4, r5⟩, rf⟩ := P2.out.cells
    simp only [Nat.zero_add] at x1 x2 x3 x4 x5 r1 r2 r3 r4 r5
    go_wp2_with fail
    refine (amongD w c w1.heap.size (K + 6) ⟨3, 0, n1, 0, 0, 0⟩ [0, 1, 3, 7, 255, n2] 6 v2 P2 (by omega) rfl (by omega) (by omega)).mono ?_
    rintro e v3 ⟨n3, -, rfl, hd3⟩
    have P3 := Lib.hid hd3
    clear hd3 x0 x1 x2 x3 x4 x5 xf r0 r1 r2 r3 r4 r5 rf
    obtain ⟨⟨x0, x1, x2, x3, x4, x5⟩, xf, ⟨r0, r1, r2, r3, r4, r5⟩, rf⟩ := P3.out.cells
    simp only [Nat.zero_add] at x1 x2 x3 x4 x5 r1 r2 r3 r4 r5
    have D3 := Lib.hid (P3.out.set 4 n3 ⟨3, 0, n1, 0, n3, 0⟩ rfl)
    clear x0 x1 x2 x3 x4 x5 xf r0 r1 r2 r3 r4 r5 rf
    obtain ⟨⟨x0, x1, x2, x3, x4, x5⟩, xf, ⟨r0, r1, r2, r3, r4, r5⟩, rf⟩ := P3.out.cells
    simp only [Nat.zero_add] at x1 x2 x3 x4 x5 r1 r2 r3 r4 r5
    go_wp2
    have FN := Lib.hid (D3.out.fin)
    exact bodyPost_ret (v := .agg #[.int .i64 3, .int .i64 0, .int .i64 n1, .int .i64 0, .int .i64 n3, .int .i64 0]) (by simp [results, Tryd.results34, go_sem, r0, r1, r2, r3, r4, r5]) rfl ⟨⟨3, 0, n1, 0, n3, 0⟩, rfl, FN.out.1.mono (by omega), FN.out.2⟩
  · have D0 := Lib.hid (Z1.out.1 4 C1.out)
    go_wp2_with fail
    refine (pickD w c w1.heap.size (K + 2) ⟨4, 0, 0, 0, 0, 0⟩ _ _ D0 (by omega) (by omega) (by omega)).mono ?_
    rintro e v1 ⟨n1, ⟨l1, u1⟩, rfl, hd1⟩
    have P1 := Lib.hid hd1
    clear hd1
    obtain ⟨⟨x0, x1, x2, x3, x4, x5⟩, xf, ⟨r0, r1, r2, r3, r4, r5⟩, rf⟩ := P1.out.cells
    simp only [Nat.zero_add] at x1 x2 x3 x4 x5 r1 r2 r3 r4 r5
    have D1 := Lib.hid (P1.out.set 2 n1 ⟨4, 0, n1, 0, 0, 0⟩ rfl)
    go_wp2_with fail
    refine (pickD w c w1.heap.size (K + 4) ⟨4, 0, n1, 0, 0, 0⟩ _ _ D1 (by omega) (by omega) (by omega)).mono ?_
    rintro e v2 ⟨n2, ⟨l2, u2⟩, rfl, hd2⟩
    have P2 := Lib.hid hd2
    clear hd2 x0 x1 x2 x3 x4 x5 xf r0 r1 r2 r3 r4 r5 rf
    obtain ⟨⟨x0, x1, x2, x3, x4, x5⟩, xf, ⟨r0, r1, r2, r3, r4, r5⟩, rf⟩ := P2.out.cells
    simp only [Nat.zero_add] at x1 x2 x3 x4 x5 r1 r2 r3 r4 r5
    go_wp2_with fail
    refine (pickD w c w1.heap.size (K + 6) ⟨4, 0, n1, 0, 0, 0⟩ _ _ P2 (by omega) (by omega) (by omega)).mono ?_
    rintro e v3 ⟨n3, ⟨l3, u3⟩, rfl, hd3⟩
    have P3 := Lib.hid hd3
    clear hd3 x0 x1 x2 x3 x4 x5 xf r0 r1 r2 r3 r4 r5 rf
    obtain ⟨⟨x0, x1, x2, x3, x4, x5⟩, xf, ⟨r0, r1, r2, r3, r4, r5⟩, rf⟩ := P3.out.cells
    simp only [Nat.zero_add] at x1 x2 x3 x4 x5 r1 r2 r3 r4 r5
    have hab : 0 ≤ n2 * n3 ∧ n2 * n3 ≤ 65025 := mul_bd l2 u2 l3 u3
    go_wp2_with fail
    refine (amongD w c w1.heap.size (K + 8) ⟨4, 0, n1, 0, 0, 0⟩ [256, 65535, 256 + n2 * n3] 3 v3 P3 (by omega) rfl (by omega) (by omega)).mono ?_
    rintro e v4 ⟨n4, -, rfl, hd4⟩
    have P4 := Lib.hid hd4
    clear hd4 hab x0 x1 x2 x3 x4 x5 xf r0 r1 r2 r3 r4 r5 rf
    obtain ⟨⟨x0, x1, x2, x3, x4, x5⟩, xf, ⟨r0, r1, r2, r3, r4, r5⟩, rf⟩ := P4.out.cells
    simp only [Nat.zero_add] at x1 x2 x3 x4 x5 r1 r2 r3 r4 r5
    have D4 := Lib.hid (P4.out.set 4 n4 ⟨4, 0, n1, 0, n4, 0⟩ rfl)
    clear x0 x1 x2 x3 x4 x5 xf r0 r1 r2 r3 r4 r5 rf
    obtain ⟨⟨x0, x1, x2, x3, x4, x5⟩, xf, ⟨r0, r1, r2, r3, r4, r5⟩, rf⟩ := P4.out.cells
    simp only [Nat.zero_add] at x1 x2 x3 x4 x5 r1 r2 r3 r4 r5
    go_wp2
    have FN := Lib.hid (D4.out.fin)
    exact bodyPost_ret (v := .agg #[.int .i64 4, .int .i64 0, .int .i64 n1, .int .i64 0, .int .i64 n4, .int .i64 0]) (by simp [results, Tryd.results34, go_sem, r0, r1, r2, r3, r4, r5]) rfl ⟨⟨4, 0, n1, 0, n4, 0⟩, rfl, FN.out.1.mono (by omega), FN.out.2⟩
  · have D0 := Lib.hid (Z1.out.1 5 C1.out)
    go_wp2_with fail
    refine (pickD w c w1.heap.size (K + 2) ⟨5, 0, 0, 0, 0, 0⟩ _ _ D0 (by omega) (by omega) (by omega)).mono ?_
    rintro e v1 ⟨n1, ⟨l1, u1⟩, rfl, hd1⟩
    have P1 := Lib.hid hd1
    clear hd1
    obtain ⟨⟨x0, x1, x2, x3, x4, x5⟩, xf, ⟨r0, r1, r2, r3, r4, r5⟩, rf⟩ := P1.out.cells
    simp only [Nat.zero_add] at x1 x2 x3 x4 x5 r1 r2 r3 r4 r5
    have D1 := Lib.hid (P1.out.set 3 n1 ⟨5, 0, 0, n1, 0, 0⟩ rfl)
    go_wp2_with fail
    refine (pickD w c w1.heap.size (K + 4) ⟨5, 0, 0, n1, 0, 0⟩ _ _ D1 (by omega) (by omega) (by omega)).mono ?_
    rintro e v2 ⟨n2, ⟨l2, u2⟩, rfl, hd2⟩
    have P2 := Lib.hid hd2
    clear hd2 x0 x1 x2 x3 x4 x5 xf r0 r1 r2 r3 r4 r5 rf
    obtain ⟨⟨x0, x1, x2, x3, x4, x5⟩, xf, ⟨r0, r1, r2, r3, r4, r5⟩, rf⟩ := P2.out.cells
    simp only [Nat.zero_add] at x1 x2 x3 x4 x5 r1 r2 r3 r4 r5
    have D2 := Lib.hid (P2.out.set 2 n2 ⟨5, 0, n2, n1, 0, 0⟩ rfl)
    go_wp2_with fail
    refine (pickD w c w1.heap.size (K + 6) ⟨5, 0, n2, n1, 0, 0⟩ _ _ D2 (by omega) (by omega) (by omega)).mono ?_
    rintro e v3 ⟨n3, ⟨l3, u3⟩, rfl, hd3⟩
    have P3 := Lib.hid hd3
    clear hd3 x0 x1 x2 x3 x4 x5 xf r0 r1 r2 r3 r4 r5 rf
    obtain ⟨⟨x0, x1, x2, x3, x4, x5⟩, xf, ⟨r0, r1, r2, r3, r4, r5⟩, rf⟩ := P3.out.cells
    simp only [Nat.zero_add] at x1 x2 x3 x4 x5 r1 r2 r3 r4 r5
    have D3 := Lib.hid (P3.out.set 4 n3 ⟨5, 0, n2, n1, n3, 0⟩ rfl)
    clear x0 x1 x2 x3 x4 x5 xf r0 r1 r2 r3 r4 r5 rf
    obtain ⟨⟨x0, x1, x2, x3, x4, x5⟩, xf, ⟨r0, r1, r2, r3, r4, r5⟩, rf⟩ := P3.out.cells
    simp only [Nat.zero_add] at x1 x2 x3 x4 x5 r1 r2 r3 r4 r5
    go_wp2
    have FN := Lib.hid (D3.out.fin)
    exact bodyPost_ret (v := .agg #[.int .i64 5, .int .i64 0, .int .i64 n2, .int .i64 n1, .int .i64 n3, .int .i64 0]) (by simp [results, Tryd.results34, go_sem, r0, r1, r2, r3, r4, r5]) rfl ⟨⟨5, 0, n2, n1, n3, 0⟩, rfl, FN.out.1.mono (by omega), FN.out.2⟩
  · have D0 := Lib.hid (Z1.out.1 6 C1.out)
    go_wp2_with fail
    refine (pickD w c w1.heap.size (K + 2) ⟨6, 0, 0, 0, 0, 0⟩ _ _ D0 (by omega) (by omega) (by omega)).mono ?_
    rintro e v1 ⟨n1, ⟨l1, u1⟩, rfl, hd1⟩
    have P1 := Lib.hid hd1
    clear hd1
    obtain ⟨⟨x0, x1, x2, x3, x4, x5⟩, xf, ⟨r0, r1, r2, r3, r4, r5⟩, rf⟩ := P1.out.cells
    simp only [Nat.zero_add] at x1 x2 x3 x4 x5 r1 r2 r3 r4 r5
    have D1 := Lib.hid (P1.out.set 2 n1 ⟨6, 0, n1, 0, 0, 0⟩ rfl)
    go_wp2_with fail
    refine (pickD w c w1.heap.size (K + 4) ⟨6, 0, n1, 0, 0, 0⟩ _ _ D1 (by omega) (by omega) (by omega)).mono ?_
    rintro e v2 ⟨n2, ⟨l2, u2⟩, rfl, hd2⟩
    have P2 := Lib.hid hd2
    clear hd2 x0 x1 x2 x3 x4 x5 xf r0 r1 r2 r3 r4 r5 rf
    obtain ⟨⟨x0, x1, x2, x3, x4, x5⟩, xf, ⟨r0, r1, r2, r3, r4, r5⟩, rf⟩ := P2.out.cells
    simp only [Nat.zero_add] at x1 x2 x3 x4 x5 r1 r2 r3 r4 r5
    have D2 := Lib.hid (P2.out.set 4 n2 ⟨6, 0, n1, 0, n2, 0⟩ rfl)
    clear x0 x1 x2 x3 x4 x5 xf r0 r1 r2 r3 r4 r5 rf
    obtain ⟨⟨x0, x1, x2, x3, x4, x5⟩, xf, ⟨r0, r1, r2, r3, r4, r5⟩, rf⟩ := P2.out.cells
    simp only [Nat.zero_add] at x1 x2 x3 x4 x5 r1 r2 r3 r4 r5
    go_wp2
    have FN := Lib.hid (D2.out.fin)
    exact bodyPost_ret (v := .agg #[.int .i64 6, .int .i64 0, .int .i64 n1, .int .i64 0, .int .i64 n2, .int .i64 0]) (by simp [results, Tryd.results34, go_sem, r0, r1, r2, r3, r4, r5]) rfl ⟨⟨6, 0, n1, 0, n2, 0⟩, rfl, FN.out.1.mono (by omega), FN.out.2⟩
  · have D0 := Lib.hid (Z1.out.1 7 C1.out)
    go_wp2_with fail
    refine (pickD w c w1.heap.size (K + 2) ⟨7, 0, 0, 0, 0, 0⟩ _ _ D0 (by omega) (by omega) (by omega)).mono ?_
    rintro e v1 ⟨n1, ⟨l1, u1⟩, rfl, hd1⟩
    have P1 := Lib.hid hd1
    clear hd1
    obtain ⟨⟨x0, x1, x2, x3, x4, x5⟩, xf, ⟨r0, r1, r2, r3, r4, r5⟩, rf⟩ := P1.out.cells
    simp only [Nat.zero_add] at x1 x2 x3 x4 x5 r1 r2 r3 r4 r5
    have D1 := Lib.hid (P1.out.set 2 n1 ⟨7, 0, n1, 0, 0, 0⟩ rfl)
    go_wp2_with fail
    refine (pickD w c w1.heap.size (K + 4) ⟨7, 0, n1, 0, 0, 0⟩ _ _ D1 (by omega) (by omega) (by omega)).mono ?_
    rintro e v2 ⟨n2, ⟨l2, u2⟩, rfl, hd2⟩
    have P2 := Lib.hid hd2
    clear hd2 x0 x1 x2 x3 x4 x5 xf r0 r1 r2 r3 r4 r5 rf
    obtain ⟨⟨x0, x1, x2, x3, x4, x5⟩, xf, ⟨r0, r1, r2, r3, r4, r5⟩, rf⟩ := P2.out.cells
    simp only [Nat.zero_add] at x1 x2 x3 x4 x5 r1 r2 r3 r4 r5
    have D2 := Lib.hid (P2.out.set 4 n2 ⟨7, 0, n1, 0, n2, 0⟩ rfl)
    clear x0 x1 x2 x3 x4 x5 xf r0 r1 r2 r3 r4 r5 rf
    obtain ⟨⟨x0, x1, x2, x3, x4, x5⟩, xf, ⟨r0, r1, r2, r3, r4, r5⟩, rf⟩ := P2.out.cells
    simp only [Nat.zero_add] at x1 x2 x3 x4 x5 r1 r2 r3 r4 r5
    go_wp2
    have FN := Lib.hid (D2.out.fin)
    exact bodyPost_ret (v := .agg #[.int .i64 7, .int .i64 0, .int .i64 n1, .int .i64 0, .int .i64 n2, .int .i64 0]) (by simp [results, Tryd.results34, go_sem, r0, r1, r2, r3, r4, r5]) rfl ⟨⟨7, 0, n1, 0, n2, 0⟩, rfl, FN.out.1.mono (by omega), FN.out.2⟩
  · by_cases hrm : room < 2
    · have D0 := Lib.hid (Z1.out.1 3 C1.out)
      go_wp2_with fail
      refine (pickD w c w1.heap.size (K + 2) ⟨3, 0, 0, 0, 0, 0⟩ _ _ D0 (by omega) (by omega) (by omega)).mono ?_
      rintro e v1 ⟨n1, ⟨l1, u1⟩, rfl, hd1⟩
      have P1 := Lib.hid hd1
      clear hd1
      obtain ⟨⟨x0, x1, x2, x3, x4, x5⟩, xf, ⟨r0, r1, r2, r3, r4, r5⟩, rf⟩ := P1.out.cells
      simp only [Nat.zero_add] at x1 x2 x3 x4 x5 r1 r2 r3 r4 r5
      have D1 := Lib.hid (P1.out.set 2 n1 ⟨3, 0, n1, 0, 0, 0⟩ rfl)
      go_wp2_with fail
      refine (pickD w c w1.heap.size (K + 4) ⟨3, 0, n1, 0, 0, 0⟩ _ _ D1 (by omega) (by omega) (by omega)).mono ?_
      rintro e v2 ⟨n2, ⟨l2, u2⟩, rfl, hd2⟩
      have P2 := Lib.hid hd2
      clear hd2 x0 x1 x2 x3 x4 x5 xf r0 r1 r2 r3 r4 r5 rf
      obtain ⟨⟨x0, x1, x2, x3, x4, x5⟩, xf, ⟨r0, r1, r2, r3, r4, r5⟩, rf⟩ := P2.out.cells
      simp only [Nat.zero_add] at x1 x2 x3 x4 x5 r1 r2 r3 r4 r5
      go_wp2_with fail
      refine (amongD w c w1.heap.size (K + 6) ⟨3, 0, n1, 0, 0, 0⟩ [0, 1, 3, 7, 255, n2] 6 v2 P2 (by omega) rfl (by omega) (by omega)).mono ?_
      rintro e v3 ⟨n3, -, rfl, hd3⟩
      have P3 := Lib.hid hd3
      clear hd3 x0 x1 x2 x3 x4 x5 xf r0 r1 r2 r3 r4 r5 rf
      obtain ⟨⟨x0, x1, x2, x3, x4, x5⟩, xf, ⟨r0, r1, r2, r3, r4, r5⟩, rf⟩ := P3.out.cells
      simp only [Nat.zero_add] at x1 x2 x3 x4 x5 r1 r2 r3 r4 r5
      have D3 := Lib.hid (P3.out.set 4 n3 ⟨3, 0, n1, 0, n3, 0⟩ rfl)
      clear x0 x1 x2 x3 x4 x5 xf r0 r1 r2 r3 r4 r5 rf
      obtain ⟨⟨x0, x1, x2, x3, x4, x5⟩, xf, ⟨r0, r1, r2, r3, r4, r5⟩, rf⟩ := P3.out.cells
      simp only [Nat.zero_add] at x1 x2 x3 x4 x5 r1 r2 r3 r4 r5
      go_wp2
      have FN := Lib.hid (D3.out.fin)
      exact bodyPost_ret (v := .agg #[.int .i64 3, .int .i64 0, .int .i64 n1, .int .i64 0, .int .i64 n3, .int .i64 0]) (by simp [results, Tryd.results34, go_sem, r0, r1, r2, r3, r4, r5]) rfl ⟨⟨3, 0, n1, 0, n3, 0⟩, rfl, FN.out.1.mono (by omega), FN.out.2⟩
    · have D0 := Lib.hid (Z1.out.1 8 C1.out)
      go_wp2_with fail
      refine (least_any _ _ _).mono ?_
      rintro e w' ⟨rfl, rfl⟩
      obtain ⟨q, hq, hq1, hq4⟩ : ∃ q, min 4 (room - 1) = q ∧ 1 ≤ q ∧ q ≤ 4 := ⟨_, rfl, by omega, by omega⟩
      rw [hq]
      clear hq
      go_wp2_with fail
      refine (pickD w c w1.heap.size (K + 2) ⟨8, 0, 0, 0, 0, 0⟩ _ _ D0 (by omega) (by omega) (by omega)).mono ?_
      rintro e v1 ⟨n1, ⟨l1, u1⟩, rfl, hd1⟩
      have P1 := Lib.hid hd1
      clear hd1
      obtain ⟨⟨x0, x1, x2, x3, x4, x5⟩, xf, ⟨r0, r1, r2, r3, r4, r5⟩, rf⟩ := P1.out.cells
      simp only [Nat.zero_add] at x1 x2 x3 x4 x5 r1 r2 r3 r4 r5
      have D1 := Lib.hid (P1.out.set 5 (1 + n1) ⟨8, 0, 0, 0, 0, (1 + n1)⟩ rfl)
      clear x0 x1 x2 x3 x4 x5 xf r0 r1 r2 r3 r4 r5 rf
      obtain ⟨⟨x0, x1, x2, x3, x4, x5⟩, xf, ⟨r0, r1, r2, r3, r4, r5⟩, rf⟩ := P1.out.cells
      simp only [Nat.zero_add] at x1 x2 x3 x4 x5 r1 r2 r3 r4 r5
      go_wp2
      have FN := Lib.hid (D1.out.fin)
      exact bodyPost_ret (v := .agg #[.int .i64 8, .int .i64 0, .int .i64 0, .int .i64 0, .int .i64 0, .int .i64 (1 + n1)]) (by simp [results, Tryd.results34, go_sem, r0, r1, r2, r3, r4, r5]) rfl ⟨⟨8, 0, 0, 0, 0, (1 + n1)⟩, rfl, FN.out.1.mono (by omega), FN.out.2⟩
  · by_cases hrm : room < 2
    · have D0 := Lib.hid (Z1.out.1 3 C1.out)
      go_wp2_with fail
      refine (pickD w c w1.heap.size (K + 2) ⟨3, 0, 0, 0, 0, 0⟩ _ _ D0 (by omega) (by omega) (by omega)).mono ?_
      rintro e v1 ⟨n1, ⟨l1, u1⟩, rfl, hd1⟩
      have P1 := Lib.hid hd1
      clear hd1
      obtain ⟨⟨x0, x1, x2, x3, x4, x5⟩, xf, ⟨r0, r1, r2, r3, r4, r5⟩, rf⟩ := P1.out.cells
      simp only [Nat.zero_add] at x1 x2 x3 x4 x5 r1 r2 r3 r4 r5
      have D1 := Lib.hid (P1.out.set 2 n1 ⟨3, 0, n1, 0, 0, 0⟩ rfl)
      go_wp2_with fail
      refine (pickD w c w1.heap.size (K + 4) ⟨3, 0, n1, 0, 0, 0⟩ _ _ D1 (by omega) (by omega) (by omega)).mono ?_
      rintro e v2 ⟨n2, ⟨l2, u2⟩, rfl, hd2⟩
      have P2 := Lib.hid hd2
      clear hd2 x0 x1 x2 x3 x4 x5 xf r0 r1 r2 r3 r4 r5 rf
      obtain ⟨⟨x0, x1, x2, x3, x4, x5⟩, xf, ⟨r0, r1, r2, r3, r4, r5⟩, rf⟩ := P2.out.cells
      simp only [Nat.zero_add] at x1 x2 x3 x4 x5 r1 r2 r3 r4 r5
      go_wp2_with fail
      refine (amongD w c w1.heap.size (K + 6) ⟨3, 0, n1, 0, 0, 0⟩ [0, 1, 3, 7, 255, n2] 6 v2 P2 (by omega) rfl (by omega) (by omega)).mono ?_
      rintro e v3 ⟨n3, -, rfl, hd3⟩
      have P3 := Lib.hid hd3
      clear hd3 x0 x1 x2 x3 x4 x5 xf r0 r1 r2 r3 r4 r5 rf
      obtain ⟨⟨x0, x1, x2, x3, x4, x5⟩, xf, ⟨r0, r1, r2, r3, r4, r5⟩, rf⟩ := P3.out.cells
      simp only [Nat.zero_add] at x1 x2 x3 x4 x5 r1 r2 r3 r4 r5
      have D3 := Lib.hid (P3.out.set 4 n3 ⟨3, 0, n1, 0, n3, 0⟩ rfl)
      clear x0 x1 x2 x3 x4 x5 xf r0 r1 r2 r3 r4 r5 rf
      obtain ⟨⟨x0, x1, x2, x3, x4, x5⟩, xf, ⟨r0, r1, r2, r3, r4, r5⟩, rf⟩ := P3.out.cells
      simp only [Nat.zero_add] at x1 x2 x3 x4 x5 r1 r2 r3 r4 r5
      go_wp2
      have FN := Lib.hid (D3.out.fin)
      exact bodyPost_ret (v := .agg #[.int .i64 3, .int .i64 0, .int .i64 n1, .int .i64 0, .int .i64 n3, .int .i64 0]) (by simp [results, Tryd.results34, go_sem, r0, r1, r2, r3, r4, r5]) rfl ⟨⟨3, 0, n1, 0, n3, 0⟩, rfl, FN.out.1.mono (by omega), FN.out.2⟩
    · have D0 := Lib.hid (Z1.out.1 9 C1.out)
      go_wp2_with fail
      refine (pickD w c w1.heap.size (K + 2) ⟨9, 0, 0, 0, 0, 0⟩ _ _ D0 (by omega) (by omega) (by omega)).mono ?_
      rintro e v1 ⟨n1, ⟨l1, u1⟩, rfl, hd1⟩
      have P1 := Lib.hid hd1
      clear hd1
      obtain ⟨⟨x0, x1, x2, x3, x4, x5⟩, xf, ⟨r0, r1, r2, r3, r4, r5⟩, rf⟩ := P1.out.cells
      simp only [Nat.zero_add] at x1 x2 x3 x4 x5 r1 r2 r3 r4 r5
      have D1 := Lib.hid (P1.out.set 3 n1 ⟨9, 0, 0, n1, 0, 0⟩ rfl)
      go_wp2_with fail
      refine (pickD w c w1.heap.size (K + 4) ⟨9, 0, 0, n1, 0, 0⟩ _ _ D1 (by omega) (by omega) (by omega)).mono ?_
      rintro e v2 ⟨n2, ⟨l2, u2⟩, rfl, hd2⟩
      have P2 := Lib.hid hd2
      clear hd2 x0 x1 x2 x3 x4 x5 xf r0 r1 r2 r3 r4 r5 rf
      obtain ⟨⟨x0, x1, x2, x3, x4, x5⟩, xf, ⟨r0, r1, r2, r3, r4, r5⟩, rf⟩ := P2.out.cells
      simp only [Nat.zero_add] at x1 x2 x3 x4 x5 r1 r2 r3 r4 r5
      have D2 := Lib.hid (P2.out.set 2 n2 ⟨9, 0, n2, n1, 0, 0⟩ rfl)
      go_wp2_with fail
      refine (least_any _ _ _).mono ?_
      rintro e w' ⟨rfl, rfl⟩
      obtain ⟨q, hq, hq1, hq4⟩ : ∃ q, min 4 (room - 1) = q ∧ 1 ≤ q ∧ q ≤ 4 := ⟨_, rfl, by omega, by omega⟩
      rw [hq]
      clear hq
      go_wp2_with fail
      refine (pickD w c w1.heap.size (K + 6) ⟨9, 0, n2, n1, 0, 0⟩ _ _ D2 (by omega) (by omega) (by omega)).mono ?_
      rintro e v3 ⟨n3, ⟨l3, u3⟩, rfl, hd3⟩
      have P3 := Lib.hid hd3
      clear hd3 x0 x1 x2 x3 x4 x5 xf r0 r1 r2 r3 r4 r5 rf
      obtain ⟨⟨x0, x1, x2, x3, x4, x5⟩, xf, ⟨r0, r1, r2, r3, r4, r5⟩, rf⟩ := P3.out.cells
      simp only [Nat.zero_add] at x1 x2 x3 x4 x5 r1 r2 r3 r4 r5
      have D3 := Lib.hid (P3.out.set 5 (1 + n3) ⟨9, 0, n2, n1, 0, (1 + n3)⟩ rfl)
      clear x0 x1 x2 x3 x4 x5 xf r0 r1 r2 r3 r4 r5 rf
      obtain ⟨⟨x0, x1, x2, x3, x4, x5⟩, xf, ⟨r0, r1, r2, r3, r4, r5⟩, rf⟩ := P3.out.cells
      simp only [Nat.zero_add] at x1 x2 x3 x4 x5 r1 r2 r3 r4 r5
      go_wp2
      have FN := Lib.hid (D3.out.fin)
      exact bodyPost_ret (v := .agg #[.int .i64 9, .int .i64 0, .int .i64 n2, .int .i64 n1, .int .i64 0, .int .i64 (1 + n3)]) (by simp [results, Tryd.results34, go_sem, r0, r1, r2, r3, r4, r5]) rfl ⟨⟨9, 0, n2, n1, 0, (1 + n3)⟩, rfl, FN.out.1.mono (by omega), FN.out.2⟩
  · by_cases hrm : room < 2
    · have D0 := Lib.hid (Z1.out.1 3 C1.out)
      go_wp2_with fail
      refine (pickD w c w1.heap.size (K + 2) ⟨3, 0, 0, 0, 0, 0⟩ _ _ D0 (by omega) (by omega) (by omega)).mono ?_
      rintro e v1 ⟨n1, ⟨l1, u1⟩, rfl, hd1⟩
      have P1 := Lib.hid hd1
      clear hd1
      obtain ⟨⟨x0, x1, x2, x3, x4, x5⟩, xf, ⟨r0, r1, r2, r3, r4, r5⟩, rf⟩ := P1.out.cells
      simp only [Nat.zero_add] at x1 x2 x3 x4 x5 r1 r2 r3 r4 r5
      have D1 := Lib.hid (P1.out.set 2 n1 ⟨3, 0, n1, 0, 0, 0⟩ rfl)
      go_wp2_with fail
      refine (pickD w c w1.heap.size (K + 4) ⟨3, 0, n1, 0, 0, 0⟩ _ _ D1 (by omega) (by omega) (by omega)).mono ?_
      rintro e v2 ⟨n2, ⟨l2, u2⟩, rfl, hd2⟩
      have P2 := Lib.hid hd2
      clear hd2 x0 x1 x2 x3 x4 x5 xf r0 r1 r2 r3 r4 r5 rf
      obtain ⟨⟨x0, x1, x2, x3, x4, x5⟩, xf, ⟨r0, r1, r2, r3, r4, r5⟩, rf⟩ := P2.out.cells
      simp only [Nat.zero_add] at x1 x2 x3 x4 x5 r1 r2 r3 r4 r5
      go_wp2_with fail
      refine (amongD w c w1.heap.size (K + 6) ⟨3, 0, n1, 0, 0, 0⟩ [0, 1, 3, 7, 255, n2] 6 v2 P2 (by omega) rfl (by omega) (by omega)).mono ?_
      rintro e v3 ⟨n3, -, rfl, hd3⟩
      have P3 := Lib.hid hd3
      clear hd3 x0 x1 x2 x3 x4 x5 xf r0 r1 r2 r3 r4 r5 rf
      obtain ⟨⟨x0, x1, x2, x3, x4, x5⟩, xf, ⟨r0, r1, r2, r3, r4, r5⟩, rf⟩ := P3.out.cells
      simp only [Nat.zero_add] at x1 x2 x3 x4 x5 r1 r2 r3 r4 r5
      have D3 := Lib.hid (P3.out.set 4 n3 ⟨3, 0, n1, 0, n3, 0⟩ rfl)
      clear x0 x1 x2 x3 x4 x5 xf r0 r1 r2 r3 r4 r5 rf
      obtain ⟨⟨x0, x1, x2, x3, x4, x5⟩, xf, ⟨r0, r1, r2, r3, r4, r5⟩, rf⟩ := P3.out.cells
      simp only [Nat.zero_add] at x1 x2 x3 x4 x5 r1 r2 r3 r4 r5
      go_wp2
      have FN := Lib.hid (D3.out.fin)
      exact bodyPost_ret (v := .agg #[.int .i64 3, .int .i64 0, .int .i64 n1, .int .i64 0, .int .i64 n3, .int .i64 0]) (by simp [results, Tryd.results34, go_sem, r0, r1, r2, r3, r4, r5]) rfl ⟨⟨3, 0, n1, 0, n3, 0⟩, rfl, FN.out.1.mono (by omega), FN.out.2⟩
    · have D0 := Lib.hid (Z1.out.1 10 C1.out)
      go_wp2_with fail
      refine (pickD w c w1.heap.size (K + 2) ⟨10, 0, 0, 0, 0, 0⟩ _ _ D0 (by omega) (by omega) (by omega)).mono ?_
      rintro e v1 ⟨n1, ⟨l1, u1⟩, rfl, hd1⟩
      have P1 := Lib.hid hd1
      clear hd1
      obtain ⟨⟨x0, x1, x2, x3, x4, x5⟩, xf, ⟨r0, r1, r2, r3, r4, r5⟩, rf⟩ := P1.out.cells
      simp only [Nat.zero_add] at x1 x2 x3 x4 x5 r1 r2 r3 r4 r5
      have D1 := Lib.hid (P1.out.set 3 n1 ⟨10, 0, 0, n1, 0, 0⟩ rfl)
      go_wp2_with fail
      refine (pickD w c w1.heap.size (K + 4) ⟨10, 0, 0, n1, 0, 0⟩ _ _ D1 (by omega) (by omega) (by omega)).mono ?_
      rintro e v2 ⟨n2, ⟨l2, u2⟩, rfl, hd2⟩
      have P2 := Lib.hid hd2
      clear hd2 x0 x1 x2 x3 x4 x5 xf r0 r1 r2 r3 r4 r5 rf
      obtain ⟨⟨x0, x1, x2, x3, x4, x5⟩, xf, ⟨r0, r1, r2, r3, r4, r5⟩, rf⟩ := P2.out.cells
      simp only [Nat.zero_add] at x1 x2 x3 x4 x5 r1 r2 r3 r4 r5
      have D2 := Lib.hid (P2.out.set 2 n2 ⟨10, 0, n2, n1, 0, 0⟩ rfl)
      go_wp2_with fail
      refine (least_any _ _ _).mono ?_
      rintro e w' ⟨rfl, rfl⟩
      obtain ⟨q, hq, hq1, hq4⟩ : ∃ q, min 4 (room - 1) = q ∧ 1 ≤ q ∧ q ≤ 4 := ⟨_, rfl, by omega, by omega⟩
      rw [hq]
      clear hq
      go_wp2_with fail
      refine (pickD w c w1.heap.size (K + 6) ⟨10, 0, n2, n1, 0, 0⟩ _ _ D2 (by omega) (by omega) (by omega)).mono ?_
      rintro e v3 ⟨n3, ⟨l3, u3⟩, rfl, hd3⟩
      have P3 := Lib.hid hd3
      clear hd3 x0 x1 x2 x3 x4 x5 xf r0 r1 r2 r3 r4 r5 rf
      obtain ⟨⟨x0, x1, x2, x3, x4, x5⟩, xf, ⟨r0, r1, r2, r3, r4, r5⟩, rf⟩ := P3.out.cells
      simp only [Nat.zero_add] at x1 x2 x3 x4 x5 r1 r2 r3 r4 r5
      have D3 := Lib.hid (P3.out.set 5 (1 + n3) ⟨10, 0, n2, n1, 0, (1 + n3)⟩ rfl)
      clear x0 x1 x2 x3 x4 x5 xf r0 r1 r2 r3 r4 r5 rf
      obtain ⟨⟨x0, x1, x2, x3, x4, x5⟩, xf, ⟨r0, r1, r2, r3, r4, r5⟩, rf⟩ := P3.out.cells
      simp only [Nat.zero_add] at x1 x2 x3 x4 x5 r1 r2 r3 r4 r5
      go_wp2
      have FN := Lib.hid (D3.out.fin)
      exact bodyPost_ret (v := .agg #[.int .i64 10, .int .i64 0, .int .i64 n2, .int .i64 n1, .int .i64 0, .int .i64 (1 + n3)]) (by simp [results, Tryd.results34, go_sem, r0, r1, r2, r3, r4, r5]) rfl ⟨⟨10, 0, n2, n1, 0, (1 + n3)⟩, rfl, FN.out.1.mono (by omega), FN.out.2⟩
end Go.Proofs.YtilnegmjnbffhaaDoor
