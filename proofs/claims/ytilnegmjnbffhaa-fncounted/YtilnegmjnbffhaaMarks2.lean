/-
  The same for slices of steps.
-/
import Derived.Test.YtilnegmjnbffhaaMarks
namespace Go.Proofs.Ytilnegmjnbffhaa
open Go.ChangeShapes Go.WideShapes Go.ChangeAt Go.RowKit

/-- behind j rounds of the marking -/
def Marked (base n c g : Nat) (m : Int) (j : Nat) (w : World) : Prop :=
  ∃ cur : List Value, w.ownsRow base 61 6 (.slice (some ⟨g, 0, none⟩) n c) n cur ∧ cur.take (j * 6) = cellsOf (stIs m j)
theorem Marked.there {base n c g : Nat} {m : Int} {j : Nat} {w : World} (h : Marked base n c g m j w) (i : Nat) (hi : i < n * 6) : ∃ v, w.cell? ⟨g, i, none⟩ = some v := by
  obtain ⟨cur, h1, _⟩ := h
  have := h1.cells (g := g) rfl i _ (List.getElem?_eq_getElem (by have := h1.1; omega))
  rw [add_plain, Nat.zero_add] at this
  exact ⟨_, this⟩
theorem Marked.free {base n c g : Nat} {m : Int} {j : Nat} {w : World} (h : Marked base n c g m j w) (i : Nat) : w.frozen? ⟨g, i, none⟩ = false := by
  obtain ⟨cur, h1, _⟩ := h
  rcases h1.2 with ⟨h', _⟩ | ⟨g', cap', cur', h', hb, hg, hnc, hcm, hcs, htake⟩
  · simp at h'
  · simp only [Value.slice.injEq, Option.some.injEq, Addr.mk.injEq, and_true, true_and] at h'
    obtain ⟨rfl, rfl⟩ := h'
    simp [World.frozen?, hg]
theorem six_cells (m : Int) (j : Nat) (K : Int) (hK : m + (j : Int) * 6 = K) :
    [Value.int .i64 K, .int .i64 (K + 1), .int .i64 (K + 1 + 1), .int .i64 (K + 1 + 1 + 1), .int .i64 (K + 1 + 1 + 1 + 1), .int .i64 (K + 1 + 1 + 1 + 1 + 1)] = (stI m j).cells := by
  subst hK
  simp [Stp.cells, stI, Int.add_assoc]
theorem Marked.step {base n c g : Nat} {m : Int} {j : Nat} {w : World} (h : Marked base n c g m j w) (hj : j < n) (K : Int) (hK : m + (j : Int) * 6 = K) :
    Marked base n c g m (j + 1) ((((((w.setCell ⟨g, j * 6, none⟩ (.int .i64 K)).setCell ⟨g, j * 6 + 1, none⟩ (.int .i64 (K + 1))).setCell ⟨g, j * 6 + 2, none⟩ (.int .i64 (K + 1 + 1))).setCell ⟨g, j * 6 + 3, none⟩ (.int .i64 (K + 1 + 1 + 1))).setCell ⟨g, j * 6 + 4, none⟩ (.int .i64 (K + 1 + 1 + 1 + 1))).setCell ⟨g, j * 6 + 5, none⟩ (.int .i64 (K + 1 + 1 + 1 + 1 + 1))) ∧
    w.grownBy ((((((w.setCell ⟨g, j * 6, none⟩ (.int .i64 K)).setCell ⟨g, j * 6 + 1, none⟩ (.int .i64 (K + 1))).setCell ⟨g, j * 6 + 2, none⟩ (.int .i64 (K + 1 + 1))).setCell ⟨g, j * 6 + 3, none⟩ (.int .i64 (K + 1 + 1 + 1))).setCell ⟨g, j * 6 + 4, none⟩ (.int .i64 (K + 1 + 1 + 1 + 1))).setCell ⟨g, j * 6 + 5, none⟩ (.int .i64 (K + 1 + 1 + 1 + 1 + 1))) (some g) := by
  obtain ⟨cur, h1, h2⟩ := h
  obtain ⟨a1, b1⟩ := h1.stored (j * 6) (.int .i64 K)
  obtain ⟨a2, b2⟩ := a1.stored (j * 6 + 1) (.int .i64 (K + 1))
  obtain ⟨a3, b3⟩ := a2.stored (j * 6 + 2) (.int .i64 (K + 1 + 1))
  obtain ⟨a4, b4⟩ := a3.stored (j * 6 + 3) (.int .i64 (K + 1 + 1 + 1))
  obtain ⟨a5, b5⟩ := a4.stored (j * 6 + 4) (.int .i64 (K + 1 + 1 + 1 + 1))
  obtain ⟨a6, b6⟩ := a5.stored (j * 6 + 5) (.int .i64 (K + 1 + 1 + 1 + 1 + 1))
  refine ⟨⟨_, a6, ?_⟩, grown_trans b1 (grown_trans b2 (grown_trans b3 (grown_trans b4 (grown_trans b5 b6))))⟩
  rw [take_six cur j _ _ _ _ _ _ (by have := h1.1; omega), h2, stIs_succ, six_cells m j K hK]

set_option maxRecDepth 100000 in
set_option maxHeartbeats 2000000 in
theorem markStepS_any (base n c g : Nat) (vs : List Value) (m : Int) (w : World) (ho : Hid (w.ownsRow base 61 6 (.slice (some ⟨g, 0, none⟩) n c) n vs)) (hn : n ≤ 10000000) (hm : 0 ≤ m ∧ m ≤ 1000000000) :
    Calls Try.prog 30 #[.slice (some ⟨g, 0, none⟩) n c, .int .i64 m] w fun e w' => e = .returned (.int .i64 (m + n * 6)) ∧ w'.ownsRow base 61 6 (.slice (some ⟨g, 0, none⟩) n c) n (cellsOf (stIs m n)) ∧ w.grownBy w' (some g) := by
  go_enter Try.func30, Try.ntmps30
  go_wp2_with fail
  go_loopw [1, 5] (fun kk i wr => ∃ j : Nat, ∃ K : Int, j ≤ n ∧ i = .int .i64 j ∧ kk = .int .i64 K ∧ m + (j : Int) * 6 = K ∧ Marked base n c g m j wr ∧ w.grownBy wr (some g)) (fun _ i _ => n - (intOf i).toNat)
  case atStart => exact ⟨0, m, Nat.zero_le _, rfl, rfl, by simp, ⟨vs, ho.out, by simp [stIs, cellsOf]⟩, World.grownBy.refl _ _⟩
  case round =>
    obtain ⟨j, K, hj, rfl, rfl, hK, hmk, hgr⟩ := hrel
    have M1 := Lib.hid hmk
    have G1 := Lib.hid hgr
    have HK := Lib.hid hK
    have hK0 : 0 ≤ K ∧ K ≤ 2000000000 := by omega
    clear hmk hgr hK
    by_cases hlt : j < n
    · obtain ⟨v0, t0⟩ := M1.out.there (j * 6) (by omega)
      obtain ⟨v1, t1⟩ := M1.out.there (j * 6 + 1) (by omega)
      obtain ⟨v2, t2⟩ := M1.out.there (j * 6 + 2) (by omega)
      obtain ⟨v3, t3⟩ := M1.out.there (j * 6 + 3) (by omega)
      obtain ⟨v4, t4⟩ := M1.out.there (j * 6 + 4) (by omega)
      obtain ⟨v5, t5⟩ := M1.out.there (j * 6 + 5) (by omega)
      have f0 := M1.out.free (j * 6)
      have f1 := M1.out.free (j * 6 + 1)
      have f2 := M1.out.free (j * 6 + 2)
      have f3 := M1.out.free (j * 6 + 3)
      have f4 := M1.out.free (j * 6 + 4)
      have f5 := M1.out.free (j * 6 + 5)
      have S1 := Lib.hid (M1.out.step hlt K HK.out)
      go_wp2
      go_roundw
      case rel => exact ⟨j + 1, _, by omega, by go_num, rfl, by have := HK.out; omega, S1.out.1, grown_trans G1.out S1.out.2⟩
      case measure => simp [intOf]; omega
    · obtain rfl : j = n := by omega
      obtain ⟨cur, h1, h2⟩ := M1.out
      have O1 : Hid (wr.ownsRow base 61 6 (.slice (some ⟨g, 0, none⟩) j c) j (cellsOf (stIs m j))) := by
        show wr.ownsRow base 61 6 (.slice (some ⟨g, 0, none⟩) j c) j (cellsOf (stIs m j))
        rw [← h2, List.take_of_length_le (by have := h1.1; omega)]
        exact h1
      clear h1 h2
      go_wp2
      go_ret
      exact ⟨ret_int HK.out.symm, O1.out, G1.out⟩

theorem ne_self (a : Int) : (a != a) = false := by simp
end Go.Proofs.Ytilnegmjnbffhaa
