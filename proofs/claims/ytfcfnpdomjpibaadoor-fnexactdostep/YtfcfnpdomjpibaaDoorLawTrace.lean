/-
  The walks of the laws of RunProgram, FaultFree and TraceOf.
-/
import Derived.Test.YtfcfnpdomjpibaaDoorLawRun
import Derived.Test.YtfcfnpdomjpibaaDoorMarks2
namespace Go.Proofs.YtfcfnpdomjpibaaDoor
open Go.ChangeShapes Go.WideShapes Go.ChangeAt Go.RowKit

theorem runM_len (xs : List Stp) (ctx : List Int) (k : Nat) : ∀ m : Mch, (runM xs ctx k m).2.2.2.length ≤ k := by
  induction k with
  | zero => intro m; simp [runM]
  | succ k ih =>
    intro m
    unfold runM
    split
    · simp
    · rename_i x _
      split
      · simp
      · split
        · simp
        · have := ih (doM x ctx m).1
          simp only [List.length_cons]
          omega
theorem own_of_blk {w : World} {g n : Nat} {xs : List Stp} (h : Blk w g 48 (cellsOf xs)) (hx : xs.length = n) (hn : n ≤ 1048576) : w.ownsRow g 48 6 (.slice (some ⟨g, 0, none⟩) n n) n (cellsOf xs) := by
  have hl := cellsOf_len xs
  refine ⟨by rw [hl, hx], .inr ⟨g, n, (cellsOf xs).toArray, rfl, Nat.le_refl _, h, Nat.le_refl _, by unfold maxLen; omega, by simp [hl, hx], ?_⟩⟩
  exact List.take_of_length_le (by simp [hl, hx])
theorem runR_len (g : Bool) (xs : List Stp) (ctx : List Int) (F : Int) (hF : F ≤ 100) : (runR g xs ctx F).1.2.2.2.length ≤ 100 := by
  unfold runR
  split
  · have := runM_len xs ctx F.toNat newM
    show (runM xs ctx F.toNat newM).2.2.2.length ≤ 100
    omega
  · simp

end Go.Proofs.YtfcfnpdomjpibaaDoor
