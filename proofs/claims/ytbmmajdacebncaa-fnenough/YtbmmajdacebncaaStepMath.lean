/-
  Plain words on the steps of chapter 2: which are valid, what follows, how they are written. No program in sight.
-/
import Derived.WalkKit
namespace Go.Proofs.Ytbmmajdacebncaa
open Go.RowKit

theorem ret_int {k : IntKind} {a b : Int} (h : a = b) : Ending.returned (.int k a) = .returned (.int k b) := by rw [h]
theorem ret_bool {a b : Bool} (h : a = b) : Ending.returned (.bool a) = .returned (.bool b) := by rw [h]

/-- lo ≤ a ≤ hi -/
def inB (lo hi a : Int) : Bool := decide (lo ≤ a ∧ a ≤ hi)
theorem inB_yes {lo hi a : Int} (h : inB lo hi a = true) : lo ≤ a ∧ a ≤ hi := by simpa [inB] using h
theorem inB_no {lo hi a : Int} (h : inB lo hi a = false) : ¬ (lo ≤ a ∧ a ≤ hi) := by simpa only [inB, decide_eq_false_iff_not] using h
theorem inB_mk {lo hi a : Int} {b : Bool} (h : (lo ≤ a ∧ a ≤ hi) ↔ b = true) : inB lo hi a = b := by
  cases b <;> simp [inB] at h ⊢ <;> omega

/-- a step that is valid: its kind, its operation, its two registers, its number, its way -/
def okP (k o d s i t : Int) : Prop :=
  (0 ≤ d ∧ d ≤ 5) ∧ (0 ≤ s ∧ s ≤ 5) ∧
  ((k = 1 ∧ 1 ≤ o ∧ o ≤ 10 ∧ i = 0 ∧ t = 0) ∨
   (k = 2 ∧ 1 ≤ o ∧ o ≤ 10 ∧ s = 0 ∧ 0 ≤ i ∧ i ≤ 255 ∧ t = 0) ∨
   ((k = 3 ∨ k = 6 ∨ k = 7) ∧ o = 0 ∧ s = 0 ∧ 0 ≤ i ∧ i ≤ 255 ∧ t = 0) ∨
   (k = 4 ∧ o = 0 ∧ s = 0 ∧ 256 ≤ i ∧ i ≤ 65535 ∧ t = 0) ∨
   (k = 5 ∧ o = 0 ∧ 0 ≤ i ∧ i ≤ 7 ∧ t = 0) ∨
   (k = 8 ∧ o = 0 ∧ d = 0 ∧ s = 0 ∧ i = 0 ∧ 1 ≤ t ∧ t ≤ 19) ∨
   ((k = 9 ∨ k = 10) ∧ o = 0 ∧ i = 0 ∧ 1 ≤ t ∧ t ≤ 19) ∨
   (k = 11 ∧ o = 0 ∧ d = 0 ∧ s = 0 ∧ i = 0 ∧ t = 0))
instance (k o d s i t : Int) : Decidable (okP k o d s i t) := by unfold okP; infer_instance
def okB (k o d s i t : Int) : Bool := decide (okP k o d s i t)
theorem okB_t {k o d s i t : Int} (h : okP k o d s i t) : okB k o d s i t = true := decide_eq_true h
theorem okB_f {k o d s i t : Int} (h : ¬ okP k o d s i t) : okB k o d s i t = false := decide_eq_false h
theorem okB_yes {k o d s i t : Int} (h : okB k o d s i t = true) : okP k o d s i t := by simpa [okB] using h
theorem okB_no {k o d s i t : Int} (h : okB k o d s i t = false) : ¬ okP k o d s i t := by simpa [okB] using h
theorem okP_bounds {k o d s i t : Int} (h : okP k o d s i t) : (1 ≤ k ∧ k ≤ 11) ∧ (0 ≤ o ∧ o ≤ 10) ∧ (0 ≤ d ∧ d ≤ 5) ∧ (0 ≤ s ∧ s ≤ 5) ∧ (0 ≤ i ∧ i ≤ 65535) ∧ (0 ≤ t ∧ t ≤ 19) := by
  unfold okP at h; omega
end Go.Proofs.Ytbmmajdacebncaa
