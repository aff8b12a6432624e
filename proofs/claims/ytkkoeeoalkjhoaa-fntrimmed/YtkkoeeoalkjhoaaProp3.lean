/-
  Contracts of Propagate, the program's and the model's.
-/
import Derived.Test.YtkkoeeoalkjhoaaProp2
namespace Go.Proofs.Ytkkoeeoalkjhoaa
open Go.ChangeShapes Go.WideShapes Go.ChangeAt Go.RowKit

/-- it answers a slice of ints of its own, and two bools -/
def GaveThree (w : World) (l : List Int) (b c : Bool) (e : Ending) (w' : World) : Prop :=
  ∃ A cp, e = .returned (.tuple #[.slice A l.length cp, .bool b, .bool c]) ∧ w'.ownsRow w.heap.size 3 1 (.slice A l.length cp) l.length (l.map (Value.int .i64)) ∧ Below w.heap.size w w'
/-- what Propagate answers -/
def PropR (v : Int) (L : List (List Int)) (given r : List Int) (b ok : Bool) : Prop :=
  ok = (goodB v L && clauseB v given) ∧ (ok = true → propN L 20 given = (r, b)) ∧ (ok = false → r = [] ∧ b = false)
theorem propR_any (v : Int) (L : List (List Int)) (given : List Int) : ∃ r b ok, PropR v L given r b ok := by
  cases h : (goodB v L && clauseB v given)
  · exact ⟨[], false, false, h.symm, by simp, fun _ => ⟨rfl, rfl⟩⟩
  · exact ⟨_, _, true, h.symm, fun _ => rfl, by simp⟩
theorem PropR.len {v : Int} {L : List (List Int)} {given r : List Int} {b ok : Bool} (h : PropR v L given r b ok) : r.length ≤ 1000 := by
  obtain ⟨h1, h2, h3⟩ := h
  cases ok
  · rw [(h3 rfl).1]; simp
  · have := propN_len (h2 rfl)
    have hc : clauseB v given = true := by cases hh : clauseB v given <;> simp [hh] at h1 ⊢
    have := clauseB_len hc
    omega
theorem three_no {w : World} {v : Int} {L : List (List Int)} {given r : List Int} {b ok : Bool} (h : PropR v L given r b ok) (hn : (goodB v L && clauseB v given) = false) : GaveThree w r b ok (.returned (.tuple #[.slice none 0 0, .bool false, .bool false])) w := by
  obtain ⟨h1, h2, h3⟩ := h
  rw [hn] at h1
  subst h1
  obtain ⟨rfl, rfl⟩ := h3 rfl
  exact ⟨none, 0, rfl, World.ownsRow_nil _ _ _ _, Below.refl _ _⟩
set_option maxRecDepth 100000 in
set_option maxHeartbeats 400000 in
theorem l4Given_any (v : Int) (A : Option Addr) (n cap : Nat) (l : List Int) (w : World) (hl : Hid (ILies w A l)) (HX : Hid (l.length = n)) (hn : n ≤ 9223372036854775807) (hc : n ≤ cap) (h1 : 0 ≤ v) (h2 : v ≤ 12) :
    Calls Try.prog 64 #[.int .i64 v, .slice A n cap] w fun e w' => e = .returned (.bool (clauseB v l)) ∧ w = w' := by
  go_enter Try.func64, Try.ntmps64
  go_wp2_with (go_at_call 86; refine (l4Clause_any _ _ _ _ l _ hl HX hn hc h1 h2).mono ?_; rintro e w' ⟨rfl, rfl⟩)
  go_ret
  exact ⟨rfl, rfl⟩
end Go.Proofs.Ytkkoeeoalkjhoaa
