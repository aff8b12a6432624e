/-
  Contracts of Propagate, the program's and the model's.
-/
import Derived.Test.YtklcfbjaodildaaProp2
namespace Go.Proofs.Ytklcfbjaodildaa
open Go.ChangeShapes Go.WideShapes Go.ChangeAt Go.RowKit

/-- it answers a slice of ints of its own, and two bools -/
def GaveThree (w : World) (l : List Int) (b c : Bool) (e : Ending) (w' : World) : Prop :=
  ∃ A cp, e = .returned (.tuple #[.slice A l.length cp, .bool b, .bool c]) ∧ w'.ownsRow w.heap.size 3 1 (.slice A l.length cp) l.length (l.map (Value.int .i64)) ∧ Below w.heap.size w w'
/-- what Propagate answers -/
def PropR (v : Int) (L : List (List Int)) (given r : List Int) (b ok : Bool) : Prop :=
  ok = (goodB v L && clauseB v given) ∧ (ok = true → propN L 20 given = (r, b)) ∧ (ok = false → r = [] ∧ b = false)
theorem propR_any (v : Int) (L : List (List Int)) (given : List Int) : ∃ r b ok, PropR v L given r b ok := by
  cases h : (goodB v L && clauseB v given)
  · exact ⟨[], false, false, h.symm, by simp, fun _ => ⟨rfl, rfl⟩⟩
  · exact ⟨_, _, true, h.symm, fun _ => rfl, by simp⟩
theorem PropR.len {v : Int} {L : List (List Int)} {given r : List Int} {b ok : Bool} (h : PropR v L given r b ok) : r.length ≤ 1000 := by
  obtain ⟨h1, h2, h3⟩ := h
  cases ok
  · rw [(h3 rfl).1]; simp
  · have := propN_len (h2 rfl)
    have hc : clauseB v given = true := by cases hh : clauseB v given <;> simp [hh] at h1 ⊢
    have := clauseB_len hc
    omega
theorem three_no {w : World} {v : Int} {L : List (List Int)} {given r : List Int} {b ok : Bool} (h : PropR v L given r b ok) (hn : (goodB v L && clauseB v given) = false) : GaveThree w r b ok (.returned (.tuple #[.slice none 0 0, .bool false, .bool false])) w := by
  obtain ⟨h1, h2, h3⟩ := h
  rw [hn] at h1
  subst h1
  obtain ⟨rfl, rfl⟩ := h3 rfl
  exact ⟨none, 0, rfl, World.ownsRow_nil _ _ _ _, Below.refl _ _⟩
set_option maxRecDepth 100000 in
set_option maxHeartbeats 4000000 in
theorem implProp_any (v : Int) (A B : Option Addr) (n m cap c2 : Nat) (L : List (List Int)) (given : List Int) (w : World) (r : List Int) (b ok : Bool) (hr : Hid (PropR v L given r b ok)) (hl : Hid (LLies w A L)) (hl2 : Hid (ILies w B given)) (HX : Hid (L.length = n)) (HY : Hid (given.length = m)) (HN : Hid (B = none → m = 0 ∧ c2 = 0)) (hn : n ≤ 9223372036854775807) (hm : m ≤ 9223372036854775807) :
    Calls Try.prog 47 #[.int .i64 v, .slice A n cap, .slice B m c2] w (GaveThree w r b ok) := by
  cases q1 : goodB v L
  · go_enter Try.func47, Try.ntmps47
    go_wp2_with (go_at_call 76; refine (implGoodC_any _ _ _ _ L _ hl HX hn).mono ?_; rintro e w' ⟨rfl, rfl⟩; rw [q1])
    go_ret3
    exact three_no hr.out (by rw [q1]; rfl)
  have hv := goodB_v q1
  have hv1 : 0 ≤ v := hv.1
  have hv2 : v ≤ 12 := hv.2
  clear hv
  cases q2 : clauseB v given
  · go_enter Try.func47, Try.ntmps47
    go_wp2_with (first
      | (go_at_call 76; refine (implGoodC_any _ _ _ _ L _ hl HX hn).mono ?_; rintro e w' ⟨rfl, rfl⟩; rw [q1])
      | (go_at_call 110; refine (isClause_any _ _ _ _ given _ hl2 HY hm hv1 hv2).mono ?_; rintro e w' ⟨rfl, rfl⟩; rw [q2]))
    go_ret3
    exact three_no hr.out (by rw [q1, q2]; rfl)
  have hm12 : m ≤ 12 := by have := clauseB_len q2; have := HY.out; omega
  have hok : ok = true := by have := hr.out.1; rw [q1, q2] at this; exact this
  subst hok
  have HP : Hid (PInv v L r b given) := Lib.hid (pinv_start hv2 q2 (hr.out.2.1 rfl))
  have LIT : Hid (∀ c ∈ L, ∀ x ∈ c, litB v x = true) := Lib.hid (fun c hc x hx => clauseB_lits (goodB_cl q1 c hc) x hx)
  go_enter Try.func47, Try.ntmps47
  go_wp2_with (first
    | (go_at_call 76; refine (implGoodC_any _ _ _ _ L _ hl HX hn).mono ?_; rintro e w' ⟨rfl, rfl⟩; rw [q1])
    | (go_at_call 110; refine (isClause_any _ _ _ _ given _ hl2 HY hm hv1 hv2).mono ?_; rintro e w' ⟨rfl, rfl⟩; rw [q2]))
  refine (propagate_any v _ _ _ _ _ _ L given _ r b HP hl hl2 HX HY HN hn hm12 hv2 LIT).mono ?_
  rintro e w3 ⟨A3, d3, rfl, ho3, hb3⟩
  have O3 := Lib.hid ho3
  have B3 := Lib.hid hb3
  clear ho3 hb3
  go_wp2
  go_ret3
  exact ⟨_, _, rfl, O3.out, B3.out⟩
end Go.Proofs.Ytklcfbjaodildaa
