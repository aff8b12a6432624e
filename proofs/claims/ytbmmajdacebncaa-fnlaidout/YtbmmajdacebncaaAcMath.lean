/-
  Arcs: what valid ones are, as the program and the model test it. Plain mathematics.
-/
import Derived.Test.YtbmmajdacebncaaGrStep
import Derived.Test.YtbmmajdacebncaaStepMath
namespace Go.Proofs.Ytbmmajdacebncaa

open Classical in
/-- the arcs are valid -/
noncomputable def goodAB (s : Int) (l : AL) : Bool := decide (∃ n : Nat, s = (n : Int) ∧ GoodA n l)
theorem goodAB_iff {s : Int} {l : AL} : goodAB s l = true ↔ ∃ n : Nat, s = (n : Int) ∧ GoodA n l := by unfold goodAB; simp
theorem goodAB_no {s : Int} {l : AL} (h : ∀ n : Nat, s = (n : Int) → ¬ GoodA n l) : goodAB s l = false := by
  cases q : goodAB s l with
  | false => rfl
  | true => obtain ⟨n, h1, h2⟩ := goodAB_iff.1 q; exact absurd h2 (h n h1)
def ixB (a n : Int) : Bool := decide (0 ≤ a) && decide (a < n)
theorem ixB_iff {a n : Int} : ixB a n = true ↔ 0 ≤ a ∧ a < n := by unfold ixB; simp
theorem ixB_no {a n : Int} : ixB a n = false ↔ ¬ (0 ≤ a ∧ a < n) := by rw [← ixB_iff]; simp
theorem inB_ixA (a n : Int) : inB 0 (n - 1) a = ixB a n := by
  rw [Bool.eq_iff_iff, ixB_iff]
  unfold inB
  rw [decide_eq_true_eq]
  omega
theorem good_no_s {s : Int} {l : AL} (h : inB 1 6 s = false) : goodAB s l = false := by
  refine goodAB_no fun n e g => ?_
  have h1 := g.lo
  have h2 := g.hi
  have := inB_no h
  omega
theorem good_no_len {s : Int} {l : AL} (h : 30 < l.length) : goodAB s l = false := goodAB_no fun n _ g => by have := g.len; omega
theorem good_no_1 {s : Int} {l : AL} {k : Nat} {p : Int × Int} (hp : l[k]? = some p) (h : ixB p.1 s = false) : goodAB s l = false :=
  goodAB_no fun n e g => ixB_no.1 h (by have := (g.rng p (List.mem_of_getElem? hp)).1; omega)
theorem good_no_2 {s : Int} {l : AL} {k : Nat} {p : Int × Int} (hp : l[k]? = some p) (h : ixB p.2 s = false) : goodAB s l = false :=
  goodAB_no fun n e g => ixB_no.1 h (by have := (g.rng p (List.mem_of_getElem? hp)).2; omega)
theorem good_no_srt {s : Int} {l : AL} {k : Nat} {p q : Int × Int} (hp : l[k]? = some p) (hq : l[k + 1]? = some q) (h : ¬ arcLt p q) : goodAB s l = false :=
  goodAB_no fun _ _ g => h (sorted_adj g.srt hp hq)
/-- the first k arcs are valid -/
def PreA (s : Int) (l : AL) (k : Nat) : Prop :=
  (∀ i p, i < k → l[i]? = some p → (0 ≤ p.1 ∧ p.1 < s) ∧ (0 ≤ p.2 ∧ p.2 < s)) ∧ (∀ i p q, i + 1 < k → l[i]? = some p → l[i + 1]? = some q → arcLt p q)
theorem pre_zero (s : Int) (l : AL) : PreA s l 0 := ⟨fun i p h => by omega, fun i p q h => by omega⟩
theorem pre_step {s : Int} {l : AL} {k : Nat} {x : Int × Int} (h : PreA s l k) (hx : l[k]? = some x) (h1 : ixB x.1 s = true) (h2 : ixB x.2 s = true) (h3 : ∀ p, 0 < k → l[k - 1]? = some p → arcLt p x) : PreA s l (k + 1) := by
  refine ⟨fun i p hi hp => ?_, fun i p q hi hp hq => ?_⟩
  · rcases Nat.lt_or_ge i k with c | c
    · exact h.1 i p c hp
    · have : i = k := by omega
      subst this
      rw [hx] at hp
      cases hp
      exact ⟨ixB_iff.1 h1, ixB_iff.1 h2⟩
  · rcases Nat.lt_or_ge (i + 1) k with c | c
    · exact h.2 i p q c hp hq
    · have : i + 1 = k := by omega
      subst this
      rw [hx] at hq
      cases hq
      exact h3 p (by omega) (by simpa using hp)
theorem good_yes {s : Int} {l : AL} (h : PreA s l l.length) (hs : inB 1 6 s = true) (hl : l.length ≤ 30) : goodAB s l = true := by
  obtain ⟨h1, h2⟩ := inB_yes hs
  refine goodAB_iff.2 ⟨s.toNat, by omega, by omega, by omega, hl, fun p hp => ?_, adj_sorted fun i p q hp hq => h.2 i p q (List.getElem?_eq_some_iff.1 hq).1 hp hq⟩
  obtain ⟨i, hi⟩ := List.getElem?_of_mem hp
  have := h.1 i p (List.getElem?_eq_some_iff.1 hi).1 hi
  omega
/-- an arc's place -/
def plc (s : Int) (p : Int × Int) : Int := p.1 * s + p.2
theorem plc_lt {s : Int} {p q : Int × Int} (hs : 1 ≤ s ∧ s ≤ 6) (hp : (0 ≤ p.1 ∧ p.1 < s) ∧ (0 ≤ p.2 ∧ p.2 < s)) (hq : (0 ≤ q.1 ∧ q.1 < s) ∧ (0 ≤ q.2 ∧ q.2 < s)) : plc s p < plc s q ↔ arcLt p q := by
  obtain ⟨a, b⟩ := p
  obtain ⟨c, d⟩ := q
  unfold plc arcLt
  simp only at *
  have : s = 1 ∨ s = 2 ∨ s = 3 ∨ s = 4 ∨ s = 5 ∨ s = 6 := by omega
  rcases this with rfl | rfl | rfl | rfl | rfl | rfl <;> omega
theorem plc_le {s : Int} {p : Int × Int} (hs : 1 ≤ s ∧ s ≤ 6) (h1 : ixB p.1 s = true) (h2 : ixB p.2 s = true) : (0 ≤ p.1 * s ∧ p.1 * s ≤ 30) ∧ (0 ≤ plc s p ∧ plc s p ≤ 35) := by
  obtain ⟨a, b⟩ := p
  have h1' := ixB_iff.1 h1
  have h2' := ixB_iff.1 h2
  unfold plc
  simp only at *
  have : s = 1 ∨ s = 2 ∨ s = 3 ∨ s = 4 ∨ s = 5 ∨ s = 6 := by omega
  rcases this with rfl | rfl | rfl | rfl | rfl | rfl <;> omega
/-- the place of the arc before -/
def lastA (s : Int) (l : AL) : Nat → Int
  | 0 => -1
  | k + 1 => match l[k]? with
    | some p => plc s p
    | none => -1
theorem lastA_succ {s : Int} {l : AL} {k : Nat} {p : Int × Int} (h : l[k]? = some p) : lastA s l (k + 1) = plc s p := by show (match l[k]? with | some p => plc s p | none => -1) = _; rw [h]
theorem lastA_le {s : Int} {l : AL} {k : Nat} (h : PreA s l k) (hs : 1 ≤ s ∧ s ≤ 6) : -1 ≤ lastA s l k ∧ lastA s l k ≤ 35 := by
  cases k with
  | zero => simp [lastA]
  | succ k =>
    cases q : l[k]? with
    | none => have e : lastA s l (k + 1) = -1 := by show (match l[k]? with | some p => plc s p | none => -1) = _; rw [q]
              rw [e]; simp
    | some p =>
      rw [lastA_succ q]
      have h0 := h.1 k p (by omega) q
      have := plc_le (p := p) hs (ixB_iff.2 h0.1) (ixB_iff.2 h0.2)
      omega
theorem last_yes {s : Int} {l : AL} {k : Nat} {x : Int × Int} (h : PreA s l k) (hs : 1 ≤ s ∧ s ≤ 6) (hx : l[k]? = some x) (h1 : ixB x.1 s = true) (h2 : ixB x.2 s = true) (h3 : lastA s l k < plc s x) : PreA s l (k + 1) := by
  refine pre_step h hx h1 h2 fun p hk hp => ?_
  obtain ⟨j, rfl⟩ : ∃ j, k = j + 1 := ⟨k - 1, by omega⟩
  simp only [Nat.add_sub_cancel] at hp
  rw [lastA_succ hp] at h3
  exact (plc_lt hs (h.1 j p (by omega) hp) ⟨ixB_iff.1 h1, ixB_iff.1 h2⟩).1 h3
theorem last_no {s : Int} {l : AL} {k : Nat} {x : Int × Int} (h : PreA s l k) (hs : 1 ≤ s ∧ s ≤ 6) (hx : l[k]? = some x) (h1 : ixB x.1 s = true) (h2 : ixB x.2 s = true) (h3 : ¬ lastA s l k < plc s x) : goodAB s l = false := by
  cases k with
  | zero => exact absurd (by have := (plc_le hs h1 h2).2; simp only [lastA]; omega) h3
  | succ k =>
    obtain ⟨p, hp⟩ : ∃ p, l[k]? = some p := ⟨_, List.getElem?_eq_getElem (by have := (List.getElem?_eq_some_iff.1 hx).1; omega)⟩
    rw [lastA_succ hp] at h3
    refine good_no_srt hp hx fun hlt => h3 ?_
    exact (plc_lt hs (h.1 k p (by omega) hp) ⟨ixB_iff.1 h1, ixB_iff.1 h2⟩).2 hlt
/-- the model's test of an arc and the one before -/
theorem lt_by {p x : Int × Int} (h1 : decide (x.1 < p.1) = false) (h2 : ((p.1 == x.1) && decide (x.2 ≤ p.2)) = false) : arcLt p x := by
  unfold arcLt
  simp only [decide_eq_false_iff_not] at h1
  simp only [Bool.and_eq_false_iff, beq_eq_false_iff_ne, decide_eq_false_iff_not] at h2
  omega
theorem nlt_1 {p x : Int × Int} (h1 : decide (x.1 < p.1) = true) : ¬ arcLt p x := by unfold arcLt; simp only [decide_eq_true_eq] at h1; omega
theorem nlt_2 {p x : Int × Int} (h1 : (p.1 == x.1) = true) (h2 : decide (x.2 ≤ p.2) = true) : ¬ arcLt p x := by unfold arcLt; simp only [decide_eq_true_eq, beq_iff_eq] at *; omega
/-- a list of vertices -/
def spotsB (s : Int) (w : List Int) : Bool := inB 1 6 s && (inB 1 8 w.length && decide (∀ x ∈ w, ixB x s = true))
theorem spotsB_iff {s : Int} {w : List Int} : spotsB s w = true ↔ (1 ≤ s ∧ s ≤ 6) ∧ (1 ≤ w.length ∧ w.length ≤ 8) ∧ ∀ x ∈ w, 0 ≤ x ∧ x < s := by
  unfold spotsB inB
  simp only [Bool.and_eq_true, decide_eq_true_eq, ixB_iff]
  constructor
  · rintro ⟨h1, h2, h3⟩; exact ⟨h1, by omega, h3⟩
  · rintro ⟨h1, h2, h3⟩; exact ⟨h1, by omega, h3⟩
end Go.Proofs.Ytbmmajdacebncaa
