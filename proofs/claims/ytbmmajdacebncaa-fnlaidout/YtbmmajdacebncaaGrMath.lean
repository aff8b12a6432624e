/-
  Graphs of a few vertices: what is reached within so many arcs, the number of walks, the layers. Plain mathematics.
-/
import Derived.Test.YtbmmajdacebncaaDmMath
namespace Go.Proofs.Ytbmmajdacebncaa

/-- reached from f over at most k arcs -/
def rw_ (E : Nat → Nat → Bool) (n f : Nat) : Nat → Nat → Bool
  | 0, i => decide (i = f)
  | k + 1, i => rw_ E n f k i || (List.range n).any (fun a => rw_ E n f k a && E a i)
theorem rw_succ {E : Nat → Nat → Bool} {n f k i : Nat} : rw_ E n f (k + 1) i = true ↔ rw_ E n f k i = true ∨ ∃ a, a < n ∧ rw_ E n f k a = true ∧ E a i = true := by
  show (rw_ E n f k i || (List.range n).any (fun a => rw_ E n f k a && E a i)) = true ↔ _
  simp only [Bool.or_eq_true, List.any_eq_true, List.mem_range, Bool.and_eq_true]
theorem rw_mono {E : Nat → Nat → Bool} {n f k i : Nat} (h : rw_ E n f k i = true) (d : Nat) : rw_ E n f (k + d) i = true := by
  induction d with
  | zero => exact h
  | succ d ih => exact rw_succ.2 (.inl ih)
def rwL (E : Nat → Nat → Bool) (n f k : Nat) : List Nat := (List.range n).filter (rw_ E n f k)
theorem mem_rw {E : Nat → Nat → Bool} {n f k i : Nat} : i ∈ rwL E n f k ↔ i < n ∧ rw_ E n f k i = true := by unfold rwL; simp
/-- a filter of what another lets through: not longer, and the same where as long -/
theorem filter_le {l : List Nat} {p q : Nat → Bool} (h : ∀ i ∈ l, p i = true → q i = true) : (l.filter p).length ≤ (l.filter q).length ∧ ((l.filter p).length = (l.filter q).length → ∀ i ∈ l, p i = q i) := by
  induction l with
  | nil => simp
  | cons x l ih =>
    have hx := h x (by simp)
    obtain ⟨h1, h2⟩ := ih (fun i hi => h i (by simp [hi]))
    rw [List.filter_cons, List.filter_cons]
    cases hp : p x <;> cases hq : q x
    · refine ⟨by simpa using h1, fun e i hi => ?_⟩
      rcases List.mem_cons.1 hi with rfl | hi
      · rw [hp, hq]
      · exact h2 (by simpa using e) i hi
    · simp only [Bool.false_eq_true, if_false, if_true, List.length_cons]
      exact ⟨by omega, fun e => by omega⟩
    · rw [hp, hq] at hx; cases hx rfl
    · simp only [if_true, List.length_cons]
      refine ⟨by omega, fun e i hi => ?_⟩
      rcases List.mem_cons.1 hi with rfl | hi
      · rw [hp, hq]
      · exact h2 (by omega) i hi
theorem rw_len {E : Nat → Nat → Bool} {n f k : Nat} : (rwL E n f k).length ≤ (rwL E n f (k + 1)).length ∧ ((rwL E n f k).length = (rwL E n f (k + 1)).length → ∀ i, i < n → rw_ E n f k i = rw_ E n f (k + 1) i) := by
  have h := filter_le (l := List.range n) (p := rw_ E n f k) (q := rw_ E n f (k + 1)) (fun i _ hi => rw_mono hi 1)
  exact ⟨h.1, fun e i hi => h.2 e i (by simpa using hi)⟩
/-- once no further vertex is reached, none ever is -/
theorem rw_stable {E : Nat → Nat → Bool} {n f k : Nat} (h : (rwL E n f k).length = (rwL E n f (k + 1)).length) (d : Nat) : ∀ i, i < n → rw_ E n f (k + d) i = rw_ E n f k i := by
  have h0 := rw_len.2 h
  induction d with
  | zero => intro i _; rfl
  | succ d ih =>
    intro i hi
    rw [Bool.eq_iff_iff, ← Nat.add_assoc, rw_succ]
    rw [ih i hi]
    constructor
    · rintro (h1 | ⟨a, ha, h1, h2⟩)
      · exact h1
      · rw [ih a ha] at h1
        rw [h0 i hi]
        exact rw_succ.2 (.inr ⟨a, ha, h1, h2⟩)
    · exact .inl
theorem rw_all {E : Nat → Nat → Bool} {n f k : Nat} (h : (rwL E n f k).length = (rwL E n f (k + 1)).length) {m : Nat} (hm : k ≤ m) : rwL E n f m = rwL E n f k := by
  obtain ⟨d, rfl⟩ : ∃ d, m = k + d := ⟨m - k, by omega⟩
  unfold rwL
  apply List.filter_congr
  intro i hi
  exact rw_stable h d i (by simpa using hi)
theorem rw_start {E : Nat → Nat → Bool} {n f : Nat} (hf : f < n) : 1 ≤ (rwL E n f 0).length := List.length_pos_of_mem (mem_rw.2 ⟨hf, by simp [rw_]⟩)
theorem rw_most {E : Nat → Nat → Bool} {n f k : Nat} : (rwL E n f k).length ≤ n := by
  have := List.length_filter_le (rw_ E n f k) (List.range n)
  simpa [rwL] using this
/-- as long as each arc reaches a further vertex, so many are reached -/
theorem rw_grow {E : Nat → Nat → Bool} {n f : Nat} (hf : f < n) (k : Nat) (h : ∀ j, j < k → (rwL E n f j).length < (rwL E n f (j + 1)).length) : k + 1 ≤ (rwL E n f k).length := by
  induction k with
  | zero => exact rw_start hf
  | succ k ih =>
    have h1 := ih (fun j hj => h j (by omega))
    have h2 := h k (by omega)
    omega
/-- the least number of arcs that is enough -/
def EnoughR (E : Nat → Nat → Bool) (n f k : Nat) : Prop := (rwL E n f k).length = (rwL E n f (k + 1)).length ∧ ∀ j, j < k → (rwL E n f j).length < (rwL E n f (j + 1)).length
theorem enough_lt {E : Nat → Nat → Bool} {n f k : Nat} (hf : f < n) (h : EnoughR E n f k) : k < n := by
  have h1 := rw_grow hf k h.2
  have h2 := rw_most (E := E) (n := n) (f := f) (k := k)
  omega
theorem enough_one {E : Nat → Nat → Bool} {n f k m : Nat} (h : EnoughR E n f k) (h' : EnoughR E n f m) : k = m := by
  rcases Nat.lt_trichotomy k m with q | q | q
  · have := h'.2 k q; have := h.1; omega
  · exact q
  · have := h.2 m q; have := h'.1; omega
theorem enough_is {E : Nat → Nat → Bool} {n f : Nat} (hf : f < n) : ∃ k, EnoughR E n f k := by
  have key : ∀ k, (∀ j, j < k → (rwL E n f j).length < (rwL E n f (j + 1)).length) ∨ ∃ m, EnoughR E n f m := by
    intro k
    induction k with
    | zero => left; intro j hj; omega
    | succ k ih =>
      rcases ih with h | h
      · rcases Nat.lt_or_ge (rwL E n f k).length (rwL E n f (k + 1)).length with q | q
        · left
          intro j hj
          rcases Nat.lt_or_ge j k with r | r
          · exact h j r
          · have : j = k := by omega
            subst this; exact q
        · right
          exact ⟨k, by have := (rw_len (E := E) (n := n) (f := f) (k := k)).1; omega, h⟩
      · exact .inr h
  rcases key (n + 1) with h | h
  · exfalso
    have h1 := rw_grow hf (n + 1) h
    have h2 := rw_most (E := E) (n := n) (f := f) (k := n + 1)
    omega
  · exact h
/-- walks of k arcs from f to i -/
def wk (E : Nat → Nat → Bool) (n f : Nat) : Nat → Nat → Nat
  | 0, i => if i = f then 1 else 0
  | k + 1, i => sumTo (fun a => if E a i then wk E n f k a else 0) n
theorem wk_le {E : Nat → Nat → Bool} {n f : Nat} (k i : Nat) : wk E n f k i ≤ n ^ k := by
  induction k generalizing i with
  | zero => show (if i = f then 1 else 0) ≤ 1; split <;> omega
  | succ k ih =>
    show sumTo (fun a => if E a i then wk E n f k a else 0) n ≤ n ^ (k + 1)
    have key : ∀ m, sumTo (fun a => if E a i then wk E n f k a else 0) m ≤ m * n ^ k := by
      intro m
      induction m with
      | zero => simp [sumTo]
      | succ m ihm =>
        simp only [sumTo]
        rw [Nat.add_mul, Nat.one_mul]
        have := ih m
        split <;> omega
    have := key n
    rw [Nat.pow_succ, Nat.mul_comm]
    exact this
/-- an arc between layers -/
theorem laid_arc {n a b k m x y : Nat} (ha : a < n) (hb : b < n) (hx : x < n) : (m * n + x = k * n + a ∧ (m + 1) * n + y = (k + 1) * n + b) ↔ (m = k ∧ x = a ∧ y = b) := by
  constructor
  · rintro ⟨h1, h2⟩
    have e1 : (m * n + x) / n = (k * n + a) / n := by rw [h1]
    rw [Nat.mul_comm m, Nat.mul_comm k, Nat.mul_add_div (by omega), Nat.mul_add_div (by omega), Nat.div_eq_of_lt hx, Nat.div_eq_of_lt ha] at e1
    have e : m = k := by omega
    subst e
    exact ⟨rfl, by omega, by omega⟩
  · rintro ⟨rfl, rfl, rfl⟩
    exact ⟨rfl, rfl⟩
theorem laid_div {n k a : Nat} (h : a < n) : (k * n + a) / n = k ∧ (k * n + a) % n = a := by
  rw [Nat.mul_comm, Nat.mul_add_div (by omega), Nat.div_eq_of_lt h, Nat.mul_add_mod, Nat.mod_eq_of_lt h]
  exact ⟨by omega, rfl⟩
end Go.Proofs.Ytbmmajdacebncaa
