/-
  A sorted list into which numbers are put. Plain mathematics (out of PuMath: import one of the two).
-/
import Derived.WalkKit
namespace Go.Proofs.Ytbmmajdacebncaa

theorem take_snocP {α : Type} {l : List α} {k : Nat} {y : α} (h : l[k]? = some y) : l.take (k + 1) = l.take k ++ [y] := by
  rw [List.take_add_one, h]; rfl
/-- a number goes into its place -/
def putL (n : Int) : List Int → List Int
  | [] => [n]
  | x :: t => if x < n then x :: putL n t else if x = n then x :: t else n :: x :: t
theorem putL_mem (n x : Int) (l : List Int) : x ∈ putL n l ↔ x = n ∨ x ∈ l := by
  induction l with
  | nil => simp [putL]
  | cons y t ih =>
    rw [putL]
    split
    · simp [ih]
      constructor
      · rintro (h | h | h) <;> simp [h]
      · rintro (h | h | h) <;> simp [h]
    · split
      · rename_i h
        subst h
        simp
      · simp
theorem putL_sorted (n : Int) {l : List Int} (h : l.Pairwise (· < ·)) : (putL n l).Pairwise (· < ·) := by
  induction l with
  | nil => simp [putL]
  | cons y t ih =>
    have h1 := List.pairwise_cons.1 h
    rw [putL]
    split
    · rename_i hy
      refine List.pairwise_cons.2 ⟨fun z hz => ?_, ih h1.2⟩
      rcases (putL_mem n z t).1 hz with rfl | hz
      · exact hy
      · exact h1.1 z hz
    · split
      · exact h
      · rename_i hy hn
        refine List.pairwise_cons.2 ⟨fun z hz => ?_, h⟩
        simp at hz
        rcases hz with rfl | hz
        · omega
        · have := h1.1 z hz; omega
theorem putL_cut {n : Int} {l : List Int} {k : Nat} (h1 : ∀ x ∈ l.take k, x < n) (h2 : ∀ y, l[k]? = some y → ¬ y < n) (hk : k ≤ l.length) : putL n l = if l[k]? = some n then l else l.take k ++ (n :: l.drop k) := by
  induction k generalizing l with
  | zero =>
    cases l with
    | nil => simp [putL]
    | cons y t =>
      have := h2 y (by simp)
      rw [putL, if_neg this]
      by_cases e : y = n
      · simp [e]
      · simp [e]
  | succ k ih =>
    cases l with
    | nil => simp at hk
    | cons y t =>
      have hy : y < n := h1 y (by simp)
      have := ih (l := t) (fun x hx => h1 x (by simp [hx])) (fun z hz => h2 z (by simpa using hz)) (by simpa using hk)
      rw [putL, if_pos hy, this]
      simp only [List.getElem?_cons_succ, List.take_succ_cons, List.drop_succ_cons]
      split <;> simp
theorem putL_len (n : Int) (l : List Int) : (putL n l).length ≤ l.length + 1 := by
  induction l with
  | nil => simp [putL]
  | cons y t ih =>
    rw [putL]
    split
    · simp; omega
    · split <;> simp
theorem sorted_ext : ∀ {a b : List Int}, a.Pairwise (· < ·) → b.Pairwise (· < ·) → (∀ x, x ∈ a ↔ x ∈ b) → a = b
  | [], [], _, _, _ => rfl
  | [], y :: t, _, _, h => by have := (h y).2 (by simp); simp at this
  | x :: s, [], _, _, h => by have := (h x).1 (by simp); simp at this
  | x :: s, y :: t, ha, hb, h => by
    have a1 := List.pairwise_cons.1 ha
    have b1 := List.pairwise_cons.1 hb
    have e : x = y := by
      have h1 := (h x).1 (by simp)
      have h2 := (h y).2 (by simp)
      simp at h1 h2
      rcases h1 with h1 | h1
      · exact h1
      · rcases h2 with h2 | h2
        · exact h2.symm
        · have := b1.1 x h1; have := a1.1 y h2; omega
    subst e
    have : s = t := sorted_ext a1.2 b1.2 (fun z => by
      have hz := h z
      simp at hz
      constructor
      · intro q
        have := a1.1 z q
        rcases hz.1 (.inr q) with r | r
        · omega
        · exact r
      · intro q
        have := b1.1 z q
        rcases hz.2 (.inr q) with r | r
        · omega
        · exact r)
    rw [this]
/-- all the literals, sorted -/
def putAll (s l : List Int) : List Int := l.foldl (fun s x => putL x s) s
theorem putAll_mem (l : List Int) : ∀ (s : List Int) (x : Int), x ∈ putAll s l ↔ x ∈ s ∨ x ∈ l := by
  induction l with
  | nil => intro s x; simp [putAll]
  | cons y t ih =>
    intro s x
    have := ih (putL y s) x
    unfold putAll at this ⊢
    rw [List.foldl_cons, this, putL_mem]
    simp
    constructor
    · rintro ((h | h) | h) <;> simp [h]
    · rintro (h | h | h) <;> simp [h]
theorem putAll_sorted (l : List Int) : ∀ (s : List Int), s.Pairwise (· < ·) → (putAll s l).Pairwise (· < ·) := by
  induction l with
  | nil => intro s h; exact h
  | cons y t ih =>
    intro s h
    have := ih (putL y s) (putL_sorted y h)
    unfold putAll at this ⊢
    rw [List.foldl_cons]
    exact this
theorem putAll_at {s l : List Int} {k : Nat} {x : Int} (h : l[k]? = some x) : putAll s (l.take (k + 1)) = putL x (putAll s (l.take k)) := by
  unfold putAll
  rw [take_snocP h, List.foldl_append]
  rfl
theorem putAll_app (s a b : List Int) : putAll s (a ++ b) = putAll (putAll s a) b := by
  unfold putAll
  rw [List.foldl_append]
theorem putAll_len (l : List Int) : ∀ s : List Int, (putAll s l).length ≤ s.length + l.length := by
  induction l with
  | nil => intro s; simp [putAll]
  | cons y t ih =>
    intro s
    have h1 := ih (putL y s)
    have h2 := putL_len y s
    unfold putAll at h1 ⊢
    rw [List.foldl_cons, List.length_cons]
    omega
end Go.Proofs.Ytbmmajdacebncaa
