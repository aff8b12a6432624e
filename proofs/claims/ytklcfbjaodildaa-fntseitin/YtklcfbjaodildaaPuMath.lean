/-
  Sorted lists without duplicates; the literals that stand one way alone.
-/
import Derived.Test.YtklcfbjaodildaaSvMath
import Derived.Test.YtklcfbjaodildaaClSet
namespace Go.Proofs.Ytklcfbjaodildaa

/-- all numbers from -v to v -/
def span (v : Nat) : List Int := (List.range (2 * v + 1)).map fun (i : Nat) => (i : Int) - (v : Int)
theorem span_len (v : Nat) : (span v).length = 2 * v + 1 := by simp [span]
theorem span_at {v k : Nat} (h : k < 2 * v + 1) : (span v)[k]? = some ((k : Int) - (v : Int)) := by simp [span, h]
theorem span_mem {v : Nat} {x : Int} : x ∈ span v ↔ -(v : Int) ≤ x ∧ x ≤ v := by
  simp only [span, List.mem_map, List.mem_range]
  constructor
  · rintro ⟨i, hi, rfl⟩; omega
  · intro h; exact ⟨(x + v).toNat, by omega, by omega⟩
theorem span_sorted (v : Nat) : (span v).Pairwise (· < ·) := by
  unfold span
  rw [List.pairwise_map]
  refine List.Pairwise.imp ?_ List.pairwise_lt_range
  intro a b h
  omega
/-- a literal that stands one way alone -/
def pureB (all : List Int) (x : Int) : Bool := decide (x ∈ all) && !decide (-x ∈ all)
def pureL (v : Nat) (all : List Int) : List Int := (span v).filter (pureB all)
theorem pureL_len (v : Nat) (all : List Int) : (pureL v all).length ≤ 2 * v + 1 := by
  have := List.length_filter_le (pureB all) (span v)
  rw [span_len] at this
  exact this
/-- a number goes into its place -/
def putL (n : Int) : List Int → List Int
  | [] => [n]
  | x :: t => if x < n then x :: putL n t else if x = n then x :: t else n :: x :: t
theorem putL_mem (n x : Int) (l : List Int) : x ∈ putL n l ↔ x = n ∨ x ∈ l := by
  induction l with
  | nil => simp [putL]
  | cons y t ih =>
    rw [putL]
    split
    · simp [ih]
      constructor
      · rintro (h | h | h) <;> simp [h]
      · rintro (h | h | h) <;> simp [h]
    · split
      · rename_i h
        subst h
        simp
      · simp
theorem putL_sorted (n : Int) {l : List Int} (h : l.Pairwise (· < ·)) : (putL n l).Pairwise (· < ·) := by
  induction l with
  | nil => simp [putL]
  | cons y t ih =>
    have h1 := List.pairwise_cons.1 h
    rw [putL]
    split
    · rename_i hy
      refine List.pairwise_cons.2 ⟨fun z hz => ?_, ih h1.2⟩
      rcases (putL_mem n z t).1 hz with rfl | hz
      · exact hy
      · exact h1.1 z hz
    · split
      · exact h
      · rename_i hy hn
        refine List.pairwise_cons.2 ⟨fun z hz => ?_, h⟩
        simp at hz
        rcases hz with rfl | hz
        · omega
        · have := h1.1 z hz; omega
theorem putL_cut {n : Int} {l : List Int} {k : Nat} (h1 : ∀ x ∈ l.take k, x < n) (h2 : ∀ y, l[k]? = some y → ¬ y < n) (hk : k ≤ l.length) : putL n l = if l[k]? = some n then l else l.take k ++ (n :: l.drop k) := by
  induction k generalizing l with
  | zero =>
    cases l with
    | nil => simp [putL]
    | cons y t =>
      have := h2 y (by simp)
      rw [putL, if_neg this]
      by_cases e : y = n
      · simp [e]
      · simp [e]
  | succ k ih =>
    cases l with
    | nil => simp at hk
    | cons y t =>
      have hy : y < n := h1 y (by simp)
      have := ih (l := t) (fun x hx => h1 x (by simp [hx])) (fun z hz => h2 z (by simpa using hz)) (by simpa using hk)
      rw [putL, if_pos hy, this]
      simp only [List.getElem?_cons_succ, List.take_succ_cons, List.drop_succ_cons]
      split <;> simp
theorem putL_len (n : Int) (l : List Int) : (putL n l).length ≤ l.length + 1 := by
  induction l with
  | nil => simp [putL]
  | cons y t ih =>
    rw [putL]
    split
    · simp; omega
    · split <;> simp
theorem sorted_ext : ∀ {a b : List Int}, a.Pairwise (· < ·) → b.Pairwise (· < ·) → (∀ x, x ∈ a ↔ x ∈ b) → a = b
  | [], [], _, _, _ => rfl
  | [], y :: t, _, _, h => by have := (h y).2 (by simp); simp at this
  | x :: s, [], _, _, h => by have := (h x).1 (by simp); simp at this
  | x :: s, y :: t, ha, hb, h => by
    have a1 := List.pairwise_cons.1 ha
    have b1 := List.pairwise_cons.1 hb
    have e : x = y := by
      have h1 := (h x).1 (by simp)
      have h2 := (h y).2 (by simp)
      simp at h1 h2
      rcases h1 with h1 | h1
      · exact h1
      · rcases h2 with h2 | h2
        · exact h2.symm
        · have := b1.1 x h1; have := a1.1 y h2; omega
    subst e
    have : s = t := sorted_ext a1.2 b1.2 (fun z => by
      have hz := h z
      simp at hz
      constructor
      · intro q
        have := a1.1 z q
        rcases hz.1 (.inr q) with r | r
        · omega
        · exact r
      · intro q
        have := b1.1 z q
        rcases hz.2 (.inr q) with r | r
        · omega
        · exact r)
    rw [this]
/-- all the literals, sorted -/
def putAll (s l : List Int) : List Int := l.foldl (fun s x => putL x s) s
theorem putAll_mem (l : List Int) : ∀ (s : List Int) (x : Int), x ∈ putAll s l ↔ x ∈ s ∨ x ∈ l := by
  induction l with
  | nil => intro s x; simp [putAll]
  | cons y t ih =>
    intro s x
    have := ih (putL y s) x
    unfold putAll at this ⊢
    rw [List.foldl_cons, this, putL_mem]
    simp
    constructor
    · rintro ((h | h) | h) <;> simp [h]
    · rintro (h | h | h) <;> simp [h]
theorem putAll_sorted (l : List Int) : ∀ (s : List Int), s.Pairwise (· < ·) → (putAll s l).Pairwise (· < ·) := by
  induction l with
  | nil => intro s h; exact h
  | cons y t ih =>
    intro s h
    have := ih (putL y s) (putL_sorted y h)
    unfold putAll at this ⊢
    rw [List.foldl_cons]
    exact this
theorem putAll_at {s l : List Int} {k : Nat} {x : Int} (h : l[k]? = some x) : putAll s (l.take (k + 1)) = putL x (putAll s (l.take k)) := by
  unfold putAll
  rw [take_snoc h, List.foldl_append]
  rfl
theorem putAll_app (s a b : List Int) : putAll s (a ++ b) = putAll (putAll s a) b := by
  unfold putAll
  rw [List.foldl_append]
theorem putAll_span {v : Nat} {l : List Int} (h : ∀ x ∈ l, -(v : Int) ≤ x ∧ x ≤ v) : putAll [] l = (span v).filter fun x => decide (x ∈ l) := by
  refine sorted_ext (putAll_sorted l [] List.Pairwise.nil) ((span_sorted v).filter _) (fun x => ?_)
  rw [putAll_mem, List.mem_filter, span_mem]
  simp
  exact fun q => h x q
theorem pure_of {v : Nat} {l : List Int} (h : ∀ x ∈ l, -(v : Int) ≤ x ∧ x ≤ v) : (putAll [] l).filter (fun x => !decide (-x ∈ putAll [] l)) = pureL v l := by
  have hm : ∀ x, x ∈ putAll [] l ↔ x ∈ l := fun x => by rw [putAll_mem]; simp
  rw [show (fun x => !decide (-x ∈ putAll [] l)) = (fun x => !decide (-x ∈ l)) from by funext x; simp [hm]]
  rw [putAll_span h, List.filter_filter]
  unfold pureL
  congr 1
  funext x
  simp [pureB, Bool.and_comm]
theorem putAll_len (l : List Int) : ∀ s : List Int, (putAll s l).length ≤ s.length + l.length := by
  induction l with
  | nil => intro s; simp [putAll]
  | cons y t ih =>
    intro s
    have h1 := ih (putL y s)
    have h2 := putL_len y s
    unfold putAll at h1 ⊢
    rw [List.foldl_cons, List.length_cons]
    omega
theorem flatten_at {L : List (List Int)} {k : Nat} {c : List Int} (h : L[k]? = some c) : (L.take (k + 1)).flatten = (L.take k).flatten ++ c := by
  have h1 := (List.getElem?_eq_some_iff.1 h).1
  have h2 := (List.getElem?_eq_some_iff.1 h).2
  rw [List.take_succ_eq_append_getElem h1, h2]
  simp
theorem setN_app (a b : List Int) : setN (a ++ b) = setN a ||| setN b := by
  have key : ∀ (l : List Int) (s : Nat), l.foldl (fun s x => s ||| 2 ^ bitAt x) s = s ||| l.foldl (fun s x => s ||| 2 ^ bitAt x) 0 := by
    intro l
    induction l with
    | nil => intro s; simp
    | cons x t ih =>
      intro s
      rw [List.foldl_cons, List.foldl_cons, ih, ih (0 ||| 2 ^ bitAt x), Nat.zero_or, Nat.or_assoc]
  unfold setN
  rw [List.foldl_append, key b]
theorem set_or2 (a b : List Int) (ha : In12 a) (hb : In12 b) : bits .or .u32 (setV a) (setV b) = setV (a ++ b) := by
  have h1 := setN_lt a ha
  have h2 := setN_lt b hb
  unfold setV
  rw [u32_or_nat _ _ (by omega) (by omega), setN_app]
end Go.Proofs.Ytklcfbjaodildaa
