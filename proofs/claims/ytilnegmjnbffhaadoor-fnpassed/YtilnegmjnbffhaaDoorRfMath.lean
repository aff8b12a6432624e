/-
  The graph of a program, by its steps; marks in a row of bools; the steps that an iterator gives. Plain mathematics.
-/
import Derived.WalkKit
import Derived.Test.YtilnegmjnbffhaaDoorNexts
namespace Go.Proofs.YtilnegmjnbffhaaDoor
open Go.ChangeShapes Go.WideShapes Go.ChangeAt Go.RowKit

theorem take_snocP {α : Type} {l : List α} {k : Nat} {y : α} (h : l[k]? = some y) : l.take (k + 1) = l.take k ++ [y] := by
  rw [List.take_add_one, h]; rfl
/-- a number goes into its place -/
def putL (n : Int) : List Int → List Int
  | [] => [n]
  | x :: t => if x < n then x :: putL n t else if x = n then x :: t else n :: x :: t
theorem putL_mem (n x : Int) (l : List Int) : x ∈ putL n l ↔ x = n ∨ x ∈ l := by
  induction l with
  | nil => simp [putL]
  | cons y t ih =>
    rw [putL]
    split
    · simp [ih]
      constructor
      · rintro (h | h | h) <;> simp [h]
      · rintro (h | h | h) <;> simp [h]
    · split
      · rename_i h
        subst h
        simp
      · simp
theorem putL_sorted (n : Int) {l : List Int} (h : l.Pairwise (· < ·)) : (putL n l).Pairwise (· < ·) := by
  induction l with
  | nil => simp [putL]
  | cons y t ih =>
    have h1 := List.pairwise_cons.1 h
    rw [putL]
    split
    · rename_i hy
      refine List.pairwise_cons.2 ⟨fun z hz => ?_, ih h1.2⟩
      rcases (putL_mem n z t).1 hz with rfl | hz
      · exact hy
      · exact h1.1 z hz
    · split
      · exact h
      · rename_i hy hn
        refine List.pairwise_cons.2 ⟨fun z hz => ?_, h⟩
        simp at hz
        rcases hz with rfl | hz
        · omega
        · have := h1.1 z hz; omega
theorem putL_cut {n : Int} {l : List Int} {k : Nat} (h1 : ∀ x ∈ l.take k, x < n) (h2 : ∀ y, l[k]? = some y → ¬ y < n) (hk : k ≤ l.length) : putL n l = if l[k]? = some n then l else l.take k ++ (n :: l.drop k) := by
  induction k generalizing l with
  | zero =>
    cases l with
    | nil => simp [putL]
    | cons y t =>
      have := h2 y (by simp)
      rw [putL, if_neg this]
      by_cases e : y = n
      · simp [e]
      · simp [e]
  | succ k ih =>
    cases l with
    | nil => simp at hk
    | cons y t =>
      have hy : y < n := h1 y (by simp)
      have := ih (l := t) (fun x hx => h1 x (by simp [hx])) (fun z hz => h2 z (by simpa using hz)) (by simpa using hk)
      rw [putL, if_pos hy, this]
      simp only [List.getElem?_cons_succ, List.take_succ_cons, List.drop_succ_cons]
      split <;> simp
theorem putL_len (n : Int) (l : List Int) : (putL n l).length ≤ l.length + 1 := by
  induction l with
  | nil => simp [putL]
  | cons y t ih =>
    rw [putL]
    split
    · simp; omega
    · split <;> simp
theorem sorted_ext : ∀ {a b : List Int}, a.Pairwise (· < ·) → b.Pairwise (· < ·) → (∀ x, x ∈ a ↔ x ∈ b) → a = b
  | [], [], _, _, _ => rfl
  | [], y :: t, _, _, h => by have := (h y).2 (by simp); simp at this
  | x :: s, [], _, _, h => by have := (h x).1 (by simp); simp at this
  | x :: s, y :: t, ha, hb, h => by
    have a1 := List.pairwise_cons.1 ha
    have b1 := List.pairwise_cons.1 hb
    have e : x = y := by
      have h1 := (h x).1 (by simp)
      have h2 := (h y).2 (by simp)
      simp at h1 h2
      rcases h1 with h1 | h1
      · exact h1
      · rcases h2 with h2 | h2
        · exact h2.symm
        · have := b1.1 x h1; have := a1.1 y h2; omega
    subst e
    have : s = t := sorted_ext a1.2 b1.2 (fun z => by
      have hz := h z
      simp at hz
      constructor
      · intro q
        have := a1.1 z q
        rcases hz.1 (.inr q) with r | r
        · omega
        · exact r
      · intro q
        have := b1.1 z q
        rcases hz.2 (.inr q) with r | r
        · omega
        · exact r)
    rw [this]
/-- all the literals, sorted -/
def putAll (s l : List Int) : List Int := l.foldl (fun s x => putL x s) s
theorem putAll_mem (l : List Int) : ∀ (s : List Int) (x : Int), x ∈ putAll s l ↔ x ∈ s ∨ x ∈ l := by
  induction l with
  | nil => intro s x; simp [putAll]
  | cons y t ih =>
    intro s x
    have := ih (putL y s) x
    unfold putAll at this ⊢
    rw [List.foldl_cons, this, putL_mem]
    simp
    constructor
    · rintro ((h | h) | h) <;> simp [h]
    · rintro (h | h | h) <;> simp [h]
theorem putAll_sorted (l : List Int) : ∀ (s : List Int), s.Pairwise (· < ·) → (putAll s l).Pairwise (· < ·) := by
  induction l with
  | nil => intro s h; exact h
  | cons y t ih =>
    intro s h
    have := ih (putL y s) (putL_sorted y h)
    unfold putAll at this ⊢
    rw [List.foldl_cons]
    exact this
theorem putAll_at {s l : List Int} {k : Nat} {x : Int} (h : l[k]? = some x) : putAll s (l.take (k + 1)) = putL x (putAll s (l.take k)) := by
  unfold putAll
  rw [take_snocP h, List.foldl_append]
  rfl
theorem putAll_app (s a b : List Int) : putAll s (a ++ b) = putAll (putAll s a) b := by
  unfold putAll
  rw [List.foldl_append]
theorem putAll_len (l : List Int) : ∀ s : List Int, (putAll s l).length ≤ s.length + l.length := by
  induction l with
  | nil => intro s; simp [putAll]
  | cons y t ih =>
    intro s
    have h1 := ih (putL y s)
    have h2 := putL_len y s
    unfold putAll at h1 ⊢
    rw [List.foldl_cons, List.length_cons]
    omega

theorem getD_app_l {α : Type} (l r : List α) (d : α) {i : Nat} (h : i < l.length) : (l ++ r).getD i d = l.getD i d := by
  rw [List.getD_eq_getElem?_getD, List.getD_eq_getElem?_getD, List.getElem?_append_left h]
theorem getD_app_r {α : Type} (l : List α) (x d : α) {i : Nat} (h : l.length = i) : (l ++ [x]).getD i d = x := by
  subst h
  rw [List.getD_eq_getElem?_getD, List.getElem?_append_right (Nat.le_refl _), Nat.sub_self]
  rfl
/-- a table, each entry out of those before -/
def tabB (F : (Nat → Bool) → Nat → Bool) : Nat → List Bool
  | 0 => []
  | k + 1 => tabB F k ++ [F (fun a => (tabB F k).getD a false) k]
theorem tabB_len (F : (Nat → Bool) → Nat → Bool) (k : Nat) : (tabB F k).length = k := by
  induction k with
  | zero => rfl
  | succ k ih => simp [tabB, ih]
theorem tabB_at (F : (Nat → Bool) → Nat → Bool) {i k : Nat} (h : i < k) : (tabB F k).getD i false = (tabB F (i + 1)).getD i false := by
  induction k with
  | zero => omega
  | succ k ih =>
    by_cases he : i = k
    · subst he; rfl
    · have hl := tabB_len F k
      have := ih (by omega)
      rw [← this]
      show (tabB F k ++ [_]).getD i false = _
      rw [getD_app_l _ _ _ (by omega)]
/-- the function that the table is of -/
def fixB (F : (Nat → Bool) → Nat → Bool) (i : Nat) : Bool := (tabB F (i + 1)).getD i false
theorem fixB_eq (F : (Nat → Bool) → Nat → Bool) (hF : ∀ f g k, (∀ a, a < k → f a = g a) → F f k = F g k) (i : Nat) : fixB F i = F (fixB F) i := by
  have hl := tabB_len F i
  have e : fixB F i = F (fun a => (tabB F i).getD a false) i := by
    show (tabB F i ++ [F (fun a => (tabB F i).getD a false) i]).getD i false = _
    exact getD_app_r _ _ _ hl
  rw [e]
  exact hF _ _ i (fun a ha => tabB_at F ha)
theorem any_congr {l : List Nat} {p q : Nat → Bool} (h : ∀ a ∈ l, p a = q a) : l.any p = l.any q := by
  induction l with
  | nil => rfl
  | cons x l ih => rw [List.any_cons, List.any_cons, h x (by simp), ih (fun a ha => h a (by simp [ha]))]
theorem all_congr {l : List Nat} {p q : Nat → Bool} (h : ∀ a ∈ l, p a = q a) : l.all p = l.all q := by
  induction l with
  | nil => rfl
  | cons x l ih => rw [List.all_cons, List.all_cons, h x (by simp), ih (fun a ha => h a (by simp [ha]))]
/-- reached from f, along arcs that lead on -/
def rbF (E : Nat → Nat → Bool) (f : Nat) (t : Nat → Bool) (i : Nat) : Bool := decide (i = f) || (List.range i).any (fun a => t a && E a i)
def rb (E : Nat → Nat → Bool) (f : Nat) : Nat → Bool := fixB (rbF E f)
theorem rb_iff {E : Nat → Nat → Bool} {f i : Nat} : rb E f i = true ↔ i = f ∨ ∃ a, a < i ∧ rb E f a = true ∧ E a i = true := by
  unfold rb
  rw [fixB_eq (rbF E f) (fun g h k hk => by
    unfold rbF
    rw [any_congr (q := fun a => h a && E a k) (fun a ha => by rw [hk a (by simpa using ha)])])]
  unfold rbF
  simp only [Bool.or_eq_true, decide_eq_true_eq, List.any_eq_true, List.mem_range, Bool.and_eq_true]
theorem rb_self (E : Nat → Nat → Bool) (f : Nat) : rb E f f = true := rb_iff.2 (.inl rfl)
theorem rb_step {E : Nat → Nat → Bool} {f a i : Nat} (h : a < i) (h1 : rb E f a = true) (h2 : E a i = true) : rb E f i = true := rb_iff.2 (.inr ⟨a, h, h1, h2⟩)
theorem rb_ge {E : Nat → Nat → Bool} {f i : Nat} (h : rb E f i = true) : f ≤ i := by
  induction i using Nat.strongRecOn with
  | _ i ih =>
    rcases rb_iff.1 h with rfl | ⟨a, ha, h1, _⟩
    · exact Nat.le_refl _
    · have := ih a ha h1; omega
theorem rb_trans {E : Nat → Nat → Bool} {f g i : Nat} (h : rb E f g = true) (h2 : rb E g i = true) : rb E f i = true := by
  induction i using Nat.strongRecOn with
  | _ i ih =>
    rcases rb_iff.1 h2 with rfl | ⟨a, ha, h3, h4⟩
    · exact h
    · exact rb_step ha (ih a ha h3) h4
/-- k is passed on every way from 0 to i -/
def dmF (E : Nat → Nat → Bool) (k : Nat) (t : Nat → Bool) (i : Nat) : Bool := decide (k = i) || (decide (0 < i) && (List.range i).all (fun a => !(rb E 0 a && E a i) || t a))
def dm (E : Nat → Nat → Bool) (k : Nat) : Nat → Bool := fixB (dmF E k)
theorem dm_iff {E : Nat → Nat → Bool} {k i : Nat} : dm E k i = true ↔ k = i ∨ (0 < i ∧ ∀ a, a < i → rb E 0 a = true → E a i = true → dm E k a = true) := by
  unfold dm
  rw [fixB_eq (dmF E k) (fun g h m hk => by
    unfold dmF
    rw [all_congr (q := fun a => !(rb E 0 a && E a m) || h a) (fun a ha => by rw [hk a (by simpa using ha)])])]
  unfold dmF
  simp only [Bool.or_eq_true, decide_eq_true_eq, List.all_eq_true, List.mem_range, Bool.and_eq_true, Bool.not_eq_true']
  constructor
  · rintro (h | ⟨h0, h⟩)
    · exact .inl h
    · refine .inr ⟨h0, fun a ha h1 h2 => ?_⟩
      rcases h a ha with h3 | h3
      · rw [h1, h2] at h3; cases h3
      · exact h3
  · rintro (h | ⟨h0, h⟩)
    · exact .inl h
    · refine .inr ⟨h0, fun a ha => ?_⟩
      cases h1 : rb E 0 a
      · left; rfl
      · cases h2 : E a i
        · left; rfl
        · right; exact h a ha h1 h2
theorem dm_self (E : Nat → Nat → Bool) (i : Nat) : dm E i i = true := dm_iff.2 (.inl rfl)
/-- what is passed on the way to a step is passed on the way to those ahead of it, but for itself -/
theorem dm_back {E : Nat → Nat → Bool} {k a i : Nat} (h : dm E k i = true) (hne : k ≠ i) (ha : a < i) (h1 : rb E 0 a = true) (h2 : E a i = true) : dm E k a = true := by
  rcases dm_iff.1 h with h | ⟨_, h⟩
  · exact absurd h hne
  · exact h a ha h1 h2
theorem rb_pred {E : Nat → Nat → Bool} {i : Nat} (h : rb E 0 i = true) (h0 : 0 < i) : ∃ a, a < i ∧ rb E 0 a = true ∧ E a i = true := by
  rcases rb_iff.1 h with rfl | h
  · omega
  · exact h
theorem dm_first {E : Nat → Nat → Bool} (i : Nat) : rb E 0 i = true → dm E 0 i = true := by
  induction i using Nat.strongRecOn with
  | _ i ih =>
    intro h
    by_cases h0 : i = 0
    · subst h0; exact dm_self E 0
    · exact dm_iff.2 (.inr ⟨by omega, fun a ha h1 _ => ih a ha h1⟩)
theorem dm_le {E : Nat → Nat → Bool} {k : Nat} (i : Nat) : rb E 0 i = true → dm E k i = true → k ≤ i ∧ rb E 0 k = true := by
  induction i using Nat.strongRecOn with
  | _ i ih =>
    intro h hk
    by_cases he : k = i
    · subst he; exact ⟨Nat.le_refl _, h⟩
    · by_cases h0 : i = 0
      · rcases dm_iff.1 hk with h2 | ⟨h2, _⟩
        · exact absurd h2 he
        · omega
      · obtain ⟨a, ha, h1, h2⟩ := rb_pred h (by omega)
        have := ih a ha h1 (dm_back hk he ha h1 h2)
        exact ⟨by omega, this.2⟩
/-- a way: each step is led to by the one before -/
def Way (E : Nat → Nat → Bool) (t : List Nat) : Prop := t[0]? = some 0 ∧ ∀ i x y, t[i]? = some x → t[i + 1]? = some y → x < y ∧ E x y = true
theorem way_reached {E : Nat → Nat → Bool} {t : List Nat} (h : Way E t) : ∀ (i x : Nat), t[i]? = some x → rb E 0 x = true := by
  intro i
  induction i with
  | zero => intro x hx; rw [h.1] at hx; have := Option.some.inj hx; subst this; exact rb_self E 0
  | succ i ih =>
    intro y hy
    have hlt : i + 1 < t.length := (List.getElem?_eq_some_iff.1 hy).1
    obtain ⟨x, hx⟩ : ∃ x, t[i]? = some x := ⟨_, List.getElem?_eq_getElem (by omega)⟩
    obtain ⟨h1, h2⟩ := h.2 i x y hx hy
    exact rb_step h1 (ih x hx) h2
/-- a way to a step passes its dominators -/
theorem way_passes {E : Nat → Nat → Bool} {t : List Nat} (h : Way E t) : ∀ (i x k : Nat), t[i]? = some x → dm E k x = true → k ∈ t.take (i + 1) := by
  intro i
  induction i with
  | zero =>
    intro x k hx hk
    have h0 := hx
    rw [h.1] at h0; have := Option.some.inj h0; subst this
    have := dm_le 0 (rb_self E 0) hk
    have hz : k = 0 := by omega
    subst hz
    exact List.mem_of_getElem? (i := 0) (by rw [List.getElem?_take]; simpa using hx)
  | succ i ih =>
    intro y k hy hk
    have hlt : i + 1 < t.length := (List.getElem?_eq_some_iff.1 hy).1
    obtain ⟨x, hx⟩ : ∃ x, t[i]? = some x := ⟨_, List.getElem?_eq_getElem (by omega)⟩
    obtain ⟨h1, h2⟩ := h.2 i x y hx hy
    by_cases he : k = y
    · subst he
      exact List.mem_of_getElem? (i := i + 1) (by rw [List.getElem?_take, if_pos (by omega)]; exact hy)
    · have := ih x k hx (dm_back hk he h1 (way_reached h i x hx) h2)
      obtain ⟨j, hj⟩ := List.getElem?_of_mem this
      rw [List.getElem?_take] at hj
      split at hj
      · exact List.mem_of_getElem? (i := j) (by rw [List.getElem?_take, if_pos (by omega)]; exact hj)
      · cases hj
/-- the number of ways to a step -/
def sumTo (f : Nat → Nat) : Nat → Nat
  | 0 => 0
  | k + 1 => sumTo f k + f k
theorem sumTo_congr {f g : Nat → Nat} (k : Nat) (h : ∀ a, a < k → f a = g a) : sumTo f k = sumTo g k := by
  induction k with
  | zero => rfl
  | succ k ih => simp only [sumTo]; rw [ih (fun a ha => h a (by omega)), h k (by omega)]
theorem sumTo_pos {f : Nat → Nat} (k : Nat) : 0 < sumTo f k ↔ ∃ a, a < k ∧ 0 < f a := by
  induction k with
  | zero => simp [sumTo]
  | succ k ih =>
    simp only [sumTo]
    constructor
    · intro h
      by_cases h0 : 0 < f k
      · exact ⟨k, by omega, h0⟩
      · obtain ⟨a, ha, h1⟩ := ih.1 (by omega)
        exact ⟨a, by omega, h1⟩
    · rintro ⟨a, ha, h1⟩
      by_cases he : a = k
      · subst he; omega
      · have := ih.2 ⟨a, by omega, h1⟩; omega
def tabN (F : (Nat → Nat) → Nat → Nat) : Nat → List Nat
  | 0 => []
  | k + 1 => tabN F k ++ [F (fun a => (tabN F k).getD a 0) k]
theorem tabN_len (F : (Nat → Nat) → Nat → Nat) (k : Nat) : (tabN F k).length = k := by
  induction k with
  | zero => rfl
  | succ k ih => simp [tabN, ih]
theorem tabN_at (F : (Nat → Nat) → Nat → Nat) {i k : Nat} (h : i < k) : (tabN F k).getD i 0 = (tabN F (i + 1)).getD i 0 := by
  induction k with
  | zero => omega
  | succ k ih =>
    by_cases he : i = k
    · subst he; rfl
    · have hl := tabN_len F k
      have := ih (by omega)
      rw [← this]
      show (tabN F k ++ [_]).getD i 0 = _
      rw [getD_app_l _ _ _ (by omega)]
def wcF (E : Nat → Nat → Bool) (t : Nat → Nat) (i : Nat) : Nat := (if i = 0 then 1 else 0) + sumTo (fun a => if E a i then t a else 0) i
def wc (E : Nat → Nat → Bool) (i : Nat) : Nat := (tabN (wcF E) (i + 1)).getD i 0
theorem wc_eq (E : Nat → Nat → Bool) (i : Nat) : wc E i = (if i = 0 then 1 else 0) + sumTo (fun a => if E a i then wc E a else 0) i := by
  have hl := tabN_len (wcF E) i
  have e : wc E i = wcF E (fun a => (tabN (wcF E) i).getD a 0) i := by
    show (tabN (wcF E) i ++ [wcF E (fun a => (tabN (wcF E) i).getD a 0) i]).getD i 0 = _
    exact getD_app_r _ _ _ hl
  rw [e]
  unfold wcF
  congr 1
  exact sumTo_congr i (fun a ha => by show (if E a i then (tabN (wcF E) i).getD a 0 else 0) = _; rw [tabN_at (wcF E) ha]; rfl)
theorem wc_pos {E : Nat → Nat → Bool} (i : Nat) : 0 < wc E i ↔ rb E 0 i = true := by
  induction i using Nat.strongRecOn with
  | _ i ih =>
    rw [wc_eq]
    by_cases h0 : i = 0
    · subst h0; simp [rb_self, sumTo]
    · rw [if_neg h0, Nat.zero_add, sumTo_pos]
      constructor
      · rintro ⟨a, ha, h1⟩
        split at h1
        · exact rb_step ha ((ih a ha).1 h1) ‹_›
        · omega
      · intro h
        obtain ⟨a, ha, h1, h2⟩ := rb_pred h (by omega)
        exact ⟨a, ha, by rw [if_pos h2]; exact (ih a ha).2 h1⟩
theorem wc_le {E : Nat → Nat → Bool} (i : Nat) : wc E i ≤ 2 ^ i := by
  induction i using Nat.strongRecOn with
  | _ i ih =>
    rw [wc_eq]
    by_cases h0 : i = 0
    · subst h0; simp [sumTo]
    · rw [if_neg h0, Nat.zero_add]
      have key : ∀ k, k ≤ i → sumTo (fun a => if E a i then wc E a else 0) k + 1 ≤ 2 ^ k := by
        intro k
        induction k with
        | zero => intro _; simp [sumTo]
        | succ k ihk =>
          intro hk
          have h1 := ihk (by omega)
          have h2 := ih k (by omega)
          simp only [sumTo]
          rw [Nat.pow_succ]
          split <;> omega
      have := key i (Nat.le_refl _)
      omega
/-- the answers, as lists -/
def reachL (E : Nat → Nat → Bool) (n f : Nat) : List Nat := (List.range n).filter (rb E f)
def aheadL (E : Nat → Nat → Bool) (n i : Nat) : List Nat := (reachL E n 0).filter (fun a => E a i)
def domL (E : Nat → Nat → Bool) (i : Nat) : List Nat := (List.range (i + 1)).filter (fun k => dm E k i)
theorem mem_reach {E : Nat → Nat → Bool} {n f i : Nat} : i ∈ reachL E n f ↔ i < n ∧ rb E f i = true := by unfold reachL; simp
theorem mem_ahead {E : Nat → Nat → Bool} {n i a : Nat} : a ∈ aheadL E n i ↔ a < n ∧ rb E 0 a = true ∧ E a i = true := by unfold aheadL; simp [mem_reach]; exact and_assoc
theorem mem_dom {E : Nat → Nat → Bool} {k i : Nat} : k ∈ domL E i ↔ k ≤ i ∧ dm E k i = true := by unfold domL; simp; omega
/-- the dominators but the last: the step's own; they are those of all ahead of it -/
theorem dom_snoc {E : Nat → Nat → Bool} (i : Nat) : domL E i = (List.range i).filter (fun k => dm E k i) ++ [i] := by
  unfold domL
  rw [List.range_succ, List.filter_append]
  simp [dm_self]
theorem dom_inter {E : Nat → Nat → Bool} (n : Nat) (hE : ∀ a b, E a b = true → a < b) {i a : Nat} {P : List Nat} (hP : aheadL E n i = a :: P) (h0 : 0 < i) (hin : i ≤ n) :
    (List.range i).filter (fun k => dm E k i) = P.foldl (fun l b => l.filter (fun x => decide (x ∈ domL E b))) (domL E a) := by
  have hmem : ∀ b ∈ a :: P, b < i ∧ rb E 0 b = true ∧ E b i = true := by
    intro b hb
    rw [← hP, mem_ahead] at hb
    exact ⟨hE b i hb.2.2, hb.2⟩
  have ha := hmem a (by simp)
  have e : ∀ (Q : List Nat) (l : List Nat), Q.foldl (fun l b => l.filter (fun x => decide (x ∈ domL E b))) l = l.filter (fun x => Q.all (fun b => decide (x ∈ domL E b))) := by
    intro Q
    induction Q with
    | nil => intro l; exact (List.filter_eq_self.2 (fun _ _ => rfl)).symm
    | cons b Q ih =>
      intro l
      rw [List.foldl_cons, ih, List.filter_filter]
      congr 1
      funext x
      rw [List.all_cons, Bool.and_comm]
  rw [e]
  unfold domL
  rw [List.filter_filter]
  have hr : List.range i = List.range (a + 1) ++ (List.range (i - (a + 1))).map (fun j => a + 1 + j) := by
    have : i = (a + 1) + (i - (a + 1)) := by omega
    conv => lhs; rw [this]
    rw [List.range_add]
  rw [hr, List.filter_append]
  have hnil : ((List.range (i - (a + 1))).map (fun j => a + 1 + j)).filter (fun k => dm E k i) = [] := by
    rw [List.filter_eq_nil_iff]
    intro k hk hd
    obtain ⟨j, hj, rfl⟩ := List.mem_map.1 hk
    rw [List.mem_range] at hj
    have h1 := dm_back hd (by omega) ha.1 ha.2.1 ha.2.2
    have := (dm_le a ha.2.1 h1).1
    omega
  rw [hnil, List.append_nil]
  apply List.filter_congr
  intro x hx
  rw [List.mem_range] at hx
  rw [Bool.eq_iff_iff]
  simp only [Bool.and_eq_true, List.all_eq_true, decide_eq_true_eq]
  constructor
  · intro hd
    have hne : x ≠ i := by omega
    refine ⟨fun b hb => ?_, dm_back hd hne ha.1 ha.2.1 ha.2.2⟩
    have hb' := hmem b (by simp [hb])
    have h1 := dm_back hd hne hb'.1 hb'.2.1 hb'.2.2
    have := mem_dom.2 ⟨(dm_le b hb'.2.1 h1).1, h1⟩
    exact this
  · rintro ⟨h1, h2⟩
    refine dm_iff.2 (.inr ⟨h0, fun b hb h3 h4 => ?_⟩)
    have hb' : b ∈ a :: P := by rw [← hP, mem_ahead]; exact ⟨by omega, h3, h4⟩
    rcases List.mem_cons.1 hb' with rfl | hb'
    · exact h2
    · exact (mem_dom.1 (h1 b hb')).2
/-- the number of ways to a step is the sum of those to the steps ahead of it -/
theorem wc_sum {E : Nat → Nat → Bool} (n : Nat) (hE : ∀ a b, E a b = true → a < b) {i : Nat} (h0 : 0 < i) (hin : i ≤ n) : ((aheadL E n i).map (wc E)).sum = wc E i := by
  have key : ∀ k, k ≤ n → (((List.range k).filter (fun a => rb E 0 a && E a i)).map (wc E)).sum = sumTo (fun a => if E a i then wc E a else 0) k := by
    intro k
    induction k with
    | zero => intro _; rfl
    | succ k ih =>
      intro hk
      rw [List.range_succ, List.filter_append, List.map_append, List.sum_append, ih (by omega)]
      simp only [sumTo]
      congr 1
      cases hr : rb E 0 k
      · have hz : wc E k = 0 := by
          rcases Nat.eq_zero_or_pos (wc E k) with h | h
          · exact h
          · rw [(wc_pos k).1 h] at hr; cases hr
        simp [hr, hz]
      · cases he : E k i <;> simp [hr, he]
  have e : aheadL E n i = (List.range n).filter (fun a => rb E 0 a && E a i) := by
    unfold aheadL reachL
    rw [List.filter_filter]
    congr 1
    funext a
    exact Bool.and_comm _ _
  have tail : ∀ k, i ≤ k → sumTo (fun a => if E a i then wc E a else 0) k = sumTo (fun a => if E a i then wc E a else 0) i := by
    intro k
    induction k with
    | zero => intro h; have : i = 0 := by omega
              omega
    | succ k ih =>
      intro h
      by_cases hk : i = k + 1
      · rw [hk]
      · simp only [sumTo]
        rw [ih (by omega)]
        have : E k i = false := by
          cases he : E k i
          · rfl
          · have := hE k i he; omega
        rw [this]; simp
  rw [e, key n (Nat.le_refl _), tail n hin, wc_eq E i, if_neg (by omega), Nat.zero_add]
/-- behind step 0 each reached step has a dominator before it, the last of which is the nearest -/
def nearN (E : Nat → Nat → Bool) (i : Nat) : Int := if rb E 0 i = true ∧ 0 < i then (((List.range i).filter (fun k => dm E k i)).getLastD 0 : Nat) else -1
theorem dom_two {E : Nat → Nat → Bool} {i : Nat} (h : rb E 0 i = true) (h0 : 0 < i) : 0 < ((List.range i).filter (fun k => dm E k i)).length := by
  have : 0 ∈ (List.range i).filter (fun k => dm E k i) := by simp [h0, dm_first i h]
  exact List.length_pos_of_mem this
theorem near_dom {E : Nat → Nat → Bool} {i : Nat} (h : rb E 0 i = true) (h0 : 0 < i) : (domL E i).length = ((List.range i).filter (fun k => dm E k i)).length + 1 ∧ ∃ d : Nat, (domL E i)[(domL E i).length - 2]? = some d ∧ nearN E i = (d : Int) := by
  have hp := dom_two h h0
  rw [dom_snoc]
  obtain ⟨D, hD⟩ : ∃ D, (List.range i).filter (fun k => dm E k i) = D := ⟨_, rfl⟩
  unfold nearN
  rw [hD] at hp ⊢
  rw [if_pos ⟨h, h0⟩]
  refine ⟨by simp, D[D.length - 1], ?_, ?_⟩
  · rw [List.length_append, List.length_singleton, show D.length + 1 - 2 = D.length - 1 by omega, List.getElem?_append_left (by omega)]
    exact List.getElem?_eq_getElem (by omega)
  · congr 1
    rw [List.getLastD_eq_getLast?, List.getLast?_eq_getElem?, List.getElem?_eq_getElem (by omega)]
    rfl
theorem dom_zero (E : Nat → Nat → Bool) : domL E 0 = [0] := by rw [dom_snoc]; rfl

/-- the steps that may follow, by kind and way (the same as in the text Follow) -/
def nxI (k t a : Int) : List Int := if k = 11 then [] else if k = 8 then [a + t + 1] else if k = 9 ∨ k = 10 then [a + 1, a + t + 1] else [a + 1]
/-- kinds and ways of a program's steps -/
abbrev KT := List (Int × Int)
def edg (l : KT) (a b : Nat) : Bool := match l[a]? with
  | some x => decide ((b : Int) ∈ nxI x.1 x.2 a)
  | none => false
/-- what a valid program keeps -/
def GoodKT (l : KT) : Prop := ∀ (a : Nat) (x : Int × Int), l[a]? = some x → (0 ≤ x.2 ∧ (x.2 ≠ 0 ↔ x.1 = 8 ∨ x.1 = 9 ∨ x.1 = 10)) ∧ ∀ y ∈ nxI x.1 x.2 a, y < (l.length : Int)
theorem nx_mem {k t a y : Int} (h : y ∈ nxI k t a) : y = a + 1 ∨ y = a + t + 1 := by
  unfold nxI at h
  split at h
  · simp at h
  · split at h
    · simp at h; omega
    · split at h
      · simp at h; omega
      · simp at h; omega
theorem edg_iff {l : KT} {a b : Nat} {x : Int × Int} (hx : l[a]? = some x) : edg l a b = true ↔ (b : Int) ∈ nxI x.1 x.2 a := by unfold edg; rw [hx]; simp
theorem edg_some {l : KT} {a b : Nat} (h : edg l a b = true) : ∃ x, l[a]? = some x ∧ (b : Int) ∈ nxI x.1 x.2 a := by
  cases hx : l[a]? with
  | none => unfold edg at h; rw [hx] at h; cases h
  | some x => exact ⟨x, rfl, (edg_iff hx).1 h⟩
theorem edg_fwd {l : KT} (g : GoodKT l) : ∀ a b, edg l a b = true → a < b := by
  intro a b h
  obtain ⟨x, hx, hm⟩ := edg_some h
  have := (g a x hx).1.1
  rcases nx_mem hm with h | h <;> omega
theorem edg_lt {l : KT} (g : GoodKT l) {a b : Nat} (h : edg l a b = true) : a < l.length ∧ b < l.length := by
  obtain ⟨x, hx, hm⟩ := edg_some h
  have := (g a x hx).2 _ hm
  exact ⟨(List.getElem?_eq_some_iff.1 hx).1, by omega⟩
theorem nx_nat {l : KT} (g : GoodKT l) {a : Nat} {x : Int × Int} (hx : l[a]? = some x) {y : Int} (hy : y ∈ nxI x.1 x.2 a) : ∃ b : Nat, y = b ∧ edg l a b = true ∧ b < l.length := by
  have h0 := (g a x hx).1.1
  have h1 := (g a x hx).2 y hy
  have : 0 ≤ y := by rcases nx_mem hy with h | h <;> omega
  obtain ⟨b, rfl⟩ := Int.eq_ofNat_of_zero_le this
  exact ⟨b, rfl, (edg_iff hx).2 hy, by omega⟩
/-- lists of steps as ints -/
def castL (l : List Nat) : List Int := l.map (fun n : Nat => (n : Int))
theorem castL_mem {l : List Nat} {x : Int} : x ∈ castL l ↔ ∃ n : Nat, n ∈ l ∧ (n : Int) = x := by unfold castL; simp
theorem castL_mem' {l : List Nat} {n : Nat} : (n : Int) ∈ castL l ↔ n ∈ l := by
  rw [castL_mem]
  constructor
  · rintro ⟨m, hm, h⟩
    have : m = n := by omega
    subst this; exact hm
  · intro h; exact ⟨n, h, rfl⟩
theorem range_sorted (n : Nat) : (List.range n).Pairwise (· < ·) := List.pairwise_lt_range
theorem castL_sorted {l : List Nat} (h : l.Pairwise (· < ·)) : (castL l).Pairwise (· < ·) := by
  unfold castL
  rw [List.pairwise_map]
  exact h.imp (fun h => by omega)
theorem filter_sorted (n : Nat) (p : Nat → Bool) : ((List.range n).filter p).Pairwise (· < ·) := (range_sorted n).filter p
/-- two filters of the steps, as ints, are equal where they have the same members -/
theorem castL_ext {n m : Nat} {p q : Nat → Bool} (h : ∀ i : Nat, i ∈ (List.range n).filter p ↔ i ∈ (List.range m).filter q) : (List.range n).filter p = (List.range m).filter q := by
  have e : castL ((List.range n).filter p) = castL ((List.range m).filter q) := by
    apply sorted_ext (castL_sorted (filter_sorted n p)) (castL_sorted (filter_sorted m q))
    intro x
    rw [castL_mem, castL_mem]
    constructor
    · rintro ⟨k, hk, rfl⟩; exact ⟨k, (h k).1 hk, rfl⟩
    · rintro ⟨k, hk, rfl⟩; exact ⟨k, (h k).2 hk, rfl⟩
  unfold castL at e
  exact (List.map_inj_right (fun a b hab => by omega)).1 e
/-- what is known to be reached when the steps before m have led on -/
def rpL (E : Nat → Nat → Bool) (n f m : Nat) : List Nat := (List.range n).filter (fun j => decide (j = f) || (List.range m).any (fun a => rb E f a && E a j))
theorem mem_rp {E : Nat → Nat → Bool} {n f m j : Nat} : j ∈ rpL E n f m ↔ j < n ∧ (j = f ∨ ∃ a, a < m ∧ rb E f a = true ∧ E a j = true) := by
  unfold rpL
  simp only [List.mem_filter, List.mem_range, Bool.or_eq_true, decide_eq_true_eq, List.any_eq_true, Bool.and_eq_true]
theorem rp_start {E : Nat → Nat → Bool} {n f : Nat} (hf : f < n) : castL (rpL E n f f) = [(f : Int)] := by
  apply sorted_ext (castL_sorted (filter_sorted _ _)) (by simp)
  intro x
  rw [castL_mem]
  constructor
  · rintro ⟨k, hk, rfl⟩
    rcases (mem_rp.1 hk).2 with rfl | ⟨a, ha, h1, _⟩
    · simp
    · have := rb_ge h1; omega
  · intro h
    rw [List.mem_singleton] at h
    exact ⟨f, mem_rp.2 ⟨hf, .inl rfl⟩, h.symm⟩
theorem rp_at {E : Nat → Nat → Bool} {n f m : Nat} (hm : m < n) : m ∈ rpL E n f m ↔ rb E f m = true := by
  rw [mem_rp, rb_iff]
  constructor
  · rintro ⟨_, h⟩; exact h
  · intro h; exact ⟨hm, h⟩
theorem rp_skip {E : Nat → Nat → Bool} {n f m : Nat} (h : rb E f m = false) : rpL E n f (m + 1) = rpL E n f m := by
  apply castL_ext
  intro i
  have := mem_rp (E := E) (n := n) (f := f) (m := m + 1) (j := i)
  have h2 := mem_rp (E := E) (n := n) (f := f) (m := m) (j := i)
  unfold rpL at this h2
  rw [this, h2]
  constructor
  · rintro ⟨h1, h3 | ⟨a, ha, h4, h5⟩⟩
    · exact ⟨h1, .inl h3⟩
    · refine ⟨h1, .inr ⟨a, ?_, h4, h5⟩⟩
      rcases Nat.lt_or_ge a m with q | q
      · exact q
      · have : a = m := by omega
        subst this; rw [h] at h4; cases h4
  · rintro ⟨h1, h3 | ⟨a, ha, h4, h5⟩⟩
    · exact ⟨h1, .inl h3⟩
    · exact ⟨h1, .inr ⟨a, by omega, h4, h5⟩⟩
theorem rp_put {l : KT} (g : GoodKT l) {f m : Nat} {x : Int × Int} (hx : l[m]? = some x) (h : rb (edg l) f m = true) :
    putAll (castL (rpL (edg l) l.length f m)) (nxI x.1 x.2 m) = castL (rpL (edg l) l.length f (m + 1)) := by
  apply sorted_ext (putAll_sorted _ _ (castL_sorted (filter_sorted _ _))) (castL_sorted (filter_sorted _ _))
  intro y
  rw [putAll_mem, castL_mem, castL_mem]
  constructor
  · rintro (⟨k, hk, rfl⟩ | hy)
    · obtain ⟨h1, h2⟩ := mem_rp.1 hk
      refine ⟨k, mem_rp.2 ⟨h1, ?_⟩, rfl⟩
      rcases h2 with h2 | ⟨a, ha, h4, h5⟩
      · exact .inl h2
      · exact .inr ⟨a, by omega, h4, h5⟩
    · obtain ⟨b, rfl, h1, h2⟩ := nx_nat g hx hy
      exact ⟨b, mem_rp.2 ⟨h2, .inr ⟨m, by omega, h, h1⟩⟩, rfl⟩
  · rintro ⟨k, hk, rfl⟩
    obtain ⟨h1, h2⟩ := mem_rp.1 hk
    rcases h2 with h2 | ⟨a, ha, h4, h5⟩
    · exact .inl ⟨k, mem_rp.2 ⟨h1, .inl h2⟩, rfl⟩
    · rcases Nat.lt_or_ge a m with q | q
      · exact .inl ⟨k, mem_rp.2 ⟨h1, .inr ⟨a, q, h4, h5⟩⟩, rfl⟩
      · have : a = m := by omega
        subst this
        exact .inr ((edg_iff hx).1 h5)
theorem rp_end {E : Nat → Nat → Bool} (hE : ∀ a b, E a b = true → a < b) (n f : Nat) : rpL E n f n = reachL E n f := by
  apply castL_ext
  intro i
  have h1 := mem_rp (E := E) (n := n) (f := f) (m := n) (j := i)
  have h2 := mem_reach (E := E) (n := n) (f := f) (i := i)
  unfold rpL at h1
  unfold reachL at h2
  rw [h1, h2, rb_iff]
  constructor
  · rintro ⟨hn, h | ⟨a, ha, h3, h4⟩⟩
    · exact ⟨hn, .inl h⟩
    · exact ⟨hn, .inr ⟨a, hE a i h4, h3, h4⟩⟩
  · rintro ⟨hn, h | ⟨a, ha, h3, h4⟩⟩
    · exact ⟨hn, .inl h⟩
    · exact ⟨hn, .inr ⟨a, by omega, h3, h4⟩⟩
/-- the leaders that the jumps of Q make, with step 0 -/
def ttA (l : KT) (k : Nat) : Int := match l[k]? with | some x => x.2 | none => 0
def leadQ (l : KT) (Q : List Nat) : List Nat := (List.range l.length).filter (fun i => decide (i = 0) || Q.any (fun k => decide (ttA l k ≠ 0) && (decide ((i : Int) = (k : Int) + ttA l k + 1) || (decide (i = k + 1) && rb (edg l) 0 i))))
theorem mem_lead {l : KT} {Q : List Nat} {i : Nat} : i ∈ leadQ l Q ↔ i < l.length ∧ (i = 0 ∨ ∃ k, k ∈ Q ∧ ttA l k ≠ 0 ∧ ((i : Int) = (k : Int) + ttA l k + 1 ∨ (i = k + 1 ∧ rb (edg l) 0 i = true))) := by
  unfold leadQ
  simp only [List.mem_filter, List.mem_range, Bool.or_eq_true, decide_eq_true_eq, List.any_eq_true, Bool.and_eq_true]
theorem lead_start {l : KT} (h : 0 < l.length) : castL (leadQ l []) = [(0 : Int)] := by
  apply sorted_ext (castL_sorted (filter_sorted _ _)) (by simp)
  intro x
  rw [castL_mem]
  constructor
  · rintro ⟨k, hk, rfl⟩
    rcases (mem_lead.1 hk).2 with rfl | ⟨a, ha, _⟩
    · simp
    · simp at ha
  · intro hx
    rw [List.mem_singleton] at hx
    exact ⟨0, mem_lead.2 ⟨h, .inl rfl⟩, hx.symm⟩
theorem lead_skip {l : KT} {Q : List Nat} {k : Nat} (h : ttA l k = 0) : leadQ l (Q ++ [k]) = leadQ l Q := by
  apply castL_ext
  intro i
  have h1 := mem_lead (l := l) (Q := Q ++ [k]) (i := i)
  have h2 := mem_lead (l := l) (Q := Q) (i := i)
  unfold leadQ at h1 h2
  rw [h1, h2]
  constructor
  · rintro ⟨hn, h3 | ⟨a, ha, h4, h5⟩⟩
    · exact ⟨hn, .inl h3⟩
    · rcases List.mem_append.1 ha with ha | ha
      · exact ⟨hn, .inr ⟨a, ha, h4, h5⟩⟩
      · rw [List.mem_singleton] at ha; subst ha; exact absurd h h4
  · rintro ⟨hn, h3 | ⟨a, ha, h4, h5⟩⟩
    · exact ⟨hn, .inl h3⟩
    · exact ⟨hn, .inr ⟨a, by simp [ha], h4, h5⟩⟩
theorem jump_to {l : KT} (g : GoodKT l) {k : Nat} (h : ttA l k ≠ 0) : ∃ b : Nat, (b : Int) = (k : Int) + ttA l k + 1 ∧ b < l.length ∧ edg l k b = true := by
  unfold ttA at h ⊢
  cases hx : l[k]? with
  | none => rw [hx] at h; exact absurd rfl h
  | some x =>
    rw [hx] at h
    simp only at h ⊢
    have gg := g k x hx
    have hk := gg.1.2.1 h
    have hin : (k : Int) + x.2 + 1 ∈ nxI x.1 x.2 k := by
      unfold nxI
      rcases hk with hk | hk | hk <;> rw [hk] <;> simp
    obtain ⟨b, hb, h1, h2⟩ := nx_nat g hx hin
    exact ⟨b, hb.symm, h2, h1⟩
theorem lead_put {l : KT} (g : GoodKT l) {Q : List Nat} {k : Nat} (h : ttA l k ≠ 0) (hk : k < l.length) :
    (rb (edg l) 0 (k + 1) = true → k + 1 < l.length → castL (leadQ l (Q ++ [k])) = putL ((k : Int) + 1) (putL ((k : Int) + ttA l k + 1) (castL (leadQ l Q)))) ∧
    (¬ (rb (edg l) 0 (k + 1) = true ∧ k + 1 < l.length) → castL (leadQ l (Q ++ [k])) = putL ((k : Int) + ttA l k + 1) (castL (leadQ l Q))) := by
  obtain ⟨b, hb, hbl, _⟩ := jump_to g h
  have s0 := castL_sorted (filter_sorted l.length (fun i => decide (i = 0) || Q.any (fun k => decide (ttA l k ≠ 0) && (decide ((i : Int) = (k : Int) + ttA l k + 1) || (decide (i = k + 1) && rb (edg l) 0 i)))))
  constructor
  · intro h1 h2
    apply sorted_ext (castL_sorted (filter_sorted _ _)) (putL_sorted _ (putL_sorted _ s0))
    intro y
    rw [putL_mem, putL_mem, castL_mem, castL_mem]
    constructor
    · rintro ⟨i, hi, rfl⟩
      obtain ⟨hn, h3⟩ := mem_lead.1 hi
      rcases h3 with h3 | ⟨a, ha, h4, h5⟩
      · exact .inr (.inr ⟨i, mem_lead.2 ⟨hn, .inl h3⟩, rfl⟩)
      · rcases List.mem_append.1 ha with ha | ha
        · exact .inr (.inr ⟨i, mem_lead.2 ⟨hn, .inr ⟨a, ha, h4, h5⟩⟩, rfl⟩)
        · rw [List.mem_singleton] at ha; subst ha
          rcases h5 with h5 | ⟨h5, _⟩
          · exact .inr (.inl h5)
          · exact .inl (by omega)
    · rintro (rfl | rfl | ⟨i, hi, rfl⟩)
      · exact ⟨k + 1, mem_lead.2 ⟨h2, .inr ⟨k, by simp, h, .inr ⟨rfl, h1⟩⟩⟩, by push_cast; rfl⟩
      · exact ⟨b, mem_lead.2 ⟨hbl, .inr ⟨k, by simp, h, .inl hb⟩⟩, hb⟩
      · obtain ⟨hn, h3⟩ := mem_lead.1 hi
        refine ⟨i, mem_lead.2 ⟨hn, ?_⟩, rfl⟩
        rcases h3 with h3 | ⟨a, ha, h4⟩
        · exact .inl h3
        · exact .inr ⟨a, by simp [ha], h4⟩
  · intro h1
    apply sorted_ext (castL_sorted (filter_sorted _ _)) (putL_sorted _ s0)
    intro y
    rw [putL_mem, castL_mem, castL_mem]
    constructor
    · rintro ⟨i, hi, rfl⟩
      obtain ⟨hn, h3⟩ := mem_lead.1 hi
      rcases h3 with h3 | ⟨a, ha, h4, h5⟩
      · exact .inr ⟨i, mem_lead.2 ⟨hn, .inl h3⟩, rfl⟩
      · rcases List.mem_append.1 ha with ha | ha
        · exact .inr ⟨i, mem_lead.2 ⟨hn, .inr ⟨a, ha, h4, h5⟩⟩, rfl⟩
        · rw [List.mem_singleton] at ha; subst ha
          rcases h5 with h5 | ⟨h5, h6⟩
          · exact .inl h5
          · subst h5; exact absurd ⟨h6, hn⟩ h1
    · rintro (rfl | ⟨i, hi, rfl⟩)
      · exact ⟨b, mem_lead.2 ⟨hbl, .inr ⟨k, by simp, h, .inl hb⟩⟩, hb⟩
      · obtain ⟨hn, h3⟩ := mem_lead.1 hi
        refine ⟨i, mem_lead.2 ⟨hn, ?_⟩, rfl⟩
        rcases h3 with h3 | ⟨a, ha, h4⟩
        · exact .inl h3
        · exact .inr ⟨a, by simp [ha], h4⟩
/-- the leaders; the ends -/
def leadL (l : KT) : List Nat := leadQ l (reachL (edg l) l.length 0)
def kkA (l : KT) (k : Nat) : Int := match l[k]? with | some x => x.1 | none => 0
def endsL (l : KT) (f : Nat) : List Nat := (reachL (edg l) l.length f).filter (fun k => decide (kkA l k = 11))
/-- members of both, as ints -/
theorem castL_both (a b : List Nat) : (castL a).filter (fun x => decide (x ∈ castL b)) = castL (a.filter (fun x => decide (x ∈ b))) := by
  unfold castL
  rw [List.filter_map]
  congr 1
  apply List.filter_congr
  intro x _
  simp only [Function.comp]
  rw [decide_eq_decide]
  exact castL_mem'
theorem castL_filter (a : List Nat) (p : Int → Bool) : (castL a).filter p = castL (a.filter (fun x => p x)) := by
  unfold castL
  rw [List.filter_map]
  rfl
theorem castL_app (a b : List Nat) : castL (a ++ b) = castL a ++ castL b := by unfold castL; rw [List.map_append]
theorem castL_len (a : List Nat) : (castL a).length = a.length := by unfold castL; simp
theorem castL_at {a : List Nat} {k n : Nat} (h : a[k]? = some n) : (castL a)[k]? = some (n : Int) := by unfold castL; rw [List.getElem?_map, h]; rfl
/-- the numbers of ways when the steps before m have handed theirs on -/
def wp (E : Nat → Nat → Bool) (m j : Nat) : Nat := (if j = 0 then 1 else 0) + sumTo (fun a => if E a j then wc E a else 0) m
theorem wp_start (E : Nat → Nat → Bool) (j : Nat) : wp E 0 j = if j = 0 then 1 else 0 := by unfold wp; simp [sumTo]
theorem wp_at (E : Nat → Nat → Bool) (k : Nat) : wp E k k = wc E k := (wc_eq E k).symm
theorem wp_step (E : Nat → Nat → Bool) (k j : Nat) : wp E (k + 1) j = wp E k j + (if E k j then wc E k else 0) := by
  unfold wp
  simp only [sumTo]
  omega
theorem wp_end {E : Nat → Nat → Bool} (hE : ∀ a b, E a b = true → a < b) {n j : Nat} (h : j ≤ n) : wp E n j = wc E j := by
  induction n with
  | zero => have : j = 0 := by omega
            subst this; exact wp_at E 0
  | succ n ih =>
    by_cases hj : j = n + 1
    · subst hj; exact wp_at E (n + 1)
    · rw [wp_step, ih (by omega)]
      have : E n j = false := by
        cases he : E n j
        · rfl
        · have := hE n j he; omega
      rw [this]; simp
theorem wp_le {E : Nat → Nat → Bool} (hE : ∀ a b, E a b = true → a < b) (m j : Nat) : wp E m j ≤ 2 ^ j := by
  have mono : ∀ d, wp E m j ≤ wp E (m + d) j := by
    intro d
    induction d with
    | zero => exact Nat.le_refl _
    | succ d ih => rw [← Nat.add_assoc, wp_step]; omega
  rcases Nat.lt_or_ge m j with h | h
  · have h1 := mono (j - m)
    rw [show m + (j - m) = j by omega, wp_at] at h1
    exact Nat.le_trans h1 (wc_le j)
  · rw [wp_end hE h]; exact wc_le j

/-- the nearest dominator of each step -/
def nearL (l : KT) : List Int := (List.range l.length).map (nearN (edg l))
theorem near_at {l : KT} {i : Nat} (h : i < l.length) : (nearL l)[i]? = some (nearN (edg l) i) := by
  unfold nearL
  rw [List.getElem?_map, List.getElem?_range h]; rfl
/-- a way of a program, as ints: it begins at step 0, each further step may follow the one before -/
def WayI (l : KT) (t : List Int) : Prop := t[0]? = some 0 ∧ ∀ (i : Nat) (x y : Int), t[i]? = some x → t[i + 1]? = some y → ∃ (a : Nat) (s : Int × Int), x = a ∧ l[a]? = some s ∧ y ∈ nxI s.1 s.2 a
theorem way_nat {l : KT} (g : GoodKT l) {t : List Int} (h : WayI l t) : ∃ tn : List Nat, t = castL tn ∧ Way (edg l) tn := by
  have hn : ∀ (i : Nat) (x : Int), t[i]? = some x → 0 ≤ x := by
    intro i
    cases i with
    | zero => intro x hx; rw [h.1] at hx; have := Option.some.inj hx; omega
    | succ i =>
      intro y hy
      have hlt : i + 1 < t.length := (List.getElem?_eq_some_iff.1 hy).1
      obtain ⟨x, hx⟩ : ∃ x, t[i]? = some x := ⟨_, List.getElem?_eq_getElem (by omega)⟩
      obtain ⟨a, s, _, hs, hm⟩ := h.2 i x y hx hy
      obtain ⟨b, rfl, _⟩ := nx_nat g hs hm
      omega
  refine ⟨t.map Int.toNat, ?_, ?_, ?_⟩
  · unfold castL
    rw [List.map_map]
    conv => lhs; rw [← List.map_id t]
    apply List.map_congr_left
    intro x hx
    obtain ⟨i, hi⟩ := List.getElem?_of_mem hx
    have := hn i x hi
    simp only [id, Function.comp]
    omega
  · rw [List.getElem?_map, h.1]; rfl
  · intro i x y hx hy
    rw [List.getElem?_map] at hx hy
    cases hx' : t[i]? with
    | none => rw [hx'] at hx; cases hx
    | some x' =>
      cases hy' : t[i + 1]? with
      | none => rw [hy'] at hy; cases hy
      | some y' =>
        rw [hx'] at hx; rw [hy'] at hy
        simp only [Option.map_some, Option.some.injEq] at hx hy
        obtain ⟨a, s, rfl, hs, hm⟩ := h.2 i x' y' hx' hy'
        obtain ⟨b, rfl, hb, _⟩ := nx_nat g hs hm
        simp only [Int.toNat_natCast] at hx hy
        subst hx hy
        exact ⟨edg_fwd g _ _ hb, hb⟩
/-- FnPassed, at each step of a run -/
theorem passed_at {l : KT} (g : GoodKT l) (h0 : 0 < l.length) {t : List Int} (h : WayI l t) {i : Nat} {x : Int} (hx : t[i]? = some x) :
    ∃ a : Nat, x = a ∧ a < l.length ∧ rb (edg l) 0 a = true ∧ (∀ k, k ∈ castL (domL (edg l) a) → k ∈ t.take (i + 1)) ∧
      (0 < a → 2 ≤ (domL (edg l) a).length ∧ ∃ d : Nat, (domL (edg l) a)[(domL (edg l) a).length - 2]? = some d ∧ (nearL l)[a]? = some (d : Int)) := by
  obtain ⟨tn, rfl, hw⟩ := way_nat g h
  have hx' := hx
  unfold castL at hx'
  rw [List.getElem?_map] at hx'
  cases ha : tn[i]? with
  | none => rw [ha] at hx'; cases hx'
  | some a =>
    rw [ha] at hx'
    simp only [Option.map_some, Option.some.injEq] at hx'
    have hr := way_reached hw i a ha
    have hal : a < l.length := by
      rcases rb_iff.1 hr with rfl | ⟨b, _, _, hb⟩
      · exact h0
      · exact (edg_lt g hb).2
    refine ⟨a, hx'.symm, hal, hr, ?_, ?_⟩
    · intro k hk
      obtain ⟨m, hm, rfl⟩ := castL_mem.1 hk
      have := way_passes hw i a m ha (mem_dom.1 hm).2
      have e : (castL tn).take (i + 1) = castL (tn.take (i + 1)) := by unfold castL; rw [List.map_take]
      rw [e]; exact castL_mem'.2 this
    · intro hpos
      obtain ⟨h1, d, h2, h3⟩ := near_dom hr hpos
      have := dom_two hr hpos
      exact ⟨by omega, d, h2, by rw [near_at hal, h3]⟩
/-- FnPassed, of the steps ahead -/
theorem passed_ahead {l : KT} (g : GoodKT l) {i a y : Nat} (ha : a ∈ aheadL (edg l) l.length i) (hy : y ∈ domL (edg l) i) (hne : y ≠ i) : rb (edg l) 0 a = true ∧ a < l.length ∧ y ∈ domL (edg l) a := by
  obtain ⟨h1, h2, h3⟩ := mem_ahead.1 ha
  have hd := dm_back (mem_dom.1 hy).2 hne (edg_fwd g _ _ h3) h2 h3
  exact ⟨h2, h1, mem_dom.2 ⟨(dm_le a h2 hd).1, hd⟩⟩
theorem ahead_some {l : KT} (g : GoodKT l) {i : Nat} (hr : rb (edg l) 0 i = true) (h0 : 0 < i) : 0 < (aheadL (edg l) l.length i).length := by
  obtain ⟨a, _, h1, h2⟩ := rb_pred hr h0
  exact List.length_pos_of_mem (mem_ahead.2 ⟨(edg_lt g h2).1, h1, h2⟩)
/-- FnCounted -/
theorem counted {l : KT} (g : GoodKT l) {i : Nat} (h0 : 0 < i) (hi : i < l.length) : ((aheadL (edg l) l.length i).map (wc (edg l))).sum = wc (edg l) i := wc_sum l.length (edg_fwd g) h0 (by omega)
theorem sum_take {f : Nat → Nat} {L : List Nat} {k n : Nat} (h : L[k]? = some n) : ((L.take (k + 1)).map f).sum = ((L.take k).map f).sum + f n := by
  rw [List.take_add_one, h]
  simp [List.map_append, List.sum_append]
theorem sum_le {f : Nat → Nat} (L : List Nat) (k : Nat) : ((L.take k).map f).sum ≤ (L.map f).sum := by
  have : L = L.take k ++ L.drop k := (List.take_append_drop k L).symm
  conv => rhs; rw [this]
  rw [List.map_append, List.sum_append]; omega

def ktOf (xs : List Stp) : KT := xs.map fun x => (x.k, x.t)
theorem ktOf_len (xs : List Stp) : (ktOf xs).length = xs.length := by simp [ktOf]
theorem ktOf_at {xs : List Stp} {i : Nat} {x : Stp} (h : xs[i]? = some x) : (ktOf xs)[i]? = some (x.k, x.t) := by unfold ktOf; rw [List.getElem?_map, h]; rfl
theorem good_kt {xs : List Stp} (h : Good xs) : GoodKT (ktOf xs) := by
  intro a p hp
  unfold ktOf at hp
  rw [List.getElem?_map] at hp
  cases hx : xs[a]? with
  | none => rw [hx] at hp; cases hp
  | some x =>
    rw [hx] at hp
    obtain rfl := Option.some.inj hp
    obtain ⟨ho, hj⟩ := h.2 a x hx
    have hok := okB_yes ho
    unfold okP at hok
    refine ⟨⟨by simp only; omega, by simp only; omega⟩, fun y hy => ?_⟩
    rw [ktOf_len]
    exact hj y hy
/-- the steps that may follow, step by step -/
def nxsL (l : KT) : List (List Int) := (List.range l.length).map fun i => match l[i]? with | some x => nxI x.1 x.2 i | none => []
theorem nxs_len (l : KT) : (nxsL l).length = l.length := by simp [nxsL]
theorem nxs_at {l : KT} {i : Nat} {x : Int × Int} (h : l[i]? = some x) : (nxsL l)[i]? = some (nxI x.1 x.2 i) := by
  have hlt := (List.getElem?_eq_some_iff.1 h).1
  unfold nxsL
  rw [List.getElem?_map, List.getElem?_range hlt]
  simp [h]
/-- a row of bools -/
def bitsV (n : Nat) (p : Nat → Bool) : List Value := (List.range n).map fun j => .bool (p j)
theorem bitsV_len (n : Nat) (p : Nat → Bool) : (bitsV n p).length = n := by simp [bitsV]
theorem bitsV_at {n j : Nat} (p : Nat → Bool) (h : j < n) : (bitsV n p)[j]? = some (.bool (p j)) := by unfold bitsV; rw [List.getElem?_map, List.getElem?_range h]; rfl
theorem bitsV_ext {n : Nat} {p q : Nat → Bool} (h : ∀ j, j < n → p j = q j) : bitsV n p = bitsV n q := by
  unfold bitsV
  apply List.map_congr_left
  intro j hj
  rw [h j (List.mem_range.1 hj)]
theorem bitsV_set (n i : Nat) (p : Nat → Bool) : (bitsV n p).set i (.bool true) = bitsV n (fun j => p j || decide (j = i)) := by
  apply List.ext_getElem?
  intro j
  rw [List.getElem?_set]
  by_cases hj : j < n
  · rw [bitsV_at _ hj, bitsV_at _ hj, bitsV_len]
    by_cases e : i = j
    · subst e; simp [hj]
    · have : ¬ j = i := fun h => e h.symm
      simp [e, this]
  · have h1 : (bitsV n p)[j]? = none := List.getElem?_eq_none (by rw [bitsV_len]; omega)
    have h2 : (bitsV n (fun j => p j || decide (j = i)))[j]? = none := List.getElem?_eq_none (by rw [bitsV_len]; omega)
    rw [h1, h2, bitsV_len]
    by_cases e : i = j
    · subst e; simp [hj]
    · simp [e]
theorem bitsV_zero (n : Nat) : List.replicate n (Value.bool false) = bitsV n (fun _ => false) := by
  apply List.ext_getElem?
  intro j
  by_cases hj : j < n
  · rw [bitsV_at _ hj, List.getElem?_replicate, if_pos hj]
  · rw [List.getElem?_eq_none (by simp; omega), List.getElem?_eq_none (by rw [bitsV_len]; omega)]
/-- a row of numbers -/
def numsV (n : Nat) (p : Nat → Int) : List Value := (List.range n).map fun j => .int .i64 (p j)
theorem numsV_len (n : Nat) (p : Nat → Int) : (numsV n p).length = n := by simp [numsV]
theorem numsV_at {n j : Nat} (p : Nat → Int) (h : j < n) : (numsV n p)[j]? = some (.int .i64 (p j)) := by unfold numsV; rw [List.getElem?_map, List.getElem?_range h]; rfl
theorem numsV_ext {n : Nat} {p q : Nat → Int} (h : ∀ j, j < n → p j = q j) : numsV n p = numsV n q := by
  unfold numsV
  apply List.map_congr_left
  intro j hj
  rw [h j (List.mem_range.1 hj)]
theorem numsV_set (n i : Nat) (p : Nat → Int) (v : Int) : (numsV n p).set i (.int .i64 v) = numsV n (fun j => if j = i then v else p j) := by
  apply List.ext_getElem?
  intro j
  rw [List.getElem?_set]
  by_cases hj : j < n
  · rw [numsV_at _ hj, numsV_at _ hj, numsV_len]
    by_cases e : i = j
    · subst e; simp [hj]
    · have : ¬ j = i := fun h => e h.symm
      simp [e, this]
  · have h1 : (numsV n p)[j]? = none := List.getElem?_eq_none (by rw [numsV_len]; omega)
    have h2 : (numsV n (fun j => if j = i then v else p j))[j]? = none := List.getElem?_eq_none (by rw [numsV_len]; omega)
    rw [h1, h2, numsV_len]
    by_cases e : i = j
    · subst e; simp [hj]
    · simp [e]
theorem numsV_const (n : Nat) (v : Int) : List.replicate n (Value.int .i64 v) = numsV n (fun _ => v) := by
  apply List.ext_getElem?
  intro j
  by_cases hj : j < n
  · rw [numsV_at _ hj, List.getElem?_replicate, if_pos hj]
  · rw [List.getElem?_eq_none (by simp; omega), List.getElem?_eq_none (by rw [numsV_len]; omega)]
/-- what is marked when the steps before m have led on -/
def mkdB (E : Nat → Nat → Bool) (n f m j : Nat) : Bool := decide (j ∈ rpL E n f m)
theorem mkd_start {E : Nat → Nat → Bool} {n f : Nat} (j : Nat) (hf : f < n) : mkdB E n f 0 j = (false || decide (j = f)) := by
  unfold mkdB
  rw [Bool.false_or, decide_eq_decide, mem_rp]
  constructor
  · rintro ⟨_, h | ⟨a, ha, _⟩⟩
    · exact h
    · omega
  · rintro rfl; exact ⟨hf, .inl rfl⟩
theorem mkd_at {E : Nat → Nat → Bool} {n f m : Nat} (hm : m < n) : mkdB E n f m m = rb E f m := by
  unfold mkdB
  cases h : rb E f m
  · exact decide_eq_false (fun q => by rw [(rp_at hm).1 q] at h; cases h)
  · exact decide_eq_true ((rp_at hm).2 h)
theorem mkd_skip {E : Nat → Nat → Bool} {n f m : Nat} (h : rb E f m = false) (j : Nat) : mkdB E n f (m + 1) j = mkdB E n f m j := by unfold mkdB; rw [rp_skip h]
theorem mkd_lead {l : KT} (g : GoodKT l) {f m j : Nat} {x : Int × Int} (hx : l[m]? = some x) (h : rb (edg l) f m = true) :
    mkdB (edg l) l.length f (m + 1) j = (mkdB (edg l) l.length f m j || decide ((j : Int) ∈ nxI x.1 x.2 m)) := by
  have e := rp_put g hx h (f := f)
  have hm : ∀ y : Int, y ∈ castL (rpL (edg l) l.length f (m + 1)) ↔ y ∈ castL (rpL (edg l) l.length f m) ∨ y ∈ nxI x.1 x.2 m := fun y => by rw [← e, putAll_mem]
  have := hm j
  rw [castL_mem', castL_mem'] at this
  unfold mkdB
  rw [decide_eq_decide.2 this, Bool.decide_or]
theorem take_mem_succ {α : Type} {l : List α} {i : Nat} {y : α} (h : l[i]? = some y) (z : α) : z ∈ l.take (i + 1) ↔ z ∈ l.take i ∨ z = y := by
  rw [take_snocP h, List.mem_append, List.mem_singleton]
/-- the steps before m that are reached -/
def befL (E : Nat → Nat → Bool) (f m : Nat) : List Nat := (List.range m).filter (rb E f)
theorem bef_no {E : Nat → Nat → Bool} {f m : Nat} (h : rb E f m = false) : befL E f (m + 1) = befL E f m := by unfold befL; rw [List.range_succ, List.filter_append]; simp [h]
theorem bef_yes {E : Nat → Nat → Bool} {f m : Nat} (h : rb E f m = true) : befL E f (m + 1) = befL E f m ++ [m] := by unfold befL; rw [List.range_succ, List.filter_append]; simp [h]
theorem bef_all (E : Nat → Nat → Bool) (f n : Nat) : befL E f n = reachL E n f := rfl
theorem bef_cut {E : Nat → Nat → Bool} {f m n : Nat} (hm : m < n) (h : rb E f m = true) : ∃ rest, reachL E n f = befL E f m ++ m :: rest := by
  have : ∀ d, ∃ rest, befL E f (m + 1 + d) = befL E f m ++ m :: rest := by
    intro d
    induction d with
    | zero => exact ⟨[], bef_yes h⟩
    | succ d ih =>
      obtain ⟨r, hr⟩ := ih
      cases q : rb E f (m + 1 + d)
      · exact ⟨r, by rw [← Nat.add_assoc, bef_no q, hr]⟩
      · exact ⟨r ++ [m + 1 + d], by rw [← Nat.add_assoc, bef_yes q, hr]; simp⟩
  obtain ⟨r, hr⟩ := this (n - (m + 1))
  rw [show m + 1 + (n - (m + 1)) = n by omega] at hr
  exact ⟨r, hr⟩
end Go.Proofs.YtilnegmjnbffhaaDoor
