/-
  The least numbers of arcs, walks and what is reached. Plain mathematics.
-/
import Derived.Test.YtbmmajdacebncaaAcMath
namespace Go.Proofs.Ytbmmajdacebncaa

theorem sumTo_posA {f : Nat → Nat} {n a : Nat} (ha : a < n) (h : 0 < f a) : 0 < sumTo f n := by
  induction n with
  | zero => omega
  | succ n ih =>
    simp only [sumTo]
    rcases Nat.lt_or_ge a n with q | q
    · have := ih q; omega
    · have : a = n := by omega
      subst this
      omega
theorem sumTo_ex {f : Nat → Nat} {n : Nat} (h : 0 < sumTo f n) : ∃ a, a < n ∧ 0 < f a := by
  induction n with
  | zero => simp [sumTo] at h
  | succ n ih =>
    simp only [sumTo] at h
    rcases Nat.eq_zero_or_pos (f n) with q | q
    · obtain ⟨a, h1, h2⟩ := ih (by omega)
      exact ⟨a, by omega, h2⟩
    · exact ⟨n, by omega, q⟩
theorem wk_pos {E : Nat → Nat → Bool} {n f k a i : Nat} (ha : a < n) (he : E a i = true) (h : 0 < wk E n f k a) : 0 < wk E n f (k + 1) i := by
  show 0 < sumTo (fun a => if E a i then wk E n f k a else 0) n
  refine sumTo_posA ha ?_
  simp only [he, if_true]
  exact h
theorem wk_ex {E : Nat → Nat → Bool} {n f k i : Nat} (h : 0 < wk E n f (k + 1) i) : ∃ a, a < n ∧ E a i = true ∧ 0 < wk E n f k a := by
  obtain ⟨a, h1, h2⟩ := sumTo_ex (show 0 < sumTo (fun a => if E a i then wk E n f k a else 0) n from h)
  cases q : E a i with
  | false => rw [q] at h2; simp at h2
  | true => rw [q] at h2; exact ⟨a, h1, q, by simpa using h2⟩
theorem rw_wk {E : Nat → Nat → Bool} {n f m i : Nat} : rw_ E n f m i = true ↔ ∃ j, j ≤ m ∧ 0 < wk E n f j i := by
  induction m generalizing i with
  | zero =>
    simp only [rw_, decide_eq_true_eq]
    constructor
    · intro h; exact ⟨0, by omega, by simp [wk, h]⟩
    · rintro ⟨j, hj, h⟩
      have : j = 0 := by omega
      subst this
      simp only [wk] at h
      split at h
      · assumption
      · omega
  | succ m ih =>
    rw [rw_succ, ih]
    constructor
    · rintro (⟨j, hj, h⟩ | ⟨a, ha, h, he⟩)
      · exact ⟨j, by omega, h⟩
      · obtain ⟨j, hj, h2⟩ := ih.1 h
        exact ⟨j + 1, by omega, wk_pos ha he h2⟩
    · rintro ⟨j, hj, h⟩
      rcases Nat.lt_or_ge m j with q | q
      · have : j = m + 1 := by omega
        subst this
        obtain ⟨a, ha, he, h2⟩ := wk_ex h
        exact .inr ⟨a, ha, ih.2 ⟨m, Nat.le_refl _, h2⟩, he⟩
      · exact .inl ⟨j, q, h⟩
/-- behind n - 1 arcs nothing further is reached -/
theorem rw_short {E : Nat → Nat → Bool} {n f k i : Nat} (hf : f < n) (hi : i < n) (h : rw_ E n f k i = true) : rw_ E n f (n - 1) i = true := by
  obtain ⟨q, hq⟩ := enough_is (E := E) hf
  have hqn := enough_lt hf hq
  have h1 := rw_mono h n
  have e1 : rwL E n f (k + n) = rwL E n f q := rw_all hq.1 (by omega)
  have e2 : rwL E n f (n - 1) = rwL E n f q := rw_all hq.1 (by omega)
  have : i ∈ rwL E n f (k + n) := mem_rw.2 ⟨hi, h1⟩
  rw [e1, ← e2] at this
  exact (mem_rw.1 this).2
/-- the least of k numbers of arcs over which i is reached, -1 where there is none -/
def need (E : Nat → Nat → Bool) (n f : Nat) : Nat → Nat → Int
  | 0, _ => -1
  | k + 1, i => if need E n f k i = -1 ∧ 0 < wk E n f k i then (k : Int) else need E n f k i
theorem need_no {E : Nat → Nat → Bool} {n f k i : Nat} : need E n f k i = -1 ↔ ∀ j, j < k → wk E n f j i = 0 := by
  induction k with
  | zero => exact ⟨fun _ j h => by omega, fun _ => rfl⟩
  | succ k ih =>
    simp only [need]
    split
    · rename_i h
      constructor
      · intro e; omega
      · intro e; have := e k (by omega); omega
    · rename_i h
      rw [ih]
      constructor
      · intro e j hj
        rcases Nat.lt_or_ge j k with q | q
        · exact e j q
        · have : j = k := by omega
          subst this
          have h1 := ih.2 e
          omega
      · intro e j hj
        exact e j (by omega)
theorem need_yes {E : Nat → Nat → Bool} {n f k i : Nat} (h : need E n f k i ≠ -1) : ∃ j : Nat, need E n f k i = (j : Int) ∧ j < k ∧ 0 < wk E n f j i ∧ ∀ j', j' < j → wk E n f j' i = 0 := by
  induction k with
  | zero => exact absurd rfl h
  | succ k ih =>
    simp only [need] at h ⊢
    split
    · rename_i hc
      exact ⟨k, rfl, by omega, hc.2, need_no.1 hc.1⟩
    · rename_i hc
      rw [if_neg hc] at h
      obtain ⟨j, h1, h2, h3, h4⟩ := ih h
      exact ⟨j, h1, by omega, h3, h4⟩
theorem need_bound (E : Nat → Nat → Bool) (n f k i : Nat) : -1 ≤ need E n f k i ∧ need E n f k i ≤ k := by
  by_cases h : need E n f k i = -1
  · omega
  · obtain ⟨j, h1, h2, _⟩ := need_yes h
    omega
theorem need_ne {E : Nat → Nat → Bool} {n f i : Nat} (hf : f < n) (hi : i < n) : need E n f n i ≠ -1 ↔ rw_ E n f n i = true := by
  constructor
  · intro h
    obtain ⟨j, _, h2, h3, _⟩ := need_yes h
    exact rw_wk.2 ⟨j, by omega, h3⟩
  · intro h e
    obtain ⟨j, hj, h2⟩ := rw_wk.1 (rw_short hf hi h)
    have := need_no.1 e j (by omega)
    omega
theorem need_le {E : Nat → Nat → Bool} {n f i m : Nat} (hf : f < n) (hi : i < n) : (need E n f n i ≠ -1 ∧ need E n f n i ≤ (m : Int)) ↔ rw_ E n f m i = true := by
  constructor
  · rintro ⟨h, hm⟩
    obtain ⟨j, h1, h2, h3, _⟩ := need_yes h
    exact rw_wk.2 ⟨j, by omega, h3⟩
  · intro h
    have hne : need E n f n i ≠ -1 := by
      intro e
      obtain ⟨j, hj, h2⟩ := rw_wk.1 (rw_short hf hi h)
      have := need_no.1 e j (by omega)
      omega
    refine ⟨hne, ?_⟩
    obtain ⟨j, h1, h2, h3, h4⟩ := need_yes hne
    obtain ⟨j', hj', h5⟩ := rw_wk.1 h
    rcases Nat.lt_or_ge j' j with q | q
    · have := h4 j' q; omega
    · omega
/-- the greatest of them -/
def maxL (g : Nat → Int) : Nat → Int
  | 0 => g 0
  | k + 1 => if maxL g k < g (k + 1) then g (k + 1) else maxL g k
theorem maxL_ge {g : Nat → Int} {k i : Nat} (h : i ≤ k) : g i ≤ maxL g k := by
  induction k with
  | zero => have : i = 0 := by omega
            subst this; exact Int.le_refl _
  | succ k ih =>
    simp only [maxL]
    rcases Nat.lt_or_ge k i with q | q
    · have : i = k + 1 := by omega
      subst this
      split <;> omega
    · have := ih q
      split <;> omega
theorem maxL_at (g : Nat → Int) (k : Nat) : ∃ i, i ≤ k ∧ maxL g k = g i := by
  induction k with
  | zero => exact ⟨0, Nat.le_refl _, rfl⟩
  | succ k ih =>
    simp only [maxL]
    split
    · exact ⟨k + 1, Nat.le_refl _, rfl⟩
    · obtain ⟨i, h1, h2⟩ := ih
      exact ⟨i, by omega, h2⟩
/-- the farthest vertex's number is enough, and no lesser one -/
theorem need_max {E : Nat → Nat → Bool} {n f : Nat} (hf : f < n) : ∃ M : Nat, maxL (need E n f n) (n - 1) = (M : Int) ∧ EnoughR E n f M := by
  have h0 : need E n f n f ≠ -1 := (need_ne hf hf).2 (by have h := rw_mono (E := E) (n := n) (f := f) (k := 0) (i := f) (by simp [rw_]) n; simpa using h)
  have hge := maxL_ge (g := need E n f n) (k := n - 1) (i := f) (by omega)
  obtain ⟨i, hi, hM⟩ := maxL_at (need E n f n) (n - 1)
  have hne : need E n f n i ≠ -1 := by
    intro e
    obtain ⟨j, h1, _⟩ := need_yes h0
    omega
  obtain ⟨M, hm1, hm2, hm3, hm4⟩ := need_yes hne
  refine ⟨M, hM.trans hm1, ?_, ?_⟩
  · have e : rwL E n f (M + 1) = rwL E n f M := by
      unfold rwL
      apply List.filter_congr
      intro v hv
      have hv' : v < n := by simpa using hv
      rw [Bool.eq_iff_iff]
      constructor
      · intro h
        have hv2 : need E n f n v ≠ -1 := ((need_le hf hv').2 h).1
        have := maxL_ge (g := need E n f n) (k := n - 1) (i := v) (by omega)
        exact (need_le hf hv').1 ⟨hv2, by omega⟩
      · intro h; exact rw_mono h 1
    rw [e]
  · intro j hj
    have hl := rw_len (E := E) (n := n) (f := f) (k := j)
    rcases Nat.lt_or_ge (rwL E n f j).length (rwL E n f (j + 1)).length with q | q
    · exact q
    · exfalso
      have he : (rwL E n f j).length = (rwL E n f (j + 1)).length := by omega
      have hi' : i < n := by omega
      have hs := rw_stable he (M - j) i hi'
      have hr : rw_ E n f M i = true := rw_wk.2 ⟨M, Nat.le_refl _, hm3⟩
      rw [show j + (M - j) = M by omega, hr] at hs
      obtain ⟨j', hj', h5⟩ := rw_wk.1 hs.symm
      have := hm4 j' (by omega)
      omega
/-- the numbers behind layer k as far as vertex s -/
def needAt (E : Nat → Nat → Bool) (n f k s : Nat) : List Int := (List.range n).map (fun i => if i < s then need E n f (k + 1) i else need E n f k i)
def needL (E : Nat → Nat → Bool) (n f k : Nat) : List Int := (List.range n).map (need E n f k)
theorem needAt_len (E : Nat → Nat → Bool) (n f k s : Nat) : (needAt E n f k s).length = n := by simp [needAt]
theorem needL_len (E : Nat → Nat → Bool) (n f k : Nat) : (needL E n f k).length = n := by simp [needL]
theorem needL_at {E : Nat → Nat → Bool} {n f k i : Nat} (h : i < n) : (needL E n f k)[i]? = some (need E n f k i) := by simp [needL, h]
theorem needAt_zero (E : Nat → Nat → Bool) (n f k : Nat) : needAt E n f k 0 = needL E n f k := by simp [needAt, needL]
theorem needAt_full (E : Nat → Nat → Bool) (n f k : Nat) : needAt E n f k n = needL E n f (k + 1) := by
  unfold needAt needL
  apply List.map_congr_left
  intro i hi
  rw [if_pos (by simpa using hi)]
theorem needAt_at {E : Nat → Nat → Bool} {n f k s : Nat} (h : s < n) : (needAt E n f k s)[s]? = some (need E n f k s) := by simp [needAt, h]
theorem needAt_keep {E : Nat → Nat → Bool} {n f k s : Nat} (h : need E n f (k + 1) s = need E n f k s) : needAt E n f k (s + 1) = needAt E n f k s := by
  unfold needAt
  apply List.map_congr_left
  intro i _
  by_cases q : i = s
  · subst q
    rw [if_pos (by omega), if_neg (by omega), h]
  · by_cases q2 : i < s
    · rw [if_pos (by omega), if_pos q2]
    · rw [if_neg (by omega), if_neg q2]
theorem needAt_set {E : Nat → Nat → Bool} {n f k s : Nat} (h : s < n) (hv : need E n f (k + 1) s = (k : Int)) : (needAt E n f k s).set s (k : Int) = needAt E n f k (s + 1) := by
  apply List.ext_getElem?
  intro i
  rw [List.getElem?_set]
  unfold needAt
  by_cases q : s = i
  · subst q
    rw [if_pos rfl, List.length_map, List.length_range, if_pos h]
    simp [h, hv]
  · rw [if_neg q]
    simp only [List.getElem?_map]
    rcases Nat.lt_or_ge i n with c | c
    · rw [List.getElem?_range c]
      simp only [Option.map_some]
      by_cases q2 : i < s
      · rw [if_pos q2, if_pos (by omega)]
      · rw [if_neg q2, if_neg (by omega)]
    · rw [List.getElem?_eq_none (by simpa using c)]
      rfl
theorem need_new {E : Nat → Nat → Bool} {n f k i : Nat} (h1 : need E n f k i = -1) (h2 : 0 < wk E n f k i) : need E n f (k + 1) i = (k : Int) := by show (if need E n f k i = -1 ∧ 0 < wk E n f k i then (k : Int) else need E n f k i) = _; rw [if_pos ⟨h1, h2⟩]
theorem need_old {E : Nat → Nat → Bool} {n f k i : Nat} (h : ¬ (need E n f k i = -1 ∧ 0 < wk E n f k i)) : need E n f (k + 1) i = need E n f k i := by show (if need E n f k i = -1 ∧ 0 < wk E n f k i then (k : Int) else need E n f k i) = _; rw [if_neg h]
theorem needL_zero (E : Nat → Nat → Bool) (n f : Nat) : needL E n f 0 = List.replicate n (-1) := by
  unfold needL
  apply List.ext_getElem?
  intro i
  rw [List.getElem?_replicate]
  rcases Nat.lt_or_ge i n with c | c
  · rw [if_pos c]; simp [c, need]
  · rw [if_neg (by omega)]; simp [c]
open Classical in
/-- the least number of arcs that is enough -/
noncomputable def enK (E : Nat → Nat → Bool) (n f : Nat) : Nat := if h : ∃ k, EnoughR E n f k then Classical.choose h else 0
theorem enK_is {E : Nat → Nat → Bool} {n f : Nat} (hf : f < n) : EnoughR E n f (enK E n f) := by
  unfold enK
  rw [dif_pos (enough_is hf)]
  exact Classical.choose_spec (enough_is hf)
theorem enK_eq {E : Nat → Nat → Bool} {n f k : Nat} (hf : f < n) (h : EnoughR E n f k) : enK E n f = k := enough_one (enK_is hf) h
theorem need_maxK {E : Nat → Nat → Bool} {n f : Nat} (hf : f < n) : maxL (need E n f n) (n - 1) = (enK E n f : Int) := by
  obtain ⟨M, h1, h2⟩ := need_max (E := E) hf
  rw [h1, enK_eq hf h2]
end Go.Proofs.Ytbmmajdacebncaa
