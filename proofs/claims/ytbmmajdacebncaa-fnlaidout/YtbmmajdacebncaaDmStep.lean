/-
  The graph of a program: what is reached, the leaders, the ends; each list built up as a loop over the steps does. Plain mathematics.
-/
import Derived.Test.YtbmmajdacebncaaDmMath
import Derived.Test.YtbmmajdacebncaaPutMath
namespace Go.Proofs.Ytbmmajdacebncaa

/-- the steps that may follow, by kind and way (the same as in the text Follow) -/
def nxI (k t a : Int) : List Int := if k = 11 then [] else if k = 8 then [a + t + 1] else if k = 9 ∨ k = 10 then [a + 1, a + t + 1] else [a + 1]
/-- kinds and ways of a program's steps -/
abbrev KT := List (Int × Int)
def edg (l : KT) (a b : Nat) : Bool := match l[a]? with
  | some x => decide ((b : Int) ∈ nxI x.1 x.2 a)
  | none => false
/-- what a valid program keeps -/
def GoodKT (l : KT) : Prop := ∀ (a : Nat) (x : Int × Int), l[a]? = some x → (0 ≤ x.2 ∧ (x.2 ≠ 0 ↔ x.1 = 8 ∨ x.1 = 9 ∨ x.1 = 10)) ∧ ∀ y ∈ nxI x.1 x.2 a, y < (l.length : Int)
theorem nx_mem {k t a y : Int} (h : y ∈ nxI k t a) : y = a + 1 ∨ y = a + t + 1 := by
  unfold nxI at h
  split at h
  · simp at h
  · split at h
    · simp at h; omega
    · split at h
      · simp at h; omega
      · simp at h; omega
theorem edg_iff {l : KT} {a b : Nat} {x : Int × Int} (hx : l[a]? = some x) : edg l a b = true ↔ (b : Int) ∈ nxI x.1 x.2 a := by unfold edg; rw [hx]; simp
theorem edg_some {l : KT} {a b : Nat} (h : edg l a b = true) : ∃ x, l[a]? = some x ∧ (b : Int) ∈ nxI x.1 x.2 a := by
  cases hx : l[a]? with
  | none => unfold edg at h; rw [hx] at h; cases h
  | some x => exact ⟨x, rfl, (edg_iff hx).1 h⟩
theorem edg_fwd {l : KT} (g : GoodKT l) : ∀ a b, edg l a b = true → a < b := by
  intro a b h
  obtain ⟨x, hx, hm⟩ := edg_some h
  have := (g a x hx).1.1
  rcases nx_mem hm with h | h <;> omega
theorem edg_lt {l : KT} (g : GoodKT l) {a b : Nat} (h : edg l a b = true) : a < l.length ∧ b < l.length := by
  obtain ⟨x, hx, hm⟩ := edg_some h
  have := (g a x hx).2 _ hm
  exact ⟨(List.getElem?_eq_some_iff.1 hx).1, by omega⟩
theorem nx_nat {l : KT} (g : GoodKT l) {a : Nat} {x : Int × Int} (hx : l[a]? = some x) {y : Int} (hy : y ∈ nxI x.1 x.2 a) : ∃ b : Nat, y = b ∧ edg l a b = true ∧ b < l.length := by
  have h0 := (g a x hx).1.1
  have h1 := (g a x hx).2 y hy
  have : 0 ≤ y := by rcases nx_mem hy with h | h <;> omega
  obtain ⟨b, rfl⟩ := Int.eq_ofNat_of_zero_le this
  exact ⟨b, rfl, (edg_iff hx).2 hy, by omega⟩
/-- lists of steps as ints -/
def castL (l : List Nat) : List Int := l.map (fun n : Nat => (n : Int))
theorem castL_mem {l : List Nat} {x : Int} : x ∈ castL l ↔ ∃ n : Nat, n ∈ l ∧ (n : Int) = x := by unfold castL; simp
theorem castL_mem' {l : List Nat} {n : Nat} : (n : Int) ∈ castL l ↔ n ∈ l := by
  rw [castL_mem]
  constructor
  · rintro ⟨m, hm, h⟩
    have : m = n := by omega
    subst this; exact hm
  · intro h; exact ⟨n, h, rfl⟩
theorem range_sorted (n : Nat) : (List.range n).Pairwise (· < ·) := List.pairwise_lt_range
theorem castL_sorted {l : List Nat} (h : l.Pairwise (· < ·)) : (castL l).Pairwise (· < ·) := by
  unfold castL
  rw [List.pairwise_map]
  exact h.imp (fun h => by omega)
theorem filter_sorted (n : Nat) (p : Nat → Bool) : ((List.range n).filter p).Pairwise (· < ·) := (range_sorted n).filter p
/-- two filters of the steps, as ints, are equal where they have the same members -/
theorem castL_ext {n m : Nat} {p q : Nat → Bool} (h : ∀ i : Nat, i ∈ (List.range n).filter p ↔ i ∈ (List.range m).filter q) : (List.range n).filter p = (List.range m).filter q := by
  have e : castL ((List.range n).filter p) = castL ((List.range m).filter q) := by
    apply sorted_ext (castL_sorted (filter_sorted n p)) (castL_sorted (filter_sorted m q))
    intro x
    rw [castL_mem, castL_mem]
    constructor
    · rintro ⟨k, hk, rfl⟩; exact ⟨k, (h k).1 hk, rfl⟩
    · rintro ⟨k, hk, rfl⟩; exact ⟨k, (h k).2 hk, rfl⟩
  unfold castL at e
  exact (List.map_inj_right (fun a b hab => by omega)).1 e
/-- what is known to be reached when the steps before m have led on -/
def rpL (E : Nat → Nat → Bool) (n f m : Nat) : List Nat := (List.range n).filter (fun j => decide (j = f) || (List.range m).any (fun a => rb E f a && E a j))
theorem mem_rp {E : Nat → Nat → Bool} {n f m j : Nat} : j ∈ rpL E n f m ↔ j < n ∧ (j = f ∨ ∃ a, a < m ∧ rb E f a = true ∧ E a j = true) := by
  unfold rpL
  simp only [List.mem_filter, List.mem_range, Bool.or_eq_true, decide_eq_true_eq, List.any_eq_true, Bool.and_eq_true]
theorem rp_start {E : Nat → Nat → Bool} {n f : Nat} (hf : f < n) : castL (rpL E n f f) = [(f : Int)] := by
  apply sorted_ext (castL_sorted (filter_sorted _ _)) (by simp)
  intro x
  rw [castL_mem]
  constructor
  · rintro ⟨k, hk, rfl⟩
    rcases (mem_rp.1 hk).2 with rfl | ⟨a, ha, h1, _⟩
    · simp
    · have := rb_ge h1; omega
  · intro h
    rw [List.mem_singleton] at h
    exact ⟨f, mem_rp.2 ⟨hf, .inl rfl⟩, h.symm⟩
theorem rp_at {E : Nat → Nat → Bool} {n f m : Nat} (hm : m < n) : m ∈ rpL E n f m ↔ rb E f m = true := by
  rw [mem_rp, rb_iff]
  constructor
  · rintro ⟨_, h⟩; exact h
  · intro h; exact ⟨hm, h⟩
theorem rp_skip {E : Nat → Nat → Bool} {n f m : Nat} (h : rb E f m = false) : rpL E n f (m + 1) = rpL E n f m := by
  apply castL_ext
  intro i
  have := mem_rp (E := E) (n := n) (f := f) (m := m + 1) (j := i)
  have h2 := mem_rp (E := E) (n := n) (f := f) (m := m) (j := i)
  unfold rpL at this h2
  rw [this, h2]
  constructor
  · rintro ⟨h1, h3 | ⟨a, ha, h4, h5⟩⟩
    · exact ⟨h1, .inl h3⟩
    · refine ⟨h1, .inr ⟨a, ?_, h4, h5⟩⟩
      rcases Nat.lt_or_ge a m with q | q
      · exact q
      · have : a = m := by omega
        subst this; rw [h] at h4; cases h4
  · rintro ⟨h1, h3 | ⟨a, ha, h4, h5⟩⟩
    · exact ⟨h1, .inl h3⟩
    · exact ⟨h1, .inr ⟨a, by omega, h4, h5⟩⟩
theorem rp_put {l : KT} (g : GoodKT l) {f m : Nat} {x : Int × Int} (hx : l[m]? = some x) (h : rb (edg l) f m = true) :
    putAll (castL (rpL (edg l) l.length f m)) (nxI x.1 x.2 m) = castL (rpL (edg l) l.length f (m + 1)) := by
  apply sorted_ext (putAll_sorted _ _ (castL_sorted (filter_sorted _ _))) (castL_sorted (filter_sorted _ _))
  intro y
  rw [putAll_mem, castL_mem, castL_mem]
  constructor
  · rintro (⟨k, hk, rfl⟩ | hy)
    · obtain ⟨h1, h2⟩ := mem_rp.1 hk
      refine ⟨k, mem_rp.2 ⟨h1, ?_⟩, rfl⟩
      rcases h2 with h2 | ⟨a, ha, h4, h5⟩
      · exact .inl h2
      · exact .inr ⟨a, by omega, h4, h5⟩
    · obtain ⟨b, rfl, h1, h2⟩ := nx_nat g hx hy
      exact ⟨b, mem_rp.2 ⟨h2, .inr ⟨m, by omega, h, h1⟩⟩, rfl⟩
  · rintro ⟨k, hk, rfl⟩
    obtain ⟨h1, h2⟩ := mem_rp.1 hk
    rcases h2 with h2 | ⟨a, ha, h4, h5⟩
    · exact .inl ⟨k, mem_rp.2 ⟨h1, .inl h2⟩, rfl⟩
    · rcases Nat.lt_or_ge a m with q | q
      · exact .inl ⟨k, mem_rp.2 ⟨h1, .inr ⟨a, q, h4, h5⟩⟩, rfl⟩
      · have : a = m := by omega
        subst this
        exact .inr ((edg_iff hx).1 h5)
theorem rp_end {E : Nat → Nat → Bool} (hE : ∀ a b, E a b = true → a < b) (n f : Nat) : rpL E n f n = reachL E n f := by
  apply castL_ext
  intro i
  have h1 := mem_rp (E := E) (n := n) (f := f) (m := n) (j := i)
  have h2 := mem_reach (E := E) (n := n) (f := f) (i := i)
  unfold rpL at h1
  unfold reachL at h2
  rw [h1, h2, rb_iff]
  constructor
  · rintro ⟨hn, h | ⟨a, ha, h3, h4⟩⟩
    · exact ⟨hn, .inl h⟩
    · exact ⟨hn, .inr ⟨a, hE a i h4, h3, h4⟩⟩
  · rintro ⟨hn, h | ⟨a, ha, h3, h4⟩⟩
    · exact ⟨hn, .inl h⟩
    · exact ⟨hn, .inr ⟨a, by omega, h3, h4⟩⟩
/-- the leaders that the jumps of Q make, with step 0 -/
def ttA (l : KT) (k : Nat) : Int := match l[k]? with | some x => x.2 | none => 0
def leadQ (l : KT) (Q : List Nat) : List Nat := (List.range l.length).filter (fun i => decide (i = 0) || Q.any (fun k => decide (ttA l k ≠ 0) && (decide ((i : Int) = (k : Int) + ttA l k + 1) || (decide (i = k + 1) && rb (edg l) 0 i))))
theorem mem_lead {l : KT} {Q : List Nat} {i : Nat} : i ∈ leadQ l Q ↔ i < l.length ∧ (i = 0 ∨ ∃ k, k ∈ Q ∧ ttA l k ≠ 0 ∧ ((i : Int) = (k : Int) + ttA l k + 1 ∨ (i = k + 1 ∧ rb (edg l) 0 i = true))) := by
  unfold leadQ
  simp only [List.mem_filter, List.mem_range, Bool.or_eq_true, decide_eq_true_eq, List.any_eq_true, Bool.and_eq_true]
theorem lead_start {l : KT} (h : 0 < l.length) : castL (leadQ l []) = [(0 : Int)] := by
  apply sorted_ext (castL_sorted (filter_sorted _ _)) (by simp)
  intro x
  rw [castL_mem]
  constructor
  · rintro ⟨k, hk, rfl⟩
    rcases (mem_lead.1 hk).2 with rfl | ⟨a, ha, _⟩
    · simp
    · simp at ha
  · intro hx
    rw [List.mem_singleton] at hx
    exact ⟨0, mem_lead.2 ⟨h, .inl rfl⟩, hx.symm⟩
theorem lead_skip {l : KT} {Q : List Nat} {k : Nat} (h : ttA l k = 0) : leadQ l (Q ++ [k]) = leadQ l Q := by
  apply castL_ext
  intro i
  have h1 := mem_lead (l := l) (Q := Q ++ [k]) (i := i)
  have h2 := mem_lead (l := l) (Q := Q) (i := i)
  unfold leadQ at h1 h2
  rw [h1, h2]
  constructor
  · rintro ⟨hn, h3 | ⟨a, ha, h4, h5⟩⟩
    · exact ⟨hn, .inl h3⟩
    · rcases List.mem_append.1 ha with ha | ha
      · exact ⟨hn, .inr ⟨a, ha, h4, h5⟩⟩
      · rw [List.mem_singleton] at ha; subst ha; exact absurd h h4
  · rintro ⟨hn, h3 | ⟨a, ha, h4, h5⟩⟩
    · exact ⟨hn, .inl h3⟩
    · exact ⟨hn, .inr ⟨a, by simp [ha], h4, h5⟩⟩
theorem jump_to {l : KT} (g : GoodKT l) {k : Nat} (h : ttA l k ≠ 0) : ∃ b : Nat, (b : Int) = (k : Int) + ttA l k + 1 ∧ b < l.length ∧ edg l k b = true := by
  unfold ttA at h ⊢
  cases hx : l[k]? with
  | none => rw [hx] at h; exact absurd rfl h
  | some x =>
    rw [hx] at h
    simp only at h ⊢
    have gg := g k x hx
    have hk := gg.1.2.1 h
    have hin : (k : Int) + x.2 + 1 ∈ nxI x.1 x.2 k := by
      unfold nxI
      rcases hk with hk | hk | hk <;> rw [hk] <;> simp
    obtain ⟨b, hb, h1, h2⟩ := nx_nat g hx hin
    exact ⟨b, hb.symm, h2, h1⟩
theorem lead_put {l : KT} (g : GoodKT l) {Q : List Nat} {k : Nat} (h : ttA l k ≠ 0) (hk : k < l.length) :
    (rb (edg l) 0 (k + 1) = true → k + 1 < l.length → castL (leadQ l (Q ++ [k])) = putL ((k : Int) + 1) (putL ((k : Int) + ttA l k + 1) (castL (leadQ l Q)))) ∧
    (¬ (rb (edg l) 0 (k + 1) = true ∧ k + 1 < l.length) → castL (leadQ l (Q ++ [k])) = putL ((k : Int) + ttA l k + 1) (castL (leadQ l Q))) := by
  obtain ⟨b, hb, hbl, _⟩ := jump_to g h
  have s0 := castL_sorted (filter_sorted l.length (fun i => decide (i = 0) || Q.any (fun k => decide (ttA l k ≠ 0) && (decide ((i : Int) = (k : Int) + ttA l k + 1) || (decide (i = k + 1) && rb (edg l) 0 i)))))
  constructor
  · intro h1 h2
    apply sorted_ext (castL_sorted (filter_sorted _ _)) (putL_sorted _ (putL_sorted _ s0))
    intro y
    rw [putL_mem, putL_mem, castL_mem, castL_mem]
    constructor
    · rintro ⟨i, hi, rfl⟩
      obtain ⟨hn, h3⟩ := mem_lead.1 hi
      rcases h3 with h3 | ⟨a, ha, h4, h5⟩
      · exact .inr (.inr ⟨i, mem_lead.2 ⟨hn, .inl h3⟩, rfl⟩)
      · rcases List.mem_append.1 ha with ha | ha
        · exact .inr (.inr ⟨i, mem_lead.2 ⟨hn, .inr ⟨a, ha, h4, h5⟩⟩, rfl⟩)
        · rw [List.mem_singleton] at ha; subst ha
          rcases h5 with h5 | ⟨h5, _⟩
          · exact .inr (.inl h5)
          · exact .inl (by omega)
    · rintro (rfl | rfl | ⟨i, hi, rfl⟩)
      · exact ⟨k + 1, mem_lead.2 ⟨h2, .inr ⟨k, by simp, h, .inr ⟨rfl, h1⟩⟩⟩, by push_cast; rfl⟩
      · exact ⟨b, mem_lead.2 ⟨hbl, .inr ⟨k, by simp, h, .inl hb⟩⟩, hb⟩
      · obtain ⟨hn, h3⟩ := mem_lead.1 hi
        refine ⟨i, mem_lead.2 ⟨hn, ?_⟩, rfl⟩
        rcases h3 with h3 | ⟨a, ha, h4⟩
        · exact .inl h3
        · exact .inr ⟨a, by simp [ha], h4⟩
  · intro h1
    apply sorted_ext (castL_sorted (filter_sorted _ _)) (putL_sorted _ s0)
    intro y
    rw [putL_mem, castL_mem, castL_mem]
    constructor
    · rintro ⟨i, hi, rfl⟩
      obtain ⟨hn, h3⟩ := mem_lead.1 hi
      rcases h3 with h3 | ⟨a, ha, h4, h5⟩
      · exact .inr ⟨i, mem_lead.2 ⟨hn, .inl h3⟩, rfl⟩
      · rcases List.mem_append.1 ha with ha | ha
        · exact .inr ⟨i, mem_lead.2 ⟨hn, .inr ⟨a, ha, h4, h5⟩⟩, rfl⟩
        · rw [List.mem_singleton] at ha; subst ha
          rcases h5 with h5 | ⟨h5, h6⟩
          · exact .inl h5
          · subst h5; exact absurd ⟨h6, hn⟩ h1
    · rintro (rfl | ⟨i, hi, rfl⟩)
      · exact ⟨b, mem_lead.2 ⟨hbl, .inr ⟨k, by simp, h, .inl hb⟩⟩, hb⟩
      · obtain ⟨hn, h3⟩ := mem_lead.1 hi
        refine ⟨i, mem_lead.2 ⟨hn, ?_⟩, rfl⟩
        rcases h3 with h3 | ⟨a, ha, h4⟩
        · exact .inl h3
        · exact .inr ⟨a, by simp [ha], h4⟩
/-- the leaders; the ends -/
def leadL (l : KT) : List Nat := leadQ l (reachL (edg l) l.length 0)
def kkA (l : KT) (k : Nat) : Int := match l[k]? with | some x => x.1 | none => 0
def endsL (l : KT) (f : Nat) : List Nat := (reachL (edg l) l.length f).filter (fun k => decide (kkA l k = 11))
/-- members of both, as ints -/
theorem castL_both (a b : List Nat) : (castL a).filter (fun x => decide (x ∈ castL b)) = castL (a.filter (fun x => decide (x ∈ b))) := by
  unfold castL
  rw [List.filter_map]
  congr 1
  apply List.filter_congr
  intro x _
  simp only [Function.comp]
  rw [decide_eq_decide]
  exact castL_mem'
theorem castL_filter (a : List Nat) (p : Int → Bool) : (castL a).filter p = castL (a.filter (fun x => p x)) := by
  unfold castL
  rw [List.filter_map]
  rfl
theorem castL_app (a b : List Nat) : castL (a ++ b) = castL a ++ castL b := by unfold castL; rw [List.map_append]
theorem castL_len (a : List Nat) : (castL a).length = a.length := by unfold castL; simp
theorem castL_at {a : List Nat} {k n : Nat} (h : a[k]? = some n) : (castL a)[k]? = some (n : Int) := by unfold castL; rw [List.getElem?_map, h]; rfl
/-- the numbers of ways when the steps before m have handed theirs on -/
def wp (E : Nat → Nat → Bool) (m j : Nat) : Nat := (if j = 0 then 1 else 0) + sumTo (fun a => if E a j then wc E a else 0) m
theorem wp_start (E : Nat → Nat → Bool) (j : Nat) : wp E 0 j = if j = 0 then 1 else 0 := by unfold wp; simp [sumTo]
theorem wp_at (E : Nat → Nat → Bool) (k : Nat) : wp E k k = wc E k := (wc_eq E k).symm
theorem wp_step (E : Nat → Nat → Bool) (k j : Nat) : wp E (k + 1) j = wp E k j + (if E k j then wc E k else 0) := by
  unfold wp
  simp only [sumTo]
  omega
theorem wp_end {E : Nat → Nat → Bool} (hE : ∀ a b, E a b = true → a < b) {n j : Nat} (h : j ≤ n) : wp E n j = wc E j := by
  induction n with
  | zero => have : j = 0 := by omega
            subst this; exact wp_at E 0
  | succ n ih =>
    by_cases hj : j = n + 1
    · subst hj; exact wp_at E (n + 1)
    · rw [wp_step, ih (by omega)]
      have : E n j = false := by
        cases he : E n j
        · rfl
        · have := hE n j he; omega
      rw [this]; simp
theorem wp_le {E : Nat → Nat → Bool} (hE : ∀ a b, E a b = true → a < b) (m j : Nat) : wp E m j ≤ 2 ^ j := by
  have mono : ∀ d, wp E m j ≤ wp E (m + d) j := by
    intro d
    induction d with
    | zero => exact Nat.le_refl _
    | succ d ih => rw [← Nat.add_assoc, wp_step]; omega
  rcases Nat.lt_or_ge m j with h | h
  · have h1 := mono (j - m)
    rw [show m + (j - m) = j by omega, wp_at] at h1
    exact Nat.le_trans h1 (wc_le j)
  · rw [wp_end hE h]; exact wc_le j
end Go.Proofs.Ytbmmajdacebncaa
