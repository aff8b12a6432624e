/-
  Forward graphs: what is reached, what is passed on every way (dominators), the number of ways. Plain mathematics.
-/
import Derived.WalkKit
namespace Go.Proofs.Ytbmmajdacebncaa

theorem getD_app_l {α : Type} (l r : List α) (d : α) {i : Nat} (h : i < l.length) : (l ++ r).getD i d = l.getD i d := by
  rw [List.getD_eq_getElem?_getD, List.getD_eq_getElem?_getD, List.getElem?_append_left h]
theorem getD_app_r {α : Type} (l : List α) (x d : α) {i : Nat} (h : l.length = i) : (l ++ [x]).getD i d = x := by
  subst h
  rw [List.getD_eq_getElem?_getD, List.getElem?_append_right (Nat.le_refl _), Nat.sub_self]
  rfl
/-- a table, each entry out of those before -/
def tabB (F : (Nat → Bool) → Nat → Bool) : Nat → List Bool
  | 0 => []
  | k + 1 => tabB F k ++ [F (fun a => (tabB F k).getD a false) k]
theorem tabB_len (F : (Nat → Bool) → Nat → Bool) (k : Nat) : (tabB F k).length = k := by
  induction k with
  | zero => rfl
  | succ k ih => simp [tabB, ih]
theorem tabB_at (F : (Nat → Bool) → Nat → Bool) {i k : Nat} (h : i < k) : (tabB F k).getD i false = (tabB F (i + 1)).getD i false := by
  induction k with
  | zero => omega
  | succ k ih =>
    by_cases he : i = k
    · subst he; rfl
    · have hl := tabB_len F k
      have := ih (by omega)
      rw [← this]
      show (tabB F k ++ [_]).getD i false = _
      rw [getD_app_l _ _ _ (by omega)]
/-- the function that the table is of -/
def fixB (F : (Nat → Bool) → Nat → Bool) (i : Nat) : Bool := (tabB F (i + 1)).getD i false
theorem fixB_eq (F : (Nat → Bool) → Nat → Bool) (hF : ∀ f g k, (∀ a, a < k → f a = g a) → F f k = F g k) (i : Nat) : fixB F i = F (fixB F) i := by
  have hl := tabB_len F i
  have e : fixB F i = F (fun a => (tabB F i).getD a false) i := by
    show (tabB F i ++ [F (fun a => (tabB F i).getD a false) i]).getD i false = _
    exact getD_app_r _ _ _ hl
  rw [e]
  exact hF _ _ i (fun a ha => tabB_at F ha)
theorem any_congr {l : List Nat} {p q : Nat → Bool} (h : ∀ a ∈ l, p a = q a) : l.any p = l.any q := by
  induction l with
  | nil => rfl
  | cons x l ih => rw [List.any_cons, List.any_cons, h x (by simp), ih (fun a ha => h a (by simp [ha]))]
theorem all_congr {l : List Nat} {p q : Nat → Bool} (h : ∀ a ∈ l, p a = q a) : l.all p = l.all q := by
  induction l with
  | nil => rfl
  | cons x l ih => rw [List.all_cons, List.all_cons, h x (by simp), ih (fun a ha => h a (by simp [ha]))]
/-- reached from f, along arcs that lead on -/
def rbF (E : Nat → Nat → Bool) (f : Nat) (t : Nat → Bool) (i : Nat) : Bool := decide (i = f) || (List.range i).any (fun a => t a && E a i)
def rb (E : Nat → Nat → Bool) (f : Nat) : Nat → Bool := fixB (rbF E f)
theorem rb_iff {E : Nat → Nat → Bool} {f i : Nat} : rb E f i = true ↔ i = f ∨ ∃ a, a < i ∧ rb E f a = true ∧ E a i = true := by
  unfold rb
  rw [fixB_eq (rbF E f) (fun g h k hk => by
    unfold rbF
    rw [any_congr (q := fun a => h a && E a k) (fun a ha => by rw [hk a (by simpa using ha)])])]
  unfold rbF
  simp only [Bool.or_eq_true, decide_eq_true_eq, List.any_eq_true, List.mem_range, Bool.and_eq_true]
theorem rb_self (E : Nat → Nat → Bool) (f : Nat) : rb E f f = true := rb_iff.2 (.inl rfl)
theorem rb_step {E : Nat → Nat → Bool} {f a i : Nat} (h : a < i) (h1 : rb E f a = true) (h2 : E a i = true) : rb E f i = true := rb_iff.2 (.inr ⟨a, h, h1, h2⟩)
theorem rb_ge {E : Nat → Nat → Bool} {f i : Nat} (h : rb E f i = true) : f ≤ i := by
  induction i using Nat.strongRecOn with
  | _ i ih =>
    rcases rb_iff.1 h with rfl | ⟨a, ha, h1, _⟩
    · exact Nat.le_refl _
    · have := ih a ha h1; omega
theorem rb_trans {E : Nat → Nat → Bool} {f g i : Nat} (h : rb E f g = true) (h2 : rb E g i = true) : rb E f i = true := by
  induction i using Nat.strongRecOn with
  | _ i ih =>
    rcases rb_iff.1 h2 with rfl | ⟨a, ha, h3, h4⟩
    · exact h
    · exact rb_step ha (ih a ha h3) h4
/-- k is passed on every way from 0 to i -/
def dmF (E : Nat → Nat → Bool) (k : Nat) (t : Nat → Bool) (i : Nat) : Bool := decide (k = i) || (decide (0 < i) && (List.range i).all (fun a => !(rb E 0 a && E a i) || t a))
def dm (E : Nat → Nat → Bool) (k : Nat) : Nat → Bool := fixB (dmF E k)
theorem dm_iff {E : Nat → Nat → Bool} {k i : Nat} : dm E k i = true ↔ k = i ∨ (0 < i ∧ ∀ a, a < i → rb E 0 a = true → E a i = true → dm E k a = true) := by
  unfold dm
  rw [fixB_eq (dmF E k) (fun g h m hk => by
    unfold dmF
    rw [all_congr (q := fun a => !(rb E 0 a && E a m) || h a) (fun a ha => by rw [hk a (by simpa using ha)])])]
  unfold dmF
  simp only [Bool.or_eq_true, decide_eq_true_eq, List.all_eq_true, List.mem_range, Bool.and_eq_true, Bool.not_eq_true']
  constructor
  · rintro (h | ⟨h0, h⟩)
    · exact .inl h
    · refine .inr ⟨h0, fun a ha h1 h2 => ?_⟩
      rcases h a ha with h3 | h3
      · rw [h1, h2] at h3; cases h3
      · exact h3
  · rintro (h | ⟨h0, h⟩)
    · exact .inl h
    · refine .inr ⟨h0, fun a ha => ?_⟩
      cases h1 : rb E 0 a
      · left; rfl
      · cases h2 : E a i
        · left; rfl
        · right; exact h a ha h1 h2
theorem dm_self (E : Nat → Nat → Bool) (i : Nat) : dm E i i = true := dm_iff.2 (.inl rfl)
/-- what is passed on the way to a step is passed on the way to those ahead of it, but for itself -/
theorem dm_back {E : Nat → Nat → Bool} {k a i : Nat} (h : dm E k i = true) (hne : k ≠ i) (ha : a < i) (h1 : rb E 0 a = true) (h2 : E a i = true) : dm E k a = true := by
  rcases dm_iff.1 h with h | ⟨_, h⟩
  · exact absurd h hne
  · exact h a ha h1 h2
theorem rb_pred {E : Nat → Nat → Bool} {i : Nat} (h : rb E 0 i = true) (h0 : 0 < i) : ∃ a, a < i ∧ rb E 0 a = true ∧ E a i = true := by
  rcases rb_iff.1 h with rfl | h
  · omega
  · exact h
theorem dm_first {E : Nat → Nat → Bool} (i : Nat) : rb E 0 i = true → dm E 0 i = true := by
  induction i using Nat.strongRecOn with
  | _ i ih =>
    intro h
    by_cases h0 : i = 0
    · subst h0; exact dm_self E 0
    · exact dm_iff.2 (.inr ⟨by omega, fun a ha h1 _ => ih a ha h1⟩)
theorem dm_le {E : Nat → Nat → Bool} {k : Nat} (i : Nat) : rb E 0 i = true → dm E k i = true → k ≤ i ∧ rb E 0 k = true := by
  induction i using Nat.strongRecOn with
  | _ i ih =>
    intro h hk
    by_cases he : k = i
    · subst he; exact ⟨Nat.le_refl _, h⟩
    · by_cases h0 : i = 0
      · rcases dm_iff.1 hk with h2 | ⟨h2, _⟩
        · exact absurd h2 he
        · omega
      · obtain ⟨a, ha, h1, h2⟩ := rb_pred h (by omega)
        have := ih a ha h1 (dm_back hk he ha h1 h2)
        exact ⟨by omega, this.2⟩
/-- a way: each step is led to by the one before -/
def Way (E : Nat → Nat → Bool) (t : List Nat) : Prop := t[0]? = some 0 ∧ ∀ i x y, t[i]? = some x → t[i + 1]? = some y → x < y ∧ E x y = true
theorem way_reached {E : Nat → Nat → Bool} {t : List Nat} (h : Way E t) : ∀ (i x : Nat), t[i]? = some x → rb E 0 x = true := by
  intro i
  induction i with
  | zero => intro x hx; rw [h.1] at hx; have := Option.some.inj hx; subst this; exact rb_self E 0
  | succ i ih =>
    intro y hy
    have hlt : i + 1 < t.length := (List.getElem?_eq_some_iff.1 hy).1
    obtain ⟨x, hx⟩ : ∃ x, t[i]? = some x := ⟨_, List.getElem?_eq_getElem (by omega)⟩
    obtain ⟨h1, h2⟩ := h.2 i x y hx hy
    exact rb_step h1 (ih x hx) h2
/-- a way to a step passes its dominators -/
theorem way_passes {E : Nat → Nat → Bool} {t : List Nat} (h : Way E t) : ∀ (i x k : Nat), t[i]? = some x → dm E k x = true → k ∈ t.take (i + 1) := by
  intro i
  induction i with
  | zero =>
    intro x k hx hk
    have h0 := hx
    rw [h.1] at h0; have := Option.some.inj h0; subst this
    have := dm_le 0 (rb_self E 0) hk
    have hz : k = 0 := by omega
    subst hz
    exact List.mem_of_getElem? (i := 0) (by rw [List.getElem?_take]; simpa using hx)
  | succ i ih =>
    intro y k hy hk
    have hlt : i + 1 < t.length := (List.getElem?_eq_some_iff.1 hy).1
    obtain ⟨x, hx⟩ : ∃ x, t[i]? = some x := ⟨_, List.getElem?_eq_getElem (by omega)⟩
    obtain ⟨h1, h2⟩ := h.2 i x y hx hy
    by_cases he : k = y
    · subst he
      exact List.mem_of_getElem? (i := i + 1) (by rw [List.getElem?_take, if_pos (by omega)]; exact hy)
    · have := ih x k hx (dm_back hk he h1 (way_reached h i x hx) h2)
      obtain ⟨j, hj⟩ := List.getElem?_of_mem this
      rw [List.getElem?_take] at hj
      split at hj
      · exact List.mem_of_getElem? (i := j) (by rw [List.getElem?_take, if_pos (by omega)]; exact hj)
      · cases hj
/-- the number of ways to a step -/
def sumTo (f : Nat → Nat) : Nat → Nat
  | 0 => 0
  | k + 1 => sumTo f k + f k
theorem sumTo_congr {f g : Nat → Nat} (k : Nat) (h : ∀ a, a < k → f a = g a) : sumTo f k = sumTo g k := by
  induction k with
  | zero => rfl
  | succ k ih => simp only [sumTo]; rw [ih (fun a ha => h a (by omega)), h k (by omega)]
theorem sumTo_pos {f : Nat → Nat} (k : Nat) : 0 < sumTo f k ↔ ∃ a, a < k ∧ 0 < f a := by
  induction k with
  | zero => simp [sumTo]
  | succ k ih =>
    simp only [sumTo]
    constructor
    · intro h
      by_cases h0 : 0 < f k
      · exact ⟨k, by omega, h0⟩
      · obtain ⟨a, ha, h1⟩ := ih.1 (by omega)
        exact ⟨a, by omega, h1⟩
    · rintro ⟨a, ha, h1⟩
      by_cases he : a = k
      · subst he; omega
      · have := ih.2 ⟨a, by omega, h1⟩; omega
def tabN (F : (Nat → Nat) → Nat → Nat) : Nat → List Nat
  | 0 => []
  | k + 1 => tabN F k ++ [F (fun a => (tabN F k).getD a 0) k]
theorem tabN_len (F : (Nat → Nat) → Nat → Nat) (k : Nat) : (tabN F k).length = k := by
  induction k with
  | zero => rfl
  | succ k ih => simp [tabN, ih]
theorem tabN_at (F : (Nat → Nat) → Nat → Nat) {i k : Nat} (h : i < k) : (tabN F k).getD i 0 = (tabN F (i + 1)).getD i 0 := by
  induction k with
  | zero => omega
  | succ k ih =>
    by_cases he : i = k
    · subst he; rfl
    · have hl := tabN_len F k
      have := ih (by omega)
      rw [← this]
      show (tabN F k ++ [_]).getD i 0 = _
      rw [getD_app_l _ _ _ (by omega)]
def wcF (E : Nat → Nat → Bool) (t : Nat → Nat) (i : Nat) : Nat := (if i = 0 then 1 else 0) + sumTo (fun a => if E a i then t a else 0) i
def wc (E : Nat → Nat → Bool) (i : Nat) : Nat := (tabN (wcF E) (i + 1)).getD i 0
theorem wc_eq (E : Nat → Nat → Bool) (i : Nat) : wc E i = (if i = 0 then 1 else 0) + sumTo (fun a => if E a i then wc E a else 0) i := by
  have hl := tabN_len (wcF E) i
  have e : wc E i = wcF E (fun a => (tabN (wcF E) i).getD a 0) i := by
    show (tabN (wcF E) i ++ [wcF E (fun a => (tabN (wcF E) i).getD a 0) i]).getD i 0 = _
    exact getD_app_r _ _ _ hl
  rw [e]
  unfold wcF
  congr 1
  exact sumTo_congr i (fun a ha => by show (if E a i then (tabN (wcF E) i).getD a 0 else 0) = _; rw [tabN_at (wcF E) ha]; rfl)
theorem wc_pos {E : Nat → Nat → Bool} (i : Nat) : 0 < wc E i ↔ rb E 0 i = true := by
  induction i using Nat.strongRecOn with
  | _ i ih =>
    rw [wc_eq]
    by_cases h0 : i = 0
    · subst h0; simp [rb_self, sumTo]
    · rw [if_neg h0, Nat.zero_add, sumTo_pos]
      constructor
      · rintro ⟨a, ha, h1⟩
        split at h1
        · exact rb_step ha ((ih a ha).1 h1) ‹_›
        · omega
      · intro h
        obtain ⟨a, ha, h1, h2⟩ := rb_pred h (by omega)
        exact ⟨a, ha, by rw [if_pos h2]; exact (ih a ha).2 h1⟩
theorem wc_le {E : Nat → Nat → Bool} (i : Nat) : wc E i ≤ 2 ^ i := by
  induction i using Nat.strongRecOn with
  | _ i ih =>
    rw [wc_eq]
    by_cases h0 : i = 0
    · subst h0; simp [sumTo]
    · rw [if_neg h0, Nat.zero_add]
      have key : ∀ k, k ≤ i → sumTo (fun a => if E a i then wc E a else 0) k + 1 ≤ 2 ^ k := by
        intro k
        induction k with
        | zero => intro _; simp [sumTo]
        | succ k ihk =>
          intro hk
          have h1 := ihk (by omega)
          have h2 := ih k (by omega)
          simp only [sumTo]
          rw [Nat.pow_succ]
          split <;> omega
      have := key i (Nat.le_refl _)
      omega
/-- the answers, as lists -/
def reachL (E : Nat → Nat → Bool) (n f : Nat) : List Nat := (List.range n).filter (rb E f)
def aheadL (E : Nat → Nat → Bool) (n i : Nat) : List Nat := (reachL E n 0).filter (fun a => E a i)
def domL (E : Nat → Nat → Bool) (i : Nat) : List Nat := (List.range (i + 1)).filter (fun k => dm E k i)
theorem mem_reach {E : Nat → Nat → Bool} {n f i : Nat} : i ∈ reachL E n f ↔ i < n ∧ rb E f i = true := by unfold reachL; simp
theorem mem_ahead {E : Nat → Nat → Bool} {n i a : Nat} : a ∈ aheadL E n i ↔ a < n ∧ rb E 0 a = true ∧ E a i = true := by unfold aheadL; simp [mem_reach]; exact and_assoc
theorem mem_dom {E : Nat → Nat → Bool} {k i : Nat} : k ∈ domL E i ↔ k ≤ i ∧ dm E k i = true := by unfold domL; simp; omega
/-- the dominators but the last: the step's own; they are those of all ahead of it -/
theorem dom_snoc {E : Nat → Nat → Bool} (i : Nat) : domL E i = (List.range i).filter (fun k => dm E k i) ++ [i] := by
  unfold domL
  rw [List.range_succ, List.filter_append]
  simp [dm_self]
theorem dom_inter {E : Nat → Nat → Bool} (n : Nat) (hE : ∀ a b, E a b = true → a < b) {i a : Nat} {P : List Nat} (hP : aheadL E n i = a :: P) (h0 : 0 < i) (hin : i ≤ n) :
    (List.range i).filter (fun k => dm E k i) = P.foldl (fun l b => l.filter (fun x => decide (x ∈ domL E b))) (domL E a) := by
  have hmem : ∀ b ∈ a :: P, b < i ∧ rb E 0 b = true ∧ E b i = true := by
    intro b hb
    rw [← hP, mem_ahead] at hb
    exact ⟨hE b i hb.2.2, hb.2⟩
  have ha := hmem a (by simp)
  have e : ∀ (Q : List Nat) (l : List Nat), Q.foldl (fun l b => l.filter (fun x => decide (x ∈ domL E b))) l = l.filter (fun x => Q.all (fun b => decide (x ∈ domL E b))) := by
    intro Q
    induction Q with
    | nil => intro l; exact (List.filter_eq_self.2 (fun _ _ => rfl)).symm
    | cons b Q ih =>
      intro l
      rw [List.foldl_cons, ih, List.filter_filter]
      congr 1
      funext x
      rw [List.all_cons, Bool.and_comm]
  rw [e]
  unfold domL
  rw [List.filter_filter]
  have hr : List.range i = List.range (a + 1) ++ (List.range (i - (a + 1))).map (fun j => a + 1 + j) := by
    have : i = (a + 1) + (i - (a + 1)) := by omega
    conv => lhs; rw [this]
    rw [List.range_add]
  rw [hr, List.filter_append]
  have hnil : ((List.range (i - (a + 1))).map (fun j => a + 1 + j)).filter (fun k => dm E k i) = [] := by
    rw [List.filter_eq_nil_iff]
    intro k hk hd
    obtain ⟨j, hj, rfl⟩ := List.mem_map.1 hk
    rw [List.mem_range] at hj
    have h1 := dm_back hd (by omega) ha.1 ha.2.1 ha.2.2
    have := (dm_le a ha.2.1 h1).1
    omega
  rw [hnil, List.append_nil]
  apply List.filter_congr
  intro x hx
  rw [List.mem_range] at hx
  rw [Bool.eq_iff_iff]
  simp only [Bool.and_eq_true, List.all_eq_true, decide_eq_true_eq]
  constructor
  · intro hd
    have hne : x ≠ i := by omega
    refine ⟨fun b hb => ?_, dm_back hd hne ha.1 ha.2.1 ha.2.2⟩
    have hb' := hmem b (by simp [hb])
    have h1 := dm_back hd hne hb'.1 hb'.2.1 hb'.2.2
    have := mem_dom.2 ⟨(dm_le b hb'.2.1 h1).1, h1⟩
    exact this
  · rintro ⟨h1, h2⟩
    refine dm_iff.2 (.inr ⟨h0, fun b hb h3 h4 => ?_⟩)
    have hb' : b ∈ a :: P := by rw [← hP, mem_ahead]; exact ⟨by omega, h3, h4⟩
    rcases List.mem_cons.1 hb' with rfl | hb'
    · exact h2
    · exact (mem_dom.1 (h1 b hb')).2
/-- the number of ways to a step is the sum of those to the steps ahead of it -/
theorem wc_sum {E : Nat → Nat → Bool} (n : Nat) (hE : ∀ a b, E a b = true → a < b) {i : Nat} (h0 : 0 < i) (hin : i ≤ n) : ((aheadL E n i).map (wc E)).sum = wc E i := by
  have key : ∀ k, k ≤ n → (((List.range k).filter (fun a => rb E 0 a && E a i)).map (wc E)).sum = sumTo (fun a => if E a i then wc E a else 0) k := by
    intro k
    induction k with
    | zero => intro _; rfl
    | succ k ih =>
      intro hk
      rw [List.range_succ, List.filter_append, List.map_append, List.sum_append, ih (by omega)]
      simp only [sumTo]
      congr 1
      cases hr : rb E 0 k
      · have hz : wc E k = 0 := by
          rcases Nat.eq_zero_or_pos (wc E k) with h | h
          · exact h
          · rw [(wc_pos k).1 h] at hr; cases hr
        simp [hr, hz]
      · cases he : E k i <;> simp [hr, he]
  have e : aheadL E n i = (List.range n).filter (fun a => rb E 0 a && E a i) := by
    unfold aheadL reachL
    rw [List.filter_filter]
    congr 1
    funext a
    exact Bool.and_comm _ _
  have tail : ∀ k, i ≤ k → sumTo (fun a => if E a i then wc E a else 0) k = sumTo (fun a => if E a i then wc E a else 0) i := by
    intro k
    induction k with
    | zero => intro h; have : i = 0 := by omega
              omega
    | succ k ih =>
      intro h
      by_cases hk : i = k + 1
      · rw [hk]
      · simp only [sumTo]
        rw [ih (by omega)]
        have : E k i = false := by
          cases he : E k i
          · rfl
          · have := hE k i he; omega
        rw [this]; simp
  rw [e, key n (Nat.le_refl _), tail n hin, wc_eq E i, if_neg (by omega), Nat.zero_add]
/-- behind step 0 each reached step has a dominator before it, the last of which is the nearest -/
def nearN (E : Nat → Nat → Bool) (i : Nat) : Int := if rb E 0 i = true ∧ 0 < i then (((List.range i).filter (fun k => dm E k i)).getLastD 0 : Nat) else -1
theorem dom_two {E : Nat → Nat → Bool} {i : Nat} (h : rb E 0 i = true) (h0 : 0 < i) : 0 < ((List.range i).filter (fun k => dm E k i)).length := by
  have : 0 ∈ (List.range i).filter (fun k => dm E k i) := by simp [h0, dm_first i h]
  exact List.length_pos_of_mem this
theorem near_dom {E : Nat → Nat → Bool} {i : Nat} (h : rb E 0 i = true) (h0 : 0 < i) : (domL E i).length = ((List.range i).filter (fun k => dm E k i)).length + 1 ∧ ∃ d : Nat, (domL E i)[(domL E i).length - 2]? = some d ∧ nearN E i = (d : Int) := by
  have hp := dom_two h h0
  rw [dom_snoc]
  obtain ⟨D, hD⟩ : ∃ D, (List.range i).filter (fun k => dm E k i) = D := ⟨_, rfl⟩
  unfold nearN
  rw [hD] at hp ⊢
  rw [if_pos ⟨h, h0⟩]
  refine ⟨by simp, D[D.length - 1], ?_, ?_⟩
  · rw [List.length_append, List.length_singleton, show D.length + 1 - 2 = D.length - 1 by omega, List.getElem?_append_left (by omega)]
    exact List.getElem?_eq_getElem (by omega)
  · congr 1
    rw [List.getLastD_eq_getLast?, List.getLast?_eq_getElem?, List.getElem?_eq_getElem (by omega)]
    rfl
theorem dom_zero (E : Nat → Nat → Bool) : domL E 0 = [0] := by rw [dom_snoc]; rfl
end Go.Proofs.Ytbmmajdacebncaa
