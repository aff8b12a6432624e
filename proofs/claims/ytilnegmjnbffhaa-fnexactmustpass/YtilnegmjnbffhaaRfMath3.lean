/-
  Dominators: they lie in a line; the nearest one; what the program's loop over the arcs holds. Plain mathematics.
-/
import Derived.Test.YtilnegmjnbffhaaRfLead
namespace Go.Proofs.Ytilnegmjnbffhaa
open Go.ChangeShapes Go.WideShapes Go.ChangeAt Go.RowKit

theorem dm_lin {E : Nat → Nat → Bool} {k d : Nat} : ∀ (a : Nat), rb E 0 a = true → dm E k a = true → dm E d a = true → k ≤ d → dm E k d = true := by
  intro a
  induction a using Nat.strongRecOn with
  | ind a ih =>
    intro hr hk hd hle
    by_cases e : d = a
    · subst e; exact hk
    · have hda := (dm_le a hr hd).1
      obtain ⟨p, hp, hrp, he⟩ := rb_pred hr (by omega)
      exact ih p hp hrp (dm_back hk (by omega) hp hrp he) (dm_back hd e hp hrp he) hle
theorem dm_trans {E : Nat → Nat → Bool} {k d : Nat} : ∀ (a : Nat), rb E 0 a = true → dm E k d = true → dm E d a = true → dm E k a = true := by
  intro a
  induction a using Nat.strongRecOn with
  | ind a ih =>
    intro hr hk hd
    by_cases e : d = a
    · subst e; exact hk
    · have hda := (dm_le a hr hd).1
      refine dm_iff.2 (.inr ⟨by omega, fun p hp hrp he => ?_⟩)
      exact ih p hp hrp hk (dm_back hd e hp hrp he)
/-- the nearest dominator, by what dominates it -/
theorem near_char {E : Nat → Nat → Bool} {i : Nat} (h : rb E 0 i = true) (h0 : 0 < i) : ∃ d : Nat, nearN E i = (d : Int) ∧ d < i ∧ rb E 0 d = true ∧ ∀ k, dm E k d = true ↔ (dm E k i = true ∧ k ≠ i) := by
  have h2 := dom_two h h0
  have hne : (List.range i).filter (fun k => dm E k i) ≠ [] := List.length_pos_iff.1 h2
  obtain ⟨d, hd⟩ : ∃ d, ((List.range i).filter (fun k => dm E k i)).getLast hne = d := ⟨_, rfl⟩
  have hmem : d ∈ (List.range i).filter (fun k => dm E k i) := by rw [← hd]; exact List.getLast_mem hne
  rw [List.mem_filter, List.mem_range] at hmem
  have hmax : ∀ k, k ∈ (List.range i).filter (fun k => dm E k i) → k ≤ d := by
    intro k hk
    have hs := (filter_sorted i (fun k => dm E k i))
    rw [← List.dropLast_concat_getLast hne, hd] at hs hk
    rw [List.pairwise_append] at hs
    rcases List.mem_append.1 hk with q | q
    · exact Nat.le_of_lt (hs.2.2 k q d (by simp))
    · rw [List.mem_singleton] at q; omega
  refine ⟨d, ?_, hmem.1, (dm_le i h hmem.2).2, fun k => ?_⟩
  · unfold nearN
    rw [if_pos ⟨h, h0⟩]
    congr 1
    rw [List.getLastD_eq_getLast?, List.getLast?_eq_some_getLast hne, hd]
    rfl
  · constructor
    · intro hk
      have := (dm_le d (dm_le i h hmem.2).2 hk).1
      exact ⟨dm_trans i h hk hmem.2, by omega⟩
    · rintro ⟨hk, hne2⟩
      have hki := (dm_le i h hk).1
      exact dm_lin i h hk hmem.2 (hmax k (by rw [List.mem_filter, List.mem_range]; exact ⟨by omega, hk⟩))
theorem near_none {E : Nat → Nat → Bool} {i : Nat} (h : ¬ (rb E 0 i = true ∧ 0 < i)) : nearN E i = -1 := by unfold nearN; rw [if_neg h]
/-- what lies in a line ends alike -/
theorem same_dom {E : Nat → Nat → Bool} {u v : Nat} (hu : rb E 0 u = true) (hv : rb E 0 v = true) (h : ∀ k, dm E k u = true ↔ dm E k v = true) : u = v := by
  have h1 := (dm_le v hv ((h u).1 (dm_self E u))).1
  have h2 := (dm_le u hu ((h v).2 (dm_self E v))).1
  omega
/-- r is the last that a and b have in common -/
def LastC (E : Nat → Nat → Bool) (a b r : Nat) : Prop := rb E 0 r = true ∧ ∀ k, dm E k r = true ↔ (dm E k a = true ∧ dm E k b = true)
theorem last_step {E : Nat → Nat → Bool} {a b d r : Nat} (hb : rb E 0 b = true) (hba : b < a) (hd : ∀ k, dm E k d = true ↔ (dm E k a = true ∧ k ≠ a)) (h : LastC E d b r) : LastC E a b r := by
  refine ⟨h.1, fun k => ?_⟩
  rw [h.2 k, hd k]
  constructor
  · rintro ⟨⟨h1, _⟩, h2⟩; exact ⟨h1, h2⟩
  · rintro ⟨h1, h2⟩
    have := (dm_le b hb h2).1
    exact ⟨⟨h1, by omega⟩, h2⟩
theorem LastC.comm {E : Nat → Nat → Bool} {a b r : Nat} (h : LastC E a b r) : LastC E b a r := ⟨h.1, fun k => by rw [h.2 k]; exact And.comm⟩
theorem last_ex (E : Nat → Nat → Bool) : ∀ (m a b : Nat), a + b ≤ m → rb E 0 a = true → rb E 0 b = true → ∃ r, LastC E a b r
  | m, a, b, hm, ha, hb => by
    rcases Nat.lt_trichotomy a b with h | h | h
    · obtain ⟨d, _, hd, hr, hc⟩ := near_char hb (by omega)
      match m, hm with
      | 0, hm => omega
      | m + 1, hm =>
        obtain ⟨r, q⟩ := last_ex E m d a (by omega) hr ha
        exact ⟨r, (last_step ha h hc q).comm⟩
    · subst h; exact ⟨a, ha, fun k => by simp⟩
    · obtain ⟨d, _, hd, hr, hc⟩ := near_char ha (by omega)
      match m, hm with
      | 0, hm => omega
      | m + 1, hm =>
        obtain ⟨r, q⟩ := last_ex E m d b (by omega) hr hb
        exact ⟨r, last_step hb h hc q⟩
theorem LastC.unique {E : Nat → Nat → Bool} {a b r s : Nat} (h : LastC E a b r) (k : LastC E a b s) : r = s := same_dom h.1 k.1 (fun q => by rw [h.2 q, k.2 q])
theorem LastC.le {E : Nat → Nat → Bool} {a b r : Nat} (ha : rb E 0 a = true) (h : LastC E a b r) : r ≤ a := (dm_le a ha ((h.2 r).1 (dm_self E r)).1).1
/-- the arcs come by the steps that they leave -/
theorem arcs_sorted (l : KT) : (arcsI l).Pairwise (fun p q => p.1 ≤ q.1) := by
  have h1 : ∀ (t : List Int), t.Pairwise (· < ·) → (arcsOf l t).Pairwise (fun p q => p.1 ≤ q.1) := by
    intro t
    induction t with
    | nil => intro _; exact List.Pairwise.nil
    | cons a t ih =>
      intro hs
      have hs' := List.pairwise_cons.1 hs
      unfold arcsOf at ih ⊢
      rw [List.flatMap_cons, List.pairwise_append]
      have hA : ∀ (b : Int) p, p ∈ arcA l b → p.1 = b := by
        intro b p hp
        unfold arcA at hp
        split at hp
        · obtain ⟨y, _, rfl⟩ := List.mem_map.1 hp; rfl
        · simp at hp
      refine ⟨?_, ih hs'.2, fun p hp q hq => ?_⟩
      · apply List.pairwise_of_forall_mem_list
        intro p hp q hq
        rw [hA a p hp, hA a q hq]; exact Int.le_refl _
      · obtain ⟨b, hb, hqb⟩ := List.mem_flatMap.1 hq
        rw [hA a p hp, hA b q hqb]
        exact Int.le_of_lt (hs'.1 b hb)
  exact h1 _ (castL_sorted (filter_sorted _ _))
theorem arcs_all {l : KT} (g : GoodKT l) {a b : Nat} (ha : rb (edg l) 0 a = true) (hb : edg l a b = true) : ((a : Int), (b : Int)) ∈ arcsI l := by
  obtain ⟨x, hx, hm⟩ := edg_some hb
  unfold arcsI arcsOf
  refine List.mem_flatMap.2 ⟨(a : Int), castL_mem'.2 (mem_reach.2 ⟨(edg_lt g hb).1, ha⟩), ?_⟩
  rw [arcA_at hx]
  exact List.mem_map.2 ⟨(b : Int), hm, rfl⟩
/-- what the row of nearest dominators holds when these arcs have been taken -/
def NI (l : KT) (t : List (Int × Int)) (f : Nat → Int) : Prop :=
  ∀ j, j < l.length → ((∀ p : Nat, ((p : Int), (j : Int)) ∉ t) → f j = -1) ∧
    ((∃ p : Nat, ((p : Int), (j : Int)) ∈ t) → ∃ v : Nat, f j = (v : Int) ∧ v < j ∧ rb (edg l) 0 v = true ∧ ∀ k, dm (edg l) k v = true ↔ ∀ p : Nat, ((p : Int), (j : Int)) ∈ t → dm (edg l) k p = true)
theorem ni_start (l : KT) : NI l [] (fun _ => -1) := fun j _ => ⟨fun _ => rfl, fun ⟨p, hp⟩ => by simp at hp⟩
theorem arcs_in {l : KT} (g : GoodKT l) {t r : List (Int × Int)} (h : arcsI l = t ++ r) {p j : Nat} (hp : ((p : Int), (j : Int)) ∈ t) : p < j ∧ j < l.length ∧ edg l p j = true ∧ rb (edg l) 0 p = true := by
  obtain ⟨t1, t2, ht⟩ := List.append_of_mem hp
  obtain ⟨a, b, e, h1, h2, h3, h4⟩ := arcs_mem g (t := t1) (r := t2 ++ r) (p := ((p : Int), (j : Int))) (by rw [h, ht]; simp)
  simp only [Prod.mk.injEq] at e
  have e1 : p = a := by omega
  have e2 : j = b := by omega
  subst e1 e2
  exact ⟨h1, h2, h3, h4⟩
/-- a step whose arcs have all been taken -/
theorem ni_fin {l : KT} (g : GoodKT l) {t r : List (Int × Int)} {f : Nat → Int} (h : arcsI l = t ++ r) (hf : NI l t f) {j : Nat} (hj : j < l.length) (hall : ∀ p : Nat, rb (edg l) 0 p = true → edg l p j = true → ((p : Int), (j : Int)) ∈ t) : f j = nearN (edg l) j := by
  by_cases q : rb (edg l) 0 j = true ∧ 0 < j
  · obtain ⟨p, hpj, hpr, hpe⟩ := rb_pred q.1 q.2
    obtain ⟨v, hv, hvj, hvr, hc⟩ := (hf j hj).2 ⟨p, hall p hpr hpe⟩
    obtain ⟨d, hd, hdj, hdr, hdc⟩ := near_char q.1 q.2
    rw [hv, hd]
    congr 1
    refine same_dom hvr hdr (fun k => ?_)
    rw [hc k, hdc k]
    constructor
    · intro hk
      have hkp := hk p (hall p hpr hpe)
      have := (dm_le p hpr hkp).1
      exact ⟨dm_iff.2 (.inr ⟨q.2, fun a _ har hae => hk a (hall a har hae)⟩), by omega⟩
    · rintro ⟨hk, hne⟩ a ha
      obtain ⟨h1, _, h3, h4⟩ := arcs_in g h ha
      exact dm_back hk hne h1 h4 h3
  · rw [near_none q]
    refine (hf j hj).1 (fun p hp => q ?_)
    obtain ⟨h1, _, h3, h4⟩ := arcs_in g h hp
    exact ⟨rb_step h1 h4 h3, by omega⟩
theorem ni_done {l : KT} (g : GoodKT l) {t r : List (Int × Int)} {f : Nat → Int} {a d : Nat} (h : arcsI l = t ++ ((a : Int), (d : Int)) :: r) (hf : NI l t f) {j : Nat} (hj : j ≤ a) : f j = nearN (edg l) j := by
  obtain ⟨h1, h2, h3, h4⟩ := arcs_in (p := a) (j := d) (t := t ++ [((a : Int), (d : Int))]) (r := r) g (by rw [h]; simp) (by simp)
  refine ni_fin g h hf (by omega) (fun p hp he => ?_)
  have hm := arcs_all g hp he
  have hpj := edg_fwd g _ _ he
  rw [h] at hm
  have hs := arcs_sorted l
  rw [h, List.pairwise_append, List.pairwise_cons] at hs
  rcases List.mem_append.1 hm with q | q
  · exact q
  · rcases List.mem_cons.1 q with q | q
    · simp only [Prod.mk.injEq] at q; omega
    · have := hs.2.1.1 _ q; simp only at this; omega
theorem ni_first {l : KT} (g : GoodKT l) {t r : List (Int × Int)} {f : Nat → Int} {a d : Nat} (h : arcsI l = t ++ ((a : Int), (d : Int)) :: r) (hf : NI l t f) (hd : f d = -1) : NI l (t ++ [((a : Int), (d : Int))]) (fun j => if j = d then (a : Int) else f j) := by
  obtain ⟨h1, h2, h3, h4⟩ := arcs_in (p := a) (j := d) (t := t ++ [((a : Int), (d : Int))]) (r := r) g (by rw [h]; simp) (by simp)
  have hno : ∀ p : Nat, ((p : Int), (d : Int)) ∉ t := fun p hp => by
    obtain ⟨v, hv, _⟩ := (hf d h2).2 ⟨p, hp⟩
    rw [hv] at hd; omega
  intro j hj
  by_cases e : j = d
  · subst e
    refine ⟨fun q => absurd (by simp) (q a), fun _ => ⟨a, by simp, h1, h4, fun k => ?_⟩⟩
    constructor
    · intro hk p hp
      rcases List.mem_append.1 hp with q | q
      · exact absurd q (hno p)
      · have e : p = a := by simp at q; omega
        subst e; exact hk
    · intro hk; exact hk a (by simp)
  · have hiff : ∀ p : Nat, ((p : Int), (j : Int)) ∈ t ++ [((a : Int), (d : Int))] ↔ ((p : Int), (j : Int)) ∈ t := fun p => by
      rw [List.mem_append, List.mem_singleton]
      constructor
      · rintro (q | q)
        · exact q
        · simp only [Prod.mk.injEq] at q; omega
      · exact .inl
    simp only [hiff, if_neg e]
    exact hf j hj
theorem ni_more {l : KT} (g : GoodKT l) {t r : List (Int × Int)} {f : Nat → Int} {a d v c : Nat} (h : arcsI l = t ++ ((a : Int), (d : Int)) :: r) (hf : NI l t f) (hd : f d = (v : Int)) (hc : LastC (edg l) v a c) : NI l (t ++ [((a : Int), (d : Int))]) (fun j => if j = d then (c : Int) else f j) := by
  obtain ⟨h1, h2, h3, h4⟩ := arcs_in (p := a) (j := d) (t := t ++ [((a : Int), (d : Int))]) (r := r) g (by rw [h]; simp) (by simp)
  intro j hj
  by_cases e : j = d
  · subst e
    have hex : ∃ p : Nat, ((p : Int), (j : Int)) ∈ t := by
      rcases Classical.em (∃ p : Nat, ((p : Int), (j : Int)) ∈ t) with q | q
      · exact q
      · have := (hf j h2).1 (fun p hp => q ⟨p, hp⟩); rw [hd] at this; omega
    obtain ⟨v', hv', _, hvr, hvc⟩ := (hf j h2).2 hex
    have ev : v' = v := by rw [hd] at hv'; omega
    subst ev
    have hca := hc.comm.le h4
    refine ⟨fun q => absurd (by simp) (q a), fun _ => ⟨c, by simp, by omega, hc.1, fun k => ?_⟩⟩
    rw [hc.2 k, hvc k]
    constructor
    · rintro ⟨q1, q2⟩ p hp
      rcases List.mem_append.1 hp with q | q
      · exact q1 p q
      · have e : p = a := by simp at q; omega
        subst e; exact q2
    · intro q
      exact ⟨fun p hp => q p (by simp [hp]), q a (by simp)⟩
  · have hiff : ∀ p : Nat, ((p : Int), (j : Int)) ∈ t ++ [((a : Int), (d : Int))] ↔ ((p : Int), (j : Int)) ∈ t := fun p => by
      rw [List.mem_append, List.mem_singleton]
      constructor
      · rintro (q | q)
        · exact q
        · simp only [Prod.mk.injEq] at q; omega
      · exact .inl
    simp only [hiff, if_neg e]
    exact hf j hj
theorem ni_reached {l : KT} (g : GoodKT l) {t r : List (Int × Int)} {f : Nat → Int} (h : arcsI l = t ++ r) (hf : NI l t f) {d : Nat} (hd : d < l.length) (hne : f d ≠ -1) : ∃ v : Nat, f d = (v : Int) ∧ rb (edg l) 0 v = true ∧ ∃ p : Nat, p < d ∧ rb (edg l) 0 p = true ∧ v ≤ p ∧ ((p : Int), (d : Int)) ∈ t := by
  rcases Classical.em (∃ p : Nat, ((p : Int), (d : Int)) ∈ t) with q | q
  · obtain ⟨v, hv, _, hvr, hc⟩ := (hf d hd).2 q
    obtain ⟨p, hp⟩ := q
    obtain ⟨h1, _, _, h4⟩ := arcs_in g h hp
    exact ⟨v, hv, hvr, p, h1, h4, (dm_le p h4 ((hc v).1 (dm_self _ v) p hp)).1, hp⟩
  · exact absurd ((hf d hd).1 (fun p hp => q ⟨p, hp⟩)) hne
theorem ni_end {l : KT} (g : GoodKT l) {f : Nat → Int} (hf : NI l (arcsI l) f) {j : Nat} (hj : j < l.length) : f j = nearN (edg l) j :=
  ni_fin g (t := arcsI l) (r := []) (by simp) hf hj (fun _ hp he => arcs_all g hp he)
/-- one step up the chain -/
theorem dom_up {E : Nat → Nat → Bool} {i d : Nat} (hr : rb E 0 i = true) (hdi : d < i) (hd : ∀ k, dm E k d = true ↔ (dm E k i = true ∧ k ≠ i)) (hrd : rb E 0 d = true) : domL E i = domL E d ++ [i] := by
  rw [dom_snoc]
  congr 1
  unfold domL
  apply castL_ext
  intro k
  rw [List.mem_filter, List.mem_filter, List.mem_range, List.mem_range]
  constructor
  · rintro ⟨h1, h2⟩
    have h3 := (hd k).2 ⟨h2, by omega⟩
    have := (dm_le d hrd h3).1
    exact ⟨by omega, h3⟩
  · rintro ⟨h1, h2⟩
    have h3 := (hd k).1 h2
    have := (dm_le i hr h3.1).1
    exact ⟨by omega, h3.1⟩
end Go.Proofs.Ytilnegmjnbffhaa
