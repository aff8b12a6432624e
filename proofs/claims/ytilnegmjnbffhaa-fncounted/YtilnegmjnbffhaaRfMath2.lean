/-
  What the program's loops over the arcs and the steps hold: the steps ahead, the leaders, the numbers of ways. Plain mathematics.
-/
import Derived.Test.YtilnegmjnbffhaaRfEnds
namespace Go.Proofs.Ytilnegmjnbffhaa
open Go.ChangeShapes Go.WideShapes Go.ChangeAt Go.RowKit

theorem nx_once {k t a b : Int} (h : k = 9 ∨ k = 10 → t ≠ 0) : (nxI k t a).filter (fun y => decide (y = b)) = if b ∈ nxI k t a then [b] else [] := by
  unfold nxI
  split
  · simp
  · split
    · by_cases e : a + t + 1 = b
      · simp [e]
      · have : ¬ b = a + t + 1 := fun q => e q.symm
        simp [e, this]
    · split
      · rename_i h9
        have ht := h h9
        by_cases e1 : a + 1 = b
        · have e2 : ¬ a + t + 1 = b := by omega
          simp [e1, e2]
        · by_cases e2 : a + t + 1 = b
          · simp [e1, e2]
          · have q1 : ¬ b = a + 1 := fun q => e1 q.symm
            have q2 : ¬ b = a + t + 1 := fun q => e2 q.symm
            simp [e1, e2, q1, q2]
      · by_cases e : a + 1 = b
        · simp [e]
        · have : ¬ b = a + 1 := fun q => e q.symm
          simp [e, this]
theorem ahead_one {l : KT} (g : GoodKT l) {a at_ : Nat} {x : Int × Int} (hx : l[a]? = some x) : ((arcA l a).filter (fun p => decide (p.2 = (at_ : Int)))).map Prod.fst = if edg l a at_ then [(a : Int)] else [] := by
  have hz : x.1 = 9 ∨ x.1 = 10 → x.2 ≠ 0 := fun h => (g a x hx).1.2.2 (.inr h)
  rw [arcA_at hx, List.filter_map, List.map_map]
  have e : (nxI x.1 x.2 a).filter ((fun p : Int × Int => decide (p.2 = (at_ : Int))) ∘ fun y => ((a : Int), y)) = (nxI x.1 x.2 a).filter (fun y => decide (y = (at_ : Int))) := rfl
  rw [e, nx_once hz]
  have h := edg_iff hx (b := at_)
  by_cases q : (at_ : Int) ∈ nxI x.1 x.2 a
  · rw [if_pos q, if_pos (h.2 q)]; rfl
  · rw [if_neg q, if_neg (fun r => q (h.1 r))]; rfl
theorem ahead_of {l : KT} (g : GoodKT l) (at_ : Nat) : ∀ (t : List Nat), (∀ a ∈ t, a < l.length) → ((arcsOf l (castL t)).filter (fun p => decide (p.2 = (at_ : Int)))).map Prod.fst = castL (t.filter (fun a => edg l a at_))
  | [], _ => rfl
  | a :: t, h => by
    have ha := h a (by simp)
    have ih := ahead_of g at_ t (fun b hb => h b (by simp [hb]))
    unfold arcsOf at ih ⊢
    have ec : castL (a :: t) = (a : Int) :: castL t := rfl
    rw [ec, List.flatMap_cons, List.filter_append, List.map_append, ih, ahead_one g (List.getElem?_eq_getElem ha), List.filter_cons]
    by_cases q : edg l a at_ = true
    · rw [if_pos q, if_pos q]; rfl
    · rw [if_neg q, if_neg q]; rfl
theorem ahead_eq {l : KT} (g : GoodKT l) (at_ : Nat) : ((arcsI l).filter (fun p => decide (p.2 = (at_ : Int)))).map Prod.fst = castL (aheadL (edg l) l.length at_) :=
  ahead_of g at_ _ (fun _ ha => (mem_reach.1 ha).1)
/-- the numbers of ways, when these arcs have been taken -/
def wayF : List (Int × Int) → Nat → Nat
  | t => t.foldl (fun f p j => if j = p.2.toNat then f j + f p.1.toNat else f j) (fun j => if j = 0 then 1 else 0)
theorem wayF_snoc (t : List (Int × Int)) (p : Int × Int) (j : Nat) : wayF (t ++ [p]) j = if j = p.2.toNat then wayF t j + wayF t p.1.toNat else wayF t j := by unfold wayF; rw [List.foldl_append]; rfl
theorem wayF_le1 (t : List (Int × Int)) (p : Int × Int) (j : Nat) : wayF t j ≤ wayF (t ++ [p]) j := by
  rw [wayF_snoc]
  split <;> omega
theorem wayF_le (j : Nat) : ∀ (r t : List (Int × Int)), wayF t j ≤ wayF (t ++ r) j
  | [], t => by simp
  | p :: r, t => by
    have h1 := wayF_le1 t p j
    have h2 := wayF_le j r (t ++ [p])
    rw [List.append_assoc] at h2
    exact Nat.le_trans h1 h2
theorem way_many (m : Nat) : ∀ (ys : List Int) (t : List (Int × Int)), (∀ y ∈ ys, (m : Int) < y) → ys.Nodup → ∀ j : Nat, wayF (t ++ ys.map (fun y => ((m : Int), y))) j = wayF t j + if (j : Int) ∈ ys then wayF t m else 0
  | [], t, _, _, j => by simp
  | y :: ys, t, h, hd, j => by
    have hy := h y (by simp)
    have hd' := List.nodup_cons.1 hd
    have ih := way_many m ys (t ++ [((m : Int), y)]) (fun z hz => h z (by simp [hz])) hd'.2 j
    rw [List.append_assoc] at ih
    have em : wayF (t ++ [((m : Int), y)]) m = wayF t m := by rw [wayF_snoc, if_neg (by simp only; omega)]
    rw [em, wayF_snoc] at ih
    simp only [Int.toNat_natCast] at ih
    rw [List.map_cons]
    rw [show t ++ ((m : Int), y) :: ys.map (fun y => ((m : Int), y)) = t ++ ([((m : Int), y)] ++ ys.map (fun y => ((m : Int), y))) from rfl, ih]
    by_cases e : (j : Int) = y
    · have e2 : j = y.toNat := by omega
      have e3 : ¬ (j : Int) ∈ ys := by rw [e]; exact hd'.1
      rw [if_pos e2, if_neg e3, if_pos (by simp [e]), Nat.add_zero]
    · have e2 : ¬ j = y.toNat := by omega
      rw [if_neg e2]
      by_cases e3 : (j : Int) ∈ ys
      · rw [if_pos e3, if_pos (by simp [e3])]
      · rw [if_neg e3, if_neg (by simp [e, e3])]
theorem nx_nodup {l : KT} (g : GoodKT l) {a : Nat} {x : Int × Int} (hx : l[a]? = some x) : (nxI x.1 x.2 a).Nodup := by
  have hz : x.1 = 9 ∨ x.1 = 10 → x.2 ≠ 0 := fun h => (g a x hx).1.2.2 (.inr h)
  unfold nxI
  split
  · simp
  · split
    · simp
    · split
      · rename_i h9
        have := hz h9
        simp; omega
      · simp
theorem nx_gt {l : KT} (g : GoodKT l) {a : Nat} {x : Int × Int} (hx : l[a]? = some x) : ∀ y ∈ nxI x.1 x.2 a, (a : Int) < y := by
  intro y hy
  obtain ⟨b, rfl, hb, _⟩ := nx_nat g hx hy
  have := edg_fwd g _ _ hb
  omega
theorem way_bef {l : KT} (g : GoodKT l) : ∀ (m : Nat), m ≤ l.length → ∀ j : Nat, wayF (arcsOf l (castL (befL (edg l) 0 m))) j = wp (edg l) m j
  | 0, _, j => by rw [wp_start]; rfl
  | m + 1, h, j => by
    have ih := way_bef g m (by omega)
    rw [wp_step]
    cases q : rb (edg l) 0 m
    · rw [bef_no q, ih j]
      have : wc (edg l) m = 0 := by
        rcases Nat.eq_zero_or_pos (wc (edg l) m) with h | h
        · exact h
        · have := (wc_pos m).1 h; rw [q] at this; cases this
      rw [this]; simp
    · have hx : l[m]? = some l[m] := List.getElem?_eq_getElem (by omega)
      rw [bef_yes q, castL_app]
      have ec : castL [m] = [(m : Int)] := rfl
      rw [ec, arcsOf_snoc, arcA_at hx, way_many m _ _ (nx_gt g hx) (nx_nodup g hx), ih j, ih m, wp_at]
      have hm := edg_iff hx (b := j)
      by_cases e : (j : Int) ∈ nxI l[m].1 l[m].2 m
      · rw [if_pos e, if_pos (hm.2 e)]
      · rw [if_neg e, if_neg (fun r => e (hm.1 r))]
theorem way_end {l : KT} (g : GoodKT l) {j : Nat} (hj : j ≤ l.length) : wayF (arcsI l) j = wc (edg l) j := by
  unfold arcsI
  rw [← bef_all, way_bef g l.length (Nat.le_refl _), wp_end (edg_fwd g) hj]
theorem way_small {l : KT} (g : GoodKT l) (h20 : l.length ≤ 20) {t r : List (Int × Int)} (h : arcsI l = t ++ r) {j : Nat} (hj : j < l.length) : wayF t j ≤ 1048576 := by
  have h1 := wayF_le j r t
  rw [← h, way_end g (by omega)] at h1
  have h2 := wc_le (E := edg l) j
  have h3 : 2 ^ j ≤ 2 ^ 20 := Nat.pow_le_pow_right (by omega) (by omega)
  have : (2 : Nat) ^ 20 = 1048576 := by decide
  omega
theorem arcs_mem {l : KT} (g : GoodKT l) {t r : List (Int × Int)} {p : Int × Int} (h : arcsI l = t ++ p :: r) : ∃ a b : Nat, p = ((a : Int), (b : Int)) ∧ a < b ∧ b < l.length ∧ edg l a b = true ∧ rb (edg l) 0 a = true := by
  have hm : p ∈ arcsI l := by rw [h]; simp
  unfold arcsI arcsOf at hm
  obtain ⟨x, hx, hp⟩ := List.mem_flatMap.1 hm
  obtain ⟨a, ha, rfl⟩ := castL_mem.1 hx
  obtain ⟨han, har⟩ := mem_reach.1 ha
  have hl : l[a]? = some l[a] := List.getElem?_eq_getElem han
  rw [arcA_at hl] at hp
  obtain ⟨y, hy, rfl⟩ := List.mem_map.1 hp
  obtain ⟨b, rfl, hb, hbn⟩ := nx_nat g hl hy
  exact ⟨a, b, rfl, edg_fwd g _ _ hb, hbn, hb, har⟩
/-- the leaders' loop: what is marked, and the leaders so far -/
def ldF (l : KT) (t : List Int) : (Nat → Bool) × List Int :=
  t.foldl (fun st a => (fun j => st.1 j || (decide (ttA l a.toNat ≠ 0) && (decide ((j : Int) = a + 1) || decide ((j : Int) = a + ttA l a.toNat + 1))), if st.1 a.toNat then st.2 ++ [a] else st.2)) (fun j => decide (j = 0), [])
theorem ldF_snoc (l : KT) (t : List Int) (a : Int) : ldF l (t ++ [a]) = (fun j => (ldF l t).1 j || (decide (ttA l a.toNat ≠ 0) && (decide ((j : Int) = a + 1) || decide ((j : Int) = a + ttA l a.toNat + 1))), if (ldF l t).1 a.toNat then (ldF l t).2 ++ [a] else (ldF l t).2) := by
  unfold ldF; rw [List.foldl_append]; rfl
theorem ld_len (l : KT) (t : List Int) : (ldF l t).2.length ≤ t.length := by
  have : ∀ (t : List Int) (st : (Nat → Bool) × List Int), (t.foldl (fun (st : (Nat → Bool) × List Int) a => (fun j => st.1 j || (decide (ttA l a.toNat ≠ 0) && (decide ((j : Int) = a + 1) || decide ((j : Int) = a + ttA l a.toNat + 1))), if st.1 a.toNat then st.2 ++ [a] else st.2)) st).2.length ≤ st.2.length + t.length := by
    intro t
    induction t with
    | nil => intro st; simp
    | cons a t ih =>
      intro st
      rw [List.foldl_cons]
      refine Nat.le_trans (ih _) ?_
      simp only [List.length_cons]
      split
      · simp; omega
      · omega
  have h := this t (fun j => decide (j = 0), [])
  simpa [ldF] using h
theorem ld_marks (l : KT) (t : List Int) (j : Nat) : (ldF l t).1 j = true ↔ j = 0 ∨ ∃ a ∈ t, ttA l a.toNat ≠ 0 ∧ ((j : Int) = a + 1 ∨ (j : Int) = a + ttA l a.toNat + 1) := by
  have : ∀ (t : List Int) (st : (Nat → Bool) × List Int), (t.foldl (fun (st : (Nat → Bool) × List Int) a => (fun j => st.1 j || (decide (ttA l a.toNat ≠ 0) && (decide ((j : Int) = a + 1) || decide ((j : Int) = a + ttA l a.toNat + 1))), if st.1 a.toNat then st.2 ++ [a] else st.2)) st).1 j = true ↔ st.1 j = true ∨ ∃ a ∈ t, ttA l a.toNat ≠ 0 ∧ ((j : Int) = a + 1 ∨ (j : Int) = a + ttA l a.toNat + 1) := by
    intro t
    induction t with
    | nil => intro st; simp
    | cons a t ih =>
      intro st
      rw [List.foldl_cons, ih]
      simp only [Bool.or_eq_true, Bool.and_eq_true, decide_eq_true_eq, List.mem_cons]
      constructor
      · rintro ((h | h) | ⟨b, hb, h⟩)
        · exact .inl h
        · exact .inr ⟨a, .inl rfl, h⟩
        · exact .inr ⟨b, .inr hb, h⟩
      · rintro (h | ⟨b, rfl | hb, h⟩)
        · exact .inl (.inl h)
        · exact .inl (.inr h)
        · exact .inr ⟨b, hb, h⟩
  rw [show (ldF l t).1 j = (t.foldl _ ((fun j => decide (j = 0)), ([] : List Int))).1 j from rfl, this]
  simp
theorem lead_reached {l : KT} (g : GoodKT l) {m : Nat} (h : m ∈ leadL l) : rb (edg l) 0 m = true := by
  obtain ⟨_, h1 | ⟨k, hk, h1, h2 | h2⟩⟩ := mem_lead.1 h
  · subst h1; exact rb_self _ _
  · obtain ⟨b, hb, _, he⟩ := jump_to g h1
    have : m = b := by omega
    subst this
    exact rb_step (edg_fwd g _ _ he) (mem_reach.1 hk).2 he
  · exact h2.2
theorem ld_bef {l : KT} (g : GoodKT l) : ∀ (m : Nat), m ≤ l.length → (ldF l (castL (befL (edg l) 0 m))).2 = castL ((List.range m).filter (fun i => decide (i ∈ leadL l)))
  | 0, _ => rfl
  | m + 1, h => by
    have ih := ld_bef g m (by omega)
    rw [List.range_succ, List.filter_append]
    cases q : rb (edg l) 0 m
    · have hn : ¬ m ∈ leadL l := fun r => by rw [lead_reached g r] at q; cases q
      rw [bef_no q, ih]
      simp [hn]
    · rw [bef_yes q, castL_app]
      have ec : castL [m] = [(m : Int)] := rfl
      rw [ec, ldF_snoc, Int.toNat_natCast, ih]
      have hm := ld_marks l (castL (befL (edg l) 0 m)) m
      have hiff : (ldF l (castL (befL (edg l) 0 m))).1 m = true ↔ m ∈ leadL l := by
        rw [hm]
        unfold leadL
        rw [mem_lead]
        constructor
        · rintro (h0 | ⟨a, ha, h1, h2⟩)
          · exact ⟨by omega, .inl h0⟩
          · obtain ⟨k, hk, rfl⟩ := castL_mem.1 ha
            rw [Int.toNat_natCast] at h1 h2
            have hk2 : k ∈ reachL (edg l) l.length 0 := by unfold befL at hk; rw [List.mem_filter, List.mem_range] at hk; exact mem_reach.2 ⟨by omega, hk.2⟩
            refine ⟨by omega, .inr ⟨k, hk2, h1, ?_⟩⟩
            rcases h2 with h2 | h2
            · exact .inr ⟨by omega, q⟩
            · exact .inl h2
        · rintro ⟨_, h0 | ⟨k, hk, h1, h2⟩⟩
          · exact .inl h0
          · refine .inr ⟨(k : Int), castL_mem'.2 ?_, by rw [Int.toNat_natCast]; exact h1, ?_⟩
            · obtain ⟨b, hb, _, he⟩ := jump_to g h1
              have := edg_fwd g _ _ he
              unfold befL
              rw [List.mem_filter, List.mem_range]
              exact ⟨by omega, (mem_reach.1 hk).2⟩
            · rw [Int.toNat_natCast]
              rcases h2 with h2 | h2
              · exact .inr h2
              · exact .inl (by omega)
      by_cases e : m ∈ leadL l
      · rw [if_pos (hiff.2 e), castL_app]
        simp [e, castL]
      · rw [if_neg (fun r => e (hiff.1 r)), castL_app]
        simp [e, castL]
theorem ld_end {l : KT} (g : GoodKT l) : (ldF l (castL (reachL (edg l) l.length 0))).2 = castL (leadL l) := by
  rw [← bef_all, ld_bef g _ (Nat.le_refl _)]
  congr 1
  unfold leadL leadQ
  apply castL_ext
  intro i
  simp only [List.mem_filter, List.mem_range, decide_eq_true_eq]
  constructor
  · rintro ⟨_, h⟩; exact h
  · rintro h; exact ⟨h.1, h⟩
end Go.Proofs.Ytilnegmjnbffhaa
