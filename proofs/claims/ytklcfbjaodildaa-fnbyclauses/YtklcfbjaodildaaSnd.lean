/-
  Propagation and reduction are sound: plain lists.
-/
import Derived.Test.YtklcfbjaodildaaClMath
namespace Go.Proofs.Ytklcfbjaodildaa

/-! Soundness of propagation and of reduction. -/
theorem litT_neg {M : List Bool} {x : Int} (h : x ≠ 0) : litT M (-x) = !litT M x := by
  unfold litT
  by_cases q : x < 0
  · rw [if_neg (by omega), if_pos q]
    simp
  · rw [if_pos (by omega), if_neg q]
    simp
/-- all these literals are true -/
def allT (M : List Bool) (l : List Int) : Bool := l.all (litT M)
theorem allT_mem {M : List Bool} {l : List Int} (h : allT M l = true) {x : Int} (hx : x ∈ l) : litT M x = true := List.all_eq_true.1 h x hx
theorem lf_true {M : List Bool} {known c : List Int} {x : Int} (hk : allT M known = true) (h0 : x ≠ 0) (hx : x ∈ c) (ht : litT M x = true) : x ∈ lf known c := by
  unfold lf
  rw [List.mem_filter]
  refine ⟨hx, ?_⟩
  have : -x ∉ known := fun e => by
    have h1 := allT_mem hk e
    rw [litT_neg h0, ht] at h1
    simp at h1
  simpa using this
theorem unitF_sound {M : List Bool} {known c : List Int} (hk : allT M known = true) (h0 : ∀ x ∈ c, x ≠ 0) (hc : c.any (litT M) = true) : unitF known c ≠ .bad ∧ ∀ u, unitF known c = .unit u → litT M u = true := by
  rw [List.any_eq_true] at hc
  obtain ⟨x, hx, ht⟩ := hc
  have hm := lf_true hk (h0 x hx) hx ht
  unfold unitF
  split
  · exact ⟨by simp, fun u e => by simp at e⟩
  · have e : c.filter (fun x => !known.contains (-x)) = lf known c := rfl
    rw [e]
    constructor
    · split
      · rename_i q; rw [q] at hm; simp at hm
      · simp
      · simp
    · intro u hu
      split at hu
      · simp at hu
      · rename_i y q
        rw [q] at hm
        simp at hm hu
        subst hm
        rw [← hu]
        exact ht
      · simp at hu
theorem firstF_sound {M : List Bool} {known : List Int} {L : List (List Int)} (hk : allT M known = true) (h0 : ∀ c ∈ L, ∀ x ∈ c, x ≠ 0) (hL : holdsB M L = true) : firstF known L ≠ .bad ∧ ∀ u, firstF known L = .unit u → litT M u = true := by
  induction L with
  | nil => exact ⟨by simp [firstF], fun u e => by simp [firstF] at e⟩
  | cons c t ih =>
    unfold holdsB at hL
    rw [List.all_cons, Bool.and_eq_true] at hL
    have h1 := unitF_sound hk (h0 c (by simp)) hL.1
    have h2 := ih (fun d hd => h0 d (by simp [hd])) hL.2
    rw [firstF]
    cases q : unitF known c with
    | pass => exact h2
    | bad => exact absurd q h1.1
    | unit u =>
      refine ⟨by simp, fun u' e => ?_⟩
      simp at e
      rw [← e]
      exact h1.2 u q
theorem propN_sound {M : List Bool} {L : List (List Int)} (h0 : ∀ c ∈ L, ∀ x ∈ c, x ≠ 0) (hL : holdsB M L = true) {N : Nat} {k r : List Int} {b : Bool} (hk : allT M k = true) (h : propN L N k = (r, b)) : b = false ∧ allT M r = true := by
  induction N generalizing k with
  | zero => simp [propN] at h; rw [← h.1]; exact ⟨h.2, hk⟩
  | succ n ih =>
    have hs := firstF_sound hk h0 hL
    rw [propN] at h
    split at h
    · simp at h; rw [← h.1]; exact ⟨h.2, hk⟩
    · rename_i q; exact absurd q hs.1
    · rename_i x q
      refine ih ?_ h
      unfold allT at hk ⊢
      rw [List.all_append, hk]
      simp [hs.2 x q]
theorem propN_pre {L : List (List Int)} {N : Nat} {k r : List Int} {b : Bool} (h : propN L N k = (r, b)) : k.length ≤ r.length ∧ r.take k.length = k := by
  induction N generalizing k with
  | zero => simp [propN] at h; rw [← h.1]; simp
  | succ n ih =>
    rw [propN] at h
    split at h
    · simp at h; rw [← h.1]; simp
    · simp at h; rw [← h.1]; simp
    · rename_i x q
      have := ih h
      rw [List.length_append, List.length_singleton] at this
      refine ⟨by omega, ?_⟩
      have e := congrArg (List.take k.length) this.2
      rw [List.take_take, Nat.min_eq_left (by omega)] at e
      rw [e]
      simp
theorem propN_lits {v : Int} {L : List (List Int)} (hl : ∀ c ∈ L, ∀ x ∈ c, litB v x = true) {N : Nat} {k r : List Int} {b : Bool} (hk : ∀ x ∈ k, litB v x = true) (h : propN L N k = (r, b)) : ∀ x ∈ r, litB v x = true := by
  induction N generalizing k with
  | zero => simp [propN] at h; rw [← h.1]; exact hk
  | succ n ih =>
    rw [propN] at h
    split at h
    · simp at h; rw [← h.1]; exact hk
    · simp at h; rw [← h.1]; exact hk
    · rename_i x q
      refine ih ?_ h
      obtain ⟨⟨c, hc, hx⟩, _⟩ := firstF_unit q
      intro y hy
      simp at hy
      rcases hy with hy | rfl
      · exact hk y hy
      · exact hl c hc y hx
theorem clOk_sub {v : Int} (p : Int → Bool) {c s s' : List Int} (h : clOk v s c = true) (hs : ∀ x ∈ s', x ∈ s) : clOk v s' (c.filter p) = true := by
  induction c generalizing s s' with
  | nil => simp [clOk]
  | cons y t ih =>
    simp only [clOk, Bool.and_eq_true] at h
    rw [List.filter_cons]
    split
    · simp only [clOk, Bool.and_eq_true]
      have h2 : y ∉ s ∧ -y ∉ s := by simpa using h.1.2
      refine ⟨⟨h.1.1, ?_⟩, ih h.2 ?_⟩
      · simp
        exact ⟨fun e => h2.1 (hs _ e), fun e => h2.2 (hs _ e)⟩
      · intro x hx
        simp at hx ⊢
        rcases hx with hx | hx
        · exact .inl (hs x hx)
        · exact .inr hx
    · exact ih h.2 (fun x hx => by simp; exact .inl (hs x hx))
theorem clauseB_lf {v : Int} {known c : List Int} (h : clauseB v c = true) : clauseB v (lf known c) = true := by
  simp only [clauseB, Bool.and_eq_true, decide_eq_true_eq] at h ⊢
  refine ⟨Nat.le_trans (List.length_filter_le _ _) h.1, clOk_sub _ h.2 (fun x hx => hx)⟩
theorem goodB_red {v : Int} {known : List Int} {L : List (List Int)} (h : goodB v L = true) : goodB v (reduceL known L) = true := by
  simp only [goodB, Bool.and_eq_true, decide_eq_true_eq] at h ⊢
  refine ⟨h.1, ?_, ?_⟩
  · unfold reduceL
    rw [List.length_map]
    exact Nat.le_trans (List.length_filter_le _ _) h.2.1
  · rw [List.all_eq_true]
    intro d hd
    unfold reduceL at hd
    rw [List.mem_map] at hd
    obtain ⟨c, hc, rfl⟩ := hd
    exact clauseB_lf (List.all_eq_true.1 h.2.2 c (List.mem_filter.1 hc).1)
theorem lf_any {M : List Bool} {known c : List Int} (hk : allT M known = true) (h0 : ∀ x ∈ c, x ≠ 0) : (lf known c).any (litT M) = c.any (litT M) := by
  rw [Bool.eq_iff_iff, List.any_eq_true, List.any_eq_true]
  constructor
  · rintro ⟨x, hx, ht⟩
    exact ⟨x, (List.mem_filter.1 hx).1, ht⟩
  · rintro ⟨x, hx, ht⟩
    exact ⟨x, lf_true hk (h0 x hx) hx ht, ht⟩
theorem holds_red {M : List Bool} {known : List Int} {L : List (List Int)} (hk : allT M known = true) (h0 : ∀ c ∈ L, ∀ x ∈ c, x ≠ 0) : holdsB M (reduceL known L) = holdsB M L := by
  induction L with
  | nil => rfl
  | cons c t ih =>
    have ih' := ih (fun d hd => h0 d (by simp [hd]))
    unfold holdsB reduceL at ih' ⊢
    rw [List.filter_cons, List.all_cons]
    cases q : (c.any fun x => known.contains x)
    · rw [if_pos (by rfl), List.map_cons, List.all_cons, ih']
      congr 1
      exact lf_any hk (h0 c (by simp))
    · rw [if_neg (by simp), ih']
      rw [List.any_eq_true] at q
      obtain ⟨x, hx, hkx⟩ := q
      have : c.any (litT M) = true := by
        rw [List.any_eq_true]
        exact ⟨x, hx, allT_mem hk (by simpa using hkx)⟩
      rw [this]
      simp
end Go.Proofs.Ytklcfbjaodildaa
