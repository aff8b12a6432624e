/-
  Resolution is sound; clean clauses are clauses: plain lists.
-/
import Derived.Test.YtklcfbjaodildaaSnd
namespace Go.Proofs.Ytklcfbjaodildaa

/-! Resolution is sound; clean clauses are clauses. -/
theorem clOk_snoc {v : Int} {s c : List Int} {x : Int} : clOk v s (c ++ [x]) = (clOk v s c && (litB v x && (!(s ++ c).contains x && !(s ++ c).contains (-x)))) := by
  induction c generalizing s with
  | nil => simp [clOk]
  | cons y t ih =>
    rw [List.cons_append, clOk, clOk, ih, show s ++ y :: t = (s ++ [y]) ++ t by simp]
    simp only [Bool.and_assoc]
theorem cl_free {s c : List Int} (h : clOk 12 s c = true) (hs : s.length + freeN s ≤ 13) : (s ++ c).length + freeN (s ++ c) ≤ 13 := by
  induction c generalizing s with
  | nil => simpa using hs
  | cons y t ih =>
    simp only [clOk, Bool.and_eq_true] at h
    have h1 := litB_iff.1 h.1.1
    have h2 : y ∉ s ∧ -y ∉ s := by simpa using h.1.2
    have := freeN_lt (k := s) (x := y) (by omega) h2.1 h2.2
    have := ih h.2 (by simp; omega)
    simpa using this
theorem freeN_nil : freeN [] = 13 := by decide
theorem freeN_pos {r : List Int} (h : ∀ x ∈ r, x ≠ 0) : 1 ≤ freeN r := by
  unfold freeN
  have : (0 : Nat) ∈ (List.range 13).filter fun (i : Nat) => !(r.contains (i : Int)) && !(r.contains (-(i : Int))) := by
    rw [List.mem_filter]
    refine ⟨by simp, ?_⟩
    have : (0 : Int) ∉ r := fun e => h 0 e rfl
    simp [this]
  exact List.length_pos_of_mem this
theorem cl_len {r : List Int} (h : clOk 12 [] r = true) : r.length ≤ 12 := by
  have h1 := cl_free h (by rw [freeN_nil]; simp)
  have h2 := freeN_pos (fun x hx => (litB_iff.1 (clOk_lits h x hx)).1)
  simp at h1
  omega
theorem cleanF_ok {out c o : List Int} (h : cleanF out c = some o) (hl : ∀ x ∈ c, litB 12 x = true) (ho : clOk 12 [] out = true) : clOk 12 [] o = true := by
  induction c generalizing out with
  | nil => simp [cleanF] at h; rw [← h]; exact ho
  | cons x t ih =>
    rw [cleanF] at h
    split at h
    · simp at h
    · rename_i q
      refine ih h (fun y hy => hl y (by simp [hy])) ?_
      split
      · exact ho
      · rename_i q2
        rw [clOk_snoc, ho, hl x (by simp)]
        simp at q q2
        simp [q, q2]
theorem cleanF_keep {out c o : List Int} (h : cleanF out c = some o) : ∀ x, x ∈ out ∨ x ∈ c → x ∈ o := by
  induction c generalizing out with
  | nil => simp [cleanF] at h; subst h; intro x hx; simpa using hx
  | cons y t ih =>
    rw [cleanF] at h
    split at h
    · simp at h
    · intro x hx
      refine ih h x ?_
      rcases hx with hx | hx
      · left; split
        · exact hx
        · simp [hx]
      · simp at hx
        rcases hx with rfl | hx
        · left; split
          · rename_i q; simpa using q
          · simp
        · exact .inr hx
theorem cleanF_in {out c o : List Int} (h : cleanF out c = some o) : ∀ x ∈ o, x ∈ out ∨ x ∈ c := by
  induction c generalizing out with
  | nil => simp [cleanF] at h; subst h; intro x hx; exact .inl hx
  | cons y t ih =>
    rw [cleanF] at h
    split at h
    · simp at h
    · intro x hx
      rcases ih h x hx with q | q
      · split at q
        · exact .inl q
        · simp at q
          rcases q with q | rfl
          · exact .inl q
          · exact .inr (by simp)
      · exact .inr (by simp [q])
theorem cleanF_same {out c : List Int} (h : clOk 12 out c = true) : cleanF out c = some (out ++ c) := by
  induction c generalizing out with
  | nil => simp [cleanF]
  | cons x t ih =>
    simp only [clOk, Bool.and_eq_true] at h
    have h2 : x ∉ out ∧ -x ∉ out := by simpa using h.1.2
    rw [cleanF, if_neg (by simpa using h2.2), if_neg (by simpa using h2.1), ih h.2]
    simp
theorem cleanB_again {c r : List Int} (h : cleanB c = some r) : cleanB r = some r := by
  unfold cleanB at h
  split at h
  · rename_i q
    have ho := cleanF_ok h (fun x hx => List.all_eq_true.1 q.2 x hx) rfl
    have hl := cleanF_len h
    simp only [List.length_nil] at hl
    unfold cleanB
    rw [if_pos ⟨by omega, List.all_eq_true.2 (fun x hx => clOk_lits ho x hx)⟩, cleanF_same ho]
    rfl
  · simp at h
theorem resB_yes' {a b r : List Int} {v : Int} (h : resB a b v = some r) : (clauseB 12 a = true ∧ clauseB 12 b = true ∧ 1 ≤ v ∧ v ≤ 12 ∧ v ∈ a ∧ -v ∈ b) ∧ cleanF [] (resAll a b v) = some r := by
  unfold resB at h
  split at h
  · rename_i q; exact ⟨q, h⟩
  · simp at h
theorem res_clause {a b r : List Int} {v : Int} (h : resB a b v = some r) : clauseB 12 r = true := by
  obtain ⟨q, hc⟩ := resB_yes' h
  have ho := cleanF_ok hc (fun x hx => List.all_eq_true.1 (resAll_clean (v := v) q.1 q.2.1).2 x hx) rfl
  simp only [clauseB, Bool.and_eq_true, decide_eq_true_eq]
  exact ⟨cl_len ho, ho⟩
theorem res_not {a b r : List Int} {v : Int} (h : resB a b v = some r) : v ∉ r ∧ -v ∉ r := by
  obtain ⟨q, hc⟩ := resB_yes' h
  have h1 := clauseB_cons q.1
  have h2 := clauseB_cons q.2.1
  constructor
  · intro e
    rcases cleanF_in hc v e with e | e
    · simp at e
    · unfold resAll at e
      simp at e
      have := h2 (-v) q.2.2.2.2.2
      rw [Int.neg_neg] at this
      exact this e.1
  · intro e
    rcases cleanF_in hc (-v) e with e | e
    · simp at e
    · unfold resAll at e
      simp at e
      exact h1 v q.2.2.2.2.1 e.1
theorem res_sound {M : List Bool} {a b r : List Int} {v : Int} (h : resB a b v = some r) (hM : holdsB M [a, b] = true) : holdsB M [r] = true := by
  obtain ⟨q, hc⟩ := resB_yes' h
  simp only [holdsB, List.all_cons, List.all_nil, Bool.and_eq_true, and_true] at hM ⊢
  obtain ⟨ha, hb⟩ := hM
  rw [List.any_eq_true] at ha hb ⊢
  obtain ⟨x, hx, tx⟩ := ha
  obtain ⟨y, hy, ty⟩ := hb
  by_cases e : x = v
  · subst e
    refine ⟨y, cleanF_keep hc y (.inr ?_), ty⟩
    have : y ≠ -x := by
      rintro rfl
      rw [litT_neg (by omega), tx] at ty
      simp at ty
    unfold resAll
    simp [hy, this]
  · refine ⟨x, cleanF_keep hc x (.inr ?_), tx⟩
    unfold resAll
    simp [hx, e]
end Go.Proofs.Ytklcfbjaodildaa
