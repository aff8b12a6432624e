/-
  A search is right: a model that it finds holds, where it finds none there is none, and what it learns follows.
-/
import Derived.Test.YtklcfbjaodildaaPuMath
import Derived.Test.YtklcfbjaodildaaWith
namespace Go.Proofs.Ytklcfbjaodildaa

theorem holdsB_app (M : List Bool) (a b : List (List Int)) : holdsB M (a ++ b) = (holdsB M a && holdsB M b) := by unfold holdsB; rw [List.all_append]
theorem holdsB_one (M : List Bool) (c : List Int) : holdsB M [c] = c.any (litT M) := by simp [holdsB]
theorem lits_ne {v : Int} {L : List (List Int)} (h : ∀ c ∈ L, clauseB v c = true) : ∀ c ∈ L, ∀ x ∈ c, x ≠ 0 := fun c hc x hx => (litB_iff.1 (clauseB_lits (h c hc) x hx)).1
/-- where propagation has ended without a falsified clause, no clause has anything to say -/
theorem propN_pass {v : Int} (hv : v ≤ 12) {L : List (List Int)} (hl : ∀ c ∈ L, ∀ x ∈ c, litB v x = true) {N : Nat} {k r : List Int} (hN : freeN k < N) (h : propN L N k = (r, false)) : firstF r L = .pass := by
  induction N generalizing k with
  | zero => omega
  | succ n ih =>
    rw [propN] at h
    split at h
    · rename_i hf
      simp at h
      rw [← h]
      exact hf
    · simp at h
    · rename_i x hf
      obtain ⟨⟨c, hc, hx⟩, h1, h2⟩ := firstF_unit hf
      have := litB_iff.1 (hl c hc x hx)
      have := freeN_lt (k := k) (x := x) (by omega) h1 h2
      exact ih (by omega) h
theorem propN_cons {v : Int} {L : List (List Int)} (hl : ∀ c ∈ L, ∀ x ∈ c, litB v x = true) {N : Nat} {k r : List Int} {b : Bool} (hk : Cons k) (h : propN L N k = (r, b)) : Cons r := by
  induction N generalizing k with
  | zero => simp [propN] at h; rw [← h.1]; exact hk
  | succ n ih =>
    rw [propN] at h
    split at h
    · simp at h; rw [← h.1]; exact hk
    · simp at h; rw [← h.1]; exact hk
    · rename_i x hf
      obtain ⟨⟨c, hc, hx⟩, h1, h2⟩ := firstF_unit hf
      exact ih (hk.snoc (litB_iff.1 (hl c hc x hx)).1 h2) h
theorem firstF_pass {known : List Int} {L : List (List Int)} (h : firstF known L = .pass) : ∀ c ∈ L, unitF known c = .pass := by
  induction L with
  | nil => simp
  | cons d t ih =>
    rw [firstF] at h
    intro c hc
    split at h
    · rename_i hu
      simp at hc
      rcases hc with rfl | hc
      · exact hu
      · exact ih h c hc
    · rename_i hu
      exact absurd h hu
/-- where all is told, a clause that has nothing to say is true -/
theorem unit_pass {known c : List Int} (h : unitF known c = .pass) (hall : ∀ x ∈ c, x ∈ known ∨ -x ∈ known) : ∃ x ∈ c, x ∈ known := by
  apply Classical.byContradiction
  intro hn
  have hn' : ∀ x ∈ c, x ∉ known := fun x hx hk => hn ⟨x, hx, hk⟩
  have : lf known c = [] := by
    unfold lf
    rw [List.filter_eq_nil_iff]
    intro x hx
    rcases hall x hx with q | q
    · exact absurd q (hn' x hx)
    · simp [q]
  rw [unitF_bad' hn' this] at h
  simp at h
theorem litT_model {V : Nat} {r : List Int} {x : Int} (hx : litB V x = true) (hc : Cons r) (h : x ∈ r) : litT (modelW V r) x = true := by
  have h1 := litB_iff.1 hx
  unfold litT
  split
  · rename_i hneg
    have hlt : (-x - 1).toNat < V := by omega
    have : (modelW V r)[(-x - 1).toNat]? = some (decide (-x ∈ r)) := by
      unfold modelW
      rw [List.getElem?_map, List.getElem?_range hlt, Option.map_some, show ((-x - 1).toNat : Int) + 1 = -x by omega]
    rw [this]
    simp [hc x h]
  · rename_i hpos
    have hlt : (x - 1).toNat < V := by omega
    have : (modelW V r)[(x - 1).toNat]? = some (decide (x ∈ r)) := by
      unfold modelW
      rw [List.getElem?_map, List.getElem?_range hlt, Option.map_some, show ((x - 1).toNat : Int) + 1 = x by omega]
    rw [this]
    simp [h]
/-- whatever holds in a model of L holds in P -/
def Imp (L P : List (List Int)) : Prop := ∀ M, holdsB M L = true → holdsB M P = true
theorem allT_neg {M : List Bool} {D : List Int} (h0 : ∀ x ∈ D, x ≠ 0) (h : allT M D = false) : (negL D).any (litT M) = true := by
  unfold allT at h
  rw [List.all_eq_false] at h
  obtain ⟨x, hx, hf⟩ := h
  rw [List.any_eq_true]
  refine ⟨-x, List.mem_map.2 ⟨x, hx, rfl⟩, ?_⟩
  rw [litT_neg (h0 x hx)]
  simpa using hf
theorem solveN_sem {V : Nat} (hV : V ≤ 12) {L : List (List Int)} (hL : ∀ c ∈ L, clauseB V c = true) {N : Nat} {P : List (List Int)} {D : List Int} {s : Bool} {M : List Bool} {R : List (List Int)} (h : solveN V L N P D = some (s, M, R))
    (hP : ∀ c ∈ P, clauseB V c = true) (hD : clauseB V D = true) (hI : Imp L P) : Imp L R ∧ (s = true → M.length = V ∧ holdsB M L = true) ∧ (s = false → ∀ M', holdsB M' L = false) := by
  induction N generalizing P D with
  | zero => simp [solveN] at h
  | succ n ih =>
    have hLP : ∀ c ∈ L ++ P, clauseB V c = true := fun c hc => by
      rcases List.mem_append.1 hc with q | q
      · exact hL c q
      · exact hP c q
    have hlits : ∀ c ∈ L ++ P, ∀ x ∈ c, litB V x = true := fun c hc x hx => clauseB_lits (hLP c hc) x hx
    obtain ⟨r, b, hp⟩ : ∃ r b, propN (L ++ P) 20 D = (r, b) := ⟨_, _, rfl⟩
    have hLPm : ∀ M, holdsB M L = true → holdsB M (L ++ P) = true := fun M h => by rw [holdsB_app, h, hI M h]; rfl
    rw [solveN, hp] at h
    cases b
    · rw [if_neg (by simp)] at h
      split at h
      · rename_i h0
        simp at h
        obtain ⟨rfl, rfl, rfl⟩ := h
        refine ⟨hI, fun _ => ⟨modelW_len _ _, ?_⟩, by simp⟩
        have hpass := propN_pass (by omega) hlits (by have := freeN_le D; omega) hp
        have hcons := propN_cons hlits (clauseB_cons hD) hp
        have hall : holdsB (modelW V r) (L ++ P) = true := by
          unfold holdsB
          rw [List.all_eq_true]
          intro c hc
          have hu := firstF_pass hpass c hc
          obtain ⟨x, hx, hk⟩ := unit_pass hu (fun x hx => by
            have hl := litB_iff.1 (hlits c hc x hx)
            by_cases hpos : 0 < x
            · exact firstV_zero h0 x (by omega) (by omega)
            · have := firstV_zero h0 (-x) (by omega) (by omega)
              rw [Int.neg_neg] at this
              exact this.symm)
          rw [List.any_eq_true]
          exact ⟨x, hx, litT_model (hlits c hc x hx) hcons hk⟩
        rw [holdsB_app, Bool.and_eq_true] at hall
        exact hall.1
      · rename_i h0
        obtain ⟨f1, f2, f3, f4⟩ := firstV_some h0
        exact ih h hP (clauseB_snoc (by omega) hD (litB_iff.2 ⟨by omega, by omega, by omega⟩) (fun q => f3 (propN_sub hp _ q)) (fun q => f4 (propN_sub hp _ q))) hI
    · rw [if_pos rfl] at h
      have hbad : ∀ M, holdsB M L = true → allT M D = false := fun M hm => by
        cases q : allT M D
        · rfl
        · have := (propN_sound (fun c hc => lits_ne hLP c hc) (hLPm M hm) q hp).1
          simp at this
      split at h
      · simp at h
      · split at h
        · rename_i hD0
          subst hD0
          simp at h
          obtain ⟨rfl, rfl, rfl⟩ := h
          have hno : ∀ M', holdsB M' L = false := fun M' => by
            cases q : holdsB M' L
            · rfl
            · have := hbad M' q
              simp [allT] at this
          exact ⟨fun M hm => by rw [hno M] at hm; simp at hm, by simp, fun _ => hno⟩
        · refine ih h ?_ (clauseB_take hD _) ?_
          · intro c hc
            simp at hc
            rcases hc with hc | rfl
            · exact hP c hc
            · exact clauseB_neg hD
          · intro M hm
            rw [holdsB_app, hI M hm, holdsB_one, allT_neg (fun x hx => (litB_iff.1 (clauseB_lits hD x hx)).1) (hbad M hm)]
            rfl
/-- what Solve answers is right -/
theorem SolR.sem {v : Int} {L : List (List Int)} {s : Bool} {M : List Bool} {R : List (List Int)} (h : SolR v L s M R true) : goodB v L = true ∧ Imp L R ∧ (s = true → (M.length : Int) = v ∧ holdsB M L = true) ∧ (s = false → ∀ M', holdsB M' L = false) := by
  obtain ⟨h1, _⟩ := h
  simp only [if_true] at h1
  split at h1
  · rename_i hg
    have hv := goodB_v hg
    obtain ⟨V, rfl⟩ : ∃ V : Nat, v = V := ⟨v.toNat, by omega⟩
    have := solveN_sem (V := V) (by omega) (goodB_cl hg) (by simpa using h1) (by simp) (by simp [clauseB, clOk]) (fun M _ => by simp [holdsB])
    exact ⟨hg, this.1, fun e => ⟨by have := (this.2.1 e).1; omega, (this.2.1 e).2⟩, this.2.2⟩
  · simp at h1
theorem sing_holds (M : List Bool) (g : List Int) : holdsB M (sing g) = allT M g := by
  unfold holdsB sing allT
  rw [List.all_map]
  congr 1
  funext x
  simp
theorem WithR.sem {v : Int} {L : List (List Int)} {g : List Int} {s : Bool} {M : List Bool} {R : List (List Int)} (h : WithR v L g s M R true) : goodB v L = true ∧ clauseB v g = true ∧ (s = true → (M.length : Int) = v ∧ holdsB M L = true ∧ allT M g = true) ∧ (s = false → ∀ M', holdsB M' L = true → allT M' g = false) := by
  cases q : (goodB v L && clauseB v g)
  · have := (h.no q).2.2.2
    simp at this
  · rw [Bool.and_eq_true] at q
    have h2 := (h.yes q.1 q.2).sem
    refine ⟨q.1, q.2, fun e => ?_, fun e M' hm => ?_⟩
    · have h3 := h2.2.2.1 e
      rw [holdsB_app, sing_holds, Bool.and_eq_true] at h3
      exact ⟨h3.1, h3.2.1, h3.2.2⟩
    · have h3 := h2.2.2.2 e M'
      rw [holdsB_app, sing_holds, hm] at h3
      simpa using h3
theorem neg_allT {M : List Bool} {c : List Int} (h0 : ∀ x ∈ c, x ≠ 0) : allT M (negL c) = !(c.any (litT M)) := by
  induction c with
  | nil => rfl
  | cons x t ih =>
    have := ih (fun y hy => h0 y (by simp [hy]))
    unfold allT negL at this ⊢
    rw [List.map_cons, List.all_cons, List.any_cons, this, litT_neg (h0 x (by simp))]
    cases litT M x <;> simp
/-- a clause follows just where it holds in every model -/
theorem FolR.sem {v : Int} {L : List (List Int)} {c : List Int} {f : Bool} (h : FolR v L c f true) : goodB v L = true ∧ clauseB v c = true ∧ (f = true → ∀ M, holdsB M L = true → c.any (litT M) = true) ∧ (f = false → ∃ M, (M.length : Int) = v ∧ holdsB M L = true ∧ c.any (litT M) = false) := by
  obtain ⟨s, M, R, h1, h2⟩ := h
  have h3 := h1.sem
  have hc : clauseB v c = true := by rw [← clauseB_neg']; exact h3.2.1
  have h0 : ∀ x ∈ c, x ≠ 0 := fun x hx => (litB_iff.1 (clauseB_lits hc x hx)).1
  refine ⟨h3.1, hc, fun e M' hm => ?_, fun e => ?_⟩
  · have hs : s = false := by rw [e] at h2; simpa using h2
    have := h3.2.2.2 hs M' hm
    rw [neg_allT h0] at this
    simpa using this
  · have hs : s = true := by rw [e] at h2; simpa using h2
    have := h3.2.2.1 hs
    refine ⟨M, this.1, this.2.1, ?_⟩
    have h4 := this.2.2
    rw [neg_allT h0] at h4
    simpa using h4
/-- every model has its number -/
theorem model_num : ∀ M : List Bool, ∃ n, n < 2 ^ M.length ∧ modelN M.length n = M
  | [] => ⟨0, by simp, rfl⟩
  | b :: t => by
    obtain ⟨n, h1, h2⟩ := model_num t
    refine ⟨2 * n + (if b then 1 else 0), ?_, ?_⟩
    · rw [List.length_cons, Nat.pow_succ]
      split <;> omega
    · unfold modelN at h2 ⊢
      rw [List.length_cons, List.range_succ_eq_map, List.map_cons, List.map_map]
      congr 1
      · rw [Nat.testBit_zero]
        cases b <;> simp
      · conv => rhs; rw [← h2]
        apply List.map_congr_left
        intro i _
        show (2 * n + if b = true then 1 else 0).testBit (i + 1) = n.testBit i
        rw [Nat.testBit_succ]
        congr 1
        split <;> omega
theorem countB_pos {V : Nat} {L : List (List Int)} {k : Nat} : 0 < countB V L k ↔ ∃ n, n < k ∧ holdsB (modelN V n) L = true := by
  induction k with
  | zero => simp [countB]
  | succ k ih =>
    rw [countB]
    constructor
    · intro h
      by_cases q : holdsB (modelN V k) L = true
      · exact ⟨k, by omega, q⟩
      · rw [if_neg q] at h
        obtain ⟨n, h1, h2⟩ := ih.1 (by omega)
        exact ⟨n, by omega, h2⟩
    · rintro ⟨n, h1, h2⟩
      by_cases e : n = k
      · subst e
        rw [if_pos h2]
        omega
      · have := ih.2 ⟨n, by omega, h2⟩
        omega
theorem count_models {V : Nat} {L : List (List Int)} : 0 < countB V L (2 ^ V) ↔ ∃ M : List Bool, M.length = V ∧ holdsB M L = true := by
  rw [countB_pos]
  constructor
  · rintro ⟨n, _, h⟩; exact ⟨_, modelN_len _ _, h⟩
  · rintro ⟨M, h1, h2⟩
    obtain ⟨n, h3, h4⟩ := model_num M
    rw [h1] at h3 h4
    exact ⟨n, h3, by rw [h4]; exact h2⟩
theorem countB_more {V : Nat} {L : List (List Int)} {c : List Int} {k : Nat} : countB V (L ++ [c]) k ≤ countB V L k ∧ (countB V (L ++ [c]) k = countB V L k ↔ ∀ n, n < k → holdsB (modelN V n) L = true → c.any (litT (modelN V n)) = true) := by
  induction k with
  | zero => simp [countB]
  | succ k ih =>
    rw [countB, countB, holdsB_app, holdsB_one]
    have hsplit : (∀ n, n < k + 1 → holdsB (modelN V n) L = true → c.any (litT (modelN V n)) = true) ↔ (∀ n, n < k → holdsB (modelN V n) L = true → c.any (litT (modelN V n)) = true) ∧ (holdsB (modelN V k) L = true → c.any (litT (modelN V k)) = true) := by
      constructor
      · intro h; exact ⟨fun n hn => h n (by omega), h k (by omega)⟩
      · rintro ⟨h1, h2⟩ n hn
        by_cases e : n = k
        · subst e; exact h2
        · exact h1 n (by omega)
    rw [hsplit, ← ih.2]
    have hle := ih.1
    cases q1 : holdsB (modelN V k) L <;> cases q2 : c.any (litT (modelN V k)) <;> simp <;> omega
theorem count_follow {V : Nat} {L : List (List Int)} {c : List Int} : countB V L (2 ^ V) = countB V (L ++ [c]) (2 ^ V) ↔ ∀ M : List Bool, M.length = V → holdsB M L = true → c.any (litT M) = true := by
  rw [eq_comm, countB_more.2]
  constructor
  · intro h M h1 h2
    obtain ⟨n, h3, h4⟩ := model_num M
    rw [h1] at h3 h4
    have := h n h3
    rw [h4] at this
    exact this h2
  · intro h n _ h2
    exact h _ (modelN_len _ _) h2
end Go.Proofs.Ytklcfbjaodildaa
