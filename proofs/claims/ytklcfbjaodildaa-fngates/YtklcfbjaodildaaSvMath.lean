/-
  A search for a model: plain lists.
-/
import Derived.Test.YtklcfbjaodildaaSnd2
import Derived.Test.YtklcfbjaodildaaHolds
namespace Go.Proofs.Ytklcfbjaodildaa

/-- the negations -/
def negL (c : List Int) : List Int := c.map fun x => -x
theorem negL_len (c : List Int) : (negL c).length = c.length := by simp [negL]
theorem negL_at {c : List Int} {k : Nat} {x : Int} (h : c[k]? = some x) : negL (c.take (k + 1)) = negL (c.take k) ++ [-x] := by
  have hlt : k < c.length := (List.getElem?_eq_some_iff.1 h).1
  have e : c[k] = x := (List.getElem?_eq_some_iff.1 h).2
  unfold negL
  rw [List.take_succ_eq_append_getElem hlt, List.map_append, e]
  rfl
theorem clOk_mono {v v' : Int} (hv : v ≤ v') {s c : List Int} (h : clOk v s c = true) : clOk v' s c = true := by
  induction c generalizing s with
  | nil => rfl
  | cons x t ih =>
    simp only [clOk, Bool.and_eq_true] at h ⊢
    refine ⟨⟨?_, h.1.2⟩, ih h.2⟩
    have := litB_iff.1 h.1.1
    exact litB_iff.2 ⟨this.1, by omega, by omega⟩
theorem clOk_neg {v : Int} {s c : List Int} (h : clOk v s c = true) : clOk v (negL s) (negL c) = true := by
  induction c generalizing s with
  | nil => rfl
  | cons x t ih =>
    show clOk v (negL s) (-x :: negL t) = true
    simp only [clOk, Bool.and_eq_true] at h ⊢
    have h1 := litB_iff.1 h.1.1
    have h2 : x ∉ s ∧ -x ∉ s := by simpa using h.1.2
    have hm : ∀ y, y ∈ negL s ↔ -y ∈ s := by
      intro y
      unfold negL
      rw [List.mem_map]
      constructor
      · rintro ⟨z, hz, rfl⟩; simpa using hz
      · intro q; exact ⟨-y, q, by omega⟩
    refine ⟨⟨litB_iff.2 ⟨by omega, by omega, by omega⟩, ?_⟩, ?_⟩
    · have a1 : -x ∉ negL s := by rw [hm]; simpa using h2.1
      have a2 : x ∉ negL s := by rw [hm]; exact h2.2
      simp [a1, a2]
    · have := ih h.2
      unfold negL at this ⊢
      simpa using this
theorem clauseB_neg {v : Int} {c : List Int} (h : clauseB v c = true) : clauseB v (negL c) = true := by
  simp only [clauseB, Bool.and_eq_true, decide_eq_true_eq] at h ⊢
  exact ⟨by rw [negL_len]; exact h.1, clOk_neg h.2⟩
theorem negL_neg (c : List Int) : negL (negL c) = c := by
  unfold negL
  rw [List.map_map]
  conv => rhs; rw [← List.map_id c]
  apply List.map_congr_left
  intro x _
  simp
theorem clauseB_neg' {v : Int} {c : List Int} : clauseB v (negL c) = clauseB v c := by
  rw [Bool.eq_iff_iff]
  constructor
  · intro h
    have := clauseB_neg h
    rwa [negL_neg] at this
  · exact clauseB_neg
theorem clauseB_mono {v v' : Int} (hv : v ≤ v') {c : List Int} (h : clauseB v c = true) : clauseB v' c = true := by
  simp only [clauseB, Bool.and_eq_true] at h ⊢
  exact ⟨h.1, clOk_mono hv h.2⟩
theorem clauseB_snoc {v : Int} (hv : v ≤ 12) {c : List Int} {x : Int} (h : clauseB v c = true) (hx : litB v x = true) (h1 : x ∉ c) (h2 : -x ∉ c) : clauseB v (c ++ [x]) = true := by
  simp only [clauseB, Bool.and_eq_true, decide_eq_true_eq] at h ⊢
  have hk : clOk v [] (c ++ [x]) = true := by
    rw [clOk_snoc, h.2, hx]
    simp [h1, h2]
  exact ⟨cl_len (clOk_mono hv hk), hk⟩
theorem clOk_take {v : Int} {s c : List Int} (h : clOk v s c = true) (k : Nat) : clOk v s (c.take k) = true := by
  induction c generalizing s k with
  | nil => simp [clOk]
  | cons x t ih =>
    cases k with
    | zero => rfl
    | succ k =>
      simp only [List.take_succ_cons, clOk, Bool.and_eq_true] at h ⊢
      exact ⟨h.1, ih h.2 k⟩
theorem clauseB_take {v : Int} {c : List Int} (h : clauseB v c = true) (k : Nat) : clauseB v (c.take k) = true := by
  simp only [clauseB, Bool.and_eq_true, decide_eq_true_eq] at h ⊢
  exact ⟨by rw [List.length_take]; omega, clOk_take h.2 k⟩

/-- from x on, k variables: the first that is told neither way; 0 for none -/
def firstFrom (o : List Int) : Nat → Int → Int
  | 0, _ => 0
  | k + 1, x => if o.contains x || o.contains (-x) then firstFrom o k (x + 1) else x
def firstV (v : Nat) (o : List Int) : Int := firstFrom o v 1
theorem firstFrom_spec (o : List Int) (k : Nat) (x : Int) (hx : 1 ≤ x) :
    (firstFrom o k x = 0 ∧ ∀ y, x ≤ y → y < x + k → y ∈ o ∨ -y ∈ o) ∨ (x ≤ firstFrom o k x ∧ firstFrom o k x < x + k ∧ firstFrom o k x ∉ o ∧ -(firstFrom o k x) ∉ o) := by
  induction k generalizing x with
  | zero => exact .inl ⟨rfl, fun y h1 h2 => by simp at h2; omega⟩
  | succ k ih =>
    rw [firstFrom]
    split
    · rename_i q
      have q' : x ∈ o ∨ -x ∈ o := by simpa using q
      rcases ih (x + 1) (by omega) with ⟨h1, h2⟩ | ⟨h1, h2, h3⟩
      · refine .inl ⟨h1, fun y a b => ?_⟩
        by_cases e : y = x
        · subst e; exact q'
        · exact h2 y (by omega) (by push_cast at b; omega)
      · exact .inr ⟨by omega, by push_cast; omega, h3⟩
    · rename_i q
      have q' : ¬ (x ∈ o ∨ -x ∈ o) := by simpa using q
      exact .inr ⟨Int.le_refl _, by push_cast; omega, fun h => q' (.inl h), fun h => q' (.inr h)⟩
theorem firstV_zero {v : Nat} {o : List Int} (h : firstV v o = 0) : ∀ y : Int, 1 ≤ y → y ≤ v → y ∈ o ∨ -y ∈ o := by
  rcases firstFrom_spec o v 1 (by omega) with ⟨_, h2⟩ | ⟨h1, _⟩
  · exact fun y a b => h2 y a (by omega)
  · unfold firstV at h; omega
theorem firstV_some {v : Nat} {o : List Int} (h : firstV v o ≠ 0) : 1 ≤ firstV v o ∧ firstV v o ≤ v ∧ firstV v o ∉ o ∧ -(firstV v o) ∉ o := by
  rcases firstFrom_spec o v 1 (by omega) with ⟨h1, _⟩ | ⟨h1, h2, h3⟩
  · exact absurd h1 h
  · unfold firstV; exact ⟨h1, by omega, h3⟩
theorem firstV_range (v : Nat) (o : List Int) : 0 ≤ firstV v o ∧ firstV v o ≤ v := by
  by_cases h : firstV v o = 0
  · rw [h]; omega
  · have := firstV_some h; omega

/-- the model of some literals -/
def modelW (v : Nat) (o : List Int) : List Bool := (List.range v).map fun (i : Nat) => decide (((i : Int) + 1) ∈ o)
theorem modelW_len (v : Nat) (o : List Int) : (modelW v o).length = v := by simp [modelW]
theorem modelW_nil (v : Nat) : modelW v [] = List.replicate v false := by
  unfold modelW
  apply List.ext_getElem
  · simp
  · intro i h1 h2; simp
theorem modelW_pos (v : Nat) {o : List Int} {j : Nat} {x : Int} (h : o[j]? = some x) (hx : 1 ≤ x) : modelW v (o.take (j + 1)) = (modelW v (o.take j)).set (x - 1).toNat true := by
  have hlt : j < o.length := (List.getElem?_eq_some_iff.1 h).1
  have e : o[j] = x := (List.getElem?_eq_some_iff.1 h).2
  unfold modelW
  apply List.ext_getElem
  · simp
  · intro i h1 h2
    rw [List.getElem_set]
    simp only [List.getElem_map, List.getElem_range]
    rw [List.take_succ_eq_append_getElem hlt, e]
    by_cases q : (x - 1).toNat = i
    · rw [if_pos q]
      have : (i : Int) + 1 = x := by omega
      simp [this]
    · rw [if_neg q]
      have : ¬ (i : Int) + 1 = x := by omega
      simp [this]
theorem modelW_neg (v : Nat) {o : List Int} {j : Nat} {x : Int} (h : o[j]? = some x) (hx : x ≤ 0) : modelW v (o.take (j + 1)) = modelW v (o.take j) := by
  have hlt : j < o.length := (List.getElem?_eq_some_iff.1 h).1
  have e : o[j] = x := (List.getElem?_eq_some_iff.1 h).2
  unfold modelW
  apply List.map_congr_left
  intro i _
  rw [List.take_succ_eq_append_getElem hlt, e]
  have : ¬ (i : Int) + 1 = x := by omega
  simp [this]

/-- what a search comes to: nothing where it learns too much -/
def solveN (v : Nat) (L : List (List Int)) : Nat → List (List Int) → List Int → Option (Bool × List Bool × List (List Int))
  | 0, _, _ => none
  | n + 1, P, D =>
    if (propN (L ++ P) 20 D).2 = true then
      if P.length = 300 then none
      else if D = [] then some (false, [], P ++ [[]])
      else solveN v L n (P ++ [negL D]) (D.take (D.length - 1))
    else if firstV v (propN (L ++ P) 20 D).1 = 0 then some (true, modelW v (propN (L ++ P) 20 D).1, P)
    else solveN v L n P (D ++ [firstV v (propN (L ++ P) 20 D).1])
/-- how much is left to do -/
def mes (p d : Nat) : Nat := (300 - p) * 20 + (13 - d)
/-- a search under way -/
def SInv (v : Nat) (L : List (List Int)) (res : Option (Bool × List Bool × List (List Int))) (P : List (List Int)) (D : List Int) : Prop :=
  (∃ N, mes P.length D.length < N ∧ solveN v L N P D = res) ∧ clauseB v D = true ∧ P.length ≤ 300 ∧ (∀ c ∈ P, clauseB v c = true)
theorem SInv.start (v : Nat) (L : List (List Int)) : SInv v L (solveN v L 7000 [] []) [] [] :=
  ⟨⟨7000, by simp [mes], rfl⟩, by simp [clauseB, clOk], by simp, by simp⟩
theorem SInv.open {v : Nat} {L P : List (List Int)} {D : List Int} {res : Option (Bool × List Bool × List (List Int))} (h : SInv v L res P D) : ∃ n, mes P.length D.length ≤ n ∧ solveN v L (n + 1) P D = res := by
  obtain ⟨⟨N, hN, e⟩, _⟩ := h
  obtain ⟨k, rfl⟩ : ∃ k, N = k + 1 := ⟨N - 1, by omega⟩
  exact ⟨k, by omega, e⟩
theorem SInv.over {v : Nat} {L P : List (List Int)} {D r : List Int} {res : Option (Bool × List Bool × List (List Int))} (h : SInv v L res P D) (hp : propN (L ++ P) 20 D = (r, true)) (h3 : P.length = 300) : res = none := by
  obtain ⟨n, _, e⟩ := h.open
  rw [solveN, hp, if_pos rfl, if_pos h3] at e
  exact e.symm
theorem SInv.no {v : Nat} {L P : List (List Int)} {r : List Int} {res : Option (Bool × List Bool × List (List Int))} (h : SInv v L res P []) (hp : propN (L ++ P) 20 [] = (r, true)) (h3 : P.length ≠ 300) : res = some (false, [], P ++ [[]]) := by
  obtain ⟨n, _, e⟩ := h.open
  rw [solveN, hp, if_pos rfl, if_neg h3, if_pos rfl] at e
  exact e.symm
theorem SInv.back {v : Nat} {L P : List (List Int)} {D r : List Int} {res : Option (Bool × List Bool × List (List Int))} (h : SInv v L res P D) (hp : propN (L ++ P) 20 D = (r, true)) (h3 : P.length ≠ 300) (hD : D ≠ []) : SInv v L res (P ++ [negL D]) (D.take (D.length - 1)) := by
  obtain ⟨n, hn, e⟩ := h.open
  rw [solveN, hp, if_pos rfl, if_neg h3, if_neg hD] at e
  obtain ⟨_, h1, h2, h4⟩ := h
  have hd := List.length_pos_iff.2 hD
  have hd12 := clauseB_len h1
  refine ⟨⟨n, ?_, e⟩, clauseB_take h1 _, by simp; omega, ?_⟩
  · unfold mes at hn ⊢
    rw [List.length_append, List.length_take, List.length_singleton]
    omega
  · intro c hc
    simp at hc
    rcases hc with hc | rfl
    · exact h4 c hc
    · exact clauseB_neg h1
theorem SInv.yes {v : Nat} {L P : List (List Int)} {D r : List Int} {res : Option (Bool × List Bool × List (List Int))} (h : SInv v L res P D) (hp : propN (L ++ P) 20 D = (r, false)) (h0 : firstV v r = 0) : res = some (true, modelW v r, P) := by
  obtain ⟨n, _, e⟩ := h.open
  rw [solveN, hp, if_neg (by simp), if_pos h0] at e
  exact e.symm
theorem propN_sub {L : List (List Int)} {N : Nat} {k r : List Int} {b : Bool} (h : propN L N k = (r, b)) : ∀ x ∈ k, x ∈ r := by
  have := (propN_pre h).2
  intro x hx
  rw [← this] at hx
  exact List.mem_of_mem_take hx
theorem SInv.on {v : Nat} {L P : List (List Int)} {D r : List Int} {res : Option (Bool × List Bool × List (List Int))} (h : SInv v L res P D) (hv : v ≤ 12) (hp : propN (L ++ P) 20 D = (r, false)) (h0 : firstV v r ≠ 0) : SInv v L res P (D ++ [firstV v r]) := by
  obtain ⟨n, hn, e⟩ := h.open
  rw [solveN, hp, if_neg (by simp), if_neg h0] at e
  obtain ⟨_, h1, h2, h4⟩ := h
  obtain ⟨f1, f2, f3, f4⟩ := firstV_some h0
  have hc : clauseB v (D ++ [firstV v r]) = true := clauseB_snoc (by omega) h1 (litB_iff.2 ⟨by omega, by omega, by omega⟩) (fun q => f3 (propN_sub hp _ q)) (fun q => f4 (propN_sub hp _ q))
  have hl := clauseB_len hc
  rw [List.length_append, List.length_singleton] at hl
  refine ⟨⟨n, ?_, e⟩, hc, h2, h4⟩
  unfold mes at hn ⊢
  rw [List.length_append, List.length_singleton]
  omega
/-- what Solve answers, of valid clauses or not -/
def SolR (v : Int) (L : List (List Int)) (s : Bool) (M : List Bool) (R : List (List Int)) (ok : Bool) : Prop :=
  (if goodB v L = true then solveN v.toNat L 7000 [] [] else none) = (if ok then some (s, M, R) else none) ∧ (ok = false → s = false ∧ M = [] ∧ R = [])
theorem solR_any (v : Int) (L : List (List Int)) : ∃ s M R ok, SolR v L s M R ok := by
  unfold SolR
  cases h : (if goodB v L = true then solveN v.toNat L 7000 [] [] else none) with
  | none => exact ⟨false, [], [], false, by simp, fun _ => ⟨rfl, rfl, rfl⟩⟩
  | some x => exact ⟨x.1, x.2.1, x.2.2, true, by simp, by simp⟩
theorem SolR.no {v : Int} {L : List (List Int)} {s : Bool} {M : List Bool} {R : List (List Int)} {ok : Bool} (h : SolR v L s M R ok) (hn : goodB v L = false) : s = false ∧ M = [] ∧ R = [] ∧ ok = false := by
  obtain ⟨h1, h2⟩ := h
  rw [hn] at h1
  cases ok
  · obtain ⟨a, b, c⟩ := h2 rfl; exact ⟨a, b, c, rfl⟩
  · simp at h1
theorem SolR.start {v : Int} {L : List (List Int)} {s : Bool} {M : List Bool} {R : List (List Int)} {ok : Bool} (h : SolR v L s M R ok) (hy : goodB v L = true) : SInv v.toNat L (if ok then some (s, M, R) else none) [] [] := by
  rw [← h.1, if_pos hy]
  exact SInv.start _ _
/-- of what length the answers are -/
theorem solveN_small {v : Nat} {L : List (List Int)} {N : Nat} {P : List (List Int)} {D : List Int} {s : Bool} {M : List Bool} {R : List (List Int)} (h : solveN v L N P D = some (s, M, R)) (hP : P.length ≤ 300) (hc : ∀ c ∈ P, c.length ≤ 12) (hD : D.length ≤ 12) (hv : v ≤ 12) (hPc : ∀ c ∈ P, clauseB v c = true) (hDc : clauseB v D = true) :
    M.length ≤ 12 ∧ R.length ≤ 300 ∧ ∀ c ∈ R, clauseB v c = true := by
  induction N generalizing P D with
  | zero => simp [solveN] at h
  | succ n ih =>
    rw [solveN] at h
    split at h
    · split at h
      · simp at h
      · rename_i hb hp
        split at h
        · simp at h
          obtain ⟨_, rfl, rfl⟩ := h
          refine ⟨by simp, by simp; omega, ?_⟩
          intro c hcc
          simp at hcc
          rcases hcc with hcc | rfl
          · exact hPc c hcc
          · simp [clauseB, clOk]
        · refine ih h (by simp; omega) ?_ ?_ ?_ (clauseB_take hDc _)
          · intro c hcc
            simp at hcc
            rcases hcc with hcc | rfl
            · exact hc c hcc
            · rw [negL_len]; exact hD
          · rw [List.length_take]; omega
          · intro c hcc
            simp at hcc
            rcases hcc with hcc | rfl
            · exact hPc c hcc
            · exact clauseB_neg hDc
    · split at h
      · simp at h
        obtain ⟨_, rfl, rfl⟩ := h
        exact ⟨by rw [modelW_len]; exact hv, hP, hPc⟩
      · rename_i hb h0
        have hb' : (propN (L ++ P) 20 D).2 = false := by simpa using hb
        have hp : propN (L ++ P) 20 D = ((propN (L ++ P) 20 D).1, false) := by rw [← hb']
        obtain ⟨f1, f2, f3, f4⟩ := firstV_some h0
        have hc2 := clauseB_snoc (v := v) (x := firstV v (propN (L ++ P) 20 D).1) (by omega) hDc (litB_iff.2 ⟨by omega, by omega, by omega⟩) (fun q => f3 (propN_sub hp _ q)) (fun q => f4 (propN_sub hp _ q))
        exact ih h hP hc (clauseB_len hc2) hPc hc2
theorem tot_few {R : List (List Int)} (h : ∀ c ∈ R, c.length ≤ 12) : (R.map List.length).sum ≤ 12 * R.length := by
  induction R with
  | nil => simp
  | cons c t ih =>
    have h1 := ih (fun d hd => h d (by simp [hd]))
    have h2 := h c (by simp)
    simp
    omega
theorem SolR.small {v : Int} {L : List (List Int)} {s : Bool} {M : List Bool} {R : List (List Int)} {ok : Bool} (h : SolR v L s M R ok) : M.length ≤ 12 ∧ R.length ≤ 300 ∧ (R.map List.length).sum ≤ 3600 ∧ ∀ c ∈ R, clauseB v c = true := by
  obtain ⟨h1, h2⟩ := h
  cases ok
  · obtain ⟨_, rfl, rfl⟩ := h2 rfl; simp
  · simp only [if_true] at h1
    split at h1
    · rename_i hg
      have hv := goodB_v hg
      have hvv : ((v.toNat : Nat) : Int) = v := by omega
      have := solveN_small h1 (by simp) (by simp) (by simp) (by omega) (by simp) (by simp [clauseB, clOk])
      rw [hvv] at this
      have ht := tot_few (R := R) (fun c hc => clauseB_len (this.2.2 c hc))
      exact ⟨this.1, this.2.1, by omega, this.2.2⟩
    · simp at h1
end Go.Proofs.Ytklcfbjaodildaa
