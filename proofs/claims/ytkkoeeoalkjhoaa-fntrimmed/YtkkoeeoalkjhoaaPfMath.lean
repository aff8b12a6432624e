/-
  Proofs by unit propagation: plain lists.
-/
import Derived.Test.YtkkoeeoalkjhoaaSvSnd
namespace Go.Proofs.Ytkkoeeoalkjhoaa

/-- a clause follows by unit propagation -/
def atB (L : List (List Int)) (c : List Int) : Bool := (propN L 20 (negL c)).2
theorem firstF_at_unit {known : List Int} {L : List (List Int)} {x : Int} (h : firstF known L = .unit x) : ∃ c ∈ L, unitF known c = .unit x := by
  induction L with
  | nil => simp [firstF] at h
  | cons d t ih =>
    rw [firstF] at h
    split at h
    · obtain ⟨c, hc, hu⟩ := ih h
      exact ⟨c, by simp [hc], hu⟩
    · exact ⟨d, by simp, h⟩
theorem firstF_at_bad {known : List Int} {L : List (List Int)} (h : firstF known L = .bad) : ∃ c ∈ L, unitF known c = .bad := by
  induction L with
  | nil => simp [firstF] at h
  | cons d t ih =>
    rw [firstF] at h
    split at h
    · obtain ⟨c, hc, hu⟩ := ih h
      exact ⟨c, by simp [hc], hu⟩
    · exact ⟨d, by simp, h⟩
theorem unitF_bad_lits {known c : List Int} (h : unitF known c = .bad) : ∀ x ∈ c, -x ∈ known := by
  unfold unitF at h
  split at h
  · simp at h
  · split at h
    · rename_i e
      intro x hx
      rw [List.filter_eq_nil_iff] at e
      have := e x hx
      simpa using this
    · simp at h
    · simp at h
theorem unitF_unit_lits {known c : List Int} {x : Int} (h : unitF known c = .unit x) : ∀ y ∈ c, y = x ∨ -y ∈ known := by
  unfold unitF at h
  split at h
  · simp at h
  · split at h
    · simp at h
    · rename_i z e
      simp at h
      subst h
      intro y hy
      by_cases q : -y ∈ known
      · exact .inr q
      · have : y ∈ c.filter (fun x => !known.contains (-x)) := List.mem_filter.2 ⟨hy, by simpa using q⟩
        rw [e] at this
        exact .inl (by simpa using this)
    · simp at h
theorem clOk_nodup {v : Int} {s c : List Int} (h : clOk v s c = true) : c.Nodup := by
  induction c generalizing s with
  | nil => exact List.nodup_nil
  | cons x t ih =>
    simp only [clOk, Bool.and_eq_true] at h
    refine List.nodup_cons.2 ⟨fun hx => ?_, ih h.2⟩
    have := (clOk_free h.2 x hx).1
    simp at this
theorem clauseB_nodup {v : Int} {c : List Int} (h : clauseB v c = true) : c.Nodup := by
  simp only [clauseB, Bool.and_eq_true] at h
  exact clOk_nodup h.2
theorem all_one {l : List Int} {y : Int} (hn : l.Nodup) (h : ∀ z ∈ l, z = y) (hy : y ∈ l) : l = [y] := by
  match l, hn, h, hy with
  | [a], _, h, _ => rw [h a (by simp)]
  | a :: b :: t, hn, h, _ =>
    have e1 := h a (by simp)
    have e2 := h b (by simp)
    subst e1
    subst e2
    simp at hn
/-- what is closed under propagation holds all that propagation finds -/
theorem propN_closed {L : List (List Int)} {r : List Int} (hc : Cons r) (hnd : ∀ c ∈ L, c.Nodup) (hp : ∀ c ∈ L, unitF r c = .pass) {N : Nat} {k r2 : List Int} {b : Bool} (hk : ∀ x ∈ k, x ∈ r) (h : propN L N k = (r2, b)) : b = false := by
  induction N generalizing k with
  | zero => simp [propN] at h; exact h.2
  | succ n ih =>
    rw [propN] at h
    split at h
    · simp at h; exact h.2
    · rename_i hf
      exfalso
      obtain ⟨c, hcL, hu⟩ := firstF_at_bad hf
      have hl := unitF_bad_lits hu
      have h1 : ∀ x ∈ c, x ∉ r := fun x hx q => hc x q (hk _ (hl x hx))
      have h2 : lf r c = [] := by
        unfold lf
        rw [List.filter_eq_nil_iff]
        intro x hx
        simpa using hk _ (hl x hx)
      have := hp c hcL
      rw [unitF_bad' h1 h2] at this
      simp at this
    · rename_i x hf
      refine ih ?_ h
      intro y hy
      simp at hy
      rcases hy with hy | rfl
      · exact hk y hy
      · obtain ⟨c, hcL, hu⟩ := firstF_at_unit hf
        have hl := unitF_unit_lits hu
        have hxc := (unitF_unit hu).1
        apply Classical.byContradiction
        intro hyr
        have h1 : ∀ z ∈ c, z ∉ r := fun z hz q => by
          rcases hl z hz with e | e
          · subst e; exact hyr q
          · exact hc z q (hk _ e)
        have hpass := hp c hcL
        by_cases hny : -y ∈ r
        · have h2 : lf r c = [] := by
            unfold lf
            rw [List.filter_eq_nil_iff]
            intro z hz
            rcases hl z hz with e | e
            · subst e; simpa using hny
            · simpa using hk _ e
          rw [unitF_bad' h1 h2] at hpass
          simp at hpass
        · have h2 : ∀ z ∈ lf r c, z = y := fun z hz => by
            unfold lf at hz
            rw [List.mem_filter] at hz
            rcases hl z hz.1 with e | e
            · exact e
            · have := hz.2
              simp at this
              exact absurd (hk _ e) this
          have hin : y ∈ lf r c := List.mem_filter.2 ⟨hxc, by simpa using hny⟩
          have h3 : lf r c = [y] := all_one ((hnd c hcL).filter _) h2 hin
          rw [unitF_unit' h1 h3] at hpass
          simp at hpass
/-- more clauses, more literals: what falsified a clause does so again -/
theorem bad_mono {v : Int} (hv : v ≤ 12) {L L' : List (List Int)} {D D' : List Int} (hL : ∀ c ∈ L', clauseB v c = true) (hD : clauseB v D' = true) (hs : ∀ c ∈ L, c ∈ L') (hd : ∀ x ∈ D, x ∈ D') (h : (propN L 20 D).2 = true) : (propN L' 20 D').2 = true := by
  obtain ⟨r, b, hr⟩ : ∃ r b, propN L' 20 D' = (r, b) := ⟨_, _, rfl⟩
  rw [hr]
  cases b
  · exfalso
    have hlits : ∀ c ∈ L', ∀ x ∈ c, litB v x = true := fun c hc x hx => clauseB_lits (hL c hc) x hx
    have hpass := propN_pass hv hlits (by have := freeN_le D'; omega) hr
    have hc := propN_cons hlits (clauseB_cons hD) hr
    have hf := firstF_pass hpass
    obtain ⟨r2, b2, hr2⟩ : ∃ r b, propN L 20 D = (r, b) := ⟨_, _, rfl⟩
    rw [hr2] at h
    simp at h
    subst h
    have := propN_closed hc (fun c hc => clauseB_nodup (hL c (hs c hc))) (fun c hc => hf c (hs c hc)) (fun x hx => propN_sub hr _ (hd x hx)) hr2
    simp at this
  · rfl
/-- each clause follows from what stands ahead of it -/
def chainB : List (List Int) → List (List Int) → Bool
  | _, [] => true
  | all, c :: t => atB all c && chainB (all ++ [c]) t
theorem chainB_app (all a b : List (List Int)) : chainB all (a ++ b) = (chainB all a && chainB (all ++ a) b) := by
  induction a generalizing all with
  | nil => simp [chainB]
  | cons c t ih =>
    rw [List.cons_append, chainB, chainB, ih]
    simp [Bool.and_assoc]
theorem atB_sound {v : Int} {L : List (List Int)} {c : List Int} (hL : ∀ c ∈ L, clauseB v c = true) (hc : clauseB v c = true) (h : atB L c = true) : ∀ M, holdsB M L = true → c.any (litT M) = true := by
  intro M hm
  have h0 : ∀ x ∈ c, x ≠ 0 := fun x hx => (litB_iff.1 (clauseB_lits hc x hx)).1
  cases q : c.any (litT M)
  · exfalso
    have hn : allT M (negL c) = true := by rw [neg_allT h0, q]; rfl
    obtain ⟨r, b, hr⟩ : ∃ r b, propN L 20 (negL c) = (r, b) := ⟨_, _, rfl⟩
    have := (propN_sound (fun c hc => lits_ne hL c hc) hm hn hr).1
    unfold atB at h
    rw [hr] at h
    simp at h
    rw [h] at this
    simp at this
  · rfl
theorem chain_imp {v : Int} {all t : List (List Int)} (hL : ∀ c ∈ all, clauseB v c = true) (ht : ∀ c ∈ t, clauseB v c = true) (h : chainB all t = true) : Imp all t := by
  induction t generalizing all with
  | nil => intro M _; simp [holdsB]
  | cons c t ih =>
    rw [chainB, Bool.and_eq_true] at h
    intro M hm
    have hc := atB_sound hL (ht c (by simp)) h.1 M hm
    have h2 := ih (all := all ++ [c]) (fun d hd => by
      rcases List.mem_append.1 hd with q | q
      · exact hL d q
      · rw [List.mem_singleton.1 q]; exact ht c (by simp)) (fun d hd => ht d (by simp [hd])) h.2 M (by rw [holdsB_app, hm, holdsB_one, hc]; rfl)
    show holdsB M ([c] ++ t) = true
    rw [holdsB_app, holdsB_one, hc, h2]
    rfl
/-- an accepted proof: a chain that ends with the empty clause -/
def accB (L t : List (List Int)) : Bool := chainB L t && decide (t.getLast? = some [])
theorem acc_none {v : Int} {L t : List (List Int)} (hL : ∀ c ∈ L, clauseB v c = true) (ht : ∀ c ∈ t, clauseB v c = true) (h : accB L t = true) : ∀ M, holdsB M L = false := by
  intro M
  unfold accB at h
  rw [Bool.and_eq_true, decide_eq_true_eq] at h
  cases q : holdsB M L
  · rfl
  · have := chain_imp hL ht h.1 M q
    unfold holdsB at this
    rw [List.all_eq_true] at this
    have := this [] (List.mem_of_getLast? h.2)
    simp at this
theorem atB_mono {v : Int} (hv : v ≤ 12) {L L' : List (List Int)} {c : List Int} (hL : ∀ c ∈ L', clauseB v c = true) (hc : clauseB v c = true) (hs : ∀ c ∈ L, c ∈ L') (h : atB L c = true) : atB L' c = true :=
  bad_mono hv hL (clauseB_neg hc) hs (fun _ h => h) h
theorem chain_mono {v : Int} (hv : v ≤ 12) {L L' t : List (List Int)} (hL : ∀ c ∈ L', clauseB v c = true) (ht : ∀ c ∈ t, clauseB v c = true) (hs : ∀ c ∈ L, c ∈ L') (h : chainB L t = true) : chainB L' t = true := by
  induction t generalizing L L' with
  | nil => rfl
  | cons c t ih =>
    rw [chainB, Bool.and_eq_true] at h ⊢
    refine ⟨atB_mono hv hL (ht c (by simp)) hs h.1, ih ?_ (fun d hd => ht d (by simp [hd])) ?_ h.2⟩
    · intro d hd
      rcases List.mem_append.1 hd with q | q
      · exact hL d q
      · rw [List.mem_singleton.1 q]; exact ht c (by simp)
    · intro d hd
      rcases List.mem_append.1 hd with q | q
      · exact List.mem_append.2 (.inl (hs d q))
      · exact List.mem_append.2 (.inr q)
/-- the empty clause follows: then every clause does -/
theorem atB_empty {v : Int} (hv : v ≤ 12) {L L' : List (List Int)} {c : List Int} (hL : ∀ c ∈ L', clauseB v c = true) (hc : clauseB v c = true) (hs : ∀ c ∈ L, c ∈ L') (h : atB L [] = true) : atB L' c = true :=
  bad_mono hv hL (clauseB_neg hc) hs (fun x h => by simp [negL] at h) h
theorem chain_empty {v : Int} (hv : v ≤ 12) {L L' t : List (List Int)} (hL : ∀ c ∈ L', clauseB v c = true) (ht : ∀ c ∈ t, clauseB v c = true) (hs : ∀ c ∈ L, c ∈ L') (h : atB L [] = true) : chainB L' t = true := by
  induction t generalizing L' with
  | nil => rfl
  | cons c t ih =>
    rw [chainB, Bool.and_eq_true]
    refine ⟨atB_empty hv hL (ht c (by simp)) hs h, ih ?_ (fun d hd => ht d (by simp [hd])) (fun d hd => List.mem_append.2 (.inl (hs d hd)))⟩
    intro d hd
    rcases List.mem_append.1 hd with q | q
    · exact hL d q
    · rw [List.mem_singleton.1 q]; exact ht c (by simp)
/-- what the solver learns is a chain, and where it finds no model it ends with the empty clause -/
theorem solve_chain {V : Nat} {L : List (List Int)} {N : Nat} {P : List (List Int)} {D : List Int} {s : Bool} {M : List Bool} {R : List (List Int)} (h : solveN V L N P D = some (s, M, R)) (hP : chainB L P = true) : chainB L R = true ∧ (s = false → R.getLast? = some []) := by
  induction N generalizing P D with
  | zero => simp [solveN] at h
  | succ n ih =>
    rw [solveN] at h
    split at h
    · rename_i hb
      split at h
      · simp at h
      · have hat : ∀ D', D' = D → atB (L ++ P) (negL D') = true := fun D' e => by
          subst e
          unfold atB
          rw [negL_neg]
          exact hb
        split at h
        · rename_i hD
          subst hD
          simp at h
          obtain ⟨rfl, rfl, rfl⟩ := h
          refine ⟨?_, fun _ => by simp⟩
          rw [chainB_app, hP]
          simp [chainB]
          exact hat [] rfl
        · refine ih h ?_
          rw [chainB_app, hP]
          simp [chainB]
          exact hat D rfl
    · split at h
      · simp at h
        obtain ⟨rfl, rfl, rfl⟩ := h
        exact ⟨hP, by simp⟩
      · exact ih h hP
end Go.Proofs.Ytkkoeeoalkjhoaa
