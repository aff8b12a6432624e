/-
  Checked proofs, needed clauses, trimmed proofs: what the functions answer, on plain lists.
-/
import Derived.Test.YtkkoeeoalkjhoaaTrMath
namespace Go.Proofs.Ytkkoeeoalkjhoaa

/-- the first clause, of those not dropped, that does not follow from what stands ahead of it -/
def wrongF : List (List Int) → List (List Int) → List Bool → Nat
  | all, c :: t, d :: ds => if d then wrongF all t ds + 1 else if atB all c then wrongF (all ++ [c]) t ds + 1 else 0
  | _, _, _ => 0
theorem wrongF_le {L p : List (List Int)} {d : List Bool} : wrongF L p d ≤ p.length := by
  induction p generalizing L d with
  | nil => simp [wrongF]
  | cons c t ih => cases d with
    | nil => simp [wrongF]
    | cons b ds =>
      have h1 := ih (L := L) (d := ds)
      have h2 := ih (L := L ++ [c]) (d := ds)
      rw [wrongF, List.length_cons]
      split
      · omega
      · split <;> omega
theorem wrongF_chain {L p : List (List Int)} {d : List Bool} (h : p.length = d.length) : decide (wrongF L p d = p.length) = chainB L (keptL p d) := by
  induction p generalizing L d with
  | nil => simp [wrongF, keptL, chainB]
  | cons c t ih => cases d with
    | nil => simp at h
    | cons b ds =>
      have h1 := ih (L := L) (d := ds) (by simpa using h)
      have h2 := ih (L := L ++ [c]) (d := ds) (by simpa using h)
      rw [wrongF, List.length_cons, keptL]
      cases b
      · simp only [Bool.false_eq_true, if_false, chainB]
        cases q : atB L c
        · simp
        · simp only [if_true, Bool.true_and]
          rw [← h2]
          simp
      · simp only [if_true]
        rw [← h1]
        simp
theorem wrongF_at (all : List (List Int)) {p : List (List Int)} {d : List Bool} {k : Nat} {c : List Int} {b : Bool} (hp : p[k]? = some c) (hd : d[k]? = some b) :
    wrongF all (p.drop k) (d.drop k) = if b then wrongF all (p.drop (k + 1)) (d.drop (k + 1)) + 1 else if atB all c then wrongF (all ++ [c]) (p.drop (k + 1)) (d.drop (k + 1)) + 1 else 0 := by
  have h1 := (List.getElem?_eq_some_iff.1 hp).1
  have h2 := (List.getElem?_eq_some_iff.1 hp).2
  have h3 := (List.getElem?_eq_some_iff.1 hd).1
  have h4 := (List.getElem?_eq_some_iff.1 hd).2
  rw [List.drop_eq_getElem_cons h1, List.drop_eq_getElem_cons h3, h2, h4, wrongF]
theorem wrongF_end (all : List (List Int)) {p : List (List Int)} {d : List Bool} {k : Nat} (hk : p.length ≤ k) : wrongF all (p.drop k) (d.drop k) = 0 := by
  rw [List.drop_of_length_le hk, wrongF]
  simp
/-- behind k clauses of a proof under check: what is known so far -/
def WInv (v : Int) (n : Nat) (p : List (List Int)) (d : List Bool) (W k : Nat) (all : List (List Int)) : Prop :=
  W = k + wrongF all (p.drop k) (d.drop k) ∧ (∀ c ∈ all, clauseB v c = true) ∧ all.length ≤ n + k
theorem WInv.start {v : Int} {L p : List (List Int)} {d : List Bool} (hL : ∀ c ∈ L, clauseB v c = true) : WInv v L.length p d (wrongF L p d) 0 L := ⟨by simp, hL, by omega⟩
theorem WInv.skip {v : Int} {n : Nat} {p : List (List Int)} {d : List Bool} {W k : Nat} {all : List (List Int)} (h : WInv v n p d W k all) {c : List Int} (hp : p[k]? = some c) (hd : d[k]? = some true) : WInv v n p d W (k + 1) all := by
  obtain ⟨h1, h2, h3⟩ := h
  rw [wrongF_at all hp hd] at h1
  simp at h1
  exact ⟨by omega, h2, by omega⟩
theorem WInv.wrong {v : Int} {n : Nat} {p : List (List Int)} {d : List Bool} {W k : Nat} {all : List (List Int)} (h : WInv v n p d W k all) {c : List Int} (hp : p[k]? = some c) (hd : d[k]? = some false) (hc : atB all c = false) : W = k := by
  obtain ⟨h1, h2, h3⟩ := h
  rw [wrongF_at all hp hd, hc] at h1
  simpa using h1
theorem WInv.right {v : Int} {n : Nat} {p : List (List Int)} {d : List Bool} {W k : Nat} {all : List (List Int)} (h : WInv v n p d W k all) {c : List Int} (hp : p[k]? = some c) (hd : d[k]? = some false) (hc : atB all c = true) (hv : clauseB v c = true) : WInv v n p d W (k + 1) (all ++ [c]) := by
  obtain ⟨h1, h2, h3⟩ := h
  rw [wrongF_at all hp hd, hc] at h1
  simp at h1
  refine ⟨by omega, fun x hx => ?_, by rw [List.length_append, List.length_singleton]; omega⟩
  rcases List.mem_append.1 hx with q | q
  · exact h2 x q
  · rw [List.mem_singleton.1 q]; exact hv
theorem WInv.done {v : Int} {n : Nat} {p : List (List Int)} {d : List Bool} {W : Nat} {all : List (List Int)} (h : WInv v n p d W p.length all) : W = p.length := by
  have := h.1
  rw [wrongF_end all (Nat.le_refl _)] at this
  omega
/-- a proof's own bounds -/
def proofB (v : Int) (p : List (List Int)) : Bool := decide (p.length ≤ 300) && p.all (clauseB v)
theorem proofB_len {v : Int} {p : List (List Int)} (h : proofB v p = true) : p.length ≤ 300 := by
  simp only [proofB, Bool.and_eq_true, decide_eq_true_eq] at h
  exact h.1
theorem proofB_cl {v : Int} {p : List (List Int)} (h : proofB v p = true) : ∀ c ∈ p, clauseB v c = true := by
  simp only [proofB, Bool.and_eq_true, List.all_eq_true] at h
  exact h.2
theorem proofB_of {v : Int} {p : List (List Int)} (h1 : p.length ≤ 300) (h2 : ∀ c ∈ p, clauseB v c = true) : proofB v p = true := by
  simp only [proofB, Bool.and_eq_true, decide_eq_true_eq, List.all_eq_true]
  exact ⟨h1, h2⟩
def endsB (p : List (List Int)) : Bool := decide (p.getLast? = some [])
theorem endsB_nil : endsB [] = false := rfl
theorem endsB_at {p : List (List Int)} {c : List Int} {k : Nat} (hk : p.length = k + 1) (hc : p[k]? = some c) : endsB p = decide (c.length = 0) := by
  unfold endsB
  rw [List.getLast?_eq_getElem?, hk, Nat.add_sub_cancel, hc]
  cases c <;> simp
def zerosB (p : List (List Int)) : List Bool := List.replicate p.length false
/-- what CheckProof answers -/
def CheckR (v : Int) (L p : List (List Int)) (is : Bool) (at_ : Nat) (ok : Bool) : Prop :=
  ok = (goodB v L && proofB v p) ∧ (ok = true → at_ = wrongF L p (zerosB p) ∧ is = (decide (at_ = p.length) && endsB p)) ∧ (ok = false → is = false ∧ at_ = 0)
theorem checkR_any (v : Int) (L p : List (List Int)) : ∃ is at_ ok, CheckR v L p is at_ ok := by
  cases h : (goodB v L && proofB v p)
  · exact ⟨false, 0, false, h.symm, by simp, fun _ => ⟨rfl, rfl⟩⟩
  · exact ⟨_, _, true, h.symm, fun _ => ⟨rfl, rfl⟩, by simp⟩
theorem CheckR.no {v : Int} {L p : List (List Int)} {is ok : Bool} {at_ : Nat} (h : CheckR v L p is at_ ok) (hn : (goodB v L && proofB v p) = false) : is = false ∧ at_ = 0 ∧ ok = false := by
  obtain ⟨h1, _, h3⟩ := h
  rw [hn] at h1
  have := h3 h1
  exact ⟨this.1, this.2, h1⟩
theorem CheckR.yes {v : Int} {L p : List (List Int)} {is ok : Bool} {at_ : Nat} (h : CheckR v L p is at_ ok) (h1 : goodB v L = true) (h2 : proofB v p = true) : at_ = wrongF L p (zerosB p) ∧ is = (decide (at_ = p.length) && endsB p) ∧ ok = true := by
  have e := h.1
  rw [h1, h2] at e
  have := h.2.1 e
  exact ⟨this.1, this.2, e⟩
theorem CheckR.le {v : Int} {L p : List (List Int)} {is ok : Bool} {at_ : Nat} (h : CheckR v L p is at_ ok) : at_ ≤ p.length := by
  cases ok
  · rw [(h.2.2 rfl).2]; omega
  · rw [(h.2.1 rfl).1]; exact wrongF_le
theorem CheckR.few {v : Int} {L p : List (List Int)} {is ok : Bool} {at_ : Nat} (h : CheckR v L p is at_ ok) : at_ ≤ 300 := by
  cases q : (goodB v L && proofB v p)
  · have := (h.no q).2.1; omega
  · rw [Bool.and_eq_true] at q
    have := proofB_len q.2
    have := h.le
    omega
theorem CheckR.acc {v : Int} {L p : List (List Int)} {is ok : Bool} {at_ : Nat} (h : CheckR v L p is at_ ok) (hi : is = true) : goodB v L = true ∧ proofB v p = true ∧ chainB L p = true ∧ endsB p = true ∧ at_ = p.length ∧ ok = true := by
  cases q : (goodB v L && proofB v p)
  · have := (h.no q).1; rw [hi] at this; simp at this
  · rw [Bool.and_eq_true] at q
    obtain ⟨h1, h2, h3⟩ := h.yes q.1 q.2
    rw [hi] at h2
    have h2' := h2.symm
    rw [Bool.and_eq_true, decide_eq_true_eq] at h2'
    have hc := wrongF_chain (L := L) (p := p) (d := zerosB p) (by simp [zerosB])
    rw [← h1, decide_eq_true h2'.1, zerosB, keptL_all] at hc
    exact ⟨q.1, q.2, hc.symm, h2'.2, h2'.1, h3⟩
theorem CheckR.of_chain {v : Int} {L p : List (List Int)} (h1 : goodB v L = true) (h2 : proofB v p = true) (h3 : chainB L p = true) (h4 : endsB p = true) : CheckR v L p true p.length true := by
  have hc := wrongF_chain (L := L) (p := p) (d := zerosB p) (by simp [zerosB])
  rw [zerosB, keptL_all, h3, decide_eq_true_eq] at hc
  refine ⟨by rw [h1, h2]; rfl, fun _ => ⟨by rw [zerosB, hc], by rw [h4]; simp⟩, by simp⟩
/-- the indexes, below k, of what was not dropped -/
def idxN (d : List Bool) (k : Nat) : List Int := ((List.range k).filter (fun i => d[i]? == some false)).map (fun (i : Nat) => (i : Int))
theorem idxN_zero (d : List Bool) : idxN d 0 = [] := rfl
theorem idxN_keep {d : List Bool} {k : Nat} (h : d[k]? = some false) : idxN d (k + 1) = idxN d k ++ [(k : Int)] := by
  unfold idxN
  rw [List.range_succ, List.filter_append, List.map_append]
  simp [h]
theorem idxN_drop {d : List Bool} {k : Nat} (h : d[k]? = some true) : idxN d (k + 1) = idxN d k := by
  unfold idxN
  rw [List.range_succ, List.filter_append, List.map_append]
  simp [h]
theorem idxN_len (d : List Bool) (k : Nat) : (idxN d k).length ≤ k := by
  unfold idxN
  rw [List.length_map]
  have := List.length_filter_le (fun i => d[i]? == some false) (List.range k)
  simpa using this
theorem idxN_mem {d : List Bool} {k : Nat} {x : Int} (h : x ∈ idxN d k) : ∃ i : Nat, x = i ∧ i < k ∧ d[i]? = some false := by
  unfold idxN at h
  obtain ⟨i, hi, rfl⟩ := List.mem_map.1 h
  rw [List.mem_filter, List.mem_range] at hi
  exact ⟨i, rfl, hi.1, by simpa using hi.2⟩
/-- the clauses at some indexes -/
def atIdx (p : List (List Int)) (r : List Int) : List (List Int) := r.map (fun k => p[k.toNat]?.getD [])
theorem atIdx_len (p : List (List Int)) (r : List Int) : (atIdx p r).length = r.length := by simp [atIdx]
theorem atIdx_snoc {p : List (List Int)} {r : List Int} {k : Nat} {c : List Int} (h : p[k]? = some c) : atIdx p (r ++ [(k : Int)]) = atIdx p r ++ [c] := by
  simp [atIdx, h]
theorem atIdx_at {p : List (List Int)} {r : List Int} {j k : Nat} {c : List Int} (hr : r[j]? = some (k : Int)) (h : p[k]? = some c) : (atIdx p r)[j]? = some c := by
  simp [atIdx, hr, h]
theorem keptL_idx {p : List (List Int)} {d : List Bool} (hl : p.length = d.length) (k : Nat) (hk : k ≤ p.length) : keptL (p.take k) (d.take k) = atIdx p (idxN d k) := by
  induction k with
  | zero => simp [keptL, idxN_zero, atIdx]
  | succ k ih =>
    obtain ⟨c, hc⟩ : ∃ c, p[k]? = some c := ⟨_, List.getElem?_eq_getElem (by omega)⟩
    obtain ⟨b, hb⟩ : ∃ b, d[k]? = some b := ⟨_, List.getElem?_eq_getElem (by omega)⟩
    rw [keptL_at hc hb, ih (by omega)]
    cases b
    · rw [idxN_keep hb, atIdx_snoc hc]
      simp
    · rw [idxN_drop hb]
      simp
theorem keptL_idx' {p : List (List Int)} {d : List Bool} (hl : p.length = d.length) : keptL p d = atIdx p (idxN d p.length) := by
  have := keptL_idx hl p.length (Nat.le_refl _)
  rw [List.take_of_length_le (Nat.le_refl _), List.take_of_length_le (by omega)] at this
  exact this
/-- which clauses go -/
def needD (L p : List (List Int)) : List Bool := trimN L p (p.length - 1) (zerosB p)
theorem needD_len (L p : List (List Int)) : (needD L p).length = p.length := by
  unfold needD zerosB
  rw [trimN_len, List.length_replicate]
/-- what NeededIn answers -/
def NeedR (v : Int) (L p : List (List Int)) (r : List Int) (ok : Bool) : Prop :=
  ∃ at_ ok0, CheckR v L p ok at_ ok0 ∧ r = if ok then idxN (needD L p) p.length else []
theorem needR_any (v : Int) (L p : List (List Int)) : ∃ r ok, NeedR v L p r ok := by
  obtain ⟨is, at_, ok, h⟩ := checkR_any v L p
  exact ⟨_, is, at_, ok, h, rfl⟩
theorem NeedR.few {v : Int} {L p : List (List Int)} {r : List Int} {ok : Bool} (h : NeedR v L p r ok) : r.length ≤ 300 := by
  obtain ⟨at_, ok0, h1, h2⟩ := h
  cases ok
  · rw [h2]; simp
  · have := proofB_len (h1.acc rfl).2.1
    have := idxN_len (needD L p) p.length
    rw [h2]
    simp
    omega
/-- what TrimProof answers -/
def TrimR (v : Int) (L p : List (List Int)) (r : List (List Int)) (ok : Bool) : Prop :=
  ∃ i, NeedR v L p i ok ∧ r = atIdx p i
theorem trimR_any (v : Int) (L p : List (List Int)) : ∃ r ok, TrimR v L p r ok := by
  obtain ⟨i, ok, h⟩ := needR_any v L p
  exact ⟨_, ok, i, h, rfl⟩
theorem NeedR.at {v : Int} {L p : List (List Int)} {r : List Int} {ok : Bool} (h : NeedR v L p r ok) {x : Int} (hx : x ∈ r) : ∃ (i : Nat) (c : List Int), x = i ∧ p[i]? = some c ∧ c.length ≤ 12 := by
  obtain ⟨at_, ok0, h1, h2⟩ := h
  cases ok
  · rw [h2] at hx; simp at hx
  · rw [h2] at hx
    obtain ⟨i, rfl, hi, _⟩ := idxN_mem (by simpa using hx)
    exact ⟨i, _, rfl, List.getElem?_eq_getElem hi, clauseB_len (proofB_cl (h1.acc rfl).2.1 _ (List.getElem_mem hi))⟩
theorem TrimR.small {v : Int} {L p : List (List Int)} {r : List (List Int)} {ok : Bool} (h : TrimR v L p r ok) : r.length ≤ 300 ∧ tot r ≤ 3600 := by
  obtain ⟨i, h1, rfl⟩ := h
  have hf := h1.few
  have ht := tot_few (R := atIdx p i) (fun c hc => by
    unfold atIdx at hc
    obtain ⟨x, hx, rfl⟩ := List.mem_map.1 hc
    obtain ⟨k, c, rfl, hk, hl⟩ := h1.at hx
    simpa [hk] using hl)
  rw [atIdx_len] at ht ⊢
  unfold tot
  omega
/-- what ProofOf answers -/
def PfR (v : Int) (L : List (List Int)) (r : List (List Int)) (ok : Bool) : Prop :=
  ∃ s M R ok0, SolR v L s M R ok0 ∧ ok = (ok0 && !s) ∧ r = if ok then R else []
theorem pfR_any (v : Int) (L : List (List Int)) : ∃ r ok, PfR v L r ok := by
  obtain ⟨s, M, R, ok, h⟩ := solR_any v L
  exact ⟨_, _, s, M, R, ok, h, rfl, rfl⟩
theorem PfR.small {v : Int} {L : List (List Int)} {r : List (List Int)} {ok : Bool} (h : PfR v L r ok) : r.length ≤ 300 ∧ tot r ≤ 3600 := by
  obtain ⟨s, M, R, ok0, h1, _, h3⟩ := h
  have := h1.small
  rw [h3]
  split
  · exact ⟨this.2.1, this.2.2.1⟩
  · simp [tot]
/-- what RefuteBy answers -/
def RefR (v : Int) (L : List (List Int)) (r ok : Bool) : Prop :=
  ∃ s M R, SolR v L s M R ok ∧ r = (ok && !s)
theorem refR_any (v : Int) (L : List (List Int)) : ∃ r ok, RefR v L r ok := by
  obtain ⟨s, M, R, ok, h⟩ := solR_any v L
  exact ⟨_, ok, s, M, R, h, rfl⟩
/-- what Solve learned, where it finds no model, is accepted -/
theorem SolR.check {v : Int} {L : List (List Int)} {M : List Bool} {R : List (List Int)} (h : SolR v L false M R true) : goodB v L = true ∧ CheckR v L R true R.length true := by
  cases q : goodB v L
  · have := (h.no q).2.2.2; simp at this
  · have hs := h.small
    obtain ⟨n, _, hn⟩ := (h.start q).open
    have hc := solve_chain (by simpa using hn) (by rfl)
    exact ⟨rfl, CheckR.of_chain q (proofB_of hs.2.1 hs.2.2.2) hc.1 (by unfold endsB; rw [hc.2 rfl]; rfl)⟩
/-- what ProofSize answers -/
def SizeR (p : List (List Int)) (n : Nat) (ok : Bool) : Prop :=
  ok = (decide (p.length ≤ 300) && p.all (fun c => decide (c.length ≤ 12))) ∧ n = if ok then tot p else 0
theorem SizeR.few {p : List (List Int)} {n : Nat} {ok : Bool} (h : SizeR p n ok) : n ≤ 3600 := by
  obtain ⟨h1, h2⟩ := h
  cases ok
  · rw [h2]; simp
  · have h1' := h1.symm
    simp only [Bool.and_eq_true, decide_eq_true_eq, List.all_eq_true] at h1'
    have := tot_few (R := p) h1'.2
    rw [h2]
    unfold tot
    simp
    omega
end Go.Proofs.Ytkkoeeoalkjhoaa
