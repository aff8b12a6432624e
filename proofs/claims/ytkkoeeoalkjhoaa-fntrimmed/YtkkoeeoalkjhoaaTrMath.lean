/-
  Proofs with clauses dropped: plain lists.
-/
import Derived.Test.YtkkoeeoalkjhoaaPfMath
namespace Go.Proofs.Ytkkoeeoalkjhoaa

/-- the clauses that were not dropped -/
def keptL : List (List Int) → List Bool → List (List Int)
  | c :: t, d :: ds => if d then keptL t ds else c :: keptL t ds
  | _, _ => []
theorem keptL_app {a b : List (List Int)} {x y : List Bool} (h : a.length = x.length) : keptL (a ++ b) (x ++ y) = keptL a x ++ keptL b y := by
  induction a generalizing x with
  | nil => cases x with
    | nil => simp [keptL]
    | cons d ds => simp at h
  | cons c t ih => cases x with
    | nil => simp at h
    | cons d ds =>
      have := ih (x := ds) (by simpa using h)
      rw [List.cons_append, List.cons_append, keptL, keptL, this]
      split <;> rfl
theorem keptL_sub {a : List (List Int)} {x : List Bool} : ∀ c ∈ keptL a x, c ∈ a := by
  induction a generalizing x with
  | nil => intro c hc; simp [keptL] at hc
  | cons c t ih => cases x with
    | nil => intro c hc; simp [keptL] at hc
    | cons d ds =>
      intro e he
      rw [keptL] at he
      split at he
      · exact List.mem_cons_of_mem _ (ih e he)
      · simp at he
        rcases he with rfl | he
        · simp
        · exact List.mem_cons_of_mem _ (ih e he)
theorem keptL_all (a : List (List Int)) : keptL a (List.replicate a.length false) = a := by
  induction a with
  | nil => rfl
  | cons c t ih =>
    rw [List.length_cons, List.replicate_succ, keptL, ih]
    rfl
theorem keptL_at {p : List (List Int)} {d : List Bool} {i : Nat} {c : List Int} {b : Bool} (hp : p[i]? = some c) (hd : d[i]? = some b) : keptL (p.take (i + 1)) (d.take (i + 1)) = keptL (p.take i) (d.take i) ++ (if b then [] else [c]) := by
  have h1 := (List.getElem?_eq_some_iff.1 hp).1
  have h2 := (List.getElem?_eq_some_iff.1 hp).2
  have h3 := (List.getElem?_eq_some_iff.1 hd).1
  have h4 := (List.getElem?_eq_some_iff.1 hd).2
  rw [List.take_succ_eq_append_getElem h1, List.take_succ_eq_append_getElem h3, h2, h4, keptL_app (by rw [List.length_take, List.length_take]; omega)]
  congr 1
/-- a clause more is dropped -/
theorem keptL_drop {p : List (List Int)} {d : List Bool} {i : Nat} (hl : p.length = d.length) (hi : i < p.length) : keptL p (d.set i true) = keptL (p.take i) (d.take i) ++ keptL (p.drop (i + 1)) (d.drop (i + 1)) := by
  have e1 : p = p.take i ++ (p[i] :: p.drop (i + 1)) := by rw [← List.drop_eq_getElem_cons hi, List.take_append_drop]
  have e2 : d.set i true = d.take i ++ (true :: d.drop (i + 1)) := by
    rw [List.set_eq_take_append_cons_drop, if_pos (by omega)]
  rw [e2]
  conv => lhs; rw [e1]
  rw [keptL_app (by rw [List.length_take, List.length_take]; omega)]
  congr 1
theorem keptL_keep {p : List (List Int)} {d : List Bool} {i : Nat} {c : List Int} (hl : p.length = d.length) (hc : p[i]? = some c) (hd : d[i]? = some false) : keptL p d = keptL (p.take i) (d.take i) ++ (c :: keptL (p.drop (i + 1)) (d.drop (i + 1))) := by
  have hi := (List.getElem?_eq_some_iff.1 hc).1
  have h2 := (List.getElem?_eq_some_iff.1 hc).2
  have h3 := (List.getElem?_eq_some_iff.1 hd).1
  have h4 := (List.getElem?_eq_some_iff.1 hd).2
  have e1 : p = p.take i ++ (c :: p.drop (i + 1)) := by rw [← h2, ← List.drop_eq_getElem_cons hi, List.take_append_drop]
  have e2 : d = d.take i ++ (false :: d.drop (i + 1)) := by rw [← h4, ← List.drop_eq_getElem_cons h3, List.take_append_drop]
  conv => lhs; rw [e1, e2]
  rw [keptL_app (by rw [List.length_take, List.length_take]; omega)]
  congr 1
/-- from the i-th clause back to the first: one goes if the rest is still a chain -/
def trimN (L p : List (List Int)) : Nat → List Bool → List Bool
  | 0, d => d
  | i + 1, d => trimN L p i (if chainB L (keptL p (d.set i true)) then d.set i true else d)
theorem trimN_len (L p : List (List Int)) (i : Nat) (d : List Bool) : (trimN L p i d).length = d.length := by
  induction i generalizing d with
  | zero => rfl
  | succ i ih => rw [trimN, ih]; split <;> simp
theorem trimN_drop (L p : List (List Int)) (i : Nat) (d : List Bool) : (trimN L p i d).drop i = d.drop i := by
  induction i generalizing d with
  | zero => rfl
  | succ i ih =>
    rw [trimN]
    have : ∀ e : List Bool, (trimN L p i e).drop (i + 1) = e.drop (i + 1) := fun e => by
      have := congrArg (List.drop 1) (ih e)
      rw [List.drop_drop, List.drop_drop] at this
      exact this
    rw [this]
    split
    · rw [List.drop_set]
      rw [if_pos (by omega)]
    · rfl
theorem trimN_at {L p : List (List Int)} {i j : Nat} {d : List Bool} (h : i ≤ j) : (trimN L p i d)[j]? = d[j]? := by
  have := congrArg (fun l => l[j - i]?) (trimN_drop L p i d)
  simp only [List.getElem?_drop] at this
  rw [show i + (j - i) = j by omega] at this
  exact this
theorem trimN_chain {L p : List (List Int)} {i : Nat} {d : List Bool} (h : chainB L (keptL p d) = true) : chainB L (keptL p (trimN L p i d)) = true := by
  induction i generalizing d with
  | zero => exact h
  | succ i ih =>
    rw [trimN]
    split
    · rename_i q; exact ih q
    · exact ih h
/-- of what is left none can be dropped -/
theorem trimN_min {v : Int} (hv : v ≤ 12) {L p : List (List Int)} (hL : ∀ c ∈ L, clauseB v c = true) (hp : ∀ c ∈ p, clauseB v c = true) {m : Nat} {d : List Bool} (hl : p.length = d.length) (hm : m ≤ p.length) (hd : d.take m = List.replicate m false) (hc : chainB L (keptL p d) = true) :
    ∀ i, i < m → (trimN L p m d)[i]? = some false → chainB L (keptL p ((trimN L p m d).set i true)) = false := by
  induction m generalizing d with
  | zero => intro i hi; omega
  | succ m ih =>
    rw [trimN]
    have hdm : d.take m = List.replicate m false := by
      have := congrArg (List.take m) hd
      rw [List.take_take, List.take_replicate] at this
      rw [show min m (m + 1) = m by omega] at this
      exact this
    by_cases q : chainB L (keptL p (d.set m true)) = true
    · rw [if_pos q]
      intro i hi hf
      by_cases e : i = m
      · subst e
        rw [trimN_at (Nat.le_refl _), List.getElem?_set_self (by omega)] at hf
        simp at hf
      · exact ih (d := d.set m true) (by simpa using hl) (by omega) (by rw [List.take_set_of_le (Nat.le_refl _)]; exact hdm) q i (by omega) hf
    · rw [if_neg q]
      intro i hi hf
      by_cases e : i = m
      · subst e
        cases r : chainB L (keptL p ((trimN L p i d).set i true))
        · rfl
        · exfalso
          apply q
          rw [keptL_drop (by rw [trimN_len]; exact hl) (by omega), chainB_app, Bool.and_eq_true] at r
          have hdr : (trimN L p i d).drop (i + 1) = d.drop (i + 1) := by
            have := congrArg (List.drop 1) (trimN_drop L p i d)
            rw [List.drop_drop, List.drop_drop] at this
            exact this
          rw [hdr] at r
          have hpre : keptL (p.take i) (d.take i) = p.take i := by
            rw [hdm]
            have := keptL_all (p.take i)
            rw [List.length_take, show min i p.length = i by omega] at this
            exact this
          have hchain : chainB L (p.take i) = true := by
            have e1 : p = p.take i ++ p.drop i := (List.take_append_drop i p).symm
            have e2 : d = d.take i ++ d.drop i := (List.take_append_drop i d).symm
            have h2 := hc
            rw [e1, e2, keptL_app (by rw [List.length_take, List.length_take]; omega), chainB_app, Bool.and_eq_true] at h2
            rw [← hpre]
            exact h2.1
          rw [keptL_drop hl (by omega), hpre, chainB_app, hchain]
          simp only [Bool.true_and]
          refine chain_mono hv ?_ (fun c hc => hp c (List.mem_of_mem_drop (keptL_sub c hc))) ?_ r.2
          · intro c hc
            rcases List.mem_append.1 hc with h | h
            · exact hL c h
            · exact hp c (List.mem_of_mem_take h)
          · intro c hc
            rcases List.mem_append.1 hc with h | h
            · exact List.mem_append.2 (.inl h)
            · exact List.mem_append.2 (.inr (keptL_sub c h))
      · exact ih hl (by omega) hdm hc i (by omega) hf
end Go.Proofs.Ytkkoeeoalkjhoaa
