/-
  Literals, sets of literals as bits, clauses, propagation: plain lists.
-/
import Derived.Test.YtklcfbjaodildaaRows
namespace Go.Proofs.Ytklcfbjaodildaa

/-- a literal of so many variables -/
def litB (v x : Int) : Bool := decide (x ≠ 0) && (decide (-v ≤ x) && decide (x ≤ v))
theorem litB_iff {v x : Int} : litB v x = true ↔ x ≠ 0 ∧ -v ≤ x ∧ x ≤ v := by simp [litB]
/-- all between -12 and 12 -/
def In12 (l : List Int) : Prop := ∀ x, x ∈ l → -12 ≤ x ∧ x ≤ 12
theorem In12.snoc {l : List Int} {x : Int} (h : In12 l) (hx : -12 ≤ x ∧ x ≤ 12) : In12 (l ++ [x]) := by
  intro y hy
  simp at hy
  rcases hy with hy | rfl
  · exact h y hy
  · exact hx
theorem In12.nil : In12 [] := by intro y hy; simp at hy
/-- the place of a literal's bit -/
def bitAt (x : Int) : Nat := (x + 12).toNat
theorem bitAt_inj {x y : Int} (hx : -12 ≤ x) (hy : -12 ≤ y) (h : bitAt x = bitAt y) : x = y := by unfold bitAt at h; omega
theorem bitAt_lt {x : Int} (h : x ≤ 12) : bitAt x < 25 := by unfold bitAt; omega
/-- a set of literals as a number -/
def setN (l : List Int) : Nat := l.foldl (fun s x => s ||| 2 ^ bitAt x) 0
theorem setN_snoc (l : List Int) (x : Int) : setN (l ++ [x]) = setN l ||| 2 ^ bitAt x := by simp [setN, List.foldl_append]
theorem foldl_bit (l : List Int) (s : Nat) (x : Int) (hx : -12 ≤ x) (h : In12 l) :
    (l.foldl (fun s x => s ||| 2 ^ bitAt x) s).testBit (bitAt x) = (s.testBit (bitAt x) || decide (x ∈ l)) := by
  induction l generalizing s with
  | nil => simp
  | cons y t ih =>
    rw [List.foldl_cons, ih _ (fun z hz => h z (by simp [hz]))]
    rw [Nat.testBit_or, Nat.testBit_two_pow]
    by_cases e : y = x
    · subst e; simp
    · have hne : bitAt y ≠ bitAt x := fun q => e (bitAt_inj (h y (by simp)).1 hx q)
      have hne' : ¬ x = y := fun q => e q.symm
      simp [hne, hne']
theorem setN_bit (l : List Int) (x : Int) (hx : -12 ≤ x) (h : In12 l) : (setN l).testBit (bitAt x) = decide (x ∈ l) := by
  unfold setN
  rw [foldl_bit l 0 x hx h]
  simp
theorem foldl_lt (l : List Int) (s : Nat) (hs : s < 2 ^ 25) (h : In12 l) : l.foldl (fun s x => s ||| 2 ^ bitAt x) s < 2 ^ 25 := by
  induction l generalizing s with
  | nil => simpa using hs
  | cons y t ih =>
    rw [List.foldl_cons]
    exact ih _ (Nat.or_lt_two_pow hs (Nat.pow_lt_pow_right (by omega) (bitAt_lt (h y (by simp)).2))) (fun z hz => h z (by simp [hz]))
theorem setN_lt (l : List Int) (h : In12 l) : setN l < 2 ^ 25 := foldl_lt l 0 (by omega) h
theorem setN_and (l : List Int) (x : Int) (hx : -12 ≤ x) (h : In12 l) : ((setN l &&& 2 ^ bitAt x) != 0) = decide (x ∈ l) := by
  have hb := setN_bit l x hx h
  by_cases e : x ∈ l
  · rw [decide_eq_true e] at hb ⊢
    have : (setN l &&& 2 ^ bitAt x).testBit (bitAt x) = true := by rw [Nat.testBit_and, hb, Nat.testBit_two_pow_self]; rfl
    have hne : setN l &&& 2 ^ bitAt x ≠ 0 := by intro q; rw [q] at this; simp at this
    simpa using hne
  · rw [decide_eq_false e] at hb ⊢
    have : setN l &&& 2 ^ bitAt x = 0 := by
      apply Nat.eq_of_testBit_eq
      intro i
      rw [Nat.testBit_and, Nat.testBit_two_pow]
      by_cases q : bitAt x = i
      · subst q; simp [hb]
      · simp [q]
    simp [this]

/-- what is left of a clause is in order behind what was seen -/
def clOk (v : Int) (seen : List Int) : List Int → Bool
  | [] => true
  | x :: t => (litB v x && (!seen.contains x && !seen.contains (-x))) && clOk v (seen ++ [x]) t
/-- a clause -/
def clauseB (v : Int) (c : List Int) : Bool := decide (c.length ≤ 12) && clOk v [] c
theorem clOk_at (v : Int) (c : List Int) (k : Nat) (x : Int) (h : c[k]? = some x) :
    clOk v (c.take k) (c.drop k) = ((litB v x && (!(c.take k).contains x && !(c.take k).contains (-x))) && clOk v (c.take (k + 1)) (c.drop (k + 1))) := by
  have hlt : k < c.length := (List.getElem?_eq_some_iff.1 h).1
  have e : c[k] = x := (List.getElem?_eq_some_iff.1 h).2
  rw [List.drop_eq_getElem_cons hlt, clOk, List.take_succ_eq_append_getElem hlt, e]
theorem clOk_end (v : Int) (c : List Int) : clOk v (c.take c.length) (c.drop c.length) = true := by simp [clOk]
theorem clOk_lits {v : Int} {c seen : List Int} (h : clOk v seen c = true) : ∀ x ∈ c, litB v x = true := by
  induction c generalizing seen with
  | nil => intro x hx; simp at hx
  | cons y t ih =>
    simp only [clOk, Bool.and_eq_true] at h
    intro x hx
    simp at hx
    rcases hx with rfl | hx
    · exact h.1.1
    · exact ih h.2 x hx
theorem clauseB_lits {v : Int} {c : List Int} (h : clauseB v c = true) : ∀ x ∈ c, litB v x = true := by
  simp only [clauseB, Bool.and_eq_true] at h
  exact clOk_lits h.2
theorem clauseB_len {v : Int} {c : List Int} (h : clauseB v c = true) : c.length ≤ 12 := by
  simp only [clauseB, Bool.and_eq_true, decide_eq_true_eq] at h
  exact h.1
theorem clOk_free {v : Int} {c seen : List Int} (h : clOk v seen c = true) : ∀ x ∈ c, x ∉ seen ∧ -x ∉ seen := by
  induction c generalizing seen with
  | nil => intro x hx; simp at hx
  | cons y t ih =>
    simp only [clOk, Bool.and_eq_true] at h
    intro x hx
    simp at hx
    rcases hx with rfl | hx
    · simpa using h.1.2
    · have := ih h.2 x hx
      simp at this
      exact ⟨this.1.1, this.2.1⟩
/-- no literal with its negation -/
def Cons (l : List Int) : Prop := ∀ x, x ∈ l → -x ∉ l
theorem clOk_cons {v : Int} {c seen : List Int} (h : clOk v seen c = true) (hs : Cons seen) : Cons (seen ++ c) := by
  induction c generalizing seen with
  | nil => simpa using hs
  | cons y t ih =>
    simp only [clOk, Bool.and_eq_true] at h
    have h1 := litB_iff.1 h.1.1
    have h2 : y ∉ seen ∧ -y ∉ seen := by simpa using h.1.2
    have := ih h.2 (by
      intro x hx hn
      simp at hx hn
      rcases hx with hx | rfl
      · rcases hn with hn | hn
        · exact hs x hx hn
        · exact h2.2 (by rw [show -y = x by omega]; exact hx)
      · rcases hn with hn | hn
        · exact h2.2 hn
        · omega)
    simpa using this
theorem clauseB_cons {v : Int} {c : List Int} (h : clauseB v c = true) : Cons c := by
  simp only [clauseB, Bool.and_eq_true] at h
  have := clOk_cons h.2 (fun x hx => by simp at hx)
  simpa using this
theorem lits_in12 {v : Int} {c : List Int} (hv : v ≤ 12) (h : ∀ x ∈ c, litB v x = true) : In12 c := by
  intro x hx
  have := litB_iff.1 (h x hx)
  omega

/-- valid clauses -/
def goodB (v : Int) (L : List (List Int)) : Bool := (decide (0 ≤ v) && decide (v ≤ 12)) && (decide (L.length ≤ 60) && L.all (clauseB v))
theorem all_at (p : List Int → Bool) (L : List (List Int)) (k : Nat) (c : List Int) (h : L[k]? = some c) : (L.drop k).all p = (p c && (L.drop (k + 1)).all p) := by
  have hlt : k < L.length := (List.getElem?_eq_some_iff.1 h).1
  have e : L[k] = c := (List.getElem?_eq_some_iff.1 h).2
  rw [List.drop_eq_getElem_cons hlt, List.all_cons, e]
theorem any_at (p : Int → Bool) (L : List Int) (k : Nat) (c : Int) (h : L[k]? = some c) : (L.drop k).any p = (p c || (L.drop (k + 1)).any p) := by
  have hlt : k < L.length := (List.getElem?_eq_some_iff.1 h).1
  have e : L[k] = c := (List.getElem?_eq_some_iff.1 h).2
  rw [List.drop_eq_getElem_cons hlt, List.any_cons, e]

/-- duplicates go; none where a variable has both signs -/
def cleanF (out : List Int) : List Int → Option (List Int)
  | [] => some out
  | x :: t => if out.contains (-x) then none else cleanF (if out.contains x then out else out ++ [x]) t
theorem cleanF_at (out c : List Int) (k : Nat) (x : Int) (h : c[k]? = some x) :
    cleanF out (c.drop k) = if out.contains (-x) then none else cleanF (if out.contains x then out else out ++ [x]) (c.drop (k + 1)) := by
  have hlt : k < c.length := (List.getElem?_eq_some_iff.1 h).1
  have e : c[k] = x := (List.getElem?_eq_some_iff.1 h).2
  rw [List.drop_eq_getElem_cons hlt, cleanF, e]
def cleanB (c : List Int) : Option (List Int) := if c.length ≤ 40 ∧ c.all (litB 12) = true then cleanF [] c else none
theorem cleanF_len {out c o : List Int} (h : cleanF out c = some o) : o.length ≤ out.length + c.length := by
  induction c generalizing out with
  | nil => simp [cleanF] at h; simp [h]
  | cons x t ih =>
    rw [cleanF] at h
    split at h
    · simp at h
    · have := ih h
      split at this <;> simp at this ⊢ <;> omega
/-- the resolvent's literals, duplicates and all -/
def resAll (a b : List Int) (v : Int) : List Int := a.filter (fun x => x != v) ++ b.filter (fun x => x != -v)
def resB (a b : List Int) (v : Int) : Option (List Int) :=
  if clauseB 12 a = true ∧ clauseB 12 b = true ∧ 1 ≤ v ∧ v ≤ 12 ∧ v ∈ a ∧ -v ∈ b then cleanF [] (resAll a b v) else none
theorem filter_at (p : Int → Bool) (c : List Int) (k : Nat) (x : Int) (h : c[k]? = some x) : (c.take (k + 1)).filter p = (c.take k).filter p ++ (if p x then [x] else []) := by
  have hlt : k < c.length := (List.getElem?_eq_some_iff.1 h).1
  have e : c[k] = x := (List.getElem?_eq_some_iff.1 h).2
  rw [List.take_succ_eq_append_getElem hlt, List.filter_append, e]
  congr 1
  by_cases q : p x <;> simp [q]
theorem resAll_clean {a b : List Int} {v : Int} (ha : clauseB 12 a = true) (hb : clauseB 12 b = true) : (resAll a b v).length ≤ 40 ∧ (resAll a b v).all (litB 12) = true := by
  constructor
  · have h1 := clauseB_len ha
    have h2 := clauseB_len hb
    have h3 := List.length_filter_le (fun x => x != v) a
    have h4 := List.length_filter_le (fun x => x != -v) b
    unfold resAll
    rw [List.length_append]
    omega
  · rw [List.all_eq_true]
    intro x hx
    unfold resAll at hx
    simp at hx
    rcases hx with hx | hx
    · exact clauseB_lits ha x hx.1
    · exact clauseB_lits hb x hx.1

/-- is a literal true in a model -/
def litT (M : List Bool) (x : Int) : Bool := if x < 0 then !(M[(-x - 1).toNat]?.getD false) else M[(x - 1).toNat]?.getD false
def holdsB (M : List Bool) (L : List (List Int)) : Bool := L.all fun c => c.any (litT M)
/-- a model's literals -/
def trueL (M : List Bool) : List Int := (List.range M.length).map fun (i : Nat) => if M[i]?.getD false then (i : Int) + 1 else -(i : Int) - 1
theorem trueL_in12 {M : List Bool} (h : M.length ≤ 12) : In12 (trueL M) := by
  intro x hx
  simp only [trueL, List.mem_map, List.mem_range] at hx
  obtain ⟨i, hi, rfl⟩ := hx
  split <;> omega
theorem trueL_mem {M : List Bool} {x : Int} (h : litB M.length x = true) : decide (x ∈ trueL M) = litT M x := by
  have h1 := litB_iff.1 h
  rw [Bool.eq_iff_iff, decide_eq_true_eq]
  simp only [trueL, List.mem_map, List.mem_range, litT]
  constructor
  · rintro ⟨i, hi, rfl⟩
    by_cases q : M[i]?.getD false = true
    · rw [if_pos q, if_neg (by omega)]
      simpa using q
    · rw [if_neg q, if_pos (by omega)]
      rw [show (-(-(i : Int) - 1) - 1).toNat = i by omega]
      simp at q
      simp [q]
  · intro q
    by_cases hx : x < 0
    · rw [if_pos hx] at q
      refine ⟨(-x - 1).toNat, by omega, ?_⟩
      rw [if_neg (by simp at q; simp [q])]
      omega
    · rw [if_neg hx] at q
      refine ⟨(x - 1).toNat, by omega, ?_⟩
      rw [if_pos q]
      omega
theorem trueL_take (M : List Bool) (k : Nat) (b : Bool) (h : M[k]? = some b) : trueL (M.take (k + 1)) = trueL (M.take k) ++ [if b then (k : Int) + 1 else -(k : Int) - 1] := by
  have hlt : k < M.length := (List.getElem?_eq_some_iff.1 h).1
  unfold trueL
  rw [List.length_take, List.length_take, Nat.min_eq_left (by omega), Nat.min_eq_left (by omega), List.range_succ, List.map_append]
  congr 1
  · apply List.map_congr_left
    intro i hi
    rw [List.mem_range] at hi
    simp only [List.getElem?_take]
    rw [if_pos (show i < k + 1 by omega), if_pos hi]
  · simp [h]
/-- the model of a number -/
def modelN (v n : Nat) : List Bool := (List.range v).map fun i => n.testBit i
theorem modelN_len (v n : Nat) : (modelN v n).length = v := by simp [modelN]
def countB (v : Nat) (L : List (List Int)) : Nat → Nat
  | 0 => 0
  | n + 1 => countB v L n + (if holdsB (modelN v n) L then 1 else 0)
theorem countB_le (v : Nat) (L : List (List Int)) (n : Nat) : countB v L n ≤ n := by
  induction n with
  | zero => simp [countB]
  | succ n ih => rw [countB]; split <;> omega

/-- what a clause leaves over: nothing to do, falsified, a unit -/
inductive Left where
  | pass | bad | unit (x : Int)
/-- behind the literals up to some place: is there a true one, what is left -/
def unitF (known c : List Int) : Left :=
  if c.any (fun x => known.contains x) then .pass else
  match c.filter (fun x => !known.contains (-x)) with
  | [] => .bad
  | [x] => .unit x
  | _ => .pass
/-- the first clause that has something to say -/
def firstF (known : List Int) : List (List Int) → Left
  | [] => .pass
  | c :: t => match unitF known c with | .pass => firstF known t | r => r
def propN (L : List (List Int)) : Nat → List Int → List Int × Bool
  | 0, k => (k, false)
  | n + 1, k => match firstF k L with | .pass => (k, false) | .bad => (k, true) | .unit x => propN L n (k ++ [x])
/-- how many variables are free -/
def freeN (k : List Int) : Nat := ((List.range 13).filter fun (i : Nat) => !(k.contains (i : Int)) && !(k.contains (-(i : Int)))).length
theorem filter_lt {α : Type} (p q : α → Bool) (l : List α) (h : ∀ x ∈ l, q x = true → p x = true) (x : α) (hx : x ∈ l) (h1 : p x = true) (h2 : q x = false) : (l.filter q).length < (l.filter p).length := by
  induction l with
  | nil => simp at hx
  | cons y t ih =>
    have le : (t.filter q).length ≤ (t.filter p).length := by
      clear ih hx
      have h' : ∀ x ∈ t, q x = true → p x = true := fun x hx => h x (by simp [hx])
      clear h
      induction t with
      | nil => simp
      | cons z s ih =>
        have := ih (fun x hx => h' x (by simp [hx]))
        have hz := h' z (by simp)
        by_cases a : q z = true
        · simp [a, hz a]; omega
        · simp only [Bool.not_eq_true] at a
          by_cases b : p z = true <;> simp [a, b] <;> omega
    by_cases e : x = y
    · subst e
      simp [h1, h2]
      omega
    · have hx' : x ∈ t := by simpa [e] using hx
      have := ih (fun x hx => h x (by simp [hx])) hx'
      have hy := h y (by simp)
      by_cases a : q y = true
      · simp [a, hy a]; omega
      · simp only [Bool.not_eq_true] at a
        by_cases b : p y = true <;> simp [a, b] <;> omega
theorem freeN_lt {k : List Int} {x : Int} (hx : -12 ≤ x ∧ x ≤ 12) (h1 : x ∉ k) (h2 : -x ∉ k) : freeN (k ++ [x]) < freeN k := by
  unfold freeN
  refine filter_lt _ _ _ ?_ x.natAbs (by simp; omega) ?_ ?_
  · intro i _ q
    simp at q ⊢
    exact ⟨q.1.1, q.2.1⟩
  · rcases Int.natAbs_eq x with e | e
    · rw [← e]; simp [h1, h2]
    · rw [show ((x.natAbs : Nat) : Int) = -x by omega]; simp [h1, h2]
  · rcases Int.natAbs_eq x with e | e
    · rw [← e]; simp
    · rw [show ((x.natAbs : Nat) : Int) = -x by omega]; simp
theorem freeN_le (k : List Int) : freeN k ≤ 13 := by
  unfold freeN
  have := List.length_filter_le (fun (i : Nat) => !(k.contains (i : Int)) && !(k.contains (-(i : Int)))) (List.range 13)
  simpa using this
theorem unitF_unit {known c : List Int} {x : Int} (h : unitF known c = .unit x) : x ∈ c ∧ x ∉ known ∧ -x ∉ known := by
  unfold unitF at h
  split at h
  · simp at h
  · rename_i q
    split at h
    · simp at h
    · rename_i y e
      simp at h
      subst h
      have hm : y ∈ c.filter (fun x => !known.contains (-x)) := by rw [e]; simp
      simp at hm
      refine ⟨hm.1, ?_, hm.2⟩
      intro hk
      exact q (by rw [List.any_eq_true]; exact ⟨y, hm.1, by simpa using hk⟩)
    · simp at h
theorem firstF_unit {known : List Int} {L : List (List Int)} {x : Int} (h : firstF known L = .unit x) : (∃ c ∈ L, x ∈ c) ∧ x ∉ known ∧ -x ∉ known := by
  induction L with
  | nil => simp [firstF] at h
  | cons c t ih =>
    rw [firstF] at h
    split at h
    · obtain ⟨⟨d, hd, hx⟩, r⟩ := ih h
      exact ⟨⟨d, by simp [hd], hx⟩, r⟩
    · obtain ⟨a, b⟩ := unitF_unit h
      exact ⟨⟨c, by simp, a⟩, b⟩
theorem Cons.snoc {l : List Int} {x : Int} (h : Cons l) (h0 : x ≠ 0) (h1 : -x ∉ l) : Cons (l ++ [x]) := by
  intro y hy hn
  simp at hy hn
  rcases hy with hy | rfl
  · rcases hn with hn | hn
    · exact h y hy hn
    · exact h1 (by rw [show -x = y by omega]; exact hy)
  · rcases hn with hn | hn
    · exact h1 hn
    · omega

/-- the literals of a clause that are not false -/
def lf (known c : List Int) : List Int := c.filter fun x => !known.contains (-x)
theorem lf_at (known c : List Int) (k : Nat) (x : Int) (h : c[k]? = some x) : lf known (c.take (k + 1)) = lf known (c.take k) ++ (if -x ∈ known then [] else [x]) := by
  unfold lf
  rw [filter_at _ c k x h]
  congr 1
  by_cases q : -x ∈ known <;> simp [q]
theorem lf_all (known c : List Int) (k : Nat) : lf known c = lf known (c.take k) ++ lf known (c.drop k) := by
  unfold lf
  rw [← List.filter_append, List.take_append_drop]
theorem unitF_known {known c : List Int} {x : Int} (hx : x ∈ c) (hk : x ∈ known) : unitF known c = .pass := by
  unfold unitF
  rw [if_pos (by rw [List.any_eq_true]; exact ⟨x, hx, by simpa using hk⟩)]
theorem unitF_two {known c : List Int} (h : 2 ≤ (lf known c).length) : unitF known c = .pass := by
  unfold unitF
  split
  · rfl
  · show (match lf known c with | [] => Left.bad | [x] => .unit x | _ => .pass) = .pass
    match lf known c, h with
    | a :: b :: t, _ => rfl
theorem lf_known {known c : List Int} (hc : Cons known) {x : Int} (hx : x ∈ c) (hk : x ∈ known) : x ∈ lf known c := by
  unfold lf
  rw [List.mem_filter]
  exact ⟨hx, by simpa using hc x hk⟩
theorem any_known {known c : List Int} (h : ∀ x ∈ c, x ∉ known) : (c.any fun x => known.contains x) = false := by
  rw [Bool.eq_false_iff]
  intro e
  rw [List.any_eq_true] at e
  obtain ⟨x, hx, hk⟩ := e
  exact h x hx (by simpa using hk)
theorem unitF_bad' {known c : List Int} (hn : ∀ x ∈ c, x ∉ known) (h : lf known c = []) : unitF known c = .bad := by
  unfold unitF
  rw [any_known hn]
  show (match lf known c with | [] => Left.bad | [x] => .unit x | _ => .pass) = .bad
  rw [h]
theorem unitF_unit' {known c : List Int} {u : Int} (hn : ∀ x ∈ c, x ∉ known) (h : lf known c = [u]) : unitF known c = .unit u := by
  unfold unitF
  rw [any_known hn]
  show (match lf known c with | [] => Left.bad | [x] => .unit x | _ => .pass) = .unit u
  rw [h]
theorem no_known {known c : List Int} (hc : Cons known) (h : ∀ x ∈ lf known c, x ∉ known) : ∀ x ∈ c, x ∉ known :=
  fun x hx hk => h x (lf_known hc hx hk) hk
theorem firstF_at (known : List Int) (L : List (List Int)) (k : Nat) (c : List Int) (h : L[k]? = some c) :
    firstF known (L.drop k) = match unitF known c with | .pass => firstF known (L.drop (k + 1)) | r => r := by
  have hlt : k < L.length := (List.getElem?_eq_some_iff.1 h).1
  have e : L[k] = c := (List.getElem?_eq_some_iff.1 h).2
  rw [List.drop_eq_getElem_cons hlt, firstF, e]
/-- behind j literals of a clause: the program's unit -/
def UInv (known c : List Int) (j : Nat) (u : Int) : Prop := (u = 0 ∧ lf known (c.take j) = []) ∨ (u ≠ 0 ∧ lf known (c.take j) = [u] ∧ u ∉ known)
theorem UInv.skip {known c : List Int} {j : Nat} {u x : Int} (h : UInv known c j u) (hx : c[j]? = some x) (hk : -x ∈ known) : UInv known c (j + 1) u := by
  unfold UInv
  rw [lf_at known c j x hx, if_pos hk, List.append_nil]
  exact h
theorem UInv.take {known c : List Int} {j : Nat} {x : Int} (h : UInv known c j 0) (hx : c[j]? = some x) (hk : -x ∉ known) (hk2 : x ∉ known) (h0 : x ≠ 0) : UInv known c (j + 1) x := by
  refine .inr ⟨h0, ?_, hk2⟩
  rw [lf_at known c j x hx, if_neg hk]
  rcases h with h | h
  · rw [h.2]; rfl
  · exact absurd rfl h.1
theorem UInv.two {known c : List Int} {j : Nat} {u x : Int} (h : UInv known c j u) (hu : u ≠ 0) (hx : c[j]? = some x) (hk : -x ∉ known) : unitF known c = .pass := by
  apply unitF_two
  rw [lf_all known c (j + 1), lf_at known c j x hx, if_neg hk]
  rcases h with h | h
  · exact absurd h.1 hu
  · rw [h.2.1]; simp
theorem UInv.bad {known c : List Int} (h : UInv known c c.length 0) (hc : Cons known) : unitF known c = .bad := by
  rcases h with h | h
  · rw [List.take_of_length_le (Nat.le_refl _)] at h
    exact unitF_bad' (no_known hc (by rw [h.2]; simp)) h.2
  · exact absurd rfl h.1
theorem UInv.unit {known c : List Int} {u : Int} (h : UInv known c c.length u) (hu : u ≠ 0) (hc : Cons known) : unitF known c = .unit u := by
  rcases h with h | h
  · exact absurd h.1 hu
  · rw [List.take_of_length_le (Nat.le_refl _)] at h
    exact unitF_unit' (no_known hc (by rw [h.2.1]; simpa using h.2.2)) h.2.1
/-- what is known so far, and what will come of it -/
def PInv (v : Int) (L : List (List Int)) (r : List Int) (b : Bool) (known : List Int) : Prop :=
  (∃ N, freeN known < N ∧ propN L N known = (r, b)) ∧ In12 known ∧ Cons known ∧ known.length + freeN known ≤ 100 ∧ (∀ x ∈ known, litB v x = true)
theorem PInv.pass {v : Int} {L : List (List Int)} {r known : List Int} {b : Bool} (h : PInv v L r b known) (hf : firstF known L = .pass) : r = known ∧ b = false := by
  obtain ⟨⟨N, hN, e⟩, _⟩ := h
  obtain ⟨k, rfl⟩ : ∃ k, N = k + 1 := ⟨N - 1, by omega⟩
  rw [propN, hf] at e
  simp only [Prod.mk.injEq] at e
  exact ⟨e.1.symm, e.2.symm⟩
theorem PInv.bad {v : Int} {L : List (List Int)} {r known : List Int} {b : Bool} (h : PInv v L r b known) (hf : firstF known L = .bad) : r = known ∧ b = true := by
  obtain ⟨⟨N, hN, e⟩, _⟩ := h
  obtain ⟨k, rfl⟩ : ∃ k, N = k + 1 := ⟨N - 1, by omega⟩
  rw [propN, hf] at e
  simp only [Prod.mk.injEq] at e
  exact ⟨e.1.symm, e.2.symm⟩
theorem PInv.unit {v : Int} {L : List (List Int)} {r known : List Int} {b : Bool} {x : Int} (h : PInv v L r b known) (hf : firstF known L = .unit x) (hv : v ≤ 12) (hl : ∀ c ∈ L, ∀ x ∈ c, litB v x = true) : PInv v L r b (known ++ [x]) := by
  obtain ⟨⟨N, hN, e⟩, hi, hc, hlen, hlit⟩ := h
  obtain ⟨k, rfl⟩ : ∃ k, N = k + 1 := ⟨N - 1, by omega⟩
  rw [propN, hf] at e
  obtain ⟨⟨c, hcL, hx⟩, h1, h2⟩ := firstF_unit hf
  have hxl := hl c hcL x hx
  have hx3 := litB_iff.1 hxl
  have hlt := freeN_lt (k := known) (x := x) (by omega) h1 h2
  refine ⟨⟨k, by omega, e⟩, hi.snoc (by omega), hc.snoc hx3.1 h2, by simp; omega, ?_⟩
  intro y hy
  simp at hy
  rcases hy with hy | rfl
  · exact hlit y hy
  · exact hxl
theorem PInv.len {v : Int} {L : List (List Int)} {r known : List Int} {b : Bool} (h : PInv v L r b known) : known.length ≤ 100 := by have := h.2.2.2.1; omega
theorem propN_len {L : List (List Int)} {N : Nat} {k r : List Int} {b : Bool} (h : propN L N k = (r, b)) : r.length ≤ k.length + N := by
  induction N generalizing k with
  | zero => simp [propN] at h; rw [← h.1]; omega
  | succ n ih =>
    rw [propN] at h
    split at h
    · simp at h; rw [← h.1]; omega
    · simp at h; rw [← h.1]; omega
    · have := ih h; simp at this; omega
theorem pinv_start {v : Int} {L : List (List Int)} {given : List Int} (hv : v ≤ 12) (hg : clauseB v given = true) {r : List Int} {b : Bool} (h : propN L 20 given = (r, b)) : PInv v L r b given := by
  have h1 := freeN_le given
  have h2 := clauseB_len hg
  exact ⟨⟨20, by omega, h⟩, lits_in12 hv (clauseB_lits hg), clauseB_cons hg, by omega, clauseB_lits hg⟩

/-- the clauses that are not satisfied, without what is false -/
def reduceL (known : List Int) (L : List (List Int)) : List (List Int) := (L.filter fun c => !c.any (fun x => known.contains x)).map fun c => c.filter fun x => !known.contains (-x)
end Go.Proofs.Ytklcfbjaodildaa
