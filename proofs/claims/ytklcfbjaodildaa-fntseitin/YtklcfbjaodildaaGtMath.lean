/-
  Gates on plain lists: which circuits are valid, their inputs, their values, their clauses. No program in sight.
-/
import Derived.Test.YtklcfbjaodildaaClMath
namespace Go.Proofs.Ytklcfbjaodildaa

structure Gt where
  k : Int
  a : Int
  b : Int
def gt0 : Gt := ⟨0, 0, 0⟩
def gk (xs : List Gt) (i : Nat) : Gt := xs[i]?.getD gt0
theorem gk_at {xs : List Gt} {i : Nat} {x : Gt} (h : xs[i]? = some x) : gk xs i = x := by simp [gk, h]
/-- a is the index of one of i gates -/
def ixB (a : Int) (i : Nat) : Bool := decide (0 ≤ a) && decide (a < (i : Int))
theorem ixB_yes {a : Int} {i : Nat} (h : ixB a i = true) : 0 ≤ a ∧ a < (i : Int) := by simpa [ixB] using h
theorem ixB_mk {a : Int} {i : Nat} (h0 : 0 ≤ a) (h1 : a < (i : Int)) : ixB a i = true := by simp [ixB, h0, h1]
/-- a gate with i others ahead of it is valid -/
def gateB (i : Nat) (x : Gt) : Bool :=
  if x.k = 1 then decide (x.a = 0) && decide (x.b = 0)
  else if x.k = 2 then ixB x.a i && decide (x.b = 0)
  else if x.k = 3 ∨ x.k = 4 ∨ x.k = 5 then ixB x.a i && ixB x.b i
  else false
theorem gateB_1 {i : Nat} {x : Gt} (h : x.k = 1) : gateB i x = (decide (x.a = 0) && decide (x.b = 0)) := by simp [gateB, h]
theorem gateB_2 {i : Nat} {x : Gt} (h : x.k = 2) : gateB i x = (ixB x.a i && decide (x.b = 0)) := by simp [gateB, h]
theorem gateB_3 {i : Nat} {x : Gt} (h : x.k = 3 ∨ x.k = 4 ∨ x.k = 5) : gateB i x = (ixB x.a i && ixB x.b i) := by
  rcases h with h | h | h <;> simp [gateB, h]
theorem gateB_no {i : Nat} {x : Gt} (h1 : x.k ≠ 1) (h2 : x.k ≠ 2) (h3 : x.k ≠ 3) (h4 : x.k ≠ 4) (h5 : x.k ≠ 5) : gateB i x = false := by simp [gateB, h1, h2, h3, h4, h5]
theorem gateB_kind {i : Nat} {x : Gt} (h : gateB i x = true) : (x.k = 1 ∧ x.a = 0 ∧ x.b = 0) ∨ (x.k = 2 ∧ 0 ≤ x.a ∧ x.a < i ∧ x.b = 0) ∨ ((x.k = 3 ∨ x.k = 4 ∨ x.k = 5) ∧ 0 ≤ x.a ∧ x.a < i ∧ 0 ≤ x.b ∧ x.b < i) := by
  unfold gateB at h
  split at h
  · simp at h; omega
  split at h
  · simp [ixB] at h; omega
  split at h
  · simp [ixB] at h; omega
  · simp at h
def gatesFrom : Nat → List Gt → Bool
  | _, [] => true
  | i, x :: t => gateB i x && gatesFrom (i + 1) t
theorem gatesFrom_iff (i : Nat) (xs : List Gt) : gatesFrom i xs = true ↔ ∀ j x, xs[j]? = some x → gateB (i + j) x = true := by
  induction xs generalizing i with
  | nil => simp [gatesFrom]
  | cons y t ih =>
    rw [gatesFrom, Bool.and_eq_true, ih]
    constructor
    · rintro ⟨h0, h1⟩ j x hx
      cases j with
      | zero => simp at hx; subst hx; exact h0
      | succ j => have := h1 j x (by simpa using hx); rw [show i + (j + 1) = i + 1 + j by omega]; exact this
    · intro h
      refine ⟨h 0 y (by simp), fun j x hx => ?_⟩
      rw [show i + 1 + j = i + (j + 1) by omega]
      exact h (j + 1) x (by simpa using hx)
def goodGB (xs : List Gt) : Bool := (decide (1 ≤ xs.length) && decide (xs.length ≤ 12)) && gatesFrom 0 xs
theorem goodG_len {xs : List Gt} (h : goodGB xs = true) : 1 ≤ xs.length ∧ xs.length ≤ 12 := by simp [goodGB] at h; omega
theorem goodG_at {xs : List Gt} (h : goodGB xs = true) {i : Nat} {x : Gt} (hx : xs[i]? = some x) : gateB i x = true := by
  simp only [goodGB, Bool.and_eq_true] at h
  have := (gatesFrom_iff 0 xs).1 h.2 i x hx
  rwa [Nat.zero_add] at this
/-- the first k gates are valid -/
def GK (xs : List Gt) (k : Nat) : Prop := ∀ i x, i < k → xs[i]? = some x → gateB i x = true
theorem GK.zero (xs : List Gt) : GK xs 0 := fun _ _ h => absurd h (Nat.not_lt_zero _)
theorem GK.succ {xs : List Gt} {k : Nat} {x : Gt} (h : GK xs k) (hx : xs[k]? = some x) (h1 : gateB k x = true) : GK xs (k + 1) := by
  intro i y hi hy
  by_cases e : i < k
  · exact h i y e hy
  · obtain rfl : i = k := by omega
    rw [hx] at hy; injection hy with hy; subst hy; exact h1
theorem gatesFrom_all {xs : List Gt} {n : Nat} (h : GK xs n) (hn : xs.length = n) : gatesFrom 0 xs = true :=
  (gatesFrom_iff 0 xs).2 fun j x hx => by
    rw [Nat.zero_add]
    exact h j x (by have := (List.getElem?_eq_some_iff.1 hx).1; omega) hx
theorem goodG_end {xs : List Gt} {n : Nat} (h : GK xs n) (hn : xs.length = n) : goodGB xs = (decide (1 ≤ n) && decide (n ≤ 12)) := by
  simp [goodGB, gatesFrom_all h hn, hn]
theorem goodG_not {xs : List Gt} {k : Nat} {x : Gt} (hx : xs[k]? = some x) (h : gateB k x = false) : goodGB xs = false := by
  cases q : goodGB xs
  · rfl
  · rw [goodG_at q hx] at h; cases h
theorem goodG_long {xs : List Gt} {n : Nat} (hn : xs.length = n) (h : n < 1 ∨ 12 < n) : goodGB xs = false := by
  cases q : goodGB xs
  · rfl
  · have := goodG_len q; omega

/-- the inputs among the first k -/
def inpN (xs : List Gt) (k : Nat) : List Nat := (List.range k).filter fun i => decide ((gk xs i).k = 1)
theorem inpN_succ (xs : List Gt) (k : Nat) : inpN xs (k + 1) = inpN xs k ++ (if (gk xs k).k = 1 then [k] else []) := by
  simp only [inpN, List.range_succ, List.filter_append, List.filter_cons, List.filter_nil]
  by_cases h : (gk xs k).k = 1 <;> simp [h]
theorem inpN_yes {xs : List Gt} {k : Nat} {x : Gt} (hx : xs[k]? = some x) (h : x.k = 1) : inpN xs (k + 1) = inpN xs k ++ [k] := by rw [inpN_succ, gk_at hx, if_pos h]
theorem inpN_no {xs : List Gt} {k : Nat} {x : Gt} (hx : xs[k]? = some x) (h : x.k ≠ 1) : inpN xs (k + 1) = inpN xs k := by rw [inpN_succ, gk_at hx, if_neg h, List.append_nil]
theorem inpN_le (xs : List Gt) (k : Nat) : (inpN xs k).length ≤ k := by
  refine Nat.le_trans (List.length_filter_le _ _) ?_
  simp
theorem inpN_lt {xs : List Gt} {k i : Nat} (h : i ∈ inpN xs k) : i < k := by simp [inpN] at h; exact h.1
theorem inpN_mono (xs : List Gt) {j k : Nat} (h : j ≤ k) : (inpN xs j).length ≤ (inpN xs k).length := by
  induction k with
  | zero => obtain rfl : j = 0 := by omega
            exact Nat.le_refl _
  | succ k ih =>
    by_cases e : j = k + 1
    · subst e; exact Nat.le_refl _
    · rw [inpN_succ, List.length_append]; have := ih (by omega); omega
/-- the inputs as the functions answer them -/
def inpI (xs : List Gt) (k : Nat) : List Int := (inpN xs k).map fun (i : Nat) => (i : Int)
theorem inpI_yes {xs : List Gt} {k : Nat} {x : Gt} (hx : xs[k]? = some x) (h : x.k = 1) : inpI xs (k + 1) = inpI xs k ++ [(k : Int)] := by simp [inpI, inpN_yes hx h]
theorem inpI_no {xs : List Gt} {k : Nat} {x : Gt} (hx : xs[k]? = some x) (h : x.k ≠ 1) : inpI xs (k + 1) = inpI xs k := by simp [inpI, inpN_no hx h]
theorem inpI_len (xs : List Gt) (k : Nat) : (inpI xs k).length = (inpN xs k).length := by simp [inpI]
def nIn (xs : List Gt) : Nat := (inpN xs xs.length).length

/-- the value at an index -/
def bt (l : List Bool) (a : Int) : Bool := l[a.toNat]?.getD false
theorem bt_some {l : List Bool} {a : Nat} {b : Bool} (h : l[a]? = some b) : bt l (a : Int) = b := by simp [bt, h]
/-- a gate's value, by the values ahead of it and the value of its input -/
def valG (x : Gt) (ah : List Bool) (inp : Bool) : Bool :=
  if x.k = 1 then inp else if x.k = 2 then !(bt ah x.a) else if x.k = 3 then bt ah x.a && bt ah x.b else if x.k = 4 then bt ah x.a || bt ah x.b else bt ah x.a != bt ah x.b
theorem valG_1 {x : Gt} (h : x.k = 1) (ah : List Bool) (inp : Bool) : valG x ah inp = inp := by simp [valG, h]
theorem valG_2 {x : Gt} (h : x.k = 2) (ah : List Bool) (inp : Bool) : valG x ah inp = !(bt ah x.a) := by simp [valG, h]
theorem valG_3 {x : Gt} (h : x.k = 3) (ah : List Bool) (inp : Bool) : valG x ah inp = (bt ah x.a && bt ah x.b) := by simp [valG, h]
theorem valG_4 {x : Gt} (h : x.k = 4) (ah : List Bool) (inp : Bool) : valG x ah inp = (bt ah x.a || bt ah x.b) := by simp [valG, h]
theorem valG_5 {x : Gt} (h : x.k = 5) (ah : List Bool) (inp : Bool) : valG x ah inp = (bt ah x.a != bt ah x.b) := by simp [valG, h]
/-- the values of the first k gates -/
def evK (xs : List Gt) (ins : List Bool) : Nat → List Bool
  | 0 => []
  | k + 1 => evK xs ins k ++ [valG (gk xs k) (evK xs ins k) (ins[(inpN xs k).length]?.getD false)]
theorem evK_len (xs : List Gt) (ins : List Bool) (k : Nat) : (evK xs ins k).length = k := by
  induction k with
  | zero => rfl
  | succ k ih => simp [evK, ih]
theorem evK_succ {xs : List Gt} {ins : List Bool} {k : Nat} {x : Gt} (hx : xs[k]? = some x) : evK xs ins (k + 1) = evK xs ins k ++ [valG x (evK xs ins k) (ins[(inpN xs k).length]?.getD false)] := by rw [evK, gk_at hx]
def evG (xs : List Gt) (ins : List Bool) : List Bool := evK xs ins xs.length
def outG (xs : List Gt) (ins : List Bool) : Bool := (evG xs ins)[xs.length - 1]?.getD false
theorem outG_at {xs : List Gt} {ins : List Bool} {n : Nat} (hn : xs.length = n) (h : 1 ≤ n) : (evK xs ins n)[n - 1]? = some (outG xs ins) := by
  subst hn
  unfold outG evG
  rw [List.getElem?_eq_getElem (by rw [evK_len]; omega)]
  rfl

/-- the clauses of a gate with the variable v, as the table says them -/
def rawC (x : Gt) (v : Int) : List (List Int) :=
  if x.k = 2 then [[v, x.a + 1], [-v, -(x.a + 1)]]
  else if x.k = 3 then [[-v, x.a + 1], [-v, x.b + 1], [v, -(x.a + 1), -(x.b + 1)]]
  else if x.k = 4 then [[v, -(x.a + 1)], [v, -(x.b + 1)], [-v, x.a + 1, x.b + 1]]
  else if x.k = 5 then [[-v, x.a + 1, x.b + 1], [-v, -(x.a + 1), -(x.b + 1)], [v, -(x.a + 1), x.b + 1], [v, x.a + 1, -(x.b + 1)]]
  else []
def clsC (L : List (List Int)) : List (List Int) := L.filterMap cleanB
theorem clsC_yes {L : List (List Int)} {k : Nat} {c r : List Int} (hx : L[k]? = some c) (h : cleanB c = some r) : clsC (L.take (k + 1)) = clsC (L.take k) ++ [r] := by
  have hlt : k < L.length := (List.getElem?_eq_some_iff.1 hx).1
  have e : L[k] = c := (List.getElem?_eq_some_iff.1 hx).2
  rw [List.take_succ_eq_append_getElem hlt, e]
  simp [clsC, h]
theorem clsC_no {L : List (List Int)} {k : Nat} {c : List Int} (hx : L[k]? = some c) (h : cleanB c = none) : clsC (L.take (k + 1)) = clsC (L.take k) := by
  have hlt : k < L.length := (List.getElem?_eq_some_iff.1 hx).1
  have e : L[k] = c := (List.getElem?_eq_some_iff.1 hx).2
  rw [List.take_succ_eq_append_getElem hlt, e]
  simp [clsC, h]
theorem clsC_len (L : List (List Int)) : (clsC L).length ≤ L.length := List.length_filterMap_le _ _
theorem rawC_len (x : Gt) (v : Int) : (rawC x v).length ≤ 4 := by
  unfold rawC
  split
  · simp
  split
  · simp
  split
  · simp
  split <;> simp
def oneC (x : Gt) (v : Int) : List (List Int) := clsC (rawC x v)
theorem oneC_len (x : Gt) (v : Int) : (oneC x v).length ≤ 4 := Nat.le_trans (clsC_len _) (rawC_len _ _)
def clsK (xs : List Gt) : Nat → List (List Int)
  | 0 => []
  | k + 1 => clsK xs k ++ oneC (gk xs k) ((k : Int) + 1)
theorem clsK_succ {xs : List Gt} {k : Nat} {x : Gt} (hx : xs[k]? = some x) : clsK xs (k + 1) = clsK xs k ++ oneC x ((k : Int) + 1) := by rw [clsK, gk_at hx]
theorem clsK_len (xs : List Gt) (k : Nat) : (clsK xs k).length ≤ 4 * k := by
  induction k with
  | zero => simp [clsK]
  | succ k ih => rw [clsK, List.length_append]; have := oneC_len (gk xs k) ((k : Int) + 1); omega
def clsG (xs : List Gt) : List (List Int) := clsK xs xs.length ++ [[(xs.length : Int)]]

/-- the values of the inputs in a model -/
def byG (xs : List Gt) (M : List Bool) (k : Nat) : List Bool := (inpN xs xs.length).take k |>.map fun i => M[i]?.getD false
theorem byG_succ {xs : List Gt} {M : List Bool} {k i : Nat} {b : Bool} (hx : (inpN xs xs.length)[k]? = some i) (hb : M[i]? = some b) : byG xs M (k + 1) = byG xs M k ++ [b] := by
  have hlt : k < (inpN xs xs.length).length := (List.getElem?_eq_some_iff.1 hx).1
  have e : (inpN xs xs.length)[k] = i := (List.getElem?_eq_some_iff.1 hx).2
  simp only [byG]
  rw [List.take_succ_eq_append_getElem hlt, e]
  simp [hb]

/-- the first number that is wanted -/
theorem find_at {p : Nat → Bool} {N n : Nat} (hn : n < N) (h : ∀ j, j < n → p j = false) (hp : p n = true) : (List.range N).find? p = some n := by
  rw [List.find?_range_eq_some]
  exact ⟨hp, by simpa using hn, fun j hj => by simp [h j hj]⟩
theorem find_none {p : Nat → Bool} {N : Nat} (h : ∀ j, j < N → p j = false) : (List.range N).find? p = none := by
  rw [List.find?_eq_none]
  intro j hj
  simp [h j (by simpa using hj)]
def canF (xs : List Gt) : Option Nat := (List.range (2 ^ nIn xs)).find? fun n => outG xs (modelN (nIn xs) n)
def diffF (xs ys : List Gt) : Option Nat := (List.range (2 ^ nIn xs)).find? fun n => outG xs (modelN (nIn xs) n) != outG ys (modelN (nIn xs) n)

/-- what the functions answer -/
def rInp (xs : List Gt) : List Int × Bool := if goodGB xs then (inpI xs xs.length, true) else ([], false)
def rEv (xs : List Gt) (ins : List Bool) : List Bool × Bool := if goodGB xs = true ∧ ins.length = nIn xs then (evG xs ins, true) else ([], false)
def rGc (xs : List Gt) (k : Int) : List (List Int) × Bool := if goodGB xs = true ∧ ixB k xs.length = true then (oneC (gk xs k.toNat) (k + 1), true) else ([], false)
def rCls (xs : List Gt) : List (List Int) × Bool := if goodGB xs then (clsG xs, true) else ([], false)
def rInBy (xs : List Gt) (M : List Bool) : List Bool × Bool := if goodGB xs = true ∧ M.length = xs.length then (byG xs M (nIn xs), true) else ([], false)
def rCan (xs : List Gt) : Bool × List Bool × Bool := if goodGB xs then (match canF xs with | some n => (true, modelN (nIn xs) n, true) | none => (false, [], true)) else (false, [], false)
def rAlw (xs ys : List Gt) : Bool × Bool := if goodGB xs = true ∧ goodGB ys = true ∧ nIn xs = nIn ys then ((diffF xs ys).isNone, true) else (false, false)
end Go.Proofs.Ytklcfbjaodildaa
