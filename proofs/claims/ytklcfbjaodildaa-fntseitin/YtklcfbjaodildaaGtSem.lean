/-
  Gates and their clauses, on plain lists: the models of the clauses are just the ways in which the output is true.
-/
import Derived.Test.YtklcfbjaodildaaGtMath
import Derived.Test.YtklcfbjaodildaaSvSnd
import Derived.Test.YtklcfbjaodildaaSnd2
namespace Go.Proofs.Ytklcfbjaodildaa

theorem cleanF_some {M : List Bool} {c out r : List Int} (h : cleanF out c = some r) : r.any (litT M) = (out ++ c).any (litT M) := by
  induction c generalizing out with
  | nil => simp [cleanF] at h; subst h; simp
  | cons x t ih =>
    rw [cleanF] at h
    split at h
    · cases h
    · rw [ih h]
      by_cases q : x ∈ out
      · simp only [List.contains_iff_mem.2 q, if_true, List.any_append, List.any_cons]
        cases e : out.any (litT M)
        · have : litT M x = false := by
            rw [List.any_eq_false] at e
            simpa using e x q
          simp [this]
        · simp
      · have : out.contains x = false := by simpa using q
        simp only [this, Bool.false_eq_true, if_false, List.any_append, List.any_cons, List.any_nil, Bool.or_false, Bool.or_assoc]
theorem cleanF_none {M : List Bool} {c out : List Int} (h : cleanF out c = none) (h0 : ∀ x ∈ c, x ≠ 0) : (out ++ c).any (litT M) = true := by
  induction c generalizing out with
  | nil => simp [cleanF] at h
  | cons x t ih =>
    rw [cleanF] at h
    have hx := h0 x (by simp)
    split at h
    · rename_i q
      have q' : -x ∈ out := by simpa using q
      rw [List.any_append, List.any_cons]
      cases e : litT M x
      · have : out.any (litT M) = true := List.any_eq_true.2 ⟨-x, q', by rw [litT_neg hx, e]; rfl⟩
        simp [this]
      · simp
    · have := ih h (fun y hy => h0 y (by simp [hy]))
      rw [List.any_append] at this
      rw [List.any_append, List.any_cons]
      split at this
      · rcases Bool.or_eq_true _ _ ▸ this with q | q <;> simp [q]
      · rw [List.any_append, List.any_cons] at this
        simp only [List.any_nil, Bool.or_false] at this
        rw [← Bool.or_assoc]; exact this
/-- clauses that the cleaning takes: short, of literals up to 12 -/
def RawOk (v : Int) (c : List Int) : Prop := c.length ≤ 12 ∧ ∀ x ∈ c, litB v x = true
theorem RawOk.clean {v : Int} {c : List Int} (hv : v ≤ 12) (h : RawOk v c) : cleanB c = cleanF [] c := by
  unfold cleanB
  rw [if_pos]
  refine ⟨by have := h.1; omega, List.all_eq_true.2 fun x hx => ?_⟩
  have := litB_iff.1 (h.2 x hx)
  exact litB_iff.2 ⟨this.1, by omega, by omega⟩
theorem cleanF_clause {v : Int} {c out r : List Int} (h : cleanF out c = some r) (hc : ∀ x ∈ c, litB v x = true) (ho : clOk v [] out = true) : clOk v [] r = true := by
  induction c generalizing out with
  | nil => simp [cleanF] at h; subst h; exact ho
  | cons x t ih =>
    rw [cleanF] at h
    split at h
    · cases h
    · rename_i q
      refine ih h (fun y hy => hc y (by simp [hy])) ?_
      split
      · exact ho
      · rename_i q2
        rw [clOk_snoc, ho, hc x (by simp)]
        simp only [Bool.not_eq_true] at q q2
        rw [List.nil_append, q, q2]
        rfl
theorem RawOk.clause {v : Int} {c r : List Int} (hv : v ≤ 12) (h : RawOk v c) (hr : cleanB c = some r) : clauseB v r = true := by
  rw [h.clean hv] at hr
  have := cleanF_len hr
  unfold clauseB
  rw [cleanF_clause hr h.2 rfl]
  have := h.1
  simp
  simp at *
  omega
theorem clsC_holds {v : Int} (hv : v ≤ 12) (M : List Bool) {L : List (List Int)} (h : ∀ c ∈ L, RawOk v c) : holdsB M (clsC L) = holdsB M L := by
  induction L with
  | nil => rfl
  | cons c t ih =>
    have i := ih (fun d hd => h d (by simp [hd]))
    have hc := h c (by simp)
    have e := hc.clean hv
    cases q : cleanB c with
    | none =>
      have : clsC (c :: t) = clsC t := by simp [clsC, q]
      rw [this, i]
      have a := cleanF_none (M := M) (e ▸ q) (fun x hx => (litB_iff.1 (hc.2 x hx)).1)
      simp only [List.nil_append] at a
      simp [holdsB, a]
    | some r =>
      have : clsC (c :: t) = r :: clsC t := by simp [clsC, q]
      rw [this]
      have a := cleanF_some (M := M) (e ▸ q)
      simp only [List.nil_append] at a
      have h1 : holdsB M (r :: clsC t) = (r.any (litT M) && holdsB M (clsC t)) := by simp [holdsB]
      have h2 : holdsB M (c :: t) = (c.any (litT M) && holdsB M t) := by simp [holdsB]
      rw [h1, h2, i, a]
theorem clsC_mem {v : Int} (hv : v ≤ 12) {L : List (List Int)} (h : ∀ c ∈ L, RawOk v c) : ∀ c ∈ clsC L, clauseB v c = true := by
  intro r hr
  simp only [clsC, List.mem_filterMap] at hr
  obtain ⟨c, hc, hr⟩ := hr
  exact (h c hc).clause hv hr

theorem litT_pos {M : List Bool} {a : Int} (h : 0 ≤ a) : litT M (a + 1) = bt M a := by
  unfold litT bt
  rw [if_neg (by omega), show a + 1 - 1 = a by omega]
theorem litT_negv {M : List Bool} {a : Int} (h : 0 ≤ a) : litT M (-(a + 1)) = !bt M a := by
  rw [litT_neg (by omega), litT_pos h]
theorem gate_raw {x : Gt} {k : Nat} {v : Int} (hv : (k : Int) + 1 ≤ v) (h : gateB k x = true) : ∀ c ∈ rawC x ((k : Int) + 1), RawOk v c := by
  intro c hc
  have L : ∀ y : Int, 0 ≤ y → y ≤ (k : Int) → litB v (y + 1) = true ∧ litB v (-(y + 1)) = true := fun y h0 h1 => ⟨litB_iff.2 (by omega), litB_iff.2 (by omega)⟩
  have Lk := L k (by omega) (by omega)
  rcases gateB_kind h with ⟨q, _⟩ | ⟨q, a0, a1, _⟩ | ⟨q, a0, a1, b0, b1⟩
  · simp [rawC, q] at hc
  · have La := L x.a a0 (by omega)
    simp only [rawC, q, if_true, List.mem_cons, List.not_mem_nil, or_false] at hc
    rcases hc with rfl | rfl <;> simp [RawOk, La, Lk]
  · have La := L x.a a0 (by omega)
    have Lb := L x.b b0 (by omega)
    rcases q with q | q | q
    · simp [rawC, q] at hc
      rcases hc with rfl | rfl | rfl <;> simp [RawOk] <;> simp_all [Int.neg_add]
    · simp [rawC, q] at hc
      rcases hc with rfl | rfl | rfl <;> simp [RawOk] <;> simp_all [Int.neg_add]
    · simp [rawC, q] at hc
      rcases hc with rfl | rfl | rfl | rfl <;> simp [RawOk] <;> simp_all [Int.neg_add]
theorem gate_holds {x : Gt} {k : Nat} {M : List Bool} (h : gateB k x = true) (h1 : x.k ≠ 1) (inp : Bool) : holdsB M (rawC x ((k : Int) + 1)) = (bt M k == valG x M inp) := by
  rcases gateB_kind h with ⟨q, _⟩ | ⟨q, a0, a1, _⟩ | ⟨q, a0, a1, b0, b1⟩
  · exact absurd q h1
  · simp only [rawC, valG_2 q, q, if_true, holdsB, List.all_cons, List.all_nil, List.any_cons, List.any_nil, litT_pos a0, litT_negv a0, litT_pos (Int.natCast_nonneg k), litT_negv (Int.natCast_nonneg k)]
    cases bt M k <;> cases bt M x.a <;> rfl
  · have f2 : x.k ≠ 2 := by omega
    rcases q with q | q | q
    · simp only [rawC, valG_3 q, if_neg f2, if_pos q, holdsB, List.all_cons, List.all_nil, List.any_cons, List.any_nil, litT_pos a0, litT_negv a0, litT_pos b0, litT_negv b0, litT_pos (Int.natCast_nonneg k), litT_negv (Int.natCast_nonneg k)]
      cases bt M k <;> cases bt M x.a <;> cases bt M x.b <;> rfl
    · have f3 : x.k ≠ 3 := by omega
      simp only [rawC, valG_4 q, if_neg f2, if_neg f3, if_pos q, holdsB, List.all_cons, List.all_nil, List.any_cons, List.any_nil, litT_pos a0, litT_negv a0, litT_pos b0, litT_negv b0, litT_pos (Int.natCast_nonneg k), litT_negv (Int.natCast_nonneg k)]
      cases bt M k <;> cases bt M x.a <;> cases bt M x.b <;> rfl
    · have f3 : x.k ≠ 3 := by omega
      have f4 : x.k ≠ 4 := by omega
      simp only [rawC, valG_5 q, if_neg f2, if_neg f3, if_neg f4, if_pos q, holdsB, List.all_cons, List.all_nil, List.any_cons, List.any_nil, litT_pos a0, litT_negv a0, litT_pos b0, litT_negv b0, litT_pos (Int.natCast_nonneg k), litT_negv (Int.natCast_nonneg k)]
      cases bt M k <;> cases bt M x.a <;> cases bt M x.b <;> rfl
theorem raw_input {x : Gt} {v : Int} (h : x.k = 1) : rawC x v = [] := by simp [rawC, h]

/-- every gate that is no input has the value that its kind says -/
def Eqs (xs : List Gt) (M : List Bool) (n : Nat) : Prop := ∀ k x, k < n → xs[k]? = some x → x.k ≠ 1 → bt M k = valG x M false
theorem clsK_holds {xs : List Gt} (hg : goodGB xs = true) {M : List Bool} (k : Nat) (hk : k ≤ xs.length) : holdsB M (clsK xs k) = true ↔ Eqs xs M k := by
  have hlen := goodG_len hg
  induction k with
  | zero => exact ⟨fun _ k x h => absurd h (Nat.not_lt_zero _), fun _ => rfl⟩
  | succ k ih =>
    obtain ⟨x, hx⟩ : ∃ x, xs[k]? = some x := ⟨_, List.getElem?_eq_getElem (by omega)⟩
    have hgx := goodG_at hg hx
    have e : holdsB M (oneC x ((k : Int) + 1)) = holdsB M (rawC x ((k : Int) + 1)) := clsC_holds (v := 12) (by omega) M (gate_raw (by omega) hgx)
    have ih := ih (by omega)
    rw [clsK_succ hx, holdsB_app, Bool.and_eq_true, e]
    by_cases h1 : x.k = 1
    · rw [raw_input h1]
      constructor
      · rintro ⟨h0, _⟩ i y hi hy hy1
        have h := ih.1 h0
        by_cases q : i < k
        · exact h i y q hy hy1
        · obtain rfl : i = k := by omega
          rw [hx] at hy; injection hy with hy; subst hy; exact absurd h1 hy1
      · exact fun h => ⟨ih.2 (fun i y hi => h i y (by omega)), rfl⟩
    · rw [gate_holds hgx h1 false, beq_iff_eq]
      constructor
      · rintro ⟨h0, h2⟩ i y hi hy hy1
        have h := ih.1 h0
        by_cases q : i < k
        · exact h i y q hy hy1
        · obtain rfl : i = k := by omega
          rw [hx] at hy; injection hy with hy; subst hy; exact h2
      · exact fun h => ⟨ih.2 (fun i y hi => h i y (by omega)), h k x (by omega) hx h1⟩
theorem cls_holds {xs : List Gt} (hg : goodGB xs = true) {M : List Bool} : holdsB M (clsG xs) = true ↔ Eqs xs M xs.length ∧ bt M ((xs.length - 1 : Nat) : Int) = true := by
  have hlen := goodG_len hg
  unfold clsG
  rw [holdsB_app, Bool.and_eq_true, clsK_holds hg _ (Nat.le_refl _), holdsB_one]
  simp only [List.any_cons, List.any_nil, Bool.or_false]
  rw [show ((xs.length : Nat) : Int) = ((xs.length - 1 : Nat) : Int) + 1 by omega, litT_pos (by omega)]
theorem clsK_clause {xs : List Gt} (hg : goodGB xs = true) {v : Int} (k : Nat) (hk : k ≤ xs.length) (hv : (k : Int) ≤ v) (hv2 : v ≤ 12) : ∀ c ∈ clsK xs k, clauseB v c = true := by
  induction k with
  | zero => simp [clsK]
  | succ k ih =>
    obtain ⟨x, hx⟩ : ∃ x, xs[k]? = some x := ⟨_, List.getElem?_eq_getElem (by omega)⟩
    intro c hc
    rw [clsK_succ hx, List.mem_append] at hc
    rcases hc with hc | hc
    · exact ih (by omega) (by omega) c hc
    · exact clsC_mem hv2 (gate_raw (by omega) (goodG_at hg hx)) c hc
theorem goodB_mk {v : Int} {L : List (List Int)} (h0 : 0 ≤ v) (h1 : v ≤ 12) (h2 : L.length ≤ 60) (h3 : ∀ c ∈ L, clauseB v c = true) : goodB v L = true := by
  simp [goodB, h0, h1, h2]
  exact h3
theorem cls_good {xs : List Gt} (hg : goodGB xs = true) : goodB (xs.length : Int) (clsG xs) = true := by
  have hlen := goodG_len hg
  refine goodB_mk (by omega) (by omega) ?_ (fun c hc => ?_)
  · have := clsK_len xs xs.length
    simp only [clsG, List.length_append, List.length_cons, List.length_nil]
    omega
  · unfold clsG at hc
    rw [List.mem_append] at hc
    rcases hc with hc | hc
    · exact clsK_clause hg _ (Nat.le_refl _) (by omega) (by omega) c hc
    · simp at hc
      subst hc
      have : litB (xs.length : Int) (xs.length : Int) = true := litB_iff.2 (by omega)
      simp [clauseB, clOk, this]
theorem clsK_good {xs : List Gt} (hg : goodGB xs = true) : goodB (xs.length : Int) (clsK xs xs.length) = true := by
  have hlen := goodG_len hg
  refine goodB_mk (by omega) (by omega) ?_ (clsK_clause hg _ (Nat.le_refl _) (by omega) (by omega))
  have := clsK_len xs xs.length
  omega

theorem evK_at (xs : List Gt) (ins : List Bool) {i k n : Nat} (h : i < k) (hk : k ≤ n) : (evK xs ins n)[i]? = (evK xs ins k)[i]? := by
  induction n with
  | zero => omega
  | succ n ih =>
    by_cases q : k = n + 1
    · subst q; rfl
    · rw [evK, List.getElem?_append_left (by rw [evK_len]; omega)]
      exact ih (by omega)
theorem evK_last {xs : List Gt} (ins : List Bool) {k : Nat} {x : Gt} (hx : xs[k]? = some x) : (evK xs ins (k + 1))[k]? = some (valG x (evK xs ins k) (ins[(inpN xs k).length]?.getD false)) := by
  rw [evK_succ hx, List.getElem?_append_right (by rw [evK_len]; omega), evK_len]
  simp
/-- what a gate says depends on the values ahead of it alone -/
theorem valG_ahead {x : Gt} {k : Nat} (h : gateB k x = true) (h1 : x.k ≠ 1) {l m : List Bool} (e : ∀ i, i < k → l[i]? = m[i]?) (a b : Bool) : valG x l a = valG x m b := by
  have E : ∀ y : Int, 0 ≤ y → y < k → bt l y = bt m y := fun y h0 h1 => by unfold bt; rw [e y.toNat (by omega)]
  rcases gateB_kind h with ⟨q, _⟩ | ⟨q, a0, a1, _⟩ | ⟨q, a0, a1, b0, b1⟩
  · exact absurd q h1
  · rw [valG_2 q, valG_2 q, E _ a0 a1]
  · rcases q with q | q | q
    · rw [valG_3 q, valG_3 q, E _ a0 a1, E _ b0 b1]
    · rw [valG_4 q, valG_4 q, E _ a0 a1, E _ b0 b1]
    · rw [valG_5 q, valG_5 q, E _ a0 a1, E _ b0 b1]
theorem evG_eqs {xs : List Gt} (hg : goodGB xs = true) (ins : List Bool) : Eqs xs (evG xs ins) xs.length := by
  intro k x hk hx h1
  have e : (evG xs ins)[k]? = some (valG x (evK xs ins k) (ins[(inpN xs k).length]?.getD false)) := by
    unfold evG
    rw [evK_at xs ins (k := k + 1) (by omega) (by omega)]
    exact evK_last ins hx
  rw [bt_some e]
  exact valG_ahead (goodG_at hg hx) h1 (fun i hi => (evK_at xs ins (k := k) hi (by omega)).symm) _ _
theorem inpN_at {xs : List Gt} {k n : Nat} {x : Gt} (hk : k < n) (hx : xs[k]? = some x) (h1 : x.k = 1) : (inpN xs n)[(inpN xs k).length]? = some k := by
  induction n with
  | zero => omega
  | succ n ih =>
    by_cases q : k = n
    · subst q
      rw [inpN_yes hx h1, List.getElem?_append_right (Nat.le_refl _)]
      simp
    · have hi := ih (by omega)
      rw [inpN_succ, List.getElem?_append_left (List.getElem?_eq_some_iff.1 hi).1, hi]
theorem inpN_inv {xs : List Gt} {j k n : Nat} (h : (inpN xs n)[j]? = some k) : k < n ∧ (gk xs k).k = 1 ∧ (inpN xs k).length = j := by
  induction n with
  | zero => simp [inpN] at h
  | succ n ih =>
    rw [inpN_succ, List.getElem?_append] at h
    split at h
    · have := ih h; exact ⟨by omega, this.2⟩
    · rename_i q
      split at h
      · rename_i q1
        have e0 : j - (inpN xs n).length = 0 := by
          rcases Nat.eq_zero_or_pos (j - (inpN xs n).length) with e | e
          · exact e
          · rw [List.getElem?_eq_none (by simp; omega)] at h; cases h
        rw [e0] at h
        simp at h
        subst h
        exact ⟨by omega, q1, by omega⟩
      · simp at h
theorem byG_len (xs : List Gt) (M : List Bool) : (byG xs M (nIn xs)).length = nIn xs := by simp [byG, nIn]
theorem byG_at {xs : List Gt} (M : List Bool) {j k : Nat} (h : (inpN xs xs.length)[j]? = some k) : (byG xs M (nIn xs))[j]? = some (M[k]?.getD false) := by
  have hj := (List.getElem?_eq_some_iff.1 h).1
  simp only [byG, nIn, List.take_length, List.getElem?_map, h, Option.map_some]
theorem gk_lt {xs : List Gt} {k : Nat} (h : k < xs.length) : xs[k]? = some (gk xs k) := by simp [gk, List.getElem?_eq_getElem h]
theorem by_ev {xs : List Gt} {ins : List Bool} (h : ins.length = nIn xs) : byG xs (evG xs ins) (nIn xs) = ins := by
  apply List.ext_getElem?
  intro j
  by_cases hj : j < nIn xs
  · obtain ⟨k, hk⟩ : ∃ k, (inpN xs xs.length)[j]? = some k := ⟨_, List.getElem?_eq_getElem hj⟩
    obtain ⟨h1, h2, h3⟩ := inpN_inv hk
    rw [byG_at _ hk]
    have hx := gk_lt h1
    have e : (evG xs ins)[k]? = some (ins[j]?.getD false) := by
      unfold evG
      rw [evK_at xs ins (k := k + 1) (by omega) (by omega), evK_last ins hx, valG_1 h2, h3]
    rw [e, List.getElem?_eq_getElem (by omega)]
    rfl
  · rw [List.getElem?_eq_none (by rw [byG_len]; omega), List.getElem?_eq_none (by omega)]
theorem ev_by {xs : List Gt} (hg : goodGB xs = true) {M : List Bool} (hm : M.length = xs.length) (h : Eqs xs M xs.length) : evG xs (byG xs M (nIn xs)) = M := by
  have key : ∀ k, k ≤ xs.length → ∀ i, i < k → (evK xs (byG xs M (nIn xs)) k)[i]? = M[i]? := by
    intro k
    induction k with
    | zero => intro _ i hi; omega
    | succ k ih =>
      intro hk i hi
      have ih := ih (by omega)
      by_cases q : i < k
      · rw [evK_at xs _ (k := k) q (by omega)]; exact ih i q
      · obtain rfl : i = k := by omega
        obtain ⟨x, hx⟩ : ∃ x, xs[i]? = some x := ⟨_, List.getElem?_eq_getElem (by omega)⟩
        obtain ⟨b, hb⟩ : ∃ b, M[i]? = some b := ⟨_, List.getElem?_eq_getElem (by omega)⟩
        rw [evK_last _ hx, hb]
        by_cases h1 : x.k = 1
        · rw [valG_1 h1, byG_at M (inpN_at (by omega) hx h1), hb]; rfl
        · have := h i x (by omega) hx h1
          rw [bt_some hb] at this
          rw [this]
          rw [valG_ahead (goodG_at hg hx) h1 (fun j hj => ih j hj)]
  apply List.ext_getElem?
  intro i
  by_cases hi : i < xs.length
  · exact key _ (Nat.le_refl _) i hi
  · rw [List.getElem?_eq_none (by unfold evG; rw [evK_len]; omega), List.getElem?_eq_none (by omega)]
theorem out_bt {xs : List Gt} (ins : List Bool) : bt (evG xs ins) ((xs.length - 1 : Nat) : Int) = outG xs ins := by
  unfold outG bt
  rw [Int.toNat_natCast]

/-- how many of the first numbers make the output true -/
def cntO (xs : List Gt) : Nat → Nat
  | 0 => 0
  | n + 1 => cntO xs n + (if outG xs (modelN (nIn xs) n) then 1 else 0)
theorem cntO_le (xs : List Gt) (n : Nat) : cntO xs n ≤ n := by
  induction n with
  | zero => simp [cntO]
  | succ n ih => rw [cntO]; split <;> omega
theorem cntO_filter (xs : List Gt) (n : Nat) : cntO xs n = ((List.range n).filter fun i => outG xs (modelN (nIn xs) i)).length := by
  induction n with
  | zero => rfl
  | succ n ih => rw [cntO, List.range_succ, List.filter_append, List.length_append, ih]; cases q : outG xs (modelN (nIn xs) n) <;> simp [q]
theorem countB_filter (v : Nat) (L : List (List Int)) (n : Nat) : countB v L n = ((List.range n).filter fun i => holdsB (modelN v i) L).length := by
  induction n with
  | zero => rfl
  | succ n ih => rw [countB, List.range_succ, List.filter_append, List.length_append, ih]; cases q : holdsB (modelN v n) L <;> simp [q]
theorem nodup_le {A B : List Nat} (h : A.Nodup) (hs : ∀ x ∈ A, x ∈ B) : A.length ≤ B.length := by
  induction A generalizing B with
  | nil => simp
  | cons a t ih =>
    rw [List.nodup_cons] at h
    have hb := hs a (by simp)
    have := ih (B := B.erase a) h.2 (fun x hx => by
      have hne : x ≠ a := fun e => h.1 (e ▸ hx)
      exact (List.mem_erase_of_ne hne).2 (hs x (by simp [hx])))
    rw [List.length_erase_of_mem hb] at this
    have : 0 < B.length := List.length_pos_of_mem hb
    simp only [List.length_cons]
    omega
/-- two finite sets of numbers, each mapped into the other one without two to one -/
theorem nodup_map {A : List Nat} (h : A.Nodup) {f : Nat → Nat} (hf : ∀ x ∈ A, ∀ y ∈ A, f x = f y → x = y) : (A.map f).Nodup := by
  induction A with
  | nil => simp
  | cons a t ih =>
    rw [List.nodup_cons] at h
    rw [List.map_cons, List.nodup_cons]
    refine ⟨fun hm => ?_, ih h.2 (fun x hx y hy => hf x (by simp [hx]) y (by simp [hy]))⟩
    obtain ⟨y, hy, e⟩ := List.mem_map.1 hm
    have := hf y (by simp [hy]) a (by simp) e
    exact h.1 (this ▸ hy)
theorem map_le {A B : List Nat} (h : A.Nodup) {f : Nat → Nat} (hf : ∀ x ∈ A, ∀ y ∈ A, f x = f y → x = y) (hm : ∀ x ∈ A, f x ∈ B) : A.length ≤ B.length := by
  have := nodup_le (nodup_map h hf) (B := B) (fun x hx => by obtain ⟨y, hy, rfl⟩ := List.mem_map.1 hx; exact hm y hy)
  simpa using this
theorem modelN_inj {v m n : Nat} (hm : m < 2 ^ v) (hn : n < 2 ^ v) (h : modelN v m = modelN v n) : m = n := by
  apply Nat.eq_of_testBit_eq
  intro i
  by_cases hi : i < v
  · have : (modelN v m)[i]? = (modelN v n)[i]? := by rw [h]
    simpa [modelN, hi] using this
  · rw [Nat.testBit_lt_two_pow (Nat.lt_of_lt_of_le hm (Nat.pow_le_pow_right (by omega) (by omega))), Nat.testBit_lt_two_pow (Nat.lt_of_lt_of_le hn (Nat.pow_le_pow_right (by omega) (by omega)))]
/-- the number of a model -/
theorem num_any (v : Nat) (M : List Bool) : ∃ n, M.length = v → n < 2 ^ v ∧ modelN v n = M := by
  by_cases h : M.length = v
  · obtain ⟨n, h1, h2⟩ := model_num M
    exact ⟨n, fun _ => by rw [← h]; exact ⟨h1, h2⟩⟩
  · exact ⟨0, fun e => absurd e h⟩
theorem evG_len (xs : List Gt) (ins : List Bool) : (evG xs ins).length = xs.length := evK_len _ _ _
theorem out_holds {xs : List Gt} (hg : goodGB xs = true) (ins : List Bool) (h : outG xs ins = true) : holdsB (evG xs ins) (clsG xs) = true :=
  (cls_holds hg).2 ⟨evG_eqs hg ins, by rw [out_bt]; exact h⟩
theorem holds_out {xs : List Gt} (hg : goodGB xs = true) {M : List Bool} (hm : M.length = xs.length) (h : holdsB M (clsG xs) = true) : outG xs (byG xs M (nIn xs)) = true ∧ evG xs (byG xs M (nIn xs)) = M := by
  obtain ⟨h1, h2⟩ := (cls_holds hg).1 h
  have e := ev_by hg hm h1
  refine ⟨?_, e⟩
  rw [← out_bt, e]
  exact h2
/-- as many models as input values for which the output is true -/
theorem count_ways {xs : List Gt} (hg : goodGB xs = true) : countB xs.length (clsG xs) (2 ^ xs.length) = cntO xs (2 ^ nIn xs) := by
  rw [countB_filter, cntO_filter]
  obtain ⟨num, hnum⟩ := Classical.axiomOfChoice (fun (p : Nat × List Bool) => num_any p.1 p.2)
  apply Nat.le_antisymm
  · refine map_le (f := fun N => num (nIn xs, byG xs (modelN xs.length N) (nIn xs))) ((List.nodup_range).filter _) ?_ ?_
    · intro x hx y hy e
      simp only [List.mem_filter, List.mem_range] at hx hy
      have a := hnum (nIn xs, byG xs (modelN xs.length x) (nIn xs)) (byG_len _ _)
      have b := hnum (nIn xs, byG xs (modelN xs.length y) (nIn xs)) (byG_len _ _)
      have e' : num (nIn xs, byG xs (modelN xs.length x) (nIn xs)) = num (nIn xs, byG xs (modelN xs.length y) (nIn xs)) := e
      have ea := a.2
      rw [e'] at ea
      have : byG xs (modelN xs.length x) (nIn xs) = byG xs (modelN xs.length y) (nIn xs) := ea.symm.trans b.2
      have hx2 := (holds_out hg (modelN_len _ _) hx.2).2
      have hy2 := (holds_out hg (modelN_len _ _) hy.2).2
      rw [this] at hx2
      exact modelN_inj hx.1 hy.1 (hx2.symm.trans hy2)
    · intro x hx
      simp only [List.mem_filter, List.mem_range] at hx ⊢
      have a := hnum (nIn xs, byG xs (modelN xs.length x) (nIn xs)) (byG_len _ _)
      refine ⟨a.1, ?_⟩
      have e : modelN (nIn xs) (num (nIn xs, byG xs (modelN xs.length x) (nIn xs))) = byG xs (modelN xs.length x) (nIn xs) := a.2
      rw [e]
      exact (holds_out hg (modelN_len _ _) hx.2).1
  · refine map_le (f := fun K => num (xs.length, evG xs (modelN (nIn xs) K))) ((List.nodup_range).filter _) ?_ ?_
    · intro x hx y hy e
      simp only [List.mem_filter, List.mem_range] at hx hy
      have a := hnum (xs.length, evG xs (modelN (nIn xs) x)) (evG_len _ _)
      have b := hnum (xs.length, evG xs (modelN (nIn xs) y)) (evG_len _ _)
      have e' : num (xs.length, evG xs (modelN (nIn xs) x)) = num (xs.length, evG xs (modelN (nIn xs) y)) := e
      have ea := a.2
      rw [e'] at ea
      have : evG xs (modelN (nIn xs) x) = evG xs (modelN (nIn xs) y) := ea.symm.trans b.2
      have hx2 := by_ev (xs := xs) (ins := modelN (nIn xs) x) (modelN_len _ _)
      have hy2 := by_ev (xs := xs) (ins := modelN (nIn xs) y) (modelN_len _ _)
      rw [this] at hx2
      exact modelN_inj hx.1 hy.1 (hx2.symm.trans hy2)
    · intro x hx
      simp only [List.mem_filter, List.mem_range] at hx ⊢
      have a := hnum (xs.length, evG xs (modelN (nIn xs) x)) (evG_len _ _)
      refine ⟨a.1, ?_⟩
      have e : modelN xs.length (num (xs.length, evG xs (modelN (nIn xs) x))) = evG xs (modelN (nIn xs) x) := a.2
      rw [e]
      exact out_holds hg _ hx.2
end Go.Proofs.Ytklcfbjaodildaa
