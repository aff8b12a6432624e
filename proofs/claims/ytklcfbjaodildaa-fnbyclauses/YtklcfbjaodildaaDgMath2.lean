/-
  Binary decision diagrams: values, tables, which diagrams are valid; plain lists.
-/
import Derived.Test.YtklcfbjaodildaaDgMath
namespace Go.Proofs.Ytklcfbjaodildaa

/-- the value of a number in the model with the index m -/
def evF : Nat → List Nd → Int → Nat → Bool
  | 0, _, k, _ => k == 1
  | f + 1, ns, k, m => if k < 2 then k == 1 else match ns[(k - 2).toNat]? with
    | some x => evF f ns (if m.testBit (x.v - 1).toNat then x.h else x.l) m
    | none => false
def ev (ns : List Nd) (k : Int) (m : Nat) : Bool := evF k.toNat ns k m

theorem evF_enough {ns : List Nd} (ha : Ahead ns) (m : Nat) : ∀ (f g : Nat) (k : Int), k.toNat ≤ f → k.toNat ≤ g → evF f ns k m = evF g ns k m
  | 0, 0, _, _, _ => rfl
  | 0, g + 1, k, h, _ => by
    have : k < 2 := by omega
    simp [evF, this]
  | f + 1, 0, k, _, h => by
    have : k < 2 := by omega
    simp [evF, this]
  | f + 1, g + 1, k, h, h' => by
    unfold evF
    split
    · rfl
    · cases hx : ns[(k - 2).toNat]? with
      | none => rfl
      | some x =>
        obtain ⟨a1, a2, a3, a4⟩ := ha _ x hx
        simp only
        refine evF_enough ha m f g _ ?_ ?_ <;> split <;> omega

theorem ev_low (ns : List Nd) {k : Int} (hk : k < 2) (m : Nat) : ev ns k m = (k == 1) := by
  unfold ev
  cases k.toNat with
  | zero => rfl
  | succ f => simp [evF, hk]
theorem ev_step {ns : List Nd} (ha : Ahead ns) {k : Int} {x : Nd} (hk : 2 ≤ k) (hx : ns[(k - 2).toNat]? = some x) (m : Nat) : ev ns k m = ev ns (if m.testBit (x.v - 1).toNat then x.h else x.l) m := by
  obtain ⟨a1, a2, a3, a4⟩ := ha _ x hx
  obtain ⟨f, hf⟩ : ∃ f, k.toNat = f + 1 := ⟨k.toNat - 1, by omega⟩
  show evF k.toNat ns k m = _
  rw [hf]
  have hn : ¬ k < 2 := by omega
  unfold evF
  rw [if_neg hn, hx]
  simp only
  refine evF_enough ha m f _ _ ?_ (Nat.le_refl _)
  split <;> omega

theorem Rep.evAt {ns : List Nd} (ha : Ahead ns) : ∀ {d v : Nat} {t : Nat → Bool} {k : Nat}, Rep ns d v t k → 1 ≤ v → ∀ m, m < 2 ^ (v - 1 + d) → ev ns k m = t (m / 2 ^ (v - 1))
  | 0, v, t, k, h, h1, m, hm => by
    have e : k = bitN (t 0) := h
    rw [Nat.add_zero] at hm
    rw [Nat.div_eq_of_lt hm, e, ev_low ns (by unfold bitN; split <;> simp) m]
    cases t 0 <;> simp [bitN]
  | d + 1, v, t, k, ⟨l, h, r1, r2, h3⟩, h1, m, hm => by
    have e1 := Rep.evAt ha r1 (by omega) m (by rw [show v + 1 - 1 + d = v - 1 + (d + 1) by omega]; exact hm)
    have e2 := Rep.evAt ha r2 (by omega) m (by rw [show v + 1 - 1 + d = v - 1 + (d + 1) by omega]; exact hm)
    have hp : 2 ^ (v + 1 - 1) = 2 ^ (v - 1) * 2 := by rw [← Nat.pow_succ]; congr 1; omega
    rw [hp, ← Nat.div_div_eq_div_mul] at e1 e2
    unfold evT at e1
    unfold odT at e2
    have hb : m.testBit (v - 1) = decide (m / 2 ^ (v - 1) % 2 = 1) := by
      rw [Nat.testBit_eq_decide_div_mod_eq]
    have e3 : ev ns k m = if m.testBit (v - 1) then ev ns h m else ev ns l m := by
      rcases h3 with ⟨rfl, rfl⟩ | ⟨a, b, c⟩
      · simp
      · rw [ev_step ha (x := ⟨v, l, h⟩) (by omega) (by rw [show ((k : Int) - 2).toNat = k - 2 by omega]; exact c) m]
        simp only
        rw [show ((v : Int) - 1).toNat = v - 1 by omega]
        split <;> rfl
    rw [e3]
    generalize m / 2 ^ (v - 1) = q at *
    rcases Nat.mod_two_eq_zero_or_one q with hq | hq
    · rw [hb, hq]
      simp only [Nat.zero_ne_one, decide_false, Bool.false_eq_true, if_false]
      rw [e1, show 2 * (q / 2) = q by omega]
    · rw [hb, hq]
      simp only [decide_true, if_true]
      rw [e2, show 2 * (q / 2) + 1 = q by omega]

/-- the nodes are as said: each leads to ones ahead -/
def Fol (n : Int) (ns : List Nd) (r : Int) : Prop := (∀ (i : Nat) (x : Nd), ns[i]? = some x → 1 ≤ x.v ∧ x.v ≤ n ∧ 0 ≤ x.l ∧ x.l < i + 2 ∧ 0 ≤ x.h ∧ x.h < i + 2) ∧ 0 ≤ r ∧ r < ns.length + 2
noncomputable def folB (n : Int) (ns : List Nd) (r : Int) : Bool := @decide (Fol n ns r) (Classical.propDecidable _)
theorem folB_true {n : Int} {ns : List Nd} {r : Int} : folB n ns r = true ↔ Fol n ns r := by unfold folB; simp
theorem folB_false {n : Int} {ns : List Nd} {r : Int} (h : ¬ Fol n ns r) : folB n ns r = false := by unfold folB; simp [h]
theorem Fol.ahead {n : Int} {ns : List Nd} {r : Int} (h : Fol n ns r) : Ahead ns := fun i x hx => (h.1 i x hx).2.2
def tabF (l : List Bool) : Nat → Bool := fun j => l.getD j false
/-- the table of a diagram -/
def tabL (n : Nat) (ns : List Nd) (r : Int) : List Bool := (List.range (2 ^ n)).map (ev ns r)
theorem tabL_len (n : Nat) (ns : List Nd) (r : Int) : (tabL n ns r).length = 2 ^ n := by simp [tabL]
theorem tabL_at {n : Nat} {ns : List Nd} {r : Int} {i : Nat} (h : i < 2 ^ n) : (tabL n ns r)[i]? = some (ev ns r i) := by simp [tabL, h]
/-- the diagram of a table -/
def dgm (n : Nat) (l : List Bool) : Nat × List Nd := bld n 1 (tabF l) []
theorem dgm_facts {n : Nat} {l : List Bool} {k : Nat} {ns : List Nd} (hl : l.length = 2 ^ n) (h : dgm n l = (k, ns)) : Fol n ns k ∧ tabL n ns k = l ∧ Rises n ns ∧ ns.length + 1 ≤ 2 ^ n ∧ Rep ns n 1 (tabF l) k ∧ ns.Nodup := by
  unfold dgm at h
  obtain ⟨xs, e, n1, r, c⟩ := bld_rep n 1 (tabF l) [] (by simp)
  obtain ⟨ha, hr⟩ := bld_ahead n n 1 (tabF l) [] (by simp) (by simp) (by omega) (fun i x hx => by simp at hx) (fun i x hx => by simp at hx)
  rw [h] at e r ha hr
  simp only [List.nil_append] at e r ha hr n1
  subst e
  refine ⟨⟨fun i x hx => ⟨(hr i x hx).1, (hr i x hx).2.1, ha i x hx⟩, by omega, by have := r.lt; omega⟩, ?_, hr, c, r, n1⟩
  apply List.ext_getElem?
  intro i
  by_cases hi : i < 2 ^ n
  · rw [tabL_at hi, r.evAt ha (by omega) i (by simpa using hi), List.getElem?_eq_getElem (by omega)]
    simp [tabF, hl, hi]
  · rw [List.getElem?_eq_none (by rw [tabL_len]; omega), List.getElem?_eq_none (by omega)]
theorem dgm_inj {n : Nat} {l l' : List Bool} (hl : l.length = 2 ^ n) (hl' : l'.length = 2 ^ n) (h : dgm n l = dgm n l') : l = l' := by
  obtain ⟨k, ns, e⟩ : ∃ k ns, dgm n l = (k, ns) := ⟨_, _, rfl⟩
  have h1 := (dgm_facts hl e).2.1
  have h2 := (dgm_facts hl' (h ▸ e)).2.1
  exact h1.symm.trans h2

/-- a diagram is valid -/
def GoodD (n : Int) (ns : List Nd) (r : Int) : Prop := 0 ≤ n ∧ n ≤ 6 ∧ Fol n ns r ∧ dgm n.toNat (tabL n.toNat ns r) = (r.toNat, ns)
noncomputable def goodDB (n : Int) (ns : List Nd) (r : Int) : Bool := @decide (GoodD n ns r) (Classical.propDecidable _)
theorem goodDB_true {n : Int} {ns : List Nd} {r : Int} : goodDB n ns r = true ↔ GoodD n ns r := by unfold goodDB; simp
theorem goodDB_false {n : Int} {ns : List Nd} {r : Int} (h : ¬ GoodD n ns r) : goodDB n ns r = false := by unfold goodDB; simp [h]
theorem goodDB_yes {n : Int} {ns : List Nd} {r : Int} (h : GoodD n ns r) : goodDB n ns r = true := goodDB_true.2 h
theorem dgm_good {n : Nat} {l : List Bool} {k : Nat} {ns : List Nd} (hn : n ≤ 6) (hl : l.length = 2 ^ n) (h : dgm n l = (k, ns)) : GoodD n ns k := by
  obtain ⟨h1, h2, _⟩ := dgm_facts hl h
  refine ⟨by omega, by omega, h1, ?_⟩
  rw [show ((n : Int)).toNat = n by omega, show ((k : Int)).toNat = k by omega, h2, h]
theorem GoodD.facts {n : Int} {ns : List Nd} {r : Int} (h : GoodD n ns r) : Rises n.toNat ns ∧ ns.length + 1 ≤ 2 ^ n.toNat ∧ Rep ns n.toNat 1 (tabF (tabL n.toNat ns r)) r.toNat := by
  obtain ⟨h1, h2, h3, h4⟩ := h
  obtain ⟨_, _, a, b, c, _⟩ := dgm_facts (tabL_len _ _ _) h4
  exact ⟨a, b, c⟩
theorem pow_le6 {n : Nat} (h : n ≤ 6) : 2 ^ n ≤ 64 := by
  have : 2 ^ n ≤ 2 ^ 6 := Nat.pow_le_pow_right (by omega) h
  simpa using this
theorem GoodD.len {n : Int} {ns : List Nd} {r : Int} (h : GoodD n ns r) : ns.length ≤ 63 := by
  have := h.facts.2.1
  have h6 : n.toNat ≤ 6 := by have := h.2.1; omega
  have := pow_le6 h6
  omega

/-- how many ones a table has -/
def cntT : Nat → (Nat → Bool) → Nat
  | 0, t => bitN (t 0)
  | d + 1, t => cntT d (evT t) + cntT d (odT t)
def cntR : Nat → (Nat → Bool) → Nat
  | 0, _ => 0
  | n + 1, t => cntR n t + bitN (t n)
theorem cntR_halves (t : Nat → Bool) : ∀ n, cntR (2 * n) t = cntR n (evT t) + cntR n (odT t)
  | 0 => rfl
  | n + 1 => by
    rw [show 2 * (n + 1) = 2 * n + 1 + 1 by omega]
    show cntR (2 * n) t + bitN (t (2 * n)) + bitN (t (2 * n + 1)) = cntR n (evT t) + bitN (t (2 * n)) + (cntR n (odT t) + bitN (t (2 * n + 1)))
    rw [cntR_halves t n]
    omega
theorem cntT_eq : ∀ (d : Nat) (t : Nat → Bool), cntT d t = cntR (2 ^ d) t
  | 0, t => by simp [cntT, cntR]
  | d + 1, t => by rw [Nat.pow_succ, Nat.mul_comm, cntR_halves, ← cntT_eq d, ← cntT_eq d]; rfl
theorem cntR_count (l : List Bool) : ∀ n, n ≤ l.length → cntR n (tabF l) = (l.take n).count true
  | 0, _ => by simp [cntR]
  | n + 1, h => by
    unfold cntR
    rw [cntR_count l n (by omega), List.take_succ_eq_append_getElem (by omega), List.count_append]
    have : tabF l n = l[n] := by simp [tabF, show n < l.length by omega]
    rw [this]
    cases l[n] <;> simp [bitN]
theorem cntT_count {n : Nat} {l : List Bool} (hl : l.length = 2 ^ n) : cntT n (tabF l) = l.count true := by
  rw [cntT_eq, cntR_count l _ (by omega), ← hl, List.take_length]

/-- how many of the 2^n models come to a one from a number on -/
def wgF : Nat → Nat → List Nd → Int → Nat
  | _, 0, _, _ => 0
  | n, f + 1, ns, k => if k < 2 then (if k = 1 then 2 ^ n else 0) else match ns[(k - 2).toNat]? with
    | some x => (wgF n f ns x.l + wgF n f ns x.h) / 2
    | none => 0
def wg (n : Nat) (ns : List Nd) (k : Int) : Nat := wgF n (k.toNat + 1) ns k
theorem wgF_enough {ns : List Nd} (ha : Ahead ns) (n : Nat) : ∀ (f g : Nat) (k : Int), k.toNat < f → k.toNat < g → wgF n f ns k = wgF n g ns k
  | 0, _, _, h, _ => by omega
  | _ + 1, 0, _, _, h => by omega
  | f + 1, g + 1, k, h, h' => by
    unfold wgF
    split
    · rfl
    · cases hx : ns[(k - 2).toNat]? with
      | none => rfl
      | some x =>
        obtain ⟨a1, a2, a3, a4⟩ := ha _ x hx
        simp only
        rw [wgF_enough ha n f g x.l (by omega) (by omega), wgF_enough ha n f g x.h (by omega) (by omega)]
theorem wg_low (n : Nat) (ns : List Nd) {k : Int} (hk : k < 2) : wg n ns k = if k = 1 then 2 ^ n else 0 := by simp [wg, wgF, hk]
theorem wg_step {ns : List Nd} (ha : Ahead ns) (n : Nat) {k : Int} {x : Nd} (hk : 2 ≤ k) (hx : ns[(k - 2).toNat]? = some x) : wg n ns k = (wg n ns x.l + wg n ns x.h) / 2 := by
  obtain ⟨a1, a2, a3, a4⟩ := ha _ x hx
  show wgF n (k.toNat + 1) ns k = _
  have hn : ¬ k < 2 := by omega
  unfold wgF
  rw [if_neg hn, hx]
  simp only [wg]
  rw [wgF_enough ha n k.toNat (x.l.toNat + 1) x.l (by omega) (by omega), wgF_enough ha n k.toNat (x.h.toNat + 1) x.h (by omega) (by omega)]

theorem Rep.wgAt {ns : List Nd} (ha : Ahead ns) (n : Nat) : ∀ {d v : Nat} {t : Nat → Bool} {k : Nat}, Rep ns d v t k → 1 ≤ v → v - 1 + d = n → wg n ns k = 2 ^ (v - 1) * cntT d t
  | 0, v, t, k, h, h1, hm => by
    have e : k = bitN (t 0) := h
    have e2 : v - 1 = n := by omega
    rw [wg_low n ns (by rw [e]; unfold bitN; split <;> simp), e, e2]
    cases h0 : t 0 <;> simp [bitN, cntT, h0]
  | d + 1, v, t, k, ⟨l, h, r1, r2, h3⟩, h1, hm => by
    have e1 := Rep.wgAt ha n r1 (by omega) (by omega)
    have e2 := Rep.wgAt ha n r2 (by omega) (by omega)
    have hp : 2 ^ (v + 1 - 1) = 2 * 2 ^ (v - 1) := by rw [Nat.mul_comm, ← Nat.pow_succ]; congr 1; omega
    rw [hp, Nat.mul_assoc] at e1 e2
    unfold cntT
    rw [Nat.mul_add]
    generalize 2 ^ (v - 1) * cntT d (evT t) = a at *
    generalize 2 ^ (v - 1) * cntT d (odT t) = b at *
    rcases h3 with ⟨rfl, rfl⟩ | ⟨_, b2, c⟩
    · omega
    · rw [wg_step ha n (x := ⟨v, l, h⟩) (by omega) (by rw [show ((k : Int) - 2).toNat = k - 2 by omega]; exact c)]
      simp only
      omega
/-- the weights of a valid diagram: an even sum at each node -/
theorem GoodD.wg_root {n : Int} {ns : List Nd} {r : Int} (h : GoodD n ns r) : wg n.toNat ns r = (tabL n.toNat ns r).count true := by
  have := h.facts.2.2.wgAt h.2.2.1.ahead n.toNat (by omega) (by omega)
  have hr : ((r.toNat : Nat) : Int) = r := by have := h.2.2.1.2; omega
  rw [hr] at this
  rw [this, cntT_count (tabL_len _ _ _)]
  simp
end Go.Proofs.Ytklcfbjaodildaa
