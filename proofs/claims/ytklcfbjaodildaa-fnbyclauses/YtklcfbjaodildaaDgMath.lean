/-
  Binary decision diagrams: plain lists.
-/
import Derived.Test.YtklcfbjaodildaaRows
namespace Go.Proofs.Ytklcfbjaodildaa

/-- a node -/
structure Nd where
  v : Int
  l : Int
  h : Int
deriving DecidableEq

/-- the number of a node, and the nodes behind it -/
def numN (ns : List Nd) (x : Nd) : Nat × List Nd := if x ∈ ns then (ns.idxOf x + 2, ns) else (ns.length + 2, ns ++ [x])
def evT (t : Nat → Bool) : Nat → Bool := fun j => t (2 * j)
def odT (t : Nat → Bool) : Nat → Bool := fun j => t (2 * j + 1)
def bitN (b : Bool) : Nat := if b then 1 else 0
/-- build the diagram of a table of 2^d values from the variable v on -/
def bld : Nat → Nat → (Nat → Bool) → List Nd → Nat × List Nd
  | 0, _, t, ns => (bitN (t 0), ns)
  | d + 1, v, t, ns =>
    let a := bld d (v + 1) (evT t) ns
    let b := bld d (v + 1) (odT t) a.2
    if a.1 = b.1 then (a.1, b.2) else numN b.2 ⟨v, a.1, b.1⟩

theorem bld_succ (d v : Nat) (t : Nat → Bool) (ns ns1 ns2 : List Nd) (l h : Nat) (h1 : bld d (v + 1) (evT t) ns = (l, ns1)) (h2 : bld d (v + 1) (odT t) ns1 = (h, ns2)) :
    bld (d + 1) v t ns = if l = h then (l, ns2) else numN ns2 ⟨v, l, h⟩ := by
  simp only [bld, h1, h2]

/-- the number k stands for the table t -/
def Rep (ns : List Nd) : Nat → Nat → (Nat → Bool) → Nat → Prop
  | 0, _, t, k => k = bitN (t 0)
  | d + 1, v, t, k => ∃ l h, Rep ns d (v + 1) (evT t) l ∧ Rep ns d (v + 1) (odT t) h ∧ ((l = h ∧ k = l) ∨ (l ≠ h ∧ 2 ≤ k ∧ ns[k - 2]? = some ⟨v, l, h⟩))

theorem Rep.mono {ns : List Nd} (xs : List Nd) : ∀ {d v : Nat} {t : Nat → Bool} {k : Nat}, Rep ns d v t k → Rep (ns ++ xs) d v t k
  | 0, _, _, _, h => h
  | d + 1, v, t, k, ⟨l, h, h1, h2, h3⟩ => by
    refine ⟨l, h, h1.mono xs, h2.mono xs, ?_⟩
    rcases h3 with h3 | ⟨a, b, c⟩
    · exact .inl h3
    · refine .inr ⟨a, b, ?_⟩
      rw [List.getElem?_append_left ((List.getElem?_eq_some_iff.1 c).1)]
      exact c

theorem Rep.top {ns : List Nd} : ∀ {d v : Nat} {t : Nat → Bool} {k : Nat}, Rep ns d v t k → k < 2 ∨ (2 ≤ k ∧ ∃ x, ns[k - 2]? = some x ∧ (v : Int) ≤ x.v)
  | 0, _, t, k, h => .inl (by rw [show k = bitN (t 0) from h]; unfold bitN; split <;> omega)
  | d + 1, v, t, k, ⟨l, h, h1, _, h3⟩ => by
    rcases h3 with ⟨_, rfl⟩ | ⟨_, b, c⟩
    · rcases h1.top with q | ⟨q, x, hx, hv⟩
      · exact .inl q
      · exact .inr ⟨q, x, hx, by omega⟩
    · exact .inr ⟨b, _, c, Int.le_refl _⟩

/-- two tables that are alike so far -/
def EqT (d : Nat) (t t' : Nat → Bool) : Prop := ∀ j, j < 2 ^ d → t j = t' j
theorem EqT.ev {d : Nat} {t t' : Nat → Bool} (h : EqT (d + 1) t t') : EqT d (evT t) (evT t') := fun j hj => h (2 * j) (by rw [Nat.pow_succ]; omega)
theorem EqT.od {d : Nat} {t t' : Nat → Bool} (h : EqT (d + 1) t t') : EqT d (odT t) (odT t') := fun j hj => h (2 * j + 1) (by rw [Nat.pow_succ]; omega)
theorem EqT.mk {d : Nat} {t t' : Nat → Bool} (h1 : EqT d (evT t) (evT t')) (h2 : EqT d (odT t) (odT t')) : EqT (d + 1) t t' := fun j hj => by
  rw [Nat.pow_succ] at hj
  rcases Nat.mod_two_eq_zero_or_one j with q | q
  · have := h1 (j / 2) (by omega)
    unfold evT at this
    rw [show 2 * (j / 2) = j by omega] at this
    exact this
  · have := h2 (j / 2) (by omega)
    unfold odT at this
    rw [show 2 * (j / 2) + 1 = j by omega] at this
    exact this
theorem bitN_inj {a b : Bool} (h : bitN a = bitN b) : a = b := by cases a <;> cases b <;> simp [bitN] at h ⊢

theorem Rep.inj {ns : List Nd} : ∀ {d v : Nat} {t t' : Nat → Bool} {k : Nat}, Rep ns d v t k → Rep ns d v t' k → EqT d t t'
  | 0, _, t, t', k, h, h' => fun j hj => by
    obtain rfl : j = 0 := by simpa using hj
    exact bitN_inj (h.symm.trans h')
  | d + 1, v, t, t', k, ⟨l, h, h1, h2, h3⟩, ⟨l', h', h1', h2', h3'⟩ => by
    rcases h3 with ⟨rfl, rfl⟩ | ⟨a, b, c⟩
    · rcases h3' with ⟨rfl, rfl⟩ | ⟨a', b', c'⟩
      · exact EqT.mk (h1.inj h1') (h2.inj h2')
      · exfalso
        rcases h1.top with q | ⟨q, x, hx, hv⟩
        · omega
        · rw [c'] at hx
          injection hx with hx
          subst hx
          have hv' : ((v + 1 : Nat) : Int) ≤ (v : Int) := hv
          omega
    · rcases h3' with ⟨rfl, rfl⟩ | ⟨a', b', c'⟩
      · exfalso
        rcases h1'.top with q | ⟨q, x, hx, hv⟩
        · omega
        · rw [c] at hx
          injection hx with hx
          subst hx
          have hv' : ((v + 1 : Nat) : Int) ≤ (v : Int) := hv
          omega
      · rw [c] at c'
        injection c' with e
        injection e with _ e2 e3
        obtain rfl : l = l' := by omega
        obtain rfl : h = h' := by omega
        exact EqT.mk (h1.inj h1') (h2.inj h2')

theorem idxOf_nodup {ns : List Nd} (hn : ns.Nodup) {i : Nat} {x : Nd} (hx : ns[i]? = some x) : ns.idxOf x = i := by
  obtain ⟨hlt, e⟩ := List.getElem?_eq_some_iff.1 hx
  have hm : x ∈ ns := by rw [← e]; exact List.getElem_mem hlt
  have h1 : ns.idxOf x < ns.length := List.idxOf_lt_length_of_mem hm
  have h2 : ns[ns.idxOf x] = x := List.getElem_idxOf h1
  exact (List.getElem_inj hn).1 (h2.trans e.symm)

theorem Rep.bld {ns : List Nd} (hn : ns.Nodup) : ∀ {d v : Nat} {t t' : Nat → Bool} {k : Nat}, Rep ns d v t k → EqT d t t' → Go.Proofs.Ytklcfbjaodildaa.bld d v t' ns = (k, ns)
  | 0, _, t, t', k, h, he => by
    have : t 0 = t' 0 := he 0 (by simp)
    show (bitN (t' 0), ns) = (k, ns)
    rw [← this, show k = bitN (t 0) from h]
  | d + 1, v, t, t', k, ⟨l, h, h1, h2, h3⟩, he => by
    rw [bld_succ d v t' ns ns ns l h (h1.bld hn he.ev) (h2.bld hn he.od)]
    rcases h3 with ⟨rfl, rfl⟩ | ⟨a, b, c⟩
    · simp
    · rw [if_neg a]
      have hm : (⟨v, l, h⟩ : Nd) ∈ ns := List.mem_of_getElem? c
      unfold numN
      rw [if_pos hm, idxOf_nodup hn c]
      have : k - 2 + 2 = k := by omega
      rw [this]

theorem numN_rep {ns : List Nd} (hn : ns.Nodup) (x : Nd) : ∃ xs, (numN ns x).2 = ns ++ xs ∧ (ns ++ xs).Nodup ∧ 2 ≤ (numN ns x).1 ∧ (ns ++ xs)[(numN ns x).1 - 2]? = some x ∧ xs.length ≤ 1 := by
  unfold numN
  split
  · rename_i hm
    have h1 : ns.idxOf x < ns.length := List.idxOf_lt_length_of_mem hm
    refine ⟨[], by simp, by simpa using hn, by simp, ?_, by simp⟩
    simp only [Nat.add_sub_cancel, List.append_nil]
    rw [List.getElem?_eq_getElem h1, List.getElem_idxOf h1]
  · rename_i hm
    refine ⟨[x], rfl, ?_, by simp, by simp, by simp⟩
    rw [List.nodup_append]
    refine ⟨hn, by simp, ?_⟩
    intro a ha b hb
    simp at hb
    subst hb
    intro e
    subst e
    exact hm ha

/-- what building gives -/
theorem bld_rep : ∀ (d v : Nat) (t : Nat → Bool) (ns : List Nd), ns.Nodup → ∃ xs, (bld d v t ns).2 = ns ++ xs ∧ (ns ++ xs).Nodup ∧ Rep (ns ++ xs) d v t (bld d v t ns).1 ∧ xs.length + 1 ≤ 2 ^ d
  | 0, v, t, ns, hn => ⟨[], by simp [bld], by simpa using hn, rfl, by simp⟩
  | d + 1, v, t, ns, hn => by
    obtain ⟨x1, e1, n1, r1, c1⟩ := bld_rep d (v + 1) (evT t) ns hn
    obtain ⟨x2, e2, n2, r2, c2⟩ := bld_rep d (v + 1) (odT t) (ns ++ x1) n1
    generalize hb1 : bld d (v + 1) (evT t) ns = b1 at e1 r1
    obtain ⟨l, ns1⟩ := b1
    simp only at e1 r1
    subst e1
    generalize hb2 : bld d (v + 1) (odT t) (ns ++ x1) = b2 at e2 r2
    obtain ⟨h, ns2⟩ := b2
    simp only at e2 r2
    subst e2
    rw [bld_succ d v t ns _ _ l h hb1 hb2]
    by_cases he : l = h
    · rw [if_pos he]
      refine ⟨x1 ++ x2, by simp, by simpa using n2, ⟨l, h, by simpa using r1.mono x2, by simpa using r2, .inl ⟨he, rfl⟩⟩, ?_⟩
      simp only [List.length_append, Nat.pow_succ]
      omega
    · rw [if_neg he]
      obtain ⟨x3, e3, n3, k2, k3, c3⟩ := numN_rep n2 ⟨(v : Int), l, h⟩
      refine ⟨x1 ++ x2 ++ x3, by simpa using e3, by simpa using n3, ⟨l, h, ?_, ?_, .inr ⟨he, k2, by simpa using k3⟩⟩, ?_⟩
      · have := (r1.mono x2).mono x3
        simpa using this
      · have := r2.mono x3
        simpa using this
      · simp only [List.length_append, Nat.pow_succ]
        omega

/-- equal halves: the second half adds nothing -/
theorem bld_same (d v : Nat) (t : Nat → Bool) (ns : List Nd) (hn : ns.Nodup) (he : EqT d (evT t) (odT t)) : bld (d + 1) v t ns = bld d (v + 1) (evT t) ns := by
  obtain ⟨x1, e1, n1, r1, _⟩ := bld_rep d (v + 1) (evT t) ns hn
  generalize hb1 : bld d (v + 1) (evT t) ns = b1 at e1 r1
  obtain ⟨l, ns1⟩ := b1
  simp only at e1 r1
  subst e1
  rw [bld_succ d v t ns _ _ l l hb1 (r1.bld n1 he)]
  simp

/-- halves that are not alike: the node -/
theorem bld_other (d v : Nat) (t : Nat → Bool) (ns : List Nd) (hn : ns.Nodup) (he : ¬ EqT d (evT t) (odT t)) {l h : Nat} {ns1 ns2 : List Nd} (h1 : bld d (v + 1) (evT t) ns = (l, ns1)) (h2 : bld d (v + 1) (odT t) ns1 = (h, ns2)) :
    bld (d + 1) v t ns = numN ns2 ⟨v, l, h⟩ := by
  obtain ⟨x1, e1, n1, r1, _⟩ := bld_rep d (v + 1) (evT t) ns hn
  rw [h1] at e1 r1
  simp only at e1 r1
  subst e1
  obtain ⟨x2, e2, n2, r2, _⟩ := bld_rep d (v + 1) (odT t) (ns ++ x1) n1
  rw [h2] at e2 r2
  simp only at e2 r2
  subst e2
  rw [bld_succ d v t ns _ _ l h h1 h2, if_neg]
  rintro rfl
  exact he ((r1.mono x2).inj r2)

theorem bld_nodup (d v : Nat) (t : Nat → Bool) {ns ns' : List Nd} {k : Nat} (hn : ns.Nodup) (h : bld d v t ns = (k, ns')) : ns'.Nodup := by
  obtain ⟨x1, e1, n1, _⟩ := bld_rep d v t ns hn
  rw [h] at e1
  simp only at e1
  subst e1
  exact n1
theorem bld_len (d v : Nat) (t : Nat → Bool) {ns ns' : List Nd} {k : Nat} (hn : ns.Nodup) (h : bld d v t ns = (k, ns')) : ns.length ≤ ns'.length ∧ ns'.length + 1 ≤ ns.length + 2 ^ d := by
  obtain ⟨x1, e1, n1, _, c⟩ := bld_rep d v t ns hn
  rw [h] at e1
  simp only at e1
  subst e1
  simp
  omega
theorem Rep.lt {ns : List Nd} {d v : Nat} {t : Nat → Bool} {k : Nat} (h : Rep ns d v t k) : k < ns.length + 2 := by
  rcases h.top with q | ⟨q, x, hx, _⟩
  · omega
  · have := (List.getElem?_eq_some_iff.1 hx).1
    omega
theorem bld_num (d v : Nat) (t : Nat → Bool) {ns ns' : List Nd} {k : Nat} (hn : ns.Nodup) (h : bld d v t ns = (k, ns')) : k < ns'.length + 2 := by
  obtain ⟨x1, e1, n1, r, c⟩ := bld_rep d v t ns hn
  rw [h] at e1 r
  simp only at e1 r
  subst e1
  exact r.lt

/-- nodes as they are made: each leads to ones ahead of it, with greater variables -/
def Ahead (ns : List Nd) : Prop := ∀ (i : Nat) (x : Nd), ns[i]? = some x → 0 ≤ x.l ∧ x.l < i + 2 ∧ 0 ≤ x.h ∧ x.h < i + 2
def Rises (n : Nat) (ns : List Nd) : Prop := ∀ (i : Nat) (x : Nd), ns[i]? = some x → 1 ≤ x.v ∧ x.v ≤ n ∧ x.l ≠ x.h ∧ (∀ y, 2 ≤ x.l → ns[(x.l - 2).toNat]? = some y → x.v < y.v) ∧ (∀ y, 2 ≤ x.h → ns[(x.h - 2).toNat]? = some y → x.v < y.v)

theorem numN_ahead {ns : List Nd} {v l h : Nat} (ha : Ahead ns) (hl : l < ns.length + 2) (hh : h < ns.length + 2) : Ahead (numN ns ⟨v, l, h⟩).2 := by
  unfold numN
  split
  · exact ha
  · intro i x hx
    simp only [List.getElem?_append] at hx
    split at hx
    · exact ha i x hx
    · rename_i hi
      have : i - ns.length = 0 := by
        rcases Nat.eq_zero_or_pos (i - ns.length) with q | q
        · exact q
        · rw [List.getElem?_eq_none (by simp; omega)] at hx
          cases hx
      rw [this] at hx
      simp at hx
      subst hx
      simp
      omega
theorem numN_rises {n : Nat} {ns : List Nd} {v l h : Nat} (ha : Rises n ns) (hA : Ahead ns) (h1 : 1 ≤ v) (h2 : v ≤ n) (hl : l < ns.length + 2) (hh : h < ns.length + 2) (hne : l ≠ h) (tl : ∀ y, 2 ≤ l → ns[l - 2]? = some y → (v : Int) < y.v) (th : ∀ y, 2 ≤ h → ns[h - 2]? = some y → (v : Int) < y.v) :
    Rises n (numN ns ⟨v, l, h⟩).2 := by
  unfold numN
  split
  · exact ha
  · intro i x hx
    simp only [List.getElem?_append] at hx
    split at hx
    · rename_i hi
      obtain ⟨q1, q2, q3, q4, q5⟩ := ha i x hx
      obtain ⟨p1, p2, p3, p4⟩ := hA i x hx
      refine ⟨q1, q2, q3, fun y hy hn => q4 y hy ?_, fun y hy hn => q5 y hy ?_⟩
      · simp only [List.getElem?_append] at hn
        rw [if_pos (by omega)] at hn
        exact hn
      · simp only [List.getElem?_append] at hn
        rw [if_pos (by omega)] at hn
        exact hn
    · rename_i hi
      have : i - ns.length = 0 := by
        rcases Nat.eq_zero_or_pos (i - ns.length) with q | q
        · exact q
        · rw [List.getElem?_eq_none (by simp; omega)] at hx
          cases hx
      rw [this] at hx
      simp at hx
      subst hx
      refine ⟨by simp only; omega, by simp only; omega, by simp only; omega, fun y hy hn => ?_, fun y hy hn => ?_⟩
      · simp only at hy hn
        refine tl y (by omega) ?_
        simp only [List.getElem?_append] at hn
        rw [if_pos (by omega)] at hn
        rw [← hn]
        congr 1
        omega
      · simp only at hy hn
        refine th y (by omega) ?_
        simp only [List.getElem?_append] at hn
        rw [if_pos (by omega)] at hn
        rw [← hn]
        congr 1
        omega

theorem bld_ahead : ∀ (n d v : Nat) (t : Nat → Bool) (ns : List Nd), ns.Nodup → 1 ≤ v → v + d = n + 1 → Ahead ns → Rises n ns → Ahead (bld d v t ns).2 ∧ Rises n (bld d v t ns).2
  | _, 0, _, _, _, _, _, _, ha, hr => ⟨ha, hr⟩
  | n, d + 1, v, t, ns, hn, h1, h2, ha, hr => by
    obtain ⟨x1, e1, n1, r1, _⟩ := bld_rep d (v + 1) (evT t) ns hn
    have k1 := bld_ahead n d (v + 1) (evT t) ns hn (by omega) (by omega) ha hr
    generalize hb1 : bld d (v + 1) (evT t) ns = b1 at e1 r1 k1
    obtain ⟨l, ns1⟩ := b1
    simp only at e1 r1 k1
    subst e1
    obtain ⟨x2, e2, n2, r2, _⟩ := bld_rep d (v + 1) (odT t) (ns ++ x1) n1
    have k2 := bld_ahead n d (v + 1) (odT t) (ns ++ x1) n1 (by omega) (by omega) k1.1 k1.2
    generalize hb2 : bld d (v + 1) (odT t) (ns ++ x1) = b2 at e2 r2 k2
    obtain ⟨h, ns2⟩ := b2
    simp only at e2 r2 k2
    subst e2
    have r1' := r1.mono x2
    rw [bld_succ d v t ns _ _ l h hb1 hb2]
    split
    · exact k2
    · rename_i hne
      refine ⟨numN_ahead k2.1 r1'.lt r2.lt, numN_rises k2.2 k2.1 h1 (by omega) r1'.lt r2.lt hne (fun y hy hn' => ?_) (fun y hy hn' => ?_)⟩
      · rcases r1'.top with q | ⟨q, x, hx, hv⟩
        · omega
        · rw [hn'] at hx
          injection hx with hx
          subst hx
          have : ((v + 1 : Nat) : Int) ≤ y.v := hv
          omega
      · rcases r2.top with q | ⟨q, x, hx, hv⟩
        · omega
        · rw [hn'] at hx
          injection hx with hx
          subst hx
          have : ((v + 1 : Nat) : Int) ≤ y.v := hv
          omega
end Go.Proofs.Ytklcfbjaodildaa
