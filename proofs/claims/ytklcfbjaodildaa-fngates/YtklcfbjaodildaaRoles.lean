/-
  The memory of a search: the clauses (their list of one's own, the first of them anyone's), what was learned, what was decided.
-/
import Derived.Test.YtklcfbjaodildaaNeg
import Derived.Test.YtklcfbjaodildaaReduce
namespace Go.Proofs.Ytklcfbjaodildaa
open Go.ChangeShapes Go.WideShapes Go.ChangeAt Go.RowKit

/-- a slice of slices of ints, its cells -/
def Rows0 (w : World) (I0 : Nat → Prop) (vs : List Value) (L : List (List Int)) : Prop :=
  vs.length = L.length ∧ ∀ (i : Nat) (l : List Int), L[i]? = some l → ∃ (a : Option Addr) (c : Nat), vs[i]? = some (.slice a l.length c) ∧ l.length ≤ c ∧ l.length ≤ 9223372036854775807 ∧ ILies w a l ∧ ∀ ad, a = some ad → 0 < l.length → I0 ad.block
theorem ILies.kept {w w' : World} {A : Option Addr} {l : List Int} {S : Nat → Prop} (h : ILies w A l) (hk : Kept w w' S) (hn : ∀ ad, A = some ad → 0 < l.length → ¬ S ad.block) : ILies w' A l := by
  intro i y hy
  obtain ⟨b, off, hA, hb, hc⟩ := h i y hy
  have hl : 0 < l.length := by have := (List.getElem?_eq_some_iff.1 hy).1; omega
  refine ⟨b, off, hA, Nat.lt_of_lt_of_le hb hk.size, ?_⟩
  have e := hk.block b hb (hn _ hA hl)
  rw [← hc]
  unfold World.cell?
  simp only [e]
theorem Rows0.kept {w w' : World} {I0 S : Nat → Prop} {vs : List Value} {L : List (List Int)} (h : Rows0 w I0 vs L) (hk : Kept w w' S) (hn : ∀ g, I0 g → ¬ S g) : Rows0 w' I0 vs L := by
  refine ⟨h.1, fun i l hl => ?_⟩
  obtain ⟨a, c, h1, h2, h3, h4, h5⟩ := h.2 i l hl
  exact ⟨a, c, h1, h2, h3, h4.kept hk (fun ad e p => hn _ (h5 ad e p)), h5⟩
/-- the memory of a search -/
structure Roles (w : World) (base : Nat) (I0 : Nat → Prop) (L P : List (List Int)) (D : List Int) (C R E : Value) (vsL vsP : List Value) : Prop where
  c : w.ownsRow base 55 1 C (L.length + P.length) (vsL ++ vsP)
  l : Rows0 w I0 vsL L
  p : OwnSS w base R vsP P
  d : w.ownsRow base 3 1 E D.length (D.map (Value.int .i64))
  ilt : ∀ g, I0 g → g < w.heap.size
  ci : ∀ g, C.ownBlock = some g → ¬ I0 g ∧ ¬ blks vsP g ∧ R.ownBlock ≠ some g ∧ E.ownBlock ≠ some g
  pi : ∀ g, R.ownBlock = some g → ¬ I0 g ∧ E.ownBlock ≠ some g
  di : ∀ g, E.ownBlock = some g → ¬ I0 g ∧ ¬ blks vsP g
/-- a block beside them -/
def Off (I0 : Nat → Prop) (C R E : Value) (vsP : List Value) (g : Nat) : Prop := ¬ I0 g ∧ ¬ blks vsP g ∧ C.ownBlock ≠ some g ∧ R.ownBlock ≠ some g ∧ E.ownBlock ≠ some g
section
variable {w w' : World} {base : Nat} {I0 : Nat → Prop} {L P : List (List Int)} {D : List Int} {C R E : Value} {vsL vsP : List Value}
theorem Roles.kept {S : Nat → Prop} (h : Roles w base I0 L P D C R E vsL vsP) (hk : Kept w w' S) (hn : ∀ g, S g → Off I0 C R E vsP g) : Roles w' base I0 L P D C R E vsL vsP :=
  ⟨hk.own h.c (fun g e q => (hn g q).2.2.1 e), h.l.kept hk (fun g e q => (hn g q).1 e), h.p.kept hk (fun g e q => (hn g q).2.2.2.1 e) (fun g e q => (hn g q).2.1 e),
    hk.own h.d (fun g e q => (hn g q).2.2.2.2 e), fun g e => Nat.lt_of_lt_of_le (h.ilt g e) hk.size, h.ci, h.pi, h.di⟩
theorem Roles.below (h : Roles w base I0 L P D C R E vsL vsP) (hb : Below w.heap.size w w') : Roles w' base I0 L P D C R E vsL vsP :=
  h.kept (S := fun _ => False) (.of_below hb) (fun _ q => q.elim)
theorem Roles.lies {A : Option Addr} {n c : Nat} (h : Roles w base I0 L P D (.slice A n c) R E vsL vsP) : LLies w A (L ++ P) := by
  intro i l hl
  have hlt : i < (L ++ P).length := (List.getElem?_eq_some_iff.1 hl).1
  obtain ⟨g, cap, hv, _, hg⟩ := h.c.form (by simp at hlt; omega)
  have hA : A = some ⟨g, 0, none⟩ := by injection hv
  subst hA
  have key : ∃ a cc, (vsL ++ vsP)[i]? = some (.slice a l.length cc) ∧ l.length ≤ cc ∧ l.length ≤ 9223372036854775807 ∧ ILies w a l := by
    have hL := h.l.1
    by_cases hi : i < L.length
    · rw [List.getElem?_append_left hi] at hl
      obtain ⟨a, cc, h1, h2, h3, h4, _⟩ := h.l.2 i l hl
      exact ⟨a, cc, by rw [List.getElem?_append_left (by omega)]; exact h1, h2, h3, h4⟩
    · rw [List.getElem?_append_right (by omega)] at hl
      obtain ⟨a, cc, h1, h2⟩ := h.p.inner.row _ l hl
      exact ⟨a, cc, by rw [List.getElem?_append_right (by omega), hL]; exact h1, own_cap h2, own_maxlen h2, own_ilies h2⟩
  obtain ⟨a, cc, h1, h2, h3, h4⟩ := key
  refine ⟨g, 0, a, cc, rfl, hg, ?_, h2, h3, h4⟩
  have := h.c.cells (g := g) rfl i _ h1
  rw [add_plain] at this
  exact this
theorem blks_snoc {vs : List Value} {x : Value} {g : Nat} (h : blks (vs ++ [x]) g) : blks vs g ∨ x.ownBlock = some g := by
  obtain ⟨i, y, hy, hb⟩ := h
  by_cases hi : i < vs.length
  · rw [List.getElem?_append_left hi] at hy
    exact .inl ⟨i, y, hy, hb⟩
  · rw [List.getElem?_append_right (by omega)] at hy
    have : i - vs.length < 1 := by have := (List.getElem?_eq_some_iff.1 hy).1; simpa using this
    rw [show i - vs.length = 0 by omega] at hy
    simp at hy
    subst hy
    exact .inr hb
theorem Roles.small (h : Roles w base I0 L P D C R E vsL vsP) {g : Nat} (hg : C.ownBlock = some g ∨ R.ownBlock = some g ∨ E.ownBlock = some g ∨ blks vsP g ∨ I0 g) : g < w.heap.size := by
  rcases hg with e | e | e | e | e
  · exact (h.c.lt g e).2
  · exact (h.p.outer.lt g e).2
  · exact (h.d.lt g e).2
  · exact (h.p.inner.lt g e).2
  · exact h.ilt g e
/-- a clause is learned: it goes behind what was learned, then behind the clauses -/
theorem Roles.learn {w1 w2 w3 : World} {S : Nat → Prop} {o : List Int} {A3 : Option Addr} {c3 g2 cap2 g3 cap3 : Nat} (h : Roles w base I0 L P D C R E vsL vsP) (hbase : base ≤ w.heap.size)
    (hS : ∀ g, S g → g < w.heap.size ∧ Off I0 C R E vsP g)
    (hb : Below w.heap.size w w1) (ho : w1.ownsRow w.heap.size 3 1 (.slice A3 o.length c3) o.length (o.map (Value.int .i64)))
    (hk2 : Kept w1 w2 (fun g => R.ownBlock = some g ∨ S g)) (ho2 : w2.ownsRow base 55 1 (.slice (some ⟨g2, 0, none⟩) (P.length + 1) cap2) (P.length + 1) (vsP ++ [.slice A3 o.length c3])) (hat2 : R.ownBlock = some g2 ∨ w1.heap.size ≤ g2)
    (hk3 : Kept w2 w3 (fun g => C.ownBlock = some g ∨ S g)) (ho3 : w3.ownsRow base 55 1 (.slice (some ⟨g3, 0, none⟩) (L.length + P.length + 1) cap3) (L.length + P.length + 1) ((vsL ++ vsP) ++ [.slice A3 o.length c3])) (hat3 : C.ownBlock = some g3 ∨ w2.heap.size ≤ g3) :
    Roles w3 base I0 L (P ++ [o]) D (.slice (some ⟨g3, 0, none⟩) (L.length + P.length + 1) cap3) (.slice (some ⟨g2, 0, none⟩) (P.length + 1) cap2) E vsL (vsP ++ [.slice A3 o.length c3]) ∧
      (∀ g, S g → Off I0 (.slice (some ⟨g3, 0, none⟩) (L.length + P.length + 1) cap3) (.slice (some ⟨g2, 0, none⟩) (P.length + 1) cap2) E (vsP ++ [.slice A3 o.length c3]) g) := by
  have hx : ∀ g, (Value.slice A3 o.length c3).ownBlock = some g → w.heap.size ≤ g ∧ g < w1.heap.size := fun g e => ho.lt g e
  have s1 := hb.size
  have s2 := hk2.size
  have l2 := (ho2.lt g2 rfl).2
  -- what was there of old is none of what is turned
  have hR2 : ∀ g, R.ownBlock = some g → g < w.heap.size := fun g e => h.small (.inr (.inl e))
  have hC2 : ∀ g, C.ownBlock = some g → g < w.heap.size := fun g e => h.small (.inl e)
  have hg2 : ∀ g, g = g2 → R.ownBlock = some g ∨ w.heap.size ≤ g := fun g e => by subst e; rcases hat2 with q | q; exact .inl q; exact .inr (by omega)
  have hg3 : ∀ g, g = g3 → C.ownBlock = some g ∨ w1.heap.size ≤ g ∧ g ≠ g2 := fun g e => by subst e; rcases hat3 with q | q; exact .inl q; exact .inr ⟨by omega, by omega⟩
  have hL3 : Rows0 w3 I0 vsL L := ((h.l.kept (.of_below (S := fun _ => False) hb) (fun _ _ q => q)).kept hk2 (fun g i q => q.elim (fun e => (h.pi g e).1 i) (fun e => (hS g e).2.1 i))).kept hk3 (fun g i q => q.elim (fun e => (h.ci g e).1 i) (fun e => (hS g e).2.1 i))
  have hD3 : w3.ownsRow base 3 1 E D.length (D.map (Value.int .i64)) := hk3.own (hk2.own (own_below h.d hb) (fun g e q => q.elim (fun q => (h.pi g q).2 e) (fun q => (hS g q).2.2.2.2.2 e))) (fun g e q => q.elim (fun q => (h.ci g q).2.2.2 e) (fun q => (hS g q).2.2.2.2.2 e))
  have hx2 : w2.ownsRow w.heap.size 3 1 (.slice A3 o.length c3) o.length (o.map (Value.int .i64)) := hk2.own ho (fun g e q => q.elim (fun q => by have := hR2 g q; have := hx g e; omega) (fun q => by have := (hS g q).1; have := hx g e; omega))
  have hx3 : w3.ownsRow base 3 1 (.slice A3 o.length c3) o.length (o.map (Value.int .i64)) := own_base (hk3.own hx2 (fun g e q => q.elim (fun q => by have := hC2 g q; have := hx g e; omega) (fun q => by have := (hS g q).1; have := hx g e; omega))) hbase
  have hin3 : Inner w3 base vsP P := ((h.p.inner.below hb).kept hk2 (fun g e q => q.elim (fun q => h.p.off g e q) (fun q => (hS g q).2.2.1 e))).kept hk3 (fun g e q => q.elim (fun q => (h.ci g q).2.1 e) (fun q => (hS g q).2.2.1 e))
  have hin : Inner w3 base (vsP ++ [.slice A3 o.length c3]) (P ++ [o]) := hin3.snoc (b := w.heap.size) hx3 (fun g e => (h.p.inner.lt g e).2) (fun g e => (hx g e).1)
  have hp3 : w3.ownsRow base 55 1 (.slice (some ⟨g2, 0, none⟩) (P.length + 1) cap2) (P.length + 1) (vsP ++ [.slice A3 o.length c3]) := by
    refine hk3.own ho2 (fun g e q => ?_)
    have e' : g = g2 := by simp [Value.ownBlock] at e; exact e.symm
    rcases q with q | q
    · rcases hg2 g e' with r | r
      · exact (h.ci g q).2.2.1 r
      · have := hC2 g q; omega
    · rcases hg2 g e' with r | r
      · exact (hS g q).2.2.2.2.1 r
      · have := (hS g q).1; omega
  have own2 : ∀ g, (Value.slice (some ⟨g2, 0, none⟩) (P.length + 1) cap2).ownBlock = some g → g = g2 := fun g e => by simp [Value.ownBlock] at e; exact e.symm
  have own3 : ∀ g, (Value.slice (some ⟨g3, 0, none⟩) (L.length + P.length + 1) cap3).ownBlock = some g → g = g3 := fun g e => by simp [Value.ownBlock] at e; exact e.symm
  have b2 : ∀ g, g = g2 → ¬ blks (vsP ++ [.slice A3 o.length c3]) g := fun g e q => by
    rcases blks_snoc q with q | q
    · rcases hat2 with r | r
      · exact h.p.off g q (by rw [e]; exact r)
      · have := (h.p.inner.lt g q).2; omega
    · have := hx g q
      rcases hat2 with r | r
      · have := hR2 g2 r; omega
      · omega
  have b3 : ∀ g, g = g3 → ¬ blks (vsP ++ [.slice A3 o.length c3]) g := fun g e q => by
    rcases blks_snoc q with q | q
    · rcases hat3 with r | r
      · exact (h.ci g (by rw [e]; exact r)).2.1 q
      · have := (h.p.inner.lt g q).2; omega
    · have := hx g q
      rcases hat3 with r | r
      · have := hC2 g3 r; omega
      · omega
  have i2 : ¬ I0 g2 := fun q => by
    rcases hat2 with r | r
    · exact (h.pi g2 r).1 q
    · have := h.ilt g2 q; omega
  have i3 : ¬ I0 g3 := fun q => by
    rcases hat3 with r | r
    · exact (h.ci g3 r).1 q
    · have := h.ilt g3 q; omega
  have e2 : E.ownBlock ≠ some g2 := fun q => by
    rcases hat2 with r | r
    · exact (h.pi g2 r).2 q
    · have := (h.d.lt g2 q).2; omega
  have e3 : E.ownBlock ≠ some g3 := fun q => by
    rcases hat3 with r | r
    · exact (h.ci g3 r).2.2.2 q
    · have := (h.d.lt g3 q).2; omega
  have n32 : g2 ≠ g3 := fun q => by
    rcases hat3 with r | r
    · rcases hat2 with t | t
      · exact (h.ci g3 r).2.2.1 (by rw [← q]; exact t)
      · have := hC2 g3 r; omega
    · omega
  refine ⟨⟨?_, hL3, ⟨?_, hin, ?_⟩, hD3, fun g e => ?_, fun g e => ?_, fun g e => ?_, fun g e => ?_⟩, fun g e => ?_⟩
  · rw [List.length_append, List.length_singleton, ← List.append_assoc, ← Nat.add_assoc]
    exact ho3
  · rw [List.length_append, List.length_singleton]
    exact hp3
  · intro g hb' e
    exact b2 g (own2 g e) hb'
  · have := h.ilt g e
    have := hk3.size
    omega
  · have e' := own3 g e
    subst e'
    exact ⟨i3, b3 g rfl, fun q => n32 (by have := own2 g q; omega), e3⟩
  · have e' := own2 g e
    subst e'
    exact ⟨i2, e2⟩
  · refine ⟨(h.di g e).1, fun q => ?_⟩
    rcases blks_snoc q with q | q
    · exact (h.di g e).2 q
    · have := (h.d.lt g e).2
      have := hx g q
      omega
  · have o := hS g e
    refine ⟨o.2.1, fun q => ?_, fun q => ?_, fun q => ?_, o.2.2.2.2.2⟩
    · rcases blks_snoc q with q | q
      · exact o.2.2.1 q
      · have := hx g q; omega
    · have e' := own3 g q
      subst e'
      rcases hat3 with r | r
      · exact o.2.2.2.1 r
      · omega
    · have e' := own2 g q
      subst e'
      rcases hat2 with r | r
      · exact o.2.2.2.2.1 r
      · omega
/-- a literal is decided, or taken back -/
theorem Roles.decide {w2 : World} {S : Nat → Prop} {D' : List Int} {E' : Value} (h : Roles w base I0 L P D C R E vsL vsP)
    (hS : ∀ g, S g → g < w.heap.size ∧ Off I0 C R E vsP g)
    (hk2 : Kept w w2 (fun g => E.ownBlock = some g ∨ S g)) (ho2 : w2.ownsRow base 3 1 E' D'.length (D'.map (Value.int .i64))) (hat2 : ∀ g2, E'.ownBlock = some g2 → E.ownBlock = some g2 ∨ w.heap.size ≤ g2) :
    Roles w2 base I0 L P D' C R E' vsL vsP ∧ (∀ g, S g → Off I0 C R E' vsP g) := by
  refine ⟨⟨hk2.own h.c (fun g e q => q.elim (fun q => (h.ci g e).2.2.2 q) (fun q => (hS g q).2.2.2.1 e)), h.l.kept hk2 (fun g i q => q.elim (fun e => (h.di g e).1 i) (fun e => (hS g e).2.1 i)),
    h.p.kept hk2 (fun g e q => q.elim (fun q => (h.pi g e).2 q) (fun q => (hS g q).2.2.2.2.1 e)) (fun g e q => q.elim (fun q => (h.di g q).2 e) (fun q => (hS g q).2.2.1 e)), ho2, fun g e => Nat.lt_of_lt_of_le (h.ilt g e) hk2.size, fun g e => ⟨(h.ci g e).1, (h.ci g e).2.1, (h.ci g e).2.2.1, fun q => ?_⟩, fun g e => ⟨(h.pi g e).1, fun q => ?_⟩, fun g e => ?_⟩, fun g e => ?_⟩
  · rcases hat2 g q with r | r
    · exact (h.ci g e).2.2.2 r
    · have := h.small (.inl e); omega
  · rcases hat2 g q with r | r
    · exact (h.pi g e).2 r
    · have := h.small (.inr (.inl e)); omega
  · rcases hat2 g e with r | r
    · exact h.di g r
    · exact ⟨fun q => by have := h.ilt g q; omega, fun q => by have := (h.p.inner.lt g q).2; omega⟩
  · have o := hS g e
    refine ⟨o.2.1, o.2.2.1, o.2.2.2.1, o.2.2.2.2.1, fun q => ?_⟩
    rcases hat2 g q with r | r
    · exact o.2.2.2.2.2 r
    · omega
end
/-- the row is cut at its end -/
theorem own_cut {w : World} {base n m c : Nat} {t : TypeId} {A : Option Addr} {xs : List Value} (h : w.ownsRow base t 1 (.slice A n c) n xs) (hm : m ≤ n) : w.ownsRow base t 1 (.slice A m c) m (xs.take m) := by
  have hlen := h.1
  refine ⟨by rw [List.length_take]; omega, ?_⟩
  rcases h.2 with ⟨h', h0⟩ | ⟨g, cap, cur, h', hb, hg, hnc, hcm, hcs, ht⟩
  · simp only [Value.slice.injEq] at h'
    exact .inl ⟨by rw [h'.1, h'.2.2, show m = 0 by omega], by omega⟩
  · simp only [Value.slice.injEq] at h'
    refine .inr ⟨g, cap, cur, by rw [h'.1, h'.2.2], hb, hg, by omega, hcm, hcs, ?_⟩
    rw [← ht, List.take_take, Nat.mul_one, Nat.mul_one, Nat.min_eq_left hm]
/-- behind an append onto a row of one's own: what turns -/
theorem kept_app {w w2 : World} {o : Obj} {row : Option Nat} (h : (w.alloc o).grownBy w2 row) : Kept w w2 (fun g => row = some g) :=
  Kept.trans (Kept.of_below (below1 w o)) (Kept.of_grown h (fun _ e => e))
end Go.Proofs.Ytklcfbjaodildaa
