/-
  Nodes in memory; a map of nodes to their numbers.
-/
import Derived.Test.YtklcfbjaodildaaDgMath3
import Derived.Test.YtklcfbjaodildaaTwo
import Derived.Maps.RangeWalk
import Derived.Maps.OwnOps
import Derived.Maps.OwnSet
import Derived.Maps.Ext
import Derived.DeepKeys4
namespace Go.Proofs.Ytklcfbjaodildaa
open Go.ChangeShapes Go.WideShapes Go.ChangeAt Go.RowKit Go.Maps

def Nd.cells (x : Nd) : List Value := [.int .i64 x.v, .int .i64 x.l, .int .i64 x.h]
def Nd.val (x : Nd) : Value := .agg #[.int .i64 x.v, .int .i64 x.l, .int .i64 x.h]
theorem Nd.val_inj {x y : Nd} (h : x.val = y.val) : x = y := by
  cases x; cases y
  simp only [Nd.val, Value.agg.injEq, Array.mk.injEq, List.cons.injEq, Value.int.injEq, true_and, and_true] at h
  obtain ⟨rfl, rfl, rfl⟩ := h
  rfl
def ncells (xs : List Nd) : List Value := xs.flatMap Nd.cells
/-- the three cells of a node from an offset on -/
def NAt (w : World) (b f : Nat) (x : Nd) : Prop :=
  w.cell? ⟨b, f, none⟩ = some (.int .i64 x.v) ∧ w.cell? ⟨b, f + 1, none⟩ = some (.int .i64 x.l) ∧ w.cell? ⟨b, f + 2, none⟩ = some (.int .i64 x.h)
/-- a slice of nodes that reads as the list xs -/
def NLies (w : World) (A : Option Addr) (xs : List Nd) : Prop :=
  ∀ i x, xs[i]? = some x → ∃ b off, A = some ⟨b, off, none⟩ ∧ b < w.heap.size ∧ NAt w b (off + i * 3) x
theorem NAt.below {w w' : World} {b f : Nat} {x : Nd} (h : NAt w b f x) (hb : Below w.heap.size w w') (hlt : b < w.heap.size) : NAt w' b f x := by
  have q := (bcell hb).1 b
  obtain ⟨h0, h1, h2⟩ := h
  exact ⟨(q _ hlt).trans h0, (q _ hlt).trans h1, (q _ hlt).trans h2⟩
theorem NLies.below {w w' : World} {A : Option Addr} {xs : List Nd} (h : NLies w A xs) (hb : Below w.heap.size w w') : NLies w' A xs := by
  intro i x hx
  obtain ⟨b, off, hA, hlt, ha⟩ := h i x hx
  exact ⟨b, off, hA, Nat.lt_of_lt_of_le hlt hb.size, ha.below hb hlt⟩
theorem ncells_len (xs : List Nd) : (ncells xs).length = xs.length * 3 := by
  induction xs with
  | nil => rfl
  | cons x xs ih => simp only [ncells, List.flatMap_cons, List.length_append, List.length_cons] at ih ⊢; simp only [Nd.cells, List.length_cons, List.length_nil]; omega
theorem ncells_at (xs : List Nd) (i : Nat) (x : Nd) (hx : xs[i]? = some x) (j : Nat) (hj : j < 3) : (ncells xs)[i * 3 + j]? = x.cells[j]? := by
  induction xs generalizing i with
  | nil => simp at hx
  | cons y ys ih =>
    have e : ncells (y :: ys) = y.cells ++ ncells ys := by simp [ncells]
    rw [e]
    cases i with
    | zero =>
      simp at hx
      subst hx
      rw [List.getElem?_append_left (by simp [Nd.cells]; omega)]
      simp
    | succ i =>
      rw [List.getElem?_append_right (by simp [Nd.cells]; omega)]
      have := ih i (by simpa using hx)
      rw [← this]
      congr 1
      simp [Nd.cells]
      omega
theorem nat_of_cells {w : World} {b f : Nat} {x : Nd} (h : ∀ j, j < 3 → w.cell? ⟨b, f + j, none⟩ = x.cells[j]?) : NAt w b f x :=
  ⟨h 0 (by omega), h 1 (by omega), h 2 (by omega)⟩
theorem Blk.nlies {w : World} {g : Nat} {t : TypeId} {xs : List Nd} (h : Blk w g t (ncells xs)) : NLies w (some ⟨g, 0, none⟩) xs := by
  intro i x hx
  refine ⟨g, 0, rfl, h.lt, nat_of_cells fun j hj => ?_⟩
  rw [h.cell, Nat.zero_add]
  exact ncells_at xs i x hx j hj
theorem own_nlies {w : World} {base n cap : Nat} {A : Option Addr} {t : TypeId} {xs : List Nd} (hn : xs.length = n) (h : w.ownsRow base t 3 (.slice A n cap) n (ncells xs)) : NLies w A xs := by
  intro i x hx
  have hi := (List.getElem?_eq_some_iff.1 hx).1
  obtain ⟨g, cap', hv, _, hg⟩ := h.form (by omega)
  have hA : A = some ⟨g, 0, none⟩ := by injection hv
  subst hA
  refine ⟨g, 0, rfl, hg, nat_of_cells fun j hj => ?_⟩
  have e := ncells_at xs i x hx j hj
  have hc : x.cells[j]? = some (x.cells[j]'(by simp [Nd.cells]; omega)) := List.getElem?_eq_getElem _
  have := h.cells (g := g) rfl (i * 3 + j) _ (e.trans hc)
  rw [add_plain] at this
  rw [hc, Nat.add_assoc]
  exact this

set_option maxRecDepth 100000 in
theorem nd_laid : laidOutB Try.prog = true := by kernel_rfl
set_option maxRecDepth 100000 in
theorem nd_row : (43 : TypeId) < Try.prog.types.size := of_decide_eq_true (by kernel_rfl)
set_option maxRecDepth 100000 in
theorem nd_wide : (match Try.prog.underlying 43 with | some (.array _ _) | some (.struct _) => true | _ => false) = true := by rw [Try.underlying43]
set_option maxRecDepth 100000 in
theorem nd_law : Keyed Try.prog 43 := Keyed.of_law (deep_law_laid nd_laid (m := 2) (by omega) nd_row (by kernel_rfl) nd_wide)
set_option maxRecDepth 100000 in
theorem int_law : Keyed Try.prog 3 := int_keyed Try.underlying3
set_option maxRecDepth 100000 in
theorem nd_cellsN : Try.prog.cellsOf 43 = 3 := by kernel_rfl
set_option maxRecDepth 100000 in
theorem nd_cells1 : Try.prog.cellsOf 3 = 1 := by kernel_rfl
set_option maxRecDepth 100000 in
theorem nd_keyT : Try.prog.keyType 43 = true := by kernel_rfl
set_option maxRecDepth 100000 in
theorem zero_int (w : World) : (zeroValue 3).run Try.prog w = .ok (.int .i64 0) w := by kernel_rfl
theorem pos_succ {n k : Nat} (h : k < n) : ∃ m, n = m + 1 := ⟨n - 1, by omega⟩
theorem nd_size : ∃ m, Try.prog.types.size = m + 1 := pos_succ nd_row
set_option maxRecDepth 100000 in
theorem nd_lit {d : Nat} {c : Value} {l : List Lit} (h : Try.prog.keyLits (d + 1) 3 [c] = some l) : ∃ a, c = .int .i64 a := by
  unfold Program.keyLits at h
  rw [Try.underlying3] at h
  cases c <;> simp at h
  exact ⟨_, by rw [h.1.1]⟩
set_option maxRecDepth 100000 in
theorem nd_lit' (d : Nat) {a : Int} (h : (Lit.int .i64 a).wf = true) : Try.prog.keyLits (d + 1) 3 [.int .i64 a] = some [.int .i64 a] := by
  unfold Program.keyLits
  rw [Try.underlying3]
  simp [h]
set_option maxRecDepth 100000 in
theorem nd_formed {v : Value} (h : v.formed Try.prog 43 = true) : ∃ c0 c1 c2, v = .agg #[c0, c1, c2] := by
  unfold Value.formed at h
  rw [Try.underlying43] at h
  cases v with
  | agg cs =>
    simp only [nd_cellsN, beq_iff_eq] at h
    obtain ⟨l⟩ := cs
    match l, h with
    | [c0, c1, c2], _ => exact ⟨c0, c1, c2, rfl⟩
  | _ => simp at h
set_option maxRecDepth 100000 in
theorem nd_inv {v : Value} {kl : Lit} (h : keyOf Try.prog 43 v = some kl) : ∃ x : Nd, v = x.val := by
  unfold keyOf at h
  rw [Try.underlying43] at h
  simp only at h
  split at h
  · rename_i hf
    rw [Bool.and_eq_true] at hf
    obtain ⟨c0, c1, c2, rfl⟩ := nd_formed hf.2
    unfold Program.keyLits at h
    rw [Try.underlying43] at h
    simp only [Value.cells, nd_cellsN] at h
    obtain ⟨m, hm⟩ := nd_size
    rw [hm] at h
    simp only [List.length_cons, List.length_nil, Nat.zero_add, Nat.reduceAdd, true_and, List.mapM_cons, List.mapM_nil, List.drop_zero, List.drop_succ_cons, nd_cells1, List.take_succ_cons, List.take_zero, Option.pure_def, Option.bind_eq_bind] at h
    split at h
    · simp only [Option.map_eq_some_iff, Option.bind_eq_some_iff] at h
      obtain ⟨_, ⟨_, ⟨l0, h0, _, ⟨l1, h1, _, ⟨l2, h2, _⟩, _⟩, _⟩, _⟩, _⟩ := h
      obtain ⟨a, rfl⟩ := nd_lit h0
      obtain ⟨b, rfl⟩ := nd_lit h1
      obtain ⟨c, rfl⟩ := nd_lit h2
      exact ⟨⟨a, b, c⟩, rfl⟩
    · cases h
  · cases h
/-- a node of small numbers -/
def Sm (x : Nd) : Prop := (Lit.int .i64 x.v).wf = true ∧ (Lit.int .i64 x.l).wf = true ∧ (Lit.int .i64 x.h).wf = true
set_option maxRecDepth 100000 in
theorem nd_key {x : Nd} (h : Sm x) : ∃ kl, keyOf Try.prog 43 x.val = some kl := by
  obtain ⟨h0, h1, h2⟩ := h
  unfold keyOf
  rw [Try.underlying43]
  simp only
  have hf : (x.val).formed Try.prog 43 = true := by
    unfold Value.formed Nd.val
    rw [Try.underlying43]
    simp [nd_cellsN]
  rw [nd_keyT, hf]
  simp only [Bool.and_self, if_true]
  unfold Program.keyLits
  rw [Try.underlying43]
  obtain ⟨m, hm⟩ := nd_size
  rw [hm]
  simp only [Nd.val, Value.cells, nd_cellsN, nd_cells1, List.length_cons, List.length_nil, Nat.zero_add, Nat.reduceAdd, true_and, List.mapM_cons, List.mapM_nil, List.drop_zero, List.drop_succ_cons, List.take_succ_cons, List.take_zero, Option.pure_def, Option.bind_eq_bind, nd_lit' m h0, nd_lit' m h1, nd_lit' m h2]
  rw [if_pos (by simp)]
  exact ⟨_, rfl⟩

/-- the block B is a map of the nodes to their numbers -/
def NMap (w : World) (B : Nat) (ns : List Nd) : Prop :=
  ∃ D : DataW Unit, w.ownsMap Try.prog 43 (plainElem Try.prog 3) B ns.length D ∧ Maps.size D = ns.length ∧
    (∀ kl, Maps.has D kl = true → ∃ x ∈ ns, keyOf Try.prog 43 x.val = some kl) ∧
    (∀ (i : Nat) (x : Nd), ns[i]? = some x → ∃ kl, keyOf Try.prog 43 x.val = some kl ∧ Maps.has D kl = true ∧ ∀ zd, D.atKey kl zd = .lit (.int .i64 (i + 2)))
theorem NMap.made (w : World) : NMap (w.alloc (.map #[] 0)) w.heap.size [] :=
  ⟨.map [], World.ownsMap_made _ _ _ _, rfl, fun kl h => by simp [Maps.has] at h, fun i x h => by simp at h⟩
theorem NMap.lt {w : World} {B : Nat} {ns : List Nd} (h : NMap w B ns) : B < w.heap.size := by
  obtain ⟨D, ho, _⟩ := h
  exact ho.lt
theorem NMap.kept {w w' : World} {B : Nat} {ns : List Nd} {S : Nat → Prop} (h : NMap w B ns) (hk : Kept w w' S) (hn : ¬ S B) : NMap w' B ns := by
  have hlt := h.lt
  obtain ⟨D, ⟨es, clock, hb, F, hs, hD⟩, r⟩ := h
  exact ⟨D, ⟨es, clock, (hk.block B hlt hn).trans hb, F, hs, hD⟩, r⟩
theorem NMap.below {w w' : World} {B : Nat} {ns : List Nd} (h : NMap w B ns) (hk : Below w.heap.size w w') : NMap w' B ns := h.kept (S := fun _ => False) (Kept.of_below hk) (fun e => e)
theorem NMap.there {w : World} {B : Nat} {ns : List Nd} (h : NMap w B ns) (hd : ns.Nodup) {x : Nd} (hx : x ∈ ns) : ∃ D : DataW Unit, ∃ kl, w.ownsMap Try.prog 43 (plainElem Try.prog 3) B ns.length D ∧ keyOf Try.prog 43 x.val = some kl ∧ Maps.has D kl = true ∧ D.atKey kl (.lit (.int .i64 0)) = .lit (.int .i64 (ns.idxOf x + 2)) := by
  obtain ⟨D, ho, _, _, h4⟩ := h
  obtain ⟨i, hi⟩ := List.getElem?_of_mem hx
  obtain ⟨kl, h5, h6, h7⟩ := h4 i x hi
  refine ⟨D, kl, ho, h5, h6, ?_⟩
  rw [h7, idxOf_nodup hd hi]
theorem NMap.not {w : World} {B : Nat} {ns : List Nd} (h : NMap w B ns) {x : Nd} (hs : Sm x) (hx : x ∉ ns) : ∃ D : DataW Unit, ∃ kl, w.ownsMap Try.prog 43 (plainElem Try.prog 3) B ns.length D ∧ keyOf Try.prog 43 x.val = some kl ∧ Maps.has D kl = false ∧ Maps.size D = ns.length ∧
    (∀ w', w'.ownsMap Try.prog 43 (plainElem Try.prog 3) B (ns.length + 1) (D.put kl (.lit (.int .i64 (ns.length + 2)))) → NMap w' B (ns ++ [x])) := by
  obtain ⟨D, ho, h2, h3, h4⟩ := h
  obtain ⟨kl, hkl⟩ := nd_key hs
  have hno : Maps.has D kl = false := by
    cases q : Maps.has D kl
    · rfl
    · obtain ⟨y, hy, hk⟩ := h3 kl q
      have := Nd.val_inj (nd_law.inj hk hkl)
      subst this
      exact absurd hy hx
  have hK := nd_law.key hkl
  have ht := ho.tidy nd_law
  have him := ht.isMap
  refine ⟨D, kl, ho, hkl, hno, h2, fun w' ho' => ⟨_, by simpa using ho', ?_, ?_, ?_⟩⟩
  · rw [size_put ht, hno, h2]
    simp
  · intro kl' h'
    by_cases e : kl' = kl
    · subst e
      exact ⟨x, by simp, hkl⟩
    · rw [has_put_other e] at h'
      obtain ⟨y, hy, hk⟩ := h3 kl' h'
      exact ⟨y, by simp [hy], hk⟩
  · intro i y hi
    simp only [List.getElem?_append] at hi
    split at hi
    · obtain ⟨kl', a, b, c⟩ := h4 i y hi
      have e : kl' ≠ kl := by
        rintro rfl
        rw [hno] at b
        cases b
      refine ⟨kl', a, ?_, fun zd => ?_⟩
      · rw [has_put_other e]; exact b
      · rw [atKey_put_other e]; exact c zd
    · rename_i hge
      have e0 : i - ns.length = 0 := by
        rcases Nat.eq_zero_or_pos (i - ns.length) with q | q
        · exact q
        · rw [List.getElem?_eq_none (by simp; omega)] at hi
          cases hi
      rw [e0] at hi
      simp at hi
      subst hi
      have : i = ns.length := by omega
      subst this
      exact ⟨kl, hkl, has_put_same him hK _, fun zd => atKey_put_same him hK _ _⟩
end Go.Proofs.Ytklcfbjaodildaa
