/-
  nearest, NearestOf and MustPass of the program.
-/
import Derived.RangeFuncNested
import Derived.RangeFuncBound
import Derived.RangeFuncCalls
import Derived.RangeFuncLeaves
import Derived.Shelf.Abstract
import Derived.Shelf.RegionOpen
import Derived.OwnWalkIn
import Derived.TacticsInMore
import Derived.LoopNIn
import Derived.LoopIn
import Derived.Test.YtilnegmjnbffhaaDoorKept
import Derived.Test.YtilnegmjnbffhaaDoorRfMath
import Derived.Deep.OwnRows
import Derived.OrdersIn
import Derived.StillTailTactics
import Derived.Laws.CopyOwn
namespace Go.Proofs.YtilnegmjnbffhaaDoor
open Go.ChangeShapes Go.WideShapes Go.ChangeAt Go.RowKit

/-- k blocks from H on -/
def Prv (H k : Nat) : Nat → Prop := fun i => H ≤ i ∧ i < H + k
/-- the blocks that a round may turn: none of the iterator's k blocks from H on, none of T -/
def Rnd (T : Nat → Prop) (H k : Nat) : Nat → Prop := fun i => ¬ T i ∧ ¬ Prv H k i
/-- the iterator gives xs, one by one, if each round goes on; it keeps its state in the k blocks that it makes first -/
def SeqR {α : Type} (P : Program) (g : Nat) (lb : Array Value) (encs : α → Array Value) (xs : List α) (k : Nat) (T : Nat → Prop) (w : World) : Prop :=
  ∀ (l : Nat) (J : List α → World → Prop) (W : World), Below w.heap.size w W →
    (∀ s A B, J s A → Kept A B (Prv W.heap.size k) → J s B) →
    (∀ (m : Nat) (pre : List α) (x : α) (rest : List α) (W1 : World), xs = pre ++ x :: rest → J pre W1 → W.heap.size + k ≤ W1.heap.size →
      YieldAt Fence.wide m P l (encs x) W1 fun e W' => e = .returned (.bool true) ∧ J (pre ++ [x]) W' ∧ Kept W1 W' (Rnd T W.heap.size k)) →
    J [] W →
    Calls P g (#[.func (.yield l) #[] #[]] ++ lb) W fun e W' => (∃ v, e = .returned v) ∧ J xs W'
/-- the round goes on -/
def goesOn (R : World → Prop) : Exit → Act → World → Prop
  | .normal, _, W' => R W'
  | _, _, _ => False
theorem Kept.put (W : World) (l : Nat) (o : Obj) : Kept W (W.putObj l o) (fun i => i = l) := Kept.of_grown (grownBy_putObj' W l o) (fun g e => by cases e; rfl)

theorem rangeR {α : Type} {P : Program} {n : Nat} {g : Operand} {ps : Array Tmp} {assign body : Code} {Q : Exit → Act → World → Prop} {a : Act} {w : World} {gf : Nat} {lb : Array Value}
    (hg : a.eval g = .func (.func gf) #[] lb) (eg : ∀ args w, (callFunc gf args).run P w = .ok (.enter gf args) w)
    {encs : α → Array Value} {xs : List α} {k : Nat} {T : Nat → Prop} (hseq : SeqR P gf lb encs xs k T w) (hps : ∀ x, (encs x).size = ps.size) (hT : ∀ i, T i → i < w.heap.size)
    (I : List α → World → Prop) (hI : ∀ s A B, I s A → Kept A B (Prv w.heap.size (2 + k)) → I s B) (h0 : I [] w) (a1 : α → Act)
    (hassign : ∀ (l m : Nat) (x : α) (W : World) (K : Act → World → Prop), K (a1 x) W →
      assign.wpIn (Fence.wide.inRound l) m P (Exit.then K (fun _ _ _ => False)) { tmps := (ps.zip (encs x)).foldl (fun t (p, v) => t.setIfInBounds p v) a.tmps, defers := [] } W)
    (hbody : ∀ (l m : Nat) (pre : List α) (x : α) (rest : List α) (W : World), xs = pre ++ x :: rest → I pre W → w.heap.size + (2 + k) ≤ W.heap.size →
      body.wpIn (Fence.wide.inRound l) m P (goesOn fun W' => Kept W W' (Rnd T w.heap.size (2 + k)) ∧ I (pre ++ [x]) W') (a1 x) W)
    (hdone : ∀ (D : Nat) (W : World), D = w.heap.size → I xs W → W.heap[D]? = some (.deferred (some [])) → Q .normal { a with defers := { target := .collected D, args := #[] } :: a.defers } W) :
    (Code.rangeFunc g ps assign body).wpIn Fence.wide n P Q a w := by
  refine wpIn_rangeFunc (fun fn hfn => ?_)
  -- the record, by its state; the world in which the iterator is called
  let rec' : LoopState → Loop := fun st => { state := st, pending := none, fn, tmps := a.tmps, params := ps, assign, body, defers := w.heap.size }
  obtain ⟨rc, hrc⟩ : ∃ rc, rec' = rc := ⟨_, rfl⟩
  obtain ⟨V, hV⟩ : ∃ V, (w.alloc (.deferred (some []))).alloc (.loop (rc .ready)) = V := ⟨_, rfl⟩
  have sz : V.heap.size = w.heap.size + 2 := by rw [← hV]; simp
  have hD : V.heap[w.heap.size]? = some (.deferred (some [])) := by
    rw [← hV]; exact (Below.heap_alloc _ _ _ (by simp)).trans (World.alloc_heap_new w _)
  have hR : V.heap[w.heap.size + 1]? = some (.loop (rc .ready)) := by
    rw [← hV]; have := World.alloc_heap_new (w.alloc (.deferred (some []))) (.loop (rc .ready)); rwa [World.size_alloc] at this
  have hB : Below w.heap.size w V := by rw [← hV]; exact below2 w _ _
  refine ⟨w.heap.size + 1, [{ target := .collected w.heap.size, args := #[] }], V, { target := .fn (.func gf) lb, args := #[.func (.yield (w.heap.size + 1)) #[] #[]] }, V, gf,
    #[.func (.yield (w.heap.size + 1)) #[] #[]] ++ lb, V, ?_, ?_, fun _ _ => trivial, ?_, (fun h => absurd h (by decide)), ?_⟩
  · rw [← hV, ← hrc]; exact run_enterLoop_outer _ _ _ _ _
  · simp only [resolve, hg]
    simp [go_sem]
  · simp [invoke, go_sem, eg]
  · have inP : ∀ i, Prv V.heap.size k i → Prv w.heap.size (2 + k) i := fun i h => by unfold Prv at h ⊢; omega
    have outD : ¬ Prv V.heap.size k w.heap.size := fun h => by unfold Prv at h; omega
    have outR : ¬ Prv V.heap.size k (w.heap.size + 1) := fun h => by unfold Prv at h; omega
    have lt_of : ∀ {A : World} {i : Nat} {o : Obj}, A.heap[i]? = some o → i < A.heap.size := fun h => (Array.getElem?_eq_some_iff.1 h).1
    refine callsIn_wide.2 ((hseq (w.heap.size + 1) (fun pre W => I pre W ∧ W.heap[w.heap.size]? = some (.deferred (some [])) ∧ W.heap[w.heap.size + 1]? = some (.loop (rc .ready))) V hB ?_ ?_ ?_).mono ?_)
    · rintro s A B ⟨h1, h2, h3⟩ hk
      exact ⟨hI s A B h1 (hk.mono inP), (hk.block _ (lt_of h2) outD).trans h2, (hk.block _ (lt_of h3) outR).trans h3⟩
    · rintro m pre x rest W hx ⟨h1, h2, h3⟩ hsz
      have hy := run_yield (P := P) (args := encs x) h3 (by rw [← hrc]; exact hps x)
      rw [← hrc] at hy
      refine ⟨fn, _, assign, body, hy, roundIn_of_wpIn hfn (hassign _ m x W _ ⟨_, run_beginRound h3 (by rw [← hrc]), ?_⟩)⟩
      have e1 : ∀ st, ({ rc .ready with state := st } : Loop) = rc st := fun st => by rw [← hrc]
      rw [e1]
      obtain ⟨W2, hW2⟩ : ∃ W2, W.putObj (w.heap.size + 1) (.loop (rc .busy)) = W2 := ⟨_, rfl⟩
      have k2 : Kept W W2 (fun i => i = w.heap.size + 1) := by rw [← hW2]; exact Kept.put _ _ _
      have hR2 : W2.heap[w.heap.size + 1]? = some (.loop (rc .busy)) := by rw [← hW2]; exact World.putObj_heap_same (lt_of h3)
      have hD2 : W2.heap[w.heap.size]? = some (.deferred (some [])) := (k2.block _ (lt_of h2) (by omega)).trans h2
      rw [hW2]
      have i2 : I pre W2 := hI _ _ _ h1 (k2.mono fun i h => by unfold Prv; omega)
      refine wpIn_mono (hbody _ m pre x rest W2 hx i2 (by have := k2.size; omega)) ?_
      intro e a3 W3 h
      cases e with
      | normal =>
        obtain ⟨k3, i3⟩ := h
        have nP : ∀ i, i = w.heap.size ∨ i = w.heap.size + 1 → ¬ Rnd T w.heap.size (2 + k) i := fun i hi hr => hr.2 (by unfold Prv; omega)
        have hR3 : W3.heap[w.heap.size + 1]? = some (.loop (rc .busy)) := (k3.block _ (lt_of hR2) (nP _ (.inr rfl))).trans hR2
        have hD3 : W3.heap[w.heap.size]? = some (.deferred (some [])) := (k3.block _ (lt_of hD2) (nP _ (.inl rfl))).trans hD2
        have he := run_endRound (P := P) none hR3
        have e2 : ({ rc .busy with state := if (none : Option Code).isNone then .ready else .done, pending := none } : Loop) = rc .ready := by rw [← hrc]; rfl
        rw [e2] at he
        refine ⟨_, _, he, rfl, ⟨hI _ _ _ i3 ((Kept.put W3 _ _).mono fun i h => by unfold Prv; omega), ?_, World.putObj_heap_same (lt_of hR3)⟩, ?_⟩
        · exact (World.putObj_heap_other (by omega)).trans hD3
        · have m1 : ∀ i, i = w.heap.size + 1 → Rnd T V.heap.size k i := fun i hi => ⟨fun h => by have := hT i h; omega, by subst hi; exact outR⟩
          have m2 : ∀ i, Rnd T w.heap.size (2 + k) i → Rnd T V.heap.size k i := fun i hi => ⟨hi.1, fun h => hi.2 (inP i h)⟩
          exact ((k2.mono m1).trans (k3.mono m2)).trans ((Kept.put W3 _ _).mono m1)
      | ret => exact h.elim
      | exit id => exact h.elim
      | goto t => exact h.elim
      | panic ch => exact h.elim
      | outgrown => exact h.elim
    · exact ⟨hI _ _ _ h0 (Kept.of_below hB), hD, hR⟩
    · rintro e W2 ⟨⟨v, rfl⟩, i2, h2, h3⟩
      have he := run_endLoop (P := P) h3 (by rw [← hrc]; simp [rec'])
      have kp := Kept.put W2 (w.heap.size + 1) (.loop { rc .ready with state := .exhausted, pending := none })
      have i3 := hI _ _ _ i2 (kp.mono fun i h => by unfold Prv; omega)
      have d3 := (World.putObj_heap_other (w := W2) (r := w.heap.size + 1) (k := w.heap.size) (o := .loop { rc .ready with state := .exhausted, pending := none }) (by omega)).trans h2
      refine ⟨none, W2.putObj (w.heap.size + 1) (.loop { rc .ready with state := .exhausted, pending := none }), ?_, hdone _ _ rfl i3 d3⟩
      rw [← hrc] at he ⊢
      exact he

/-- how many numbers there are -/
def tot (L : List (List Int)) : Nat := (L.map List.length).sum
theorem tot_at {L : List (List Int)} {k : Nat} {l : List Int} (h : L[k]? = some l) : tot (L.take (k + 1)) = tot (L.take k) + l.length := by
  have h1 := (List.getElem?_eq_some_iff.1 h).1
  have h2 := (List.getElem?_eq_some_iff.1 h).2
  unfold tot
  rw [List.take_succ_eq_append_getElem h1, h2]
  simp
theorem tot_take (L : List (List Int)) (k : Nat) : tot (L.take k) ≤ tot L := by
  have : tot L = tot (L.take k) + tot (L.drop k) := by unfold tot; rw [← List.sum_append_nat, ← List.map_append, List.take_append_drop]
  omega
theorem tot_mem {L : List (List Int)} {k : Nat} {l : List Int} (h : L[k]? = some l) : l.length ≤ tot L := by
  have h1 := tot_at h
  have h2 := tot_take L (k + 1)
  omega
theorem tot_nil (L : List (List Int)) : tot (L.take 0) = 0 := by simp [tot]

/-- a slice of slices of ints that reads as the list L -/
def LLies (w : World) (A : Option Addr) (L : List (List Int)) : Prop :=
  ∀ i l, L[i]? = some l → ∃ b off a c, A = some ⟨b, off, none⟩ ∧ b < w.heap.size ∧ w.cell? ⟨b, off + i, none⟩ = some (.slice a l.length c) ∧ l.length ≤ c ∧ l.length ≤ 9223372036854775807 ∧ ILies w a l
theorem LLies.below {w w' : World} {A : Option Addr} {L : List (List Int)} (h : LLies w A L) (hb : Below w.heap.size w w') : LLies w' A L := by
  intro i x hx
  obtain ⟨b, off, a, c, hA, hlt, ha, hc, hm, hi⟩ := h i x hx
  exact ⟨b, off, a, c, hA, Nat.lt_of_lt_of_le hlt hb.size, ((bcell hb).1 b _ hlt).trans ha, hc, hm, hi.below hb⟩
theorem LLies.take {w : World} {A : Option Addr} {L : List (List Int)} (h : LLies w A L) (k : Nat) : LLies w A (L.take k) := by
  intro i y hy
  rw [List.getElem?_take] at hy
  split at hy
  · exact h i y hy
  · simp at hy
/-- inner slices of one's own -/
structure Inner (w : World) (lo : Nat) (vs : List Value) (L : List (List Int)) : Prop where
  len : vs.length = L.length
  row : ∀ (i : Nat) (l : List Int), L[i]? = some l → ∃ (a : Option Addr) (c : Nat), vs[i]? = some (.slice a l.length c) ∧ w.ownsRow lo 3 1 (.slice a l.length c) l.length (l.map (Value.int .i64))
  apart : ∀ (i j : Nat) (x y : Value) (g : Nat), vs[i]? = some x → vs[j]? = some y → x.ownBlock = some g → y.ownBlock = some g → i = j
/-- the blocks of some slices -/
def blks (vs : List Value) (g : Nat) : Prop := ∃ (i : Nat) (x : Value), vs[i]? = some x ∧ x.ownBlock = some g
theorem Inner.lt {w : World} {lo : Nat} {vs : List Value} {L : List (List Int)} (h : Inner w lo vs L) (g : Nat) (hg : blks vs g) : lo ≤ g ∧ g < w.heap.size := by
  obtain ⟨i, x, hx, hb⟩ := hg
  have hi : i < L.length := by have := (List.getElem?_eq_some_iff.1 hx).1; have := h.len; omega
  obtain ⟨a, c, h1, h2⟩ := h.row i _ (List.getElem?_eq_getElem hi)
  rw [h1] at hx
  obtain rfl := Option.some.inj hx
  exact h2.lt g hb
theorem Inner.kept {w w' : World} {lo : Nat} {vs : List Value} {L : List (List Int)} {S : Nat → Prop} (h : Inner w lo vs L) (hk : Kept w w' S) (hn : ∀ g, blks vs g → ¬ S g) : Inner w' lo vs L := by
  refine ⟨h.len, fun i l hl => ?_, h.apart⟩
  obtain ⟨a, c, h1, h2⟩ := h.row i l hl
  exact ⟨a, c, h1, hk.own h2 (fun g hg => hn g ⟨i, _, h1, hg⟩)⟩
theorem Inner.below {w w' : World} {lo : Nat} {vs : List Value} {L : List (List Int)} (h : Inner w lo vs L) (hb : Below w.heap.size w w') : Inner w' lo vs L :=
  h.kept (S := fun _ => False) (.of_below hb) (fun _ _ q => q)
theorem Inner.nil (w : World) (lo : Nat) : Inner w lo [] [] := ⟨rfl, fun i l h => by simp at h, fun i j x y g h => by simp at h⟩
theorem Inner.snoc {w : World} {lo b : Nat} {vs : List Value} {L : List (List Int)} {l : List Int} {a : Option Addr} {c : Nat} (h : Inner w lo vs L)
    (ho : w.ownsRow lo 3 1 (.slice a l.length c) l.length (l.map (Value.int .i64))) (hb : ∀ g, blks vs g → g < b) (hn : ∀ g, (Value.slice a l.length c).ownBlock = some g → b ≤ g) : Inner w lo (vs ++ [.slice a l.length c]) (L ++ [l]) := by
  have hlen := h.len
  have key : ∀ i x, (vs ++ [Value.slice a l.length c])[i]? = some x → (i < vs.length ∧ vs[i]? = some x) ∨ (i = vs.length ∧ x = .slice a l.length c) := by
    intro i x hx
    by_cases hi : i < vs.length
    · rw [List.getElem?_append_left hi] at hx
      exact .inl ⟨hi, hx⟩
    · rw [List.getElem?_append_right (by omega)] at hx
      have : i - vs.length < 1 := by have := (List.getElem?_eq_some_iff.1 hx).1; simpa using this
      obtain rfl : i = vs.length := by omega
      simp at hx
      exact .inr ⟨rfl, hx.symm⟩
  refine ⟨by simp [hlen], fun i m hm => ?_, fun i j x y g hx hy hgx hgy => ?_⟩
  · by_cases hi : i < L.length
    · rw [List.getElem?_append_left hi] at hm
      obtain ⟨a', c', h1, h2⟩ := h.row i m hm
      exact ⟨a', c', by rw [List.getElem?_append_left (by omega)]; exact h1, h2⟩
    · rw [List.getElem?_append_right (by omega)] at hm
      have : i - L.length < 1 := by have := (List.getElem?_eq_some_iff.1 hm).1; simpa using this
      obtain rfl : i = L.length := by omega
      simp at hm
      subst hm
      exact ⟨a, c, by rw [← hlen]; simp, ho⟩
  · rcases key i x hx with ⟨hi, hx'⟩ | ⟨rfl, rfl⟩ <;> rcases key j y hy with ⟨hj, hy'⟩ | ⟨rfl, rfl⟩
    · exact h.apart i j x y g hx' hy' hgx hgy
    · have := hb g ⟨i, x, hx', hgx⟩; have := hn g hgy; omega
    · have := hb g ⟨j, y, hy', hgy⟩; have := hn g hgx; omega
    · rfl
theorem Inner.base {w : World} {lo lo' : Nat} {vs : List Value} {L : List (List Int)} (h : Inner w lo vs L) (hb : lo' ≤ lo) : Inner w lo' vs L := by
  refine ⟨h.len, fun i l hl => ?_, h.apart⟩
  obtain ⟨a, c, h1, h2⟩ := h.row i l hl
  exact ⟨a, c, h1, own_base h2 hb⟩

/-- a slice of slices of one's own -/
structure OwnSS (w : World) (base : Nat) (v : Value) (vs : List Value) (L : List (List Int)) : Prop where
  outer : w.ownsRow base 24 1 v L.length vs
  inner : Inner w base vs L
  off : ∀ g, blks vs g → v.ownBlock ≠ some g
theorem OwnSS.kept {w w' : World} {base : Nat} {v : Value} {vs : List Value} {L : List (List Int)} {S : Nat → Prop} (h : OwnSS w base v vs L) (hk : Kept w w' S) (h1 : ∀ g, v.ownBlock = some g → ¬ S g) (h2 : ∀ g, blks vs g → ¬ S g) : OwnSS w' base v vs L :=
  ⟨hk.own h.outer h1, h.inner.kept hk h2, h.off⟩
theorem OwnSS.below {w w' : World} {base : Nat} {v : Value} {vs : List Value} {L : List (List Int)} (h : OwnSS w base v vs L) (hb : Below w.heap.size w w') : OwnSS w' base v vs L :=
  h.kept (S := fun _ => False) (.of_below hb) (fun _ _ q => q) (fun _ _ q => q)
theorem own_maxlen {w : World} {base n c : Nat} {t : TypeId} {A : Option Addr} {xs : List Value} (h : w.ownsRow base t 1 (.slice A n c) n xs) : n ≤ 9223372036854775807 := by
  rcases h.2 with ⟨h', _⟩ | ⟨g', cap', cur, h', hb, hg, hnc, hcm, hcs, htake⟩
  · simp only [Value.slice.injEq] at h'; omega
  · unfold maxLen at hcm; omega
theorem OwnSS.lies {w : World} {base n c : Nat} {A : Option Addr} {vs : List Value} {L : List (List Int)} (h : OwnSS w base (.slice A n c) vs L) : LLies w A L := by
  intro i l hl
  have hlt : i < L.length := (List.getElem?_eq_some_iff.1 hl).1
  obtain ⟨a, cc, h1, h2⟩ := h.inner.row i l hl
  obtain ⟨g, cap, hv, _, hg⟩ := h.outer.form (by omega)
  have hA : A = some ⟨g, 0, none⟩ := by injection hv
  subst hA
  refine ⟨g, 0, a, cc, rfl, hg, ?_, own_cap h2, own_maxlen h2, own_ilies h2⟩
  have := h.outer.cells (g := g) rfl i _ h1
  rw [add_plain] at this
  exact this
/-- an inner slice turns -/
theorem OwnSS.set {w w' : World} {base : Nat} {v x : Value} {vs : List Value} {L : List (List Int)} {j : Nat} {l l' : List Int} (h : OwnSS w base v vs L) (hj : L[j]? = some l) (hx : vs[j]? = some x) (hl : l'.length = l.length)
    (ho : w'.ownsRow base 3 1 x l.length (l'.map (Value.int .i64))) (hg : w.grownBy w' x.ownBlock) : OwnSS w' base v vs (L.set j l') := by
  have hjl : j < L.length := (List.getElem?_eq_some_iff.1 hj).1
  refine ⟨?_, ⟨by simp [h.inner.len], fun i m hm => ?_, h.inner.apart⟩, h.off⟩
  · rw [List.length_set]
    exact kept_of h.outer hg (fun g e q => h.off g ⟨j, x, hx, q⟩ e)
  · rw [List.getElem?_set] at hm
    by_cases e : j = i
    · subst e
      rw [if_pos rfl, if_pos hjl] at hm
      obtain rfl := Option.some.inj hm
      obtain ⟨a, c, h1, h2⟩ := h.inner.row j l hj
      rw [h1] at hx
      obtain rfl := Option.some.inj hx
      rw [hl]
      exact ⟨a, c, h1, ho⟩
    · rw [if_neg e] at hm
      obtain ⟨a, c, h1, h2⟩ := h.inner.row i m hm
      exact ⟨a, c, h1, kept_of h2 hg (fun g e1 q => e (h.inner.apart j i x _ g hx h1 q e1))⟩
theorem OwnSS.hd {w : World} {base : Nat} {v : Value} {vs : List Value} {L : List (List Int)} (h : OwnSS w base v vs L) : ∃ A c, v = .slice A L.length c := by
  rcases h.outer.2 with ⟨h', h0⟩ | ⟨g, cap, cur, h', _⟩
  · exact ⟨none, 0, by rw [h', h0]⟩
  · exact ⟨_, _, h'⟩

theorem info_ints : (Tryd.prog.info? 24).map (fun i => (i.zero, i.size, i.bytes)) = some (some (.slice none 0 0), 1, 24) := by kernel_rfl
/-- behind k rounds of the copy -/
def SCopied (g n k : Nat) (L : List (List Int)) (w : World) : Prop :=
  ∃ vs rest, Blk w g 24 (vs ++ rest) ∧ rest.length = n - k ∧ Inner w (g + 1) vs (L.take k)
theorem SCopied.start {w : World} {base n : Nat} {l : List Value} {L : List (List Int)} {g : Nat} (h : w.ownsRow base 24 1 (.slice (some ⟨g, 0, none⟩) n n) n l) : SCopied g n 0 L w := by
  have hb := vblk_of_own h
  exact ⟨[], l, by simpa using hb, by have := h.1; simpa using this, Inner.nil _ _⟩
/-- the first j lists marked -/
def mkL (m : Int) (L : List (List Int)) (j : Nat) : List (List Int) :=
  (List.range L.length).map fun i => if i < j then iota (m + tot (L.take i)) (L[i]?.getD []).length else L[i]?.getD []
theorem mkL_len (m : Int) (L : List (List Int)) (j : Nat) : (mkL m L j).length = L.length := by simp [mkL]
theorem mkL_at (m : Int) (L : List (List Int)) (j i : Nat) (l : List Int) (h : L[i]? = some l) : (mkL m L j)[i]? = some (if i < j then iota (m + tot (L.take i)) l.length else l) := by
  have hlt : i < L.length := (List.getElem?_eq_some_iff.1 h).1
  unfold mkL
  rw [List.getElem?_map, List.getElem?_range hlt]
  simp only [Option.map_some, h, Option.getD_some]
theorem mkL_zero (m : Int) (L : List (List Int)) : mkL m L 0 = L := by
  apply List.ext_getElem?
  intro i
  by_cases h : i < L.length
  · rw [mkL_at m L 0 i _ (List.getElem?_eq_getElem h), if_neg (by omega), List.getElem?_eq_getElem h]
  · rw [List.getElem?_eq_none (by rw [mkL_len]; omega), List.getElem?_eq_none (by omega)]
theorem mkL_set (m : Int) (L : List (List Int)) (j : Nat) (l : List Int) (h : L[j]? = some l) : (mkL m L j).set j (iota (m + tot (L.take j)) l.length) = mkL m L (j + 1) := by
  apply List.ext_getElem?
  intro i
  by_cases hi : i < L.length
  · rw [mkL_at m L (j + 1) i _ (List.getElem?_eq_getElem hi), List.getElem?_set]
    by_cases e : j = i
    · subst e
      have : L[j] = l := (List.getElem?_eq_some_iff.1 h).2
      rw [if_pos rfl, if_pos (by rw [mkL_len]; omega), if_pos (by omega), this]
    · rw [if_neg e, mkL_at m L j i _ (List.getElem?_eq_getElem hi)]
      by_cases q : i < j
      · rw [if_pos q, if_pos (by omega)]
      · rw [if_neg q, if_neg (by omega)]
  · rw [List.getElem?_eq_none (by rw [List.length_set, mkL_len]; omega), List.getElem?_eq_none (by rw [mkL_len]; omega)]

section
variable {H : Type} {enc : TypeId × Value → H} {W : World} {base : Nat}
theorem cells_s1 : Tryd.prog.cellsOf 24 = 1 := by kernel_rfl
theorem ints_cap {fuel : Nat} {cs : List Value} {x : DataW H × List MemPlace} (hf : DataW.trod enc Tryd.prog W 0 (fun _ => true) true fuel 24 cs = some x) :
    ∃ a0 cap, ∃ l : List Int, cs = [.slice a0 l.length cap] ∧ l.length ≤ cap ∧ l.length ≤ 9223372036854775807 ∧ ILies W a0 l := by
  obtain ⟨a0, cap, l, h1, h2, h3⟩ := ints_cells hf
  refine ⟨a0, cap, l, h1, ?_, h2, h3⟩
  rcases Go.Deep.open_slice Tryd.underlying24 hf with ⟨hcs, _⟩ | ⟨a, len', cap', m, n, D, Pl, hcs, _, hl, hm, hmm, _, hi⟩
  · rw [hcs] at h1
    simp only [List.cons.injEq, Value.slice.injEq, and_true] at h1
    omega
  · rw [hcs] at h1
    simp only [List.cons.injEq, Value.slice.injEq, and_true] at h1
    omega
set_option maxRecDepth 100000 in
/-- a slice of slices of ints within what is read -/
theorem intss_cells {fuel : Nat} {cs : List Value} {x : DataW H × List MemPlace} (hf : DataW.trod enc Tryd.prog W 0 (fun _ => true) true fuel 47 cs = some x) :
    ∃ a0 cap, ∃ L : List (List Int), cs = [.slice a0 L.length cap] ∧ L.length ≤ 9223372036854775807 ∧ LLies W a0 L := by
  rcases Go.Deep.open_slice Tryd.underlying47 hf with ⟨hcs, _⟩ | ⟨a, len', cap', m, n, D, Pl, hcs, _, hl, hm, hmm, _, hi⟩
  · exact ⟨none, 0, [], hcs, by simp, fun i x hx => by simp at hx⟩
  · simp only [if_true] at hmm
    subst hmm
    rw [cells_s1] at hi
    have hy : ∀ i, ∃ y : Option Addr × Nat × List Int, i < len' → W.cell? (a.add i) = some (.slice y.1 y.2.2.length y.2.1) ∧ y.2.2.length ≤ y.2.1 ∧ y.2.2.length ≤ 9223372036854775807 ∧ ILies W y.1 y.2.2 := by
      intro i
      by_cases hlt : i < len'
      · obtain ⟨cs', hc, ht⟩ := hi i (by omega)
        obtain ⟨a0, c0, l0, rfl, h1, h2, h3⟩ := ints_cap ht
        obtain ⟨_, _, hat⟩ := World.cells?_some hc
        have := hat 0 (by omega)
        rw [Go.Deep.add_add] at this
        exact ⟨(a0, c0, l0), fun _ => ⟨by simpa using this, h1, h2, h3⟩⟩
      · exact ⟨(none, 0, []), fun h => absurd h hlt⟩
    obtain ⟨Y, hY⟩ := Classical.axiomOfChoice hy
    refine ⟨some a, m, (List.range len').map (fun i => (Y i).2.2), by simpa using hcs, by simp; unfold maxLen at hm; omega, fun i x hx => ?_⟩
    have hlt : i < len' := by
      have := (List.getElem?_eq_some_iff.1 hx).1
      simpa using this
    have hxy : x = (Y i).2.2 := by
      simp [List.getElem?_map, List.getElem?_range hlt] at hx
      exact hx.symm
    subst hxy
    obtain ⟨h0, h1, h2, h3⟩ := hY i hlt
    obtain ⟨b, off, spot⟩ := a
    have hspot : spot = none := by
      have e := (hY 0 (by omega)).1
      have e' : W.cell? ⟨b, off, spot⟩ = some (.slice (Y 0).1 (Y 0).2.2.length (Y 0).2.1) := by simpa [Addr.add] using e
      exact World.cell?_spot e'
    subst hspot
    rw [add_plain] at h0
    exact ⟨b, off, _, _, rfl, World.block_lt_of_cell? W _ h0, h0, h1, h2, h3⟩
set_option maxRecDepth 100000 in
/-- an argument that is a slice of slices of ints -/
theorem intss_of {base' : Nat} {v : Value} {dd : DataW H} {p : List MemPlace} (hv : Value.okWide Tryd.prog W .any base' 47 v) (h : DataW.Trod enc Tryd.prog W 0 (fun _ => true) true 47 v dd p) :
    ∃ a0 cap, ∃ L : List (List Int), v = .slice a0 L.length cap ∧ L.length ≤ 9223372036854775807 ∧ LLies W a0 L := by
  obtain ⟨a0, len, cap, rfl⟩ := okWide_slice Tryd.underlying47 hv
  obtain ⟨fuel, hf⟩ := h
  obtain ⟨a1, cap1, l, hcs, h1, h2⟩ := intss_cells hf
  simp [Value.cells] at hcs
  obtain ⟨rfl, rfl, rfl⟩ := hcs
  exact ⟨_, _, l, rfl, h1, h2⟩
end
attribute [local go_sem] Oper.semAt_some

theorem made_rep (v : Value) (n : Nat) : madeCells #[v] n = (List.replicate n v).toArray := by
  unfold madeCells
  apply Array.ext
  · simp
  · intro i h1 h2
    simp [Nat.mod_one]
set_option maxRecDepth 100000 in
set_option maxHeartbeats 2000000 in
theorem stepsFrom_any (A : Option Addr) (n c : Nat) (at_ : Int) (w : World) :
    Calls Tryd.prog 24 #[.slice A n c, .int .i64 at_] w fun e w' =>
      e = .returned (.func (.func 47) #[] #[.pointer (some ⟨w.heap.size, 0, none⟩), .pointer (some ⟨w.heap.size + 1, 0, none⟩)]) ∧
      w' = (w.alloc (.cells #[.slice A n c] 48)).alloc (.cells #[.int .i64 at_] 3) := by
  go_enter Tryd.func24, Tryd.ntmps24
  go_wp2
  go_ret
  exact ⟨rfl, rfl⟩

theorem tkept {w W : World} {T : Nat → Prop} {b : Nat} {t : TypeId} {cs : List Value} (hk : Kept w W (fun i => ¬ T i)) (hb : Blk w b t cs) (h : T b) : Blk W b t cs := hk.blk hb (fun q => q h)
theorem tbelow {w0 w W : World} {T : Nat → Prop} (hT : ∀ i, i < w0.heap.size → T i) (hb : Below w0.heap.size w0 w) (hk : Kept w W (fun i => ¬ T i)) : Below w0.heap.size w0 W :=
  hk.below hb hb.size (fun i h => by rcases Nat.lt_or_ge i w0.heap.size with q | q; exact absurd (hT i q) h; exact q)

set_option maxRecDepth 100000 in
set_option maxHeartbeats 4000000 in
theorem steps_seq (l : KT) (g : GoodKT l) (n f c b : Nat) (A : Option Addr) (w w0 : World) (T : Nat → Prop) (hn : Hid (l.length = n)) (h20 : n ≤ 20) (hf : f < n)
    (hl : Hid (LLies w0 A (nxsL l))) (hb0 : Hid (Below w0.heap.size w0 w)) (h1 : Hid (Blk w b 48 [.slice A n c])) (h2 : Hid (Blk w (b + 1) 3 [.int .i64 f]))
    (hT0 : ∀ i, i < w0.heap.size → T i) (hTb : T b) (hTb1 : T (b + 1)) (hTl : ∀ i, T i → i < w.heap.size) :
    SeqR Tryd.prog 47 #[.pointer (some ⟨b, 0, none⟩), .pointer (some ⟨b + 1, 0, none⟩)] (fun x : Int => #[.int .i64 x]) (castL (reachL (edg l) n f)) 1 T w := by
  intro lp J W hBW hJ hY h0
  have HJ := Lib.hid hJ
  have HY := Lib.hid hY
  have HT0 := Lib.hid hT0
  have HTl := Lib.hid hTl
  clear hJ hY hT0 hTl
  have KW := Lib.hid (Kept.of_below (S := fun i => ¬ T i) hBW)
  have c1 := (KW.out.blk h1.out (fun q => q hTb)).cell 0
  have c2 := (KW.out.blk h2.out (fun q => q hTb1)).cell 0
  simp only [List.getElem?_cons_zero] at c1 c2
  have hb2 : b + 1 < W.heap.size := (KW.out.blk h2.out (fun q => q hTb1)).lt
  have hb1 : b < W.heap.size := by omega
  have hf' : (f : Int) < (n : Int) := by omega
  have hm0 : (madeCells #[Value.bool false] n)[f]? = some (.bool false) := by rw [made_rep]; simp [hf]
  have hmk := fun w : World => run_make_row' (P := Tryd.prog) 71 4 (.bool false) 1 Tryd.underlying71 info_bool rfl .i64 .i64 n (by omega) (by omega) w
  refine (callsIn_wide (n := 0)).1 ?_
  refine callsIn_of_wp Tryd.func47 rfl trivial ?_ rfl
  simp only [Tryd.ntmps47, List.size_toArray, List.length_cons, List.length_nil, Nat.reduceAdd, Nat.reduceSub, Array.replicate_succ, Array.replicate_zero, List.push_toArray, List.append_toArray, List.nil_append, List.cons_append]
  gi_wp2
  have start := bitsV_zero n
  gi_loopw [17] (fun i wr => ∃ m : Nat, m ≤ n ∧ i = .int .i64 m ∧ J (castL (befL (edg l) f m)) wr ∧ Blk wr W.heap.size 4 (bitsV n (mkdB (edg l) n f m)) ∧ Kept w wr (fun i => ¬ T i) ∧ W.heap.size + 1 ≤ wr.heap.size) (fun i _ => n - (intOf i).toNat)
  case atStart =>
    have ea : ((madeCells #[Value.bool false] n).setIfInBounds f (Value.bool true)) = (bitsV n (mkdB (edg l) n f 0)).toArray := by
      rw [made_rep, start, List.setIfInBounds_toArray, bitsV_set]
      exact congrArg List.toArray (bitsV_ext (fun j _ => (mkd_start j hf).symm))
    refine ⟨0, Nat.zero_le _, rfl, HJ.out _ _ _ h0 (Kept.of_below (below1 W _)), ?_, KW.out.trans (Kept.of_below (below1 W _)), by simp⟩
    rw [ea]
    exact heap_alloc_new W _
  case round =>
    obtain ⟨m, hm, rfl, hj, hbl, hkw, hsz⟩ := hrel
    have HJ1 := Lib.hid hj
    have HB1 := Lib.hid hbl
    have HK1 := Lib.hid hkw
    clear hj hbl hkw
    by_cases hlt : m < n
    · obtain ⟨x, hx⟩ : ∃ x, l[m]? = some x := ⟨_, List.getElem?_eq_getElem (by have := hn.out; omega)⟩
      have HX := Lib.hid hx
      obtain ⟨b3, off3, a3, c3, hA, hb3, hc3, hle3, hmx3, hi3⟩ := hl.out m _ (nxs_at hx)
      have IL := Lib.hid hi3
      clear hx hi3
      have TB1 := Lib.hid (tbelow HT0.out hb0.out HK1.out)
      have t3 := ((bcell TB1.out).1 b3 (off3 + m) hb3).trans hc3
      have t1 := (HK1.out.blk h1.out (fun q => q hTb)).cell 0
      have hcm : wr.cell? ⟨W.heap.size, m, none⟩ = some (.bool (mkdB (edg l) n f m m)) := (HB1.out.cell m).trans (bitsV_at _ hlt)
      rw [mkd_at hlt] at hcm
      clear hc3
      subst hA
      cases q : rb (edg l) f m
      · rw [q] at hcm
        have HQ := Lib.hid q
        clear q
        gi_wp2
        go_roundw
        case rel => exact ⟨m + 1, by omega, by go_num, by rw [bef_no HQ.out]; exact HJ1.out, by rw [bitsV_ext (fun j _ => mkd_skip HQ.out j)]; exact HB1.out, HK1.out, hsz⟩
        case measure => simp [intOf]; omega
      · rw [q] at hcm
        have HQ := Lib.hid q
        clear q
        have hn9 := HX.out
        obtain ⟨z, hz⟩ : ∃ z, (nxI x.1 x.2 m).length = z := ⟨_, rfl⟩
        have HZ := Lib.hid hz
        have GX := Lib.hid (fun (y : Int) (hy : y ∈ nxI x.1 x.2 m) => nx_nat g hn9 hy)
        have HM := Lib.hid (fun j => mkd_lead g hn9 HQ.out (j := j))
        rw [hz] at t3
        obtain ⟨nx, hnx⟩ : ∃ nx, nxI x.1 x.2 m = nx := ⟨_, rfl⟩
        rw [hnx] at HZ GX HM IL
        have hz2 : z ≤ 2 := by rw [← hz]; exact nexts_len x.1 x.2 m
        clear hz hnx hn9
        gi_wp2
        gi_loopw [29] (fun i wr2 => ∃ k : Nat, k ≤ z ∧ i = .int .i64 k ∧ J (castL (befL (edg l) f m)) wr2 ∧ Blk wr2 W.heap.size 4 (bitsV n (fun j => mkdB (edg l) n f m j || decide ((j : Int) ∈ nx.take k))) ∧ Kept w wr2 (fun i => ¬ T i) ∧ W.heap.size + 1 ≤ wr2.heap.size) (fun i _ => z - (intOf i).toNat)
        case atStart =>
          refine ⟨0, Nat.zero_le _, rfl, HJ1.out, ?_, HK1.out, hsz⟩
          rw [bitsV_ext (q := mkdB (edg l) n f m) (fun j _ => by simp)]
          exact HB1.out
        case round =>
          obtain ⟨k, hk, rfl, hj, hbl, hkw, hsz2⟩ := hrel
          have HJ2 := Lib.hid hj
          have HB2 := Lib.hid hbl
          have HK2 := Lib.hid hkw
          clear hj hbl hkw
          by_cases hlt2 : k < z
          · obtain ⟨y, hy⟩ : ∃ y, nx[k]? = some y := ⟨_, List.getElem?_eq_getElem (by have := HZ.out; omega)⟩
            obtain ⟨v, rfl, -, hvn⟩ := GX.out y (List.mem_of_getElem? hy)
            rw [hn.out] at hvn
            have HV := Lib.hid hy
            obtain ⟨b4, off4, rfl, hb4, hc4⟩ := IL.out k _ hy
            clear hy
            have TB2 := Lib.hid (tbelow HT0.out hb0.out HK2.out)
            have t4 := ((bcell TB2.out).1 b4 (off4 + k) hb4).trans hc4
            clear hc4
            have hcv := (HB2.out.cell v).trans (bitsV_at _ hvn)
            have hfv := HB2.out.frozen v
            have hvn' : (v : Int) < (n : Int) := by omega
            gi_wp2
            go_roundw
            case rel =>
              refine ⟨k + 1, by omega, by go_num, HJ.out _ _ _ HJ2.out (Kept.set.mono (fun i h => by unfold Prv; omega)), ?_, HK2.out.trans (Kept.set.mono (fun i h q => by have := HTl.out i q; have := hBW.size; omega)), by simpa using hsz2⟩
              have e := HB2.out.set v (.bool true)
              rw [bitsV_set] at e
              rw [bitsV_ext (fun j _ => show (mkdB (edg l) n f m j || decide ((j : Int) ∈ nx.take (k + 1))) = ((mkdB (edg l) n f m j || decide ((j : Int) ∈ nx.take k)) || decide (j = v)) by
                rw [Bool.or_assoc, ← Bool.decide_or]
                congr 1
                rw [decide_eq_decide, take_mem_succ HV.out]
                constructor
                · rintro (h | h)
                  · exact .inl h
                  · exact .inr (by omega)
                · rintro (h | h)
                  · exact .inl h
                  · exact .inr (by omega))]
              exact e
            case measure => simp [intOf]; omega
          · obtain rfl : k = z := by omega
            obtain ⟨rest, hrest⟩ := bef_cut hlt HQ.out
            have hbm : Hid (Blk wr W.heap.size 4 (bitsV n (mkdB (edg l) n f (m + 1)))) := by
              have e := HB2.out
              rw [List.take_of_length_le (by have := HZ.out; omega)] at e
              rw [bitsV_ext (q := fun j => mkdB (edg l) n f m j || decide ((j : Int) ∈ nx)) (fun j _ => by have := HM.out j; rw [hn.out] at this; exact this)]
              exact e
            obtain ⟨fn, tmps, assign, body, hy, hR⟩ := HY.out 0 (castL (befL (edg l) f m)) m (castL rest) wr (by rw [hrest, castL_app]; rfl) HJ2.out hsz2
            gi_wp2
            refine ⟨rfl, hR.mono ?_⟩
            rintro e W3 ⟨rfl, hj3, hk3⟩
            have HJ3 := Lib.hid hj3
            have HB3 := Lib.hid (hk3.blk hbm.out (fun q => q.2 (by unfold Prv; omega)))
            have HK3 := Lib.hid (HK2.out.trans (hk3.mono (fun i h => h.1)))
            have hsz3 : W.heap.size + 1 ≤ W3.heap.size := Nat.le_trans hsz2 hk3.size
            clear hj3 hk3 hR hy
            gi_wp2
            go_roundw
            case rel => exact ⟨m + 1, by omega, by go_num, by rw [bef_yes HQ.out, castL_app]; exact HJ3.out, HB3.out, HK3.out, hsz3⟩
            case measure => simp [intOf]; omega
    · obtain rfl : m = n := by omega
      gi_wp2
      go_end0
      exact ⟨⟨_, rfl⟩, by have := HJ1.out; rw [bef_all] at this; exact this⟩
attribute [local go_sem] Oper.semAt_some

theorem SeqR.later {α : Type} {P : Program} {g : Nat} {lb : Array Value} {encs : α → Array Value} {xs : List α} {k : Nat} {T : Nat → Prop} {w w1 : World} (h : SeqR P g lb encs xs k T w) (hb : Below w.heap.size w w1) : SeqR P g lb encs xs k T w1 :=
  fun l J W hW hJ hY h0 => h l J W (Below.tr hb hW) hJ hY h0
/-- a box that holds a slice of one's own, of these numbers -/
def CB (W : World) (B base : Nat) (xs : List Int) : Prop := ∃ A c, Blk W B 24 [.slice A xs.length c] ∧ W.ownsRow base 3 1 (.slice A xs.length c) xs.length (xs.map (Value.int .i64))
theorem CB.kept {W W' : World} {B base : Nat} {xs : List Int} {S : Nat → Prop} (h : CB W B base xs) (hk : Kept W W' S) (hB : ¬ S B) (hs : ∀ g, S g → g < base) : CB W' B base xs := by
  obtain ⟨A, c, h1, h2⟩ := h
  exact ⟨A, c, hk.blk h1 hB, hk.own h2 (fun g hg q => by have := (h2.lt g hg).1; have := hs g q; omega)⟩
/-- behind an append of one number and the store into the box -/
theorem CB.app {W w3 : World} {B base g3 c3 c : Nat} {A : Option Addr} {xs : List Int} {x : Int} {o : Obj} (hB : B < base) (h1 : Blk W B 24 [.slice A xs.length c])
    (h2 : W.ownsRow base 3 1 (.slice A xs.length c) xs.length (xs.map (Value.int .i64)))
    (h3 : w3.ownsRow base 3 1 (.slice (some ⟨g3, 0, none⟩) (xs.length + 1) c3) (xs.length + 1) (xs.map (Value.int .i64) ++ [.int .i64 x])) (hg : (W.alloc o).grownBy w3 (Value.slice A xs.length c).ownBlock) :
    Blk w3 B 24 [.slice A xs.length c] ∧ CB (w3.setCell ⟨B, 0, none⟩ (.slice (some ⟨g3, 0, none⟩) (xs.length + 1) c3)) B base (xs ++ [x]) ∧ Kept W (w3.setCell ⟨B, 0, none⟩ (.slice (some ⟨g3, 0, none⟩) (xs.length + 1) c3)) (fun i => i = B ∨ base ≤ i) := by
  have kg : Kept W w3 (fun i => i = B ∨ base ≤ i) := (Kept.of_below (below1 W o)).trans (Kept.of_grown hg (fun g e => .inr (h2.lt g e).1))
  have b3 : Blk w3 B 24 [.slice A xs.length c] := by
    have kb : Kept W w3 (fun i => base ≤ i) := (Kept.of_below (below1 W o)).trans (Kept.of_grown hg (fun g e => (h2.lt g e).1))
    exact kb.blk h1 (by omega)
  refine ⟨b3, ⟨some ⟨g3, 0, none⟩, c3, ?_, ?_⟩, kg.trans (Kept.set.mono (fun i h => .inl h))⟩
  · have := b3.set 0 (.slice (some ⟨g3, 0, none⟩) (xs.length + 1) c3)
    simpa using this
  · have e : (xs ++ [x]).length = xs.length + 1 := by simp
    rw [e, List.map_append]
    exact (Kept.set (w := w3) (g := B) (j := 0)).own h3 (fun g hg2 q => by have := (h3.lt g hg2).1; omega)

set_option maxRecDepth 100000 in
set_option maxHeartbeats 4000000 in
theorem appendSeq_any (gf : Nat) (lb : Array Value) (xs : List Int) (k : Nat) (T : Nat → Prop) (w : World) (hs : Hid (SeqR Tryd.prog gf lb (fun x : Int => #[.int .i64 x]) xs k T w)) (eg : ∀ args w, (callFunc gf args).run Tryd.prog w = .ok (.enter gf args) w)
    (hT : Hid (∀ i, T i → i < w.heap.size)) (hx : xs.length ≤ 1000) :
    Calls Tryd.prog 46 #[.slice none 0 0, .func (.func gf) #[] lb] w (GaveInts w xs) := by
  obtain ⟨i0, hi0, hz0, hz1, hz2⟩ := info_parts info_int
  refine (callsIn_wide (n := 0)).1 ?_
  refine callsIn_of_wp_marks Tryd.func46 rfl trivial ?_ rfl
  simp only [Tryd.ntmps46, List.size_toArray, List.length_cons, List.length_nil, Nat.reduceAdd, Nat.reduceSub, Array.replicate_succ, Array.replicate_zero, List.push_toArray, List.append_toArray, List.nil_append, List.cons_append]
  gi_wp2
  refine rangeR (gf := gf) (lb := lb) rfl eg (hs.out.later (below1 _ _)) (fun _ => rfl) (fun i h => by have := hT.out i h; simp; omega)
    (fun pre W => CB W w.heap.size (w.heap.size + 1 + (2 + k)) pre ∧ Below w.heap.size w W) ?_ ?_
    (fun x => { tmps := #[.slice none 0 0, .func (.func gf) #[] lb, .pointer (some ⟨w.heap.size, 0, none⟩), undef, .slice none 0 0, .int .i64 x, .func (.func gf) #[] lb, .int .i64 x, undef, undef, undef, undef, undef], defers := [] })
    ?assign ?body ?done
  · rintro s A B ⟨h1, h2⟩ hk
    rw [World.size_alloc] at hk
    exact ⟨h1.kept hk (fun q => by unfold Prv at q; omega) (fun g q => by unfold Prv at q; omega), hk.below h2 h2.size (fun i q => by unfold Prv at q; omega)⟩
  · exact ⟨⟨none, 0, heap_alloc_new w _, World.ownsRow_nil _ _ _ _⟩, below1 w _⟩
  case assign =>
    intro l m x W K hK
    gi_wp2
    exact hK
  case body =>
    rintro l m pre x rest W hxs ⟨⟨A, c, h1, h2⟩, hb⟩ hsz
    have HXS := Lib.hid hxs
    have H1 := Lib.hid h1
    have H2 := Lib.hid h2
    have HB := Lib.hid hb
    have hc := h1.cell 0
    simp only [List.getElem?_cons_zero] at hc
    have hlt := h1.lt
    rw [World.size_alloc] at hsz
    have hpl : pre.length ≤ 1000 := by have := congrArg List.length hxs; simp at this; omega
    clear hxs h1 h2 hb
    gi_wp2_with (gi_at_builtin; refine wpListIn_append_own _ rfl _ _ 24 rfl (w.heap.size + 1 + (2 + k)) 3 i0 (.int .i64 0) 1 8 Tryd.underlying24 hi0 hz0 hz1 hz2 rfl (by decide) _ _ _ rfl (own_below H2.out (below1 _ _)) ⟨(W).heap.size, 0, none⟩ 1 1 [.int .i64 (x)] rfl rfl (one_newT _ _ _) (by simp [Value.oneCell']) (by unfold maxLen; omega) (by omega) (by simp; omega) ?_; intro v3 w3 hown3 hg3 _; obtain ⟨g3, cap3, rfl⟩ := ownsRow_succ hown3; obtain ⟨hb3, hcb, hkp⟩ := CB.app (by omega) H1.out H2.out hown3 hg3; have hc3 := hb3.cell 0; have hf3 := hb3.frozen 0; simp only [List.getElem?_cons_zero] at hc3; have CBX := Lib.hid hcb; have KPX := Lib.hid hkp; clear hcb hkp hown3 hg3)
    refine ⟨KPX.out.mono (fun i q => ⟨fun t => ?_, fun p => ?_⟩), CBX.out, KPX.out.below HB.out HB.out.size (fun i q => by omega)⟩
    · have := hT.out i t; omega
    · unfold Prv at p; rw [World.size_alloc] at p; omega
  case done =>
    rintro D W rfl ⟨⟨A, c, h1, h2⟩, hb⟩ hK
    have hc := h1.cell 0
    simp only [List.getElem?_cons_zero] at hc
    gi_wp2
    refine ⟨by simp, .inl ⟨_, _, rfl, run_takeDeferred hK, ?_⟩⟩
    exact ⟨_, results_tmp rfl _ _ _, A, c, rfl, own_base (ownsRow_putObj h2 _ hK rfl) (by omega), (Kept.put W _ _).below hb hb.size (fun i q => by simp at q; omega)⟩
theorem callFunc_of {f : Nat} (h : Enters Tryd.prog f) : ∀ args w, (callFunc f args).run Tryd.prog w = .ok (.enter f args) w := h
set_option maxRecDepth 100000 in
set_option maxHeartbeats 2000000 in
theorem collect_any (gf : Nat) (lb : Array Value) (xs : List Int) (k : Nat) (T : Nat → Prop) (w : World) (hs : Hid (SeqR Tryd.prog gf lb (fun x : Int => #[.int .i64 x]) xs k T w)) (eg : ∀ args w, (callFunc gf args).run Tryd.prog w = .ok (.enter gf args) w)
    (hT : Hid (∀ i, T i → i < w.heap.size)) (hx : xs.length ≤ 1000) :
    Calls Tryd.prog 23 #[.func (.func gf) #[] lb] w (GaveInts w xs) := by
  have EG := Lib.hid eg
  clear eg
  go_enter Tryd.func23, Tryd.ntmps23
  go_wp2_with fail
  refine (appendSeq_any gf lb xs k T w hs EG.out hT hx).mono ?_
  rintro e w1 ⟨A, c, rfl, hown, hb⟩
  have O1 := Lib.hid hown
  have B1 := Lib.hid hb
  clear hown hb
  go_wp2
  go_ret
  exact ⟨A, c, rfl, O1.out, B1.out⟩

/-- behind k rounds: the first k rows of L lie, each in a row laid behind g -/
def FlowUp (w : World) (g n k : Nat) (L : List (List Int)) : Prop := ∃ vs : List Value, Blk w g 24 (vs ++ List.replicate (n - k) (.slice none 0 0)) ∧ vs.length = k ∧
  ∀ i l, i < k → L[i]? = some l → ∃ a c, vs[i]? = some (.slice a l.length c) ∧ w.ownsRow (g + 1) 3 1 (.slice a l.length c) l.length (l.map (Value.int .i64))
theorem FlowUp.below {w w' : World} {g n k : Nat} {L : List (List Int)} (h : FlowUp w g n k L) (hb : Below w.heap.size w w') : FlowUp w' g n k L := by
  obtain ⟨vs, h1, h2, h3⟩ := h
  exact ⟨vs, h1.below hb, h2, fun i l hi hl => by obtain ⟨a, c, h4, h5⟩ := h3 i l hi hl; exact ⟨a, c, h4, own_below h5 hb⟩⟩
theorem FlowUp.step {w : World} {g n k : Nat} {L : List (List Int)} {l : List Int} {a : Option Addr} {c : Nat} (h : FlowUp w g n k L) (hk : k < n) (hl : L[k]? = some l)
    (ho : w.ownsRow (g + 1) 3 1 (.slice a l.length c) l.length (l.map (Value.int .i64))) : FlowUp (w.setCell ⟨g, k, none⟩ (.slice a l.length c)) g n (k + 1) L := by
  obtain ⟨vs, h1, h2, h3⟩ := h
  refine ⟨vs ++ [.slice a l.length c], ?_, by simp [h2], fun i l' hi hl' => ?_⟩
  · have e := h1.set k (.slice a l.length c)
    rw [List.set_append_right _ _ (by omega), h2, Nat.sub_self, show n - k = (n - (k + 1)) + 1 by omega, List.replicate_succ, List.set_cons_zero] at e
    rw [List.append_assoc]
    exact e
  · rcases Nat.lt_or_ge i k with q | q
    · obtain ⟨a', c', h4, h5⟩ := h3 i l' q hl'
      refine ⟨a', c', by rw [List.getElem?_append_left (by omega)]; exact h4, ?_⟩
      exact (Kept.set (w := w) (g := g) (j := k)).own h5 (fun b hb e => by have := (h5.lt b hb).1; omega)
    · obtain rfl : i = k := by omega
      rw [hl] at hl'
      obtain rfl := Option.some.inj hl'
      refine ⟨a, c, by rw [List.getElem?_append_right (by omega), h2]; simp, ?_⟩
      exact (Kept.set (w := w) (g := g) (j := i)).own ho (fun b hb e => by have := (ho.lt b hb).1; omega)
theorem FlowUp.lies {w : World} {g n : Nat} {L : List (List Int)} (h : FlowUp w g n n L) (hL : L.length = n) (h2 : ∀ (i : Nat) (l : List Int), L[i]? = some l → l.length ≤ 2) : LLies w (some ⟨g, 0, none⟩) L := by
  obtain ⟨vs, h1, h3, h4⟩ := h
  intro i l hl
  have hi : i < n := by have := (List.getElem?_eq_some_iff.1 hl).1; omega
  obtain ⟨a, c, h5, h6⟩ := h4 i l hi hl
  refine ⟨g, 0, a, c, rfl, h1.lt, ?_, own_cap h6, by have := h2 i l hl; omega, own_ilies h6⟩
  rw [Nat.zero_add, h1.cell, List.getElem?_append_left (by omega)]
  exact h5
theorem nxs_get {xs : List Stp} {i : Nat} {x : Stp} (h : xs[i]? = some x) : (nxsL (ktOf xs))[i]? = some (nextsI x.k x.t i) := nxs_at (ktOf_at h)
theorem nxs_two (xs : List Stp) (i : Nat) (l : List Int) (h : (nxsL (ktOf xs))[i]? = some l) : l.length ≤ 2 := by
  have hlt : i < xs.length := by have := (List.getElem?_eq_some_iff.1 h).1; rw [nxs_len, ktOf_len] at this; exact this
  rw [nxs_get (List.getElem?_eq_getElem hlt)] at h
  obtain rfl := Option.some.inj h
  exact nexts_len _ _ _
/-- it answers the graph, and true -/
def GaveFlow (w : World) (n : Nat) (L : List (List Int)) (e : Ending) (w' : World) : Prop :=
  ∃ A c, e = .returned (.tuple #[.slice A n c, .bool true]) ∧ LLies w' A L ∧ Below w.heap.size w w'
/-- what flowOf and flowAround answer -/
def FlowP (w : World) (n : Nat) (L : List (List Int)) (b : Bool) (e : Ending) (w' : World) : Prop :=
  (b = true → GaveFlow w n L e w') ∧ (b = false → e = .returned (.tuple #[.slice none 0 0, .bool false]) ∧ Below w.heap.size w w')
theorem FlowP.yes {w w' : World} {n : Nat} {L : List (List Int)} {e : Ending} (h : GaveFlow w n L e w') : FlowP w n L true e w' := ⟨fun _ => h, (fun q => by cases q)⟩
theorem FlowP.no {w w' : World} {n : Nat} {L : List (List Int)} (h : Below w.heap.size w w') : FlowP w n L false (.returned (.tuple #[.slice none 0 0, .bool false])) w' := ⟨(fun q => by cases q), fun _ => ⟨rfl, h⟩⟩
set_option maxRecDepth 100000 in
set_option maxHeartbeats 4000000 in
theorem flowOf_any (A : Option Addr) (n cap : Nat) (xs : List Stp) (w : World) (g : Bool) (hg : Hid (g = true ↔ Good xs)) (hl : Hid (Lies w A xs)) (hx : Hid (xs.length = n)) (hn : n ≤ 1048576) :
    Calls Tryd.prog 19 #[.slice A n cap] w (FlowP w n (nxsL (ktOf xs)) g) := by
  go_enter Tryd.func19, Tryd.ntmps19
  go_wp2_with fail
  refine (implGood_any _ _ _ xs _ g hg hl hx hn).mono ?_
  rintro e w1 ⟨rfl, hb1⟩
  have B1 := Lib.hid hb1
  clear hb1
  cases g
  · go_wp2
    go_ret2
    exact .no B1.out
  · have GX := Lib.hid (hg.out.1 rfl)
    have hn20 : n ≤ 20 := by have := GX.out.1.2; rw [hx.out] at this; exact this
    have hmk := fun w : World => run_make_row' (P := Tryd.prog) 48 24 (.slice none 0 0) 24 Tryd.underlying48 info_ints rfl .i64 .i64 n (by omega) (by omega) w
    go_wp2
    go_loopw [14] (fun i wr => ∃ k : Nat, k ≤ n ∧ i = .int .i64 k ∧ FlowUp wr w1.heap.size n k (nxsL (ktOf xs)) ∧ Below w1.heap.size w1 wr) (fun i _ => n - (intOf i).toNat)
    case atStart =>
      refine ⟨0, Nat.zero_le _, rfl, ⟨[], ?_, rfl, fun i l h => by omega⟩, below1 _ _⟩
      rw [made_rep]
      exact heap_alloc_new w1 _
    case round =>
      obtain ⟨k, hk, rfl, hf, hb⟩ := hrel
      have F1 := Lib.hid hf
      have C1 := Lib.hid hb
      clear hf hb
      by_cases hlt : k < n
      · obtain ⟨x, hxk⟩ : ∃ x, xs[k]? = some x := ⟨_, List.getElem?_eq_getElem (by have := hx.out; omega)⟩
        have HXK := Lib.hid hxk
        clear hxk
        have HR : Hid (NextsRes xs n k true (nextsI x.k x.t k)) := Lib.hid ⟨⟨fun _ => ⟨GX.out, by omega, by omega⟩, fun _ => rfl⟩, (fun e => by cases e), fun _ y hy => by
          have e : ((k : Int)).toNat = k := by omega
          rw [e, HXK.out] at hy
          obtain rfl := Option.some.inj hy
          rfl⟩
        have L1 := Lib.hid (hl.out.below (Below.tr B1.out C1.out))
        have hgl : w1.heap.size < wr.heap.size := by obtain ⟨vs, h, _⟩ := F1.out; exact h.lt
        go_wp2_with fail
        refine (implNexts_any _ _ _ xs k _ true _ HR L1 hx hn).mono ?_
        rintro e w2 ⟨A2, c2, rfl, hown, hb2⟩
        obtain ⟨z, hz⟩ : ∃ z, (nextsI x.k x.t k).length = z := ⟨_, rfl⟩
        have HZ := Lib.hid hz
        rw [hz] at hown ⊢
        have O2 := Lib.hid (own_base hown (show w1.heap.size + 1 ≤ wr.heap.size by omega))
        have F2 := Lib.hid (F1.out.below hb2)
        have C2 := Lib.hid (Below.trans C1.out (hb2.mono (by omega)))
        clear hown hb2 hz
        have hcell : ∃ v, w2.cell? ⟨w1.heap.size, k, none⟩ = some v := by
          obtain ⟨vs, h, hv, _⟩ := F2.out
          exact ⟨_, (h.cell k).trans (List.getElem?_eq_getElem (by simp; omega))⟩
        obtain ⟨v, hcell⟩ := hcell
        have hfr : w2.frozen? ⟨w1.heap.size, k, none⟩ = false := by
          obtain ⟨vs, h, _⟩ := F2.out
          exact h.frozen k
        go_wp2
        go_roundw
        case rel => exact ⟨k + 1, by omega, by go_num, by have e := F2.out.step hlt (nxs_get HXK.out) (a := A2) (c := c2) (by rw [HZ.out]; exact O2.out); rw [HZ.out] at e; exact e, C2.out.setCell (Nat.le_refl _) _⟩
        case measure => simp [intOf]; omega
      · obtain rfl : k = n := by omega
        go_wp2
        go_ret2
        exact .yes ⟨_, _, rfl, F1.out.lies (by rw [nxs_len, ktOf_len]; exact hx.out) (nxs_two xs), Below.tr B1.out C1.out⟩
theorem isIndex_any (a b : Int) (w : World) : Calls Tryd.prog 50 #[.int .i64 a, .int .i64 b] w fun e w' => e = .returned (.bool (decide (0 ≤ a) && decide (a < b))) ∧ w = w' := by
  go_enter Tryd.func50, Tryd.ntmps50
  by_cases h1 : 0 ≤ a
  · by_cases h2 : a < b
    · go_wp2
      go_ret
      exact ⟨by simp [h1, h2], rfl⟩
    · have h2' : b ≤ a := by omega
      go_wp2
      go_ret
      exact ⟨by simp [h2], rfl⟩
  · have h1' : a < 0 := by omega
    go_wp2
    go_ret
    exact ⟨by simp; omega, rfl⟩
set_option maxRecDepth 100000 in
set_option maxHeartbeats 4000000 in
theorem flowAround_any (A : Option Addr) (n cap : Nat) (at_ : Int) (xs : List Stp) (w : World) (b : Bool) (hb : Hid (b = true ↔ Good xs ∧ 0 ≤ at_ ∧ at_ < n)) (hl : Hid (Lies w A xs)) (hx : Hid (xs.length = n)) (hn : n ≤ 1048576) :
    Calls Tryd.prog 26 #[.slice A n cap, .int .i64 at_] w (FlowP w n (nxsL (ktOf xs)) b) := by
  obtain ⟨g, hg⟩ := good_bool xs
  have HG := Lib.hid hg
  clear hg
  cases g
  · have hbf : b = false := by cases b; · rfl
                               · exact absurd (HG.out.2 (hb.out.1 rfl).1) (by simp)
    subst hbf
    go_enter Tryd.func26, Tryd.ntmps26
    go_wp2_with fail
    refine (flowOf_any _ _ _ xs _ false HG hl hx hn).mono ?_
    rintro e w1 ⟨-, h⟩
    obtain ⟨rfl, hb1⟩ := h rfl
    have B1 := Lib.hid hb1
    clear hb1 h
    go_wp2
    go_ret2
    exact .no B1.out
  · have GX := Lib.hid (HG.out.1 rfl)
    cases b
    · have hno : Hid ((decide (0 ≤ at_) && decide (at_ < (n : Int))) = false) := Lib.hid (by
        have h : ¬ (0 ≤ at_ ∧ at_ < n) := fun q => by have := hb.out.2 ⟨GX.out, q⟩; cases this
        rw [← Bool.decide_and]
        exact decide_eq_false h)
      go_enter Tryd.func26, Tryd.ntmps26
      go_wp2_with fail
      refine (flowOf_any _ _ _ xs _ true (Lib.hid ⟨fun _ => GX.out, fun _ => rfl⟩) hl hx hn).mono ?_
      rintro e w1 ⟨h, -⟩
      obtain ⟨A1, c1, rfl, hl1, hb1⟩ := h rfl
      have B1 := Lib.hid hb1
      clear hl1 hb1 h
      go_wp2_with (go_at_call 50; refine (isIndex_any _ _ _).mono ?_; rintro e w' ⟨rfl, rfl⟩; rw [hno.out])
      go_ret2
      exact .no B1.out
    · have hyes : Hid ((decide (0 ≤ at_) && decide (at_ < (n : Int))) = true) := Lib.hid (by
        have h := (hb.out.1 rfl).2
        rw [← Bool.decide_and]
        exact decide_eq_true h)
      go_enter Tryd.func26, Tryd.ntmps26
      go_wp2_with fail
      refine (flowOf_any _ _ _ xs _ true (Lib.hid ⟨fun _ => GX.out, fun _ => rfl⟩) hl hx hn).mono ?_
      rintro e w1 ⟨h, -⟩
      obtain ⟨A1, c1, rfl, hl1, hb1⟩ := h rfl
      have B1 := Lib.hid hb1
      have L1 := Lib.hid hl1
      clear hl1 hb1 h
      go_wp2_with (go_at_call 50; refine (isIndex_any _ _ _).mono ?_; rintro e w' ⟨rfl, rfl⟩; rw [hyes.out])
      go_ret2
      exact .yes ⟨_, _, rfl, L1.out, B1.out⟩
attribute [local go_sem] Oper.semAt_some

/-- what follows a step, as a list of arcs -/
def arcA (l : KT) (a : Int) : List (Int × Int) := match l[a.toNat]? with | some x => (nxI x.1 x.2 a).map (fun y => (a, y)) | none => []
/-- the arcs from these steps -/
def arcsOf (l : KT) (t : List Int) : List (Int × Int) := t.flatMap (arcA l)
def arcsI (l : KT) : List (Int × Int) := arcsOf l (castL (reachL (edg l) l.length 0))
theorem arcA_at {l : KT} {a : Nat} {x : Int × Int} (h : l[a]? = some x) : arcA l a = (nxI x.1 x.2 a).map (fun y => ((a : Int), y)) := by unfold arcA; rw [Int.toNat_natCast, h]
theorem arcsOf_snoc (l : KT) (t : List Int) (a : Int) : arcsOf l (t ++ [a]) = arcsOf l t ++ arcA l a := by unfold arcsOf; rw [List.flatMap_append]; simp
theorem arcs_cut {l : KT} {pre rest : List Int} {a k : Nat} {x : Int × Int} {y : Int} (h : castL (reachL (edg l) l.length 0) = pre ++ (a : Int) :: rest) (hx : l[a]? = some x) (hy : (nxI x.1 x.2 a)[k]? = some y) :
    ∃ r, arcsI l = (arcsOf l pre ++ ((nxI x.1 x.2 a).take k).map (fun y => ((a : Int), y))) ++ ((a : Int), y) :: r := by
  have hlt := (List.getElem?_eq_some_iff.1 hy).1
  have e := (List.getElem?_eq_some_iff.1 hy).2
  refine ⟨((nxI x.1 x.2 a).drop (k + 1)).map (fun y => ((a : Int), y)) ++ arcsOf l rest, ?_⟩
  unfold arcsI
  rw [h]
  unfold arcsOf
  rw [List.flatMap_append, List.flatMap_cons, arcA_at hx]
  conv => lhs; rw [← List.take_append_drop k (nxI x.1 x.2 a), List.drop_eq_getElem_cons hlt, e]
  simp
set_option maxRecDepth 100000 in
set_option maxHeartbeats 2000000 in
theorem arcs_any (A : Option Addr) (n c : Nat) (w : World) :
    Calls Tryd.prog 31 #[.slice A n c] w fun e w' => e = .returned (.func (.func 51) #[] #[.pointer (some ⟨w.heap.size, 0, none⟩)]) ∧ w' = w.alloc (.cells #[.slice A n c] 48) := by
  go_enter Tryd.func31, Tryd.ntmps31
  go_wp2
  go_ret
  exact ⟨rfl, rfl⟩

set_option maxRecDepth 100000 in
set_option maxHeartbeats 4000000 in
theorem arcs_seq (l : KT) (g : GoodKT l) (n c b : Nat) (A : Option Addr) (w w0 : World) (T : Nat → Prop) (hn : Hid (l.length = n)) (h20 : n ≤ 20) (h1n : 0 < n)
    (hl : Hid (LLies w0 A (nxsL l))) (hb0 : Hid (Below w0.heap.size w0 w)) (h1 : Hid (Blk w b 48 [.slice A n c]))
    (hT0 : ∀ i, i < w0.heap.size → T i) (hTb : T b) (hTl : ∀ i, T i → i < w.heap.size) :
    SeqR Tryd.prog 51 #[.pointer (some ⟨b, 0, none⟩)] (fun p : Int × Int => #[.int .i64 p.1, .int .i64 p.2]) (arcsI l) 6 T w := by
  intro lp J W hBW hJ hY h0
  have HJ := Lib.hid hJ
  have HY := Lib.hid hY
  have HT0 := Lib.hid hT0
  have HTl := Lib.hid hTl
  clear hJ hY hT0 hTl
  have KW := Lib.hid (Kept.of_below (S := fun i => ¬ T i) hBW)
  have HB1 := Lib.hid (KW.out.blk h1.out (fun q => q hTb))
  have hb2 : b < W.heap.size := HB1.out.lt
  have c1 := HB1.out.cell 0
  simp only [List.getElem?_cons_zero] at c1
  have szw := hBW.size
  refine (callsIn_wide (n := 0)).1 ?_
  refine callsIn_of_wp_marks Tryd.func51 rfl trivial ?_ rfl
  simp only [Tryd.ntmps51, List.size_toArray, List.length_cons, List.length_nil, Nat.reduceAdd, Nat.reduceSub, Array.replicate_succ, Array.replicate_zero, List.push_toArray, List.append_toArray, List.nil_append, List.cons_append]
  gi_wp2_with fail
  refine ⟨trivial, rfl, ?_⟩
  refine (callsIn_wide.2 (stepsFrom_any _ _ _ _ _)).mono ?_
  rintro e w' ⟨rfl, rfl⟩
  gi_wp2_with fail
  obtain ⟨ty, hty⟩ : ∃ t, Blk (W.alloc (.cells #[.func (.yield lp) #[] #[]] 82)) W.heap.size t [.func (.yield lp) #[] #[]] := ⟨_, heap_alloc_new W _⟩
  obtain ⟨V, hV⟩ : ∃ V, ((W.alloc (.cells #[.func (.yield lp) #[] #[]] 82)).alloc (.cells #[.slice A n c] 48)).alloc (.cells #[.int .i64 (0 : Nat)] 3) = V := ⟨_, rfl⟩
  have sz : V.heap.size = W.heap.size + 3 := by rw [← hV]; simp
  have BV : Below W.heap.size W V := by rw [← hV]; exact below3 _ _ _ _
  have bx1 : Hid (Blk V (W.heap.size + 1) 48 [.slice A n c]) := Lib.hid (by
    rw [← hV]
    have e := heap_alloc_new (W.alloc (.cells #[.func (.yield lp) #[] #[]] 82)) (.cells [.slice A n c].toArray 48)
    rw [World.size_alloc] at e
    exact Blk.below e (below1 _ _))
  have bx2 : Hid (Blk V (W.heap.size + 1 + 1) 3 [.int .i64 (0 : Nat)]) := Lib.hid (by
    rw [← hV]
    have e := heap_alloc_new ((W.alloc (.cells #[.func (.yield lp) #[] #[]] 82)).alloc (.cells [.slice A n c].toArray 48)) (.cells [.int .i64 (0 : Nat)].toArray 3)
    rw [World.size_alloc, World.size_alloc] at e
    exact e)
  have bx0 : Hid (Blk V W.heap.size ty [.func (.yield lp) #[] #[]]) := Lib.hid (by rw [← hV]; exact (hty.below (below1 _ _)).below (below1 _ _))
  have hVe : ((W.alloc (.cells #[.func (.yield lp) #[] #[]] 82)).alloc (.cells #[.slice A n c] 48)).alloc (.cells #[.int .i64 0] 3) = V := hV
  rw [hVe]
  clear hV hVe hty
  have KV := Lib.hid (KW.out.trans (Kept.of_below BV))
  have hT1 : ∀ i, T i → i < W.heap.size := fun i h => by have := HTl.out i h; omega
  have hT' : ∀ i, (i < w0.heap.size ∨ i = W.heap.size + 1 ∨ i = W.heap.size + 1 + 1) → i < V.heap.size := fun i h => by have := hb0.out.size; omega
  have HT1 := Lib.hid hT1
  refine rangeR (n := 0) (gf := 47) (lb := #[.pointer (some ⟨W.heap.size + 1, 0, none⟩), .pointer (some ⟨W.heap.size + 1 + 1, 0, none⟩)]) rfl (enters_of Tryd.func47 (by kernel_rfl) rfl)
    (steps_seq l g n 0 c (W.heap.size + 1) A V w0 _ hn h20 h1n hl (Lib.hid (tbelow HT0.out hb0.out KV.out)) bx1 bx2 (fun i h => .inl h) (.inr (.inl rfl)) (.inr (.inr rfl)) hT')
    (fun _ => rfl) hT'
    (fun pre W' => J (arcsOf l pre) W' ∧ Kept w W' (fun i => ¬ T i) ∧ Blk W' W.heap.size ty [.func (.yield lp) #[] #[]]) ?_ ?_
    (fun x => { tmps := #[.func (.yield lp) #[] #[], .pointer (some ⟨b, 0, none⟩), .pointer (some ⟨W.heap.size, 0, none⟩), .int .i64 x, undef, undef, .slice A n c, .func (.func 47) #[] #[.pointer (some ⟨W.heap.size + 1, 0, none⟩), .pointer (some ⟨W.heap.size + 1 + 1, 0, none⟩)], .int .i64 x, undef, undef, undef, undef, undef, undef, undef, undef, undef, undef, undef, undef, undef, undef, undef], defers := [] })
    ?assign ?body ?done
  · rintro s X Y ⟨i1, i2, i3⟩ hk
    exact ⟨HJ.out _ _ _ i1 (hk.mono (fun i h => by unfold Prv at h ⊢; omega)), i2.trans (hk.mono (fun i h q => by have := hT1 i q; unfold Prv at h; omega)), hk.blk i3 (fun h => by unfold Prv at h; omega)⟩
  · exact ⟨HJ.out _ _ _ h0 (Kept.of_below BV), KV.out, bx0.out⟩
  case assign =>
    intro l m x W K hK
    gi_wp2
    exact hK
  case body =>
    rintro l2 m2 pre a rest W1 hxs ⟨i1, i2, i3⟩ hsz
    obtain ⟨a, rfl, han⟩ : ∃ k : Nat, (k : Int) = a ∧ k < n := by
      have hm : a ∈ castL (reachL (edg l) n 0) := by rw [hxs]; simp
      obtain ⟨k, hk, e⟩ := castL_mem.1 hm
      exact ⟨k, e, (mem_reach.1 hk).1⟩
    have HXS : Hid (castL (reachL (edg l) l.length 0) = pre ++ (a : Int) :: rest) := Lib.hid (by rw [hn.out]; exact hxs)
    have I1 := Lib.hid i1
    have I2 := Lib.hid i2
    have I3 := Lib.hid i3
    clear hxs i1 i2 i3
    obtain ⟨x, hx⟩ : ∃ x, l[a]? = some x := ⟨_, List.getElem?_eq_getElem (by have := hn.out; omega)⟩
    have HX := Lib.hid hx
    obtain ⟨b3, off3, a3, c3, hA, hb3, hc3, hle3, hmx3, hi3⟩ := hl.out a _ (nxs_at hx)
    have IL := Lib.hid hi3
    clear hx hi3
    have TB1 := Lib.hid (tbelow HT0.out hb0.out I2.out)
    have t3 := ((bcell TB1.out).1 b3 (off3 + a) hb3).trans hc3
    have t1 := (I2.out.blk h1.out (fun q => q hTb)).cell 0
    simp only [List.getElem?_cons_zero] at t1
    have ha' : (a : Int) < (n : Int) := by omega
    clear hc3
    subst hA
    obtain ⟨z, hz⟩ : ∃ z, (nxI x.1 x.2 a).length = z := ⟨_, rfl⟩
    have HZ := Lib.hid hz
    have hz2 : z ≤ 2 := by rw [← hz]; exact nexts_len x.1 x.2 a
    rw [hz] at t3
    clear hz
    have HS := Lib.hid hsz
    rw [sz] at hsz
    gi_wp2
    gi_loopw [14] (fun i wr => ∃ k : Nat, k ≤ z ∧ i = .int .i64 k ∧ J (arcsOf l pre ++ ((nxI x.1 x.2 a).take k).map (fun y => ((a : Int), y))) wr ∧ Kept W1 wr (Rnd (fun i => i < w0.heap.size ∨ i = W.heap.size + 1 ∨ i = W.heap.size + 1 + 1) V.heap.size (2 + 1)) ∧ Kept w wr (fun i => ¬ T i) ∧ Blk wr W.heap.size ty [.func (.yield lp) #[] #[]]) (fun i _ => z - (intOf i).toNat)
    case atStart => exact ⟨0, Nat.zero_le _, rfl, by simpa using I1.out, Kept.refl _ _, I2.out, I3.out⟩
    case round =>
      obtain ⟨k, hk, rfl, j1, j2, j3, j4⟩ := hrel
      have J1 := Lib.hid j1
      have J2 := Lib.hid j2
      have J3 := Lib.hid j3
      have J4 := Lib.hid j4
      clear j1 j2 j3 j4
      by_cases hlt2 : k < z
      · obtain ⟨y, hy⟩ : ∃ y, (nxI x.1 x.2 a)[k]? = some y := ⟨_, List.getElem?_eq_getElem (by have := HZ.out; omega)⟩
        have HV := Lib.hid hy
        obtain ⟨b4, off4, rfl, hb4, hc4⟩ := IL.out k _ hy
        clear hy
        have TB2 := Lib.hid (tbelow HT0.out hb0.out J3.out)
        have t4 := ((bcell TB2.out).1 b4 (off4 + k) hb4).trans hc4
        have t5 := J4.out.cell 0
        simp only [List.getElem?_cons_zero] at t5
        clear hc4
        obtain ⟨r, hr⟩ := arcs_cut HXS.out HX.out HV.out
        obtain ⟨fn, tmps, assign, body, hy, hR⟩ := HY.out (m2 - 1) _ _ r wr hr J1.out (by have := J2.out.size; omega)
        dsimp only at hy
        gi_wp2
        have hR2 : RoundIn (Fence.wide.inRound l2) (m2 - 1) Tryd.prog lp fn tmps assign body wr _ := hR
        refine ⟨(fun h => absurd h (by decide)), hR2.mono ?_⟩
        rintro e W3 ⟨rfl, j3, k3⟩
        have M1 := Lib.hid j3
        have M2 := Lib.hid (J2.out.trans (k3.mono (fun i h => ⟨fun q => by
          rcases q with q | q | q
          · exact h.1 (HT0.out i q)
          · exact h.2 (by unfold Prv; omega)
          · exact h.2 (by unfold Prv; omega), fun q => h.2 (by unfold Prv at q ⊢; omega)⟩)))
        have M3 := Lib.hid (J3.out.trans (k3.mono (fun i h => h.1)))
        have M4 := Lib.hid (k3.blk J4.out (fun q => q.2 (by unfold Prv; omega)))
        clear j3 k3 hR hR2 hy
        gi_wp2
        go_roundw
        case rel => exact ⟨k + 1, by omega, by go_num, by rw [take_snocP HV.out, List.map_append, ← List.append_assoc]; exact M1.out, M2.out, M3.out, M4.out⟩
        case measure => simp [intOf]; omega
      · obtain rfl : k = z := by omega
        gi_wp2
        refine ⟨J2.out, ?_, J3.out, J4.out⟩
        rw [arcsOf_snoc, arcA_at HX.out]
        have e := J1.out
        rw [List.take_of_length_le (by have := HZ.out; omega)] at e
        exact e
  case done =>
    rintro D W1 rfl ⟨i1, i2, i3⟩ hK
    gi_wp2
    refine ⟨by simp, .inl ⟨_, _, rfl, run_takeDeferred hK, ?_⟩⟩
    refine ⟨_, results_none rfl _ _ _, ⟨_, rfl⟩, ?_⟩
    have e := HJ.out _ _ _ i1 ((Kept.put W1 V.heap.size (.deferred none)).mono (fun i h => by unfold Prv; omega))
    rw [← hn.out] at e
    exact e
attribute [local go_sem] Oper.semAt_some

/-- a list and true where P holds; nil and false elsewhere -/
def TwoRes (P : Prop) (L : List Int) (b : Bool) (l : List Int) : Prop := (b = true ↔ P) ∧ (b = false → l = []) ∧ (b = true → l = L)
theorem two_res (P : Prop) (L : List Int) : ∃ b l, TwoRes P L b l := by
  rcases Classical.em P with h | h
  · exact ⟨true, L, ⟨fun _ => h, fun _ => rfl⟩, (fun e => by cases e), fun _ => rfl⟩
  · exact ⟨false, [], ⟨(fun e => by cases e), fun e => absurd e h⟩, fun _ => rfl, (fun e => by cases e)⟩
theorem TwoRes.no {P : Prop} {L : List Int} {b : Bool} {l : List Int} (h : TwoRes P L b l) (hn : ¬ P) : b = false ∧ l = [] := by
  cases b
  · exact ⟨rfl, h.2.1 rfl⟩
  · exact absurd (h.1.1 rfl) hn
theorem TwoRes.yes {P : Prop} {L : List Int} {b : Bool} {l : List Int} (h : TwoRes P L b l) (hn : P) : b = true ∧ l = L := by
  have := h.1.2 hn
  exact ⟨this, h.2.2 this⟩
theorem TwoRes.len {P : Prop} {L : List Int} {b : Bool} {l : List Int} (h : TwoRes P L b l) {k : Nat} (hL : P → L.length ≤ k) : l.length ≤ k := by
  cases b
  · rw [h.2.1 rfl]; simp
  · rw [h.2.2 rfl]; exact hL (h.1.1 rfl)
/-- the edges of a program -/
abbrev eOf (xs : List Stp) : Nat → Nat → Bool := edg (ktOf xs)
def reachR (xs : List Stp) : List Int := castL (reachL (eOf xs) xs.length 0)
theorem reach_len (E : Nat → Nat → Bool) (n f : Nat) : (castL (reachL E n f)).length ≤ n := by
  rw [castL_len]
  have := List.length_filter_le (rb E f) (List.range n)
  rw [List.length_range] at this
  exact this
theorem good_pos {xs : List Stp} (h : Good xs) : 0 < xs.length := h.1.1
theorem good_20 {xs : List Stp} {n : Nat} (h : Good xs) (hx : xs.length = n) : 0 < n ∧ n ≤ 20 := by have := h.1; omega
/-- the boxes that stepsFrom lays -/
theorem two_boxes (w : World) (v : Value) (t : TypeId) (u : Value) (t2 : TypeId) : Blk ((w.alloc (.cells #[v] t)).alloc (.cells #[u] t2)) w.heap.size t [v] ∧ Blk ((w.alloc (.cells #[v] t)).alloc (.cells #[u] t2)) (w.heap.size + 1) t2 [u] := by
  refine ⟨Blk.below (heap_alloc_new w (.cells [v].toArray t)) (below1 _ _), ?_⟩
  have e := heap_alloc_new (w.alloc (.cells #[v] t)) (.cells [u].toArray t2)
  rw [World.size_alloc] at e
  exact e
set_option maxRecDepth 100000 in
set_option maxHeartbeats 4000000 in
theorem implReached_any (A : Option Addr) (n cap : Nat) (xs : List Stp) (w : World) (b : Bool) (l : List Int) (hr : Hid (TwoRes (Good xs) (reachR xs) b l)) (hl : Hid (Lies w A xs)) (hx : Hid (xs.length = n)) (hn : n ≤ 1048576) :
    Calls Tryd.prog 8 #[.slice A n cap] w (GaveTwo w l b) := by
  obtain ⟨g, hg⟩ := good_bool xs
  have HG := Lib.hid hg
  clear hg
  go_enter Tryd.func8, Tryd.ntmps8
  go_wp2_with fail
  refine (flowOf_any _ _ _ xs _ g HG hl hx hn).mono ?_
  rintro e w1 ⟨h1, h2⟩
  cases g
  · obtain ⟨rfl, hb1⟩ := h2 rfl
    have B1 := Lib.hid hb1
    clear hb1 h1 h2
    obtain ⟨rfl, rfl⟩ := hr.out.no (fun h => absurd (HG.out.2 h) (by simp))
    go_wp2
    go_ret2
    exact two_nil w _ B1.out
  · obtain ⟨A1, c1, rfl, hl1, hb1⟩ := h1 rfl
    have B1 := Lib.hid hb1
    have L1 := Lib.hid hl1
    have GX := Lib.hid (HG.out.1 rfl)
    clear hb1 hl1 h1 h2
    obtain ⟨rfl, rfl⟩ := hr.out.yes GX.out
    obtain ⟨hn0, hn20⟩ := good_20 GX.out hx.out
    go_wp2_with fail
    refine (stepsFrom_any _ _ _ _ _).mono ?_
    rintro e w' ⟨rfl, rfl⟩
    obtain ⟨q1, q2⟩ := two_boxes w1 (.slice A1 n c1) 48 (.int .i64 (0 : Nat)) 3
    have SQ := Lib.hid (steps_seq (ktOf xs) (good_kt GX.out) n 0 c1 w1.heap.size A1 _ w1 (fun i => i < w1.heap.size + 2) (Lib.hid (by rw [ktOf_len]; exact hx.out)) hn20 hn0 L1 (Lib.hid (below2 w1 _ _)) (Lib.hid q1) (Lib.hid q2) (fun i h => by omega) (by omega) (by omega) (fun i h => by simpa using h))
    clear q1 q2
    go_wp2_with fail
    refine (collect_any _ _ _ _ _ _ SQ (enters_of Tryd.func47 (by kernel_rfl) rfl) (Lib.hid (fun i h => by simpa using h)) (by have := reach_len (edg (ktOf xs)) n 0; omega)).mono ?_
    rintro e w2 ⟨A2, c2, rfl, hown, hb2⟩
    have er : reachR xs = castL (reachL (edg (ktOf xs)) n 0) := by unfold reachR; rw [hx.out]
    rw [← er] at hown ⊢
    have O2 := Lib.hid hown
    have B2 := Lib.hid (Below.tr (Below.tr B1.out (below2 w1 _ _)) hb2)
    have hz : w.heap.size ≤ w1.heap.size := B1.out.size
    clear hown hb2 er
    go_wp2
    go_ret2
    exact ⟨A2, c2, rfl, own_base O2.out (by simp; omega), B2.out⟩
attribute [local go_sem] Oper.semAt_some

def endP (xs : List Stp) (a : Int) : Bool := decide (kkA (ktOf xs) a.toNat = 11)
def endsR (xs : List Stp) (at_ : Int) : List Int := castL (endsL (ktOf xs) at_.toNat)
theorem ends_eq (xs : List Stp) (f : Nat) : (castL (reachL (edg (ktOf xs)) xs.length f)).filter (endP xs) = endsR xs f := by
  rw [castL_filter]
  unfold endsR endsL endP
  rw [Int.toNat_natCast, ktOf_len]
  simp only [Int.toNat_natCast]
theorem endP_at {xs : List Stp} {a : Nat} {x : Stp} (h : xs[a]? = some x) : endP xs a = (x.k == 11) := by
  unfold endP kkA
  rw [Int.toNat_natCast, ktOf_at h]
  simp only
  by_cases e : x.k = 11
  · simp [e]
  · simp [e]
theorem three_boxes (w : World) (v0 : Value) (t0 : TypeId) (v1 : Value) (t1 : TypeId) (v2 : Value) (t2 : TypeId) {V : World} (h : ((w.alloc (.cells #[v0] t0)).alloc (.cells #[v1] t1)).alloc (.cells #[v2] t2) = V) :
    Blk V w.heap.size t0 [v0] ∧ Blk V (w.heap.size + 1) t1 [v1] ∧ Blk V (w.heap.size + 1 + 1) t2 [v2] ∧ V.heap.size = w.heap.size + 3 ∧ Below w.heap.size w V := by
  subst h
  obtain ⟨q1, q2⟩ := two_boxes w v0 t0 v1 t1
  have e := heap_alloc_new ((w.alloc (.cells #[v0] t0)).alloc (.cells #[v1] t1)) (.cells [v2].toArray t2)
  rw [World.size_alloc, World.size_alloc] at e
  exact ⟨q1.below (below1 _ _), q2.below (below1 _ _), e, by simp, below3 _ _ _ _⟩
/-- where a program and an index are asked for -/
abbrev There (xs : List Stp) (n : Nat) (at_ : Int) : Prop := Good xs ∧ 0 ≤ at_ ∧ at_ < n

theorem nx_once {k t a b : Int} (h : k = 9 ∨ k = 10 → t ≠ 0) : (nxI k t a).filter (fun y => decide (y = b)) = if b ∈ nxI k t a then [b] else [] := by
  unfold nxI
  split
  · simp
  · split
    · by_cases e : a + t + 1 = b
      · simp [e]
      · have : ¬ b = a + t + 1 := fun q => e q.symm
        simp [e, this]
    · split
      · rename_i h9
        have ht := h h9
        by_cases e1 : a + 1 = b
        · have e2 : ¬ a + t + 1 = b := by omega
          simp [e1, e2]
        · by_cases e2 : a + t + 1 = b
          · simp [e1, e2]
          · have q1 : ¬ b = a + 1 := fun q => e1 q.symm
            have q2 : ¬ b = a + t + 1 := fun q => e2 q.symm
            simp [e1, e2, q1, q2]
      · by_cases e : a + 1 = b
        · simp [e]
        · have : ¬ b = a + 1 := fun q => e q.symm
          simp [e, this]
theorem ahead_one {l : KT} (g : GoodKT l) {a at_ : Nat} {x : Int × Int} (hx : l[a]? = some x) : ((arcA l a).filter (fun p => decide (p.2 = (at_ : Int)))).map Prod.fst = if edg l a at_ then [(a : Int)] else [] := by
  have hz : x.1 = 9 ∨ x.1 = 10 → x.2 ≠ 0 := fun h => (g a x hx).1.2.2 (.inr h)
  rw [arcA_at hx, List.filter_map, List.map_map]
  have e : (nxI x.1 x.2 a).filter ((fun p : Int × Int => decide (p.2 = (at_ : Int))) ∘ fun y => ((a : Int), y)) = (nxI x.1 x.2 a).filter (fun y => decide (y = (at_ : Int))) := rfl
  rw [e, nx_once hz]
  have h := edg_iff hx (b := at_)
  by_cases q : (at_ : Int) ∈ nxI x.1 x.2 a
  · rw [if_pos q, if_pos (h.2 q)]; rfl
  · rw [if_neg q, if_neg (fun r => q (h.1 r))]; rfl
theorem ahead_of {l : KT} (g : GoodKT l) (at_ : Nat) : ∀ (t : List Nat), (∀ a ∈ t, a < l.length) → ((arcsOf l (castL t)).filter (fun p => decide (p.2 = (at_ : Int)))).map Prod.fst = castL (t.filter (fun a => edg l a at_))
  | [], _ => rfl
  | a :: t, h => by
    have ha := h a (by simp)
    have ih := ahead_of g at_ t (fun b hb => h b (by simp [hb]))
    unfold arcsOf at ih ⊢
    have ec : castL (a :: t) = (a : Int) :: castL t := rfl
    rw [ec, List.flatMap_cons, List.filter_append, List.map_append, ih, ahead_one g (List.getElem?_eq_getElem ha), List.filter_cons]
    by_cases q : edg l a at_ = true
    · rw [if_pos q, if_pos q]; rfl
    · rw [if_neg q, if_neg q]; rfl
theorem ahead_eq {l : KT} (g : GoodKT l) (at_ : Nat) : ((arcsI l).filter (fun p => decide (p.2 = (at_ : Int)))).map Prod.fst = castL (aheadL (edg l) l.length at_) :=
  ahead_of g at_ _ (fun _ ha => (mem_reach.1 ha).1)
/-- the numbers of ways, when these arcs have been taken -/
def wayF : List (Int × Int) → Nat → Nat
  | t => t.foldl (fun f p j => if j = p.2.toNat then f j + f p.1.toNat else f j) (fun j => if j = 0 then 1 else 0)
theorem wayF_snoc (t : List (Int × Int)) (p : Int × Int) (j : Nat) : wayF (t ++ [p]) j = if j = p.2.toNat then wayF t j + wayF t p.1.toNat else wayF t j := by unfold wayF; rw [List.foldl_append]; rfl
theorem wayF_le1 (t : List (Int × Int)) (p : Int × Int) (j : Nat) : wayF t j ≤ wayF (t ++ [p]) j := by
  rw [wayF_snoc]
  split <;> omega
theorem wayF_le (j : Nat) : ∀ (r t : List (Int × Int)), wayF t j ≤ wayF (t ++ r) j
  | [], t => by simp
  | p :: r, t => by
    have h1 := wayF_le1 t p j
    have h2 := wayF_le j r (t ++ [p])
    rw [List.append_assoc] at h2
    exact Nat.le_trans h1 h2
theorem way_many (m : Nat) : ∀ (ys : List Int) (t : List (Int × Int)), (∀ y ∈ ys, (m : Int) < y) → ys.Nodup → ∀ j : Nat, wayF (t ++ ys.map (fun y => ((m : Int), y))) j = wayF t j + if (j : Int) ∈ ys then wayF t m else 0
  | [], t, _, _, j => by simp
  | y :: ys, t, h, hd, j => by
    have hy := h y (by simp)
    have hd' := List.nodup_cons.1 hd
    have ih := way_many m ys (t ++ [((m : Int), y)]) (fun z hz => h z (by simp [hz])) hd'.2 j
    rw [List.append_assoc] at ih
    have em : wayF (t ++ [((m : Int), y)]) m = wayF t m := by rw [wayF_snoc, if_neg (by simp only; omega)]
    rw [em, wayF_snoc] at ih
    simp only [Int.toNat_natCast] at ih
    rw [List.map_cons]
    rw [show t ++ ((m : Int), y) :: ys.map (fun y => ((m : Int), y)) = t ++ ([((m : Int), y)] ++ ys.map (fun y => ((m : Int), y))) from rfl, ih]
    by_cases e : (j : Int) = y
    · have e2 : j = y.toNat := by omega
      have e3 : ¬ (j : Int) ∈ ys := by rw [e]; exact hd'.1
      rw [if_pos e2, if_neg e3, if_pos (by simp [e]), Nat.add_zero]
    · have e2 : ¬ j = y.toNat := by omega
      rw [if_neg e2]
      by_cases e3 : (j : Int) ∈ ys
      · rw [if_pos e3, if_pos (by simp [e3])]
      · rw [if_neg e3, if_neg (by simp [e, e3])]
theorem nx_nodup {l : KT} (g : GoodKT l) {a : Nat} {x : Int × Int} (hx : l[a]? = some x) : (nxI x.1 x.2 a).Nodup := by
  have hz : x.1 = 9 ∨ x.1 = 10 → x.2 ≠ 0 := fun h => (g a x hx).1.2.2 (.inr h)
  unfold nxI
  split
  · simp
  · split
    · simp
    · split
      · rename_i h9
        have := hz h9
        simp; omega
      · simp
theorem nx_gt {l : KT} (g : GoodKT l) {a : Nat} {x : Int × Int} (hx : l[a]? = some x) : ∀ y ∈ nxI x.1 x.2 a, (a : Int) < y := by
  intro y hy
  obtain ⟨b, rfl, hb, _⟩ := nx_nat g hx hy
  have := edg_fwd g _ _ hb
  omega
theorem way_bef {l : KT} (g : GoodKT l) : ∀ (m : Nat), m ≤ l.length → ∀ j : Nat, wayF (arcsOf l (castL (befL (edg l) 0 m))) j = wp (edg l) m j
  | 0, _, j => by rw [wp_start]; rfl
  | m + 1, h, j => by
    have ih := way_bef g m (by omega)
    rw [wp_step]
    cases q : rb (edg l) 0 m
    · rw [bef_no q, ih j]
      have : wc (edg l) m = 0 := by
        rcases Nat.eq_zero_or_pos (wc (edg l) m) with h | h
        · exact h
        · have := (wc_pos m).1 h; rw [q] at this; cases this
      rw [this]; simp
    · have hx : l[m]? = some l[m] := List.getElem?_eq_getElem (by omega)
      rw [bef_yes q, castL_app]
      have ec : castL [m] = [(m : Int)] := rfl
      rw [ec, arcsOf_snoc, arcA_at hx, way_many m _ _ (nx_gt g hx) (nx_nodup g hx), ih j, ih m, wp_at]
      have hm := edg_iff hx (b := j)
      by_cases e : (j : Int) ∈ nxI l[m].1 l[m].2 m
      · rw [if_pos e, if_pos (hm.2 e)]
      · rw [if_neg e, if_neg (fun r => e (hm.1 r))]
theorem way_end {l : KT} (g : GoodKT l) {j : Nat} (hj : j ≤ l.length) : wayF (arcsI l) j = wc (edg l) j := by
  unfold arcsI
  rw [← bef_all, way_bef g l.length (Nat.le_refl _), wp_end (edg_fwd g) hj]
theorem way_small {l : KT} (g : GoodKT l) (h20 : l.length ≤ 20) {t r : List (Int × Int)} (h : arcsI l = t ++ r) {j : Nat} (hj : j < l.length) : wayF t j ≤ 1048576 := by
  have h1 := wayF_le j r t
  rw [← h, way_end g (by omega)] at h1
  have h2 := wc_le (E := edg l) j
  have h3 : 2 ^ j ≤ 2 ^ 20 := Nat.pow_le_pow_right (by omega) (by omega)
  have : (2 : Nat) ^ 20 = 1048576 := by decide
  omega
theorem arcs_mem {l : KT} (g : GoodKT l) {t r : List (Int × Int)} {p : Int × Int} (h : arcsI l = t ++ p :: r) : ∃ a b : Nat, p = ((a : Int), (b : Int)) ∧ a < b ∧ b < l.length ∧ edg l a b = true ∧ rb (edg l) 0 a = true := by
  have hm : p ∈ arcsI l := by rw [h]; simp
  unfold arcsI arcsOf at hm
  obtain ⟨x, hx, hp⟩ := List.mem_flatMap.1 hm
  obtain ⟨a, ha, rfl⟩ := castL_mem.1 hx
  obtain ⟨han, har⟩ := mem_reach.1 ha
  have hl : l[a]? = some l[a] := List.getElem?_eq_getElem han
  rw [arcA_at hl] at hp
  obtain ⟨y, hy, rfl⟩ := List.mem_map.1 hp
  obtain ⟨b, rfl, hb, hbn⟩ := nx_nat g hl hy
  exact ⟨a, b, rfl, edg_fwd g _ _ hb, hbn, hb, har⟩
/-- the leaders' loop: what is marked, and the leaders so far -/
def ldF (l : KT) (t : List Int) : (Nat → Bool) × List Int :=
  t.foldl (fun st a => (fun j => st.1 j || (decide (ttA l a.toNat ≠ 0) && (decide ((j : Int) = a + 1) || decide ((j : Int) = a + ttA l a.toNat + 1))), if st.1 a.toNat then st.2 ++ [a] else st.2)) (fun j => decide (j = 0), [])
theorem ldF_snoc (l : KT) (t : List Int) (a : Int) : ldF l (t ++ [a]) = (fun j => (ldF l t).1 j || (decide (ttA l a.toNat ≠ 0) && (decide ((j : Int) = a + 1) || decide ((j : Int) = a + ttA l a.toNat + 1))), if (ldF l t).1 a.toNat then (ldF l t).2 ++ [a] else (ldF l t).2) := by
  unfold ldF; rw [List.foldl_append]; rfl
theorem ld_len (l : KT) (t : List Int) : (ldF l t).2.length ≤ t.length := by
  have : ∀ (t : List Int) (st : (Nat → Bool) × List Int), (t.foldl (fun (st : (Nat → Bool) × List Int) a => (fun j => st.1 j || (decide (ttA l a.toNat ≠ 0) && (decide ((j : Int) = a + 1) || decide ((j : Int) = a + ttA l a.toNat + 1))), if st.1 a.toNat then st.2 ++ [a] else st.2)) st).2.length ≤ st.2.length + t.length := by
    intro t
    induction t with
    | nil => intro st; simp
    | cons a t ih =>
      intro st
      rw [List.foldl_cons]
      refine Nat.le_trans (ih _) ?_
      simp only [List.length_cons]
      split
      · simp; omega
      · omega
  have h := this t (fun j => decide (j = 0), [])
  simpa [ldF] using h
theorem ld_marks (l : KT) (t : List Int) (j : Nat) : (ldF l t).1 j = true ↔ j = 0 ∨ ∃ a ∈ t, ttA l a.toNat ≠ 0 ∧ ((j : Int) = a + 1 ∨ (j : Int) = a + ttA l a.toNat + 1) := by
  have : ∀ (t : List Int) (st : (Nat → Bool) × List Int), (t.foldl (fun (st : (Nat → Bool) × List Int) a => (fun j => st.1 j || (decide (ttA l a.toNat ≠ 0) && (decide ((j : Int) = a + 1) || decide ((j : Int) = a + ttA l a.toNat + 1))), if st.1 a.toNat then st.2 ++ [a] else st.2)) st).1 j = true ↔ st.1 j = true ∨ ∃ a ∈ t, ttA l a.toNat ≠ 0 ∧ ((j : Int) = a + 1 ∨ (j : Int) = a + ttA l a.toNat + 1) := by
    intro t
    induction t with
    | nil => intro st; simp
    | cons a t ih =>
      intro st
      rw [List.foldl_cons, ih]
      simp only [Bool.or_eq_true, Bool.and_eq_true, decide_eq_true_eq, List.mem_cons]
      constructor
      · rintro ((h | h) | ⟨b, hb, h⟩)
        · exact .inl h
        · exact .inr ⟨a, .inl rfl, h⟩
        · exact .inr ⟨b, .inr hb, h⟩
      · rintro (h | ⟨b, rfl | hb, h⟩)
        · exact .inl (.inl h)
        · exact .inl (.inr h)
        · exact .inr ⟨b, hb, h⟩
  rw [show (ldF l t).1 j = (t.foldl _ ((fun j => decide (j = 0)), ([] : List Int))).1 j from rfl, this]
  simp
theorem lead_reached {l : KT} (g : GoodKT l) {m : Nat} (h : m ∈ leadL l) : rb (edg l) 0 m = true := by
  obtain ⟨_, h1 | ⟨k, hk, h1, h2 | h2⟩⟩ := mem_lead.1 h
  · subst h1; exact rb_self _ _
  · obtain ⟨b, hb, _, he⟩ := jump_to g h1
    have : m = b := by omega
    subst this
    exact rb_step (edg_fwd g _ _ he) (mem_reach.1 hk).2 he
  · exact h2.2
theorem ld_bef {l : KT} (g : GoodKT l) : ∀ (m : Nat), m ≤ l.length → (ldF l (castL (befL (edg l) 0 m))).2 = castL ((List.range m).filter (fun i => decide (i ∈ leadL l)))
  | 0, _ => rfl
  | m + 1, h => by
    have ih := ld_bef g m (by omega)
    rw [List.range_succ, List.filter_append]
    cases q : rb (edg l) 0 m
    · have hn : ¬ m ∈ leadL l := fun r => by rw [lead_reached g r] at q; cases q
      rw [bef_no q, ih]
      simp [hn]
    · rw [bef_yes q, castL_app]
      have ec : castL [m] = [(m : Int)] := rfl
      rw [ec, ldF_snoc, Int.toNat_natCast, ih]
      have hm := ld_marks l (castL (befL (edg l) 0 m)) m
      have hiff : (ldF l (castL (befL (edg l) 0 m))).1 m = true ↔ m ∈ leadL l := by
        rw [hm]
        unfold leadL
        rw [mem_lead]
        constructor
        · rintro (h0 | ⟨a, ha, h1, h2⟩)
          · exact ⟨by omega, .inl h0⟩
          · obtain ⟨k, hk, rfl⟩ := castL_mem.1 ha
            rw [Int.toNat_natCast] at h1 h2
            have hk2 : k ∈ reachL (edg l) l.length 0 := by unfold befL at hk; rw [List.mem_filter, List.mem_range] at hk; exact mem_reach.2 ⟨by omega, hk.2⟩
            refine ⟨by omega, .inr ⟨k, hk2, h1, ?_⟩⟩
            rcases h2 with h2 | h2
            · exact .inr ⟨by omega, q⟩
            · exact .inl h2
        · rintro ⟨_, h0 | ⟨k, hk, h1, h2⟩⟩
          · exact .inl h0
          · refine .inr ⟨(k : Int), castL_mem'.2 ?_, by rw [Int.toNat_natCast]; exact h1, ?_⟩
            · obtain ⟨b, hb, _, he⟩ := jump_to g h1
              have := edg_fwd g _ _ he
              unfold befL
              rw [List.mem_filter, List.mem_range]
              exact ⟨by omega, (mem_reach.1 hk).2⟩
            · rw [Int.toNat_natCast]
              rcases h2 with h2 | h2
              · exact .inr h2
              · exact .inl (by omega)
      by_cases e : m ∈ leadL l
      · rw [if_pos (hiff.2 e), castL_app]
        simp [e, castL]
      · rw [if_neg (fun r => e (hiff.1 r)), castL_app]
        simp [e, castL]
theorem ld_end {l : KT} (g : GoodKT l) : (ldF l (castL (reachL (edg l) l.length 0))).2 = castL (leadL l) := by
  rw [← bef_all, ld_bef g _ (Nat.le_refl _)]
  congr 1
  unfold leadL leadQ
  apply castL_ext
  intro i
  simp only [List.mem_filter, List.mem_range, decide_eq_true_eq]
  constructor
  · rintro ⟨_, h⟩; exact h
  · rintro h; exact ⟨h.1, h⟩
attribute [local go_sem] Oper.semAt_some

def aheadR (xs : List Stp) (at_ : Int) : List Int := castL (aheadL (edg (ktOf xs)) xs.length at_.toNat)
theorem ahead_len (E : Nat → Nat → Bool) (n i : Nat) : (castL (aheadL E n i)).length ≤ n := by
  rw [castL_len]
  have h1 : (aheadL E n i).length ≤ (reachL E n 0).length := List.length_filter_le _ _
  have h2 := reach_len E n 0
  rw [castL_len] at h2
  omega
theorem ahead_fin {xs : List Stp} (h : Good xs) (f : Nat) : ((arcsI (ktOf xs)).filter (fun p => decide (p.2 = (f : Int)))).map Prod.fst = aheadR xs f := by
  rw [ahead_eq (good_kt h), ktOf_len]; rfl
theorem arcsOf_len {l : KT} : ∀ (t : List Int), (arcsOf l t).length ≤ 2 * t.length
  | [] => by simp [arcsOf]
  | a :: t => by
    have ih := arcsOf_len (l := l) t
    unfold arcsOf at ih ⊢
    rw [List.flatMap_cons, List.length_append, List.length_cons]
    have : (arcA l a).length ≤ 2 := by
      unfold arcA
      split
      · rw [List.length_map]; exact nexts_len _ _ _
      · simp
    omega
theorem arcs_len {l : KT} {t r : List (Int × Int)} {n : Nat} (hn : l.length = n) (h : arcsI l = t ++ r) : t.length ≤ 2 * n := by
  have h1 := congrArg List.length h
  have h2 := arcsOf_len (l := l) (castL (reachL (edg l) l.length 0))
  have h3 := reach_len (edg l) l.length 0
  unfold arcsI at h1
  rw [List.length_append] at h1
  omega
set_option maxRecDepth 100000 in
set_option maxHeartbeats 4000000 in
theorem implAhead_any (A : Option Addr) (n cap : Nat) (at_ : Int) (xs : List Stp) (w : World) (b : Bool) (l : List Int) (hr : Hid (TwoRes (There xs n at_) (aheadR xs at_) b l)) (hl : Hid (Lies w A xs)) (hx : Hid (xs.length = n)) (hn : n ≤ 1048576) :
    Calls Tryd.prog 15 #[.slice A n cap, .int .i64 at_] w (GaveTwo w l b) := by
  obtain ⟨i0, hi0, hz0, hz1, hz2⟩ := info_parts info_int
  refine (callsIn_wide (n := 0)).1 ?_
  refine callsIn_of_wp_marks Tryd.func15 rfl trivial ?_ rfl
  simp only [Tryd.ntmps15, List.size_toArray, List.length_cons, List.length_nil, Nat.reduceAdd, Nat.reduceSub, Array.replicate_succ, Array.replicate_zero, List.push_toArray, List.append_toArray, List.nil_append, List.cons_append]
  gi_wp2_with fail
  refine ⟨trivial, rfl, ?_⟩
  refine (callsIn_wide.2 (flowAround_any _ _ _ _ xs _ b (Lib.hid hr.out.1) (Lib.hid (hl.out.below (below1 _ _))) hx hn)).mono ?_
  rintro e w1 ⟨h1, h2⟩
  have P1 : Hid (Blk (w.alloc (.cells #[.int .i64 at_] 3)) w.heap.size 3 [.int .i64 at_]) := Lib.hid (heap_alloc_new w _)
  cases b
  · obtain ⟨rfl, hb1⟩ := h2 rfl
    have B1 := Lib.hid (Below.tr (below1 _ _) hb1)
    clear hb1 h1 h2 P1
    obtain rfl := hr.out.2.1 rfl
    gi_wp2
    exact ⟨_, results_tmp2 rfl _ _ _, none, 0, rfl, World.ownsRow_nil _ _ _ _, B1.out⟩
  · obtain ⟨A1, c1, rfl, hl1, hb1⟩ := h1 rfl
    have B1 := Lib.hid (Below.tr (below1 _ _) hb1)
    have P2 := Lib.hid (P1.out.below hb1)
    have L1 := Lib.hid hl1
    obtain ⟨GX, g0, g1⟩ := hr.out.1.1 rfl
    obtain ⟨f, rfl⟩ := Int.eq_ofNat_of_zero_le g0
    have hfn : f < n := by omega
    have HGX := Lib.hid GX
    have hle := hr.out.2.2 rfl
    subst hle
    obtain ⟨hn0, hn20⟩ := good_20 HGX.out hx.out
    clear hb1 hl1 h1 h2 P1 GX
    have hwz : w.heap.size < w1.heap.size := P2.out.lt
    gi_wp2_with fail
    refine ⟨trivial, rfl, ?_⟩
    refine (callsIn_wide.2 (arcs_any _ _ _ _)).mono ?_
    rintro e w' ⟨rfl, rfl⟩
    gi_wp2_with fail
    obtain ⟨V, hV⟩ : ∃ V, (w1.alloc (.cells #[.slice none 0 0] 24)).alloc (.cells #[.slice A1 n c1] 48) = V := ⟨_, rfl⟩
    obtain ⟨x0, x1⟩ := two_boxes w1 (.slice none 0 0) 24 (.slice A1 n c1) 48
    have sz : V.heap.size = w1.heap.size + 2 := by rw [← hV]; simp
    have BV : Below w1.heap.size w1 V := by rw [← hV]; exact below2 _ _ _
    rw [hV] at x0 x1 ⊢
    clear hV
    have X1 := Lib.hid x1
    have hT : ∀ i, (i < w1.heap.size ∨ i = w1.heap.size + 1) → i < V.heap.size := fun i h => by omega
    have HKL : Hid ((ktOf xs).length = n) := Lib.hid (by rw [ktOf_len]; exact hx.out)
    refine rangeR (n := 0) (gf := 51) (lb := #[.pointer (some ⟨w1.heap.size + 1, 0, none⟩)]) rfl (enters_of Tryd.func51 (by kernel_rfl) rfl)
      (arcs_seq (ktOf xs) (good_kt HGX.out) n c1 (w1.heap.size + 1) A1 V w1 _ HKL hn20 hn0 L1 (Lib.hid BV) X1 (fun i h => .inl h) (.inr rfl) hT)
      (fun _ => rfl) hT
      (fun pre W => CB W w1.heap.size (V.heap.size + (2 + 6)) ((pre.filter (fun p => decide (p.2 = (f : Int)))).map Prod.fst) ∧ Below w1.heap.size w1 W) ?_ ?_
      (fun x => { tmps := #[.slice A n cap, .int .i64 f, undef, .pointer (some ⟨w.heap.size, 0, none⟩), .slice none 0 0, .bool false, .slice A1 n c1, .bool true, .pointer (some ⟨w1.heap.size, 0, none⟩), .int .i64 x.1, .int .i64 x.2, .tuple #[.slice A1 n c1, .bool true], .slice A n cap, .int .i64 f, .tuple #[.slice A1 n c1, .bool true], .slice A1 n c1, .bool true, .bool true, .bool false, .slice A1 n c1, .func (.func 51) #[] #[.pointer (some ⟨w1.heap.size + 1, 0, none⟩)], .int .i64 x.1, .int .i64 x.2, undef, undef, undef, undef, undef, undef, undef, undef], defers := [] })
      ?assign ?body ?done
    · rintro s X Y ⟨q1, q2⟩ hk
      exact ⟨q1.kept hk (fun q => by unfold Prv at q; omega) (fun g q => by unfold Prv at q; omega), hk.below q2 q2.size (fun i q => by unfold Prv at q; omega)⟩
    · exact ⟨⟨none, 0, x0, World.ownsRow_nil _ _ _ _⟩, BV⟩
    case assign =>
      intro l m x W K hK
      gi_wp2
      exact hK
    case body =>
      rintro l2 m2 pre p rest W hxs ⟨⟨A2, c2, q1, q2⟩, q3⟩ hsz
      obtain ⟨a, d, rfl, -, -, -, -⟩ := arcs_mem (good_kt HGX.out) hxs
      have Q1 := Lib.hid q1
      have Q2 := Lib.hid q2
      have Q3 := Lib.hid q3
      have hpl := arcs_len HKL.out hxs
      have hfl : ((pre.filter (fun p => decide (p.2 = (f : Int)))).map Prod.fst).length ≤ 40 := by rw [List.length_map]; have := List.length_filter_le (fun p : Int × Int => decide (p.2 = (f : Int))) pre; omega
      clear hxs q1 q2 q3
      have PB := Lib.hid (P2.out.below Q3.out)
      have c0 := PB.out.cell 0
      have c3 := Q1.out.cell 0
      simp only [List.getElem?_cons_zero] at c0 c3
      have hlt3 := Q1.out.lt
      obtain ⟨fl, hfle⟩ : ∃ fl, (pre.filter (fun p => decide (p.2 = (f : Int)))).map Prod.fst = fl := ⟨_, rfl⟩
      have FL := Lib.hid hfle
      rw [hfle] at Q1 Q2 c3 hfl
      clear hfle
      by_cases hk : d = f
      · subst hk
        gi_wp2_with (gi_at_builtin; refine wpListIn_append_own _ rfl _ _ 24 rfl (V.heap.size + (2 + 6)) 3 i0 (.int .i64 0) 1 8 Tryd.underlying24 hi0 hz0 hz1 hz2 rfl (by decide) _ _ _ rfl (own_below Q2.out (below1 _ _)) ⟨(W).heap.size, 0, none⟩ 1 1 [.int .i64 (a)] rfl rfl (one_newT _ _ _) (by simp [Value.oneCell']) (by unfold maxLen; omega) (by omega) (by simp; omega) ?_; intro v3 w3 hown3 hg3 _; obtain ⟨g3, cap3, rfl⟩ := ownsRow_succ hown3; obtain ⟨hb3, hcb, hkp⟩ := CB.app (by omega) Q1.out Q2.out hown3 hg3; have hc3 := hb3.cell 0; have hf3 := hb3.frozen 0; simp only [List.getElem?_cons_zero] at hc3; have CBX := Lib.hid hcb; have KPX := Lib.hid hkp; clear hcb hkp hown3 hg3)
        rw [List.filter_append, List.map_append, FL.out]
        have : ([((a : Int), (d : Int))].filter (fun p => decide (p.2 = (d : Int)))).map Prod.fst = [(a : Int)] := by simp
        rw [this]
        refine ⟨KPX.out.mono (fun i q => ⟨fun t => ?_, fun p => ?_⟩), CBX.out, KPX.out.below Q3.out Q3.out.size (fun i q => by omega)⟩
        · rcases t with t | t <;> omega
        · unfold Prv at p; omega
      · have hk' : ((d : Int) == (f : Int)) = false := by simp; omega
        gi_wp2
        rw [List.filter_append, List.map_append, FL.out]
        have : ([((a : Int), (d : Int))].filter (fun p => decide (p.2 = (f : Int)))).map Prod.fst = [] := by simp; omega
        rw [this, List.append_nil]
        exact ⟨Kept.refl _ _, ⟨A2, c2, Q1.out, Q2.out⟩, Q3.out⟩
    case done =>
      rintro D W rfl ⟨⟨A2, c2, q1, q2⟩, q3⟩ hK
      rw [ahead_fin HGX.out] at q1 q2
      have hc := q1.cell 0
      simp only [List.getElem?_cons_zero] at hc
      gi_wp2
      refine ⟨by simp, .inl ⟨_, _, rfl, run_takeDeferred hK, ?_⟩⟩
      have hz1 := B1.out.size
      exact ⟨_, results_tmp2 rfl _ _ _, A2, c2, rfl, own_base (ownsRow_putObj q2 _ hK rfl) (by omega), (Kept.put W _ _).below (Below.tr B1.out q3) (by have := q3.size; omega) (fun i q => by omega)⟩

def noDefer : Op → Bool
  | .defer _ => false
  | _ => true
variable {P : Program} {ops : Array Oper} {Q : Exit → Act → World → Prop} {l n : Nat}
theorem op_round {i : Nat} (hQ : ¬ LetsOut Q) (hd : ops.all (fun o => noDefer o.op) = true) {K : Act → World → Prop} {a : Act} {w : World} (h : wpOp P ops Q i K a w) : wpOpIn (Fence.wide.inRound l) n P ops Q i K a w := by
  have hno : ¬ ((Fence.wide.inRound l).depth.isSome = true) := by simp [Fence.inRound, Fence.wide]
  unfold wpOp at h
  unfold wpOpIn
  cases ho : ops[i]? with
  | none => rw [ho] at h; exact h
  | some o =>
    rw [ho] at h
    simp only at h ⊢
    by_cases hw : Region.wanted o (yielded ops a.tmps) = true
    · simp only [hw, if_true] at h ⊢
      rcases h with h | h
      · have hdo : noDefer o.op = true := by
          obtain ⟨hi, he⟩ := Array.getElem?_eq_some_iff.1 ho
          rw [← he]
          exact Array.all_eq_true.1 hd i hi
        refine ⟨fun _ _ => trivial, ?_⟩
        rw [Oper.semAt_plain (Fence.wide.inRound l) _ o (fun c e => by rw [e] at hdo; cases hdo)]
        unfold Oper.wp at h
        generalize (execOp a.eval o).run P w = r at *
        cases r with
        | ok x w' =>
          cases x <;> simp only [Oper.upon, Oper.uponIn] at h ⊢ <;>
            first
              | exact h
              | exact ⟨fun q => absurd q hno, callsIn_wide.2 (Calls.mono h fun e w'' he => by cases e <;> exact he)⟩
              | exact ⟨fun q => absurd q hno, fun c cs _ => let ⟨v, w', r, s⟩ := h c cs; ⟨v, w', r, stepsIn_wide.2 s⟩⟩
        | halt x w' => cases x <;> simp only [Oper.upon, Oper.uponIn] at h ⊢ <;> exact h
      · exact absurd h.2 hQ
    · have hw' : Region.wanted o (yielded ops a.tmps) = false := by simpa using hw
      simp only [hw'] at h ⊢
      exact ⟨fun _ _ => trivial, h⟩
theorem any_round {md : Region.Mode} (hQ : ¬ LetsOut Q) (hd : ops.all (fun o => noDefer o.op) = true) : ∀ (fuel : Nat) (listed : Array Bool) (a : Act) (w : World), wpAny P md ops Q fuel listed a w → wpAnyIn (Fence.wide.inRound l) n P md ops Q fuel listed a w
  | 0, _, _, _, h => h
  | fuel + 1, _, _, _, h => ⟨h.1, fun i hi => wpOpIn_mono (fun a' w' h' => any_round hQ hd fuel _ a' w' h') (op_round hQ hd (h.2 i hi))⟩
theorem held_round {S : World → Prop} {id : Nat} {a : Act} {w : World} (hQ : ¬ LetsOut Q) (hd : ops.all (fun o => noDefer o.op) = true) (hm : P.follows .mixedOrders = true) (hS : S w.drew)
    (h : S w.drew → wpAnyH P .any ops Q S ops.size (Array.replicate ops.size false) a w.drew) : (Code.region id ops true).wpIn (Fence.wide.inRound l) n P Q a w :=
  wpIn_region_any hm (any_round hQ hd _ _ _ _ (wpAny_of_held _ _ _ _ (h hS)))
/-- the operations of the head read alone; a chain stands behind them -/
theorem still_round {id : Nat} {a : Act} {w : World} {L : List Oper} (k : Nat) (hQ : ¬ LetsOut Q) (hd : L.toArray.all (fun o => noDefer o.op) = true) (hm : P.follows .mixedOrders = true) (hB : Region.lexTailB .any L.toArray k = true)
    (h : wpStill P L.toArray { w with drawn := w.drawn + 1 } (fun a' => wpList P L.toArray Q (L.drop k) a' { w with drawn := w.drawn + 1 }) (L.take k) a) : (Code.region id L.toArray true).wpIn (Fence.wide.inRound l) n P Q a w := by
  refine wpIn_region_any hm (any_round hQ hd _ _ _ _ ?_)
  unfold Region.lexTailB at hB
  simp only [Bool.and_eq_true, decide_eq_true_eq] at hB
  obtain ⟨⟨⟨⟨b1, b2⟩, b3⟩, b4⟩, b5⟩ := hB
  have b2' : k < L.length := by simpa using b2
  have e1 : (L.take k).length = k := by rw [List.length_take]; omega
  have e2 : (L.drop k).length = L.toArray.size - k := by simp
  have inv : HeadInv .any L.toArray k (Array.replicate L.toArray.size false) :=
    ⟨by simp, fun j oj _ q => (by rw [getD_replicate_false] at q; cases q), fun t _ ht => getD_in (by simpa using ht) (getD_replicate_false _ _)⟩
  have H := wpAnyL_lex (md := .any) (g := L.toArray.size - k) b1 b3 b4 b2 (L.take k) 0 _ a
    (fun j hj => by rw [e1] at hj; simp [hj]) (by simpa using e1) inv (by rw [e1]; exact b5) h
  have F := wpAny_of_head (Q' := Q) (g := L.toArray.size - k) (fun listed a' q => by
    have := wpAny_of_seq (md := .any) (Q' := Q) (L.drop k) k listed a' { w with drawn := w.drawn + 1 } (fun j => by simp [List.getElem?_drop]) (by rw [e2]; exact q.1) q.2
    rwa [e2] at this) _ _ _ H
  rw [e1, show k + (L.toArray.size - k) = L.toArray.size by omega] at F
  exact F
attribute [local go_sem] Oper.semAt_some

/-- a number and true where P holds; 0 and false elsewhere -/
def OneRes (P : Prop) (c0 : Int) (b : Bool) (c : Int) : Prop := (b = true ↔ P) ∧ (b = false → c = 0) ∧ (b = true → c = c0)
theorem one_res (P : Prop) (c0 : Int) : ∃ b c, OneRes P c0 b c := by
  rcases Classical.em P with h | h
  · exact ⟨true, c0, ⟨fun _ => h, fun _ => rfl⟩, (fun e => by cases e), fun _ => rfl⟩
  · exact ⟨false, 0, ⟨(fun e => by cases e), fun e => absurd e h⟩, fun _ => rfl, (fun e => by cases e)⟩
def GaveOne (w : World) (c : Int) (b : Bool) (e : Ending) (w' : World) : Prop := e = .returned (.tuple #[.int .i64 c, .bool b]) ∧ Below w.heap.size w w'
def wayR (xs : List Stp) (at_ : Int) : Int := (wc (edg (ktOf xs)) at_.toNat : Nat)
def wayV (n : Nat) (t : List (Int × Int)) : List Value := numsV n (fun j => ((wayF t j : Nat) : Int))
theorem way_zero (n : Nat) : ((madeCells #[Value.int .i64 0] n).setIfInBounds 0 (Value.int .i64 1)) = (wayV n []).toArray := by
  rw [made_rep, numsV_const, List.setIfInBounds_toArray, numsV_set]
  unfold wayV
  refine congrArg List.toArray (numsV_ext (fun j _ => ?_))
  unfold wayF
  by_cases e : j = 0 <;> simp [e]
theorem row_boxes (w : World) (cs : List Value) (t0 : TypeId) (v1 : Value) (t1 : TypeId) (v2 : Value) (t2 : TypeId) {V : World} (h : ((w.alloc (.cells cs.toArray t0)).alloc (.cells #[v1] t1)).alloc (.cells #[v2] t2) = V) :
    Blk V w.heap.size t0 cs ∧ Blk V (w.heap.size + 1) t1 [v1] ∧ Blk V (w.heap.size + 1 + 1) t2 [v2] ∧ V.heap.size = w.heap.size + 3 ∧ Below w.heap.size w V := by
  subst h
  have q1 : Blk ((w.alloc (.cells cs.toArray t0)).alloc (.cells #[v1] t1)) w.heap.size t0 cs := Blk.below (heap_alloc_new w (.cells cs.toArray t0)) (below1 _ _)
  have q2 := heap_alloc_new (w.alloc (.cells cs.toArray t0)) (.cells [v1].toArray t1)
  rw [World.size_alloc] at q2
  have e := heap_alloc_new ((w.alloc (.cells cs.toArray t0)).alloc (.cells #[v1] t1)) (.cells [v2].toArray t2)
  rw [World.size_alloc, World.size_alloc] at e
  exact ⟨q1.below (below1 _ _), Blk.below q2 (below1 _ _), e, by simp, below3 _ _ _ _⟩
attribute [local go_sem] Oper.semAt_some

def leadR (xs : List Stp) : List Int := castL (leadL (ktOf xs))
theorem lead_len (l : KT) : (castL (leadL l)).length ≤ l.length := by
  rw [castL_len]
  unfold leadL leadQ
  have := List.length_filter_le (fun i : Nat => decide (i = 0) || (reachL (edg l) l.length 0).any (fun k => decide (ttA l k ≠ 0) && (decide ((i : Int) = (k : Int) + ttA l k + 1) || (decide (i = k + 1) && rb (edg l) 0 i)))) (List.range l.length)
  rw [List.length_range] at this
  exact this
def jmpB (k : Int) : Bool := k == 8 || k == 9 || k == 10
theorem lead_row (l : KT) (n : Nat) : ((madeCells #[Value.bool false] n).setIfInBounds 0 (Value.bool true)) = (bitsV n (ldF l []).1).toArray := by
  rw [made_rep, bitsV_zero, List.setIfInBounds_toArray, bitsV_set]
  refine congrArg List.toArray (bitsV_ext (fun j _ => ?_))
  simp [ldF]
theorem ttA_at {xs : List Stp} {a : Nat} {x : Stp} (h : xs[a]? = some x) : ttA (ktOf xs) a = x.t := by unfold ttA; rw [ktOf_at h]
theorem jmp_iff (k : Int) : jmpB k = true ↔ k = 8 ∨ k = 9 ∨ k = 10 := by unfold jmpB; simp [or_assoc]
theorem jmp_no {xs : List Stp} (g : Good xs) {a : Nat} {x : Stp} (h : xs[a]? = some x) : (jmpB x.k = false → x.t = 0) ∧ 0 ≤ x.t := by
  have q := (good_kt g a _ (ktOf_at h)).1
  simp only at q
  refine ⟨fun hj => ?_, q.1⟩
  rcases Int.lt_trichotomy x.t 0 with r | r | r
  · omega
  · exact r
  · have := (jmp_iff x.k).2 (q.2.1 (by omega)); rw [hj] at this; cases this
theorem jmp_yes {xs : List Stp} (g : Good xs) {a : Nat} {x : Stp} (h : xs[a]? = some x) (hj : jmpB x.k = true) : ∃ t : Nat, x.t = (t : Int) ∧ 1 ≤ t ∧ a + t + 1 < xs.length := by
  have q := (good_kt g a _ (ktOf_at h)).1
  simp only at q
  obtain ⟨t, ht⟩ := Int.eq_ofNat_of_zero_le q.1
  have hk := (jmp_iff x.k).1 hj
  have hne := q.2.2 hk
  refine ⟨t, ht, by omega, ?_⟩
  have hne' : ttA (ktOf xs) a ≠ 0 := by rw [ttA_at h]; exact hne
  obtain ⟨b, hb, hbn, _⟩ := jump_to (good_kt g) hne'
  rw [ttA_at h] at hb
  rw [ktOf_len] at hbn
  omega
theorem four_rows (w : World) (cs : List Value) (t0 : TypeId) (v1 : Value) (t1 : TypeId) (v2 : Value) (t2 : TypeId) (v3 : Value) (t3 : TypeId) (v4 : Value) (t4 : TypeId) {V : World} (h : ((((w.alloc (.cells cs.toArray t0)).alloc (.cells #[v1] t1)).alloc (.cells #[v2] t2)).alloc (.cells #[v3] t3)).alloc (.cells #[v4] t4) = V) :
    Blk V w.heap.size t0 cs ∧ Blk V (w.heap.size + 1) t1 [v1] ∧ Blk V (w.heap.size + 1 + 1) t2 [v2] ∧ Blk V (w.heap.size + 1 + 1 + 1) t3 [v3] ∧ Blk V (w.heap.size + 1 + 1 + 1 + 1) t4 [v4] ∧ V.heap.size = w.heap.size + 5 ∧ Below w.heap.size w V := by
  subst h
  obtain ⟨U, hU⟩ : ∃ U, ((w.alloc (.cells cs.toArray t0)).alloc (.cells #[v1] t1)).alloc (.cells #[v2] t2) = U := ⟨_, rfl⟩
  obtain ⟨q0, q1, q2, sz, hb⟩ := row_boxes w cs t0 v1 t1 v2 t2 hU
  rw [hU]
  obtain ⟨q3, q4⟩ := two_boxes U v3 t3 v4 t4
  rw [sz] at q3 q4
  have k := below2 U (.cells #[v3] t3) (.cells #[v4] t4)
  exact ⟨q0.below k, q1.below k, q2.below k, q3, q4, by simp [sz], Below.tr hb k⟩

theorem dm_lin {E : Nat → Nat → Bool} {k d : Nat} : ∀ (a : Nat), rb E 0 a = true → dm E k a = true → dm E d a = true → k ≤ d → dm E k d = true := by
  intro a
  induction a using Nat.strongRecOn with
  | ind a ih =>
    intro hr hk hd hle
    by_cases e : d = a
    · subst e; exact hk
    · have hda := (dm_le a hr hd).1
      obtain ⟨p, hp, hrp, he⟩ := rb_pred hr (by omega)
      exact ih p hp hrp (dm_back hk (by omega) hp hrp he) (dm_back hd e hp hrp he) hle
theorem dm_trans {E : Nat → Nat → Bool} {k d : Nat} : ∀ (a : Nat), rb E 0 a = true → dm E k d = true → dm E d a = true → dm E k a = true := by
  intro a
  induction a using Nat.strongRecOn with
  | ind a ih =>
    intro hr hk hd
    by_cases e : d = a
    · subst e; exact hk
    · have hda := (dm_le a hr hd).1
      refine dm_iff.2 (.inr ⟨by omega, fun p hp hrp he => ?_⟩)
      exact ih p hp hrp hk (dm_back hd e hp hrp he)
/-- the nearest dominator, by what dominates it -/
theorem near_char {E : Nat → Nat → Bool} {i : Nat} (h : rb E 0 i = true) (h0 : 0 < i) : ∃ d : Nat, nearN E i = (d : Int) ∧ d < i ∧ rb E 0 d = true ∧ ∀ k, dm E k d = true ↔ (dm E k i = true ∧ k ≠ i) := by
  have h2 := dom_two h h0
  have hne : (List.range i).filter (fun k => dm E k i) ≠ [] := List.length_pos_iff.1 h2
  obtain ⟨d, hd⟩ : ∃ d, ((List.range i).filter (fun k => dm E k i)).getLast hne = d := ⟨_, rfl⟩
  have hmem : d ∈ (List.range i).filter (fun k => dm E k i) := by rw [← hd]; exact List.getLast_mem hne
  rw [List.mem_filter, List.mem_range] at hmem
  have hmax : ∀ k, k ∈ (List.range i).filter (fun k => dm E k i) → k ≤ d := by
    intro k hk
    have hs := (filter_sorted i (fun k => dm E k i))
    rw [← List.dropLast_concat_getLast hne, hd] at hs hk
    rw [List.pairwise_append] at hs
    rcases List.mem_append.1 hk with q | q
    · exact Nat.le_of_lt (hs.2.2 k q d (by simp))
    · rw [List.mem_singleton] at q; omega
  refine ⟨d, ?_, hmem.1, (dm_le i h hmem.2).2, fun k => ?_⟩
  · unfold nearN
    rw [if_pos ⟨h, h0⟩]
    congr 1
    rw [List.getLastD_eq_getLast?, List.getLast?_eq_some_getLast hne, hd]
    rfl
  · constructor
    · intro hk
      have := (dm_le d (dm_le i h hmem.2).2 hk).1
      exact ⟨dm_trans i h hk hmem.2, by omega⟩
    · rintro ⟨hk, hne2⟩
      have hki := (dm_le i h hk).1
      exact dm_lin i h hk hmem.2 (hmax k (by rw [List.mem_filter, List.mem_range]; exact ⟨by omega, hk⟩))
theorem near_none {E : Nat → Nat → Bool} {i : Nat} (h : ¬ (rb E 0 i = true ∧ 0 < i)) : nearN E i = -1 := by unfold nearN; rw [if_neg h]
/-- what lies in a line ends alike -/
theorem same_dom {E : Nat → Nat → Bool} {u v : Nat} (hu : rb E 0 u = true) (hv : rb E 0 v = true) (h : ∀ k, dm E k u = true ↔ dm E k v = true) : u = v := by
  have h1 := (dm_le v hv ((h u).1 (dm_self E u))).1
  have h2 := (dm_le u hu ((h v).2 (dm_self E v))).1
  omega
/-- r is the last that a and b have in common -/
def LastC (E : Nat → Nat → Bool) (a b r : Nat) : Prop := rb E 0 r = true ∧ ∀ k, dm E k r = true ↔ (dm E k a = true ∧ dm E k b = true)
theorem last_step {E : Nat → Nat → Bool} {a b d r : Nat} (hb : rb E 0 b = true) (hba : b < a) (hd : ∀ k, dm E k d = true ↔ (dm E k a = true ∧ k ≠ a)) (h : LastC E d b r) : LastC E a b r := by
  refine ⟨h.1, fun k => ?_⟩
  rw [h.2 k, hd k]
  constructor
  · rintro ⟨⟨h1, _⟩, h2⟩; exact ⟨h1, h2⟩
  · rintro ⟨h1, h2⟩
    have := (dm_le b hb h2).1
    exact ⟨⟨h1, by omega⟩, h2⟩
theorem LastC.comm {E : Nat → Nat → Bool} {a b r : Nat} (h : LastC E a b r) : LastC E b a r := ⟨h.1, fun k => by rw [h.2 k]; exact And.comm⟩
theorem last_ex (E : Nat → Nat → Bool) : ∀ (m a b : Nat), a + b ≤ m → rb E 0 a = true → rb E 0 b = true → ∃ r, LastC E a b r
  | m, a, b, hm, ha, hb => by
    rcases Nat.lt_trichotomy a b with h | h | h
    · obtain ⟨d, _, hd, hr, hc⟩ := near_char hb (by omega)
      match m, hm with
      | 0, hm => omega
      | m + 1, hm =>
        obtain ⟨r, q⟩ := last_ex E m d a (by omega) hr ha
        exact ⟨r, (last_step ha h hc q).comm⟩
    · subst h; exact ⟨a, ha, fun k => by simp⟩
    · obtain ⟨d, _, hd, hr, hc⟩ := near_char ha (by omega)
      match m, hm with
      | 0, hm => omega
      | m + 1, hm =>
        obtain ⟨r, q⟩ := last_ex E m d b (by omega) hr hb
        exact ⟨r, last_step hb h hc q⟩
theorem LastC.unique {E : Nat → Nat → Bool} {a b r s : Nat} (h : LastC E a b r) (k : LastC E a b s) : r = s := same_dom h.1 k.1 (fun q => by rw [h.2 q, k.2 q])
theorem LastC.le {E : Nat → Nat → Bool} {a b r : Nat} (ha : rb E 0 a = true) (h : LastC E a b r) : r ≤ a := (dm_le a ha ((h.2 r).1 (dm_self E r)).1).1
/-- the arcs come by the steps that they leave -/
theorem arcs_sorted (l : KT) : (arcsI l).Pairwise (fun p q => p.1 ≤ q.1) := by
  have h1 : ∀ (t : List Int), t.Pairwise (· < ·) → (arcsOf l t).Pairwise (fun p q => p.1 ≤ q.1) := by
    intro t
    induction t with
    | nil => intro _; exact List.Pairwise.nil
    | cons a t ih =>
      intro hs
      have hs' := List.pairwise_cons.1 hs
      unfold arcsOf at ih ⊢
      rw [List.flatMap_cons, List.pairwise_append]
      have hA : ∀ (b : Int) p, p ∈ arcA l b → p.1 = b := by
        intro b p hp
        unfold arcA at hp
        split at hp
        · obtain ⟨y, _, rfl⟩ := List.mem_map.1 hp; rfl
        · simp at hp
      refine ⟨?_, ih hs'.2, fun p hp q hq => ?_⟩
      · apply List.pairwise_of_forall_mem_list
        intro p hp q hq
        rw [hA a p hp, hA a q hq]; exact Int.le_refl _
      · obtain ⟨b, hb, hqb⟩ := List.mem_flatMap.1 hq
        rw [hA a p hp, hA b q hqb]
        exact Int.le_of_lt (hs'.1 b hb)
  exact h1 _ (castL_sorted (filter_sorted _ _))
theorem arcs_all {l : KT} (g : GoodKT l) {a b : Nat} (ha : rb (edg l) 0 a = true) (hb : edg l a b = true) : ((a : Int), (b : Int)) ∈ arcsI l := by
  obtain ⟨x, hx, hm⟩ := edg_some hb
  unfold arcsI arcsOf
  refine List.mem_flatMap.2 ⟨(a : Int), castL_mem'.2 (mem_reach.2 ⟨(edg_lt g hb).1, ha⟩), ?_⟩
  rw [arcA_at hx]
  exact List.mem_map.2 ⟨(b : Int), hm, rfl⟩
/-- what the row of nearest dominators holds when these arcs have been taken -/
def NI (l : KT) (t : List (Int × Int)) (f : Nat → Int) : Prop :=
  ∀ j, j < l.length → ((∀ p : Nat, ((p : Int), (j : Int)) ∉ t) → f j = -1) ∧
    ((∃ p : Nat, ((p : Int), (j : Int)) ∈ t) → ∃ v : Nat, f j = (v : Int) ∧ v < j ∧ rb (edg l) 0 v = true ∧ ∀ k, dm (edg l) k v = true ↔ ∀ p : Nat, ((p : Int), (j : Int)) ∈ t → dm (edg l) k p = true)
theorem ni_start (l : KT) : NI l [] (fun _ => -1) := fun j _ => ⟨fun _ => rfl, fun ⟨p, hp⟩ => by simp at hp⟩
theorem arcs_in {l : KT} (g : GoodKT l) {t r : List (Int × Int)} (h : arcsI l = t ++ r) {p j : Nat} (hp : ((p : Int), (j : Int)) ∈ t) : p < j ∧ j < l.length ∧ edg l p j = true ∧ rb (edg l) 0 p = true := by
  obtain ⟨t1, t2, ht⟩ := List.append_of_mem hp
  obtain ⟨a, b, e, h1, h2, h3, h4⟩ := arcs_mem g (t := t1) (r := t2 ++ r) (p := ((p : Int), (j : Int))) (by rw [h, ht]; simp)
  simp only [Prod.mk.injEq] at e
  have e1 : p = a := by omega
  have e2 : j = b := by omega
  subst e1 e2
  exact ⟨h1, h2, h3, h4⟩
/-- a step whose arcs have all been taken -/
theorem ni_fin {l : KT} (g : GoodKT l) {t r : List (Int × Int)} {f : Nat → Int} (h : arcsI l = t ++ r) (hf : NI l t f) {j : Nat} (hj : j < l.length) (hall : ∀ p : Nat, rb (edg l) 0 p = true → edg l p j = true → ((p : Int), (j : Int)) ∈ t) : f j = nearN (edg l) j := by
  by_cases q : rb (edg l) 0 j = true ∧ 0 < j
  · obtain ⟨p, hpj, hpr, hpe⟩ := rb_pred q.1 q.2
    obtain ⟨v, hv, hvj, hvr, hc⟩ := (hf j hj).2 ⟨p, hall p hpr hpe⟩
    obtain ⟨d, hd, hdj, hdr, hdc⟩ := near_char q.1 q.2
    rw [hv, hd]
    congr 1
    refine same_dom hvr hdr (fun k => ?_)
    rw [hc k, hdc k]
    constructor
    · intro hk
      have hkp := hk p (hall p hpr hpe)
      have := (dm_le p hpr hkp).1
      exact ⟨dm_iff.2 (.inr ⟨q.2, fun a _ har hae => hk a (hall a har hae)⟩), by omega⟩
    · rintro ⟨hk, hne⟩ a ha
      obtain ⟨h1, _, h3, h4⟩ := arcs_in g h ha
      exact dm_back hk hne h1 h4 h3
  · rw [near_none q]
    refine (hf j hj).1 (fun p hp => q ?_)
    obtain ⟨h1, _, h3, h4⟩ := arcs_in g h hp
    exact ⟨rb_step h1 h4 h3, by omega⟩
theorem ni_done {l : KT} (g : GoodKT l) {t r : List (Int × Int)} {f : Nat → Int} {a d : Nat} (h : arcsI l = t ++ ((a : Int), (d : Int)) :: r) (hf : NI l t f) {j : Nat} (hj : j ≤ a) : f j = nearN (edg l) j := by
  obtain ⟨h1, h2, h3, h4⟩ := arcs_in (p := a) (j := d) (t := t ++ [((a : Int), (d : Int))]) (r := r) g (by rw [h]; simp) (by simp)
  refine ni_fin g h hf (by omega) (fun p hp he => ?_)
  have hm := arcs_all g hp he
  have hpj := edg_fwd g _ _ he
  rw [h] at hm
  have hs := arcs_sorted l
  rw [h, List.pairwise_append, List.pairwise_cons] at hs
  rcases List.mem_append.1 hm with q | q
  · exact q
  · rcases List.mem_cons.1 q with q | q
    · simp only [Prod.mk.injEq] at q; omega
    · have := hs.2.1.1 _ q; simp only at this; omega
theorem ni_first {l : KT} (g : GoodKT l) {t r : List (Int × Int)} {f : Nat → Int} {a d : Nat} (h : arcsI l = t ++ ((a : Int), (d : Int)) :: r) (hf : NI l t f) (hd : f d = -1) : NI l (t ++ [((a : Int), (d : Int))]) (fun j => if j = d then (a : Int) else f j) := by
  obtain ⟨h1, h2, h3, h4⟩ := arcs_in (p := a) (j := d) (t := t ++ [((a : Int), (d : Int))]) (r := r) g (by rw [h]; simp) (by simp)
  have hno : ∀ p : Nat, ((p : Int), (d : Int)) ∉ t := fun p hp => by
    obtain ⟨v, hv, _⟩ := (hf d h2).2 ⟨p, hp⟩
    rw [hv] at hd; omega
  intro j hj
  by_cases e : j = d
  · subst e
    refine ⟨fun q => absurd (by simp) (q a), fun _ => ⟨a, by simp, h1, h4, fun k => ?_⟩⟩
    constructor
    · intro hk p hp
      rcases List.mem_append.1 hp with q | q
      · exact absurd q (hno p)
      · have e : p = a := by simp at q; omega
        subst e; exact hk
    · intro hk; exact hk a (by simp)
  · have hiff : ∀ p : Nat, ((p : Int), (j : Int)) ∈ t ++ [((a : Int), (d : Int))] ↔ ((p : Int), (j : Int)) ∈ t := fun p => by
      rw [List.mem_append, List.mem_singleton]
      constructor
      · rintro (q | q)
        · exact q
        · simp only [Prod.mk.injEq] at q; omega
      · exact .inl
    simp only [hiff, if_neg e]
    exact hf j hj
theorem ni_more {l : KT} (g : GoodKT l) {t r : List (Int × Int)} {f : Nat → Int} {a d v c : Nat} (h : arcsI l = t ++ ((a : Int), (d : Int)) :: r) (hf : NI l t f) (hd : f d = (v : Int)) (hc : LastC (edg l) v a c) : NI l (t ++ [((a : Int), (d : Int))]) (fun j => if j = d then (c : Int) else f j) := by
  obtain ⟨h1, h2, h3, h4⟩ := arcs_in (p := a) (j := d) (t := t ++ [((a : Int), (d : Int))]) (r := r) g (by rw [h]; simp) (by simp)
  intro j hj
  by_cases e : j = d
  · subst e
    have hex : ∃ p : Nat, ((p : Int), (j : Int)) ∈ t := by
      rcases Classical.em (∃ p : Nat, ((p : Int), (j : Int)) ∈ t) with q | q
      · exact q
      · have := (hf j h2).1 (fun p hp => q ⟨p, hp⟩); rw [hd] at this; omega
    obtain ⟨v', hv', _, hvr, hvc⟩ := (hf j h2).2 hex
    have ev : v' = v := by rw [hd] at hv'; omega
    subst ev
    have hca := hc.comm.le h4
    refine ⟨fun q => absurd (by simp) (q a), fun _ => ⟨c, by simp, by omega, hc.1, fun k => ?_⟩⟩
    rw [hc.2 k, hvc k]
    constructor
    · rintro ⟨q1, q2⟩ p hp
      rcases List.mem_append.1 hp with q | q
      · exact q1 p q
      · have e : p = a := by simp at q; omega
        subst e; exact q2
    · intro q
      exact ⟨fun p hp => q p (by simp [hp]), q a (by simp)⟩
  · have hiff : ∀ p : Nat, ((p : Int), (j : Int)) ∈ t ++ [((a : Int), (d : Int))] ↔ ((p : Int), (j : Int)) ∈ t := fun p => by
      rw [List.mem_append, List.mem_singleton]
      constructor
      · rintro (q | q)
        · exact q
        · simp only [Prod.mk.injEq] at q; omega
      · exact .inl
    simp only [hiff, if_neg e]
    exact hf j hj
theorem ni_reached {l : KT} (g : GoodKT l) {t r : List (Int × Int)} {f : Nat → Int} (h : arcsI l = t ++ r) (hf : NI l t f) {d : Nat} (hd : d < l.length) (hne : f d ≠ -1) : ∃ v : Nat, f d = (v : Int) ∧ rb (edg l) 0 v = true ∧ ∃ p : Nat, p < d ∧ rb (edg l) 0 p = true ∧ v ≤ p ∧ ((p : Int), (d : Int)) ∈ t := by
  rcases Classical.em (∃ p : Nat, ((p : Int), (d : Int)) ∈ t) with q | q
  · obtain ⟨v, hv, _, hvr, hc⟩ := (hf d hd).2 q
    obtain ⟨p, hp⟩ := q
    obtain ⟨h1, _, _, h4⟩ := arcs_in g h hp
    exact ⟨v, hv, hvr, p, h1, h4, (dm_le p h4 ((hc v).1 (dm_self _ v) p hp)).1, hp⟩
  · exact absurd ((hf d hd).1 (fun p hp => q ⟨p, hp⟩)) hne
theorem ni_end {l : KT} (g : GoodKT l) {f : Nat → Int} (hf : NI l (arcsI l) f) {j : Nat} (hj : j < l.length) : f j = nearN (edg l) j :=
  ni_fin g (t := arcsI l) (r := []) (by simp) hf hj (fun _ hp he => arcs_all g hp he)
/-- one step up the chain -/
theorem dom_up {E : Nat → Nat → Bool} {i d : Nat} (hr : rb E 0 i = true) (hdi : d < i) (hd : ∀ k, dm E k d = true ↔ (dm E k i = true ∧ k ≠ i)) (hrd : rb E 0 d = true) : domL E i = domL E d ++ [i] := by
  rw [dom_snoc]
  congr 1
  unfold domL
  apply castL_ext
  intro k
  rw [List.mem_filter, List.mem_filter, List.mem_range, List.mem_range]
  constructor
  · rintro ⟨h1, h2⟩
    have h3 := (hd k).2 ⟨h2, by omega⟩
    have := (dm_le d hrd h3).1
    exact ⟨by omega, h3⟩
  · rintro ⟨h1, h2⟩
    have h3 := (hd k).1 h2
    have := (dm_le i hr h3.1).1
    exact ⟨by omega, h3.1⟩

theorem and_small : ∀ n : Fin 21, bits .and .u64 ((n.1 : Nat) : Int) 4294967295 = ((n.1 : Nat) : Int) := by decide +kernel
set_option maxRecDepth 100000 in
set_option maxHeartbeats 2000000 in
theorem mul64_any (n : Nat) (hn : n ≤ 20) (w : World) : Calls Tryd.prog 69 #[.int .u64 1, .int .u64 (n : Int)] w fun e w' => e = .returned (.tuple #[.int .u64 0, .int .u64 (n : Int)]) ∧ w = w' := by
  have b1 : bits .and .u64 1 4294967295 = 1 := by decide +kernel
  have b0 : bits .and .u64 0 4294967295 = 0 := by decide +kernel
  have b2 : bits .and .u64 (n : Int) 4294967295 = (n : Int) := and_small ⟨n, by omega⟩
  have d1 : (n : Int) / 4294967296 = 0 := by omega
  have w1 : IntKind.u64.wrap (n : Int) = (n : Int) := by rw [show IntKind.u64.wrap (n : Int) = (n : Int) % 18446744073709551616 from rfl]; omega
  go_enter Tryd.func69, Tryd.ntmps69
  go_wp2
  go_ret2
  exact ⟨rfl, rfl⟩
set_option maxRecDepth 100000 in
set_option maxHeartbeats 2000000 in
theorem mul_any (n : Nat) (hn : n ≤ 20) (w : World) : Calls Tryd.prog 60 #[.int .u64 1, .int .u64 (n : Int)] w fun e w' => e = .returned (.tuple #[.int .u64 0, .int .u64 (n : Int)]) ∧ w = w' := by
  have w1 : IntKind.u64.wrap (n : Int) = (n : Int) := by rw [show IntKind.u64.wrap (n : Int) = (n : Int) % 18446744073709551616 from rfl]; omega
  go_enter Tryd.func60, Tryd.ntmps60
  go_wp2_with fail
  refine (mul64_any n hn _).mono ?_
  rintro e w' ⟨rfl, rfl⟩
  go_wp2
  go_ret2
  exact ⟨rfl, rfl⟩
/-- a row of n numbers, k of them laid -/
def repV (v : Int) (n k : Nat) : List Value := List.replicate k (.int .i64 v) ++ List.replicate (n - k) (.int .i64 0)
theorem repV_len (v : Int) (n k : Nat) (h : k ≤ n) : (repV v n k).length = n := by unfold repV; simp; omega
theorem repV_full (v : Int) (n : Nat) : repV v n n = List.replicate n (.int .i64 v) := by unfold repV; simp
theorem rep_splice (v : Int) (n k m : Nat) (h : k + m ≤ n) : splice (repV v n k) k (List.replicate m (.int .i64 v)) = repV v n (k + m) := by
  unfold splice repV
  rw [List.length_replicate, List.take_left' (by simp), List.drop_append, List.drop_eq_nil_of_le (by simp), List.nil_append, List.length_replicate, List.drop_replicate, ← List.append_assoc, List.replicate_append_replicate]
  congr 2
  omega
theorem copy_run (W W0 : World) (g o dl dc sb so sl sc m B : Nat) (cur : List Value) (v : Int) (hg : Blk W g 3 cur) (hm : Nat.min sl dl = m) (hs : ∀ j, j < m → W.cell? ⟨sb, so + j, none⟩ = some (.int .i64 v)) (hf : o + m ≤ cur.length) (hb : Below B W0 W) (hB : B ≤ g) :
    ∃ W2, (Builtin.copy_ #[24, 24] 3 #[.slice (some ⟨g, o, none⟩) dl dc, .slice (some ⟨sb, so, none⟩) sl sc]).run Tryd.prog W = .ok (.int .i64 (m : Int)) W2 ∧ Blk W2 g 3 (splice cur o (List.replicate m (.int .i64 v))) ∧ Below B W0 W2 := by
  obtain ⟨i0, hi0, _, hz1, _⟩ := info_parts info_int
  have hsz : (Tryd.prog.info? 3).map (·.size) = some 1 := by rw [hi0]; simp [hz1]
  have h := run_copy_row (P := Tryd.prog) W 24 24 3 3 g o dl dc ⟨sb, so, none⟩ sl sc cur.toArray 3 (List.replicate m (.int .i64 v)) Tryd.underlying24 hsz hg (by simp [hm]) (fun j u hj => by
    rw [List.getElem?_replicate] at hj
    split at hj
    · rename_i hjm
      obtain rfl := Option.some.inj hj
      rw [add_plain]
      exact hs j hjm
    · cases hj) (by simpa using hf) (by intro u hu; rw [List.eq_of_mem_replicate hu]; rfl)
  rw [List.length_replicate] at h
  refine ⟨_, h, ?_, below_setRow hb hB _⟩
  have e := setRow_heap W g _ (cur.take o ++ List.replicate m (Value.int .i64 v) ++ cur.drop (o + m)).toArray _ _ hg
  unfold Blk splice
  rw [List.length_replicate, ← List.append_assoc]
  exact e
set_option maxRecDepth 100000 in
set_option maxHeartbeats 4000000 in
theorem repeat_any (v : Int) (n b : Nat) (w : World) (hn0 : 0 < n) (hn : n ≤ 20) (hb : Hid (Blk w b 3 [.int .i64 v])) :
    Calls Tryd.prog 41 #[.slice (some ⟨b, 0, none⟩) 1 1, .int .i64 n] w fun e w' => e = .returned (.slice (some ⟨w.heap.size, 0, none⟩) n n) ∧ Blk w' w.heap.size 3 (List.replicate n (.int .i64 v)) ∧ Below w.heap.size w w' := by
  have w1 : IntKind.u64.wrap (n : Int) = (n : Int) := by rw [show IntKind.u64.wrap (n : Int) = (n : Int) % 18446744073709551616 from rfl]; omega
  have w2 : IntKind.i64.wrap (n : Int) = (n : Int) := by rw [IntKind.wrap_i64]; omega
  have hmk := fun w : World => run_make_row' (P := Tryd.prog) 24 3 (.int .i64 0) 8 Tryd.underlying24 info_int rfl .i64 .i64 n (by omega) (by omega) w
  go_enter Tryd.func41, Tryd.ntmps41
  go_wp2_with fail
  refine (mul_any n hn _).mono ?_
  rintro e w' ⟨rfl, rfl⟩
  have h0 : Blk (w.alloc (.cells (madeCells #[.int .i64 0] n) 3)) w.heap.size 3 (repV v n 0) := by
    have e : madeCells #[Value.int .i64 0] n = (repV v n 0).toArray := by rw [made_rep]; unfold repV; simp
    rw [e]; exact heap_alloc_new w _
  have hbc := (hb.out.below (below1 w (.cells (madeCells #[.int .i64 0] n) 3))).cell 0
  have hb0 : ∀ j, j < 1 → (w.alloc (.cells (madeCells #[.int .i64 0] n) 3)).cell? ⟨b, 0 + j, none⟩ = some (.int .i64 v) := fun j hj => by
    have : j = 0 := by omega
    subst this
    exact hbc
  obtain ⟨W2, hrun, hbl2, hbb2⟩ := copy_run _ w w.heap.size 0 n n b 0 1 1 1 w.heap.size (repV v n 0) v h0 (Nat.min_eq_left (by omega)) hb0 (by rw [repV_len _ _ _ (Nat.zero_le _)]; omega) (below1 w _) (Nat.le_refl _)
  rw [rep_splice v n 0 1 (by omega)] at hbl2
  have BL1 := Lib.hid hbl2
  have BB1 := Lib.hid hbb2
  clear h0 hbc hb0 hbl2 hbb2
  go_wp2_with fail
  clear hrun
  go_loopw [8] (fun i wr => ∃ k : Nat, 1 ≤ k ∧ k ≤ n ∧ i = .int .i64 k ∧ Blk wr w.heap.size 3 (repV v n k) ∧ Below w.heap.size w wr) (fun i _ => n - (intOf i).toNat)
  case atStart => exact ⟨1, Nat.le_refl _, hn0, rfl, BL1.out, BB1.out⟩
  case round =>
    obtain ⟨k, hk1, hk, rfl, hbl, hbb⟩ := hrel
    have L1 := Lib.hid hbl
    have C1 := Lib.hid hbb
    clear hbl hbb
    by_cases hlt : k < n
    · obtain ⟨m, hm⟩ : ∃ m, Nat.min k (n - k) = m := ⟨_, rfl⟩
      have HM := Lib.hid hm
      have hmk : m ≤ k := by rw [← hm]; exact Nat.min_le_left _ _
      have hmn : k + m ≤ n := by have : m ≤ n - k := by { rw [← hm]; exact Nat.min_le_right _ _ }
                                 omega
      have hm1 : 1 ≤ m := by rw [← hm]; exact Nat.le_min.2 ⟨hk1, by omega⟩
      clear hm
      have hkn : ¬ k = n := by omega
      have hki : (k : Int) < (n : Int) := by omega
      have cc : ∀ j, j < m → (wr.drew).cell? ⟨w.heap.size, 0 + j, none⟩ = some (.int .i64 v) := fun j hj => by
        rw [Nat.zero_add]
        refine (Blk.cell (w := wr.drew) L1.out j).trans ?_
        unfold repV
        rw [List.getElem?_append_left (by simp; omega), List.getElem?_replicate, if_pos (by omega)]
      obtain ⟨W3, hrun, hbl3, hbb3⟩ := copy_run wr.drew w w.heap.size k (n - k) (n - k) w.heap.size 0 k n m w.heap.size (repV v n k) v L1.out HM.out cc (by rw [repV_len _ _ _ hk]; exact hmn) C1.out.drew (Nat.le_refl _)
      rw [rep_splice v n k m hmn] at hbl3
      have L3 := Lib.hid hbl3
      have C3 := Lib.hid hbb3
      clear cc hbl3 hbb3
      have hw64 : IntKind.i64.wrap ((k : Int) + (m : Int)) = (k : Int) + (m : Int) := by rw [IntKind.wrap_i64]; omega
      go_wp2_with fail
      go_region
      clear hrun
      go_wp2
      go_roundw
      case rel => exact ⟨k + m, by omega, hmn, by go_num, L3.out, C3.out⟩
      case measure => simp [intOf]; omega
    · obtain rfl : k = n := by omega
      go_wp2
      go_ret
      exact ⟨rfl, by rw [← repV_full]; exact L1.out, C1.out⟩

set_option maxRecDepth 100000 in
set_option maxHeartbeats 4000000 in
theorem lastCommon_any (E : Nat → Nat → Bool) (n M gb a b r : Nat) (f : Nat → Int) (w : World) (hr : Hid (Blk w gb 3 (numsV n f))) (hf : Hid (∀ j, j ≤ M → f j = nearN E j)) (hM : M < n) (ha : a ≤ M) (hb : b ≤ M)
    (ra : Hid (rb E 0 a = true)) (rb' : Hid (rb E 0 b = true)) (hc : Hid (LastC E a b r)) :
    Calls Tryd.prog 42 #[.slice (some ⟨gb, 0, none⟩) n n, .int .i64 a, .int .i64 b] w fun e w' => e = .returned (.int .i64 r) ∧ w = w' := by
  go_enter Tryd.func42, Tryd.ntmps42
  go_wp2
  go_loop [1, 2] (fun u v => ∃ x y : Nat, u = .int .i64 x ∧ v = .int .i64 y ∧ x ≤ M ∧ y ≤ M ∧ rb E 0 x = true ∧ rb E 0 y = true ∧ LastC E x y r) (fun u v => (intOf u).toNat + (intOf v).toNat)
  case atStart => exact ⟨a, b, rfl, rfl, ha, hb, ra.out, rb'.out, hc.out⟩
  case round =>
    obtain ⟨x, y, rfl, rfl, hx, hy, rx, ry, hl⟩ := hrel
    have RX := Lib.hid rx
    have RY := Lib.hid ry
    have HL := Lib.hid hl
    clear rx ry hl
    rcases Nat.lt_trichotomy x y with q | q | q
    · obtain ⟨d, hd, hdy, rd, hdc⟩ := near_char RY.out (by omega)
      have hcell := (hr.out.cell y).trans (numsV_at f (by omega))
      rw [hf.out y hy, hd] at hcell
      have HC := Lib.hid (last_ex E (x + d) x d (Nat.le_refl _) RX.out rd)
      have RD := Lib.hid rd
      have HDC := Lib.hid hdc
      have hyn : (y : Int) < (n : Int) := by omega
      have hne : ((x : Int) != (y : Int)) = true := by simp; omega
      have hxy : (x : Int) ≤ (y : Int) := by omega
      clear hd rd hdc
      go_wp2
      go_round
      case rel =>
        obtain ⟨s, hs⟩ := HC.out
        have h2 := (last_step RX.out q HDC.out hs.comm).comm
        have e := LastC.unique h2 HL.out
        subst e
        exact ⟨x, d, rfl, rfl, hx, by omega, RX.out, RD.out, hs⟩
      case measure => simp [intOf]; omega
    · subst q
      have hne : ((x : Int) != (x : Int)) = false := by simp
      go_wp2
      go_ret
      have e : r = x := same_dom HL.out.1 RX.out (fun k => by rw [HL.out.2 k]; simp)
      subst e
      exact ⟨rfl, rfl⟩
    · obtain ⟨d, hd, hdy, rd, hdc⟩ := near_char RX.out (by omega)
      have hcell := (hr.out.cell x).trans (numsV_at f (by omega))
      rw [hf.out x hx, hd] at hcell
      have HC := Lib.hid (last_ex E (d + y) d y (Nat.le_refl _) rd RY.out)
      have RD := Lib.hid rd
      have HDC := Lib.hid hdc
      have hxn : (x : Int) < (n : Int) := by omega
      have hne : ((x : Int) != (y : Int)) = true := by simp; omega
      have hxy : (y : Int) < (x : Int) := by omega
      clear hd rd hdc
      go_wp2
      go_round
      case rel =>
        obtain ⟨s, hs⟩ := HC.out
        have h2 := last_step RY.out q HDC.out hs
        have e := LastC.unique h2 HL.out
        subst e
        exact ⟨d, y, rfl, rfl, by omega, hy, RD.out, RY.out, hs⟩
      case measure => simp [intOf]; omega
/-- a list of numbers as a row -/
theorem nums_list (l : List Int) : l.map (Value.int .i64) = numsV l.length (fun q => l.getD q 0) := by
  apply List.ext_getElem?
  intro j
  by_cases hj : j < l.length
  · rw [numsV_at _ hj, List.getElem?_map, List.getElem?_eq_getElem hj]
    simp [hj]
  · rw [List.getElem?_eq_none (by simp; omega), List.getElem?_eq_none (by rw [numsV_len]; omega)]
/-- p of a row's ends have been exchanged -/
def revF (n p : Nat) (f : Nat → Int) (q : Nat) : Int := if q < p ∨ n ≤ q + p then f (n - 1 - q) else f q
theorem rev_zero (n : Nat) (f : Nat → Int) : numsV n (revF n 0 f) = numsV n f := numsV_ext (fun j hj => by unfold revF; rw [if_neg (by omega)])
theorem rev_step (n p : Nat) (f : Nat → Int) (h : 2 * p + 1 < n) : ((numsV n (revF n p f)).set p (.int .i64 (f (n - 1 - p)))).set (n - 1 - p) (.int .i64 (f p)) = numsV n (revF n (p + 1) f) := by
  rw [numsV_set, numsV_set]
  refine numsV_ext (fun j hj => ?_)
  unfold revF
  by_cases e1 : j = n - 1 - p
  · rw [if_pos e1, if_pos (by omega)]
    congr 1; omega
  · rw [if_neg e1]
    by_cases e2 : j = p
    · subst e2
      rw [if_pos rfl, if_pos (by omega)]
    · rw [if_neg e2]
      by_cases e3 : j < p ∨ n ≤ j + p
      · rw [if_pos e3, if_pos (by omega)]
      · rw [if_neg e3, if_neg (by omega)]
theorem rev_end (l : List Int) (p : Nat) (h : ¬ 2 * p + 1 < l.length) : numsV l.length (revF l.length p (fun q => l.getD q 0)) = l.reverse.map (Value.int .i64) := by
  rw [nums_list l.reverse, List.length_reverse]
  refine numsV_ext (fun j hj => ?_)
  have e : l.reverse.getD j 0 = l.getD (l.length - 1 - j) 0 := by
    rw [List.getD_eq_getElem?_getD, List.getD_eq_getElem?_getD, List.getElem?_reverse hj]
  unfold revF
  rw [e]
  by_cases q : j < p ∨ l.length ≤ j + p
  · rw [if_pos q]
  · rw [if_neg q]; congr 1; omega
theorem rev_at {n p : Nat} (f : Nat → Int) (h : 2 * p + 1 < n) : (numsV n (revF n p f))[p]? = some (.int .i64 (f p)) ∧ (numsV n (revF n p f))[n - 1 - p]? = some (.int .i64 (f (n - 1 - p))) := by
  rw [numsV_at _ (by omega), numsV_at _ (by omega)]
  unfold revF
  exact ⟨by rw [if_neg (by omega)], by rw [if_neg (by omega)]⟩
set_option maxRecDepth 100000 in
set_option maxHeartbeats 4000000 in
theorem reverse_any (base n c : Nat) (A : Option Addr) (l : List Int) (w : World) (ho : Hid (w.ownsRow base 3 1 (.slice A n c) n (l.map (Value.int .i64)))) (hl : Hid (l.length = n)) (hn : n ≤ 1000000) :
    Calls Tryd.prog 27 #[.slice A n c] w fun e w' => (∃ v, e = .returned v) ∧ w'.ownsRow base 3 1 (.slice A n c) n (l.reverse.map (Value.int .i64)) ∧ w.grownBy w' (Value.slice A n c).ownBlock := by
  obtain ⟨f, hf⟩ : ∃ f : Nat → Int, (fun q => l.getD q 0) = f := ⟨_, rfl⟩
  have HF := Lib.hid hf
  have E0 : Hid (l.map (Value.int .i64) = numsV n f) := Lib.hid (by rw [nums_list, hl.out, hf])
  clear hf
  go_enter Tryd.func27, Tryd.ntmps27
  go_wp2
  go_loopw [2, 3] (fun i j wr => ∃ p : Nat, 2 * p ≤ n ∧ i = .int .i64 p ∧ j = .int .i64 ((n : Int) - 1 - p) ∧ wr.ownsRow base 3 1 (.slice A n c) n (numsV n (revF n p f)) ∧ w.grownBy wr (Value.slice A n c).ownBlock) (fun i _ _ => n - (intOf i).toNat)
  case atStart => exact ⟨0, by omega, rfl, by simp, by rw [rev_zero, ← E0.out]; exact ho.out, World.grownBy.refl _ _⟩
  case round =>
    obtain ⟨p, hp, rfl, rfl, hown, hgr⟩ := hrel
    have O1 := Lib.hid hown
    have G1 := Lib.hid hgr
    clear hown hgr
    by_cases hlt : 2 * p + 1 < n
    · obtain ⟨g, cap, hv, hbg, hgl⟩ := O1.out.form (by omega)
      have hA : A = some ⟨g, 0, none⟩ := by injection hv
      clear hv
      subst hA
      obtain ⟨m, hm⟩ : ∃ m, n - 1 - p = m := ⟨_, rfl⟩
      obtain ⟨r1, r2⟩ := rev_at f hlt
      rw [hm] at r2
      have hmi : (n : Int) - 1 - (p : Int) = (m : Int) := by omega
      rw [hmi]
      have c1 := O1.out.cells (g := g) rfl p _ r1
      have c2 := O1.out.cells (g := g) rfl m _ r2
      rw [add_plain, Nat.zero_add] at c1 c2
      have O2 := O1.out.stored p (.int .i64 (f m))
      have O3 := O2.1.stored m (.int .i64 (f p))
      have hfz : ∀ j, wr.frozen? ⟨g, j, none⟩ = false := by
        rcases O1.out.2 with ⟨h', _⟩ | ⟨g', cap', cur, h', hb, hg, hnc, hcm, hcs, htake⟩
        · simp at h'
        · simp only [Value.slice.injEq, Option.some.injEq, Addr.mk.injEq, and_true, true_and] at h'
          obtain ⟨rfl, rfl⟩ := h'
          intro j; simp [World.frozen?, hg]
      have f1 := hfz p
      have f2 := hfz m
      have hpm : p ≠ m := by omega
      have hpi : (p : Int) < (m : Int) := by omega
      have hmn : (m : Int) < (n : Int) := by omega
      have HO3 := Lib.hid O3
      have HO2 := Lib.hid O2
      have ES := Lib.hid (rev_step n p f hlt)
      rw [hm] at ES
      have HMI := Lib.hid hmi
      clear O2 O3 hfz hm hmi r1 r2
      go_wp2
      go_region
      go_wp2
      have gz := grown_trans (grown_trans G1.out HO2.out.2) HO3.out.2
      go_roundw
      case rel => exact ⟨p + 1, by omega, by go_num, by congr 1; have := HMI.out; omega, by rw [← ES.out]; exact HO3.out.1, ⟨gz.os, gz.tape, gz.output, gz.size, gz.block⟩⟩
      case measure => simp [intOf]; omega
    · have hle : (n : Int) - 1 - (p : Int) ≤ (p : Int) := by omega
      go_wp2
      go_end0
      refine ⟨⟨_, rfl⟩, ?_, G1.out⟩
      have e := O1.out
      rw [← HF.out, ← hl.out, rev_end l p (by rw [hl.out]; exact hlt)] at e
      rw [← hl.out]
      exact e
attribute [local go_sem] Oper.semAt_some

def nearF (l : KT) (n : Nat) : List Int := (List.range n).map (nearN (edg l))
theorem near_row (l : KT) (n : Nat) : (nearF l n).map (Value.int .i64) = numsV n (nearN (edg l)) := by unfold nearF numsV; rw [List.map_map]; rfl
set_option maxRecDepth 100000 in
set_option maxHeartbeats 8000000 in
theorem nearest_any (l : KT) (g : GoodKT l) (n c1 : Nat) (A1 : Option Addr) (w : World) (hn : Hid (l.length = n)) (hn0 : 0 < n) (hn20 : n ≤ 20) (L1 : Hid (LLies w A1 (nxsL l))) :
    Calls Tryd.prog 20 #[.slice A1 n c1] w fun e w' => ∃ gr, e = .returned (.slice (some ⟨gr, 0, none⟩) n n) ∧ w.heap.size ≤ gr ∧ Blk w' gr 3 (numsV n (nearN (edg l))) ∧ Below w.heap.size w w' := by
  refine (callsIn_wide (n := 0)).1 ?_
  refine callsIn_of_wp_marks Tryd.func20 rfl trivial ?_ rfl
  simp only [Tryd.ntmps20, List.size_toArray, List.length_cons, List.length_nil, Nat.reduceAdd, Nat.reduceSub, Array.replicate_succ, Array.replicate_zero, List.push_toArray, List.append_toArray, List.nil_append, List.cons_append]
  have hrow0 : Blk (w.alloc (.cells #[.int .i64 (-1)] 3)) w.heap.size 3 [.int .i64 (-1)] := heap_alloc_new w _
  gi_wp2_with fail
  refine ⟨trivial, rfl, ?_⟩
  refine (callsIn_wide.2 (repeat_any (-1) n w.heap.size _ hn0 hn20 (Lib.hid hrow0))).mono ?_
  rintro e v1 ⟨rfl, hr1, hb1⟩
  rw [World.size_alloc] at hr1
  have R1 := Lib.hid (show Blk v1 (w.heap.size + 1) 3 (numsV n (fun _ => -1)) by rw [← numsV_const]; exact hr1)
  have B1 := Lib.hid (Below.tr (below1 _ _) hb1)
  have hz1 : w.heap.size + 1 < v1.heap.size := R1.out.lt
  clear hr1 hb1
  gi_wp2_with fail
  refine ⟨trivial, rfl, ?_⟩
  refine (callsIn_wide.2 (arcs_any _ _ _ _)).mono ?_
  rintro e w' ⟨rfl, rfl⟩
  gi_wp2_with fail
  obtain ⟨V, hV⟩ : ∃ V, (v1.alloc (.cells #[.slice (some ⟨w.heap.size + 1, 0, none⟩) n n] 24)).alloc (.cells #[.slice A1 n c1] 48) = V := ⟨_, rfl⟩
  obtain ⟨x0, x1⟩ := two_boxes v1 (.slice (some ⟨w.heap.size + 1, 0, none⟩) n n) 24 (.slice A1 n c1) 48
  have sz : V.heap.size = v1.heap.size + 2 := by rw [← hV]; simp
  have BV : Below v1.heap.size v1 V := by rw [← hV]; exact below2 _ _ _
  rw [hV] at x0 x1 ⊢
  clear hV
  have X1 := Lib.hid x1
  have RV := Lib.hid (R1.out.below BV)
  have BW := Lib.hid (Below.tr B1.out BV)
  have hT : ∀ i, (i < w.heap.size ∨ i = v1.heap.size + 1) → i < V.heap.size := fun i h => by omega
  refine rangeR (n := 0) (gf := 51) (lb := #[.pointer (some ⟨v1.heap.size + 1, 0, none⟩)]) rfl (enters_of Tryd.func51 (by kernel_rfl) rfl)
    (arcs_seq l g n c1 (v1.heap.size + 1) A1 V w _ hn hn20 hn0 L1 BW X1 (fun i h => .inl h) (.inr rfl) hT)
    (fun _ => rfl) hT
    (fun pre W => (∃ f, Blk W (w.heap.size + 1) 3 (numsV n f) ∧ NI l pre f) ∧ Blk W v1.heap.size 24 [.slice (some ⟨w.heap.size + 1, 0, none⟩) n n] ∧ Below w.heap.size w W) ?_ ?_
    (fun x => { tmps := #[.slice A1 n c1, undef, .slice none 0 0, .pointer (some ⟨v1.heap.size, 0, none⟩), .int .i64 x.1, .int .i64 x.2, .slice (some ⟨w.heap.size, 0, none⟩) 1 1, .slice A1 n c1, .int .i64 n, .slice (some ⟨w.heap.size + 1, 0, none⟩) n n, .slice A1 n c1, .func (.func 51) #[] #[.pointer (some ⟨v1.heap.size + 1, 0, none⟩)], .int .i64 x.1, .int .i64 x.2, undef, undef, undef, undef, undef, undef, undef, undef, undef, undef, undef, undef, undef, undef, undef, undef, undef, undef, undef, undef], defers := [] })
    ?assign ?body ?done
  · rintro s X Y ⟨⟨f, q1, q0⟩, q2, q3⟩ hk
    exact ⟨⟨f, hk.blk q1 (fun q => by unfold Prv at q; omega), q0⟩, hk.blk q2 (fun q => by unfold Prv at q; omega), hk.below q3 q3.size (fun i q => by unfold Prv at q; omega)⟩
  · exact ⟨⟨_, RV.out, ni_start l⟩, x0, BW.out⟩
  case assign =>
    intro l m x W K hK
    gi_wp2
    exact hK
  case body =>
    rintro l2 m2 pre p rest W hxs ⟨⟨f, q1, q0⟩, q2, q3⟩ hsz
    obtain ⟨a, d, rfl, had, hdn, -, har⟩ := arcs_mem g hxs
    rw [hn.out] at hdn
    have HXS := Lib.hid hxs
    have Q0 := Lib.hid q0
    have Q1 := Lib.hid q1
    have Q2 := Lib.hid q2
    have Q3 := Lib.hid q3
    have HAR := Lib.hid har
    have cd := (Q1.out.cell d).trans (numsV_at f hdn)
    have fd := Q1.out.frozen d
    have c3 := Q2.out.cell 0
    simp only [List.getElem?_cons_zero] at c3
    have hd' : (d : Int) < (n : Int) := by omega
    clear hxs q0 q1 q2 q3 har
    by_cases hm : f d = -1
    · have HM := Lib.hid hm
      rw [hm] at cd
      clear hm
      gi_wp2
      refine ⟨Kept.set.mono (fun i q => ⟨fun tt => by omega, fun p => by unfold Prv at p; omega⟩), ⟨_, ?_, ni_first g HXS.out Q0.out HM.out⟩, Q2.out.far (by omega) _, Q3.out.setCell (by simp) _⟩
      rw [← numsV_set]
      exact Q1.out.set d (.int .i64 a)
    · obtain ⟨v, hv, hvr, p, hpd, hpr, hvp, hpt⟩ := ni_reached g HXS.out Q0.out (by rw [hn.out]; exact hdn) hm
      have hva : v ≤ a := by
        have h1 := arcs_sorted l
        rw [HXS.out, List.pairwise_append] at h1
        have h2 := h1.2.2 _ hpt _ (List.mem_cons_self ..)
        simp only at h2
        omega
      have HV := Lib.hid hv
      obtain ⟨c, hc⟩ := last_ex (edg l) (v + a) v a (Nat.le_refl _) hvr HAR.out
      have HC := Lib.hid hc
      have HVR := Lib.hid hvr
      rw [hv] at cd
      have hne : ((v : Int) == (-1 : Int)) = false := by simp
      clear hm hv hpt hc hvr
      gi_wp2
      refine still_round 9 (by rintro ⟨_, _, h⟩; exact h) (by kernel_rfl) (by kernel_rfl) (by kernel_rfl) ?_
      simp only [List.take_succ_cons, List.take_zero, List.drop_succ_cons, List.drop_zero]
      still_step
      still_step
      still_step
      still_step
      still_step
      still_step
      still_step
      still_step
      still_call ((lastCommon_any (edg l) n a (w.heap.size + 1) v a c f _ (Lib.hid (show Blk W.drew (w.heap.size + 1) 3 (numsV n f) from Q1.out)) (Lib.hid (fun j hj => ni_done g HXS.out Q0.out hj)) (by omega) hva (Nat.le_refl _) HVR HAR HC).mono (fun e w' h => ⟨h.1, h.2.symm⟩))
      refine wpStill_nil ?_
      go_wp2
      have kz : Kept W (W.setCell ⟨w.heap.size + 1, d, none⟩ (.int .i64 c)) (fun i => i = w.heap.size + 1) := Kept.set
      have kd : Kept (W.setCell ⟨w.heap.size + 1, d, none⟩ (.int .i64 c)) (W.setCell ⟨w.heap.size + 1, d, none⟩ (.int .i64 c)).drew (fun i => i = w.heap.size + 1) := ⟨rfl, rfl, rfl, Nat.le_refl _, fun _ _ _ => rfl⟩
      refine ⟨(kz.trans kd).mono (fun i q => ⟨fun tt => by omega, fun p => by unfold Prv at p; omega⟩), ⟨_, ?_, ni_more g HXS.out Q0.out HV.out HC.out⟩, Q2.out.far (by omega) _, Below.drew (Q3.out.setCell (by simp) _)⟩
      rw [← numsV_set]
      exact Q1.out.set d (.int .i64 c)
  case done =>
    rintro D W rfl ⟨⟨f, q1, q0⟩, q2, q3⟩ hK
    have c3 := q2.cell 0
    simp only [List.getElem?_cons_zero] at c3
    gi_wp2
    refine ⟨by simp, .inl ⟨_, _, rfl, run_takeDeferred hK, ?_⟩⟩
    refine ⟨_, results_tmp rfl _ _ _, w.heap.size + 1, rfl, by omega, ?_, (Kept.put W _ _).below q3 q3.size (fun i q => by omega)⟩
    have e := (Kept.put W V.heap.size (.deferred none)).blk q1 (by omega)
    rw [numsV_ext (fun j hj => ni_end g q0 (by rw [hn.out]; exact hj))] at e
    exact e
def nearR (xs : List Stp) : List Int := nearF (ktOf xs) xs.length
set_option maxRecDepth 100000 in
set_option maxHeartbeats 4000000 in
theorem implNear_any (A : Option Addr) (n cap : Nat) (xs : List Stp) (w : World) (b : Bool) (l : List Int) (hr : Hid (TwoRes (Good xs) (nearR xs) b l)) (hl : Hid (Lies w A xs)) (hx : Hid (xs.length = n)) (hn : n ≤ 1048576) :
    Calls Tryd.prog 6 #[.slice A n cap] w (GaveTwo w l b) := by
  go_enter Tryd.func6, Tryd.ntmps6
  go_wp2_with fail
  refine (flowOf_any _ _ _ xs _ b (Lib.hid hr.out.1) hl hx hn).mono ?_
  rintro e w1 ⟨h1, h2⟩
  cases b
  · obtain ⟨rfl, hb1⟩ := h2 rfl
    have B1 := Lib.hid hb1
    clear hb1 h1 h2
    obtain rfl := hr.out.2.1 rfl
    go_wp2
    go_ret2
    exact two_nil w _ B1.out
  · obtain ⟨A1, c1, rfl, hl1, hb1⟩ := h1 rfl
    have B1 := Lib.hid hb1
    have L1 := Lib.hid hl1
    have GX := Lib.hid (hr.out.1.1 rfl)
    have hle := hr.out.2.2 rfl
    subst hle
    clear hb1 hl1 h1 h2
    obtain ⟨hn0, hn20⟩ := good_20 GX.out hx.out
    go_wp2_with fail
    refine (nearest_any (ktOf xs) (good_kt GX.out) n c1 A1 w1 (Lib.hid (by rw [ktOf_len]; exact hx.out)) hn0 hn20 L1).mono ?_
    rintro e w2 ⟨gr, rfl, hg, hrow, hb2⟩
    have R2 := Lib.hid hrow
    have B2 := Lib.hid (Below.tr B1.out hb2)
    have hz : w.heap.size ≤ gr := Nat.le_trans B1.out.size hg
    clear hrow hb2 hg
    go_wp2
    go_ret2
    have el : (nearR xs).length = n := by unfold nearR nearF; rw [List.length_map, List.length_range]; exact hx.out
    have e : (nearR xs).map (Value.int .i64) = numsV n (nearN (edg (ktOf xs))) := by unfold nearR; rw [near_row, hx.out]
    have ho := own_of_vblk R2.out (numsV_len _ _) hn
    rw [← e] at ho
    exact two_of el (own_base ho hz) B2.out
def mustR (xs : List Stp) (at_ : Int) : List Int := castL (domL (edg (ktOf xs)) at_.toNat)
abbrev ThereR (xs : List Stp) (n : Nat) (at_ : Int) : Prop := There xs n at_ ∧ rb (edg (ktOf xs)) 0 at_.toNat = true
set_option maxRecDepth 100000 in
set_option maxHeartbeats 8000000 in
theorem implMust_any (A : Option Addr) (n cap : Nat) (at_ : Int) (xs : List Stp) (w : World) (b : Bool) (l : List Int) (hr : Hid (TwoRes (ThereR xs n at_) (mustR xs at_) b l)) (hl : Hid (Lies w A xs)) (hx : Hid (xs.length = n)) (hn : n ≤ 1048576) :
    Calls Tryd.prog 11 #[.slice A n cap, .int .i64 at_] w (GaveTwo w l b) := by
  obtain ⟨i0, hi0, hz0, hz1, hz2⟩ := info_parts info_int
  obtain ⟨b0, l0, hr0⟩ := two_res (There xs n at_) []
  have HR0 := Lib.hid hr0
  clear hr0
  go_enter Tryd.func11, Tryd.ntmps11
  go_wp2_with fail
  refine (flowAround_any _ _ _ _ xs _ b0 (Lib.hid HR0.out.1) hl hx hn).mono ?_
  rintro e w1 ⟨h1, h2⟩
  cases b0
  · obtain ⟨rfl, hb1⟩ := h2 rfl
    have B1 := Lib.hid hb1
    clear hb1 h1 h2
    obtain ⟨rfl, rfl⟩ := hr.out.no (fun h => by have := HR0.out.1.2 h.1; cases this)
    go_wp2
    go_ret2
    exact two_nil w _ B1.out
  · obtain ⟨A1, c1, rfl, hl1, hb1⟩ := h1 rfl
    have B1 := Lib.hid hb1
    have L1 := Lib.hid hl1
    obtain ⟨GX, g0, g1⟩ := HR0.out.1.1 rfl
    obtain ⟨f, rfl⟩ := Int.eq_ofNat_of_zero_le g0
    have hfn : f < n := by omega
    have HGX := Lib.hid GX
    have hfn' : (f : Int) < (n : Int) := g1
    obtain ⟨hn0, hn20⟩ := good_20 GX hx.out
    clear hb1 hl1 h1 h2 GX
    go_wp2_with fail
    refine (nearest_any (ktOf xs) (good_kt HGX.out) n c1 A1 w1 (Lib.hid (by rw [ktOf_len]; exact hx.out)) hn0 hn20 L1).mono ?_
    rintro e w2 ⟨gr, rfl, hg, hrow, hb2⟩
    have R2 := Lib.hid hrow
    have B2 := Lib.hid (Below.tr B1.out hb2)
    have hz : w.heap.size ≤ gr := Nat.le_trans B1.out.size hg
    have cf := (R2.out.cell f).trans (numsV_at _ hfn)
    clear hrow hb2 hg
    by_cases hrb : rb (edg (ktOf xs)) 0 f = true
    · obtain ⟨rfl, rfl⟩ := hr.out.yes ⟨⟨HGX.out, by omega, g1⟩, by rw [Int.toNat_natCast]; exact hrb⟩
      have HRB := Lib.hid hrb
      clear hrb
      rcases Nat.eq_zero_or_pos f with hf0 | hf0
      · have hne0 : ((f : Int) != (0 : Int)) = false := by simp; omega
        clear hf0
        go_wp2
        go_loopw [9, 10] (fun pv sv wr => ∃ (P : List Nat) (A2 : Option Addr) (c2 : Nat), pv = .slice A2 P.length c2 ∧ wr.ownsRow w2.heap.size 3 1 (.slice A2 P.length c2) P.length ((castL P).map (Value.int .i64)) ∧ Below w2.heap.size w2 wr ∧
          ((∃ s : Nat, sv = .int .i64 s ∧ s ≤ f ∧ rb (edg (ktOf xs)) 0 s = true ∧ domL (edg (ktOf xs)) f = domL (edg (ktOf xs)) s ++ P.reverse) ∨ (sv = .int .i64 (-1) ∧ domL (edg (ktOf xs)) f = P.reverse))) (fun _ i _ => (intOf i + 1).toNat)
        case atStart => exact ⟨[], none, 0, rfl, World.ownsRow_nil _ _ _ _, Below.refl _ _, .inl ⟨f, rfl, Nat.le_refl _, HRB.out, by simp⟩⟩
        case round =>
          obtain ⟨P, A2, c2, rfl, hown, hbb, hcase⟩ := hrel
          have O1 := Lib.hid hown
          have C1 := Lib.hid hbb
          obtain ⟨k, hk⟩ : ∃ k, P.length = k := ⟨_, rfl⟩
          have HK := Lib.hid hk
          rw [hk] at O1
          clear hown hbb
          rcases hcase with ⟨s, rfl, hsf, hsr, hdom⟩ | ⟨rfl, hdom⟩
          · have HSR := Lib.hid hsr
            have HD := Lib.hid hdom
            have hkl : k ≤ 20 := by
              have h1 := congrArg List.length hdom
              have h2 : (domL (edg (ktOf xs)) f).length ≤ f + 1 := by have := List.length_filter_le (fun k => dm (edg (ktOf xs)) k f) (List.range (f + 1)); rw [List.length_range] at this; exact this
              rw [List.length_append, List.length_reverse] at h1
              omega
            have cs := ((R2.out.below C1.out).cell s).trans (numsV_at _ (by omega))
            have hsn : (s : Int) < (n : Int) := by omega
            have hne : ((s : Int) != (-1 : Int)) = true := by simp
            have hlt2 : gr < wr.heap.size := (R2.out.below C1.out).lt
            clear hsr hdom hk
            rw [HK.out]
            rcases Nat.eq_zero_or_pos s with hs0 | hs0
            · have HN := Lib.hid (near_none (E := edg (ktOf xs)) (i := s) (fun h => by omega))
              rw [HN.out] at cs
              have HS0 := Lib.hid hs0
              clear hs0
              go_wp2_with (at_builtin; (refine wpList_append_lies _ rfl _ _ 24 rfl w2.heap.size 3 i0 (.int .i64 0) 1 8 Tryd.underlying24 hi0 hz0 hz1 hz2 rfl (by omega) _ k _ rfl (O1.out.alloc _) ⟨wr.heap.size, 0, none⟩ 1 1 [.int .i64 s] rfl rfl (one_newT wr _ _) (by intro u hu; rw [List.mem_singleton.1 hu]; rfl) (by omega) (by unfold maxLen; omega) (by omega) (by have := C1.out.size; first | omega | (simp; omega)) (wr.heap.size + 1) (by first | rfl | simp) ?_; intro g4 cap4 w4 hown4 hg4 hat4 hlt4; have H4 := Lib.hid (app1 O1.out hown4 hg4 C1.out (Nat.le_refl _)); have cs4 := ((R2.out.below H4.out.2).cell s).trans (numsV_at _ (by omega)); rw [HN.out] at cs4; clear hown4 hg4))
              rw [show k + 1 = (P ++ [s]).length by simp [HK.out]]
              go_roundw
              case rel => exact ⟨P ++ [s], some ⟨g4, 0, none⟩, cap4, rfl, by rw [castL_app, List.length_append, HK.out]; exact H4.out.1, H4.out.2, .inr ⟨rfl, by rw [HD.out, HS0.out, dom_zero]; simp⟩⟩
              case measure => simp [intOf]
            · obtain ⟨d, hd, hds, hdr, hdc⟩ := near_char HSR.out (by omega)
              rw [hd] at cs
              have HNR := Lib.hid hd
              have HDR := Lib.hid hdr
              have HDC := Lib.hid hdc
              clear hd hdr hdc
              go_wp2_with (at_builtin; (refine wpList_append_lies _ rfl _ _ 24 rfl w2.heap.size 3 i0 (.int .i64 0) 1 8 Tryd.underlying24 hi0 hz0 hz1 hz2 rfl (by omega) _ k _ rfl (O1.out.alloc _) ⟨wr.heap.size, 0, none⟩ 1 1 [.int .i64 s] rfl rfl (one_newT wr _ _) (by intro u hu; rw [List.mem_singleton.1 hu]; rfl) (by omega) (by unfold maxLen; omega) (by omega) (by have := C1.out.size; first | omega | (simp; omega)) (wr.heap.size + 1) (by first | rfl | simp) ?_; intro g4 cap4 w4 hown4 hg4 hat4 hlt4; have H4 := Lib.hid (app1 O1.out hown4 hg4 C1.out (Nat.le_refl _)); have cs4 := ((R2.out.below H4.out.2).cell s).trans (numsV_at _ (by omega)); rw [HNR.out] at cs4; clear hown4 hg4))
              rw [show k + 1 = (P ++ [s]).length by simp [HK.out]]
              go_roundw
              case rel => exact ⟨P ++ [s], some ⟨g4, 0, none⟩, cap4, rfl, by rw [castL_app, List.length_append, HK.out]; exact H4.out.1, H4.out.2, .inl ⟨d, rfl, by omega, HDR.out, by rw [HD.out, dom_up HSR.out hds HDC.out HDR.out]; simp⟩⟩
              case measure => simp [intOf]; omega
          · have HD := Lib.hid hdom
            clear hdom hk
            rw [HK.out]
            have hkl : k ≤ 20 := by
              have h1 := congrArg List.length HD.out
              have h2 : (domL (edg (ktOf xs)) f).length ≤ f + 1 := by have := List.length_filter_le (fun k => dm (edg (ktOf xs)) k f) (List.range (f + 1)); rw [List.length_range] at this; exact this
              rw [List.length_reverse, HK.out] at h1
              omega
            go_wp2_with fail
            refine (reverse_any w2.heap.size k c2 A2 (castL P) wr O1 (Lib.hid (by rw [castL_len]; exact HK.out)) (by omega)).mono ?_
            rintro e w5 ⟨⟨v, rfl⟩, ho5, hg5⟩
            have O5 := Lib.hid ho5
            have B5 := Lib.hid (C1.out.grown hg5 C1.out.size (fun g e => (O1.out.lt g e).1))
            clear ho5 hg5
            go_wp2
            go_ret2
            have e1 : (castL P).reverse = mustR xs f := by
              unfold mustR
              rw [Int.toNat_natCast, HD.out]
              unfold castL
              rw [List.map_reverse]
            have e2 : (mustR xs f).length = k := by rw [← e1, List.length_reverse, castL_len]; exact HK.out
            have o5 := O5.out
            rw [e1] at o5
            exact two_of e2 (own_base o5 B2.out.size) (Below.tr B2.out B5.out)
      · have hne0 : ((f : Int) != (0 : Int)) = true := by simp; omega
        obtain ⟨d, hd, _⟩ := near_char HRB.out (by omega)
        rw [hd] at cf
        have hdm : ((d : Int) == (-1 : Int)) = false := by simp
        clear hd
        go_wp2
        go_loopw [9, 10] (fun pv sv wr => ∃ (P : List Nat) (A2 : Option Addr) (c2 : Nat), pv = .slice A2 P.length c2 ∧ wr.ownsRow w2.heap.size 3 1 (.slice A2 P.length c2) P.length ((castL P).map (Value.int .i64)) ∧ Below w2.heap.size w2 wr ∧
          ((∃ s : Nat, sv = .int .i64 s ∧ s ≤ f ∧ rb (edg (ktOf xs)) 0 s = true ∧ domL (edg (ktOf xs)) f = domL (edg (ktOf xs)) s ++ P.reverse) ∨ (sv = .int .i64 (-1) ∧ domL (edg (ktOf xs)) f = P.reverse))) (fun _ i _ => (intOf i + 1).toNat)
        case atStart => exact ⟨[], none, 0, rfl, World.ownsRow_nil _ _ _ _, Below.refl _ _, .inl ⟨f, rfl, Nat.le_refl _, HRB.out, by simp⟩⟩
        case round =>
          obtain ⟨P, A2, c2, rfl, hown, hbb, hcase⟩ := hrel
          have O1 := Lib.hid hown
          have C1 := Lib.hid hbb
          obtain ⟨k, hk⟩ : ∃ k, P.length = k := ⟨_, rfl⟩
          have HK := Lib.hid hk
          rw [hk] at O1
          clear hown hbb
          rcases hcase with ⟨s, rfl, hsf, hsr, hdom⟩ | ⟨rfl, hdom⟩
          · have HSR := Lib.hid hsr
            have HD := Lib.hid hdom
            have hkl : k ≤ 20 := by
              have h1 := congrArg List.length hdom
              have h2 : (domL (edg (ktOf xs)) f).length ≤ f + 1 := by have := List.length_filter_le (fun k => dm (edg (ktOf xs)) k f) (List.range (f + 1)); rw [List.length_range] at this; exact this
              rw [List.length_append, List.length_reverse] at h1
              omega
            have cs := ((R2.out.below C1.out).cell s).trans (numsV_at _ (by omega))
            have hsn : (s : Int) < (n : Int) := by omega
            have hne : ((s : Int) != (-1 : Int)) = true := by simp
            have hlt2 : gr < wr.heap.size := (R2.out.below C1.out).lt
            clear hsr hdom hk
            rw [HK.out]
            rcases Nat.eq_zero_or_pos s with hs0 | hs0
            · have HN := Lib.hid (near_none (E := edg (ktOf xs)) (i := s) (fun h => by omega))
              rw [HN.out] at cs
              have HS0 := Lib.hid hs0
              clear hs0
              go_wp2_with (at_builtin; (refine wpList_append_lies _ rfl _ _ 24 rfl w2.heap.size 3 i0 (.int .i64 0) 1 8 Tryd.underlying24 hi0 hz0 hz1 hz2 rfl (by omega) _ k _ rfl (O1.out.alloc _) ⟨wr.heap.size, 0, none⟩ 1 1 [.int .i64 s] rfl rfl (one_newT wr _ _) (by intro u hu; rw [List.mem_singleton.1 hu]; rfl) (by omega) (by unfold maxLen; omega) (by omega) (by have := C1.out.size; first | omega | (simp; omega)) (wr.heap.size + 1) (by first | rfl | simp) ?_; intro g4 cap4 w4 hown4 hg4 hat4 hlt4; have H4 := Lib.hid (app1 O1.out hown4 hg4 C1.out (Nat.le_refl _)); have cs4 := ((R2.out.below H4.out.2).cell s).trans (numsV_at _ (by omega)); rw [HN.out] at cs4; clear hown4 hg4))
              rw [show k + 1 = (P ++ [s]).length by simp [HK.out]]
              go_roundw
              case rel => exact ⟨P ++ [s], some ⟨g4, 0, none⟩, cap4, rfl, by rw [castL_app, List.length_append, HK.out]; exact H4.out.1, H4.out.2, .inr ⟨rfl, by rw [HD.out, HS0.out, dom_zero]; simp⟩⟩
              case measure => simp [intOf]
            · obtain ⟨d, hd, hds, hdr, hdc⟩ := near_char HSR.out (by omega)
              rw [hd] at cs
              have HNR := Lib.hid hd
              have HDR := Lib.hid hdr
              have HDC := Lib.hid hdc
              clear hd hdr hdc
              go_wp2_with (at_builtin; (refine wpList_append_lies _ rfl _ _ 24 rfl w2.heap.size 3 i0 (.int .i64 0) 1 8 Tryd.underlying24 hi0 hz0 hz1 hz2 rfl (by omega) _ k _ rfl (O1.out.alloc _) ⟨wr.heap.size, 0, none⟩ 1 1 [.int .i64 s] rfl rfl (one_newT wr _ _) (by intro u hu; rw [List.mem_singleton.1 hu]; rfl) (by omega) (by unfold maxLen; omega) (by omega) (by have := C1.out.size; first | omega | (simp; omega)) (wr.heap.size + 1) (by first | rfl | simp) ?_; intro g4 cap4 w4 hown4 hg4 hat4 hlt4; have H4 := Lib.hid (app1 O1.out hown4 hg4 C1.out (Nat.le_refl _)); have cs4 := ((R2.out.below H4.out.2).cell s).trans (numsV_at _ (by omega)); rw [HNR.out] at cs4; clear hown4 hg4))
              rw [show k + 1 = (P ++ [s]).length by simp [HK.out]]
              go_roundw
              case rel => exact ⟨P ++ [s], some ⟨g4, 0, none⟩, cap4, rfl, by rw [castL_app, List.length_append, HK.out]; exact H4.out.1, H4.out.2, .inl ⟨d, rfl, by omega, HDR.out, by rw [HD.out, dom_up HSR.out hds HDC.out HDR.out]; simp⟩⟩
              case measure => simp [intOf]; omega
          · have HD := Lib.hid hdom
            clear hdom hk
            rw [HK.out]
            have hkl : k ≤ 20 := by
              have h1 := congrArg List.length HD.out
              have h2 : (domL (edg (ktOf xs)) f).length ≤ f + 1 := by have := List.length_filter_le (fun k => dm (edg (ktOf xs)) k f) (List.range (f + 1)); rw [List.length_range] at this; exact this
              rw [List.length_reverse, HK.out] at h1
              omega
            go_wp2_with fail
            refine (reverse_any w2.heap.size k c2 A2 (castL P) wr O1 (Lib.hid (by rw [castL_len]; exact HK.out)) (by omega)).mono ?_
            rintro e w5 ⟨⟨v, rfl⟩, ho5, hg5⟩
            have O5 := Lib.hid ho5
            have B5 := Lib.hid (C1.out.grown hg5 C1.out.size (fun g e => (O1.out.lt g e).1))
            clear ho5 hg5
            go_wp2
            go_ret2
            have e1 : (castL P).reverse = mustR xs f := by
              unfold mustR
              rw [Int.toNat_natCast, HD.out]
              unfold castL
              rw [List.map_reverse]
            have e2 : (mustR xs f).length = k := by rw [← e1, List.length_reverse, castL_len]; exact HK.out
            have o5 := O5.out
            rw [e1] at o5
            exact two_of e2 (own_base o5 B2.out.size) (Below.tr B2.out B5.out)
    · obtain ⟨rfl, rfl⟩ := hr.out.no (fun h => hrb (by have := h.2; rw [Int.toNat_natCast] at this; exact this))
      have hf0 : f ≠ 0 := fun e => hrb (by rw [e]; exact rb_self _ _)
      rw [near_none (fun h => hrb h.1)] at cf
      have hne : ((f : Int) != (0 : Int)) = true := by simp; omega
      go_wp2
      go_ret2
      exact two_nil w _ B2.out
end Go.Proofs.YtilnegmjnbffhaaDoor
