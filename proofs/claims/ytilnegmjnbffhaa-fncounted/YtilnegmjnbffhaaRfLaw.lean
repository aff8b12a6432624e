/-
  A range over an iterator that keeps state in blocks of its own: what such an iterator promises, and the law of the statement (a loop that is no part of another, whose rounds all go on).
-/
import Derived.RangeFuncNested
import Derived.RangeFuncBound
import Derived.RangeFuncCalls
import Derived.RangeFuncLeaves
import Derived.Shelf.Abstract
import Derived.Shelf.RegionOpen
import Derived.OwnWalkIn
import Derived.TacticsInMore
import Derived.LoopNIn
import Derived.LoopIn
import Derived.Test.YtilnegmjnbffhaaKept
namespace Go.Proofs.Ytilnegmjnbffhaa
open Go.ChangeShapes Go.WideShapes Go.ChangeAt Go.RowKit

/-- k blocks from H on -/
def Prv (H k : Nat) : Nat → Prop := fun i => H ≤ i ∧ i < H + k
/-- the blocks that a round may turn: none of the iterator's k blocks from H on, none of T -/
def Rnd (T : Nat → Prop) (H k : Nat) : Nat → Prop := fun i => ¬ T i ∧ ¬ Prv H k i
/-- the iterator gives xs, one by one, if each round goes on; it keeps its state in the k blocks that it makes first -/
def SeqR {α : Type} (P : Program) (g : Nat) (lb : Array Value) (encs : α → Array Value) (xs : List α) (k : Nat) (T : Nat → Prop) (w : World) : Prop :=
  ∀ (l : Nat) (J : List α → World → Prop) (W : World), Below w.heap.size w W →
    (∀ s A B, J s A → Kept A B (Prv W.heap.size k) → J s B) →
    (∀ (m : Nat) (pre : List α) (x : α) (rest : List α) (W1 : World), xs = pre ++ x :: rest → J pre W1 → W.heap.size + k ≤ W1.heap.size →
      YieldAt Fence.wide m P l (encs x) W1 fun e W' => e = .returned (.bool true) ∧ J (pre ++ [x]) W' ∧ Kept W1 W' (Rnd T W.heap.size k)) →
    J [] W →
    Calls P g (#[.func (.yield l) #[] #[]] ++ lb) W fun e W' => (∃ v, e = .returned v) ∧ J xs W'
/-- the round goes on -/
def goesOn (R : World → Prop) : Exit → Act → World → Prop
  | .normal, _, W' => R W'
  | _, _, _ => False
theorem Kept.put (W : World) (l : Nat) (o : Obj) : Kept W (W.putObj l o) (fun i => i = l) := Kept.of_grown (grownBy_putObj' W l o) (fun g e => by cases e; rfl)

theorem rangeR {α : Type} {P : Program} {n : Nat} {g : Operand} {ps : Array Tmp} {assign body : Code} {Q : Exit → Act → World → Prop} {a : Act} {w : World} {gf : Nat} {lb : Array Value}
    (hg : a.eval g = .func (.func gf) #[] lb) (eg : ∀ args w, (callFunc gf args).run P w = .ok (.enter gf args) w)
    {encs : α → Array Value} {xs : List α} {k : Nat} {T : Nat → Prop} (hseq : SeqR P gf lb encs xs k T w) (hps : ∀ x, (encs x).size = ps.size) (hT : ∀ i, T i → i < w.heap.size)
    (I : List α → World → Prop) (hI : ∀ s A B, I s A → Kept A B (Prv w.heap.size (2 + k)) → I s B) (h0 : I [] w) (a1 : α → Act)
    (hassign : ∀ (l m : Nat) (x : α) (W : World) (K : Act → World → Prop), K (a1 x) W →
      assign.wpIn (Fence.wide.inRound l) m P (Exit.then K (fun _ _ _ => False)) { tmps := (ps.zip (encs x)).foldl (fun t (p, v) => t.setIfInBounds p v) a.tmps, defers := [] } W)
    (hbody : ∀ (l m : Nat) (pre : List α) (x : α) (rest : List α) (W : World), xs = pre ++ x :: rest → I pre W → w.heap.size + (2 + k) ≤ W.heap.size →
      body.wpIn (Fence.wide.inRound l) m P (goesOn fun W' => Kept W W' (Rnd T w.heap.size (2 + k)) ∧ I (pre ++ [x]) W') (a1 x) W)
    (hdone : ∀ (D : Nat) (W : World), D = w.heap.size → I xs W → W.heap[D]? = some (.deferred (some [])) → Q .normal { a with defers := { target := .collected D, args := #[] } :: a.defers } W) :
    (Code.rangeFunc g ps assign body).wpIn Fence.wide n P Q a w := by
  refine wpIn_rangeFunc (fun fn hfn => ?_)
  -- the record, by its state; the world in which the iterator is called
  let rec' : LoopState → Loop := fun st => { state := st, pending := none, fn, tmps := a.tmps, params := ps, assign, body, defers := w.heap.size }
  obtain ⟨rc, hrc⟩ : ∃ rc, rec' = rc := ⟨_, rfl⟩
  obtain ⟨V, hV⟩ : ∃ V, (w.alloc (.deferred (some []))).alloc (.loop (rc .ready)) = V := ⟨_, rfl⟩
  have sz : V.heap.size = w.heap.size + 2 := by rw [← hV]; simp
  have hD : V.heap[w.heap.size]? = some (.deferred (some [])) := by
    rw [← hV]; exact (Below.heap_alloc _ _ _ (by simp)).trans (World.alloc_heap_new w _)
  have hR : V.heap[w.heap.size + 1]? = some (.loop (rc .ready)) := by
    rw [← hV]; have := World.alloc_heap_new (w.alloc (.deferred (some []))) (.loop (rc .ready)); rwa [World.size_alloc] at this
  have hB : Below w.heap.size w V := by rw [← hV]; exact below2 w _ _
  refine ⟨w.heap.size + 1, [{ target := .collected w.heap.size, args := #[] }], V, { target := .fn (.func gf) lb, args := #[.func (.yield (w.heap.size + 1)) #[] #[]] }, V, gf,
    #[.func (.yield (w.heap.size + 1)) #[] #[]] ++ lb, V, ?_, ?_, fun _ _ => trivial, ?_, (fun h => absurd h (by decide)), ?_⟩
  · rw [← hV, ← hrc]; exact run_enterLoop_outer _ _ _ _ _
  · simp only [resolve, hg]
    simp [go_sem]
  · simp [invoke, go_sem, eg]
  · have inP : ∀ i, Prv V.heap.size k i → Prv w.heap.size (2 + k) i := fun i h => by unfold Prv at h ⊢; omega
    have outD : ¬ Prv V.heap.size k w.heap.size := fun h => by unfold Prv at h; omega
    have outR : ¬ Prv V.heap.size k (w.heap.size + 1) := fun h => by unfold Prv at h; omega
    have lt_of : ∀ {A : World} {i : Nat} {o : Obj}, A.heap[i]? = some o → i < A.heap.size := fun h => (Array.getElem?_eq_some_iff.1 h).1
    refine callsIn_wide.2 ((hseq (w.heap.size + 1) (fun pre W => I pre W ∧ W.heap[w.heap.size]? = some (.deferred (some [])) ∧ W.heap[w.heap.size + 1]? = some (.loop (rc .ready))) V hB ?_ ?_ ?_).mono ?_)
    · rintro s A B ⟨h1, h2, h3⟩ hk
      exact ⟨hI s A B h1 (hk.mono inP), (hk.block _ (lt_of h2) outD).trans h2, (hk.block _ (lt_of h3) outR).trans h3⟩
    · rintro m pre x rest W hx ⟨h1, h2, h3⟩ hsz
      have hy := run_yield (P := P) (args := encs x) h3 (by rw [← hrc]; exact hps x)
      rw [← hrc] at hy
      refine ⟨fn, _, assign, body, hy, roundIn_of_wpIn hfn (hassign _ m x W _ ⟨_, run_beginRound h3 (by rw [← hrc]), ?_⟩)⟩
      have e1 : ∀ st, ({ rc .ready with state := st } : Loop) = rc st := fun st => by rw [← hrc]
      rw [e1]
      obtain ⟨W2, hW2⟩ : ∃ W2, W.putObj (w.heap.size + 1) (.loop (rc .busy)) = W2 := ⟨_, rfl⟩
      have k2 : Kept W W2 (fun i => i = w.heap.size + 1) := by rw [← hW2]; exact Kept.put _ _ _
      have hR2 : W2.heap[w.heap.size + 1]? = some (.loop (rc .busy)) := by rw [← hW2]; exact World.putObj_heap_same (lt_of h3)
      have hD2 : W2.heap[w.heap.size]? = some (.deferred (some [])) := (k2.block _ (lt_of h2) (by omega)).trans h2
      rw [hW2]
      have i2 : I pre W2 := hI _ _ _ h1 (k2.mono fun i h => by unfold Prv; omega)
      refine wpIn_mono (hbody _ m pre x rest W2 hx i2 (by have := k2.size; omega)) ?_
      intro e a3 W3 h
      cases e with
      | normal =>
        obtain ⟨k3, i3⟩ := h
        have nP : ∀ i, i = w.heap.size ∨ i = w.heap.size + 1 → ¬ Rnd T w.heap.size (2 + k) i := fun i hi hr => hr.2 (by unfold Prv; omega)
        have hR3 : W3.heap[w.heap.size + 1]? = some (.loop (rc .busy)) := (k3.block _ (lt_of hR2) (nP _ (.inr rfl))).trans hR2
        have hD3 : W3.heap[w.heap.size]? = some (.deferred (some [])) := (k3.block _ (lt_of hD2) (nP _ (.inl rfl))).trans hD2
        have he := run_endRound (P := P) none hR3
        have e2 : ({ rc .busy with state := if (none : Option Code).isNone then .ready else .done, pending := none } : Loop) = rc .ready := by rw [← hrc]; rfl
        rw [e2] at he
        refine ⟨_, _, he, rfl, ⟨hI _ _ _ i3 ((Kept.put W3 _ _).mono fun i h => by unfold Prv; omega), ?_, World.putObj_heap_same (lt_of hR3)⟩, ?_⟩
        · exact (World.putObj_heap_other (by omega)).trans hD3
        · have m1 : ∀ i, i = w.heap.size + 1 → Rnd T V.heap.size k i := fun i hi => ⟨fun h => by have := hT i h; omega, by subst hi; exact outR⟩
          have m2 : ∀ i, Rnd T w.heap.size (2 + k) i → Rnd T V.heap.size k i := fun i hi => ⟨hi.1, fun h => hi.2 (inP i h)⟩
          exact ((k2.mono m1).trans (k3.mono m2)).trans ((Kept.put W3 _ _).mono m1)
      | ret => exact h.elim
      | exit id => exact h.elim
      | goto t => exact h.elim
      | panic ch => exact h.elim
      | outgrown => exact h.elim
    · exact ⟨hI _ _ _ h0 (Kept.of_below hB), hD, hR⟩
    · rintro e W2 ⟨⟨v, rfl⟩, i2, h2, h3⟩
      have he := run_endLoop (P := P) h3 (by rw [← hrc]; simp [rec'])
      have kp := Kept.put W2 (w.heap.size + 1) (.loop { rc .ready with state := .exhausted, pending := none })
      have i3 := hI _ _ _ i2 (kp.mono fun i h => by unfold Prv; omega)
      have d3 := (World.putObj_heap_other (w := W2) (r := w.heap.size + 1) (k := w.heap.size) (o := .loop { rc .ready with state := .exhausted, pending := none }) (by omega)).trans h2
      refine ⟨none, W2.putObj (w.heap.size + 1) (.loop { rc .ready with state := .exhausted, pending := none }), ?_, hdone _ _ rfl i3 d3⟩
      rw [← hrc] at he ⊢
      exact he
end Go.Proofs.Ytilnegmjnbffhaa
