/-
  Solve and SolveWith, the program's and the model's; FollowsFrom.
-/
import Derived.Test.YtklcfbjaodildaaSolveS
namespace Go.Proofs.Ytklcfbjaodildaa
open Go.ChangeShapes Go.WideShapes Go.ChangeAt Go.RowKit

theorem good_tot {v : Int} {L : List (List Int)} (h : goodB v L = true) : tot L ≤ 720 := by
  have h1 := tot_few (R := L) (fun c hc => clauseB_len (goodB_cl h c hc))
  have h2 := goodB_len h
  unfold tot
  omega
/-- each as a clause of its own -/
def sing (l : List Int) : List (List Int) := l.map fun x => [x]
theorem sing_len (l : List Int) : (sing l).length = l.length := by simp [sing]
theorem sing_at {l : List Int} {k : Nat} {x : Int} (h : l[k]? = some x) : sing (l.take (k + 1)) = sing (l.take k) ++ [[x]] := by
  unfold sing
  rw [take_snoc h, List.map_append]
  rfl
theorem sing_tot (l : List Int) : tot (sing l) = l.length := by
  induction l with
  | nil => rfl
  | cons x t ih => simp [sing, tot] at ih ⊢; omega
theorem good_sing {v : Int} {L : List (List Int)} {g : List Int} (h1 : goodB v L = true) (h2 : clauseB v g = true) : goodB v (L ++ sing g) = decide (L.length + g.length ≤ 60) := by
  have hv := goodB_v h1
  have hall : (L ++ sing g).all (clauseB v) = true := by
    rw [List.all_eq_true]
    intro c hc
    rcases List.mem_append.1 hc with q | q
    · exact goodB_cl h1 c q
    · obtain ⟨x, hx, rfl⟩ := List.mem_map.1 q
      have := clauseB_lits h2 x hx
      simp [clauseB, clOk, this]
  unfold goodB
  rw [hall, List.length_append, sing_len]
  simp [hv.1, hv.2]
/-- what SolveWith answers -/
def WithR (v : Int) (L : List (List Int)) (g : List Int) (s : Bool) (M : List Bool) (R : List (List Int)) (ok : Bool) : Prop :=
  if (goodB v L && clauseB v g) = true then SolR v (L ++ sing g) s M R ok else s = false ∧ M = [] ∧ R = [] ∧ ok = false
theorem withR_any (v : Int) (L : List (List Int)) (g : List Int) : ∃ s M R ok, WithR v L g s M R ok := by
  unfold WithR
  split
  · exact solR_any _ _
  · exact ⟨_, _, _, _, rfl, rfl, rfl, rfl⟩
theorem WithR.small {v : Int} {L : List (List Int)} {g : List Int} {s : Bool} {M : List Bool} {R : List (List Int)} {ok : Bool} (h : WithR v L g s M R ok) : M.length ≤ 12 ∧ R.length ≤ 300 ∧ tot R ≤ 3600 := by
  unfold WithR at h
  split at h
  · have := h.small; exact ⟨this.1, this.2.1, this.2.2.1⟩
  · obtain ⟨_, rfl, rfl, _⟩ := h; simp [tot]
theorem WithR.no {v : Int} {L : List (List Int)} {g : List Int} {s : Bool} {M : List Bool} {R : List (List Int)} {ok : Bool} (h : WithR v L g s M R ok) (hn : (goodB v L && clauseB v g) = false) : s = false ∧ M = [] ∧ R = [] ∧ ok = false := by
  unfold WithR at h
  rw [hn] at h
  simpa using h
theorem WithR.yes {v : Int} {L : List (List Int)} {g : List Int} {s : Bool} {M : List Bool} {R : List (List Int)} {ok : Bool} (h : WithR v L g s M R ok) (h1 : goodB v L = true) (h2 : clauseB v g = true) : SolR v (L ++ sing g) s M R ok := by
  unfold WithR at h
  rw [h1, h2] at h
  simpa using h

/-- a list of lists of one's own, its inner lists anyone's -/
structure CR (w : World) (base : Nat) (v : Value) (vs : List Value) (L : List (List Int)) : Prop where
  outer : w.ownsRow base 55 1 v L.length vs
  rows : Rows0 w (fun g => g < w.heap.size ∧ v.ownBlock ≠ some g) vs L
theorem CR.lies {w : World} {base n c : Nat} {A : Option Addr} {vs : List Value} {L : List (List Int)} (h : CR w base (.slice A n c) vs L) : LLies w A L := by
  intro i l hl
  have hlt : i < L.length := (List.getElem?_eq_some_iff.1 hl).1
  obtain ⟨a, cc, h1, h2, h3, h4, _⟩ := h.rows.2 i l hl
  obtain ⟨g, cap, hv, _, hg⟩ := h.outer.form (by omega)
  have hA : A = some ⟨g, 0, none⟩ := by injection hv
  subst hA
  refine ⟨g, 0, a, cc, rfl, hg, ?_, h2, h3, h4⟩
  have := h.outer.cells (g := g) rfl i _ h1
  rw [add_plain] at this
  exact this
theorem CR.grow {wr wj w3 : World} {base : Nat} {A2 : Option Addr} {n c2 g3 cap3 : Nat} {vs : List Value} {R : List (List Int)} {o : List Int} {A3 : Option Addr} {c3 : Nat}
    (h : CR wr base (.slice A2 n c2) vs R) (hn : R.length = n) (BJ : Below wr.heap.size wr wj)
    (ho : wj.ownsRow wr.heap.size 3 1 (.slice A3 o.length c3) o.length (o.map (Value.int .i64)))
    (hown3 : w3.ownsRow base 55 1 (.slice (some ⟨g3, 0, none⟩) (n + 1) cap3) (n + 1) (vs ++ [.slice A3 o.length c3]))
    (hg3 : (wj.alloc (.cells #[.slice A3 o.length c3] 55)).grownBy w3 (Value.slice A2 n c2).ownBlock)
    (hat : (Value.slice A2 n c2).ownBlock = some g3 ∨ g3 = wj.heap.size + 1) :
    CR w3 base (.slice (some ⟨g3, 0, none⟩) (n + 1) cap3) (vs ++ [.slice A3 o.length c3]) (R ++ [o]) := by
  have hk := kept_app hg3
  have hsz := BJ.size
  have hs3 := hk.size
  have hold : ∀ g, (Value.slice A2 n c2).ownBlock = some g → g < wr.heap.size := fun g e => (h.outer.lt g e).2
  have own3 : ∀ g, (Value.slice (some ⟨g3, 0, none⟩) (n + 1) cap3).ownBlock = some g → g = g3 := fun g e => by simp [Value.ownBlock] at e; exact e.symm
  have hlen := h.rows.1
  refine ⟨by rw [List.length_append, hn]; exact hown3, by simp [hlen], fun i l hl => ?_⟩
  by_cases hi : i < R.length
  · rw [List.getElem?_append_left hi] at hl
    obtain ⟨a, c, h1, h2, h3, h4, h5⟩ := h.rows.2 i l hl
    refine ⟨a, c, by rw [List.getElem?_append_left (by omega)]; exact h1, h2, h3, (h4.below BJ).kept hk (fun ad e p q => (h5 ad e p).2 q), fun ad e p => ?_⟩
    have h6 := h5 ad e p
    refine ⟨by omega, fun q => ?_⟩
    have q' := own3 _ q
    rcases hat with r | r
    · exact h6.2 (by rw [q']; exact r)
    · omega
  · rw [List.getElem?_append_right (by omega)] at hl
    have : i - R.length < 1 := by have := (List.getElem?_eq_some_iff.1 hl).1; simpa using this
    obtain rfl : i = R.length := by omega
    simp at hl
    subst hl
    refine ⟨A3, c3, by rw [← hlen]; simp, own_cap ho, own_maxlen ho, (own_ilies ho).kept hk (fun ad e _ q => ?_), fun ad e _ => ?_⟩
    · have := ho.lt ad.block (by rw [e]; rfl)
      have := hold _ q
      omega
    · have h1 := ho.lt ad.block (by rw [e]; rfl)
      refine ⟨by omega, fun q => ?_⟩
      have q' := own3 _ q
      rcases hat with r | r
      · have := hold _ r; omega
      · omega
theorem sing_own (w : World) (x : Int) : (w.alloc (.cells #[.int .i64 x] 3)).ownsRow w.heap.size 3 1 (.slice (some ⟨w.heap.size, 0, none⟩) [x].length 1) [x].length ([x].map (Value.int .i64)) :=
  own_row w [x] w.heap.size (Nat.le_refl _) (by unfold maxLen; simp)
/-- what FollowsFrom answers -/
def FolR (v : Int) (L : List (List Int)) (c : List Int) (f ok : Bool) : Prop := ∃ s M R, WithR v L (negL c) s M R ok ∧ f = (ok && !s)
theorem folR_any (v : Int) (L : List (List Int)) (c : List Int) : ∃ f ok, FolR v L c f ok := by
  obtain ⟨s, M, R, ok, h⟩ := withR_any v L (negL c)
  exact ⟨_, ok, s, M, R, h, rfl⟩
theorem FolR.no {v : Int} {L : List (List Int)} {c : List Int} {f ok : Bool} (h : FolR v L c f ok) (hn : (goodB v L && clauseB v c) = false) : f = false ∧ ok = false := by
  obtain ⟨s, M, R, h1, h2⟩ := h
  obtain ⟨_, _, _, rfl⟩ := h1.no (by rw [clauseB_neg']; exact hn)
  exact ⟨h2, rfl⟩
end Go.Proofs.Ytklcfbjaodildaa
