/-
  Contracts of Reduce: the program's and the model's.
-/
import Derived.Test.YtklcfbjaodildaaProp3
namespace Go.Proofs.Ytklcfbjaodildaa
open Go.ChangeShapes Go.WideShapes Go.ChangeAt Go.RowKit

/-- a list of lists grows by one -/
theorem OwnSS.grow {w wr wj w3 : World} {A2 : Option Addr} {n c2 g3 cap3 : Nat} {vs : List Value} {R : List (List Int)} {o : List Int} {A3 : Option Addr} {c3 : Nat} (hn : R.length = n)
    (O : OwnSS wr w.heap.size (.slice A2 n c2) vs R) (B : Below w.heap.size w wr) (BJ : Below wr.heap.size wr wj)
    (ho : wj.ownsRow wr.heap.size 3 1 (.slice A3 o.length c3) o.length (o.map (Value.int .i64)))
    (hown3 : w3.ownsRow w.heap.size 55 1 (.slice (some ⟨g3, 0, none⟩) (n + 1) cap3) (n + 1) (vs ++ [.slice A3 o.length c3]))
    (hg3 : (wj.alloc (.cells #[.slice A3 o.length c3] 55)).grownBy w3 (Value.slice A2 n c2).ownBlock)
    (hat : (Value.slice A2 n c2).ownBlock = some g3 ∨ g3 = wj.heap.size + 1) :
    OwnSS w3 w.heap.size (.slice (some ⟨g3, 0, none⟩) (n + 1) cap3) (vs ++ [.slice A3 o.length c3]) (R ++ [o]) ∧ Below w.heap.size w w3 := by
  have hlt : ∀ g, (Value.slice A2 n c2).ownBlock = some g → w.heap.size ≤ g ∧ g < wr.heap.size := fun g h => O.outer.lt g h
  have hka := below1 wj (.cells #[.slice A3 o.length c3] 55)
  have hk : Kept (wj.alloc (.cells #[.slice A3 o.length c3] 55)) w3 (fun g => (Value.slice A2 n c2).ownBlock = some g) := Kept.of_grown hg3 (fun g h => h)
  have hsz := BJ.size
  have hin : Inner w3 w.heap.size vs R := (((O.inner.below BJ).below hka).kept hk (fun g h q => O.off g h q))
  have hbo : ∀ g, (Value.slice A3 o.length c3).ownBlock = some g → wr.heap.size ≤ g ∧ g < wj.heap.size := fun g h => ho.lt g h
  have hno : w3.ownsRow w.heap.size 3 1 (.slice A3 o.length c3) o.length (o.map (Value.int .i64)) :=
    own_base (hk.own (own_below ho hka) (fun g h q => by have := hbo g h; have := hlt g q; omega)) B.size
  have hin2 : Inner w3 w.heap.size (vs ++ [.slice A3 o.length c3]) (R ++ [o]) := hin.snoc (b := wr.heap.size) hno (fun g h => (O.inner.lt g h).2) (fun g h => (hbo g h).1)
  refine ⟨⟨?_, hin2, ?_⟩, ?_⟩
  · rw [List.length_append, hn]
    exact hown3
  · intro g hg e
    have e' : g = g3 := by simp [Value.ownBlock] at e; exact e.symm
    subst e'
    obtain ⟨i, x, hx, hxb⟩ := hg
    by_cases hi : i < vs.length
    · rw [List.getElem?_append_left hi] at hx
      rcases hat with h | h
      · exact O.off g ⟨i, x, hx, hxb⟩ h
      · have := (O.inner.lt g ⟨i, x, hx, hxb⟩).2; omega
    · rw [List.getElem?_append_right (by omega)] at hx
      have hi1 : i - vs.length < 1 := by have := (List.getElem?_eq_some_iff.1 hx).1; simpa using this
      rw [show i - vs.length = 0 by omega] at hx
      simp at hx
      subst hx
      have h1 := hbo g hxb
      rcases hat with h | h
      · have := hlt g h; omega
      · omega
  · exact (Below.tr (Below.tr B (BJ.mono (Nat.le_refl _))) hka).grown hg3 (by have := B.size; simp; omega) (fun g h => (hlt g h).1)
theorem OwnSS.nil (w : World) (base : Nat) : OwnSS w base (.slice none 0 0) [] [] := ⟨World.ownsRow_nil _ _ _ _, Inner.nil _ _, fun g h => by obtain ⟨i, x, hx, _⟩ := h; simp at hx⟩
theorem reduceL_at (known : List Int) (L : List (List Int)) (k : Nat) (c : List Int) (h : L[k]? = some c) :
    reduceL known (L.take (k + 1)) = reduceL known (L.take k) ++ (if (c.any fun x => known.contains x) then [] else [lf known c]) := by
  have hlt : k < L.length := (List.getElem?_eq_some_iff.1 h).1
  have e : L[k] = c := (List.getElem?_eq_some_iff.1 h).2
  unfold reduceL
  rw [List.take_succ_eq_append_getElem hlt, List.filter_append, List.map_append, e]
  congr 1
  cases q : (c.any fun x => known.contains x)
  · rw [List.filter_cons, if_pos (by rw [q]; rfl)]
    rfl
  · rw [List.filter_cons, if_neg (by rw [q]; simp)]
    rfl
theorem tot_snoc (R : List (List Int)) (o : List Int) : tot (R ++ [o]) = tot R + o.length := by simp [tot]
theorem lf_len (known c : List Int) : (lf known c).length ≤ c.length := List.length_filter_le _ _
/-- it answers a slice of slices of its own, and a bool -/
def GaveSS (w : World) (R : List (List Int)) (b : Bool) (e : Ending) (w' : World) : Prop :=
  ∃ A c vs, e = .returned (.tuple #[.slice A R.length c, .bool b]) ∧ OwnSS w' w.heap.size (.slice A R.length c) vs R ∧ Below w.heap.size w w'
/-- what Reduce answers -/
def RedR (v : Int) (L : List (List Int)) (given : List Int) (R : List (List Int)) (ok : Bool) : Prop :=
  ok = (goodB v L && clauseB v given) ∧ R = (if ok then reduceL given L else [])
theorem red_len (known : List Int) (L : List (List Int)) : (reduceL known L).length ≤ L.length := by
  unfold reduceL
  rw [List.length_map]
  exact List.length_filter_le _ _
theorem red_tot (known : List Int) (L : List (List Int)) (h : ∀ c ∈ L, c.length ≤ 12) : tot (reduceL known L) ≤ 12 * L.length := by
  induction L with
  | nil => simp [reduceL, tot]
  | cons c t ih =>
    have := ih (fun d hd => h d (by simp [hd]))
    have hc := h c (by simp)
    have hl := lf_len known c
    unfold reduceL at this ⊢
    rw [List.filter_cons]
    split
    · rw [List.map_cons]
      have e : ∀ (a : List Int) (T : List (List Int)), tot (a :: T) = a.length + tot T := fun a T => by simp [tot]
      rw [e, List.length_cons]
      unfold lf at hl
      omega
    · rw [List.length_cons]
      omega
theorem RedR.small {v : Int} {L : List (List Int)} {given : List Int} {R : List (List Int)} {ok : Bool} (h : RedR v L given R ok) : R.length ≤ 1000 ∧ tot R ≤ 1000 := by
  obtain ⟨h1, h2⟩ := h
  cases ok
  · subst h2; simp [tot]
  · have hg : goodB v L = true := by cases hh : goodB v L <;> simp [hh] at h1 ⊢
    have h3 := goodB_len hg
    subst h2
    have h4 := red_len given L
    have h5 := red_tot given L (fun c hc => clauseB_len (goodB_cl hg c hc))
    simp
    omega
theorem notin_snoc {known c : List Int} {j : Nat} {x : Int} (h : ∀ y ∈ c.take j, y ∉ known) (hx : c[j]? = some x) (hn : x ∉ known) : ∀ y ∈ c.take (j + 1), y ∉ known := by
  rw [take_snoc hx]
  intro y hy
  simp at hy
  rcases hy with hy | rfl
  · exact h y hy
  · exact hn
theorem any_yes {known c : List Int} {x : Int} (hx : x ∈ c) (hk : x ∈ known) : (c.any fun x => known.contains x) = true := by
  rw [List.any_eq_true]
  exact ⟨x, hx, by simpa using hk⟩

end Go.Proofs.Ytklcfbjaodildaa
