/-
  SameModels, the program's and the model's.
-/
import Derived.Test.YtklcfbjaodildaaWith
import Derived.Test.YtklcfbjaodildaaCountM
import Derived.Deep.Upon
import Derived.Lib.AppendZeros
namespace Go.Proofs.Ytklcfbjaodildaa
open Go.ChangeShapes Go.WideShapes Go.ChangeAt Go.RowKit

/-- an append of a slice of slices onto a row of one's own, both nil and empty let in -/
theorem append_rowsN {w1 : World} {base n c m c2 : Nat} {A B : Option Addr} {xs vs : List Value} {ops : Array Oper} {rest : List Oper} {o : Oper} {a : Act} {Q : Exit → Act → World → Prop} (s x : Operand)
    (hg : o.guard = none) (hop : o.op = Op.call { callee := Callee.builtin Builtin.append, args := #[s, x], argTypes := #[23, 23] })
    (hs : a.eval s = .slice A n c) (hx : a.eval x = .slice B m c2) (ho : w1.ownsRow base 55 1 (.slice A n c) n xs)
    (hc : ∀ ad, B = some ad → ∀ j u, vs[j]? = some u → w1.cell? (ad.add j) = some u) (h1 : ∀ u ∈ vs, u.oneCell' = true) (hm : vs.length = m) (HN : B = none → m = 0 ∧ c2 = 0) (hb : base ≤ w1.heap.size) (hk : n ≤ 10000000) (hmm : m ≤ 10000000)
    (hK : ∀ A2 cc w2, w2.ownsRow base 55 1 (.slice A2 (n + m) cc) (n + m) (xs ++ vs) → Kept w1 w2 (fun g => (Value.slice A n c).ownBlock = some g) → (∀ g, (Value.slice A2 (n + m) cc).ownBlock = some g → (Value.slice A n c).ownBlock = some g ∨ w1.heap.size ≤ g) → wpList Try.prog ops Q rest (a.put o.dst (.slice A2 (n + m) cc)) w2) : wpList Try.prog ops Q (o :: rest) a w1 := by
  obtain ⟨iS, hiS, hs0, hs1, hs2⟩ := info_parts info_ints
  by_cases hz : m = 0
  · subst hz
    have hg0 : vs = [] := List.eq_nil_of_length_eq_zero hm
    have hsrc : Src Try.prog iS.size 23 (.slice B 0 c2) 0 [] w1 := by
      cases B with
      | none => exact Src.ofNil w1 Try.underlying23 c2
      | some ad => exact Src.ofSlice w1 Try.underlying23 ad 0 c2 [] (by simp) (fun j u h => by simp at h) (fun u h => by simp at h)
    have hrun := run_append_nothing w1 23 23 o.type 55 iS Try.underlying23 hiS A n c (own_cap ho) _ hsrc
    refine wpList_plain hg fun K hK' => ?_
    unfold Oper.wp
    simp [execOp, hop, resolve, invoke, builtin, hs, hx, hrun, Result.andThen]
    refine hK' _ _ ?_
    have := hK A c w1 (by rw [hg0, List.append_nil]; exact ho) (Kept.refl _ _) (fun g e => .inl (by cases A <;> exact e))
    exact this
  · cases hB : B with
    | none => have := HN hB; omega
    | some ad =>
      refine wpList_append_lies _ hg _ _ 23 hop base 55 iS (.slice none 0 0) 1 24 Try.underlying23 hiS hs0 hs1 hs2 rfl (by omega) _ n _ hs ho ad m c2 vs (by rw [hx, hB]) (by omega) (hc ad hB) h1 (by omega) (by unfold maxLen; omega) (by omega) hb _ rfl ?_
      intro g' cap' w2 h2 hg2 hat _
      exact hK (some ⟨g', 0, none⟩) cap' w2 h2 (Kept.of_grown hg2 (fun _ e => e)) (fun g e => by
        have e' : g = g' := by simp [Value.ownBlock] at e; exact e.symm
        subst e'
        rcases hat with q | q
        · exact .inl q
        · exact .inr (by omega))
theorem CR.append {w1 w2 : World} {base lo : Nat} {A A2 : Option Addr} {n c m cc : Nat} {xs vs : List Value} {L1 L2 : List (List Int)} (h : CR w1 base (.slice A n c) xs L1) (hn : L1.length = n) (hm : L2.length = m)
    (hr : Rows0 w1 (fun g => g < lo) vs L2) (hlo : lo ≤ base) (hlo2 : lo ≤ w1.heap.size) (ho : w2.ownsRow base 55 1 (.slice A2 (n + m) cc) (n + m) (xs ++ vs)) (hk : Kept w1 w2 (fun g => (Value.slice A n c).ownBlock = some g))
    (hat : ∀ g, (Value.slice A2 (n + m) cc).ownBlock = some g → (Value.slice A n c).ownBlock = some g ∨ w1.heap.size ≤ g) : CR w2 base (.slice A2 (n + m) cc) (xs ++ vs) (L1 ++ L2) := by
  have hlen := h.rows.1
  have hsz := hk.size
  refine ⟨by rw [List.length_append, hn, hm]; exact ho, by simp [hlen, hr.1], fun i l hl => ?_⟩
  by_cases hi : i < L1.length
  · rw [List.getElem?_append_left hi] at hl
    obtain ⟨a, c', h1, h2, h3, h4, h5⟩ := h.rows.2 i l hl
    refine ⟨a, c', by rw [List.getElem?_append_left (by omega)]; exact h1, h2, h3, h4.kept hk (fun ad e p q => (h5 ad e p).2 q), fun ad e p => ?_⟩
    have h6 := h5 ad e p
    refine ⟨by omega, fun q => ?_⟩
    rcases hat _ q with r | r
    · exact h6.2 r
    · omega
  · rw [List.getElem?_append_right (by omega)] at hl
    obtain ⟨a, c', h1, h2, h3, h4, h5⟩ := hr.2 _ l hl
    refine ⟨a, c', by rw [List.getElem?_append_right (by omega), hlen]; exact h1, h2, h3, h4.kept hk (fun ad e p q => ?_), fun ad e p => ?_⟩
    · have := h5 ad e p
      have := (h.outer.lt _ q).1
      omega
    · have h6 := h5 ad e p
      refine ⟨by omega, fun q => ?_⟩
      have := (ho.lt _ q).1
      omega
theorem OwnSS.cr {w : World} {base : Nat} {v : Value} {vs : List Value} {L : List (List Int)} (h : OwnSS w base v vs L) : CR w base v vs L := by
  refine ⟨h.outer, h.inner.len, fun i l hl => ?_⟩
  obtain ⟨a, c, h1, h2, h3, h4, h5⟩ := h.rows0.2 i l hl
  exact ⟨a, c, h1, h2, h3, h4, fun ad e p => ⟨(h.inner.lt _ (h5 ad e p)).2, fun q => h.off _ (h5 ad e p) q⟩⟩
theorem CR.nil (w : World) (base : Nat) {A : Option Addr} {c : Nat} (h : w.ownsRow base 55 1 (.slice A 0 c) 0 []) : CR w base (.slice A 0 c) [] [] := ⟨h, rfl, fun i l hl => by simp at hl⟩
theorem CR.below {w w' : World} {base : Nat} {v : Value} {vs : List Value} {L : List (List Int)} (h : CR w base v vs L) (hb : Below w.heap.size w w') : CR w' base v vs L := by
  refine ⟨own_below h.outer hb, h.rows.1, fun i l hl => ?_⟩
  obtain ⟨a, c, h1, h2, h3, h4, h5⟩ := h.rows.2 i l hl
  exact ⟨a, c, h1, h2, h3, h4.below hb, fun ad e p => ⟨by have := (h5 ad e p).1; have := hb.size; omega, (h5 ad e p).2⟩⟩
/-- what SameModels answers -/
def SameR (v : Int) (a b : List (List Int)) (s ok : Bool) : Prop :=
  ∃ x y z, CountR v a x (goodB v a) ∧ CountR v b y (goodB v b) ∧ CountR v (a ++ b) z ok ∧ s = (ok && ((x == z) && (y == z)))
theorem sameR_any (v : Int) (a b : List (List Int)) : ∃ s ok, SameR v a b s ok := ⟨_, goodB v (a ++ b), _, _, _, ⟨rfl, rfl⟩, ⟨rfl, rfl⟩, ⟨rfl, rfl⟩, rfl⟩
theorem good_left {v : Int} {a b : List (List Int)} (h : goodB v (a ++ b) = true) : goodB v a = true ∧ goodB v b = true := by
  unfold goodB at h ⊢
  simp only [Bool.and_eq_true, decide_eq_true_eq, List.length_append, List.all_append] at h ⊢
  exact ⟨⟨h.1, by omega, h.2.2.1⟩, ⟨h.1, by omega, h.2.2.2⟩⟩
theorem append_zeros {w1 : World} {n : Nat} {ops : Array Oper} {rest : List Oper} {o : Oper} {a : Act} {Q : Exit → Act → World → Prop} (s x : Operand)
    (hg : o.guard = none) (hop : o.op = Op.call { callee := Callee.builtin Builtin.append, args := #[s, x], argTypes := #[23, 3] })
    (hs : a.eval s = .slice none 0 0) (hx : a.eval x = .int .i64 n) (h0 : 0 < n) (hn : n ≤ 4194304)
    (hK : ∀ cap w2, w2.ownsRow w1.heap.size 55 1 (.slice (some ⟨w1.heap.size, 0, none⟩) 0 cap) 0 [] → Below w1.heap.size w1 w2 → n ≤ cap → wpList Try.prog ops Q rest (a.put o.dst (.slice (some ⟨w1.heap.size, 0, none⟩) n cap)) w2) : wpList Try.prog ops Q (o :: rest) a w1 := by
  obtain ⟨iS, hiS, hs0, hs1, hs2⟩ := info_parts info_ints
  have hrun := Lib.run_append_nil_zeros w1 23 3 o.type 55 iS (.slice none 0 0) .i64 .i64 Try.underlying23 Try.underlying3 hiS hs0 n (by omega) (by omega) (by omega) (by rw [hs2]; omega)
  have hge := grownCap_ge w1 n 0 55
  have hle := grownCap_le_maxLen w1 n 0 55 (by unfold maxLen; omega)
  have zsz : ∀ k, (Builtin.zeroCells (Value.slice none 0 0).cells k).size = k := fun k => by simp [Builtin.zeroCells, Value.cells]
  have key := hK (grownCap w1 n 0 55) _ ⟨rfl, .inr ⟨w1.heap.size, grownCap w1 n 0 55, _, rfl, Nat.le_refl _, heap_alloc_new w1.drew (.cells (Builtin.zeroCells (Value.slice none 0 0).cells n ++ Builtin.zeroCells (Value.slice none 0 0).cells (grownCap w1 n 0 55 - n)) 55), Nat.zero_le _, hle, by rw [Array.size_append, zsz, zsz]; omega, by simp⟩⟩ (((Below.refl w1.heap.size w1).drew).alloc (by simp) _) hge
  generalize grownCap w1 n 0 55 = gc at hrun key
  refine wpList_plain hg fun K hK' => ?_
  unfold Oper.wp
  simp [execOp, hop, resolve, invoke, builtin, hs, hx, hrun, Result.andThen]
  exact hK' _ _ key
/-- the sum of the lengths so far -/
def sumTo (n m : Nat) : Nat → Nat
  | 0 => 0
  | 1 => n
  | _ => n + m
def upTo (a b : List (List Int)) : Nat → List (List Int)
  | 0 => []
  | 1 => a
  | _ => a ++ b
end Go.Proofs.Ytklcfbjaodildaa
