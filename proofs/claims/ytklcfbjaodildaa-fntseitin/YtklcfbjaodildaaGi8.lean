/-
  The clauses of a gate, of gates: the program's and the model's.
-/
import Derived.Test.YtklcfbjaodildaaGi5
namespace Go.Proofs.Ytklcfbjaodildaa
open Go.ChangeShapes Go.WideShapes Go.ChangeAt Go.RowKit

theorem rGc_yes {xs : List Gt} {v : Int} {r0 : List (List Int)} {r1 : Bool} (h : rGc xs v = (r0, r1)) (hg : goodGB xs = true) (hv : ixB v xs.length = true) : r0 = oneC (gk xs v.toNat) (v + 1) ∧ r1 = true := by
  unfold rGc at h; rw [if_pos ⟨hg, hv⟩] at h; simp at h; exact ⟨h.1.symm, h.2⟩
theorem rGc_no {xs : List Gt} {v : Int} {r0 : List (List Int)} {r1 : Bool} (h : rGc xs v = (r0, r1)) (hg : goodGB xs = false ∨ ixB v xs.length = false) : r0 = [] ∧ r1 = false := by
  unfold rGc at h; rw [if_neg (by rintro ⟨a, b⟩; rcases hg with q | q; (rw [q] at a; cases a); (rw [q] at b; cases b))] at h; simp at h; exact ⟨h.1, h.2⟩
theorem rCls_yes {xs : List Gt} {r0 : List (List Int)} {r1 : Bool} (h : rCls xs = (r0, r1)) (hg : goodGB xs = true) : r0 = clsG xs ∧ r1 = true := by
  unfold rCls at h; rw [if_pos hg] at h; simp at h; exact ⟨h.1.symm, h.2⟩
theorem rCls_no {xs : List Gt} {r0 : List (List Int)} {r1 : Bool} (h : rCls xs = (r0, r1)) (hg : goodGB xs = false) : r0 = [] ∧ r1 = false := by
  unfold rCls at h; rw [hg] at h; simp at h; exact ⟨h.1, h.2⟩
theorem clsC_tot (L : List (List Int)) (N : Nat) (h : ∀ c ∈ L, c.length ≤ N) : tot (clsC L) ≤ N * L.length := by
  induction L with
  | nil => simp [clsC, tot]
  | cons c t ih =>
    have := ih (fun d hd => h d (by simp [hd]))
    have hc := h c (by simp)
    cases q : cleanB c with
    | none =>
      have e : clsC (c :: t) = clsC t := by simp [clsC, q]
      rw [e, List.length_cons, Nat.mul_succ]; omega
    | some r =>
      have e : clsC (c :: t) = r :: clsC t := by simp [clsC, q]
      have hr : r.length ≤ c.length := by
        unfold cleanB at q
        split at q
        · have := cleanF_len q; simpa using this
        · cases q
      rw [e, List.length_cons, Nat.mul_succ]
      simp only [tot, List.map_cons, List.sum_cons] at this ⊢
      omega
theorem rawC_tot (x : Gt) (v : Int) : ∀ c ∈ rawC x v, c.length ≤ 3 := by
  intro c hc
  unfold rawC at hc
  split at hc
  · simp at hc; rcases hc with rfl | rfl <;> simp
  split at hc
  · simp at hc; rcases hc with rfl | rfl | rfl <;> simp
  split at hc
  · simp at hc; rcases hc with rfl | rfl | rfl <;> simp
  split at hc
  · simp at hc; rcases hc with rfl | rfl | rfl | rfl <;> simp
  · simp at hc
theorem oneC_tot (x : Gt) (v : Int) : tot (oneC x v) ≤ 12 := by
  have := clsC_tot (rawC x v) 3 (rawC_tot x v)
  have := rawC_len x v
  unfold oneC
  omega
theorem tot_app (a b : List (List Int)) : tot (a ++ b) = tot a + tot b := by simp [tot]
theorem clsK_tot (xs : List Gt) (k : Nat) : tot (clsK xs k) ≤ 12 * k := by
  induction k with
  | zero => simp [clsK, tot]
  | succ k ih => rw [clsK, tot_app]; have := oneC_tot (gk xs k) ((k : Int) + 1); omega
theorem rGc_len {xs : List Gt} {v : Int} {r0 : List (List Int)} {r1 : Bool} (h : rGc xs v = (r0, r1)) : r0.length ≤ 1000 := by
  by_cases q : goodGB xs = true ∧ ixB v xs.length = true
  · rw [(rGc_yes h q.1 q.2).1]; have := oneC_len (gk xs v.toNat) (v + 1); omega
  · rw [(rGc_no h (by cases hg : goodGB xs; exact .inl rfl; cases hv : ixB v xs.length; exact .inr rfl; exact absurd ⟨hg, hv⟩ q)).1]; simp
theorem rGc_tot {xs : List Gt} {v : Int} {r0 : List (List Int)} {r1 : Bool} (h : rGc xs v = (r0, r1)) : tot r0 ≤ 1000 := by
  by_cases q : goodGB xs = true ∧ ixB v xs.length = true
  · rw [(rGc_yes h q.1 q.2).1]; have := oneC_tot (gk xs v.toNat) (v + 1); omega
  · rw [(rGc_no h (by cases hg : goodGB xs; exact .inl rfl; cases hv : ixB v xs.length; exact .inr rfl; exact absurd ⟨hg, hv⟩ q)).1]; simp [tot]
theorem rCls_len {xs : List Gt} {r0 : List (List Int)} {r1 : Bool} (h : rCls xs = (r0, r1)) : r0.length ≤ 1000 := by
  cases hg : goodGB xs
  · rw [(rCls_no h hg).1]; simp
  · rw [(rCls_yes h hg).1]; have := clsK_len xs xs.length; have := goodG_len hg; simp only [clsG, List.length_append, List.length_cons, List.length_nil]; omega
theorem rCls_tot {xs : List Gt} {r0 : List (List Int)} {r1 : Bool} (h : rCls xs = (r0, r1)) : tot r0 ≤ 1000 := by
  cases hg : goodGB xs
  · rw [(rCls_no h hg).1]; simp [tot]
  · rw [(rCls_yes h hg).1, clsG, tot_app]; have := clsK_tot xs xs.length; have := goodG_len hg; simp only [tot, List.map_cons, List.map_nil, List.sum_cons, List.sum_nil, List.length_cons, List.length_nil] at *; omega
theorem ss_no {w w1 : World} {l : List (List Int)} {b : Bool} (h : l = [] ∧ b = false) (hb : Below w.heap.size w w1) : GaveSS w l b (.returned (.tuple #[.slice none 0 0, .bool false])) w1 := by
  obtain ⟨rfl, rfl⟩ := h
  exact ⟨none, 0, [], rfl, ⟨World.ownsRow_nil _ _ _ _, Inner.nil _ _, fun g _ e => by simp [Value.ownBlock] at e⟩, hb⟩
theorem OwnSS.baseG {w : World} {base base' : Nat} {v : Value} {vs : List Value} {L : List (List Int)} (h : OwnSS w base v vs L) (hb : base' ≤ base) : OwnSS w base' v vs L := ⟨own_baseG h.outer hb, h.inner.base hb, h.off⟩
theorem oneC_none {x : Gt} {v : Int} (h2 : x.k ≠ 2) (h3 : x.k ≠ 3) (h4 : x.k ≠ 4) (h5 : x.k ≠ 5) : oneC x v = [] := by simp [oneC, rawC, h2, h3, h4, h5, clsC]
theorem beqC_no {a b : Int} (h : a ≠ b) : (a == b) = false := by simp [h]
theorem bdrewC {B : Nat} {a w : World} (h : Below B a w) (n : Nat) : Below B a (w.drewN n) := h.trans ⟨rfl, rfl, rfl, Nat.le_refl _, fun _ _ => rfl⟩
theorem clean_none : clsC ([] : List (List Int)) = [] := rfl
set_option maxRecDepth 100000 in
set_option maxHeartbeats 8000000 in
theorem gateClauses_any (x : Gt) (v : Int) (w : World) (ha : 0 ≤ x.a ∧ x.a ≤ 1000) (hb : 0 ≤ x.b ∧ x.b ≤ 1000) (hv : 0 ≤ v ∧ v ≤ 1000) :
    Calls Try.prog 96 #[.agg #[.int .i64 x.k, .int .i64 x.a, .int .i64 x.b], .int .i64 v] w (GaveCL w (oneC x v)) := by
  by_cases h2 : x.k = 2
  · have E : Hid (oneC x v = clsC [[v, (x.a + 1)], [-v, -(x.a + 1)]]) := Lib.hid (by simp [oneC, rawC, h2])
    have e2 : (x.k == 2) = true := by rw [h2]; rfl
    clear h2
    go_enter Try.func96, Try.ntmps96
    go_wp2_with fail
    go_quiet (fail)
    go_wp2_with fail
    generalize hW1 : (w.alloc (.cells #[.int .i64 x.k, .int .i64 x.a, .int .i64 x.b] 120)).drewN nq = W1
    have hs : W1.heap.size = w.heap.size + 1 := by rw [← hW1]; simp
    have hb : Below w.heap.size w W1 := by rw [← hW1]; exact bdrewC (below1 _ _) _
    rw [← hs]
    have B1 := Lib.hid (Below.tr hb (allocAll_below [ic [v, (x.a + 1)], ic [-v, -(x.a + 1)], .cells #[sl W1.heap.size 2, sl (W1.heap.size + 1) 2] 55] _ _ _ (Below.refl _ _) (Nat.le_refl _)))
    have S1 : Hid (w.heap.size ≤ (allocAll W1 [ic [v, (x.a + 1)], ic [-v, -(x.a + 1)], .cells #[sl W1.heap.size 2, sl (W1.heap.size + 1) 2] 55]).heap.size) := Lib.hid (by rw [allocAll_size]; omega)
    clear hW1 hs hb
    refine (cleanOnes_any (some ⟨W1.heap.size + 2, 0, none⟩) 2 2 [[v, (x.a + 1)], [-v, -(x.a + 1)]] (allocAll W1 [ic [v, (x.a + 1)], ic [-v, -(x.a + 1)], .cells #[sl W1.heap.size 2, sl (W1.heap.size + 1) 2] 55]) (Lib.hid (lit2 W1 ([v, (x.a + 1)] : List Int) ([-v, -(x.a + 1)] : List Int) (by simp) (by simp))) (Lib.hid rfl) (by omega)).mono ?_
    rintro e w3 ⟨A3, c3, vs3, rfl, ho3, hb3⟩
    have O3 := Lib.hid (ho3.baseG S1.out)
    have B3 := Lib.hid (Below.tr B1.out hb3)
    clear ho3 hb3
    go_wp2
    go_ret
    exact ⟨A3, c3, vs3, by rw [E.out]; rfl, by rw [E.out]; exact O3.out, B3.out⟩
  by_cases h3 : x.k = 3
  · have E : Hid (oneC x v = clsC [[-v, (x.a + 1)], [-v, (x.b + 1)], [v, -(x.a + 1), -(x.b + 1)]]) := Lib.hid (by simp [oneC, rawC, h3])
    have e2 : (x.k == 2) = false := by rw [h3]; rfl
    have e3 : (x.k == 3) = true := by rw [h3]; rfl
    clear h3
    go_enter Try.func96, Try.ntmps96
    go_wp2_with fail
    go_quiet (fail)
    go_wp2_with fail
    generalize hW1 : (w.alloc (.cells #[.int .i64 x.k, .int .i64 x.a, .int .i64 x.b] 120)).drewN nq = W1
    have hs : W1.heap.size = w.heap.size + 1 := by rw [← hW1]; simp
    have hb : Below w.heap.size w W1 := by rw [← hW1]; exact bdrewC (below1 _ _) _
    rw [← hs]
    have B1 := Lib.hid (Below.tr hb (allocAll_below [ic [-v, (x.a + 1)], ic [-v, (x.b + 1)], ic [v, -(x.a + 1), -(x.b + 1)], .cells #[sl W1.heap.size 2, sl (W1.heap.size + 1) 2, sl (W1.heap.size + 2) 3] 55] _ _ _ (Below.refl _ _) (Nat.le_refl _)))
    have S1 : Hid (w.heap.size ≤ (allocAll W1 [ic [-v, (x.a + 1)], ic [-v, (x.b + 1)], ic [v, -(x.a + 1), -(x.b + 1)], .cells #[sl W1.heap.size 2, sl (W1.heap.size + 1) 2, sl (W1.heap.size + 2) 3] 55]).heap.size) := Lib.hid (by rw [allocAll_size]; omega)
    clear hW1 hs hb
    refine (cleanOnes_any (some ⟨W1.heap.size + 3, 0, none⟩) 3 3 [[-v, (x.a + 1)], [-v, (x.b + 1)], [v, -(x.a + 1), -(x.b + 1)]] (allocAll W1 [ic [-v, (x.a + 1)], ic [-v, (x.b + 1)], ic [v, -(x.a + 1), -(x.b + 1)], .cells #[sl W1.heap.size 2, sl (W1.heap.size + 1) 2, sl (W1.heap.size + 2) 3] 55]) (Lib.hid (lit3 W1 ([-v, (x.a + 1)] : List Int) ([-v, (x.b + 1)] : List Int) ([v, -(x.a + 1), -(x.b + 1)] : List Int) (by simp) (by simp) (by simp))) (Lib.hid rfl) (by omega)).mono ?_
    rintro e w3 ⟨A3, c3, vs3, rfl, ho3, hb3⟩
    have O3 := Lib.hid (ho3.baseG S1.out)
    have B3 := Lib.hid (Below.tr B1.out hb3)
    clear ho3 hb3
    go_wp2
    go_ret
    exact ⟨A3, c3, vs3, by rw [E.out]; rfl, by rw [E.out]; exact O3.out, B3.out⟩
  by_cases h4 : x.k = 4
  · have E : Hid (oneC x v = clsC [[v, -(x.a + 1)], [v, -(x.b + 1)], [-v, (x.a + 1), (x.b + 1)]]) := Lib.hid (by simp [oneC, rawC, h4])
    have e2 : (x.k == 2) = false := by rw [h4]; rfl
    have e3 : (x.k == 3) = false := by rw [h4]; rfl
    have e4 : (x.k == 4) = true := by rw [h4]; rfl
    clear h4
    go_enter Try.func96, Try.ntmps96
    go_wp2_with fail
    go_quiet (fail)
    go_wp2_with fail
    generalize hW1 : (w.alloc (.cells #[.int .i64 x.k, .int .i64 x.a, .int .i64 x.b] 120)).drewN nq = W1
    have hs : W1.heap.size = w.heap.size + 1 := by rw [← hW1]; simp
    have hb : Below w.heap.size w W1 := by rw [← hW1]; exact bdrewC (below1 _ _) _
    rw [← hs]
    have B1 := Lib.hid (Below.tr hb (allocAll_below [ic [v, -(x.a + 1)], ic [v, -(x.b + 1)], ic [-v, (x.a + 1), (x.b + 1)], .cells #[sl W1.heap.size 2, sl (W1.heap.size + 1) 2, sl (W1.heap.size + 2) 3] 55] _ _ _ (Below.refl _ _) (Nat.le_refl _)))
    have S1 : Hid (w.heap.size ≤ (allocAll W1 [ic [v, -(x.a + 1)], ic [v, -(x.b + 1)], ic [-v, (x.a + 1), (x.b + 1)], .cells #[sl W1.heap.size 2, sl (W1.heap.size + 1) 2, sl (W1.heap.size + 2) 3] 55]).heap.size) := Lib.hid (by rw [allocAll_size]; omega)
    clear hW1 hs hb
    refine (cleanOnes_any (some ⟨W1.heap.size + 3, 0, none⟩) 3 3 [[v, -(x.a + 1)], [v, -(x.b + 1)], [-v, (x.a + 1), (x.b + 1)]] (allocAll W1 [ic [v, -(x.a + 1)], ic [v, -(x.b + 1)], ic [-v, (x.a + 1), (x.b + 1)], .cells #[sl W1.heap.size 2, sl (W1.heap.size + 1) 2, sl (W1.heap.size + 2) 3] 55]) (Lib.hid (lit3 W1 ([v, -(x.a + 1)] : List Int) ([v, -(x.b + 1)] : List Int) ([-v, (x.a + 1), (x.b + 1)] : List Int) (by simp) (by simp) (by simp))) (Lib.hid rfl) (by omega)).mono ?_
    rintro e w3 ⟨A3, c3, vs3, rfl, ho3, hb3⟩
    have O3 := Lib.hid (ho3.baseG S1.out)
    have B3 := Lib.hid (Below.tr B1.out hb3)
    clear ho3 hb3
    go_wp2
    go_ret
    exact ⟨A3, c3, vs3, by rw [E.out]; rfl, by rw [E.out]; exact O3.out, B3.out⟩
  by_cases h5 : x.k = 5
  · have E : Hid (oneC x v = clsC [[-v, (x.a + 1), (x.b + 1)], [-v, -(x.a + 1), -(x.b + 1)], [v, -(x.a + 1), (x.b + 1)], [v, (x.a + 1), -(x.b + 1)]]) := Lib.hid (by simp [oneC, rawC, h5])
    have e2 : (x.k == 2) = false := by rw [h5]; rfl
    have e3 : (x.k == 3) = false := by rw [h5]; rfl
    have e4 : (x.k == 4) = false := by rw [h5]; rfl
    have e5 : (x.k == 5) = true := by rw [h5]; rfl
    clear h5
    go_enter Try.func96, Try.ntmps96
    go_wp2_with fail
    go_quiet (fail)
    go_wp2_with fail
    generalize hW1 : (w.alloc (.cells #[.int .i64 x.k, .int .i64 x.a, .int .i64 x.b] 120)).drewN nq = W1
    have hs : W1.heap.size = w.heap.size + 1 := by rw [← hW1]; simp
    have hb : Below w.heap.size w W1 := by rw [← hW1]; exact bdrewC (below1 _ _) _
    rw [← hs]
    have B1 := Lib.hid (Below.tr hb (allocAll_below [ic [-v, (x.a + 1), (x.b + 1)], ic [-v, -(x.a + 1), -(x.b + 1)], ic [v, -(x.a + 1), (x.b + 1)], ic [v, (x.a + 1), -(x.b + 1)], .cells #[sl W1.heap.size 3, sl (W1.heap.size + 1) 3, sl (W1.heap.size + 2) 3, sl (W1.heap.size + 3) 3] 55] _ _ _ (Below.refl _ _) (Nat.le_refl _)))
    have S1 : Hid (w.heap.size ≤ (allocAll W1 [ic [-v, (x.a + 1), (x.b + 1)], ic [-v, -(x.a + 1), -(x.b + 1)], ic [v, -(x.a + 1), (x.b + 1)], ic [v, (x.a + 1), -(x.b + 1)], .cells #[sl W1.heap.size 3, sl (W1.heap.size + 1) 3, sl (W1.heap.size + 2) 3, sl (W1.heap.size + 3) 3] 55]).heap.size) := Lib.hid (by rw [allocAll_size]; omega)
    clear hW1 hs hb
    refine (cleanOnes_any (some ⟨W1.heap.size + 4, 0, none⟩) 4 4 [[-v, (x.a + 1), (x.b + 1)], [-v, -(x.a + 1), -(x.b + 1)], [v, -(x.a + 1), (x.b + 1)], [v, (x.a + 1), -(x.b + 1)]] (allocAll W1 [ic [-v, (x.a + 1), (x.b + 1)], ic [-v, -(x.a + 1), -(x.b + 1)], ic [v, -(x.a + 1), (x.b + 1)], ic [v, (x.a + 1), -(x.b + 1)], .cells #[sl W1.heap.size 3, sl (W1.heap.size + 1) 3, sl (W1.heap.size + 2) 3, sl (W1.heap.size + 3) 3] 55]) (Lib.hid (lit4 W1 ([-v, (x.a + 1), (x.b + 1)] : List Int) ([-v, -(x.a + 1), -(x.b + 1)] : List Int) ([v, -(x.a + 1), (x.b + 1)] : List Int) ([v, (x.a + 1), -(x.b + 1)] : List Int) (by simp) (by simp) (by simp) (by simp))) (Lib.hid rfl) (by omega)).mono ?_
    rintro e w3 ⟨A3, c3, vs3, rfl, ho3, hb3⟩
    have O3 := Lib.hid (ho3.baseG S1.out)
    have B3 := Lib.hid (Below.tr B1.out hb3)
    clear ho3 hb3
    go_wp2
    go_ret
    exact ⟨A3, c3, vs3, by rw [E.out]; rfl, by rw [E.out]; exact O3.out, B3.out⟩
  have E : Hid (oneC x v = []) := Lib.hid (oneC_none h2 h3 h4 h5)
  have e2 := beqC_no h2
  have e3 := beqC_no h3
  have e4 := beqC_no h4
  have e5 := beqC_no h5
  go_enter Try.func96, Try.ntmps96
  go_wp2_with fail
  go_quiet (fail)
  go_wp2
  go_ret
  exact ⟨none, 0, [], by rw [E.out]; rfl, by rw [E.out]; exact ⟨World.ownsRow_nil _ _ _ _, Inner.nil _ _, fun g _ e => by simp [Value.ownBlock] at e⟩, bdrewC (below1 _ _) _⟩
end Go.Proofs.Ytklcfbjaodildaa
