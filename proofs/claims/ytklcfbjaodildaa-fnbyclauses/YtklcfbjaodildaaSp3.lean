/-
  The model's diagrams of tables, values, tables, validity.
-/
import Derived.Test.YtklcfbjaodildaaSp2
import Derived.Test.YtklcfbjaodildaaDg6
import Derived.Deep.Upon
namespace Go.Proofs.Ytklcfbjaodildaa
open Go.ChangeShapes Go.WideShapes Go.ChangeAt Go.RowKit Go.Maps

theorem own_capN {w : World} {base n c s : Nat} {t : TypeId} {A : Option Addr} {xs : List Value} (h : w.ownsRow base t s (.slice A n c) n xs) : n ≤ c := by
  rcases h.2 with ⟨h', _⟩ | ⟨g', cap', cur, h', hb, hg, hnc, hcm, hcs, htake⟩
  · simp only [Value.slice.injEq] at h'; omega
  · simp only [Value.slice.injEq] at h'; omega
theorem append_nodes {w1 : World} {base n c m c2 : Nat} {A B : Option Addr} {xs vs : List Value} {ops : Array Oper} {rest : List Oper} {o : Oper} {a : Act} {Q : Exit → Act → World → Prop} (s x : Operand)
    (hg : o.guard = none) (hop : o.op = Op.call { callee := Callee.builtin Builtin.append, args := #[s, x], argTypes := #[26, 26] })
    (hs : a.eval s = .slice A n c) (hx : a.eval x = .slice B m c2) (ho : w1.ownsRow base 43 3 (.slice A n c) n xs)
    (hc : ∀ ad, B = some ad → ∀ j u, vs[j]? = some u → w1.cell? (ad.add j) = some u) (h1 : ∀ u ∈ vs, u.oneCell' = true) (hm : vs.length = m * 3) (HN : B = none → m = 0 ∧ c2 = 0) (hb : base ≤ w1.heap.size) (hk : n ≤ 100000) (hmm : m ≤ 100000)
    (hK : ∀ A2 cc w2, w2.ownsRow base 43 3 (.slice A2 (n + m) cc) (n + m) (xs ++ vs) → Kept w1 w2 (fun g => (Value.slice A n c).ownBlock = some g) → (∀ g, (Value.slice A2 (n + m) cc).ownBlock = some g → (Value.slice A n c).ownBlock = some g ∨ w1.heap.size ≤ g) → wpList Try.prog ops Q rest (a.put o.dst (.slice A2 (n + m) cc)) w2) : wpList Try.prog ops Q (o :: rest) a w1 := by
  obtain ⟨iS, hiS, hs0, hs1, hs2⟩ := info_parts info_node
  by_cases hz : m = 0
  · subst hz
    have hg0 : vs = [] := List.eq_nil_of_length_eq_zero (by omega)
    have hsrc : Src Try.prog iS.size 26 (.slice B 0 c2) 0 [] w1 := by
      cases B with
      | none => exact Src.ofNil w1 Try.underlying26 c2
      | some ad => exact Src.ofSlice w1 Try.underlying26 ad 0 c2 [] (by simp) (fun j u h => by simp at h) (fun u h => by simp at h)
    have hrun := run_append_nothing w1 26 26 o.type 43 iS Try.underlying26 hiS A n c (own_capN ho) _ hsrc
    refine wpList_plain hg fun K hK' => ?_
    unfold Oper.wp
    simp [execOp, hop, resolve, invoke, builtin, hs, hx, hrun, Result.andThen]
    refine hK' _ _ ?_
    have := hK A c w1 (by rw [hg0, List.append_nil]; exact ho) (Kept.refl _ _) (fun g e => .inl (by cases A <;> exact e))
    exact this
  · cases hB : B with
    | none => have := HN hB; omega
    | some ad =>
      refine wpList_append_lies _ hg _ _ 26 hop base 43 iS (.agg #[.int .i64 0, .int .i64 0, .int .i64 0]) 3 24 Try.underlying26 hiS hs0 hs1 hs2 rfl (by omega) _ n _ hs ho ad m c2 vs (by rw [hx, hB]) (by omega) (hc ad hB) h1 (by omega) (by unfold maxLen; omega) (by omega) hb _ rfl ?_
      intro g' cap' w2 h2 hg2 hat _
      exact hK (some ⟨g', 0, none⟩) cap' w2 h2 (Kept.of_grown hg2 (fun _ e => e)) (fun g e => by
        have e' : g = g' := by simp [Value.ownBlock] at e; exact e.symm
        subst e'
        rcases hat with q | q
        · exact .inl q
        · exact .inr (by omega))
theorem own_cellsN {w : World} {base n c : Nat} {A : Option Addr} {xs : List Value} (h : w.ownsRow base 43 3 (.slice A n c) n xs) : (∀ ad, A = some ad → ∀ j u, xs[j]? = some u → w.cell? (ad.add j) = some u) ∧ (A = none → n = 0 ∧ c = 0) := by
  rcases h.2 with ⟨h', h0⟩ | ⟨g, cap, cur, h', _⟩
  · simp only [Value.slice.injEq] at h'
    obtain ⟨rfl, rfl, rfl⟩ := h'
    exact ⟨fun ad e => by simp at e, fun _ => ⟨rfl, rfl⟩⟩
  · simp only [Value.slice.injEq] at h'
    obtain ⟨rfl, _, _⟩ := h'
    refine ⟨fun ad e j u hu => ?_, fun e => by simp at e⟩
    injection e with e
    subst e
    exact h.cells (g := g) rfl j u hu
theorem ncells_one (xs : List Nd) : ∀ u ∈ ncells xs, u.oneCell' = true := by
  intro u hu
  unfold ncells at hu
  obtain ⟨x, _, hx⟩ := List.mem_flatMap.1 hu
  simp [Nd.cells] at hx
  rcases hx with rfl | rfl | rfl <;> rfl
theorem tn_nil {s n c i : Nat} (h : Tn s n none c i) : i = s := by
  rcases h with h | h
  · exact h
  · simp [Value.ownBlock] at h
set_option maxRecDepth 100000 in
set_option maxHeartbeats 4000000 in
theorem l7Of_any (n : Nat) (B : Option Addr) (m c : Nat) (T : List Bool) (w : World) (k : Nat) (ms : List Nd) (hn : n ≤ 6) (HM : Hid (T.length = m)) (HP : Hid (2 ^ n = m)) (hbl : Hid (BLies w B T)) (HD : Hid (dgm n T = (k, ms))) :
    Calls Try.prog 84 #[.int .i64 n, .slice B m c] w fun e w' => ∃ A cc, e = .returned (.agg #[.int .i64 n, .slice A ms.length cc, .int .i64 k]) ∧ w'.ownsRow w.heap.size 43 3 (.slice A ms.length cc) ms.length (ncells ms) ∧ Below w.heap.size w w' := by
  have hml := dgm_len hn (by rw [HM.out, HP.out]) HD.out
  have hm6 : m ≤ 64 := by rw [← HP.out]; exact pow_le6 hn
  have W2 : Hid (Blk ((w.alloc (.cells #[.int .i64 0, .slice none 0 0, .int .i64 0] 28)).alloc (.cells #[.int .i64 n, .slice none 0 0] 157)) (w.heap.size + 1) 157 [.int .i64 n, .slice none 0 0]) := Lib.hid (blk_second w _ [.int .i64 n, .slice none 0 0])
  have S0 : Hid (SB ((w.alloc (.cells #[.int .i64 0, .slice none 0 0, .int .i64 0] 28)).alloc (.cells #[.int .i64 n, .slice none 0 0] 157)) (w.heap.size + 2) (w.heap.size + 1) n [] none 0) := Lib.hid ⟨W2.out, World.ownsRow_nil _ _ _ _, fun g e => by simp [Value.ownBlock] at e⟩
  have HB0 : Hid (w.heap.size + 2 ≤ ((w.alloc (.cells #[.int .i64 0, .slice none 0 0, .int .i64 0] 28)).alloc (.cells #[.int .i64 n, .slice none 0 0] 157)).heap.size) := Lib.hid (by simp)
  have HL0 := Lib.hid (hbl.out.below (below2 w (.cells #[.int .i64 0, .slice none 0 0, .int .i64 0] 28) (.cells #[.int .i64 n, .slice none 0 0] 157)))
  have HO0 : Hid (∀ b off, B = some ⟨b, off, none⟩ → ¬ Tn (w.heap.size + 1) ([] : List Nd).length none 0 b) := Lib.hid (fun b off e h => by
    obtain ⟨b', off', e', hlt, _⟩ := hbl.out 0 _ (List.getElem?_eq_getElem (by rw [HM.out, ← HP.out]; exact Nat.pow_pos (by omega)))
    rw [e] at e'
    injection e' with e'
    injection e' with e1 _
    have := tn_nil h
    omega)
  have KR : Hid (Blk ((w.alloc (.cells #[.int .i64 0, .slice none 0 0, .int .i64 0] 28)).alloc (.cells #[.int .i64 n, .slice none 0 0] 157)) w.heap.size 28 [.int .i64 0, .slice none 0 0, .int .i64 0]) := Lib.hid (Blk.below (heap_alloc_new w _) (below1 _ _))
  have DD : Hid (bld n 1 (tabF T) [] = (k, ms)) := HD
  obtain ⟨z, hz⟩ : ∃ z, ms.length = z := ⟨_, rfl⟩
  have HZ := Lib.hid hz
  rw [hz] at hml ⊢
  clear hz
  go_enter Try.func84, Try.ntmps84
  go_wp2_with fail
  refine (buildS_any (w.heap.size + 2) (w.heap.size + 1) n n 1 B m c T [] none 0 _ HM HP hn (by omega) S0 HB0 HL0 HO0 (Lib.hid (by simp)) (Lib.hid (by rw [HP.out]; simp; omega))).mono ?_
  rw [DD.out]
  rintro e w1 ⟨rfl, A1, c1, hsb, hkp, hat⟩
  have hB1 : Below w.heap.size w w1 := hkp.below (below2 w _ _) (by simp; omega) (fun i h => by have := tn_nil h; omega)
  have hR1 := hkp.blk KR.out (fun h => by have := tn_nil h; omega)
  have c1c : w1.cell? ⟨w.heap.size + 1, 1, none⟩ = some (.slice A1 ms.length c1) := hsb.blk.cell 1
  have hsl := hsb.blk.lt
  obtain ⟨hcells, hnil⟩ := own_cellsN hsb.own
  have hs1 : w.heap.size + 2 ≤ w1.heap.size := by have := hkp.size; simp at this; omega
  have B1 := Lib.hid hB1
  have R1 := Lib.hid hR1
  have HC := Lib.hid hcells
  have HNI := Lib.hid hnil
  rw [HZ.out] at c1c HNI
  clear hsb hkp hat hB1 hR1 hcells hnil
  go_wp2_with (at_builtin; (refine append_nodes (w1 := w1.alloc (.cells #[] 43)) (base := w.heap.size) (xs := []) (vs := ncells ms) _ _ rfl rfl rfl rfl (World.ownsRow_lit w1 #[] 0 (by omega) (by unfold maxLen; omega) rfl) (fun ad e j u hu => (((below1 w1 _).cell (World.block_lt_of_cell? w1 _ (HC.out ad e j u hu))).trans (HC.out ad e j u hu))) (ncells_one ms) (by rw [ncells_len, HZ.out]) HNI.out (by simp; omega) (by omega) (by omega) ?_; intro A2 cc w2 hown2 hk2 hat2; rw [Nat.zero_add, List.nil_append] at hown2; rw [Nat.zero_add]; have O2 := Lib.hid hown2; have K2 := Lib.hid hk2; have AT2 := Lib.hid hat2; clear hown2 hk2 hat2; have hRB := (K2.out.blk (R1.out.below (below1 w1 _)) (fun h => by simp [Value.ownBlock] at h; omega)); obtain ⟨q0, q1, q2, y0, y1, y2, hRl⟩ := blk_cells hRB; have HRB := Lib.hid hRB; clear hRB))
  have B2 := K2.out.below (Below.tr B1.out (below1 w1 _)) (by have := B1.out.size; simp; omega) (fun i h => by simp [Value.ownBlock] at h; omega)
  have hfin := dg_store HRB.out (.int .i64 n) (.slice A2 z cc) (.int .i64 k)
  have hBB := hfin.1.below B2 B2.size (fun i e => by omega)
  have hOO := hfin.1.own3 O2.out (fun g e h => by
    rcases AT2.out g (by rw [Nat.zero_add]; exact e) with q | q
    · simp [Value.ownBlock] at q; omega
    · simp at q; omega)
  obtain ⟨W', hW'⟩ : ∃ W', W' = (((w2.setCell ⟨w.heap.size, 0, none⟩ (.int .i64 n)).setCell ⟨w.heap.size, 1, none⟩ (.slice A2 z cc)).setCell ⟨w.heap.size, 2, none⟩ (.int .i64 k)) := ⟨_, rfl⟩
  rw [← hW'] at hfin hBB hOO ⊢
  obtain ⟨_, r0, r1, r2⟩ := hfin
  exact bodyPost_ret (v := .agg #[.int .i64 n, .slice A2 z cc, .int .i64 k]) (by simp [results, Try.results84, go_sem, r0, r1, r2]) rfl ⟨_, _, rfl, hOO, hBB⟩
end Go.Proofs.Ytklcfbjaodildaa
