/-
  Diagrams of clauses, of a fixed variable: plain lists.
-/
import Derived.Test.YtklcfbjaodildaaDg5
import Derived.Test.YtklcfbjaodildaaDg4
import Derived.Test.YtklcfbjaodildaaDg7
namespace Go.Proofs.Ytklcfbjaodildaa

/-- the diagram of clauses is both of the diagrams of its parts -/
theorem clT_app (p : Nat) (a b : List (List Int)) : clT p (a ++ b) = List.zipWith and (clT p a) (clT p b) := by
  apply List.ext_getElem?
  intro i
  rw [List.getElem?_zipWith]
  simp only [clT, List.getElem?_map]
  by_cases h : i < 2 ^ p
  · rw [List.getElem?_range h]
    simp only [Option.map_some]
    congr 1
    unfold holdsB
    rw [List.all_append]
  · rw [List.getElem?_eq_none (by simp; omega)]
    rfl
theorem clT_count (p : Nat) (L : List (List Int)) : (clT p L).count true = countB p L (2 ^ p) := by
  have : ∀ n, ((List.range n).map (fun i => holdsB (modelN p i) L)).count true = countB p L n := by
    intro n
    induction n with
    | zero => rfl
    | succ n ih =>
      rw [List.range_succ, List.map_append, List.count_append, ih, countB]
      cases h : holdsB (modelN p n) L <;> simp [h]
  exact this _
/-- the same but for one bit -/
def SameB (q i j : Nat) : Prop := ∀ k, k ≠ q → i.testBit k = j.testBit k
def Indep (d : Nat) (t : Nat → Bool) (q : Nat) : Prop := ∀ i j, i < 2 ^ d → j < 2 ^ d → SameB q i j → t i = t j
theorem bit_even (i k : Nat) : (2 * i).testBit (k + 1) = i.testBit k := by rw [Nat.testBit_succ]; congr 1; omega
theorem bit_odd (i k : Nat) : (2 * i + 1).testBit (k + 1) = i.testBit k := by rw [Nat.testBit_succ]; congr 1; omega
theorem Indep.ev {d q : Nat} {t : Nat → Bool} (h : Indep (d + 1) t (q + 1)) : Indep d (evT t) q := by
  intro i j hi hj hs
  refine h _ _ (by rw [Nat.pow_succ]; omega) (by rw [Nat.pow_succ]; omega) (fun k hk => ?_)
  cases k with
  | zero => simp [Nat.testBit_zero]
  | succ k => rw [bit_even, bit_even]; exact hs k (by omega)
theorem Indep.od {d q : Nat} {t : Nat → Bool} (h : Indep (d + 1) t (q + 1)) : Indep d (odT t) q := by
  intro i j hi hj hs
  refine h _ _ (by rw [Nat.pow_succ]; omega) (by rw [Nat.pow_succ]; omega) (fun k hk => ?_)
  cases k with
  | zero => simp [Nat.testBit_zero]
  | succ k => rw [bit_odd, bit_odd]; exact hs k (by omega)
theorem Indep.same {d : Nat} {t : Nat → Bool} (h : Indep (d + 1) t 0) : EqT d (evT t) (odT t) := by
  intro j hj
  refine h _ _ (by rw [Nat.pow_succ]; omega) (by rw [Nat.pow_succ]; omega) (fun k hk => ?_)
  cases k with
  | zero => exact absurd rfl hk
  | succ k => rw [bit_even, bit_odd]
theorem numN_new {ns : List Nd} {x y : Nd} (h : y ∈ (numN ns x).2) : y ∈ ns ∨ y = x := by
  unfold numN at h
  split at h
  · exact .inl h
  · simpa using h
theorem bld_low : ∀ (d v : Nat) (t : Nat → Bool) (ns : List Nd), ∀ x ∈ (bld d v t ns).2, x ∈ ns ∨ (v : Int) ≤ x.v := by
  intro d
  induction d with
  | zero => intro v t ns x hx; left; simpa [bld] using hx
  | succ d ih =>
    intro v t ns x hx
    obtain ⟨l, ns1, h1⟩ : ∃ l n, bld d (v + 1) (evT t) ns = (l, n) := ⟨_, _, rfl⟩
    obtain ⟨h, ns2, h2⟩ : ∃ l n, bld d (v + 1) (odT t) ns1 = (l, n) := ⟨_, _, rfl⟩
    have a := ih (v + 1) (evT t) ns
    have b := ih (v + 1) (odT t) ns1
    rw [h1] at a
    rw [h2] at b
    rw [bld_succ d v t ns ns1 ns2 l h h1 h2] at hx
    have two : ∀ y ∈ ns2, y ∈ ns ∨ (v : Int) ≤ y.v := fun y hy => by
      rcases b y hy with q | q
      · rcases a y q with q | q
        · exact .inl q
        · exact .inr (by omega)
      · exact .inr (by omega)
    split at hx
    · exact two x hx
    · rcases numN_new hx with q | q
      · exact two x q
      · subst q; exact .inr (Int.le_refl _)
theorem bld_no : ∀ (d v : Nat) (t : Nat → Bool) (ns : List Nd) (q : Nat), ns.Nodup → q < d → Indep d t q → ∀ x ∈ (bld d v t ns).2, x ∈ ns ∨ x.v ≠ (v : Int) + q := by
  intro d
  induction d with
  | zero => intro v t ns q _ h; omega
  | succ d ih =>
    intro v t ns q hn hq hi x hx
    cases q with
    | zero =>
      rw [bld_same d v t ns hn hi.same] at hx
      rcases bld_low d (v + 1) _ _ x hx with q | q
      · exact .inl q
      · exact .inr (by omega)
    | succ q =>
      obtain ⟨l, ns1, h1⟩ : ∃ l n, bld d (v + 1) (evT t) ns = (l, n) := ⟨_, _, rfl⟩
      obtain ⟨h, ns2, h2⟩ : ∃ l n, bld d (v + 1) (odT t) ns1 = (l, n) := ⟨_, _, rfl⟩
      have hn1 := bld_nodup d (v + 1) (evT t) hn h1
      have a := ih (v + 1) (evT t) ns q hn (by omega) hi.ev
      have b := ih (v + 1) (odT t) ns1 q hn1 (by omega) hi.od
      rw [h1] at a
      rw [h2] at b
      rw [bld_succ d v t ns ns1 ns2 l h h1 h2] at hx
      have two : ∀ y ∈ ns2, y ∈ ns ∨ y.v ≠ (v : Int) + (q + 1 : Nat) := fun y hy => by
        rcases b y hy with z | z
        · rcases a y z with z | z
          · exact .inl z
          · exact .inr (by omega)
        · exact .inr (by omega)
      split at hx
      · exact two x hx
      · rcases numN_new hx with z | z
        · exact two x z
        · subst z; exact .inr (by simp only; omega)
theorem fixI_same {q i j : Nat} {so : Bool} (hq : q < 6) (h : SameB q i j) : fixI i q so = fixI j q so := by
  apply Nat.eq_of_testBit_eq
  intro k
  unfold fixI
  by_cases e : k = q
  · subst e
    cases so
    · have hm : (2 ^ 6 - 1 - 2 ^ k).testBit k = false := by
        have : k = 0 ∨ k = 1 ∨ k = 2 ∨ k = 3 ∨ k = 4 ∨ k = 5 := by omega
        rcases this with rfl | rfl | rfl | rfl | rfl | rfl <;> decide
      simp only [Bool.false_eq_true, if_false, Nat.testBit_and, hm, Bool.and_false]
    · simp only [if_true, Nat.testBit_or, Nat.testBit_two_pow_self, Bool.or_true]
  · cases so
    · simp only [Bool.false_eq_true, if_false, Nat.testBit_and, h k e]
    · simp only [if_true, Nat.testBit_or, h k e]
theorem fixL_tab {n p : Nat} {so : Bool} {f : Nat → Bool} {i : Nat} (h : i < 2 ^ n) : tabF (fixL n p so f) i = f (fixI i p so) := by simp [tabF, fixL, h]
/-- a fixed variable is asked no more -/
theorem fix_no {n p : Nat} {so : Bool} {f : Nat → Bool} (hn : n ≤ 6) (hp : p < n) : ∀ x ∈ (dgm n (fixL n p so f)).2, x.v ≠ (p : Int) + 1 := by
  intro x hx
  unfold dgm at hx
  have hi : Indep n (tabF (fixL n p so f)) p := fun i j hi hj hs => by rw [fixL_tab hi, fixL_tab hj, fixI_same (by omega) hs]
  rcases bld_no n 1 _ [] p (by simp) hp hi x hx with q | q
  · simp at q
  · omega
theorem cntT_congr : ∀ {d : Nat} {t t' : Nat → Bool}, EqT d t t' → cntT d t = cntT d t'
  | 0, t, t', h => by simp [cntT, h 0 (by simp)]
  | d + 1, t, t', h => by rw [cntT, cntT, cntT_congr h.ev, cntT_congr h.od]
def fxT (p : Nat) (so : Bool) (t : Nat → Bool) : Nat → Bool := fun i => t (fixI i p so)
theorem fix0 : ∀ j, j < 32 → ∀ so : Bool, fixI (2 * j) 0 so = 2 * j + bitN so ∧ fixI (2 * j + 1) 0 so = 2 * j + bitN so := by decide +kernel
theorem fixS : ∀ j, j < 32 → ∀ p, p < 5 → ∀ so : Bool, fixI (2 * j) (p + 1) so = 2 * fixI j p so ∧ fixI (2 * j + 1) (p + 1) so = 2 * fixI j p so + 1 := by decide +kernel
theorem pow5 {d : Nat} (h : d + 1 ≤ 6) : 2 ^ d ≤ 32 := by
  have : d = 0 ∨ d = 1 ∨ d = 2 ∨ d = 3 ∨ d = 4 ∨ d = 5 := by omega
  rcases this with rfl | rfl | rfl | rfl | rfl | rfl <;> decide
theorem fix_cnt : ∀ (d p : Nat) (t : Nat → Bool), d ≤ 6 → p < d → cntT d (fxT p true t) + cntT d (fxT p false t) = 2 * cntT d t := by
  intro d
  induction d with
  | zero => intro p t _ h; omega
  | succ d ih =>
    intro p t h6 hp
    have h32 := pow5 h6
    cases p with
    | zero =>
      have e1 : EqT d (evT (fxT 0 true t)) (odT t) := fun j hj => by show t (fixI (2 * j) 0 true) = t (2 * j + 1); rw [(fix0 j (by omega) true).1]; rfl
      have e2 : EqT d (odT (fxT 0 true t)) (odT t) := fun j hj => by show t (fixI (2 * j + 1) 0 true) = t (2 * j + 1); rw [(fix0 j (by omega) true).2]; rfl
      have e3 : EqT d (evT (fxT 0 false t)) (evT t) := fun j hj => by show t (fixI (2 * j) 0 false) = t (2 * j); rw [(fix0 j (by omega) false).1]; rfl
      have e4 : EqT d (odT (fxT 0 false t)) (evT t) := fun j hj => by show t (fixI (2 * j + 1) 0 false) = t (2 * j); rw [(fix0 j (by omega) false).2]; rfl
      rw [cntT, cntT, cntT, cntT_congr e1, cntT_congr e2, cntT_congr e3, cntT_congr e4]
      omega
    | succ p =>
      have ev_ : ∀ so, EqT d (evT (fxT (p + 1) so t)) (fxT p so (evT t)) := fun so j hj => by show t (fixI (2 * j) (p + 1) so) = t (2 * fixI j p so); rw [(fixS j (by omega) p (by omega) so).1]
      have od_ : ∀ so, EqT d (odT (fxT (p + 1) so t)) (fxT p so (odT t)) := fun so j hj => by show t (fixI (2 * j + 1) (p + 1) so) = t (2 * fixI j p so + 1); rw [(fixS j (by omega) p (by omega) so).2]
      rw [cntT, cntT, cntT, cntT_congr (ev_ true), cntT_congr (od_ true), cntT_congr (ev_ false), cntT_congr (od_ false)]
      have a := ih p (evT t) (by omega) (by omega)
      have b := ih p (odT t) (by omega) (by omega)
      omega
/-- the ones of both ways of fixing a variable are twice those of the diagram -/
theorem fix_two {n p : Nat} {ns : List Nd} {r : Int} (hn : n ≤ 6) (hp : p < n) : (fixL n p true (ev ns r)).count true + (fixL n p false (ev ns r)).count true = 2 * (tabL n ns r).count true := by
  rw [← cntT_count (fixL_len n p true _), ← cntT_count (fixL_len n p false _), ← cntT_count (tabL_len n ns r)]
  have e : ∀ so, EqT n (tabF (fixL n p so (ev ns r))) (fxT p so (ev ns r)) := fun so j hj => fixL_tab hj
  have e2 : EqT n (tabF (tabL n ns r)) (ev ns r) := fun j hj => by simp [tabF, tabL_at hj]
  rw [cntT_congr (e true), cntT_congr (e false), cntT_congr e2]
  exact fix_cnt n p _ hn hp
theorem good_part {v : Int} {L : List (List Int)} (h : goodB v L = true) (k : Nat) : goodB v (L.take k) = true ∧ goodB v (L.drop k) = true := by
  unfold goodB at h ⊢
  simp only [Bool.and_eq_true, decide_eq_true_eq, List.all_eq_true] at h ⊢
  obtain ⟨h1, h2, h3⟩ := h
  exact ⟨⟨h1, by rw [List.length_take]; omega, fun c hc => h3 c (List.mem_of_mem_take hc)⟩, ⟨h1, by rw [List.length_drop]; omega, fun c hc => h3 c (List.mem_of_mem_drop hc)⟩⟩
/-- ByClauses of the parts, joined, is ByClauses of all -/
theorem by_both {p : Nat} (h6 : p ≤ 6) (L : List (List Int)) (k : Nat) : rBoth (p : Int) (dgm p (clT p (L.take k))).2 ((dgm p (clT p (L.take k))).1 : Int) (p : Int) (dgm p (clT p (L.drop k))).2 ((dgm p (clT p (L.drop k))).1 : Int) = dvOf p (clT p L) := by
  obtain ⟨a1, a2, ha⟩ : ∃ x y, dgm p (clT p (L.take k)) = (x, y) := ⟨_, _, rfl⟩
  obtain ⟨b1, b2, hb⟩ : ∃ x y, dgm p (clT p (L.drop k)) = (x, y) := ⟨_, _, rfl⟩
  have ga := goodDB_yes (dgm_good h6 (clT_len p _) ha)
  have gb := goodDB_yes (dgm_good h6 (clT_len p _) hb)
  have ta := (dgm_facts (clT_len p _) ha).2.1
  have tb := (dgm_facts (clT_len p _) hb).2.1
  rw [ha, hb]
  unfold rBoth
  rw [ga, gb, if_pos (by simp), Int.toNat_natCast, ta, tb, ← clT_app, List.take_append_drop]
theorem rBy_yes {v : Int} {L : List (List Int)} {d0 d2 : Int} {ds : List Nd} (h : rBy v L = ((d0, ds, d2), true)) : ∃ p : Nat, v = p ∧ p ≤ 6 ∧ goodB v L = true ∧ d0 = p ∧ ds = (dgm p (clT p L)).2 ∧ d2 = ((dgm p (clT p L)).1 : Int) := by
  unfold rBy at h
  split at h
  · rename_i hc
    simp only [Bool.and_eq_true, decide_eq_true_eq] at hc
    have h0 := (goodB_v hc.2).1
    obtain ⟨p, rfl⟩ : ∃ p : Nat, v = p := ⟨v.toNat, by omega⟩
    rw [Int.toNat_natCast] at h
    unfold dvOf at h
    simp only [Prod.mk.injEq] at h
    obtain ⟨⟨h1, h2, h3⟩, _⟩ := h
    exact ⟨p, rfl, by omega, hc.2, h1.symm, h2.symm, h3.symm⟩
  · unfold dv0 at h
    simp at h
theorem rBy_mk {p : Nat} {L : List (List Int)} (h6 : p ≤ 6) (h : goodB (p : Int) L = true) : rBy (p : Int) L = (((p : Int), (dgm p (clT p L)).2, ((dgm p (clT p L)).1 : Int)), true) := by
  unfold rBy
  rw [h, if_pos (by simp; omega), Int.toNat_natCast]
  rfl
/-- the ones of the diagram of clauses are their models -/
theorem by_ones {p : Nat} (h6 : p ≤ 6) (L : List (List Int)) : rOnes (p : Int) (dgm p (clT p L)).2 ((dgm p (clT p L)).1 : Int) ((countB p L (2 ^ p) : Nat) : Int) true := by
  obtain ⟨a1, a2, ha⟩ : ∃ x y, dgm p (clT p L) = (x, y) := ⟨_, _, rfl⟩
  have ga := goodDB_yes (dgm_good h6 (clT_len p _) ha)
  have ta := (dgm_facts (clT_len p _) ha).2.1
  rw [ha]
  exact ⟨ga.symm, by rw [if_pos rfl, Int.toNat_natCast, ta, clT_count]⟩
/-- what FixVar answers where it answers -/
theorem rFix_yes {a r v : Int} {ns : List Nd} {so : Bool} {d0 d2 : Int} {ds : List Nd} (h : rFix a ns r v so = ((d0, ds, d2), true)) : ∃ n p : Nat, a = n ∧ n ≤ 6 ∧ v = (p : Int) + 1 ∧ p < n ∧ goodDB a ns r = true ∧ d0 = n ∧ ds = (dgm n (fixL n p so (ev ns r))).2 ∧ d2 = ((dgm n (fixL n p so (ev ns r))).1 : Int) := by
  unfold rFix at h
  split at h
  · rename_i hc
    simp only [Bool.and_eq_true, decide_eq_true_eq] at hc
    have hg := goodDB_true.1 hc.1.1
    obtain ⟨n, rfl⟩ : ∃ n : Nat, a = n := ⟨a.toNat, by have := hg.1; omega⟩
    obtain ⟨p, rfl⟩ : ∃ p : Nat, v = (p : Int) + 1 := ⟨(v - 1).toNat, by omega⟩
    rw [Int.toNat_natCast, show ((p : Int) + 1 - 1).toNat = p by omega] at h
    unfold dvOf at h
    simp only [Prod.mk.injEq] at h
    obtain ⟨⟨h1, h2, h3⟩, _⟩ := h
    exact ⟨n, p, rfl, by have := hg.2.1; omega, rfl, by omega, hc.1.1, h1.symm, h2.symm, h3.symm⟩
  · unfold dv0 at h
    simp at h
theorem rFix_mk {n p : Nat} {ns : List Nd} {r : Int} {so : Bool} (hg : goodDB (n : Int) ns r = true) (hp : p < n) : rFix (n : Int) ns r ((p : Int) + 1) so = (((n : Int), (dgm n (fixL n p so (ev ns r))).2, ((dgm n (fixL n p so (ev ns r))).1 : Int)), true) := by
  unfold rFix
  rw [hg, if_pos (by simp; omega), Int.toNat_natCast, show ((p : Int) + 1 - 1).toNat = p by omega]
  rfl
theorem fix_ones {n p : Nat} {ns : List Nd} {r : Int} {so : Bool} (h6 : n ≤ 6) : rOnes (n : Int) (dgm n (fixL n p so (ev ns r))).2 ((dgm n (fixL n p so (ev ns r))).1 : Int) (((fixL n p so (ev ns r)).count true : Nat) : Int) true := by
  obtain ⟨a1, a2, ha⟩ : ∃ x y, dgm n (fixL n p so (ev ns r)) = (x, y) := ⟨_, _, rfl⟩
  have ga := goodDB_yes (dgm_good h6 (fixL_len n p so _) ha)
  have ta := (dgm_facts (fixL_len n p so _) ha).2.1
  rw [ha]
  exact ⟨ga.symm, by rw [if_pos rfl, Int.toNat_natCast, ta]⟩
end Go.Proofs.Ytklcfbjaodildaa
