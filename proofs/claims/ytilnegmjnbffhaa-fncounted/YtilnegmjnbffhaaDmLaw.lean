/-
  What the named laws of chapter 11 ask, of plain lists.
-/
import Derived.Test.YtilnegmjnbffhaaDmStep
namespace Go.Proofs.Ytilnegmjnbffhaa

/-- the nearest dominator of each step -/
def nearL (l : KT) : List Int := (List.range l.length).map (nearN (edg l))
theorem near_at {l : KT} {i : Nat} (h : i < l.length) : (nearL l)[i]? = some (nearN (edg l) i) := by
  unfold nearL
  rw [List.getElem?_map, List.getElem?_range h]; rfl
/-- a way of a program, as ints: it begins at step 0, each further step may follow the one before -/
def WayI (l : KT) (t : List Int) : Prop := t[0]? = some 0 ∧ ∀ (i : Nat) (x y : Int), t[i]? = some x → t[i + 1]? = some y → ∃ (a : Nat) (s : Int × Int), x = a ∧ l[a]? = some s ∧ y ∈ nxI s.1 s.2 a
theorem way_nat {l : KT} (g : GoodKT l) {t : List Int} (h : WayI l t) : ∃ tn : List Nat, t = castL tn ∧ Way (edg l) tn := by
  have hn : ∀ (i : Nat) (x : Int), t[i]? = some x → 0 ≤ x := by
    intro i
    cases i with
    | zero => intro x hx; rw [h.1] at hx; have := Option.some.inj hx; omega
    | succ i =>
      intro y hy
      have hlt : i + 1 < t.length := (List.getElem?_eq_some_iff.1 hy).1
      obtain ⟨x, hx⟩ : ∃ x, t[i]? = some x := ⟨_, List.getElem?_eq_getElem (by omega)⟩
      obtain ⟨a, s, _, hs, hm⟩ := h.2 i x y hx hy
      obtain ⟨b, rfl, _⟩ := nx_nat g hs hm
      omega
  refine ⟨t.map Int.toNat, ?_, ?_, ?_⟩
  · unfold castL
    rw [List.map_map]
    conv => lhs; rw [← List.map_id t]
    apply List.map_congr_left
    intro x hx
    obtain ⟨i, hi⟩ := List.getElem?_of_mem hx
    have := hn i x hi
    simp only [id, Function.comp]
    omega
  · rw [List.getElem?_map, h.1]; rfl
  · intro i x y hx hy
    rw [List.getElem?_map] at hx hy
    cases hx' : t[i]? with
    | none => rw [hx'] at hx; cases hx
    | some x' =>
      cases hy' : t[i + 1]? with
      | none => rw [hy'] at hy; cases hy
      | some y' =>
        rw [hx'] at hx; rw [hy'] at hy
        simp only [Option.map_some, Option.some.injEq] at hx hy
        obtain ⟨a, s, rfl, hs, hm⟩ := h.2 i x' y' hx' hy'
        obtain ⟨b, rfl, hb, _⟩ := nx_nat g hs hm
        simp only [Int.toNat_natCast] at hx hy
        subst hx hy
        exact ⟨edg_fwd g _ _ hb, hb⟩
/-- FnPassed, at each step of a run -/
theorem passed_at {l : KT} (g : GoodKT l) (h0 : 0 < l.length) {t : List Int} (h : WayI l t) {i : Nat} {x : Int} (hx : t[i]? = some x) :
    ∃ a : Nat, x = a ∧ a < l.length ∧ rb (edg l) 0 a = true ∧ (∀ k, k ∈ castL (domL (edg l) a) → k ∈ t.take (i + 1)) ∧
      (0 < a → 2 ≤ (domL (edg l) a).length ∧ ∃ d : Nat, (domL (edg l) a)[(domL (edg l) a).length - 2]? = some d ∧ (nearL l)[a]? = some (d : Int)) := by
  obtain ⟨tn, rfl, hw⟩ := way_nat g h
  have hx' := hx
  unfold castL at hx'
  rw [List.getElem?_map] at hx'
  cases ha : tn[i]? with
  | none => rw [ha] at hx'; cases hx'
  | some a =>
    rw [ha] at hx'
    simp only [Option.map_some, Option.some.injEq] at hx'
    have hr := way_reached hw i a ha
    have hal : a < l.length := by
      rcases rb_iff.1 hr with rfl | ⟨b, _, _, hb⟩
      · exact h0
      · exact (edg_lt g hb).2
    refine ⟨a, hx'.symm, hal, hr, ?_, ?_⟩
    · intro k hk
      obtain ⟨m, hm, rfl⟩ := castL_mem.1 hk
      have := way_passes hw i a m ha (mem_dom.1 hm).2
      have e : (castL tn).take (i + 1) = castL (tn.take (i + 1)) := by unfold castL; rw [List.map_take]
      rw [e]; exact castL_mem'.2 this
    · intro hpos
      obtain ⟨h1, d, h2, h3⟩ := near_dom hr hpos
      have := dom_two hr hpos
      exact ⟨by omega, d, h2, by rw [near_at hal, h3]⟩
/-- FnPassed, of the steps ahead -/
theorem passed_ahead {l : KT} (g : GoodKT l) {i a y : Nat} (ha : a ∈ aheadL (edg l) l.length i) (hy : y ∈ domL (edg l) i) (hne : y ≠ i) : rb (edg l) 0 a = true ∧ a < l.length ∧ y ∈ domL (edg l) a := by
  obtain ⟨h1, h2, h3⟩ := mem_ahead.1 ha
  have hd := dm_back (mem_dom.1 hy).2 hne (edg_fwd g _ _ h3) h2 h3
  exact ⟨h2, h1, mem_dom.2 ⟨(dm_le a h2 hd).1, hd⟩⟩
theorem ahead_some {l : KT} (g : GoodKT l) {i : Nat} (hr : rb (edg l) 0 i = true) (h0 : 0 < i) : 0 < (aheadL (edg l) l.length i).length := by
  obtain ⟨a, _, h1, h2⟩ := rb_pred hr h0
  exact List.length_pos_of_mem (mem_ahead.2 ⟨(edg_lt g h2).1, h1, h2⟩)
/-- FnCounted -/
theorem counted {l : KT} (g : GoodKT l) {i : Nat} (h0 : 0 < i) (hi : i < l.length) : ((aheadL (edg l) l.length i).map (wc (edg l))).sum = wc (edg l) i := wc_sum l.length (edg_fwd g) h0 (by omega)
theorem sum_take {f : Nat → Nat} {L : List Nat} {k n : Nat} (h : L[k]? = some n) : ((L.take (k + 1)).map f).sum = ((L.take k).map f).sum + f n := by
  rw [List.take_add_one, h]
  simp [List.map_append, List.sum_append]
theorem sum_le {f : Nat → Nat} (L : List Nat) (k : Nat) : ((L.take k).map f).sum ≤ (L.map f).sum := by
  have : L = L.take k ++ L.drop k := (List.take_append_drop k L).symm
  conv => rhs; rw [this]
  rw [List.map_append, List.sum_append]; omega
end Go.Proofs.Ytilnegmjnbffhaa
