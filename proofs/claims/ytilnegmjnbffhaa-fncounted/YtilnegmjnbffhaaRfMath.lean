/-
  The graph of a program, by its steps; marks in a row of bools; the steps that an iterator gives. Plain mathematics.
-/
import Derived.Test.YtilnegmjnbffhaaDmLaw
import Derived.Test.YtilnegmjnbffhaaNexts
namespace Go.Proofs.Ytilnegmjnbffhaa
open Go.ChangeShapes Go.WideShapes Go.ChangeAt Go.RowKit

def ktOf (xs : List Stp) : KT := xs.map fun x => (x.k, x.t)
theorem ktOf_len (xs : List Stp) : (ktOf xs).length = xs.length := by simp [ktOf]
theorem ktOf_at {xs : List Stp} {i : Nat} {x : Stp} (h : xs[i]? = some x) : (ktOf xs)[i]? = some (x.k, x.t) := by unfold ktOf; rw [List.getElem?_map, h]; rfl
theorem good_kt {xs : List Stp} (h : Good xs) : GoodKT (ktOf xs) := by
  intro a p hp
  unfold ktOf at hp
  rw [List.getElem?_map] at hp
  cases hx : xs[a]? with
  | none => rw [hx] at hp; cases hp
  | some x =>
    rw [hx] at hp
    obtain rfl := Option.some.inj hp
    obtain ⟨ho, hj⟩ := h.2 a x hx
    have hok := okB_yes ho
    unfold okP at hok
    refine ⟨⟨by simp only; omega, by simp only; omega⟩, fun y hy => ?_⟩
    rw [ktOf_len]
    exact hj y hy
/-- the steps that may follow, step by step -/
def nxsL (l : KT) : List (List Int) := (List.range l.length).map fun i => match l[i]? with | some x => nxI x.1 x.2 i | none => []
theorem nxs_len (l : KT) : (nxsL l).length = l.length := by simp [nxsL]
theorem nxs_at {l : KT} {i : Nat} {x : Int × Int} (h : l[i]? = some x) : (nxsL l)[i]? = some (nxI x.1 x.2 i) := by
  have hlt := (List.getElem?_eq_some_iff.1 h).1
  unfold nxsL
  rw [List.getElem?_map, List.getElem?_range hlt]
  simp [h]
/-- a row of bools -/
def bitsV (n : Nat) (p : Nat → Bool) : List Value := (List.range n).map fun j => .bool (p j)
theorem bitsV_len (n : Nat) (p : Nat → Bool) : (bitsV n p).length = n := by simp [bitsV]
theorem bitsV_at {n j : Nat} (p : Nat → Bool) (h : j < n) : (bitsV n p)[j]? = some (.bool (p j)) := by unfold bitsV; rw [List.getElem?_map, List.getElem?_range h]; rfl
theorem bitsV_ext {n : Nat} {p q : Nat → Bool} (h : ∀ j, j < n → p j = q j) : bitsV n p = bitsV n q := by
  unfold bitsV
  apply List.map_congr_left
  intro j hj
  rw [h j (List.mem_range.1 hj)]
theorem bitsV_set (n i : Nat) (p : Nat → Bool) : (bitsV n p).set i (.bool true) = bitsV n (fun j => p j || decide (j = i)) := by
  apply List.ext_getElem?
  intro j
  rw [List.getElem?_set]
  by_cases hj : j < n
  · rw [bitsV_at _ hj, bitsV_at _ hj, bitsV_len]
    by_cases e : i = j
    · subst e; simp [hj]
    · have : ¬ j = i := fun h => e h.symm
      simp [e, this]
  · have h1 : (bitsV n p)[j]? = none := List.getElem?_eq_none (by rw [bitsV_len]; omega)
    have h2 : (bitsV n (fun j => p j || decide (j = i)))[j]? = none := List.getElem?_eq_none (by rw [bitsV_len]; omega)
    rw [h1, h2, bitsV_len]
    by_cases e : i = j
    · subst e; simp [hj]
    · simp [e]
theorem bitsV_zero (n : Nat) : List.replicate n (Value.bool false) = bitsV n (fun _ => false) := by
  apply List.ext_getElem?
  intro j
  by_cases hj : j < n
  · rw [bitsV_at _ hj, List.getElem?_replicate, if_pos hj]
  · rw [List.getElem?_eq_none (by simp; omega), List.getElem?_eq_none (by rw [bitsV_len]; omega)]
/-- a row of numbers -/
def numsV (n : Nat) (p : Nat → Int) : List Value := (List.range n).map fun j => .int .i64 (p j)
theorem numsV_len (n : Nat) (p : Nat → Int) : (numsV n p).length = n := by simp [numsV]
theorem numsV_at {n j : Nat} (p : Nat → Int) (h : j < n) : (numsV n p)[j]? = some (.int .i64 (p j)) := by unfold numsV; rw [List.getElem?_map, List.getElem?_range h]; rfl
theorem numsV_ext {n : Nat} {p q : Nat → Int} (h : ∀ j, j < n → p j = q j) : numsV n p = numsV n q := by
  unfold numsV
  apply List.map_congr_left
  intro j hj
  rw [h j (List.mem_range.1 hj)]
theorem numsV_set (n i : Nat) (p : Nat → Int) (v : Int) : (numsV n p).set i (.int .i64 v) = numsV n (fun j => if j = i then v else p j) := by
  apply List.ext_getElem?
  intro j
  rw [List.getElem?_set]
  by_cases hj : j < n
  · rw [numsV_at _ hj, numsV_at _ hj, numsV_len]
    by_cases e : i = j
    · subst e; simp [hj]
    · have : ¬ j = i := fun h => e h.symm
      simp [e, this]
  · have h1 : (numsV n p)[j]? = none := List.getElem?_eq_none (by rw [numsV_len]; omega)
    have h2 : (numsV n (fun j => if j = i then v else p j))[j]? = none := List.getElem?_eq_none (by rw [numsV_len]; omega)
    rw [h1, h2, numsV_len]
    by_cases e : i = j
    · subst e; simp [hj]
    · simp [e]
theorem numsV_const (n : Nat) (v : Int) : List.replicate n (Value.int .i64 v) = numsV n (fun _ => v) := by
  apply List.ext_getElem?
  intro j
  by_cases hj : j < n
  · rw [numsV_at _ hj, List.getElem?_replicate, if_pos hj]
  · rw [List.getElem?_eq_none (by simp; omega), List.getElem?_eq_none (by rw [numsV_len]; omega)]
/-- what is marked when the steps before m have led on -/
def mkdB (E : Nat → Nat → Bool) (n f m j : Nat) : Bool := decide (j ∈ rpL E n f m)
theorem mkd_start {E : Nat → Nat → Bool} {n f : Nat} (j : Nat) (hf : f < n) : mkdB E n f 0 j = (false || decide (j = f)) := by
  unfold mkdB
  rw [Bool.false_or, decide_eq_decide, mem_rp]
  constructor
  · rintro ⟨_, h | ⟨a, ha, _⟩⟩
    · exact h
    · omega
  · rintro rfl; exact ⟨hf, .inl rfl⟩
theorem mkd_at {E : Nat → Nat → Bool} {n f m : Nat} (hm : m < n) : mkdB E n f m m = rb E f m := by
  unfold mkdB
  cases h : rb E f m
  · exact decide_eq_false (fun q => by rw [(rp_at hm).1 q] at h; cases h)
  · exact decide_eq_true ((rp_at hm).2 h)
theorem mkd_skip {E : Nat → Nat → Bool} {n f m : Nat} (h : rb E f m = false) (j : Nat) : mkdB E n f (m + 1) j = mkdB E n f m j := by unfold mkdB; rw [rp_skip h]
theorem mkd_lead {l : KT} (g : GoodKT l) {f m j : Nat} {x : Int × Int} (hx : l[m]? = some x) (h : rb (edg l) f m = true) :
    mkdB (edg l) l.length f (m + 1) j = (mkdB (edg l) l.length f m j || decide ((j : Int) ∈ nxI x.1 x.2 m)) := by
  have e := rp_put g hx h (f := f)
  have hm : ∀ y : Int, y ∈ castL (rpL (edg l) l.length f (m + 1)) ↔ y ∈ castL (rpL (edg l) l.length f m) ∨ y ∈ nxI x.1 x.2 m := fun y => by rw [← e, putAll_mem]
  have := hm j
  rw [castL_mem', castL_mem'] at this
  unfold mkdB
  rw [decide_eq_decide.2 this, Bool.decide_or]
theorem take_mem_succ {α : Type} {l : List α} {i : Nat} {y : α} (h : l[i]? = some y) (z : α) : z ∈ l.take (i + 1) ↔ z ∈ l.take i ∨ z = y := by
  rw [take_snocP h, List.mem_append, List.mem_singleton]
/-- the steps before m that are reached -/
def befL (E : Nat → Nat → Bool) (f m : Nat) : List Nat := (List.range m).filter (rb E f)
theorem bef_no {E : Nat → Nat → Bool} {f m : Nat} (h : rb E f m = false) : befL E f (m + 1) = befL E f m := by unfold befL; rw [List.range_succ, List.filter_append]; simp [h]
theorem bef_yes {E : Nat → Nat → Bool} {f m : Nat} (h : rb E f m = true) : befL E f (m + 1) = befL E f m ++ [m] := by unfold befL; rw [List.range_succ, List.filter_append]; simp [h]
theorem bef_all (E : Nat → Nat → Bool) (f n : Nat) : befL E f n = reachL E n f := rfl
theorem bef_cut {E : Nat → Nat → Bool} {f m n : Nat} (hm : m < n) (h : rb E f m = true) : ∃ rest, reachL E n f = befL E f m ++ m :: rest := by
  have : ∀ d, ∃ rest, befL E f (m + 1 + d) = befL E f m ++ m :: rest := by
    intro d
    induction d with
    | zero => exact ⟨[], bef_yes h⟩
    | succ d ih =>
      obtain ⟨r, hr⟩ := ih
      cases q : rb E f (m + 1 + d)
      · exact ⟨r, by rw [← Nat.add_assoc, bef_no q, hr]⟩
      · exact ⟨r ++ [m + 1 + d], by rw [← Nat.add_assoc, bef_yes q, hr]; simp⟩
  obtain ⟨r, hr⟩ := this (n - (m + 1))
  rw [show m + 1 + (n - (m + 1)) = n by omega] at hr
  exact ⟨r, hr⟩
end Go.Proofs.Ytilnegmjnbffhaa
