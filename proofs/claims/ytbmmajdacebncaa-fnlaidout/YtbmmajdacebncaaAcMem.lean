/-
  Arcs in memory.
-/
import Derived.Test.YtbmmajdacebncaaGrStep
import Derived.Test.YtbmmajdacebncaaTwo
namespace Go.Proofs.Ytbmmajdacebncaa
open Go.ChangeShapes Go.WideShapes Go.ChangeAt Go.RowKit

def pc (x : Int × Int) : List Value := [.int .i64 x.1, .int .i64 x.2]
def pv (x : Int × Int) : Value := .agg #[.int .i64 x.1, .int .i64 x.2]
theorem pv_inj {x y : Int × Int} (h : pv x = pv y) : x = y := by
  obtain ⟨a, b⟩ := x; obtain ⟨c, d⟩ := y
  simp only [pv, Value.agg.injEq, Array.mk.injEq, List.cons.injEq, Value.int.injEq, true_and, and_true] at h
  obtain ⟨rfl, rfl⟩ := h
  rfl
def acells (xs : AL) : List Value := xs.flatMap pc
/-- the two cells of an arc from an offset on -/
def AAt (w : World) (b f : Nat) (x : Int × Int) : Prop :=
  w.cell? ⟨b, f, none⟩ = some (.int .i64 x.1) ∧ w.cell? ⟨b, f + 1, none⟩ = some (.int .i64 x.2)
/-- a slice of arcs that reads as the list xs -/
def ALies (w : World) (A : Option Addr) (xs : AL) : Prop :=
  ∀ i x, xs[i]? = some x → ∃ b off, A = some ⟨b, off, none⟩ ∧ b < w.heap.size ∧ AAt w b (off + i * 2) x
theorem AAt.below {w w' : World} {b f : Nat} {x : Int × Int} (h : AAt w b f x) (hb : Below w.heap.size w w') (hlt : b < w.heap.size) : AAt w' b f x := by
  have q := (bcell hb).1 b
  obtain ⟨h0, h1⟩ := h
  exact ⟨(q _ hlt).trans h0, (q _ hlt).trans h1⟩
theorem ALies.below {w w' : World} {A : Option Addr} {xs : AL} (h : ALies w A xs) (hb : Below w.heap.size w w') : ALies w' A xs := by
  intro i x hx
  obtain ⟨b, off, hA, hlt, ha⟩ := h i x hx
  exact ⟨b, off, hA, Nat.lt_of_lt_of_le hlt hb.size, ha.below hb hlt⟩
theorem acells_len (xs : AL) : (acells xs).length = xs.length * 2 := by
  induction xs with
  | nil => rfl
  | cons x xs ih => simp only [acells, List.flatMap_cons, List.length_append, List.length_cons] at ih ⊢; simp only [pc, List.length_cons, List.length_nil]; omega
theorem acells_at (xs : AL) (i : Nat) (x : Int × Int) (hx : xs[i]? = some x) (j : Nat) (hj : j < 2) : (acells xs)[i * 2 + j]? = (pc x)[j]? := by
  induction xs generalizing i with
  | nil => simp at hx
  | cons y ys ih =>
    have e : acells (y :: ys) = pc y ++ acells ys := by simp [acells]
    rw [e]
    cases i with
    | zero =>
      simp at hx
      subst hx
      rw [List.getElem?_append_left (by simp [pc]; omega)]
      simp
    | succ i =>
      rw [List.getElem?_append_right (by simp [pc]; omega)]
      have := ih i (by simpa using hx)
      rw [← this]
      congr 1
      simp [pc]
      omega
theorem aat_of_cells {w : World} {b f : Nat} {x : Int × Int} (h : ∀ j, j < 2 → w.cell? ⟨b, f + j, none⟩ = (pc x)[j]?) : AAt w b f x :=
  ⟨h 0 (by omega), h 1 (by omega)⟩
theorem Blk.alies {w : World} {g : Nat} {t : TypeId} {xs : AL} (h : Blk w g t (acells xs)) : ALies w (some ⟨g, 0, none⟩) xs := by
  intro i x hx
  refine ⟨g, 0, rfl, h.lt, aat_of_cells fun j hj => ?_⟩
  rw [h.cell, Nat.zero_add]
  exact acells_at xs i x hx j hj
theorem own_alies {w : World} {base n cap : Nat} {A : Option Addr} {t : TypeId} {xs : AL} (hn : xs.length = n) (h : w.ownsRow base t 2 (.slice A n cap) n (acells xs)) : ALies w A xs := by
  intro i x hx
  have hi := (List.getElem?_eq_some_iff.1 hx).1
  obtain ⟨g, cap', hv, _, hg⟩ := h.form (by omega)
  have hA : A = some ⟨g, 0, none⟩ := by injection hv
  subst hA
  refine ⟨g, 0, rfl, hg, aat_of_cells fun j hj => ?_⟩
  have e := acells_at xs i x hx j hj
  have hc : (pc x)[j]? = some ((pc x)[j]'(by simp [pc]; omega)) := List.getElem?_eq_getElem _
  have := h.cells (g := g) rfl (i * 2 + j) _ (e.trans hc)
  rw [add_plain] at this
  rw [hc, Nat.add_assoc]
  exact this
theorem info_arc : (Try.prog.info? 36).map (fun i => (i.zero, i.size, i.bytes)) = some (some (.agg #[.int .i64 0, .int .i64 0]), 2, 16) := by kernel_rfl
theorem own_of_ablk {w : World} {g n : Nat} {xs : AL} (h : Blk w g 36 (acells xs)) (hx : xs.length = n) (hn : n ≤ 1048576) : w.ownsRow g 36 2 (.slice (some ⟨g, 0, none⟩) n n) n (acells xs) := by
  refine ⟨by rw [acells_len, hx], .inr ⟨g, n, (acells xs).toArray, rfl, Nat.le_refl _, h, Nat.le_refl _, by unfold maxLen; omega, by simp [acells_len, hx], ?_⟩⟩
  exact List.take_of_length_le (by simp [acells_len, hx])
theorem Kept.own2A {w w' : World} {S : Nat → Prop} {base n : Nat} {t : TypeId} {v : Value} {xs : List Value} (h : Kept w w' S) (ho : w.ownsRow base t 2 v n xs) (hn : ∀ g, v.ownBlock = some g → ¬ S g) : w'.ownsRow base t 2 v n xs := by
  refine ⟨ho.1, ?_⟩
  rcases ho.2 with q | ⟨g, cap, cur, rfl, hb, hg, rest⟩
  · exact .inl q
  · exact .inr ⟨g, cap, cur, rfl, hb, (h.block g (Array.getElem?_eq_some_iff.1 hg).1 (hn g rfl)).trans hg, rest⟩
theorem acells_snoc (xs : AL) (k : Nat) (x : Int × Int) (hx : xs[k]? = some x) : acells (xs.take (k + 1)) = acells (xs.take k) ++ pc x := by
  have hlt : k < xs.length := (List.getElem?_eq_some_iff.1 hx).1
  have e : xs[k] = x := (List.getElem?_eq_some_iff.1 hx).2
  rw [List.take_succ_eq_append_getElem hlt, e]
  simp [acells]
theorem acells_add (xs ys : AL) : acells (xs ++ ys) = acells xs ++ acells ys := by simp [acells]
end Go.Proofs.Ytbmmajdacebncaa
