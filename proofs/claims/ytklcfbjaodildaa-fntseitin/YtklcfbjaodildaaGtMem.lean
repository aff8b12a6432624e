/-
  Gates in memory.
-/
import Derived.Test.YtklcfbjaodildaaGtMath
import Derived.Test.YtklcfbjaodildaaTwo
namespace Go.Proofs.Ytklcfbjaodildaa
open Go.ChangeShapes Go.WideShapes Go.ChangeAt Go.RowKit

def Gt.cells (x : Gt) : List Value := [.int .i64 x.k, .int .i64 x.a, .int .i64 x.b]
def Gt.val (x : Gt) : Value := .agg #[.int .i64 x.k, .int .i64 x.a, .int .i64 x.b]
theorem Gt.val_inj {x y : Gt} (h : x.val = y.val) : x = y := by
  cases x; cases y
  simp only [Gt.val, Value.agg.injEq, Array.mk.injEq, List.cons.injEq, Value.int.injEq, true_and, and_true] at h
  obtain ⟨rfl, rfl, rfl⟩ := h
  rfl
def gcells (xs : List Gt) : List Value := xs.flatMap Gt.cells
/-- the three cells of a node from an offset on -/
def GAt (w : World) (b f : Nat) (x : Gt) : Prop :=
  w.cell? ⟨b, f, none⟩ = some (.int .i64 x.k) ∧ w.cell? ⟨b, f + 1, none⟩ = some (.int .i64 x.a) ∧ w.cell? ⟨b, f + 2, none⟩ = some (.int .i64 x.b)
/-- a slice of nodes that reads as the list xs -/
def GLies (w : World) (A : Option Addr) (xs : List Gt) : Prop :=
  ∀ i x, xs[i]? = some x → ∃ b off, A = some ⟨b, off, none⟩ ∧ b < w.heap.size ∧ GAt w b (off + i * 3) x
theorem GAt.below {w w' : World} {b f : Nat} {x : Gt} (h : GAt w b f x) (hb : Below w.heap.size w w') (hlt : b < w.heap.size) : GAt w' b f x := by
  have q := (bcell hb).1 b
  obtain ⟨h0, h1, h2⟩ := h
  exact ⟨(q _ hlt).trans h0, (q _ hlt).trans h1, (q _ hlt).trans h2⟩
theorem GLies.below {w w' : World} {A : Option Addr} {xs : List Gt} (h : GLies w A xs) (hb : Below w.heap.size w w') : GLies w' A xs := by
  intro i x hx
  obtain ⟨b, off, hA, hlt, ha⟩ := h i x hx
  exact ⟨b, off, hA, Nat.lt_of_lt_of_le hlt hb.size, ha.below hb hlt⟩
theorem gcells_len (xs : List Gt) : (gcells xs).length = xs.length * 3 := by
  induction xs with
  | nil => rfl
  | cons x xs ih => simp only [gcells, List.flatMap_cons, List.length_append, List.length_cons] at ih ⊢; simp only [Gt.cells, List.length_cons, List.length_nil]; omega
theorem gcells_at (xs : List Gt) (i : Nat) (x : Gt) (hx : xs[i]? = some x) (j : Nat) (hj : j < 3) : (gcells xs)[i * 3 + j]? = x.cells[j]? := by
  induction xs generalizing i with
  | nil => simp at hx
  | cons y ys ih =>
    have e : gcells (y :: ys) = y.cells ++ gcells ys := by simp [gcells]
    rw [e]
    cases i with
    | zero =>
      simp at hx
      subst hx
      rw [List.getElem?_append_left (by simp [Gt.cells]; omega)]
      simp
    | succ i =>
      rw [List.getElem?_append_right (by simp [Gt.cells]; omega)]
      have := ih i (by simpa using hx)
      rw [← this]
      congr 1
      simp [Gt.cells]
      omega
theorem gat_of_cells {w : World} {b f : Nat} {x : Gt} (h : ∀ j, j < 3 → w.cell? ⟨b, f + j, none⟩ = x.cells[j]?) : GAt w b f x :=
  ⟨h 0 (by omega), h 1 (by omega), h 2 (by omega)⟩
theorem Blk.glies {w : World} {g : Nat} {t : TypeId} {xs : List Gt} (h : Blk w g t (gcells xs)) : GLies w (some ⟨g, 0, none⟩) xs := by
  intro i x hx
  refine ⟨g, 0, rfl, h.lt, gat_of_cells fun j hj => ?_⟩
  rw [h.cell, Nat.zero_add]
  exact gcells_at xs i x hx j hj
theorem own_glies {w : World} {base n cap : Nat} {A : Option Addr} {t : TypeId} {xs : List Gt} (hn : xs.length = n) (h : w.ownsRow base t 3 (.slice A n cap) n (gcells xs)) : GLies w A xs := by
  intro i x hx
  have hi := (List.getElem?_eq_some_iff.1 hx).1
  obtain ⟨g, cap', hv, _, hg⟩ := h.form (by omega)
  have hA : A = some ⟨g, 0, none⟩ := by injection hv
  subst hA
  refine ⟨g, 0, rfl, hg, gat_of_cells fun j hj => ?_⟩
  have e := gcells_at xs i x hx j hj
  have hc : x.cells[j]? = some (x.cells[j]'(by simp [Gt.cells]; omega)) := List.getElem?_eq_getElem _
  have := h.cells (g := g) rfl (i * 3 + j) _ (e.trans hc)
  rw [add_plain] at this
  rw [hc, Nat.add_assoc]
  exact this

theorem info_gate : (Try.prog.info? 120).map (fun i => (i.zero, i.size, i.bytes)) = some (some (.agg #[.int .i64 0, .int .i64 0, .int .i64 0]), 3, 24) := by kernel_rfl
theorem own_of_gblk {w : World} {g n : Nat} {xs : List Gt} (h : Blk w g 120 (gcells xs)) (hx : xs.length = n) (hn : n ≤ 1048576) : w.ownsRow g 120 3 (.slice (some ⟨g, 0, none⟩) n n) n (gcells xs) := by
  refine ⟨by rw [gcells_len, hx], .inr ⟨g, n, (gcells xs).toArray, rfl, Nat.le_refl _, h, Nat.le_refl _, by unfold maxLen; omega, by simp [gcells_len, hx], ?_⟩⟩
  exact List.take_of_length_le (by simp [gcells_len, hx])
theorem own_baseG {w : World} {base base' s n : Nat} {t : TypeId} {v : Value} {xs : List Value} (h : w.ownsRow base t s v n xs) (hb : base' ≤ base) : w.ownsRow base' t s v n xs := by
  refine ⟨h.1, ?_⟩
  rcases h.2 with q | ⟨g, cap, cur, rfl, hg, rest⟩
  · exact .inl q
  · exact .inr ⟨g, cap, cur, rfl, Nat.le_trans hb hg, rest⟩
theorem Kept.own3G {w w' : World} {S : Nat → Prop} {base n : Nat} {t : TypeId} {v : Value} {xs : List Value} (h : Kept w w' S) (ho : w.ownsRow base t 3 v n xs) (hn : ∀ g, v.ownBlock = some g → ¬ S g) : w'.ownsRow base t 3 v n xs := by
  refine ⟨ho.1, ?_⟩
  rcases ho.2 with q | ⟨g, cap, cur, rfl, hb, hg, rest⟩
  · exact .inl q
  · exact .inr ⟨g, cap, cur, rfl, hb, (h.block g (Array.getElem?_eq_some_iff.1 hg).1 (hn g rfl)).trans hg, rest⟩
end Go.Proofs.Ytklcfbjaodildaa
