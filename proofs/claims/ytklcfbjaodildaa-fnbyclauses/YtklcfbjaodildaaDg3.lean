/-
  The program's functions over diagrams: DiagramOf, TableOf, EvalDiagram, NotOf, BothOf, FixVar, ByClauses.
-/
import Derived.Test.YtklcfbjaodildaaDg2
namespace Go.Proofs.Ytklcfbjaodildaa
open Go.ChangeShapes Go.WideShapes Go.ChangeAt Go.RowKit Go.Maps

/-- it answers a diagram of its own and a flag -/
def GaveDg (w : World) (d0 : Int) (ds : List Nd) (d2 : Int) (ok : Bool) (e : Ending) (w' : World) : Prop :=
  ∃ A c, e = .returned (.tuple #[.agg #[.int .i64 d0, .slice A ds.length c, .int .i64 d2], .bool ok]) ∧ w'.ownsRow w.heap.size 43 3 (.slice A ds.length c) ds.length (ncells ds) ∧ Below w.heap.size w w'
/-- the diagram of a table, as an answer -/
def dvOf (n : Nat) (T : List Bool) : (Int × List Nd × Int) × Bool := (((n : Int), (dgm n T).2, ((dgm n T).1 : Int)), true)
def dv0 : (Int × List Nd × Int) × Bool := ((0, [], 0), false)
theorem own_of_nblk {w : World} {g n : Nat} {xs : List Nd} (h : Blk w g 43 (ncells xs)) (hx : xs.length = n) (hn : n ≤ 1048576) : w.ownsRow g 43 3 (.slice (some ⟨g, 0, none⟩) n n) n (ncells xs) := by
  refine ⟨by rw [ncells_len, hx], .inr ⟨g, n, (ncells xs).toArray, rfl, Nat.le_refl _, h, Nat.le_refl _, by unfold maxLen; omega, by simp [ncells_len, hx], ?_⟩⟩
  exact List.take_of_length_le (by simp [ncells_len, hx])
theorem own_baseN {w : World} {base base' s n : Nat} {t : TypeId} {v : Value} {xs : List Value} (h : w.ownsRow base t s v n xs) (hb : base' ≤ base) : w.ownsRow base' t s v n xs := by
  refine ⟨h.1, ?_⟩
  rcases h.2 with q | ⟨g, cap, cur, rfl, hg, rest⟩
  · exact .inl q
  · exact .inr ⟨g, cap, cur, rfl, Nat.le_trans hb hg, rest⟩
theorem gaveDg_zero {w w' : World} {d0 d2 : Int} {ds : List Nd} {ok : Bool} (h : dv0 = ((d0, ds, d2), ok)) (hb : Below w.heap.size w w') : GaveDg w d0 ds d2 ok (.returned (.tuple #[.agg #[.int .i64 0, .slice none 0 0, .int .i64 0], .bool false])) w' := by
  unfold dv0 at h
  simp only [Prod.mk.injEq] at h
  obtain ⟨⟨rfl, rfl, rfl⟩, rfl⟩ := h
  exact ⟨none, 0, rfl, World.ownsRow_nil _ _ _ _, hb⟩
theorem gaveDg_blk {w w' : World} {n k g : Nat} {ms : List Nd} {T : List Bool} {d0 d2 : Int} {ds : List Nd} {ok : Bool} (h : dvOf n T = ((d0, ds, d2), ok)) (hd : dgm n T = (k, ms)) (hg : w.heap.size ≤ g) (hk : Blk w' g 43 (ncells ms)) (hl : ms.length ≤ 64) (hb : Below w.heap.size w w') :
    GaveDg w d0 ds d2 ok (.returned (.tuple #[.agg #[.int .i64 n, .slice (some ⟨g, 0, none⟩) ms.length ms.length, .int .i64 k], .bool true])) w' := by
  unfold dvOf at h
  rw [hd] at h
  simp only [Prod.mk.injEq] at h
  obtain ⟨⟨rfl, rfl, rfl⟩, rfl⟩ := h
  exact ⟨_, _, rfl, own_baseN (own_of_nblk hk rfl (by omega)) hg, hb⟩
theorem dgm_len {n : Nat} {T : List Bool} {k : Nat} {ms : List Nd} (hn : n ≤ 6) (hl : T.length = 2 ^ n) (h : dgm n T = (k, ms)) : ms.length ≤ 64 := by
  have := (dgm_facts hl h).2.2.2.1
  have := pow_le6 hn
  omega
def rDiag (n : Int) (T : List Bool) : (Int × List Nd × Int) × Bool := if deepB n && decide (T.length = 2 ^ n.toNat) then dvOf n.toNat T else dv0
/-- the diagram's block behind a call, its cells -/
theorem blk_cells {w : World} {g : Nat} {t : TypeId} {a b c : Value} (h : Blk w g t [a, b, c]) : w.cell? ⟨g, 0, none⟩ = some a ∧ w.cell? ⟨g, 1, none⟩ = some b ∧ w.cell? ⟨g, 2, none⟩ = some c ∧ w.frozen? ⟨g, 0, none⟩ = false ∧ w.frozen? ⟨g, 1, none⟩ = false ∧ w.frozen? ⟨g, 2, none⟩ = false ∧ g < w.heap.size :=
  ⟨h.cell 0, h.cell 1, h.cell 2, h.frozen 0, h.frozen 1, h.frozen 2, h.lt⟩
/-- two lists, the first up to k -/
def mixL (U T : List Bool) (k : Nat) : List Bool := U.take k ++ T.drop k
theorem mixL_zero (U T : List Bool) : mixL U T 0 = T := by simp [mixL]
theorem mixL_end {U T : List Bool} {k : Nat} (h : U.length ≤ k) (h2 : T.length ≤ k) : mixL U T k = U := by simp [mixL, List.take_of_length_le h, List.drop_of_length_le h2]
theorem mixL_at {U T : List Bool} {k : Nat} (h : k ≤ U.length) : (mixL U T k)[k]? = T[k]? := by
  unfold mixL
  rw [List.getElem?_append_right (by simp [Nat.min_le_left]), List.getElem?_drop]
  simp [Nat.min_eq_left h]
theorem mixL_set {U T : List Bool} {k : Nat} {x : Bool} (hx : U[k]? = some x) (h2 : k < T.length) : (mixL U T k).set k x = mixL U T (k + 1) := by
  have hlt : k < U.length := (List.getElem?_eq_some_iff.1 hx).1
  have e : U[k] = x := (List.getElem?_eq_some_iff.1 hx).2
  unfold mixL
  rw [List.drop_eq_getElem_cons h2, List.set_append_right _ _ (by simp; omega), List.take_succ_eq_append_getElem hlt, e, List.length_take, Nat.min_eq_left (Nat.le_of_lt hlt), Nat.sub_self, List.set_cons_zero, List.append_assoc]
  rfl
theorem mixL_len {U T : List Bool} {k : Nat} (h : U.length = T.length) (hk : k ≤ T.length) : (mixL U T k).length = T.length := by
  unfold mixL
  simp
  omega
theorem Blk.bset {w : World} {g j : Nat} {l : List Bool} {x : Bool} (h : Blk w g 4 (l.map Value.bool)) : Blk (w.setCell ⟨g, j, none⟩ (.bool x)) g 4 ((l.set j x).map Value.bool) := by
  have := h.set j (.bool x)
  rw [List.map_set]
  exact this
def rTab (a : Int) (ns : List Nd) (r : Int) (T : List Bool) (ok : Bool) : Prop := ok = goodDB a ns r ∧ T = if ok then tabL a.toNat ns r else []
theorem rTab_len {a : Int} {ns : List Nd} {r : Int} {T : List Bool} {ok : Bool} (h : rTab a ns r T ok) : T.length ≤ 64 := by
  obtain ⟨rfl, rfl⟩ := h
  split
  · rename_i hg
    have hg := goodDB_true.1 hg
    rw [tabL_len]
    exact pow_le6 (by have := hg.2.1; omega)
  · simp
theorem blk_second (w : World) (o : Obj) (cs : List Value) {t : TypeId} : Blk ((w.alloc o).alloc (.cells cs.toArray t (0, 0))) (w.heap.size + 1) t cs := by
  have := heap_alloc_new (w.alloc o) (.cells cs.toArray t (0, 0))
  rw [show (w.alloc o).heap.size = w.heap.size + 1 by simp] at this
  exact this
/-- what NotOf answers -/
noncomputable def rNot (a : Int) (ns : List Nd) (r : Int) : (Int × List Nd × Int) × Bool := if goodDB a ns r then dvOf a.toNat ((tabL a.toNat ns r).map not) else dv0
end Go.Proofs.Ytklcfbjaodildaa
