/-
  A machine whose three rows the call itself made: what is read, what is written.
-/
import Derived.Test.YtilnegmjnbffhaaDoorMLaw
import Derived.Test.YtilnegmjnbffhaaDoorMMath
namespace Go.Proofs.YtilnegmjnbffhaaDoor
open Go.ChangeShapes Go.WideShapes Go.ChangeAt Go.RowKit

def OwnM (w : World) (base g1 g2 g3 c1 c2 c3 : Nat) (m : Mch) : Prop :=
  w.ownsRow base 3 1 (.slice (some ⟨g1, 0, none⟩) 6 c1) 6 (m.r.map (Value.int .i64)) ∧ w.ownsRow base 3 1 (.slice (some ⟨g2, 0, none⟩) 16 c2) 16 (m.c.map (Value.int .i64)) ∧
  w.ownsRow base 4 1 (.slice (some ⟨g3, 0, none⟩) 16 c3) 16 (m.s.map Value.bool) ∧ g1 ≠ g2 ∧ g1 ≠ g3 ∧ g2 ≠ g3
theorem own_frozen {w : World} {base n c g : Nat} {t : TypeId} {vs : List Value} (h : w.ownsRow base t 1 (.slice (some ⟨g, 0, none⟩) n c) n vs) (j : Nat) : w.frozen? ⟨g, j, none⟩ = false := by
  rcases h.2 with ⟨h', _⟩ | ⟨g', cap', cur, h', hb, hg, hnc, hcm, hcs, htake⟩
  · simp at h'
  · simp only [Value.slice.injEq, Option.some.injEq, Addr.mk.injEq, and_true, true_and] at h'
    obtain ⟨rfl, rfl⟩ := h'
    simp [World.frozen?, hg]
theorem own_cell {w : World} {base n c g : Nat} {t : TypeId} {vs : List Value} (h : w.ownsRow base t 1 (.slice (some ⟨g, 0, none⟩) n c) n vs) {j : Nat} {v : Value} (hj : vs[j]? = some v) : w.cell? ⟨g, j, none⟩ = some v := by
  have := h.cells (g := g) rfl j v hj
  rw [add_plain, Nat.zero_add] at this
  exact this
theorem own_kept3 {w w' : World} {base n c g : Nat} {t : TypeId} {vs : List Value} {S : Nat → Prop} (h : w.ownsRow base t 1 (.slice (some ⟨g, 0, none⟩) n c) n vs) (hk : Kept w w' S) (hn : ¬ S g) : w'.ownsRow base t 1 (.slice (some ⟨g, 0, none⟩) n c) n vs := by
  refine ⟨h.1, ?_⟩
  rcases h.2 with hn' | ⟨g', cap, cur, h', hg, hgg, rest⟩
  · exact .inl hn'
  · have hg0 : g' = g := by
      simp only [Value.slice.injEq, Option.some.injEq, Addr.mk.injEq, and_true, true_and] at h'
      exact h'.1.symm
    subst hg0
    exact .inr ⟨g', cap, cur, h', hg, (hk.block g' (Array.getElem?_eq_some_iff.1 hgg).1 hn).trans hgg, rest⟩
section
variable {w w' : World} {base g1 g2 g3 c1 c2 c3 : Nat} {m : Mch}
theorem OwnM.lens (h : OwnM w base g1 g2 g3 c1 c2 c3 m) : m.r.length = 6 ∧ m.c.length = 16 ∧ m.s.length = 16 := by
  have h1 := h.1.1
  have h2 := h.2.1.1
  have h3 := h.2.2.1.1
  simp at h1 h2 h3
  exact ⟨h1, h2, h3⟩
theorem OwnM.reg (h : OwnM w base g1 g2 g3 c1 c2 c3 m) {j : Nat} (hj : j < 6) : w.cell? ⟨g1, j, none⟩ = some (.int .i64 (m.r.getD j 0)) :=
  own_cell h.1 (by have := h.lens.1; have hlt : j < m.r.length := by omega
                   simp [List.getD, List.getElem?_eq_getElem hlt])
theorem OwnM.cel (h : OwnM w base g1 g2 g3 c1 c2 c3 m) {j : Nat} (hj : j < 16) : w.cell? ⟨g2, j, none⟩ = some (.int .i64 (m.c.getD j 0)) :=
  own_cell h.2.1 (by have := h.lens.2.1; have hlt : j < m.c.length := by omega
                     simp [List.getD, List.getElem?_eq_getElem hlt])
theorem OwnM.flag (h : OwnM w base g1 g2 g3 c1 c2 c3 m) {j : Nat} (hj : j < 16) : w.cell? ⟨g3, j, none⟩ = some (.bool (m.s.getD j false)) :=
  own_cell h.2.2.1 (by have := h.lens.2.2; have hlt : j < m.s.length := by omega
                       simp [List.getD, List.getElem?_eq_getElem hlt])
theorem OwnM.lt (h : OwnM w base g1 g2 g3 c1 c2 c3 m) : g1 < w.heap.size ∧ g2 < w.heap.size ∧ g3 < w.heap.size := ⟨(h.1.lt g1 rfl).2, (h.2.1.lt g2 rfl).2, (h.2.2.1.lt g3 rfl).2⟩
theorem OwnM.ge (h : OwnM w base g1 g2 g3 c1 c2 c3 m) : base ≤ g1 ∧ base ≤ g2 ∧ base ≤ g3 := ⟨(h.1.lt g1 rfl).1, (h.2.1.lt g2 rfl).1, (h.2.2.1.lt g3 rfl).1⟩
theorem OwnM.kept (h : OwnM w base g1 g2 g3 c1 c2 c3 m) {S : Nat → Prop} (hk : Kept w w' S) (n1 : ¬ S g1) (n2 : ¬ S g2) (n3 : ¬ S g3) : OwnM w' base g1 g2 g3 c1 c2 c3 m :=
  ⟨own_kept3 h.1 hk n1, own_kept3 h.2.1 hk n2, own_kept3 h.2.2.1 hk n3, h.2.2.2⟩
theorem OwnM.below (h : OwnM w base g1 g2 g3 c1 c2 c3 m) (hb : Below w.heap.size w w') : OwnM w' base g1 g2 g3 c1 c2 c3 m :=
  ⟨own_below h.1 hb, own_below h.2.1 hb, own_below h.2.2.1 hb, h.2.2.2⟩
theorem OwnM.at (h : OwnM w base g1 g2 g3 c1 c2 c3 m) (a : Int) : OwnM w base g1 g2 g3 c1 c2 c3 ⟨a, m.r, m.c, m.s⟩ := h
theorem kept_setCell (w : World) (g j : Nat) (u : Value) {S : Nat → Prop} (hs : S g) : Kept w (w.setCell ⟨g, j, none⟩ u) S :=
  ⟨rfl, rfl, rfl, by simp [World.setCell], fun i _ hn => Below.heap_setCell w ⟨g, j, none⟩ u i (fun e => hn (by rw [e]; exact hs))⟩
theorem OwnM.far (h : OwnM w base g1 g2 g3 c1 c2 c3 m) {g j : Nat} (u : Value) (n1 : g1 ≠ g) (n2 : g2 ≠ g) (n3 : g3 ≠ g) : OwnM (w.setCell ⟨g, j, none⟩ u) base g1 g2 g3 c1 c2 c3 m :=
  h.kept (S := fun i => i = g) (kept_setCell w g j u rfl) n1 n2 n3
theorem OwnM.setReg (h : OwnM w base g1 g2 g3 c1 c2 c3 m) (j : Nat) (v : Int) : OwnM (w.setCell ⟨g1, j, none⟩ (.int .i64 v)) base g1 g2 g3 c1 c2 c3 ⟨m.a, m.r.set j v, m.c, m.s⟩ := by
  obtain ⟨h1, h2, h3, hne⟩ := h
  refine ⟨?_, own_kept3 h2 (S := fun i => i = g1) (kept_setCell w g1 j _ rfl) (by omega), own_kept3 h3 (S := fun i => i = g1) (kept_setCell w g1 j _ rfl) (by omega), hne⟩
  have := (h1.stored j (.int .i64 v)).1
  rw [← List.map_set] at this
  exact this
theorem OwnM.setCel (h : OwnM w base g1 g2 g3 c1 c2 c3 m) (j : Nat) (v : Int) : OwnM (w.setCell ⟨g2, j, none⟩ (.int .i64 v)) base g1 g2 g3 c1 c2 c3 ⟨m.a, m.r, m.c.set j v, m.s⟩ := by
  obtain ⟨h1, h2, h3, hne⟩ := h
  refine ⟨own_kept3 h1 (S := fun i => i = g2) (kept_setCell w g2 j _ rfl) (by omega), ?_, own_kept3 h3 (S := fun i => i = g2) (kept_setCell w g2 j _ rfl) (by omega), hne⟩
  have := (h2.stored j (.int .i64 v)).1
  rw [← List.map_set] at this
  exact this
theorem OwnM.setFlag (h : OwnM w base g1 g2 g3 c1 c2 c3 m) (j : Nat) (v : Bool) : OwnM (w.setCell ⟨g3, j, none⟩ (.bool v)) base g1 g2 g3 c1 c2 c3 ⟨m.a, m.r, m.c, m.s.set j v⟩ := by
  obtain ⟨h1, h2, h3, hne⟩ := h
  refine ⟨own_kept3 h1 (S := fun i => i = g3) (kept_setCell w g3 j _ rfl) (by omega), own_kept3 h2 (S := fun i => i = g3) (kept_setCell w g3 j _ rfl) (by omega), ?_, hne⟩
  have := (h3.stored j (.bool v)).1
  rw [← List.map_set] at this
  exact this
theorem own_of_mblk (h : MBlk w g1 g2 g3 m) (h1 : m.r.length = 6) (h2 : m.c.length = 16) (h3 : m.s.length = 16) (hb : base ≤ g1 ∧ base ≤ g2 ∧ base ≤ g3) : OwnM w base g1 g2 g3 6 16 16 m :=
  ⟨own_base (own_of_vblk h.1 (by simpa using h1) (by omega)) hb.1, own_base (own_of_vblk h.2.1 (by simpa using h2) (by omega)) hb.2.1, own_base (own_of_vblk h.2.2.1 (by simpa using h3) (by omega)) hb.2.2, h.2.2.2⟩
theorem OwnM.mblk (h : OwnM w base g1 g2 g3 6 16 16 m) : MBlk w g1 g2 g3 m := ⟨vblk_of_own h.1, vblk_of_own h.2.1, vblk_of_own h.2.2.1, h.2.2.2⟩
theorem OwnM.lies (h : OwnM w base g1 g2 g3 c1 c2 c3 m) : MLies w (some ⟨g1, 0, none⟩) (some ⟨g2, 0, none⟩) (some ⟨g3, 0, none⟩) m := ⟨own_ilies h.1, own_ilies h.2.1, own_blies h.2.2.1⟩
end
end Go.Proofs.YtilnegmjnbffhaaDoor
