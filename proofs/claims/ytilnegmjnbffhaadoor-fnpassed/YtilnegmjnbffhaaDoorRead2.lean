/-
  Reading a program from a string: what both readers come to; the contract of the program's.
-/
import Derived.Test.YtilnegmjnbffhaaDoorRead1
namespace Go.Proofs.YtilnegmjnbffhaaDoor
open Go.ChangeShapes Go.WideShapes Go.ChangeAt Go.RowKit

/-- how many bytes the step at a place takes, the bytes, the step -/
def szA (s : ByteArray) (a : Nat) : Nat := if byteAt s a % 16 = 4 then 8 else 4
def cutA (s : ByteArray) (a : Nat) : ByteArray := s.extract a (a + szA s a)
def yA (s : ByteArray) (a : Nat) : Stp := ⟨byteAt s a % 16, byteAt s a / 16, byteAt s (a + 1) / 16, byteAt s (a + 1) % 16, if byteAt s a % 16 = 4 then byteAt s (a + 3) + 256 * byteAt s (a + 7) else byteAt s (a + 3), byteAt s (a + 2)⟩
def okA (s : ByteArray) (a : Nat) : Bool := (yA s a).ok && decide (encS (yA s a).k (yA s a).o (yA s a).d (yA s a).s (yA s a).i (yA s a).t = cutA s a)
/-- the reading from a place on: a code, and the steps -/
def rdF (s : ByteArray) : Nat → Nat → List Stp → Int × List Stp
  | 0, _, ys => (0, ys)
  | f + 1, a, ys => if s.size ≤ a then (0, ys) else if s.size - a < szA s a then (1, []) else if okA s a = true then rdF s f (a + szA s a) (ys ++ [yA s a]) else (2, [])
theorem rd_end {s : ByteArray} {f a : Nat} {ys : List Stp} (h : s.size ≤ a) : rdF s f a ys = (0, ys) := by
  cases f with
  | zero => rfl
  | succ f => rw [rdF, if_pos h]
theorem rd_cut {s : ByteArray} {f a : Nat} {ys : List Stp} (hf : 0 < f) (h : a < s.size) (hc : s.size - a < szA s a) : rdF s f a ys = (1, []) := by
  obtain ⟨f, rfl⟩ : ∃ g, f = g + 1 := ⟨f - 1, by omega⟩
  rw [rdF, if_neg (by omega), if_pos hc]
theorem rd_bad {s : ByteArray} {f a : Nat} {ys : List Stp} (hf : 0 < f) (h : a < s.size) (hc : ¬ s.size - a < szA s a) (hb : okA s a = false) : rdF s f a ys = (2, []) := by
  obtain ⟨f, rfl⟩ : ∃ g, f = g + 1 := ⟨f - 1, by omega⟩
  rw [rdF, if_neg (by omega), if_neg hc, if_neg (by simp [hb])]
theorem rd_next {s : ByteArray} {f a : Nat} {ys : List Stp} (hf : 0 < f) (h : a < s.size) (hc : ¬ s.size - a < szA s a) (hb : okA s a = true) : rdF s f a ys = rdF s (f - 1) (a + szA s a) (ys ++ [yA s a]) := by
  obtain ⟨f, rfl⟩ : ∃ g, f = g + 1 := ⟨f - 1, by omega⟩
  rw [rdF, if_neg (by omega), if_neg hc, if_pos hb]
  rfl
/-- what is answered behind such a reading -/
def FinR (R : Int × List Stp) (l : List Stp) (code : Int) (b : Bool) : Prop :=
  (R.1 ≠ 0 → l = [] ∧ code = R.1 ∧ b = false) ∧ (R.1 = 0 → Good R.2 → l = R.2 ∧ code = 0 ∧ b = true) ∧ (R.1 = 0 → ¬ Good R.2 → l = [] ∧ code = 3 ∧ b = false)
def ReadRes (s : ByteArray) (l : List Stp) (code : Int) (b : Bool) : Prop :=
  (160 < s.size → l = [] ∧ code = 0 ∧ b = false) ∧ (¬ 160 < s.size → FinR (rdF s 41 0 []) l code b)
theorem read_res (s : ByteArray) : ∃ l code b, ReadRes s l code b := by
  by_cases h : 160 < s.size
  · exact ⟨[], 0, false, fun _ => ⟨rfl, rfl, rfl⟩, fun h' => absurd h h'⟩
  · rcases Classical.em ((rdF s 41 0 []).1 = 0) with h0 | h0
    · rcases Classical.em (Good (rdF s 41 0 []).2) with hg | hg
      · exact ⟨_, _, _, fun h' => absurd h' h, fun _ => ⟨fun h' => absurd h0 h', fun _ _ => ⟨rfl, rfl, rfl⟩, fun _ h' => absurd hg h'⟩⟩
      · exact ⟨_, _, _, fun h' => absurd h' h, fun _ => ⟨fun h' => absurd h0 h', fun _ h' => absurd h' hg, fun _ _ => ⟨rfl, rfl, rfl⟩⟩⟩
    · exact ⟨_, _, _, fun h' => absurd h' h, fun _ => ⟨fun _ => ⟨rfl, rfl, rfl⟩, fun h' => absurd h' h0, fun h' => absurd h' h0⟩⟩

theorem extract_data (s : ByteArray) (a b : Nat) : (s.extract a b).data.toList = (s.data.toList.take b).drop a := by
  rw [ByteArray.data_extract]
  simp [Array.toList_extract, List.extract_eq_take_drop, List.drop_take]
theorem byteAt_extract (s : ByteArray) (a b j : Nat) (h : a + j < b) : byteAt (s.extract a b) j = byteAt s (a + j) := by
  unfold byteAt
  rw [extract_data, List.getD_eq_getElem?_getD, List.getD_eq_getElem?_getD, List.getElem?_drop, List.getElem?_take, if_pos h]
theorem extract_size (s : ByteArray) (a b : Nat) (h : b ≤ s.size) : (s.extract a b).size = b - a := by
  rw [ByteArray.size_extract]
  omega
theorem extract_head (s : ByteArray) (a z : Nat) (h : a + z ≤ s.size) : (s.extract a s.size).extract 0 z = s.extract a (a + z) := by
  apply ByteArray.ext
  apply Array.toList_inj.1
  rw [extract_data, extract_data, extract_data]
  apply List.ext_getElem?
  intro j
  simp only [List.drop_zero, List.getElem?_take, List.getElem?_drop]
  by_cases hj : j < z
  · rw [if_pos hj, if_pos (by omega), if_pos (by omega)]
  · rw [if_neg hj, if_neg (by omega)]
theorem extract_tail (s : ByteArray) (a z : Nat) : (s.extract a s.size).extract z (s.size - a) = s.extract (a + z) s.size := by
  apply ByteArray.ext
  apply Array.toList_inj.1
  rw [extract_data, extract_data, extract_data]
  apply List.ext_getElem?
  intro j
  simp only [List.getElem?_take, List.getElem?_drop]
  by_cases hj : z + j < s.size - a
  · rw [if_pos hj, if_pos (by omega), if_pos (by omega), Nat.add_assoc]
  · rw [if_neg hj, if_neg (by omega)]
theorem extract_all (s : ByteArray) : s.extract 0 s.size = s := by
  apply ByteArray.ext
  apply Array.toList_inj.1
  rw [extract_data, List.drop_zero, List.take_of_length_le (by rw [Array.length_toList]; exact Nat.le_refl _)]
theorem szA_or (s : ByteArray) (a : Nat) : szA s a = 4 ∨ szA s a = 8 := by unfold szA; split <;> simp

theorem str_ne {a b : ByteArray} (h : ¬ a = b) : (a.toList == b.toList) = false := by
  refine beq_eq_false_iff_ne.2 fun e => h ?_
  rw [ByteArray.toList_eq, ByteArray.toList_eq] at e
  exact ByteArray.ext (Array.toList_inj.1 e)
theorem okA_no {s : ByteArray} {a : Nat} {y : Stp} {u : ByteArray} (hy : yA s a = y) (hu : cutA s a = u) (h : okB y.k y.o y.d y.s y.i y.t = false ∨ ¬ sbS y.k y.o y.d y.s y.i y.t = u) : okA s a = false := by
  unfold okA
  rw [hy, hu]
  rcases h with h | h
  · simp [Stp.ok, h]
  · cases hok : okB y.k y.o y.d y.s y.i y.t
    · simp [Stp.ok, hok]
    · rw [← sbS_yes hok] at h
      simp [h]
theorem okA_yes {s : ByteArray} {a : Nat} {y : Stp} {u : ByteArray} (hy : yA s a = y) (hu : cutA s a = u) (hok : okB y.k y.o y.d y.s y.i y.t = true) (h : sbS y.k y.o y.d y.s y.i y.t = u) : okA s a = true := by
  unfold okA
  rw [hy, hu]
  rw [← sbS_yes hok] at h
  simp [Stp.ok, hok, h]
theorem cells_one (y : Stp) : ∀ u ∈ y.cells, u.oneCell' = true := by
  intro u hu
  simp only [Stp.cells, List.mem_cons, List.mem_nil_iff, or_false] at hu
  rcases hu with rfl | rfl | rfl | rfl | rfl | rfl <;> rfl
/-- steps gathered in memory of its own -/
def GotS (base : Nat) (ys : List Stp) (v : Value) (w : World) : Prop :=
  ∃ A c, v = .slice A ys.length c ∧ w.ownsRow base 67 6 (.slice A ys.length c) ys.length (cellsOf ys)
/-- it answers steps of its own, a code and a bool -/
def GaveRead (w : World) (l : List Stp) (code : Int) (b : Bool) (e : Ending) (w' : World) : Prop :=
  ∃ A c, e = .returned (.tuple #[.slice A l.length c, .int .i64 code, .bool b]) ∧ w'.ownsRow w.heap.size 67 6 (.slice A l.length c) l.length (cellsOf l) ∧ Below w.heap.size w w'
theorem read_nil {w w1 : World} (code : Int) (h : Below w.heap.size w w1) : GaveRead w [] code false (.returned (.tuple #[.slice none 0 0, .int .i64 code, .bool false])) w1 :=
  ⟨none, 0, rfl, World.ownsRow_nil _ _ _ _, h⟩
def szV : Value → Nat
  | .string s => s.size
  | _ => 0
/-- the reading so far -/
def RdInv (base : Nat) (s : ByteArray) (R : Int × List Stp) (a : Nat) (ys : List Stp) (v : Value) (w : World) : Prop :=
  a ≤ s.size ∧ (∃ f, s.size - a ≤ 4 * f ∧ rdF s f a ys = R) ∧ ys.length * 4 ≤ a ∧ GotS base ys v w
theorem own_lies' {w : World} {base n c : Nat} {A : Option Addr} {t : TypeId} {xs : List Stp} (h : w.ownsRow base t 6 (.slice A n c) n (cellsOf xs)) : Lies w A xs := by
  intro i x hx
  have hlt : i < xs.length := (List.getElem?_eq_some_iff.1 hx).1
  have hl := h.1
  rw [cellsOf_len] at hl
  obtain ⟨g, cap, hv, _, hg⟩ := h.form (by omega)
  have hA : A = some ⟨g, 0, none⟩ := by injection hv
  subst hA
  exact own_lies h i x hx
/-- an append of one step -/
theorem gotS_step {w wr w3 : World} {ys : List Stp} {c2 g3 cap3 : Nat} {A2 : Option Addr} {y : Stp} {Bn : Obj}
    (O2 : wr.ownsRow w.heap.size 67 6 (.slice A2 ys.length c2) ys.length (cellsOf ys))
    (hown3 : w3.ownsRow w.heap.size 67 6 (.slice (some ⟨g3, 0, none⟩) (ys.length + 1) cap3) (ys.length + 1) (cellsOf ys ++ y.cells))
    (hg3 : (wr.alloc Bn).grownBy w3 (Value.slice A2 ys.length c2).ownBlock) (B2 : Below w.heap.size w wr) :
    GotS w.heap.size (ys ++ [y]) (.slice (some ⟨g3, 0, none⟩) (ys.length + 1) cap3) w3 ∧ Below w.heap.size w w3 := by
  have hlt := O2.lt
  refine ⟨⟨some ⟨g3, 0, none⟩, cap3, by simp, ?_⟩, ?_⟩
  · have e : cellsOf (ys ++ [y]) = cellsOf ys ++ y.cells := by simp [cellsOf]
    rw [e]
    simpa using hown3
  · exact ((Below.tr B2 (below1 wr _)).grown hg3 (by have := B2.size; simp; omega) (fun g hg => (hlt g hg).1))

end Go.Proofs.YtilnegmjnbffhaaDoor
