/-
  Contracts of Resolve: the program's and the model's.
-/
import Derived.Test.YtklcfbjaodildaaClean
namespace Go.Proofs.Ytklcfbjaodildaa
open Go.ChangeShapes Go.WideShapes Go.ChangeAt Go.RowKit

/-- an append of nothing -/
theorem wpList_append_nil {P : Program} (w : World) {ops : Array Oper} {rest : List Oper} {o : Oper} {a : Act} {Q : Exit → Act → World → Prop}
    (hg : o.guard = none) (s x : Operand) (t : TypeId) (hop : o.op = Op.call { callee := Callee.builtin Builtin.append, args := #[s, x], argTypes := #[t, t] })
    (base : Nat) (e : TypeId) (i : TypeInfo) (size : Nat) (h1 : P.underlying t = some (.slice e)) (h2 : P.info? e = some i)
    (v : Value) (n : Nat) (xs : List Value) (hs : a.eval s = v) (hown : w.ownsRow base e size v n xs) (hx : a.eval x = .slice none 0 0)
    (hK : wpList P ops Q rest (a.put o.dst v) w) :
    wpList P ops Q (o :: rest) a w := by
  refine wpList_plain hg fun K hK' => ?_
  have hrun := run_append_owned_none (P := P) w base t o.type e i size h1 h2 v n xs hown
  unfold Oper.wp
  simp [execOp, hop, resolve, invoke, builtin, hs, hx, hrun, Result.andThen]
  exact hK' _ _ hK

/-- it answers a slice of ints of its own, nil where it is empty -/
def GaveNil (w : World) (l : List Int) (e : Ending) (w' : World) : Prop :=
  ∃ A c, e = .returned (.slice A l.length c) ∧ w'.ownsRow w.heap.size 3 1 (.slice A l.length c) l.length (l.map (Value.int .i64)) ∧ (l = [] → A = none ∧ c = 0) ∧ Below w.heap.size w w'
theorem resB_no {a b : List Int} {v : Int} (h : ¬ (clauseB 12 a = true ∧ clauseB 12 b = true ∧ 1 ≤ v ∧ v ≤ 12 ∧ v ∈ a ∧ -v ∈ b)) : resB a b v = none := by unfold resB; rw [if_neg h]
theorem resB_yes {a b : List Int} {v : Int} (h : clauseB 12 a = true ∧ clauseB 12 b = true ∧ 1 ≤ v ∧ v ≤ 12 ∧ v ∈ a ∧ -v ∈ b) : resB a b v = cleanF [] (resAll a b v) := by unfold resB; rw [if_pos h]
theorem resB_len {a b r : List Int} {v : Int} {t : Bool} (h : Opt (resB a b v) r t) : r.length ≤ 1000 := by
  cases t
  · rw [(h.2 rfl).2]; simp
  · have e := h.1 rfl
    unfold resB at e
    split at e
    · rename_i q
      have h1 := cleanF_len e
      have h2 := (resAll_clean (v := v) q.1 q.2.1).1
      simp only [List.length_nil] at h1
      omega
    · simp at e
/-- rows above stay -/
theorem GaveTwo.under {w w1 : World} {r : List Int} {b : Bool} {e : Ending} {w' : World} (h : GaveTwo w1 r b e w') (hb : Below w.heap.size w w1) : GaveTwo w r b e w' := by
  obtain ⟨A, c, rfl, ho, hw⟩ := h
  exact ⟨A, c, rfl, own_base ho hb.size, Below.tr hb hw⟩

/-- behind the append of one number: all in one -/
theorem acc_snoc {w w3 : World} {o : List Int} {x : Int} {m g3 cap3 : Nat} (HM : o.length = m) (h : w3.ownsRow w.heap.size 3 1 (.slice (some ⟨g3, 0, none⟩) (m + 1) cap3) (m + 1) ((o ++ [x]).map (Value.int .i64))) :
    ∃ A2 c2, Value.slice (some ⟨g3, 0, none⟩) (m + 1) cap3 = .slice A2 (o ++ [x]).length c2 ∧ w3.ownsRow w.heap.size 3 1 (.slice A2 (o ++ [x]).length c2) (o ++ [x]).length ((o ++ [x]).map (Value.int .i64)) :=
  ⟨some ⟨g3, 0, none⟩, cap3, by rw [List.length_append, HM, List.length_singleton], by rw [List.length_append, HM]; exact h⟩
theorem acc_same {w w3 : World} {o : List Int} {m c2 : Nat} {A2 : Option Addr} (HM : o.length = m) (h : w3.ownsRow w.heap.size 3 1 (.slice A2 m c2) m (o.map (Value.int .i64))) :
    ∃ A c, Value.slice A2 m c2 = .slice A o.length c ∧ w3.ownsRow w.heap.size 3 1 (.slice A o.length c) o.length (o.map (Value.int .i64)) :=
  ⟨A2, c2, by rw [HM], by rw [HM]; exact h⟩
end Go.Proofs.Ytklcfbjaodildaa
