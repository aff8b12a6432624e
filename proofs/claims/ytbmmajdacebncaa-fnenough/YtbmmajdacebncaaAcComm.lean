/-
  Communication in one goroutine, as an operation of the walk: a send with room, a select of one receive with a default.
-/
import Derived.Test.YtbmmajdacebncaaAcMem
import Derived.Conc.LoneSelect
namespace Go.Proofs.Ytbmmajdacebncaa
open Go.ChangeShapes Go.WideShapes Go.ChangeAt Go.RowKit
open Go.Conc

/-- the step of a communication, whatever kind of frame it stands in -/
theorem stepG_talk {P : Program} {b : Frame} {a : Act} {k : List Item} {cs : List Frame} {w w' : World} {ops : Array Oper} {i : Nat} {rest : List Nat} {o : Oper} {cases : Array CommCase} {blocking : Bool} {shape : CommShape}
    (ho : ops[i]? = some o) (hw : Region.wanted o (yielded ops a.tmps) = true) (hr : (execOp a.eval o).run P w = .ok (.comm cases blocking shape) w') :
    ∃ es, stepG P true (G (b.at a (.inRegion ops (i :: rest) :: k)) cs) w = .comm (G (b.at a (.inRegion ops (i :: rest) :: k)) cs) cases blocking shape w' es := by
  rw [stepG_oper ho hw]
  simp only [stepG.apply, Sem.runT_eq, hr, G, Frame.at, GStep.after, if_true]
  exact ⟨_, rfl⟩
/-- the operation communicates, is done at once and hands v -/
def Talks (P : Program) (o : Oper) (a : Act) (w : World) (v : Value) (w' : World) : Prop :=
  ∀ (ops : Array Oper) (i : Nat) (rest : List Nat) (b : Frame) (k : List Item) (cs : List Frame), ops[i]? = some o → Region.wanted o (yielded ops a.tmps) = true →
    step P (lone (b.at a (.inRegion ops (i :: rest) :: k)) cs w) = .next (lone (b.at (a.put o.dst v) (.inRegion ops rest :: k)) cs w')
theorem fin_at {b : Frame} {a : Act} {ops : Array Oper} {i : Nat} {rest : List Nat} {k : List Item} {o : Oper} (ho : ops[i]? = some o) (v : Value) :
    (b.at a (.inRegion ops (i :: rest) :: k)).finish v = b.at (a.put o.dst v) (.inRegion ops rest :: k) := by rw [Frame.finish_at, ho]; rfl
theorem talks_send {P : Program} {o : Oper} {a : Act} {w w₁ : World} {c cap s r : Nat} {buf : Array Value} {v z : Value} {tm : Bool}
    (hr : (execOp a.eval o).run P w = .ok (.comm #[scase c v z] true .send) w₁) (hc : w₁.heap[c]? = some (.chan cap buf false s r tm)) (hroom : buf.size < cap) :
    Talks P o a w undef (w₁.setChan c cap (buf.push v) false (s + 1) r tm) := by
  intro ops i rest b k cs ho hw
  obtain ⟨es, h⟩ := stepG_talk (b := b) (k := k) (cs := cs) (rest := rest) ho hw hr
  have := step_lone_send_room h hc hroom
  rw [fin_at ho] at this
  exact this
theorem talks_take {P : Program} {o : Oper} {a : Act} {w w₁ : World} {c cap s r : Nat} {buf : Array Value} {z : Value} {tm closed : Bool}
    (hr : (execOp a.eval o).run P w = .ok (.comm #[rcase c z] false .select) w₁) (hc : w₁.heap[c]? = some (.chan cap buf closed s r tm)) (hsome : 0 < buf.size) :
    Talks P o a w (.tuple #[goInt 0, .bool true, buf.getD 0 undef]) (w₁.setChan c cap (buf.extract 1 buf.size) closed s (r + 1) tm) := by
  intro ops i rest b k cs ho hw
  obtain ⟨es, h⟩ := stepG_talk (b := b) (k := k) (cs := cs) (rest := rest) ho hw hr
  have := step_lone_select_recv_buf h hc hsome
  rw [fin_at ho] at this
  exact this
theorem talks_one {P : Program} {o : Oper} {a : Act} {w w₁ : World} {c cap s r : Nat} {x z : Value} {tm closed : Bool}
    (hr : (execOp a.eval o).run P w = .ok (.comm #[rcase c z] false .select) w₁) (hc : w₁.heap[c]? = some (.chan cap #[x] closed s r tm)) :
    Talks P o a w (.tuple #[goInt 0, .bool true, x]) (w₁.setChan c cap #[] closed s (r + 1) tm) := talks_take hr hc (by simp)
theorem talks_none {P : Program} {o : Oper} {a : Act} {w w₁ : World} {c cap s r : Nat} {z : Value} {tm : Bool}
    (hr : (execOp a.eval o).run P w = .ok (.comm #[rcase c z] false .select) w₁) (hc : w₁.heap[c]? = some (.chan cap #[] false s r tm)) :
    Talks P o a w (.tuple #[goInt (-1), .bool false, z]) w₁ := by
  intro ops i rest b k cs ho hw
  obtain ⟨es, h⟩ := stepG_talk (b := b) (k := k) (cs := cs) (rest := rest) ho hw hr
  have := step_lone_select_default h hc
  rw [fin_at ho] at this
  exact this
/-- operations l of a region, from an act and a world on -/
def OpsWp (P : Program) (ops : Array Oper) (Q : Exit → Act → World → Prop) (l : List Nat) (a : Act) (w : World) : Prop :=
  ∀ (b : Frame) (k : List Item) (cs : List Frame), ∃ e a' w', Q e a' w' ∧ Arrives P (lone (b.at a (.inRegion ops l :: k)) cs w) b k cs e a' w'
theorem opsWp_ops {P : Program} {ops : Array Oper} {Q : Exit → Act → World → Prop} {l : List Nat} {a : Act} {w : World} (h : wpOps P ops Q l a w) : OpsWp P ops Q l a w := fun b k cs => wp_ops l a w h b k cs
theorem opsWp_nil {P : Program} {ops : Array Oper} {Q : Exit → Act → World → Prop} {a : Act} {w : World} (h : Q .normal a w) : OpsWp P ops Q [] a w := opsWp_ops h
theorem opsWp_region {P : Program} {id : Nat} {ops : Array Oper} {Q : Exit → Act → World → Prop} {a : Act} {w : World} (h : OpsWp P ops Q (List.range ops.size) a w) : (Code.region id ops false).wp P Q a w :=
  fun b k cs => let ⟨e, a', w', q, r⟩ := h b k cs; ⟨e, a', w', q, .of_steps (.one step_region) r⟩
theorem opsWp_draw {P : Program} {id : Nat} {ops : Array Oper} {Q : Exit → Act → World → Prop} {a : Act} {w : World}
    (h : ∀ t, OpsWp P ops Q (Region.schedule (P.follows .mixedOrders) ops t) a { w with drawn := w.drawn + 1 }) : (Code.region id ops true).wp P Q a w :=
  fun b k cs => let ⟨e, a', w', q, r⟩ := h _ b k cs; ⟨e, a', w', q, .of_steps (.one step_region_draw) r⟩
/-- an operation that yields a value -/
theorem opsWp_val {P : Program} {ops : Array Oper} {Q : Exit → Act → World → Prop} {i : Nat} {rest : List Nat} {o : Oper} {a : Act} {w w' : World} {v : Value}
    (ho : ops[i]? = some o) (hw : Region.wanted o (yielded ops a.tmps) = true) (hr : (execOp a.eval o).run P w = .ok (.value v) w') (h : OpsWp P ops Q rest (a.put o.dst v) w') : OpsWp P ops Q (i :: rest) a w := by
  intro b k cs
  obtain ⟨e, a', w'', q, r⟩ := h b k cs
  refine ⟨e, a', w'', q, .of_steps (.one (step_lone_go ?_)) r⟩
  have hg := stepG_op (P := P) (b := b) (k := k) (cs := cs) (w := w) (rest := rest) ho hw
  rw [hg, ← fin_at ho]
  simp [stepG.apply, hr]
/-- an operation that communicates -/
theorem opsWp_talk {P : Program} {ops : Array Oper} {Q : Exit → Act → World → Prop} {i : Nat} {rest : List Nat} {o : Oper} {a : Act} {w w' : World} {v : Value}
    (ho : ops[i]? = some o) (hw : Region.wanted o (yielded ops a.tmps) = true) (hr : Talks P o a w v w') (h : OpsWp P ops Q rest (a.put o.dst v) w') : OpsWp P ops Q (i :: rest) a w := by
  intro b k cs
  obtain ⟨e, a', w'', q, r⟩ := h b k cs
  exact ⟨e, a', w'', q, .of_steps (.one (hr ops i rest b k cs ho hw)) r⟩
/-- an operation that calls -/
theorem opsWp_call {P : Program} {ops : Array Oper} {Q : Exit → Act → World → Prop} {i : Nat} {rest : List Nat} {o : Oper} {a : Act} {w w' : World} {f : FuncId} {args : Array Value} {R : Value → World → Prop}
    (ho : ops[i]? = some o) (hw : Region.wanted o (yielded ops a.tmps) = true) (hr : (execOp a.eval o).run P w = .ok (.enter f args) w')
    (hc : Calls P f args w' (fun e w'' => ∃ v, e = .returned v ∧ R v w'')) (h : ∀ v w'', R v w'' → OpsWp P ops Q rest (a.put o.dst v) w'') : OpsWp P ops Q (i :: rest) a w := by
  intro b k cs
  obtain ⟨e, w'', fr, ⟨v, rfl, hR⟩, hs, _, hl⟩ := hc (b.at a (.inRegion ops (i :: rest) :: k) :: cs)
  have hent : step P (lone (b.at a (.inRegion ops (i :: rest) :: k)) cs w) = .next (lone (Frame.enter P f args .normal) (b.at a (.inRegion ops (i :: rest) :: k) :: cs) w') :=
    step_lone_go (by rw [stepG_op ho hw]; simp [stepG.apply, hr, Frame.at])
  obtain ⟨e2, a2, w2, q, r⟩ := h v w'' hR b k cs
  refine ⟨e2, a2, w2, q, .of_steps (.head hent (Steps.trans hs (.one ?_))) r⟩
  rw [← fin_at ho]
  exact step_leave_returned hl
end Go.Proofs.Ytbmmajdacebncaa
