/-
  A region that draws its order, inside a round: walked by the moves that serve outside.
-/
import Derived.Test.YtilnegmjnbffhaaRfLaw
import Derived.OrdersIn
import Derived.StillTailTactics
namespace Go.Proofs.Ytilnegmjnbffhaa
open Go.ChangeShapes Go.WideShapes Go.ChangeAt Go.RowKit

def noDefer : Op → Bool
  | .defer _ => false
  | _ => true
variable {P : Program} {ops : Array Oper} {Q : Exit → Act → World → Prop} {l n : Nat}
theorem op_round {i : Nat} (hQ : ¬ LetsOut Q) (hd : ops.all (fun o => noDefer o.op) = true) {K : Act → World → Prop} {a : Act} {w : World} (h : wpOp P ops Q i K a w) : wpOpIn (Fence.wide.inRound l) n P ops Q i K a w := by
  have hno : ¬ ((Fence.wide.inRound l).depth.isSome = true) := by simp [Fence.inRound, Fence.wide]
  unfold wpOp at h
  unfold wpOpIn
  cases ho : ops[i]? with
  | none => rw [ho] at h; exact h
  | some o =>
    rw [ho] at h
    simp only at h ⊢
    by_cases hw : Region.wanted o (yielded ops a.tmps) = true
    · simp only [hw, if_true] at h ⊢
      rcases h with h | h
      · have hdo : noDefer o.op = true := by
          obtain ⟨hi, he⟩ := Array.getElem?_eq_some_iff.1 ho
          rw [← he]
          exact Array.all_eq_true.1 hd i hi
        refine ⟨fun _ _ => trivial, ?_⟩
        rw [Oper.semAt_plain (Fence.wide.inRound l) _ o (fun c e => by rw [e] at hdo; cases hdo)]
        unfold Oper.wp at h
        generalize (execOp a.eval o).run P w = r at *
        cases r with
        | ok x w' =>
          cases x <;> simp only [Oper.upon, Oper.uponIn] at h ⊢ <;>
            first
              | exact h
              | exact ⟨fun q => absurd q hno, callsIn_wide.2 (Calls.mono h fun e w'' he => by cases e <;> exact he)⟩
              | exact ⟨fun q => absurd q hno, fun c cs _ => let ⟨v, w', r, s⟩ := h c cs; ⟨v, w', r, stepsIn_wide.2 s⟩⟩
        | halt x w' => cases x <;> simp only [Oper.upon, Oper.uponIn] at h ⊢ <;> exact h
      · exact absurd h.2 hQ
    · have hw' : Region.wanted o (yielded ops a.tmps) = false := by simpa using hw
      simp only [hw'] at h ⊢
      exact ⟨fun _ _ => trivial, h⟩
theorem any_round {md : Region.Mode} (hQ : ¬ LetsOut Q) (hd : ops.all (fun o => noDefer o.op) = true) : ∀ (fuel : Nat) (listed : Array Bool) (a : Act) (w : World), wpAny P md ops Q fuel listed a w → wpAnyIn (Fence.wide.inRound l) n P md ops Q fuel listed a w
  | 0, _, _, _, h => h
  | fuel + 1, _, _, _, h => ⟨h.1, fun i hi => wpOpIn_mono (fun a' w' h' => any_round hQ hd fuel _ a' w' h') (op_round hQ hd (h.2 i hi))⟩
theorem held_round {S : World → Prop} {id : Nat} {a : Act} {w : World} (hQ : ¬ LetsOut Q) (hd : ops.all (fun o => noDefer o.op) = true) (hm : P.follows .mixedOrders = true) (hS : S w.drew)
    (h : S w.drew → wpAnyH P .any ops Q S ops.size (Array.replicate ops.size false) a w.drew) : (Code.region id ops true).wpIn (Fence.wide.inRound l) n P Q a w :=
  wpIn_region_any hm (any_round hQ hd _ _ _ _ (wpAny_of_held _ _ _ _ (h hS)))
/-- the operations of the head read alone; a chain stands behind them -/
theorem still_round {id : Nat} {a : Act} {w : World} {L : List Oper} (k : Nat) (hQ : ¬ LetsOut Q) (hd : L.toArray.all (fun o => noDefer o.op) = true) (hm : P.follows .mixedOrders = true) (hB : Region.lexTailB .any L.toArray k = true)
    (h : wpStill P L.toArray { w with drawn := w.drawn + 1 } (fun a' => wpList P L.toArray Q (L.drop k) a' { w with drawn := w.drawn + 1 }) (L.take k) a) : (Code.region id L.toArray true).wpIn (Fence.wide.inRound l) n P Q a w := by
  refine wpIn_region_any hm (any_round hQ hd _ _ _ _ ?_)
  unfold Region.lexTailB at hB
  simp only [Bool.and_eq_true, decide_eq_true_eq] at hB
  obtain ⟨⟨⟨⟨b1, b2⟩, b3⟩, b4⟩, b5⟩ := hB
  have b2' : k < L.length := by simpa using b2
  have e1 : (L.take k).length = k := by rw [List.length_take]; omega
  have e2 : (L.drop k).length = L.toArray.size - k := by simp
  have inv : HeadInv .any L.toArray k (Array.replicate L.toArray.size false) :=
    ⟨by simp, fun j oj _ q => (by rw [getD_replicate_false] at q; cases q), fun t _ ht => getD_in (by simpa using ht) (getD_replicate_false _ _)⟩
  have H := wpAnyL_lex (md := .any) (g := L.toArray.size - k) b1 b3 b4 b2 (L.take k) 0 _ a
    (fun j hj => by rw [e1] at hj; simp [hj]) (by simpa using e1) inv (by rw [e1]; exact b5) h
  have F := wpAny_of_head (Q' := Q) (g := L.toArray.size - k) (fun listed a' q => by
    have := wpAny_of_seq (md := .any) (Q' := Q) (L.drop k) k listed a' { w with drawn := w.drawn + 1 } (fun j => by simp [List.getElem?_drop]) (by rw [e2]; exact q.1) q.2
    rwa [e2] at this) _ _ _ H
  rw [e1, show k + (L.toArray.size - k) = L.toArray.size by omega] at F
  exact F
end Go.Proofs.Ytilnegmjnbffhaa
