/-
  The program's graph as lists: flowOf, flowAround, isIndex, isJump.
-/
import Derived.Test.YtilnegmjnbffhaaRfCol
namespace Go.Proofs.Ytilnegmjnbffhaa
open Go.ChangeShapes Go.WideShapes Go.ChangeAt Go.RowKit

/-- behind k rounds: the first k rows of L lie, each in a row laid behind g -/
def FlowUp (w : World) (g n k : Nat) (L : List (List Int)) : Prop := ∃ vs : List Value, Blk w g 28 (vs ++ List.replicate (n - k) (.slice none 0 0)) ∧ vs.length = k ∧
  ∀ i l, i < k → L[i]? = some l → ∃ a c, vs[i]? = some (.slice a l.length c) ∧ w.ownsRow (g + 1) 3 1 (.slice a l.length c) l.length (l.map (Value.int .i64))
theorem FlowUp.below {w w' : World} {g n k : Nat} {L : List (List Int)} (h : FlowUp w g n k L) (hb : Below w.heap.size w w') : FlowUp w' g n k L := by
  obtain ⟨vs, h1, h2, h3⟩ := h
  exact ⟨vs, h1.below hb, h2, fun i l hi hl => by obtain ⟨a, c, h4, h5⟩ := h3 i l hi hl; exact ⟨a, c, h4, own_below h5 hb⟩⟩
theorem FlowUp.step {w : World} {g n k : Nat} {L : List (List Int)} {l : List Int} {a : Option Addr} {c : Nat} (h : FlowUp w g n k L) (hk : k < n) (hl : L[k]? = some l)
    (ho : w.ownsRow (g + 1) 3 1 (.slice a l.length c) l.length (l.map (Value.int .i64))) : FlowUp (w.setCell ⟨g, k, none⟩ (.slice a l.length c)) g n (k + 1) L := by
  obtain ⟨vs, h1, h2, h3⟩ := h
  refine ⟨vs ++ [.slice a l.length c], ?_, by simp [h2], fun i l' hi hl' => ?_⟩
  · have e := h1.set k (.slice a l.length c)
    rw [List.set_append_right _ _ (by omega), h2, Nat.sub_self, show n - k = (n - (k + 1)) + 1 by omega, List.replicate_succ, List.set_cons_zero] at e
    rw [List.append_assoc]
    exact e
  · rcases Nat.lt_or_ge i k with q | q
    · obtain ⟨a', c', h4, h5⟩ := h3 i l' q hl'
      refine ⟨a', c', by rw [List.getElem?_append_left (by omega)]; exact h4, ?_⟩
      exact (Kept.set (w := w) (g := g) (j := k)).own h5 (fun b hb e => by have := (h5.lt b hb).1; omega)
    · obtain rfl : i = k := by omega
      rw [hl] at hl'
      obtain rfl := Option.some.inj hl'
      refine ⟨a, c, by rw [List.getElem?_append_right (by omega), h2]; simp, ?_⟩
      exact (Kept.set (w := w) (g := g) (j := i)).own ho (fun b hb e => by have := (ho.lt b hb).1; omega)
theorem FlowUp.lies {w : World} {g n : Nat} {L : List (List Int)} (h : FlowUp w g n n L) (hL : L.length = n) (h2 : ∀ (i : Nat) (l : List Int), L[i]? = some l → l.length ≤ 2) : LLies w (some ⟨g, 0, none⟩) L := by
  obtain ⟨vs, h1, h3, h4⟩ := h
  intro i l hl
  have hi : i < n := by have := (List.getElem?_eq_some_iff.1 hl).1; omega
  obtain ⟨a, c, h5, h6⟩ := h4 i l hi hl
  refine ⟨g, 0, a, c, rfl, h1.lt, ?_, own_cap h6, by have := h2 i l hl; omega, own_ilies h6⟩
  rw [Nat.zero_add, h1.cell, List.getElem?_append_left (by omega)]
  exact h5
theorem nxs_get {xs : List Stp} {i : Nat} {x : Stp} (h : xs[i]? = some x) : (nxsL (ktOf xs))[i]? = some (nextsI x.k x.t i) := nxs_at (ktOf_at h)
theorem nxs_two (xs : List Stp) (i : Nat) (l : List Int) (h : (nxsL (ktOf xs))[i]? = some l) : l.length ≤ 2 := by
  have hlt : i < xs.length := by have := (List.getElem?_eq_some_iff.1 h).1; rw [nxs_len, ktOf_len] at this; exact this
  rw [nxs_get (List.getElem?_eq_getElem hlt)] at h
  obtain rfl := Option.some.inj h
  exact nexts_len _ _ _
/-- it answers the graph, and true -/
def GaveFlow (w : World) (n : Nat) (L : List (List Int)) (e : Ending) (w' : World) : Prop :=
  ∃ A c, e = .returned (.tuple #[.slice A n c, .bool true]) ∧ LLies w' A L ∧ Below w.heap.size w w'
/-- what flowOf and flowAround answer -/
def FlowP (w : World) (n : Nat) (L : List (List Int)) (b : Bool) (e : Ending) (w' : World) : Prop :=
  (b = true → GaveFlow w n L e w') ∧ (b = false → e = .returned (.tuple #[.slice none 0 0, .bool false]) ∧ Below w.heap.size w w')
theorem FlowP.yes {w w' : World} {n : Nat} {L : List (List Int)} {e : Ending} (h : GaveFlow w n L e w') : FlowP w n L true e w' := ⟨fun _ => h, (fun q => by cases q)⟩
theorem FlowP.no {w w' : World} {n : Nat} {L : List (List Int)} (h : Below w.heap.size w w') : FlowP w n L false (.returned (.tuple #[.slice none 0 0, .bool false])) w' := ⟨(fun q => by cases q), fun _ => ⟨rfl, h⟩⟩
set_option maxRecDepth 100000 in
set_option maxHeartbeats 4000000 in
theorem flowOf_any (A : Option Addr) (n cap : Nat) (xs : List Stp) (w : World) (g : Bool) (hg : Hid (g = true ↔ Good xs)) (hl : Hid (Lies w A xs)) (hx : Hid (xs.length = n)) (hn : n ≤ 1048576) :
    Calls Try.prog 43 #[.slice A n cap] w (FlowP w n (nxsL (ktOf xs)) g) := by
  go_enter Try.func43, Try.ntmps43
  go_wp2_with fail
  refine (implGood_any _ _ _ xs _ g hg hl hx hn).mono ?_
  rintro e w1 ⟨rfl, hb1⟩
  have B1 := Lib.hid hb1
  clear hb1
  cases g
  · go_wp2
    go_ret2
    exact .no B1.out
  · have GX := Lib.hid (hg.out.1 rfl)
    have hn20 : n ≤ 20 := by have := GX.out.1.2; rw [hx.out] at this; exact this
    have hmk := fun w : World => run_make_row' (P := Try.prog) 45 28 (.slice none 0 0) 24 Try.underlying45 info_ints rfl .i64 .i64 n (by omega) (by omega) w
    go_wp2
    go_loopw [14] (fun i wr => ∃ k : Nat, k ≤ n ∧ i = .int .i64 k ∧ FlowUp wr w1.heap.size n k (nxsL (ktOf xs)) ∧ Below w1.heap.size w1 wr) (fun i _ => n - (intOf i).toNat)
    case atStart =>
      refine ⟨0, Nat.zero_le _, rfl, ⟨[], ?_, rfl, fun i l h => by omega⟩, below1 _ _⟩
      rw [made_rep]
      exact heap_alloc_new w1 _
    case round =>
      obtain ⟨k, hk, rfl, hf, hb⟩ := hrel
      have F1 := Lib.hid hf
      have C1 := Lib.hid hb
      clear hf hb
      by_cases hlt : k < n
      · obtain ⟨x, hxk⟩ : ∃ x, xs[k]? = some x := ⟨_, List.getElem?_eq_getElem (by have := hx.out; omega)⟩
        have HXK := Lib.hid hxk
        clear hxk
        have HR : Hid (NextsRes xs n k true (nextsI x.k x.t k)) := Lib.hid ⟨⟨fun _ => ⟨GX.out, by omega, by omega⟩, fun _ => rfl⟩, (fun e => by cases e), fun _ y hy => by
          have e : ((k : Int)).toNat = k := by omega
          rw [e, HXK.out] at hy
          obtain rfl := Option.some.inj hy
          rfl⟩
        have L1 := Lib.hid (hl.out.below (Below.tr B1.out C1.out))
        have hgl : w1.heap.size < wr.heap.size := by obtain ⟨vs, h, _⟩ := F1.out; exact h.lt
        go_wp2_with fail
        refine (implNexts_any _ _ _ xs k _ true _ HR L1 hx hn).mono ?_
        rintro e w2 ⟨A2, c2, rfl, hown, hb2⟩
        obtain ⟨z, hz⟩ : ∃ z, (nextsI x.k x.t k).length = z := ⟨_, rfl⟩
        have HZ := Lib.hid hz
        rw [hz] at hown ⊢
        have O2 := Lib.hid (own_base hown (show w1.heap.size + 1 ≤ wr.heap.size by omega))
        have F2 := Lib.hid (F1.out.below hb2)
        have C2 := Lib.hid (Below.trans C1.out (hb2.mono (by omega)))
        clear hown hb2 hz
        have hcell : ∃ v, w2.cell? ⟨w1.heap.size, k, none⟩ = some v := by
          obtain ⟨vs, h, hv, _⟩ := F2.out
          exact ⟨_, (h.cell k).trans (List.getElem?_eq_getElem (by simp; omega))⟩
        obtain ⟨v, hcell⟩ := hcell
        have hfr : w2.frozen? ⟨w1.heap.size, k, none⟩ = false := by
          obtain ⟨vs, h, _⟩ := F2.out
          exact h.frozen k
        go_wp2
        go_roundw
        case rel => exact ⟨k + 1, by omega, by go_num, by have e := F2.out.step hlt (nxs_get HXK.out) (a := A2) (c := c2) (by rw [HZ.out]; exact O2.out); rw [HZ.out] at e; exact e, C2.out.setCell (Nat.le_refl _) _⟩
        case measure => simp [intOf]; omega
      · obtain rfl : k = n := by omega
        go_wp2
        go_ret2
        exact .yes ⟨_, _, rfl, F1.out.lies (by rw [nxs_len, ktOf_len]; exact hx.out) (nxs_two xs), Below.tr B1.out C1.out⟩
theorem isIndex_any (a b : Int) (w : World) : Calls Try.prog 59 #[.int .i64 a, .int .i64 b] w fun e w' => e = .returned (.bool (decide (0 ≤ a) && decide (a < b))) ∧ w = w' := by
  go_enter Try.func59, Try.ntmps59
  by_cases h1 : 0 ≤ a
  · by_cases h2 : a < b
    · go_wp2
      go_ret
      exact ⟨by simp [h1, h2], rfl⟩
    · have h2' : b ≤ a := by omega
      go_wp2
      go_ret
      exact ⟨by simp [h2], rfl⟩
  · have h1' : a < 0 := by omega
    go_wp2
    go_ret
    exact ⟨by simp; omega, rfl⟩
set_option maxRecDepth 100000 in
set_option maxHeartbeats 4000000 in
theorem flowAround_any (A : Option Addr) (n cap : Nat) (at_ : Int) (xs : List Stp) (w : World) (b : Bool) (hb : Hid (b = true ↔ Good xs ∧ 0 ≤ at_ ∧ at_ < n)) (hl : Hid (Lies w A xs)) (hx : Hid (xs.length = n)) (hn : n ≤ 1048576) :
    Calls Try.prog 38 #[.slice A n cap, .int .i64 at_] w (FlowP w n (nxsL (ktOf xs)) b) := by
  obtain ⟨g, hg⟩ := good_bool xs
  have HG := Lib.hid hg
  clear hg
  cases g
  · have hbf : b = false := by cases b; · rfl
                               · exact absurd (HG.out.2 (hb.out.1 rfl).1) (by simp)
    subst hbf
    go_enter Try.func38, Try.ntmps38
    go_wp2_with fail
    refine (flowOf_any _ _ _ xs _ false HG hl hx hn).mono ?_
    rintro e w1 ⟨-, h⟩
    obtain ⟨rfl, hb1⟩ := h rfl
    have B1 := Lib.hid hb1
    clear hb1 h
    go_wp2
    go_ret2
    exact .no B1.out
  · have GX := Lib.hid (HG.out.1 rfl)
    cases b
    · have hno : Hid ((decide (0 ≤ at_) && decide (at_ < (n : Int))) = false) := Lib.hid (by
        have h : ¬ (0 ≤ at_ ∧ at_ < n) := fun q => by have := hb.out.2 ⟨GX.out, q⟩; cases this
        rw [← Bool.decide_and]
        exact decide_eq_false h)
      go_enter Try.func38, Try.ntmps38
      go_wp2_with fail
      refine (flowOf_any _ _ _ xs _ true (Lib.hid ⟨fun _ => GX.out, fun _ => rfl⟩) hl hx hn).mono ?_
      rintro e w1 ⟨h, -⟩
      obtain ⟨A1, c1, rfl, hl1, hb1⟩ := h rfl
      have B1 := Lib.hid hb1
      clear hl1 hb1 h
      go_wp2_with (go_at_call 59; refine (isIndex_any _ _ _).mono ?_; rintro e w' ⟨rfl, rfl⟩; rw [hno.out])
      go_ret2
      exact .no B1.out
    · have hyes : Hid ((decide (0 ≤ at_) && decide (at_ < (n : Int))) = true) := Lib.hid (by
        have h := (hb.out.1 rfl).2
        rw [← Bool.decide_and]
        exact decide_eq_true h)
      go_enter Try.func38, Try.ntmps38
      go_wp2_with fail
      refine (flowOf_any _ _ _ xs _ true (Lib.hid ⟨fun _ => GX.out, fun _ => rfl⟩) hl hx hn).mono ?_
      rintro e w1 ⟨h, -⟩
      obtain ⟨A1, c1, rfl, hl1, hb1⟩ := h rfl
      have B1 := Lib.hid hb1
      have L1 := Lib.hid hl1
      clear hl1 hb1 h
      go_wp2_with (go_at_call 59; refine (isIndex_any _ _ _).mono ?_; rintro e w' ⟨rfl, rfl⟩; rw [hyes.out])
      go_ret2
      exact .yes ⟨_, _, rfl, L1.out, B1.out⟩
end Go.Proofs.Ytilnegmjnbffhaa
