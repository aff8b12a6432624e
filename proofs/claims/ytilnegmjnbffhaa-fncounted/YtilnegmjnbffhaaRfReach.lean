/-
  What the functions of chapter 11 answer; ReachedIn and EndsFrom of the program.
-/
import Derived.Test.YtilnegmjnbffhaaRfArcs
namespace Go.Proofs.Ytilnegmjnbffhaa
open Go.ChangeShapes Go.WideShapes Go.ChangeAt Go.RowKit
attribute [local go_sem] Oper.semAt_some

/-- a list and true where P holds; nil and false elsewhere -/
def TwoRes (P : Prop) (L : List Int) (b : Bool) (l : List Int) : Prop := (b = true ↔ P) ∧ (b = false → l = []) ∧ (b = true → l = L)
theorem two_res (P : Prop) (L : List Int) : ∃ b l, TwoRes P L b l := by
  rcases Classical.em P with h | h
  · exact ⟨true, L, ⟨fun _ => h, fun _ => rfl⟩, (fun e => by cases e), fun _ => rfl⟩
  · exact ⟨false, [], ⟨(fun e => by cases e), fun e => absurd e h⟩, fun _ => rfl, (fun e => by cases e)⟩
theorem TwoRes.no {P : Prop} {L : List Int} {b : Bool} {l : List Int} (h : TwoRes P L b l) (hn : ¬ P) : b = false ∧ l = [] := by
  cases b
  · exact ⟨rfl, h.2.1 rfl⟩
  · exact absurd (h.1.1 rfl) hn
theorem TwoRes.yes {P : Prop} {L : List Int} {b : Bool} {l : List Int} (h : TwoRes P L b l) (hn : P) : b = true ∧ l = L := by
  have := h.1.2 hn
  exact ⟨this, h.2.2 this⟩
theorem TwoRes.len {P : Prop} {L : List Int} {b : Bool} {l : List Int} (h : TwoRes P L b l) {k : Nat} (hL : P → L.length ≤ k) : l.length ≤ k := by
  cases b
  · rw [h.2.1 rfl]; simp
  · rw [h.2.2 rfl]; exact hL (h.1.1 rfl)
/-- the edges of a program -/
abbrev eOf (xs : List Stp) : Nat → Nat → Bool := edg (ktOf xs)
def reachR (xs : List Stp) : List Int := castL (reachL (eOf xs) xs.length 0)
theorem reach_len (E : Nat → Nat → Bool) (n f : Nat) : (castL (reachL E n f)).length ≤ n := by
  rw [castL_len]
  have := List.length_filter_le (rb E f) (List.range n)
  rw [List.length_range] at this
  exact this
theorem good_pos {xs : List Stp} (h : Good xs) : 0 < xs.length := h.1.1
theorem good_20 {xs : List Stp} {n : Nat} (h : Good xs) (hx : xs.length = n) : 0 < n ∧ n ≤ 20 := by have := h.1; omega
/-- the boxes that stepsFrom lays -/
theorem two_boxes (w : World) (v : Value) (t : TypeId) (u : Value) (t2 : TypeId) : Blk ((w.alloc (.cells #[v] t)).alloc (.cells #[u] t2)) w.heap.size t [v] ∧ Blk ((w.alloc (.cells #[v] t)).alloc (.cells #[u] t2)) (w.heap.size + 1) t2 [u] := by
  refine ⟨Blk.below (heap_alloc_new w (.cells [v].toArray t)) (below1 _ _), ?_⟩
  have e := heap_alloc_new (w.alloc (.cells #[v] t)) (.cells [u].toArray t2)
  rw [World.size_alloc] at e
  exact e
set_option maxRecDepth 100000 in
set_option maxHeartbeats 4000000 in
theorem implReached_any (A : Option Addr) (n cap : Nat) (xs : List Stp) (w : World) (b : Bool) (l : List Int) (hr : Hid (TwoRes (Good xs) (reachR xs) b l)) (hl : Hid (Lies w A xs)) (hx : Hid (xs.length = n)) (hn : n ≤ 1048576) :
    Calls Try.prog 17 #[.slice A n cap] w (GaveTwo w l b) := by
  obtain ⟨g, hg⟩ := good_bool xs
  have HG := Lib.hid hg
  clear hg
  go_enter Try.func17, Try.ntmps17
  go_wp2_with fail
  refine (flowOf_any _ _ _ xs _ g HG hl hx hn).mono ?_
  rintro e w1 ⟨h1, h2⟩
  cases g
  · obtain ⟨rfl, hb1⟩ := h2 rfl
    have B1 := Lib.hid hb1
    clear hb1 h1 h2
    obtain ⟨rfl, rfl⟩ := hr.out.no (fun h => absurd (HG.out.2 h) (by simp))
    go_wp2
    go_ret2
    exact two_nil w _ B1.out
  · obtain ⟨A1, c1, rfl, hl1, hb1⟩ := h1 rfl
    have B1 := Lib.hid hb1
    have L1 := Lib.hid hl1
    have GX := Lib.hid (HG.out.1 rfl)
    clear hb1 hl1 h1 h2
    obtain ⟨rfl, rfl⟩ := hr.out.yes GX.out
    obtain ⟨hn0, hn20⟩ := good_20 GX.out hx.out
    go_wp2_with fail
    refine (stepsFrom_any _ _ _ _ _).mono ?_
    rintro e w' ⟨rfl, rfl⟩
    obtain ⟨q1, q2⟩ := two_boxes w1 (.slice A1 n c1) 45 (.int .i64 (0 : Nat)) 3
    have SQ := Lib.hid (steps_seq (ktOf xs) (good_kt GX.out) n 0 c1 w1.heap.size A1 _ w1 (fun i => i < w1.heap.size + 2) (Lib.hid (by rw [ktOf_len]; exact hx.out)) hn20 hn0 L1 (Lib.hid (below2 w1 _ _)) (Lib.hid q1) (Lib.hid q2) (fun i h => by omega) (by omega) (by omega) (fun i h => by simpa using h))
    clear q1 q2
    go_wp2_with fail
    refine (collect_any _ _ _ _ _ _ SQ (enters_of Try.func64 (by kernel_rfl) rfl) (Lib.hid (fun i h => by simpa using h)) (by have := reach_len (edg (ktOf xs)) n 0; omega)).mono ?_
    rintro e w2 ⟨A2, c2, rfl, hown, hb2⟩
    have er : reachR xs = castL (reachL (edg (ktOf xs)) n 0) := by unfold reachR; rw [hx.out]
    rw [← er] at hown ⊢
    have O2 := Lib.hid hown
    have B2 := Lib.hid (Below.tr (Below.tr B1.out (below2 w1 _ _)) hb2)
    have hz : w.heap.size ≤ w1.heap.size := B1.out.size
    clear hown hb2 er
    go_wp2
    go_ret2
    exact ⟨A2, c2, rfl, own_base O2.out (by simp; omega), B2.out⟩
end Go.Proofs.Ytilnegmjnbffhaa
