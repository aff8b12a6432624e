/-
  Contracts of the laws' own helpers over slices of steps: the copy, the size, the comparison.
-/
import Derived.Test.YtilnegmjnbffhaaSteps
import Derived.Deep.RegionHeld3
import Derived.StillTailTactics
namespace Go.Proofs.Ytilnegmjnbffhaa
open Go.ChangeShapes Go.WideShapes Go.ChangeAt Go.RowKit

theorem info_step : (Try.prog.info? 61).map (fun i => (i.zero, i.size, i.bytes)) = some (some (.agg #[.int .i64 0, .int .i64 0, .int .i64 0, .int .i64 0, .int .i64 0, .int .i64 0]), 6, 48) := by kernel_rfl

/-- behind k rounds of the copy -/
def Copied (g : Nat) (xs : List Stp) (k : Nat) (w : World) : Prop :=
  ∃ cur : List Value, Blk w g 61 cur ∧ cur.length = xs.length * 6 ∧ cur.take (k * 6) = cellsOf (xs.take k)
theorem Copied.start {w : World} {base n : Nat} {l : List Value} {xs : List Stp} {g : Nat} (hn : xs.length = n) (h : w.ownsRow base 61 6 (.slice (some ⟨g, 0, none⟩) n n) n l) : Copied g xs 0 w := by
  rcases h.2 with ⟨h', _⟩ | ⟨g', cap', cur, h', hb, hg, hnc, hcm, hcs, htake⟩
  · simp at h'
  · simp only [Value.slice.injEq, Option.some.injEq, Addr.mk.injEq, and_true, true_and] at h'
    obtain ⟨rfl, rfl⟩ := h'
    exact ⟨cur.toList, by simpa [Blk] using hg, by simp [hcs, hn], by simp [cellsOf]⟩
theorem Copied.below {w w' : World} {g k : Nat} {xs : List Stp} (h : Copied g xs k w) (hb : Below w.heap.size w w') : Copied g xs k w' := by
  obtain ⟨cur, h1, h2, h3⟩ := h
  exact ⟨cur, h1.below hb, h2, h3⟩
theorem Copied.end_ {w : World} {g : Nat} {xs : List Stp} (h : Copied g xs xs.length w) : Blk w g 61 (cellsOf xs) := by
  obtain ⟨cur, h1, h2, h3⟩ := h
  rw [List.take_of_length_le (by omega), List.take_of_length_le (Nat.le_refl _)] at h3
  rw [← h3]
  exact h1
theorem cellsOf_snoc (xs : List Stp) (k : Nat) (x : Stp) (hx : xs[k]? = some x) : cellsOf (xs.take (k + 1)) = cellsOf (xs.take k) ++ x.cells := by
  have hlt : k < xs.length := (List.getElem?_eq_some_iff.1 hx).1
  have e : xs[k] = x := (List.getElem?_eq_some_iff.1 hx).2
  rw [List.take_succ_eq_append_getElem hlt, e]
  simp [cellsOf]
theorem Copied.step {w : World} {g k : Nat} {xs : List Stp} {x : Stp} (h : Copied g xs k w) (hx : xs[k]? = some x) :
    Copied g xs (k + 1) ((((((w.setCell ⟨g, k * 6, none⟩ (.int .i64 x.k)).setCell ⟨g, k * 6 + 1, none⟩ (.int .i64 x.o)).setCell ⟨g, k * 6 + 2, none⟩ (.int .i64 x.d)).setCell ⟨g, k * 6 + 3, none⟩ (.int .i64 x.s)).setCell ⟨g, k * 6 + 4, none⟩ (.int .i64 x.i)).setCell ⟨g, k * 6 + 5, none⟩ (.int .i64 x.t)) := by
  obtain ⟨cur, h1, h2, h3⟩ := h
  have hlt : k < xs.length := (List.getElem?_eq_some_iff.1 hx).1
  refine ⟨_, (((((h1.set _ _).set _ _).set _ _).set _ _).set _ _).set _ _, by simp [h2], ?_⟩
  rw [take_six cur k _ _ _ _ _ _ (by omega), h3, cellsOf_snoc xs k x hx]
  rfl
/-- the cells of the copy's own row are there and may be written -/
theorem Copied.there {w : World} {g k : Nat} {xs : List Stp} (h : Copied g xs k w) (j : Nat) (hj : j < xs.length * 6) : ∃ v, w.cell? ⟨g, j, none⟩ = some v := by
  obtain ⟨cur, h1, h2, h3⟩ := h
  exact ⟨_, (h1.cell j).trans (List.getElem?_eq_getElem (by omega))⟩
theorem Copied.free {w : World} {g k : Nat} {xs : List Stp} (h : Copied g xs k w) (j : Nat) : w.frozen? ⟨g, j, none⟩ = false := by
  obtain ⟨cur, h1, h2, h3⟩ := h
  exact h1.frozen j
theorem below6 {w0 w : World} {g : Nat} (h : Below w0.heap.size w0 w) (hg : w0.heap.size ≤ g) (a b c d e f : Nat) (u v x y z q : Value) :
    Below w0.heap.size w0 ((((((w.setCell ⟨g, a, none⟩ u).setCell ⟨g, b, none⟩ v).setCell ⟨g, c, none⟩ x).setCell ⟨g, d, none⟩ y).setCell ⟨g, e, none⟩ z).setCell ⟨g, f, none⟩ q) :=
  (((((h.setCell hg _).setCell hg _).setCell hg _).setCell hg _).setCell hg _).setCell hg _

set_option maxRecDepth 100000 in
set_option maxHeartbeats 2000000 in
theorem toStepS_any (A : Option Addr) (cap : Nat) (xs : List Stp) (w : World) (hl : Hid (Lies w A xs)) (hn : xs.length ≤ 1048576) :
    Calls Try.prog 27 #[.slice A xs.length cap] w fun e w' => e = .returned (.slice (some ⟨w.heap.size, 0, none⟩) xs.length xs.length) ∧ Blk w' w.heap.size 61 (cellsOf xs) ∧ Below w.heap.size w w' := by
  obtain ⟨n, hxn⟩ : ∃ n, xs.length = n := ⟨_, rfl⟩
  rw [hxn] at hn ⊢
  have HX := Lib.hid hxn
  clear hxn
  obtain ⟨i0, hi0, hz0, hz1, hz2⟩ := info_parts info_step
  go_enter Try.func27, Try.ntmps27
  go_wp2_with (at_make; (refine wpList_make_full _ rfl _ _ 23 rfl w.heap.size 61 i0 _ 6 Try.underlying23 hi0 hz0 hz1 _ _ _ _ n rfl rfl (by omega) (by omega) (by rw [hz2]; omega) (by unfold maxLen; omega) (Nat.le_refl _) ?_; intro w1 hown1 hg1; have HC := Lib.hid (Copied.start HX.out hown1); have HB := Lib.hid ((Below.refl w.heap.size w).grown hg1 (Nat.le_refl _) (by simp)); clear hown1 hg1))
  go_loopw [4] (fun i wr => ∃ k : Nat, k ≤ n ∧ i = .int .i64 k ∧ Copied w.heap.size xs k wr ∧ Below w.heap.size w wr) (fun i _ => n - (intOf i).toNat)
  case atStart => exact ⟨0, Nat.zero_le _, rfl, HC.out, HB.out⟩
  case round =>
    obtain ⟨k, hk, rfl, hc, hb⟩ := hrel
    have C1 := Lib.hid hc
    have B1 := Lib.hid hb
    clear hc hb HC HB
    by_cases hlt : k < n
    · obtain ⟨x, hx⟩ : ∃ x, xs[k]? = some x := ⟨_, List.getElem?_eq_getElem (by have := HX.out; omega)⟩
      obtain ⟨b, off, rfl, hbl, ha⟩ := (hl.out.below B1.out) k x hx
      have HXK := Lib.hid hx
      clear hx
      obtain ⟨e0, e1, e2, e3, e4, e5⟩ := ha
      go_wp2_with fail
      refine (toStep_any _ _ _ _ _ _ _).mono ?_
      rintro e w2 ⟨rfl, hb2⟩
      have C2 := Lib.hid (C1.out.below hb2)
      have B2 := Lib.hid (Below.tr B1.out hb2)
      clear hb2 e0 e1 e2 e3 e4 e5
      have hx6 : k * 6 + 5 < xs.length * 6 := by have := HX.out; omega
      obtain ⟨v0, t0⟩ := C2.out.there (k * 6) (by omega)
      obtain ⟨v1, t1⟩ := C2.out.there (k * 6 + 1) (by omega)
      obtain ⟨v2, t2⟩ := C2.out.there (k * 6 + 2) (by omega)
      obtain ⟨v3, t3⟩ := C2.out.there (k * 6 + 3) (by omega)
      obtain ⟨v4, t4⟩ := C2.out.there (k * 6 + 4) (by omega)
      obtain ⟨v5, t5⟩ := C2.out.there (k * 6 + 5) (by omega)
      have f0 := C2.out.free (k * 6)
      have f1 := C2.out.free (k * 6 + 1)
      have f2 := C2.out.free (k * 6 + 2)
      have f3 := C2.out.free (k * 6 + 3)
      have f4 := C2.out.free (k * 6 + 4)
      have f5 := C2.out.free (k * 6 + 5)
      clear hx6
      go_wp2
      go_roundw
      case rel => exact ⟨k + 1, by omega, by go_num, C2.out.step HXK.out, below6 B2.out (Nat.le_refl _) _ _ _ _ _ _ _ _ _ _ _ _⟩
      case measure => simp [intOf]; omega
    · obtain rfl : k = n := by omega
      go_wp2
      go_ret
      exact ⟨rfl, (by have := HX.out; subst this; exact C1.out.end_), B1.out⟩

set_option maxRecDepth 100000 in
set_option maxHeartbeats 400000 in
theorem szStepS_any (A : Option Addr) (n cap : Nat) (l : Int) (w : World) (hn : n ≤ 9223372036854775807) (h0 : 0 ≤ l) (h1 : l ≤ 1048576) :
    Calls Try.prog 25 #[.slice A n cap, .int .i64 l] w fun e w' => e = .returned (.int .i64 (szF l n)) ∧ w = w' := by
  by_cases h : l - (n : Int) < 0
  · have e : Hid (szF l n = -1) := if_pos (by omega)
    go_enter Try.func25, Try.ntmps25
    go_wp2
    go_ret
    exact ⟨ret_int e.out.symm, rfl⟩
  · have e : Hid (szF l n = l - n) := if_neg (by omega)
    go_enter Try.func25, Try.ntmps25
    go_wp2
    go_ret
    exact ⟨ret_int e.out.symm, rfl⟩

theorem eqStep_same (x : Stp) (w : World) :
    Calls Try.prog 53 #[.agg #[.int .i64 x.k, .int .i64 x.o, .int .i64 x.d, .int .i64 x.s, .int .i64 x.i, .int .i64 x.t], .agg #[.int .i64 x.k, .int .i64 x.o, .int .i64 x.d, .int .i64 x.s, .int .i64 x.i, .int .i64 x.t]] w fun e w' => e = .returned (.bool true) ∧ Below w.heap.size w w' :=
  (eqStep_any x.k x.o x.d x.s x.i x.t x.k x.o x.d x.s x.i x.t w).mono fun e w' ⟨he, hb⟩ => ⟨by rw [he]; exact ret_bool (by simp [eqB]), hb⟩

set_option maxRecDepth 100000 in
set_option maxHeartbeats 2000000 in
theorem eqStepS_same (A B : Option Addr) (n c1 c2 : Nat) (xs : List Stp) (w : World) (hl : Hid (Lies w A xs)) (hl2 : Hid (Lies w B xs)) (hx : Hid (xs.length = n)) (hn : n ≤ 1048576) :
    Calls Try.prog 29 #[.slice A n c1, .slice B n c2] w fun e w' => e = .returned (.bool true) ∧ Below w.heap.size w w' := by
  have hnn : ((n : Int) != (n : Int)) = false := by simp
  go_enter Try.func29, Try.ntmps29
  go_wp2_with fail
  go_loopw [5] (fun i wr => ∃ k : Nat, k ≤ n ∧ i = .int .i64 k ∧ Below w.heap.size w wr) (fun i _ => n - (intOf i).toNat)
  case atStart => exact ⟨0, Nat.zero_le _, rfl, Below.refl _ _⟩
  case round =>
    obtain ⟨k, hk, rfl, hb⟩ := hrel
    have B1 := Lib.hid hb
    clear hb
    by_cases hlt : k < n
    · obtain ⟨x, hxk⟩ : ∃ x, xs[k]? = some x := ⟨_, List.getElem?_eq_getElem (by have := hx.out; omega)⟩
      obtain ⟨b, off, rfl, hbl, ha⟩ := (hl.out.below B1.out) k x hxk
      obtain ⟨b2, off2, rfl, hbl2, ha2⟩ := (hl2.out.below B1.out) k x hxk
      clear hxk
      obtain ⟨e0, e1, e2, e3, e4, e5⟩ := ha
      obtain ⟨g0, g1, g2, g3, g4, g5⟩ := ha2
      go_wp2_with fail
      go_still_tail 8, (by kernel_rfl)
      change wpList _ _ _ _ _ wr.drew
      have B2 : Hid (Below w.heap.size w wr.drew) := B1.out.drew
      generalize wr.drew = w2 at B2 ⊢
      clear e0 e1 e2 e3 e4 e5 g0 g1 g2 g3 g4 g5
      go_wp2_with (go_at_call 53; refine (eqStep_same x _).mono ?_; rintro e w3 ⟨rfl, hb3⟩; have B3 := Lib.hid (Below.tr B2.out hb3); clear hb3)
      go_roundw
      case rel => exact ⟨k + 1, by omega, by go_num, B3.out⟩
      case measure => simp [intOf]; omega
    · obtain rfl : k = n := by omega
      go_wp2
      go_ret
      exact ⟨rfl, B1.out⟩
end Go.Proofs.Ytilnegmjnbffhaa
