/-
  The laws' own helpers over nodes and diagrams: the copy, the size, the comparison, the marks; arguments that are diagrams, opened.
-/
import Derived.Test.YtklcfbjaodildaaBd2
namespace Go.Proofs.Ytklcfbjaodildaa
open Go.ChangeShapes Go.WideShapes Go.ChangeAt Go.RowKit

/-- behind k rounds of the copy -/
def NCop (g : Nat) (xs : List Nd) (k : Nat) (w : World) : Prop :=
  ∃ cur : List Value, Blk w g 43 cur ∧ cur.length = xs.length * 3 ∧ cur.take (k * 3) = ncells (xs.take k)
theorem NCop.start {w : World} {base n : Nat} {l : List Value} {xs : List Nd} {g : Nat} (hn : xs.length = n) (h : w.ownsRow base 43 3 (.slice (some ⟨g, 0, none⟩) n n) n l) : NCop g xs 0 w := by
  rcases h.2 with ⟨h', _⟩ | ⟨g', cap', cur, h', hb, hg, hnc, hcm, hcs, htake⟩
  · simp at h'
  · simp only [Value.slice.injEq, Option.some.injEq, Addr.mk.injEq, and_true, true_and] at h'
    obtain ⟨rfl, rfl⟩ := h'
    exact ⟨cur.toList, by simpa [Blk] using hg, by simp [hcs, hn], by simp [ncells]⟩
theorem NCop.below {w w' : World} {g k : Nat} {xs : List Nd} (h : NCop g xs k w) (hb : Below w.heap.size w w') : NCop g xs k w' := by
  obtain ⟨cur, h1, h2, h3⟩ := h
  exact ⟨cur, h1.below hb, h2, h3⟩
theorem NCop.end_ {w : World} {g : Nat} {xs : List Nd} (h : NCop g xs xs.length w) : Blk w g 43 (ncells xs) := by
  obtain ⟨cur, h1, h2, h3⟩ := h
  rw [List.take_of_length_le (by omega), List.take_of_length_le (Nat.le_refl _)] at h3
  rw [← h3]
  exact h1
theorem ncells_snoc (xs : List Nd) (k : Nat) (x : Nd) (hx : xs[k]? = some x) : ncells (xs.take (k + 1)) = ncells (xs.take k) ++ x.cells := by
  have hlt : k < xs.length := (List.getElem?_eq_some_iff.1 hx).1
  have e : xs[k] = x := (List.getElem?_eq_some_iff.1 hx).2
  rw [List.take_succ_eq_append_getElem hlt, e]
  simp [ncells]
theorem take_three (l : List Value) (k : Nat) (a b c : Value) (h : k * 3 + 3 ≤ l.length) :
    (((l.set (k * 3) a).set (k * 3 + 1) b).set (k * 3 + 2) c).take ((k + 1) * 3) = l.take (k * 3) ++ [a, b, c] := by
  apply List.ext_getElem?
  intro j
  rw [List.getElem?_take, List.getElem?_append, List.length_take, Nat.min_eq_left (by omega)]
  simp only [List.getElem?_set, List.length_set, List.getElem?_take]
  by_cases h1 : j < k * 3
  · rw [if_pos h1, if_pos (by omega), if_pos h1]
    rw [if_neg (by omega), if_neg (by omega), if_neg (by omega)]
  · rw [if_neg h1]
    by_cases h2 : j < (k + 1) * 3
    · rw [if_pos h2]
      obtain ⟨q, rfl⟩ : ∃ q, j = k * 3 + q := ⟨j - k * 3, by omega⟩
      have hq : q = 0 ∨ q = 1 ∨ q = 2 := by omega
      rcases hq with rfl | rfl | rfl <;> simp <;> omega
    · rw [if_neg h2, List.getElem?_eq_none (by simp; omega)]
theorem NCop.step {w : World} {g k : Nat} {xs : List Nd} {x : Nd} (h : NCop g xs k w) (hx : xs[k]? = some x) :
    NCop g xs (k + 1) (((w.setCell ⟨g, k * 3, none⟩ (.int .i64 x.v)).setCell ⟨g, k * 3 + 1, none⟩ (.int .i64 x.l)).setCell ⟨g, k * 3 + 2, none⟩ (.int .i64 x.h)) := by
  obtain ⟨cur, h1, h2, h3⟩ := h
  have hlt : k < xs.length := (List.getElem?_eq_some_iff.1 hx).1
  refine ⟨_, ((h1.set _ _).set _ _).set _ _, by simp [h2], ?_⟩
  rw [take_three cur k _ _ _ (by omega), h3, ncells_snoc xs k x hx]
  rfl
theorem NCop.there {w : World} {g k : Nat} {xs : List Nd} (h : NCop g xs k w) (j : Nat) (hj : j < xs.length * 3) : ∃ v, w.cell? ⟨g, j, none⟩ = some v := by
  obtain ⟨cur, h1, h2, h3⟩ := h
  exact ⟨_, (h1.cell j).trans (List.getElem?_eq_getElem (by omega))⟩
theorem NCop.free {w : World} {g k : Nat} {xs : List Nd} (h : NCop g xs k w) (j : Nat) : w.frozen? ⟨g, j, none⟩ = false := by
  obtain ⟨cur, h1, h2, h3⟩ := h
  exact h1.frozen j
theorem belowS3 {w0 w : World} {g : Nat} (h : Below w0.heap.size w0 w) (hg : w0.heap.size ≤ g) (a b c : Nat) (u v x : Value) :
    Below w0.heap.size w0 (((w.setCell ⟨g, a, none⟩ u).setCell ⟨g, b, none⟩ v).setCell ⟨g, c, none⟩ x) :=
  ((h.setCell hg _).setCell hg _).setCell hg _

set_option maxRecDepth 100000 in
set_option maxHeartbeats 400000 in
theorem toNode_any (x : Nd) (w : World) :
    Calls Try.prog 150 #[.agg #[.int .i64 x.v, .int .i64 x.l, .int .i64 x.h]] w fun e w' => e = .returned (.agg #[.int .i64 x.v, .int .i64 x.l, .int .i64 x.h]) ∧ Below w.heap.size w w' := by
  go_enter Try.func150, Try.ntmps150
  go_wp2
  exact bodyPost_ret (v := .agg #[.int .i64 x.v, .int .i64 x.l, .int .i64 x.h]) (by simp [results, Try.results150, go_sem]) rfl ⟨rfl, below3 _ _ _ _⟩
set_option maxRecDepth 100000 in
set_option maxHeartbeats 2000000 in
theorem toNodeS_any (A : Option Addr) (n cap : Nat) (xs : List Nd) (w : World) (hl : Hid (NLies w A xs)) (HX : Hid (xs.length = n)) (hn : n ≤ 1048576) :
    Calls Try.prog 115 #[.slice A n cap] w fun e w' => e = .returned (.slice (some ⟨w.heap.size, 0, none⟩) n n) ∧ Blk w' w.heap.size 43 (ncells xs) ∧ Below w.heap.size w w' := by
  obtain ⟨i0, hi0, hz0, hz1, hz2⟩ := info_parts info_node
  go_enter Try.func115, Try.ntmps115
  go_wp2_with (at_make; (refine wpList_make_full _ rfl _ _ 26 rfl w.heap.size 43 i0 _ 3 Try.underlying26 hi0 hz0 hz1 _ _ _ _ n rfl rfl (by omega) (by omega) (by rw [hz2]; omega) (by unfold maxLen; omega) (Nat.le_refl _) ?_; intro w1 hown1 hg1; have HC := Lib.hid (NCop.start HX.out hown1); have HB := Lib.hid ((Below.refl w.heap.size w).grown hg1 (Nat.le_refl _) (by simp)); clear hown1 hg1))
  go_loopw [4] (fun i wr => ∃ k : Nat, k ≤ n ∧ i = .int .i64 k ∧ NCop w.heap.size xs k wr ∧ Below w.heap.size w wr) (fun i _ => n - (intOf i).toNat)
  case atStart => exact ⟨0, Nat.zero_le _, rfl, HC.out, HB.out⟩
  case round =>
    obtain ⟨k, hk, rfl, hc, hb⟩ := hrel
    have C1 := Lib.hid hc
    have B1 := Lib.hid hb
    clear hc hb HC HB
    by_cases hlt : k < n
    · obtain ⟨x, hx⟩ : ∃ x, xs[k]? = some x := ⟨_, List.getElem?_eq_getElem (by have := HX.out; omega)⟩
      obtain ⟨b, off, rfl, hbl, ha⟩ := (hl.out.below B1.out) k x hx
      have HXK := Lib.hid hx
      clear hx
      obtain ⟨e0, e1, e2⟩ := ha
      go_wp2_with fail
      refine (toNode_any x _).mono ?_
      rintro e w2 ⟨rfl, hb2⟩
      have C2 := Lib.hid (C1.out.below hb2)
      have B2 := Lib.hid (Below.tr B1.out hb2)
      clear hb2 e0 e1 e2
      have hx6 : k * 3 + 2 < xs.length * 3 := by have := HX.out; omega
      obtain ⟨v0, t0⟩ := C2.out.there (k * 3) (by omega)
      obtain ⟨v1, t1⟩ := C2.out.there (k * 3 + 1) (by omega)
      obtain ⟨v2, t2⟩ := C2.out.there (k * 3 + 2) (by omega)
      have f0 := C2.out.free (k * 3)
      have f1 := C2.out.free (k * 3 + 1)
      have f2 := C2.out.free (k * 3 + 2)
      clear hx6
      go_wp2
      go_roundw
      case rel => exact ⟨k + 1, by omega, by go_num, C2.out.step HXK.out, belowS3 B2.out (Nat.le_refl _) _ _ _ _ _ _⟩
      case measure => simp [intOf]; omega
    · obtain rfl : k = n := by omega
      go_wp2
      go_ret
      exact ⟨rfl, (by have := HX.out; subst this; exact C1.out.end_), B1.out⟩
set_option maxRecDepth 100000 in
set_option maxHeartbeats 400000 in
theorem szNodeS_any (A : Option Addr) (n cap : Nat) (l : Int) (w : World) (hn : n ≤ 9223372036854775807) (h0 : 0 ≤ l) (h1 : l ≤ 1048576) :
    Calls Try.prog 114 #[.slice A n cap, .int .i64 l] w fun e w' => e = .returned (.int .i64 (szF l n)) ∧ w = w' := by
  by_cases h : l - (n : Int) < 0
  · have e : Hid (szF l n = -1) := if_pos (by omega)
    go_enter Try.func114, Try.ntmps114
    go_wp2
    go_ret
    exact ⟨ret_int e.out.symm, rfl⟩
  · have e : Hid (szF l n = l - n) := if_neg (by omega)
    go_enter Try.func114, Try.ntmps114
    go_wp2
    go_ret
    exact ⟨ret_int e.out.symm, rfl⟩
set_option maxRecDepth 100000 in
set_option maxHeartbeats 400000 in
theorem szDiagram_any (a r : Int) (A : Option Addr) (n cap : Nat) (l : Int) (w : World) (hn : n ≤ 9223372036854775807) (h0 : 0 ≤ l) (h1 : l ≤ 1048576) :
    Calls Try.prog 54 #[.agg #[.int .i64 a, .slice A n cap, .int .i64 r], .int .i64 l] w fun e w' => e = .returned (.int .i64 (szF l n)) ∧ Below w.heap.size w w' := by
  by_cases h : l - (n : Int) < 0
  · have e : Hid (szF l n = -1) := if_pos (by omega)
    go_enter Try.func54, Try.ntmps54
    go_wp2_with (go_at_call 114; refine (szNodeS_any A n cap l _ hn h0 h1).mono ?_; rintro e' w' ⟨rfl, rfl⟩; rw [e.out])
    go_ret
    exact ⟨ret_int e.out.symm, below1 _ _⟩
  · have e : Hid (szF l n = l - n) := if_neg (by omega)
    go_enter Try.func54, Try.ntmps54
    go_wp2_with (go_at_call 114; refine (szNodeS_any A n cap l _ hn h0 h1).mono ?_; rintro e' w' ⟨rfl, rfl⟩; rw [e.out])
    go_ret
    exact ⟨ret_int e.out.symm, below1 _ _⟩
set_option maxRecDepth 100000 in
set_option maxHeartbeats 2000000 in
theorem toDiagram_any (a r : Int) (A : Option Addr) (n cap : Nat) (xs : List Nd) (w : World) (hl : Hid (NLies w A xs)) (HX : Hid (xs.length = n)) (hn : n ≤ 1048576) :
    Calls Try.prog 55 #[.agg #[.int .i64 a, .slice A n cap, .int .i64 r]] w fun e w' => ∃ g, e = .returned (.agg #[.int .i64 a, .slice (some ⟨g, 0, none⟩) n n, .int .i64 r]) ∧ w.heap.size ≤ g ∧ Blk w' g 43 (ncells xs) ∧ Below w.heap.size w w' := by
  go_enter Try.func55, Try.ntmps55
  go_wp2_with fail
  obtain ⟨W, hW⟩ : ∃ W, W = ((w.alloc (.cells #[.int .i64 a, .slice A n cap, .int .i64 r] 79)).alloc (.cells #[.int .i64 0, .slice none 0 0, .int .i64 0] 28)).alloc (.cells #[.int .i64 a, .slice none 0 0, .int .i64 0] 28) := ⟨_, rfl⟩
  have hBW : Below w.heap.size w W := by rw [hW]; exact below3 _ _ _ _
  have hsW : W.heap.size = w.heap.size + 3 := by rw [hW]; simp
  have k0 : Blk W w.heap.size 79 [.int .i64 a, .slice A n cap, .int .i64 r] := by
    rw [hW]
    exact Blk.below (heap_alloc_new w _) (below2 _ _ _)
  have k1 : Blk W (w.heap.size + 1) 28 [.int .i64 0, .slice none 0 0, .int .i64 0] := by
    have := heap_alloc_new (w.alloc (.cells #[.int .i64 a, .slice A n cap, .int .i64 r] 79)) (.cells #[.int .i64 0, .slice none 0 0, .int .i64 0] 28)
    rw [show (w.alloc (.cells #[.int .i64 a, .slice A n cap, .int .i64 r] 79)).heap.size = w.heap.size + 1 by simp] at this
    rw [hW]
    exact Blk.below this (below1 _ _)
  have k2 : Blk W (w.heap.size + 2) 28 [.int .i64 a, .slice none 0 0, .int .i64 0] := by
    have := heap_alloc_new ((w.alloc (.cells #[.int .i64 a, .slice A n cap, .int .i64 r] 79)).alloc (.cells #[.int .i64 0, .slice none 0 0, .int .i64 0] 28)) (.cells #[.int .i64 a, .slice none 0 0, .int .i64 0] 28)
    rw [show ((w.alloc (.cells #[.int .i64 a, .slice A n cap, .int .i64 r] 79)).alloc (.cells #[.int .i64 0, .slice none 0 0, .int .i64 0] 28)).heap.size = w.heap.size + 2 by simp, ← hW] at this
    exact this
  rw [← hW]
  refine (toNodeS_any A n cap xs W (Lib.hid (hl.out.below hBW)) HX hn).mono ?_
  rintro e w3 ⟨rfl, hk3, hb3⟩
  have q0 := k0.below hb3
  have q1 := k1.below hb3
  have q2 := k2.below hb3
  have t2 : w3.cell? ⟨w.heap.size, 2, none⟩ = some (.int .i64 r) := q0.cell 2
  have u0 : w3.cell? ⟨w.heap.size + 1, 0, none⟩ = some (.int .i64 0) := q1.cell 0
  have u1 : w3.cell? ⟨w.heap.size + 1, 1, none⟩ = some (.slice none 0 0) := q1.cell 1
  have u2 : w3.cell? ⟨w.heap.size + 1, 2, none⟩ = some (.int .i64 0) := q1.cell 2
  have v0 : w3.cell? ⟨w.heap.size + 2, 0, none⟩ = some (.int .i64 a) := q2.cell 0
  have v1 : w3.cell? ⟨w.heap.size + 2, 1, none⟩ = some (.slice none 0 0) := q2.cell 1
  have v2 : w3.cell? ⟨w.heap.size + 2, 2, none⟩ = some (.int .i64 0) := q2.cell 2
  have f0 := q1.frozen 0
  have f1 := q1.frozen 1
  have f2 := q1.frozen 2
  have f3 := q2.frozen 1
  have f4 := q2.frozen 2
  have hl1 := q2.lt
  have K3 := Lib.hid hk3
  have B3 := Lib.hid (Below.tr hBW hb3)
  have Q1 := Lib.hid q1
  rw [hsW] at K3 ⊢
  clear hk3 hb3 q0 q1 q2 k0 k1 k2 hW hBW hsW
  go_wp2
  have K4 : Kept w3 ((w3.setCell ⟨w.heap.size + 1 + 1, 1, none⟩ (.slice (some ⟨w.heap.size + 3, 0, none⟩) n n)).setCell ⟨w.heap.size + 1 + 1, 2, none⟩ (.int .i64 r)) (fun i => i = w.heap.size + 1 ∨ i = w.heap.size + 1 + 1) := (Kept.mono Kept.set (fun i h => .inr h)).trans (Kept.mono Kept.set (fun i h => .inr h))
  have Q4 := (Q1.out.far (g' := w.heap.size + 1 + 1) (j := 1) (by omega) (.slice (some ⟨w.heap.size + 3, 0, none⟩) n n)).far (g' := w.heap.size + 1 + 1) (j := 2) (by omega) (.int .i64 r)
  have hfin := dg_store Q4 (.int .i64 a) (.slice (some ⟨w.heap.size + 3, 0, none⟩) n n) (.int .i64 r)
  have K5 := K4.trans (hfin.1.mono (fun i h => .inl h))
  have hBK := K5.blk K3.out (by omega)
  have hBB := K5.below B3.out B3.out.size (fun i e => by omega)
  obtain ⟨W', hW'⟩ : ∃ W', W' = (((((w3.setCell ⟨w.heap.size + 1 + 1, 1, none⟩ (.slice (some ⟨w.heap.size + 3, 0, none⟩) n n)).setCell ⟨w.heap.size + 1 + 1, 2, none⟩ (.int .i64 r)).setCell ⟨w.heap.size + 1, 0, none⟩ (.int .i64 a)).setCell ⟨w.heap.size + 1, 1, none⟩ (.slice (some ⟨w.heap.size + 3, 0, none⟩) n n)).setCell ⟨w.heap.size + 1, 2, none⟩ (.int .i64 r)) := ⟨_, rfl⟩
  rw [← hW'] at hfin hBK hBB ⊢
  obtain ⟨_, r0, r1, r2⟩ := hfin
  exact bodyPost_ret (v := .agg #[.int .i64 a, .slice (some ⟨w.heap.size + 3, 0, none⟩) n n, .int .i64 r]) (by simp [results, Try.results55, go_sem, r0, r1, r2]) rfl ⟨_, rfl, by omega, hBK, hBB⟩
set_option maxRecDepth 100000 in
set_option maxHeartbeats 400000 in
theorem eqNode_same (x : Nd) (w : World) :
    Calls Try.prog 151 #[.agg #[.int .i64 x.v, .int .i64 x.l, .int .i64 x.h], .agg #[.int .i64 x.v, .int .i64 x.l, .int .i64 x.h]] w fun e w' => e = .returned (.bool true) ∧ Below w.heap.size w w' := by
  have h1 : (x.v != x.v) = false := by simp
  have h2 : (x.l != x.l) = false := by simp
  have h3 : (x.h != x.h) = false := by simp
  go_enter Try.func151, Try.ntmps151
  go_wp2
  go_ret
  exact ⟨rfl, below2 _ _ _⟩
set_option maxRecDepth 100000 in
set_option maxHeartbeats 2000000 in
theorem eqNodeS_same (A B : Option Addr) (n c1 c2 : Nat) (xs : List Nd) (w : World) (hl : Hid (NLies w A xs)) (hl2 : Hid (NLies w B xs)) (hx : Hid (xs.length = n)) (hn : n ≤ 1048576) :
    Calls Try.prog 116 #[.slice A n c1, .slice B n c2] w fun e w' => e = .returned (.bool true) ∧ Below w.heap.size w w' := by
  have hnn : ((n : Int) != (n : Int)) = false := by simp
  go_enter Try.func116, Try.ntmps116
  go_wp2_with fail
  go_loopw [5] (fun i wr => ∃ k : Nat, k ≤ n ∧ i = .int .i64 k ∧ Below w.heap.size w wr) (fun i _ => n - (intOf i).toNat)
  case atStart => exact ⟨0, Nat.zero_le _, rfl, Below.refl _ _⟩
  case round =>
    obtain ⟨k, hk, rfl, hb⟩ := hrel
    have B1 := Lib.hid hb
    clear hb
    by_cases hlt : k < n
    · obtain ⟨x, hxk⟩ : ∃ x, xs[k]? = some x := ⟨_, List.getElem?_eq_getElem (by have := hx.out; omega)⟩
      obtain ⟨b, off, rfl, hbl, ha⟩ := (hl.out.below B1.out) k x hxk
      obtain ⟨b2, off2, rfl, hbl2, ha2⟩ := (hl2.out.below B1.out) k x hxk
      clear hxk
      obtain ⟨e0, e1, e2⟩ := ha
      obtain ⟨g0, g1, g2⟩ := ha2
      go_wp2_with fail
      go_still_tail 8, (by kernel_rfl)
      change wpList _ _ _ _ _ wr.drew
      have B2 : Hid (Below w.heap.size w wr.drew) := B1.out.drew
      generalize wr.drew = w2 at B2 ⊢
      clear e0 e1 e2 g0 g1 g2
      go_wp2_with (go_at_call 151; refine (eqNode_same x _).mono ?_; rintro e w3 ⟨rfl, hb3⟩; have B3 := Lib.hid (Below.tr B2.out hb3); clear hb3)
      go_roundw
      case rel => exact ⟨k + 1, by omega, by go_num, B3.out⟩
      case measure => simp [intOf]; omega
    · obtain rfl : k = n := by omega
      go_wp2
      go_ret
      exact ⟨rfl, B1.out⟩
set_option maxRecDepth 100000 in
set_option maxHeartbeats 2000000 in
theorem eqDiagram_same (a r : Int) (A B : Option Addr) (n c1 c2 : Nat) (xs : List Nd) (w : World) (hl : Hid (NLies w A xs)) (hl2 : Hid (NLies w B xs)) (hx : Hid (xs.length = n)) (hn : n ≤ 1048576) :
    Calls Try.prog 56 #[.agg #[.int .i64 a, .slice A n c1, .int .i64 r], .agg #[.int .i64 a, .slice B n c2, .int .i64 r]] w fun e w' => e = .returned (.bool true) ∧ Below w.heap.size w w' := by
  have h1 : (a != a) = false := by simp
  have h2 : (r != r) = false := by simp
  have B0 := below2 w (.cells #[.int .i64 a, .slice A n c1, .int .i64 r] 28) (.cells #[.int .i64 a, .slice B n c2, .int .i64 r] 28)
  have L1 := Lib.hid (hl.out.below B0)
  have L2 := Lib.hid (hl2.out.below B0)
  have b0 : Blk ((w.alloc (.cells #[.int .i64 a, .slice A n c1, .int .i64 r] 28)).alloc (.cells #[.int .i64 a, .slice B n c2, .int .i64 r] 28)) w.heap.size 28 [.int .i64 a, .slice A n c1, .int .i64 r] := Blk.below (heap_alloc_new w _) (below1 _ _)
  have b1 : Blk ((w.alloc (.cells #[.int .i64 a, .slice A n c1, .int .i64 r] 28)).alloc (.cells #[.int .i64 a, .slice B n c2, .int .i64 r] 28)) (w.heap.size + 1) 28 [.int .i64 a, .slice B n c2, .int .i64 r] := by
    have := heap_alloc_new (w.alloc (.cells #[.int .i64 a, .slice A n c1, .int .i64 r] 28)) (.cells #[.int .i64 a, .slice B n c2, .int .i64 r] 28)
    rw [show (w.alloc (.cells #[.int .i64 a, .slice A n c1, .int .i64 r] 28)).heap.size = w.heap.size + 1 by simp] at this
    exact this
  have HB0 := Lib.hid B0
  have K0 := Lib.hid b0
  have K1 := Lib.hid b1
  clear B0 b0 b1
  go_enter Try.func56, Try.ntmps56
  go_wp2_with fail
  refine (eqNodeS_same A B n c1 c2 xs _ L1 L2 hx hn).mono ?_
  rintro e w3 ⟨rfl, hb3⟩
  have B3 := Lib.hid (Below.tr HB0.out hb3)
  have b0 := K0.out.below hb3
  have b1 := K1.out.below hb3
  have t0 : w3.cell? ⟨w.heap.size, 0, none⟩ = some (.int .i64 a) := b0.cell 0
  have t2 : w3.cell? ⟨w.heap.size, 2, none⟩ = some (.int .i64 r) := b0.cell 2
  have u0 : w3.cell? ⟨w.heap.size + 1, 0, none⟩ = some (.int .i64 a) := b1.cell 0
  have u2 : w3.cell? ⟨w.heap.size + 1, 2, none⟩ = some (.int .i64 r) := b1.cell 2
  clear b0 b1 hb3
  go_wp2
  go_ret
  exact ⟨rfl, B3.out⟩

/-- the nodes that the marking lays -/
def ndI (m : Int) (j : Nat) : Nd := ⟨m + (j : Int) * 3, m + (j : Int) * 3 + 1, m + (j : Int) * 3 + 1 + 1⟩
def ndIs (m : Int) (n : Nat) : List Nd := (List.range n).map (ndI m)
theorem ndIs_len (m : Int) (n : Nat) : (ndIs m n).length = n := by simp [ndIs]
theorem ndIs_succ (m : Int) (n : Nat) : ncells (ndIs m (n + 1)) = ncells (ndIs m n) ++ (ndI m n).cells := by simp [ndIs, List.range_succ, ncells]
theorem ndIs_at (m : Int) (n j : Nat) (h : j < n) : (ndIs m n)[j]? = some (ndI m j) := by simp [ndIs, h]
/-- behind j rounds of the marking -/
def NMark (base n c g : Nat) (m : Int) (j : Nat) (w : World) : Prop :=
  ∃ cur : List Value, w.ownsRow base 43 3 (.slice (some ⟨g, 0, none⟩) n c) n cur ∧ cur.take (j * 3) = ncells (ndIs m j)
theorem NMark.there {base n c g : Nat} {m : Int} {j : Nat} {w : World} (h : NMark base n c g m j w) (i : Nat) (hi : i < n * 3) : ∃ v, w.cell? ⟨g, i, none⟩ = some v := by
  obtain ⟨cur, h1, _⟩ := h
  have := h1.cells (g := g) rfl i _ (List.getElem?_eq_getElem (by have := h1.1; omega))
  rw [add_plain, Nat.zero_add] at this
  exact ⟨_, this⟩
theorem NMark.free {base n c g : Nat} {m : Int} {j : Nat} {w : World} (h : NMark base n c g m j w) (i : Nat) : w.frozen? ⟨g, i, none⟩ = false := by
  obtain ⟨cur, h1, _⟩ := h
  rcases h1.2 with ⟨h', _⟩ | ⟨g', cap', cur', h', hb, hg, hnc, hcm, hcs, htake⟩
  · simp at h'
  · simp only [Value.slice.injEq, Option.some.injEq, Addr.mk.injEq, and_true, true_and] at h'
    obtain ⟨rfl, rfl⟩ := h'
    simp [World.frozen?, hg]
theorem three_cells (m : Int) (j : Nat) (K : Int) (hK : m + (j : Int) * 3 = K) : [Value.int .i64 K, .int .i64 (K + 1), .int .i64 (K + 1 + 1)] = (ndI m j).cells := by
  subst hK
  simp [Nd.cells, ndI]
theorem NMark.step {base n c g : Nat} {m : Int} {j : Nat} {w : World} (h : NMark base n c g m j w) (hj : j < n) (K : Int) (hK : m + (j : Int) * 3 = K) :
    NMark base n c g m (j + 1) (((w.setCell ⟨g, j * 3, none⟩ (.int .i64 K)).setCell ⟨g, j * 3 + 1, none⟩ (.int .i64 (K + 1))).setCell ⟨g, j * 3 + 2, none⟩ (.int .i64 (K + 1 + 1))) ∧
    w.grownBy (((w.setCell ⟨g, j * 3, none⟩ (.int .i64 K)).setCell ⟨g, j * 3 + 1, none⟩ (.int .i64 (K + 1))).setCell ⟨g, j * 3 + 2, none⟩ (.int .i64 (K + 1 + 1))) (some g) := by
  obtain ⟨cur, h1, h2⟩ := h
  obtain ⟨a1, b1⟩ := h1.stored (j * 3) (.int .i64 K)
  obtain ⟨a2, b2⟩ := a1.stored (j * 3 + 1) (.int .i64 (K + 1))
  obtain ⟨a3, b3⟩ := a2.stored (j * 3 + 2) (.int .i64 (K + 1 + 1))
  refine ⟨⟨_, a3, ?_⟩, grown_trans b1 (grown_trans b2 b3)⟩
  rw [take_three cur j _ _ _ (by have := h1.1; omega), h2, ndIs_succ, three_cells m j K hK]

set_option maxRecDepth 100000 in
set_option maxHeartbeats 2000000 in
theorem markNodeS_pos (base n c g : Nat) (vs : List Value) (m : Int) (w : World) (ho : Hid (w.ownsRow base 43 3 (.slice (some ⟨g, 0, none⟩) n c) n vs)) (hn : n ≤ 10000000) (hm : 0 ≤ m ∧ m ≤ 1000000000) :
    Calls Try.prog 117 #[.slice (some ⟨g, 0, none⟩) n c, .int .i64 m] w fun e w' => e = .returned (.int .i64 (m + n * 3)) ∧ w'.ownsRow base 43 3 (.slice (some ⟨g, 0, none⟩) n c) n (ncells (ndIs m n)) ∧ w.grownBy w' (some g) := by
  go_enter Try.func117, Try.ntmps117
  go_wp2_with fail
  go_loopw [1, 5] (fun kk i wr => ∃ j : Nat, ∃ K : Int, j ≤ n ∧ i = .int .i64 j ∧ kk = .int .i64 K ∧ m + (j : Int) * 3 = K ∧ NMark base n c g m j wr ∧ w.grownBy wr (some g)) (fun _ i _ => n - (intOf i).toNat)
  case atStart => exact ⟨0, m, Nat.zero_le _, rfl, rfl, by simp, ⟨vs, ho.out, by simp [ndIs, ncells]⟩, World.grownBy.refl _ _⟩
  case round =>
    obtain ⟨j, K, hj, rfl, rfl, hK, hmk, hgr⟩ := hrel
    have M1 := Lib.hid hmk
    have G1 := Lib.hid hgr
    have HK := Lib.hid hK
    have hK0 : 0 ≤ K ∧ K ≤ 2000000000 := by omega
    clear hmk hgr hK
    by_cases hlt : j < n
    · obtain ⟨v0, t0⟩ := M1.out.there (j * 3) (by omega)
      obtain ⟨v1, t1⟩ := M1.out.there (j * 3 + 1) (by omega)
      obtain ⟨v2, t2⟩ := M1.out.there (j * 3 + 2) (by omega)
      have f0 := M1.out.free (j * 3)
      have f1 := M1.out.free (j * 3 + 1)
      have f2 := M1.out.free (j * 3 + 2)
      have S1 := Lib.hid (M1.out.step hlt K HK.out)
      go_wp2
      go_roundw
      case rel => exact ⟨j + 1, _, by omega, by go_num, rfl, by have := HK.out; omega, S1.out.1, grown_trans G1.out S1.out.2⟩
      case measure => simp [intOf]; omega
    · obtain rfl : j = n := by omega
      obtain ⟨cur, h1, h2⟩ := M1.out
      have O1 : Hid (wr.ownsRow base 43 3 (.slice (some ⟨g, 0, none⟩) j c) j (ncells (ndIs m j))) := by
        show wr.ownsRow base 43 3 (.slice (some ⟨g, 0, none⟩) j c) j (ncells (ndIs m j))
        rw [← h2, List.take_of_length_le (by have := h1.1; omega)]
        exact h1
      clear h1 h2
      go_wp2
      go_ret
      exact ⟨ret_int HK.out.symm, O1.out, G1.out⟩
set_option maxRecDepth 100000 in
set_option maxHeartbeats 2000000 in
theorem markNodeS_nil (m : Int) (w : World) :
    Calls Try.prog 117 #[.slice none 0 0, .int .i64 m] w fun e w' => e = .returned (.int .i64 m) ∧ w = w' := by
  go_enter Try.func117, Try.ntmps117
  go_wp2_with fail
  refine wp_loop_rounds 1 ?_
  rw [rounds_succ]
  go_wp2
  go_ret
  exact ⟨rfl, rfl⟩
theorem markNodeS_any (base n c : Nat) (A : Option Addr) (vs : List Value) (m : Int) (w : World) (ho : Hid (w.ownsRow base 43 3 (.slice A n c) n vs)) (hn : n ≤ 10000000) (hm : 0 ≤ m ∧ m ≤ 1000000000) :
    Calls Try.prog 117 #[.slice A n c, .int .i64 m] w fun e w' => e = .returned (.int .i64 (m + n * 3)) ∧ w'.ownsRow base 43 3 (.slice A n c) n (ncells (ndIs m n)) ∧ w.grownBy w' (Value.slice A n c).ownBlock := by
  rcases ho.out.2 with ⟨h', _⟩ | ⟨g', cap', cur, h', _⟩
  · simp only [Value.slice.injEq] at h'
    obtain ⟨rfl, rfl, rfl⟩ := h'
    refine (markNodeS_nil m w).mono fun e w' ⟨he, hw⟩ => ?_
    subst hw
    exact ⟨by rw [he]; exact ret_int (by simp), World.ownsRow_nil _ _ _ _, World.grownBy.refl _ _⟩
  · simp only [Value.slice.injEq] at h'
    obtain ⟨rfl, _, rfl⟩ := h'
    exact markNodeS_pos base n c g' vs m w ho hn hm

theorem ne_selfN (a : Int) : (a != a) = false := by simp
set_option maxRecDepth 100000 in
set_option maxHeartbeats 2000000 in
theorem heldNodeS_any (n c : Nat) (A : Option Addr) (m : Int) (w : World) (hl : Hid (NLies w A (ndIs m n))) (hn : n ≤ 10000000) (hm : 0 ≤ m ∧ m ≤ 1000000000) :
    Calls Try.prog 118 #[.slice A n c, .int .i64 m] w fun e w' => e = .returned (.int .i64 (m + n * 3)) ∧ w = w' := by
  go_enter Try.func118, Try.ntmps118
  go_wp2_with fail
  go_loop [1, 5] (fun kk i => ∃ j : Nat, ∃ K : Int, j ≤ n ∧ i = .int .i64 j ∧ kk = .int .i64 K ∧ m + (j : Int) * 3 = K) (fun _ i => n - (intOf i).toNat)
  case atStart => exact ⟨0, m, Nat.zero_le _, rfl, rfl, by simp⟩
  case round =>
    obtain ⟨j, K, hj, rfl, rfl, hK⟩ := hrel
    have HK := Lib.hid hK
    have hK0 : 0 ≤ K ∧ K ≤ 2000000000 := by omega
    by_cases hlt : j < n
    · obtain ⟨b, off, rfl, hb, ha⟩ := hl.out j _ (ndIs_at m n j hlt)
      have hc := three_cells m j K hK
      simp only [Nd.cells, List.cons.injEq, and_true] at hc
      obtain ⟨q0, q1, q2⟩ := hc
      obtain ⟨e0, e1, e2⟩ := ha
      rw [← q0] at e0
      rw [← q1] at e1
      rw [← q2] at e2
      clear q0 q1 q2 hK
      have n0 := ne_selfN K
      have n1 := ne_selfN (K + 1)
      have n2 := ne_selfN (K + 1 + 1)
      go_wp2
      go_round
      case rel => exact ⟨j + 1, _, by omega, by go_num, rfl, by have := HK.out; omega⟩
      case measure => simp [intOf]; omega
    · obtain rfl : j = n := by omega
      clear hK
      go_wp2
      go_ret
      exact ⟨ret_int HK.out.symm, rfl⟩
set_option maxRecDepth 100000 in
set_option maxHeartbeats 2000000 in
theorem markDiagram_any (a r : Int) (base n c : Nat) (A : Option Addr) (vs : List Value) (m : Int) (w : World) (ho : Hid (w.ownsRow base 43 3 (.slice A n c) n vs)) (hn : n ≤ 10000000) (hm : 0 ≤ m ∧ m ≤ 1000000000) :
    Calls Try.prog 57 #[.agg #[.int .i64 a, .slice A n c, .int .i64 r], .int .i64 m] w fun e w' => e = .returned (.int .i64 (m + n * 3)) ∧ w'.ownsRow base 43 3 (.slice A n c) n (ncells (ndIs m n)) ∧ w.grownBy w' (Value.slice A n c).ownBlock := by
  have O1 : Hid ((w.alloc (.cells #[.int .i64 a, .slice A n c, .int .i64 r] 28)).ownsRow base 43 3 (.slice A n c) n vs) := Lib.hid (own_below ho.out (below1 _ _))
  go_enter Try.func57, Try.ntmps57
  go_wp2_with fail
  refine (markNodeS_any base n c A vs m _ O1 hn hm).mono ?_
  rintro e w3 ⟨rfl, ho3, hg3⟩
  have O3 := Lib.hid ho3
  have G3 := Lib.hid (grown_trans (World.grownBy_alloc w _ _) hg3)
  clear ho3 hg3
  go_wp2
  go_ret
  exact ⟨rfl, O3.out, G3.out⟩
set_option maxRecDepth 100000 in
set_option maxHeartbeats 2000000 in
theorem heldDiagram_any (a r : Int) (n c : Nat) (A : Option Addr) (m : Int) (w : World) (hl : Hid (NLies w A (ndIs m n))) (hn : n ≤ 10000000) (hm : 0 ≤ m ∧ m ≤ 1000000000) :
    Calls Try.prog 58 #[.agg #[.int .i64 a, .slice A n c, .int .i64 r], .int .i64 m] w fun e w' => e = .returned (.int .i64 (m + n * 3)) ∧ Below w.heap.size w w' := by
  have L1 : Hid (NLies (w.alloc (.cells #[.int .i64 a, .slice A n c, .int .i64 r] 28)) A (ndIs m n)) := Lib.hid (hl.out.below (below1 _ _))
  have hK : 0 ≤ m + (n : Int) * 3 := by omega
  go_enter Try.func58, Try.ntmps58
  go_wp2_with (go_at_call 118; refine (heldNodeS_any n c A m _ L1 hn hm).mono ?_; rintro e w3 ⟨rfl, rfl⟩)
  go_ret
  exact ⟨rfl, below1 _ _⟩
end Go.Proofs.Ytklcfbjaodildaa
