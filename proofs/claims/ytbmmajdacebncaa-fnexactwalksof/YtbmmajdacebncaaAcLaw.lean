/-
  The laws' own helpers over arcs: the copy, the size, the comparison, the marks; arguments that are lists of arcs, opened.
-/
import Derived.Test.YtbmmajdacebncaaAcMem
namespace Go.Proofs.Ytbmmajdacebncaa
open Go.ChangeShapes Go.WideShapes Go.ChangeAt Go.RowKit

/-- behind k rounds of the copy -/
def ACop (g : Nat) (xs : AL) (k : Nat) (w : World) : Prop :=
  ∃ cur : List Value, Blk w g 36 cur ∧ cur.length = xs.length * 2 ∧ cur.take (k * 2) = acells (xs.take k)
theorem ACop.start {w : World} {base n : Nat} {l : List Value} {xs : AL} {g : Nat} (hn : xs.length = n) (h : w.ownsRow base 36 2 (.slice (some ⟨g, 0, none⟩) n n) n l) : ACop g xs 0 w := by
  rcases h.2 with ⟨h', _⟩ | ⟨g', cap', cur, h', hb, hg, hnc, hcm, hcs, htake⟩
  · simp at h'
  · simp only [Value.slice.injEq, Option.some.injEq, Addr.mk.injEq, and_true, true_and] at h'
    obtain ⟨rfl, rfl⟩ := h'
    exact ⟨cur.toList, by simpa [Blk] using hg, by simp [hcs, hn], by simp [acells]⟩
theorem ACop.below {w w' : World} {g k : Nat} {xs : AL} (h : ACop g xs k w) (hb : Below w.heap.size w w') : ACop g xs k w' := by
  obtain ⟨cur, h1, h2, h3⟩ := h
  exact ⟨cur, h1.below hb, h2, h3⟩
theorem ACop.end_ {w : World} {g : Nat} {xs : AL} (h : ACop g xs xs.length w) : Blk w g 36 (acells xs) := by
  obtain ⟨cur, h1, h2, h3⟩ := h
  rw [List.take_of_length_le (by omega), List.take_of_length_le (Nat.le_refl _)] at h3
  rw [← h3]
  exact h1
theorem take_twoA (l : List Value) (k : Nat) (a b : Value) (h : k * 2 + 2 ≤ l.length) :
    ((l.set (k * 2) a).set (k * 2 + 1) b).take ((k + 1) * 2) = l.take (k * 2) ++ [a, b] := by
  apply List.ext_getElem?
  intro j
  rw [List.getElem?_take, List.getElem?_append, List.length_take, Nat.min_eq_left (by omega)]
  simp only [List.getElem?_set, List.length_set, List.getElem?_take]
  by_cases h1 : j < k * 2
  · rw [if_pos h1, if_pos (by omega), if_pos h1]
    rw [if_neg (by omega), if_neg (by omega)]
  · rw [if_neg h1]
    by_cases h2 : j < (k + 1) * 2
    · rw [if_pos h2]
      obtain ⟨q, rfl⟩ : ∃ q, j = k * 2 + q := ⟨j - k * 2, by omega⟩
      have hq : q = 0 ∨ q = 1 := by omega
      rcases hq with rfl | rfl <;> simp <;> omega
    · rw [if_neg h2, List.getElem?_eq_none (by simp; omega)]
theorem ACop.step {w : World} {g k : Nat} {xs : AL} {x : Int × Int} (h : ACop g xs k w) (hx : xs[k]? = some x) :
    ACop g xs (k + 1) ((w.setCell ⟨g, k * 2, none⟩ (.int .i64 x.1)).setCell ⟨g, k * 2 + 1, none⟩ (.int .i64 x.2)) := by
  obtain ⟨cur, h1, h2, h3⟩ := h
  have hlt : k < xs.length := (List.getElem?_eq_some_iff.1 hx).1
  refine ⟨_, (h1.set _ _).set _ _, by simp [h2], ?_⟩
  rw [take_twoA cur k _ _ (by omega), h3, acells_snoc xs k x hx]
  rfl
theorem ACop.there {w : World} {g k : Nat} {xs : AL} (h : ACop g xs k w) (j : Nat) (hj : j < xs.length * 2) : ∃ v, w.cell? ⟨g, j, none⟩ = some v := by
  obtain ⟨cur, h1, h2, h3⟩ := h
  exact ⟨_, (h1.cell j).trans (List.getElem?_eq_getElem (by omega))⟩
theorem ACop.free {w : World} {g k : Nat} {xs : AL} (h : ACop g xs k w) (j : Nat) : w.frozen? ⟨g, j, none⟩ = false := by
  obtain ⟨cur, h1, h2, h3⟩ := h
  exact h1.frozen j
theorem belowS2A {w0 w : World} {g : Nat} (h : Below w0.heap.size w0 w) (hg : w0.heap.size ≤ g) (a b : Nat) (u v : Value) :
    Below w0.heap.size w0 ((w.setCell ⟨g, a, none⟩ u).setCell ⟨g, b, none⟩ v) :=
  (h.setCell hg _).setCell hg _

set_option maxRecDepth 100000 in
set_option maxHeartbeats 400000 in
theorem toArc_any (x : Int × Int) (w : World) :
    Calls Try.prog 62 #[.agg #[.int .i64 x.1, .int .i64 x.2]] w fun e w' => e = .returned (.agg #[.int .i64 x.1, .int .i64 x.2]) ∧ Below w.heap.size w w' := by
  go_enter Try.func62, Try.ntmps62
  go_wp2
  exact bodyPost_ret (v := .agg #[.int .i64 x.1, .int .i64 x.2]) (by simp [results, Try.results62, go_sem]) rfl ⟨rfl, below3 _ _ _ _⟩
set_option maxRecDepth 100000 in
set_option maxHeartbeats 2000000 in
theorem toArcS_any (A : Option Addr) (n cap : Nat) (xs : AL) (w : World) (hl : Hid (ALies w A xs)) (HX : Hid (xs.length = n)) (hn : n ≤ 1048576) :
    Calls Try.prog 38 #[.slice A n cap] w fun e w' => e = .returned (.slice (some ⟨w.heap.size, 0, none⟩) n n) ∧ Blk w' w.heap.size 36 (acells xs) ∧ Below w.heap.size w w' := by
  obtain ⟨i0, hi0, hz0, hz1, hz2⟩ := info_parts info_arc
  go_enter Try.func38, Try.ntmps38
  go_wp2_with (at_make; (refine wpList_make_full _ rfl _ _ 23 rfl w.heap.size 36 i0 _ 2 Try.underlying23 hi0 hz0 hz1 _ _ _ _ n rfl rfl (by omega) (by omega) (by rw [hz2]; omega) (by unfold maxLen; omega) (Nat.le_refl _) ?_; intro w1 hown1 hg1; have HC := Lib.hid (ACop.start HX.out hown1); have HB := Lib.hid ((Below.refl w.heap.size w).grown hg1 (Nat.le_refl _) (by simp)); clear hown1 hg1))
  go_loopw [4] (fun i wr => ∃ k : Nat, k ≤ n ∧ i = .int .i64 k ∧ ACop w.heap.size xs k wr ∧ Below w.heap.size w wr) (fun i _ => n - (intOf i).toNat)
  case atStart => exact ⟨0, Nat.zero_le _, rfl, HC.out, HB.out⟩
  case round =>
    obtain ⟨k, hk, rfl, hc, hb⟩ := hrel
    have C1 := Lib.hid hc
    have B1 := Lib.hid hb
    clear hc hb HC HB
    by_cases hlt : k < n
    · obtain ⟨x, hx⟩ : ∃ x, xs[k]? = some x := ⟨_, List.getElem?_eq_getElem (by have := HX.out; omega)⟩
      obtain ⟨b, off, rfl, hbl, ha⟩ := (hl.out.below B1.out) k x hx
      have HXK := Lib.hid hx
      clear hx
      obtain ⟨e0, e1⟩ := ha
      go_wp2_with fail
      refine (toArc_any x _).mono ?_
      rintro e w2 ⟨rfl, hb2⟩
      have C2 := Lib.hid (C1.out.below hb2)
      have B2 := Lib.hid (Below.tr B1.out hb2)
      clear hb2 e0 e1
      have hx6 : k * 2 + 1 < xs.length * 2 := by have := HX.out; omega
      obtain ⟨v0, t0⟩ := C2.out.there (k * 2) (by omega)
      obtain ⟨v1, t1⟩ := C2.out.there (k * 2 + 1) (by omega)
      have f0 := C2.out.free (k * 2)
      have f1 := C2.out.free (k * 2 + 1)
      clear hx6
      go_wp2
      go_roundw
      case rel => exact ⟨k + 1, by omega, by go_num, C2.out.step HXK.out, belowS2A B2.out (Nat.le_refl _) _ _ _ _⟩
      case measure => simp [intOf]; omega
    · obtain rfl : k = n := by omega
      go_wp2
      go_ret
      exact ⟨rfl, (by have := HX.out; subst this; exact C1.out.end_), B1.out⟩
set_option maxRecDepth 100000 in
set_option maxHeartbeats 400000 in
theorem szArcS_any (A : Option Addr) (n cap : Nat) (l : Int) (w : World) (hn : n ≤ 9223372036854775807) (h0 : 0 ≤ l) (h1 : l ≤ 1048576) :
    Calls Try.prog 36 #[.slice A n cap, .int .i64 l] w fun e w' => e = .returned (.int .i64 (szF l n)) ∧ w = w' := by
  by_cases h : l - (n : Int) < 0
  · have e : Hid (szF l n = -1) := if_pos (by omega)
    go_enter Try.func36, Try.ntmps36
    go_wp2
    go_ret
    exact ⟨ret_int e.out.symm, rfl⟩
  · have e : Hid (szF l n = l - n) := if_neg (by omega)
    go_enter Try.func36, Try.ntmps36
    go_wp2
    go_ret
    exact ⟨ret_int e.out.symm, rfl⟩
set_option maxRecDepth 100000 in
set_option maxHeartbeats 400000 in
theorem eqArc_same (x : Int × Int) (w : World) :
    Calls Try.prog 63 #[.agg #[.int .i64 x.1, .int .i64 x.2], .agg #[.int .i64 x.1, .int .i64 x.2]] w fun e w' => e = .returned (.bool true) ∧ Below w.heap.size w w' := by
  have h1 : (x.1 != x.1) = false := by simp
  have h2 : (x.2 != x.2) = false := by simp
  go_enter Try.func63, Try.ntmps63
  go_wp2
  go_ret
  exact ⟨rfl, below2 _ _ _⟩
set_option maxRecDepth 100000 in
set_option maxHeartbeats 2000000 in
theorem eqArcS_same (A B : Option Addr) (n c1 c2 : Nat) (xs : AL) (w : World) (hl : Hid (ALies w A xs)) (hl2 : Hid (ALies w B xs)) (hx : Hid (xs.length = n)) (hn : n ≤ 1048576) :
    Calls Try.prog 39 #[.slice A n c1, .slice B n c2] w fun e w' => e = .returned (.bool true) ∧ Below w.heap.size w w' := by
  have hnn : ((n : Int) != (n : Int)) = false := by simp
  go_enter Try.func39, Try.ntmps39
  go_wp2_with fail
  go_loopw [5] (fun i wr => ∃ k : Nat, k ≤ n ∧ i = .int .i64 k ∧ Below w.heap.size w wr) (fun i _ => n - (intOf i).toNat)
  case atStart => exact ⟨0, Nat.zero_le _, rfl, Below.refl _ _⟩
  case round =>
    obtain ⟨k, hk, rfl, hb⟩ := hrel
    have B1 := Lib.hid hb
    clear hb
    by_cases hlt : k < n
    · obtain ⟨x, hxk⟩ : ∃ x, xs[k]? = some x := ⟨_, List.getElem?_eq_getElem (by have := hx.out; omega)⟩
      obtain ⟨b, off, rfl, hbl, ha⟩ := (hl.out.below B1.out) k x hxk
      obtain ⟨b2, off2, rfl, hbl2, ha2⟩ := (hl2.out.below B1.out) k x hxk
      clear hxk
      obtain ⟨e0, e1⟩ := ha
      obtain ⟨g0, g1⟩ := ha2
      go_wp2_with fail
      go_still_tail 8, (by kernel_rfl)
      change wpList _ _ _ _ _ wr.drew
      have B2 : Hid (Below w.heap.size w wr.drew) := B1.out.drew
      generalize wr.drew = w2 at B2 ⊢
      clear e0 e1 g0 g1
      go_wp2_with (go_at_call 63; refine (eqArc_same x _).mono ?_; rintro e w3 ⟨rfl, hb3⟩; have B3 := Lib.hid (Below.tr B2.out hb3); clear hb3)
      go_roundw
      case rel => exact ⟨k + 1, by omega, by go_num, B3.out⟩
      case measure => simp [intOf]; omega
    · obtain rfl : k = n := by omega
      go_wp2
      go_ret
      exact ⟨rfl, B1.out⟩
/-- the arcs that the marking lays -/
def acI (m : Int) (j : Nat) : Int × Int := (m + (j : Int) * 2, m + (j : Int) * 2 + 1)
def acIs (m : Int) (n : Nat) : AL := (List.range n).map (acI m)
theorem acIs_len (m : Int) (n : Nat) : (acIs m n).length = n := by simp [acIs]
theorem acIs_succ (m : Int) (n : Nat) : acells (acIs m (n + 1)) = acells (acIs m n) ++ pc (acI m n) := by simp [acIs, List.range_succ, acells]
theorem acIs_at (m : Int) (n j : Nat) (h : j < n) : (acIs m n)[j]? = some (acI m j) := by simp [acIs, h]
/-- behind j rounds of the marking -/
def AMark (base n c g : Nat) (m : Int) (j : Nat) (w : World) : Prop :=
  ∃ cur : List Value, w.ownsRow base 36 2 (.slice (some ⟨g, 0, none⟩) n c) n cur ∧ cur.take (j * 2) = acells (acIs m j)
theorem AMark.there {base n c g : Nat} {m : Int} {j : Nat} {w : World} (h : AMark base n c g m j w) (i : Nat) (hi : i < n * 2) : ∃ v, w.cell? ⟨g, i, none⟩ = some v := by
  obtain ⟨cur, h1, _⟩ := h
  have := h1.cells (g := g) rfl i _ (List.getElem?_eq_getElem (by have := h1.1; omega))
  rw [add_plain, Nat.zero_add] at this
  exact ⟨_, this⟩
theorem AMark.free {base n c g : Nat} {m : Int} {j : Nat} {w : World} (h : AMark base n c g m j w) (i : Nat) : w.frozen? ⟨g, i, none⟩ = false := by
  obtain ⟨cur, h1, _⟩ := h
  rcases h1.2 with ⟨h', _⟩ | ⟨g', cap', cur', h', hb, hg, hnc, hcm, hcs, htake⟩
  · simp at h'
  · simp only [Value.slice.injEq, Option.some.injEq, Addr.mk.injEq, and_true, true_and] at h'
    obtain ⟨rfl, rfl⟩ := h'
    simp [World.frozen?, hg]
theorem two_cellsA (m : Int) (j : Nat) (K : Int) (hK : m + (j : Int) * 2 = K) : [Value.int .i64 K, .int .i64 (K + 1)] = pc (acI m j) := by
  subst hK
  simp [pc, acI]
theorem AMark.step {base n c g : Nat} {m : Int} {j : Nat} {w : World} (h : AMark base n c g m j w) (hj : j < n) (K : Int) (hK : m + (j : Int) * 2 = K) :
    AMark base n c g m (j + 1) ((w.setCell ⟨g, j * 2, none⟩ (.int .i64 K)).setCell ⟨g, j * 2 + 1, none⟩ (.int .i64 (K + 1))) ∧
    w.grownBy ((w.setCell ⟨g, j * 2, none⟩ (.int .i64 K)).setCell ⟨g, j * 2 + 1, none⟩ (.int .i64 (K + 1))) (some g) := by
  obtain ⟨cur, h1, h2⟩ := h
  obtain ⟨a1, b1⟩ := h1.stored (j * 2) (.int .i64 K)
  obtain ⟨a2, b2⟩ := a1.stored (j * 2 + 1) (.int .i64 (K + 1))
  refine ⟨⟨_, a2, ?_⟩, grown_trans b1 b2⟩
  rw [take_twoA cur j _ _ (by have := h1.1; omega), h2, acIs_succ, two_cellsA m j K hK]

set_option maxRecDepth 100000 in
set_option maxHeartbeats 2000000 in
theorem markArcS_pos (base n c g : Nat) (vs : List Value) (m : Int) (w : World) (ho : Hid (w.ownsRow base 36 2 (.slice (some ⟨g, 0, none⟩) n c) n vs)) (hn : n ≤ 10000000) (hm : 0 ≤ m ∧ m ≤ 1000000000) :
    Calls Try.prog 40 #[.slice (some ⟨g, 0, none⟩) n c, .int .i64 m] w fun e w' => e = .returned (.int .i64 (m + n * 2)) ∧ w'.ownsRow base 36 2 (.slice (some ⟨g, 0, none⟩) n c) n (acells (acIs m n)) ∧ w.grownBy w' (some g) := by
  go_enter Try.func40, Try.ntmps40
  go_wp2_with fail
  go_loopw [1, 5] (fun kk i wr => ∃ j : Nat, ∃ K : Int, j ≤ n ∧ i = .int .i64 j ∧ kk = .int .i64 K ∧ m + (j : Int) * 2 = K ∧ AMark base n c g m j wr ∧ w.grownBy wr (some g)) (fun _ i _ => n - (intOf i).toNat)
  case atStart => exact ⟨0, m, Nat.zero_le _, rfl, rfl, by simp, ⟨vs, ho.out, by simp [acIs, acells]⟩, World.grownBy.refl _ _⟩
  case round =>
    obtain ⟨j, K, hj, rfl, rfl, hK, hmk, hgr⟩ := hrel
    have M1 := Lib.hid hmk
    have G1 := Lib.hid hgr
    have HK := Lib.hid hK
    have hK0 : 0 ≤ K ∧ K ≤ 2000000000 := by omega
    clear hmk hgr hK
    by_cases hlt : j < n
    · obtain ⟨v0, t0⟩ := M1.out.there (j * 2) (by omega)
      obtain ⟨v1, t1⟩ := M1.out.there (j * 2 + 1) (by omega)
      have f0 := M1.out.free (j * 2)
      have f1 := M1.out.free (j * 2 + 1)
      have S1 := Lib.hid (M1.out.step hlt K HK.out)
      go_wp2
      go_roundw
      case rel => exact ⟨j + 1, _, by omega, by go_num, rfl, by have := HK.out; omega, S1.out.1, grown_trans G1.out S1.out.2⟩
      case measure => simp [intOf]; omega
    · obtain rfl : j = n := by omega
      obtain ⟨cur, h1, h2⟩ := M1.out
      have O1 : Hid (wr.ownsRow base 36 2 (.slice (some ⟨g, 0, none⟩) j c) j (acells (acIs m j))) := by
        show wr.ownsRow base 36 2 (.slice (some ⟨g, 0, none⟩) j c) j (acells (acIs m j))
        rw [← h2, List.take_of_length_le (by have := h1.1; omega)]
        exact h1
      clear h1 h2
      go_wp2
      go_ret
      exact ⟨ret_int HK.out.symm, O1.out, G1.out⟩
set_option maxRecDepth 100000 in
set_option maxHeartbeats 2000000 in
theorem markArcS_nil (m : Int) (w : World) :
    Calls Try.prog 40 #[.slice none 0 0, .int .i64 m] w fun e w' => e = .returned (.int .i64 m) ∧ w = w' := by
  go_enter Try.func40, Try.ntmps40
  go_wp2_with fail
  refine wp_loop_rounds 1 ?_
  rw [rounds_succ]
  go_wp2
  go_ret
  exact ⟨rfl, rfl⟩
theorem markArcS_any (base n c : Nat) (A : Option Addr) (vs : List Value) (m : Int) (w : World) (ho : Hid (w.ownsRow base 36 2 (.slice A n c) n vs)) (hn : n ≤ 10000000) (hm : 0 ≤ m ∧ m ≤ 1000000000) :
    Calls Try.prog 40 #[.slice A n c, .int .i64 m] w fun e w' => e = .returned (.int .i64 (m + n * 2)) ∧ w'.ownsRow base 36 2 (.slice A n c) n (acells (acIs m n)) ∧ w.grownBy w' (Value.slice A n c).ownBlock := by
  rcases ho.out.2 with ⟨h', _⟩ | ⟨g', cap', cur, h', _⟩
  · simp only [Value.slice.injEq] at h'
    obtain ⟨rfl, rfl, rfl⟩ := h'
    refine (markArcS_nil m w).mono fun e w' ⟨he, hw⟩ => ?_
    subst hw
    exact ⟨by rw [he]; exact ret_int (by simp), World.ownsRow_nil _ _ _ _, World.grownBy.refl _ _⟩
  · simp only [Value.slice.injEq] at h'
    obtain ⟨rfl, _, rfl⟩ := h'
    exact markArcS_pos base n c g' vs m w ho hn hm

theorem ne_selfA (a : Int) : (a != a) = false := by simp
set_option maxRecDepth 100000 in
set_option maxHeartbeats 2000000 in
theorem heldArcS_any (n c : Nat) (A : Option Addr) (m : Int) (w : World) (hl : Hid (ALies w A (acIs m n))) (hn : n ≤ 10000000) (hm : 0 ≤ m ∧ m ≤ 1000000000) :
    Calls Try.prog 41 #[.slice A n c, .int .i64 m] w fun e w' => e = .returned (.int .i64 (m + n * 2)) ∧ w = w' := by
  go_enter Try.func41, Try.ntmps41
  go_wp2_with fail
  go_loop [1, 5] (fun kk i => ∃ j : Nat, ∃ K : Int, j ≤ n ∧ i = .int .i64 j ∧ kk = .int .i64 K ∧ m + (j : Int) * 2 = K) (fun _ i => n - (intOf i).toNat)
  case atStart => exact ⟨0, m, Nat.zero_le _, rfl, rfl, by simp⟩
  case round =>
    obtain ⟨j, K, hj, rfl, rfl, hK⟩ := hrel
    have HK := Lib.hid hK
    have hK0 : 0 ≤ K ∧ K ≤ 2000000000 := by omega
    by_cases hlt : j < n
    · obtain ⟨b, off, rfl, hb, ha⟩ := hl.out j _ (acIs_at m n j hlt)
      have hc := two_cellsA m j K hK
      simp only [pc, List.cons.injEq, and_true] at hc
      obtain ⟨q0, q1⟩ := hc
      obtain ⟨e0, e1⟩ := ha
      rw [← q0] at e0
      rw [← q1] at e1
      clear q0 q1 hK
      have n0 := ne_selfA K
      have n1 := ne_selfA (K + 1)
      go_wp2
      go_round
      case rel => exact ⟨j + 1, _, by omega, by go_num, rfl, by have := HK.out; omega⟩
      case measure => simp [intOf]; omega
    · obtain rfl : j = n := by omega
      clear hK
      go_wp2
      go_ret
      exact ⟨ret_int HK.out.symm, rfl⟩
section
variable {H : Type} {enc : TypeId × Value → H} {W : World} {base : Nat} {spare : Nat → Bool} {held : Bool}
set_option maxRecDepth 100000 in
theorem cells_larc : Try.prog.cellsOf 84 = 2 := by kernel_rfl
set_option maxRecDepth 100000 in
theorem arc_cells {fuel : Nat} {cs : List Value} {x : DataW H × List MemPlace} (h : DataW.trod enc Try.prog W base spare held fuel 84 cs = some x) : ∃ y : Int × Int, cs = pc y := by
  obtain ⟨xs, n, _, _, hlen, hxl, hf⟩ := DataW.trod_struct Try.underlying84 h
  rw [cells_larc] at hlen
  match cs, hlen, xs, hxl with
  | [c0, c1], _, [y0, y1], _ =>
    have h0 : DataW.trod enc Try.prog W base spare held n 3 (List.take (Try.prog.cellsOf 3) (List.drop 0 [c0, c1])) = some y0 := hf 0 _ rfl
    rw [cells_i1] at h0
    have h1 : DataW.trod enc Try.prog W base spare held n 3 (List.take (Try.prog.cellsOf 3) (List.drop 1 [c0, c1])) = some y1 := hf 1 _ rfl
    rw [cells_i1] at h1
    obtain ⟨a0, e0, _⟩ := DataW.trod_int Try.underlying3 h0
    obtain ⟨a1, e1, _⟩ := DataW.trod_int Try.underlying3 h1
    refine ⟨(a0, a1), ?_⟩
    simp at e0 e1
    simp [pc, e0, e1]
set_option maxRecDepth 100000 in
theorem arcs_cells {fuel : Nat} {cs : List Value} {x : DataW H × List MemPlace} (h : DataW.trod enc Try.prog W 0 (fun _ => true) true fuel 51 cs = some x) :
    ∃ a0 cap, ∃ xs : AL, cs = [.slice a0 xs.length cap] ∧ xs.length ≤ 9223372036854775807 ∧ ALies W a0 xs := by
  rcases Go.Deep.open_slice Try.underlying51 h with ⟨hcs, _⟩ | ⟨a, len, cap', m, n, D, Pl, hcs, _, hl, hm, hmm, _, hi⟩
  · subst hcs
    exact ⟨none, 0, [], rfl, by simp, fun i x hx => by simp at hx⟩
  · subst hcs
    simp only [if_true] at hmm
    subst hmm
    rw [cells_larc] at hi
    have hy : ∀ i, ∃ y : Int × Int, i < len → ∀ j, j < 2 → W.cell? ((a.add (i * 2)).add j) = (pc y)[j]? := by
      intro i
      by_cases hlt : i < len
      · obtain ⟨cs', hc, ht⟩ := hi i (by omega)
        obtain ⟨y, rfl⟩ := arc_cells ht
        obtain ⟨_, _, hat⟩ := World.cells?_some hc
        exact ⟨y, fun _ j hj => hat j hj⟩
      · exact ⟨(0, 0), fun h => absurd h hlt⟩
    obtain ⟨Y, hY⟩ := Classical.axiomOfChoice hy
    refine ⟨some a, m, (List.range len).map Y, by simp, by simp; unfold maxLen at hm; omega, fun i x hx => ?_⟩
    have hlt : i < len := by
      have := (List.getElem?_eq_some_iff.1 hx).1
      simpa using this
    have hxy : x = Y i := by
      simp [List.getElem?_map, List.getElem?_range hlt] at hx
      exact hx.symm
    subst hxy
    have h0 := hY i hlt 0 (by omega)
    obtain ⟨b, off, spot⟩ := a
    have hspot : spot = none := by
      have e := hY 0 (by omega) 0 (by omega)
      have e' : W.cell? ⟨b, off, spot⟩ = some (.int .i64 (Y 0).1) := by simpa [Addr.add, pc] using e
      exact World.cell?_spot e'
    subst hspot
    refine ⟨b, off, rfl, ?_, aat_of_cells fun j hj => ?_⟩
    · have e : W.cell? ((⟨b, off, none⟩ : Addr).add (i * 2 + 0)) = some (.int .i64 (Y i).1) := by
        rw [← Go.Deep.add_add, h0]
        rfl
      rw [add_plain] at e
      exact World.block_lt_of_cell? W _ e
    · have := hY i hlt j hj
      rw [add_plain, add_plain] at this
      exact this
set_option maxRecDepth 100000 in
/-- an argument that is a list of arcs -/
theorem arcs_of {base' : Nat} {v : Value} {dd : DataW H} {p : List MemPlace} (hv : Value.okWide Try.prog W .any base' 51 v) (h : DataW.Trod enc Try.prog W 0 (fun _ => true) true 51 v dd p) :
    ∃ a0 cap, ∃ xs : AL, v = .slice a0 xs.length cap ∧ xs.length ≤ 9223372036854775807 ∧ ALies W a0 xs := by
  obtain ⟨a0, len, cap, rfl⟩ := okWide_slice Try.underlying51 hv
  obtain ⟨fuel, hf⟩ := h
  obtain ⟨a1, cap1, l, hcs, h1, h2⟩ := arcs_cells hf
  simp [Value.cells] at hcs
  obtain ⟨rfl, rfl, rfl⟩ := hcs
  exact ⟨_, _, l, rfl, h1, h2⟩
end
end Go.Proofs.Ytbmmajdacebncaa
