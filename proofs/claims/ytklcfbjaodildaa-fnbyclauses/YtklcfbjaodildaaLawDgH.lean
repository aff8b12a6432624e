/-
  Helpers of the laws over diagrams: comparisons, models; drawn arguments.
-/
import Derived.Test.YtklcfbjaodildaaDrawDg
namespace Go.Proofs.Ytklcfbjaodildaa
open Go.ChangeShapes Go.WideShapes Go.ChangeAt Go.RowKit Go.Maps

set_option maxRecDepth 100000 in
set_option maxHeartbeats 2000000 in
theorem modelD_any (v N : Nat) (w : World) (hv : v ≤ 60) (hN : N < 9223372036854775808) :
    Calls Try.prog 38 #[.int .i64 v, .int .i64 N] w fun e w' => e = .returned (.slice (some ⟨w.heap.size, 0, none⟩) v v) ∧ Blk w' w.heap.size 4 ((modelN v N).map Value.bool) ∧ Below w.heap.size w w' := by
  obtain ⟨i0, hi0, hz0, hz1, hz2⟩ := info_parts info_bool
  go_enter Try.func38, Try.ntmps38
  go_wp2_with (at_make; (refine wpList_make_full _ rfl _ _ 49 rfl w.heap.size 4 i0 _ 1 Try.underlying49 hi0 hz0 hz1 _ _ _ _ v rfl rfl (by omega) (by omega) (by rw [hz2]; omega) (by unfold maxLen; omega) (Nat.le_refl _) ?_; intro w1 hown1 hg1; have HC := Lib.hid (VCopied.start (vs := (modelN v N).map Value.bool) (by simp [modelN_len]) hown1); have HB := Lib.hid ((Below.refl w.heap.size w).grown hg1 (Nat.le_refl _) (by simp)); clear hown1 hg1))
  go_loopw [11] (fun i wr => ∃ k : Nat, k ≤ v ∧ i = .int .i64 k ∧ VCopied 4 w.heap.size ((modelN v N).map Value.bool) k wr ∧ Below w.heap.size w wr) (fun i _ => v - (intOf i).toNat)
  case atStart => exact ⟨0, Nat.zero_le _, rfl, HC.out, HB.out⟩
  case round =>
    obtain ⟨k, hk, rfl, hc, hb⟩ := hrel
    have C1 := Lib.hid hc
    have B1 := Lib.hid hb
    clear hc hb HC HB
    by_cases hlt : k < v
    · have HXK : Hid (((modelN v N).map Value.bool)[k]? = some (.bool (N.testBit k))) := Lib.hid (by simp [modelN, hlt])
      obtain ⟨v0, t0⟩ := C1.out.there k (by simp [modelN_len]; omega)
      have f0 := C1.out.free k
      have hbt := bit_test N k hN
      go_wp2
      go_roundw
      case rel => exact ⟨k + 1, by omega, by go_num, C1.out.step HXK.out, B1.out.setCell (Nat.le_refl _) _⟩
      case measure => simp [intOf]; omega
    · obtain rfl : k = v := by omega
      go_wp2
      go_ret
      exact ⟨rfl, (by have h := C1.out; rw [show k = ((modelN k N).map Value.bool).length by simp [modelN_len]] at h; rw [List.length_map, modelN_len] at h; have h2 := VCopied.end_ (by rw [List.length_map, modelN_len]; exact h); exact h2), B1.out⟩


set_option maxRecDepth 100000 in
set_option maxHeartbeats 2000000 in
theorem sameBoolsD (A B : Option Addr) (n c1 c2 : Nat) (l : List Bool) (w : World) (hl : Hid (BLies w A l)) (hl2 : Hid (BLies w B l)) (hx : Hid (l.length = n)) (hn : n ≤ 10000000) :
    Calls Try.prog 34 #[.slice A n c1, .slice B n c2] w fun e w' => e = .returned (.bool true) ∧ Below w.heap.size w w' := by
  have hnn : ((n : Int) != (n : Int)) = false := by simp
  go_enter Try.func34, Try.ntmps34
  go_wp2_with fail
  go_loopw [13] (fun i wr => ∃ k : Nat, k ≤ n ∧ i = .int .i64 k ∧ Below w.heap.size w wr) (fun i _ => n - (intOf i).toNat)
  case atStart => exact ⟨0, Nat.zero_le _, rfl, Below.refl _ _⟩
  case round =>
    obtain ⟨k, hk, rfl, hb⟩ := hrel
    have B1 := Lib.hid hb
    clear hb
    by_cases hlt : k < n
    · obtain ⟨y, hy⟩ : ∃ y, l[k]? = some y := ⟨_, List.getElem?_eq_getElem (by have := hx.out; omega)⟩
      obtain ⟨b, off, rfl, hbl, hc⟩ := (hl.out.below B1.out) k y hy
      obtain ⟨b2, off2, rfl, hbl2, hc2⟩ := (hl2.out.below B1.out) k y hy
      clear hy
      have hyy : (y != y) = false := by simp
      go_wp2_with fail
      go_quiet (fail)
      go_wp2
      go_roundw
      case rel => exact ⟨k + 1, by omega, by go_num, bdrewN B1.out _⟩
      case measure => simp [intOf]; omega
    · obtain rfl : k = n := by omega
      go_wp2
      go_ret
      exact ⟨rfl, B1.out⟩
/-- two diagrams are alike -/
def dgEq (a : Int) (xs : List Nd) (r b : Int) (ys : List Nd) (s : Int) : Bool := decide (a = b) && decide (r = s) && decide (xs = ys)
theorem dgEq_same (a : Int) (xs : List Nd) (r : Int) : dgEq a xs r a xs r = true := by simp [dgEq]
set_option maxRecDepth 100000 in
set_option maxHeartbeats 8000000 in
theorem sameDg_any (a r b s : Int) (A B : Option Addr) (n m c1 c2 : Nat) (xs ys : List Nd) (w : World) (hl : Hid (NLies w A xs)) (hl2 : Hid (NLies w B ys)) (hx : Hid (xs.length = n)) (hy : Hid (ys.length = m)) (hn : n ≤ 1000) (hm : m ≤ 1000) :
    Calls Try.prog 18 #[.agg #[.int .i64 a, .slice A n c1, .int .i64 r], .agg #[.int .i64 b, .slice B m c2, .int .i64 s]] w fun e w' => e = .returned (.bool (dgEq a xs r b ys s)) ∧ Below w.heap.size w w' := by
  by_cases h1 : a = b
  rotate_left
  · have hne : (a != b) = true := by simp [h1]
    have E : Hid (dgEq a xs r b ys s = false) := Lib.hid (by simp [dgEq, h1])
    go_enter Try.func18, Try.ntmps18
    go_wp2
    go_ret
    exact ⟨ret_bool E.out.symm, below2 _ _ _⟩
  subst h1
  have hne1 : (a != a) = false := by simp
  by_cases h2 : r = s
  rotate_left
  · have hne : (r != s) = true := by simp [h2]
    have E : Hid (dgEq a xs r a ys s = false) := Lib.hid (by simp [dgEq, h2])
    go_enter Try.func18, Try.ntmps18
    go_wp2
    go_ret
    exact ⟨ret_bool E.out.symm, below2 _ _ _⟩
  subst h2
  have hne2 : (r != r) = false := by simp
  by_cases h3 : n = m
  rotate_left
  · have hne : ((n : Int) != (m : Int)) = true := by simp; omega
    have E : Hid (dgEq a xs r a ys r = false) := Lib.hid (by
      have : xs ≠ ys := fun e => h3 (by rw [← hx.out, ← hy.out, e])
      simp [dgEq, this])
    go_enter Try.func18, Try.ntmps18
    go_wp2
    go_ret
    exact ⟨ret_bool E.out.symm, below2 _ _ _⟩
  subst h3
  have hne3 : ((n : Int) != (n : Int)) = false := by simp
  have E : Hid (dgEq a xs r a ys r = decide (xs = ys)) := Lib.hid (by simp [dgEq])
  go_enter Try.func18, Try.ntmps18
  go_wp2_with fail
  go_loopw [30] (fun i wr => ∃ k : Nat, k ≤ n ∧ i = .int .i64 k ∧ xs.take k = ys.take k ∧ Below w.heap.size w wr ∧ Blk wr w.heap.size 28 [.int .i64 a, .slice A n c1, .int .i64 r] ∧ Blk wr (w.heap.size + 1) 28 [.int .i64 a, .slice B n c2, .int .i64 r]) (fun i _ => n - (intOf i).toNat)
  case atStart => exact ⟨0, Nat.zero_le _, rfl, by simp, below2 _ _ _, Blk.below (heap_alloc_new w _) (below1 _ _), blk_second w _ [.int .i64 a, .slice B n c2, .int .i64 r]⟩
  case round =>
    obtain ⟨k, hk, rfl, ht, hb, hb1, hb2⟩ := hrel
    have B1 := Lib.hid hb
    have T1 := Lib.hid ht
    have X1 := Lib.hid hb1
    have X2 := Lib.hid hb2
    obtain ⟨t0, t1, t2, _, _, _, htl⟩ := blk_cells hb1
    obtain ⟨u0, u1, u2, _, _, _, hul⟩ := blk_cells hb2
    clear hb ht hb1 hb2
    by_cases hlt : k < n
    · obtain ⟨x, hxk⟩ : ∃ x, xs[k]? = some x := ⟨_, List.getElem?_eq_getElem (by have := hx.out; omega)⟩
      obtain ⟨y, hyk⟩ : ∃ y, ys[k]? = some y := ⟨_, List.getElem?_eq_getElem (by have := hy.out; omega)⟩
      obtain ⟨b, off, rfl, hbl, ha⟩ := (hl.out.below B1.out) k x hxk
      obtain ⟨b2, off2, rfl, hbl2, ha2⟩ := (hl2.out.below B1.out) k y hyk
      have HXK := Lib.hid hxk
      have HYK := Lib.hid hyk
      clear hxk hyk
      obtain ⟨e0, e1, e2⟩ := ha
      obtain ⟨g0, g1, g2⟩ := ha2
      have hq := neq_nd x y
      cases hxy : decide (x = y)
      · have hE : Hid (decide (xs = ys) = false) := Lib.hid (by
          rw [decide_eq_false_iff_not]
          rintro rfl
          have := HXK.out.symm.trans HYK.out
          injection this with this
          simp [this] at hxy)
        simp only [hxy, Bool.not_false] at hq
        go_wp2_with fail
        go_quiet (fail)
        go_wp2
        go_ret
        exact ⟨ret_bool (by rw [E.out, hE.out]), bdrewN B1.out _⟩
      · simp only [hxy, Bool.not_true] at hq
        have e : x = y := of_decide_eq_true hxy
        have T2 : Hid (xs.take (k + 1) = ys.take (k + 1)) := Lib.hid (by rw [List.take_add_one, List.take_add_one, T1.out, HXK.out, HYK.out, e])
        go_wp2_with fail
        go_quiet (fail)
        go_wp2
        go_roundw
        case rel => exact ⟨k + 1, by omega, by go_num, T2.out, bdrewN B1.out _, X1.out.below (bdrewN (Below.refl _ _) _), X2.out.below (bdrewN (Below.refl _ _) _)⟩
        case measure => simp [intOf]; omega
    · obtain rfl : k = n := by omega
      have hE : Hid (decide (xs = ys) = true) := Lib.hid (by
        have h := T1.out
        rw [List.take_of_length_le (by rw [hx.out]; exact Nat.le_refl _), List.take_of_length_le (by rw [hy.out]; exact Nat.le_refl _)] at h
        simp [h])
      go_wp2
      go_ret
      exact ⟨ret_bool (by rw [E.out, hE.out]), B1.out⟩
theorem below_of_cur {w w1 w2 : World} {o : Obj} (hw1 : w1 = w.alloc o) (hg : w1.grownBy w2 (some w.heap.size)) : Below w.heap.size w w2 := by
  subst hw1
  exact ⟨hg.os, hg.tape, hg.output, Nat.le_trans (by simp) hg.size, fun i hi => (hg.block i (by simp; omega) (fun e => by have := Option.some.inj e; omega)).trans ((below1 w o).block i hi)⟩
/-- a drawn diagram, read -/
def GDr (w : World) (e : Ending) (w' : World) : Prop :=
  ∃ (a r : Int) (A : Option Addr) (cc : Nat) (xs : List Nd), e = .returned (.agg #[.int .i64 a, .slice A xs.length cc, .int .i64 r]) ∧ xs.length ≤ 100 ∧ w'.ownsRow w.heap.size 43 3 (.slice A xs.length cc) xs.length (ncells xs) ∧ Below w.heap.size w w'
theorem nlies_kept {w w' : World} {A : Option Addr} {xs : List Nd} {S : Nat → Prop} (h : NLies w A xs) (hk : Kept w w' S) (hn : ∀ b off, A = some ⟨b, off, none⟩ → ¬ S b) : NLies w' A xs := by
  intro i x hx
  obtain ⟨b, off, hA, hlt, h0, h1, h2⟩ := h i x hx
  have hb := hk.block b hlt (hn b off hA)
  have hc : ∀ o, w'.cell? ⟨b, o, none⟩ = w.cell? ⟨b, o, none⟩ := fun o => by unfold World.cell?; simp only; rw [hb]
  exact ⟨b, off, hA, Nat.lt_of_lt_of_le hlt hk.size, (hc _).trans h0, (hc _).trans h1, (hc _).trans h2⟩
theorem nxB {w wa wb : World} (hB : Below w.heap.size w wa) (hg : wa.grownBy wb (some (w.heap.size + 1))) : Below w.heap.size w wb :=
  (Kept.of_grown (S := fun i => i = w.heap.size + 1) hg (fun g e => (Option.some.inj e).symm)).below hB hB.size (fun i e => by omega)
end Go.Proofs.Ytklcfbjaodildaa
