/-
  Helpers of the laws over diagrams: comparisons, models; drawn arguments.
-/
import Derived.Test.YthhmacocijcjiaaDrawDg
namespace Go.Proofs.Ythhmacocijcjiaa
open Go.ChangeShapes Go.WideShapes Go.ChangeAt Go.RowKit Go.Maps

set_option maxRecDepth 100000 in
set_option maxHeartbeats 2000000 in
theorem modelD_any (v N : Nat) (w : World) (hv : v ≤ 60) (hN : N < 9223372036854775808) :
    Calls Try.prog 21 #[.int .i64 v, .int .i64 N] w fun e w' => e = .returned (.slice (some ⟨w.heap.size, 0, none⟩) v v) ∧ Blk w' w.heap.size 4 ((modelN v N).map Value.bool) ∧ Below w.heap.size w w' := by
  obtain ⟨i0, hi0, hz0, hz1, hz2⟩ := info_parts info_bool
  go_enter Try.func21, Try.ntmps21
  go_wp2_with (at_make; (refine wpList_make_full _ rfl _ _ 23 rfl w.heap.size 4 i0 _ 1 Try.underlying23 hi0 hz0 hz1 _ _ _ _ v rfl rfl (by omega) (by omega) (by rw [hz2]; omega) (by unfold maxLen; omega) (Nat.le_refl _) ?_; intro w1 hown1 hg1; have HC := Lib.hid (VCopied.start (vs := (modelN v N).map Value.bool) (by simp [modelN_len]) hown1); have HB := Lib.hid ((Below.refl w.heap.size w).grown hg1 (Nat.le_refl _) (by simp)); clear hown1 hg1))
  go_loopw [11] (fun i wr => ∃ k : Nat, k ≤ v ∧ i = .int .i64 k ∧ VCopied 4 w.heap.size ((modelN v N).map Value.bool) k wr ∧ Below w.heap.size w wr) (fun i _ => v - (intOf i).toNat)
  case atStart => exact ⟨0, Nat.zero_le _, rfl, HC.out, HB.out⟩
  case round =>
    obtain ⟨k, hk, rfl, hc, hb⟩ := hrel
    have C1 := Lib.hid hc
    have B1 := Lib.hid hb
    clear hc hb HC HB
    by_cases hlt : k < v
    · have HXK : Hid (((modelN v N).map Value.bool)[k]? = some (.bool (N.testBit k))) := Lib.hid (by simp [modelN, hlt])
      obtain ⟨v0, t0⟩ := C1.out.there k (by simp [modelN_len]; omega)
      have f0 := C1.out.free k
      have hbt := bit_test N k hN
      go_wp2
      go_roundw
      case rel => exact ⟨k + 1, by omega, by go_num, C1.out.step HXK.out, B1.out.setCell (Nat.le_refl _) _⟩
      case measure => simp [intOf]; omega
    · obtain rfl : k = v := by omega
      go_wp2
      go_ret
      exact ⟨rfl, (by have h := C1.out; rw [show k = ((modelN k N).map Value.bool).length by simp [modelN_len]] at h; rw [List.length_map, modelN_len] at h; have h2 := VCopied.end_ (by rw [List.length_map, modelN_len]; exact h); exact h2), B1.out⟩


set_option maxRecDepth 100000 in
set_option maxHeartbeats 2000000 in
theorem sameBoolsD (A B : Option Addr) (n c1 c2 : Nat) (l : List Bool) (w : World) (hl : Hid (BLies w A l)) (hl2 : Hid (BLies w B l)) (hx : Hid (l.length = n)) (hn : n ≤ 10000000) :
    Calls Try.prog 24 #[.slice A n c1, .slice B n c2] w fun e w' => e = .returned (.bool true) ∧ Below w.heap.size w w' := by
  have hnn : ((n : Int) != (n : Int)) = false := by simp
  go_enter Try.func24, Try.ntmps24
  go_wp2_with fail
  go_loopw [13] (fun i wr => ∃ k : Nat, k ≤ n ∧ i = .int .i64 k ∧ Below w.heap.size w wr) (fun i _ => n - (intOf i).toNat)
  case atStart => exact ⟨0, Nat.zero_le _, rfl, Below.refl _ _⟩
  case round =>
    obtain ⟨k, hk, rfl, hb⟩ := hrel
    have B1 := Lib.hid hb
    clear hb
    by_cases hlt : k < n
    · obtain ⟨y, hy⟩ : ∃ y, l[k]? = some y := ⟨_, List.getElem?_eq_getElem (by have := hx.out; omega)⟩
      obtain ⟨b, off, rfl, hbl, hc⟩ := (hl.out.below B1.out) k y hy
      obtain ⟨b2, off2, rfl, hbl2, hc2⟩ := (hl2.out.below B1.out) k y hy
      clear hy
      have hyy : (y != y) = false := by simp
      go_wp2_with fail
      go_quiet (fail)
      go_wp2
      go_roundw
      case rel => exact ⟨k + 1, by omega, by go_num, bdrewN B1.out _⟩
      case measure => simp [intOf]; omega
    · obtain rfl : k = n := by omega
      go_wp2
      go_ret
      exact ⟨rfl, B1.out⟩
/-- two diagrams are alike -/
def dgEq (a : Int) (xs : List Nd) (r b : Int) (ys : List Nd) (s : Int) : Bool := decide (a = b) && decide (r = s) && decide (xs = ys)
theorem dgEq_same (a : Int) (xs : List Nd) (r : Int) : dgEq a xs r a xs r = true := by simp [dgEq]
set_option maxRecDepth 100000 in
set_option maxHeartbeats 8000000 in
theorem sameDg_any (a r b s : Int) (A B : Option Addr) (n m c1 c2 : Nat) (xs ys : List Nd) (w : World) (hl : Hid (NLies w A xs)) (hl2 : Hid (NLies w B ys)) (hx : Hid (xs.length = n)) (hy : Hid (ys.length = m)) (hn : n ≤ 1000) (hm : m ≤ 1000) :
    Calls Try.prog 17 #[.agg #[.int .i64 a, .slice A n c1, .int .i64 r], .agg #[.int .i64 b, .slice B m c2, .int .i64 s]] w fun e w' => e = .returned (.bool (dgEq a xs r b ys s)) ∧ Below w.heap.size w w' := by
  by_cases h1 : a = b
  rotate_left
  · have hne : (a != b) = true := by simp [h1]
    have E : Hid (dgEq a xs r b ys s = false) := Lib.hid (by simp [dgEq, h1])
    go_enter Try.func17, Try.ntmps17
    go_wp2
    go_ret
    exact ⟨ret_bool E.out.symm, below2 _ _ _⟩
  subst h1
  have hne1 : (a != a) = false := by simp
  by_cases h2 : r = s
  rotate_left
  · have hne : (r != s) = true := by simp [h2]
    have E : Hid (dgEq a xs r a ys s = false) := Lib.hid (by simp [dgEq, h2])
    go_enter Try.func17, Try.ntmps17
    go_wp2
    go_ret
    exact ⟨ret_bool E.out.symm, below2 _ _ _⟩
  subst h2
  have hne2 : (r != r) = false := by simp
  by_cases h3 : n = m
  rotate_left
  · have hne : ((n : Int) != (m : Int)) = true := by simp; omega
    have E : Hid (dgEq a xs r a ys r = false) := Lib.hid (by
      have : xs ≠ ys := fun e => h3 (by rw [← hx.out, ← hy.out, e])
      simp [dgEq, this])
    go_enter Try.func17, Try.ntmps17
    go_wp2
    go_ret
    exact ⟨ret_bool E.out.symm, below2 _ _ _⟩
  subst h3
  have hne3 : ((n : Int) != (n : Int)) = false := by simp
  have E : Hid (dgEq a xs r a ys r = decide (xs = ys)) := Lib.hid (by simp [dgEq])
  go_enter Try.func17, Try.ntmps17
  go_wp2_with fail
  go_loopw [30] (fun i wr => ∃ k : Nat, k ≤ n ∧ i = .int .i64 k ∧ xs.take k = ys.take k ∧ Below w.heap.size w wr ∧ Blk wr w.heap.size 28 [.int .i64 a, .slice A n c1, .int .i64 r] ∧ Blk wr (w.heap.size + 1) 28 [.int .i64 a, .slice B n c2, .int .i64 r]) (fun i _ => n - (intOf i).toNat)
  case atStart => exact ⟨0, Nat.zero_le _, rfl, by simp, below2 _ _ _, Blk.below (heap_alloc_new w _) (below1 _ _), blk_second w _ [.int .i64 a, .slice B n c2, .int .i64 r]⟩
  case round =>
    obtain ⟨k, hk, rfl, ht, hb, hb1, hb2⟩ := hrel
    have B1 := Lib.hid hb
    have T1 := Lib.hid ht
    have X1 := Lib.hid hb1
    have X2 := Lib.hid hb2
    obtain ⟨t0, t1, t2, _, _, _, htl⟩ := blk_cells hb1
    obtain ⟨u0, u1, u2, _, _, _, hul⟩ := blk_cells hb2
    clear hb ht hb1 hb2
    by_cases hlt : k < n
    · obtain ⟨x, hxk⟩ : ∃ x, xs[k]? = some x := ⟨_, List.getElem?_eq_getElem (by have := hx.out; omega)⟩
      obtain ⟨y, hyk⟩ : ∃ y, ys[k]? = some y := ⟨_, List.getElem?_eq_getElem (by have := hy.out; omega)⟩
      obtain ⟨b, off, rfl, hbl, ha⟩ := (hl.out.below B1.out) k x hxk
      obtain ⟨b2, off2, rfl, hbl2, ha2⟩ := (hl2.out.below B1.out) k y hyk
      have HXK := Lib.hid hxk
      have HYK := Lib.hid hyk
      clear hxk hyk
      obtain ⟨e0, e1, e2⟩ := ha
      obtain ⟨g0, g1, g2⟩ := ha2
      have hq := neq_nd x y
      cases hxy : decide (x = y)
      · have hE : Hid (decide (xs = ys) = false) := Lib.hid (by
          rw [decide_eq_false_iff_not]
          rintro rfl
          have := HXK.out.symm.trans HYK.out
          injection this with this
          simp [this] at hxy)
        simp only [hxy, Bool.not_false] at hq
        go_wp2_with fail
        go_quiet (fail)
        go_wp2
        go_ret
        exact ⟨ret_bool (by rw [E.out, hE.out]), bdrewN B1.out _⟩
      · simp only [hxy, Bool.not_true] at hq
        have e : x = y := of_decide_eq_true hxy
        have T2 : Hid (xs.take (k + 1) = ys.take (k + 1)) := Lib.hid (by rw [List.take_add_one, List.take_add_one, T1.out, HXK.out, HYK.out, e])
        go_wp2_with fail
        go_quiet (fail)
        go_wp2
        go_roundw
        case rel => exact ⟨k + 1, by omega, by go_num, T2.out, bdrewN B1.out _, X1.out.below (bdrewN (Below.refl _ _) _), X2.out.below (bdrewN (Below.refl _ _) _)⟩
        case measure => simp [intOf]; omega
    · obtain rfl : k = n := by omega
      have hE : Hid (decide (xs = ys) = true) := Lib.hid (by
        have h := T1.out
        rw [List.take_of_length_le (by rw [hx.out]; exact Nat.le_refl _), List.take_of_length_le (by rw [hy.out]; exact Nat.le_refl _)] at h
        simp [h])
      go_wp2
      go_ret
      exact ⟨ret_bool (by rw [E.out, hE.out]), B1.out⟩
theorem below_of_cur {w w1 w2 : World} {o : Obj} (hw1 : w1 = w.alloc o) (hg : w1.grownBy w2 (some w.heap.size)) : Below w.heap.size w w2 := by
  subst hw1
  exact ⟨hg.os, hg.tape, hg.output, Nat.le_trans (by simp) hg.size, fun i hi => (hg.block i (by simp; omega) (fun e => by have := Option.some.inj e; omega)).trans ((below1 w o).block i hi)⟩
set_option maxRecDepth 100000 in
set_option maxHeartbeats 8000000 in
theorem drawDiag_any (a0 : Option Addr) (len cap : Nat) (w : World) (h0 : Hid (Bytes w a0 len)) :
    Calls Try.prog 14 #[.slice a0 len cap] w fun e w' => ∃ (p : Nat) (T : List Bool) (A : Option Addr) (cc : Nat), e = .returned (.tuple #[.int .i64 p, .slice A T.length cc]) ∧ p ≤ 6 ∧ T.length ≤ 65 ∧ BLies w' A T ∧ Below w.heap.size w w' := by
  obtain ⟨i0, hi0, hz0, hz1, hz2⟩ := info_parts info_bool
  have C0 := Lib.hid (Cur.new (cap := cap) h0.out)
  obtain ⟨w0, hw0⟩ : ∃ W, W = w.alloc (.cells #[.slice a0 len cap, .int .i64 0, .int .u64 0] 80) := ⟨_, rfl⟩
  rw [← hw0] at C0
  have HW0 := Lib.hid hw0
  have HSZ : Hid (w0.heap.size = w.heap.size + 1) := Lib.hid (by rw [hw0]; simp)
  clear hw0
  go_enter Try.func14, Try.ntmps14
  go_wp2_with fail
  rw [← HW0.out]
  refine (pick_any w.heap.size 0 6 _ C0 (by omega) (by omega) (by omega)).mono ?_
  rintro e w1 ⟨n1, ⟨l1, u1⟩, rfl, hc1, hg1⟩
  have C1 := Lib.hid hc1
  have G1 := Lib.hid hg1
  clear hc1 hg1
  go_wp2_with fail
  refine (one_any w.heap.size _ 20 _ C1 (by omega) (by omega) (by omega)).mono ?_
  rintro e w2 ⟨b, rfl, hc2, hg2⟩
  have C2 := Lib.hid hc2
  have G2 := Lib.hid (grownC_trans G1.out hg2)
  clear hc2 hg2
  obtain ⟨p0, hp0⟩ : ∃ p0 : Nat, n1 = p0 := ⟨n1.toNat, by omega⟩
  subst hp0
  cases b
  ·  go_wp2_with fail
     refine (table_any w.heap.size _ p0 (2 ^ p0) _ C2 (Lib.hid rfl) (by omega) (by omega)).mono ?_
     rintro e w3 ⟨T, A, cc, rfl, hT, ho3, hc3, hg3⟩
     have hT64 : T.length ≤ 64 := by rw [hT]; exact pow_le6 (by omega)
     obtain ⟨z, hz⟩ : ∃ z, T.length = z := ⟨_, rfl⟩
     rw [← hT, hz] at ho3 ⊢
     rw [hz] at hT64
     have HZ := Lib.hid hz
     have C3 := Lib.hid hc3
     have hs3 := hg3.size
     have G3 := Lib.hid (grownC_trans G2.out hg3)
     have O3 := Lib.hid ho3
     have hcw : w.heap.size < w2.heap.size := C2.out.lt
     clear ho3 hc3 hg3 hT hz
     go_wp2_with fail
     refine (one_any w.heap.size _ 20 _ C3 (by omega) (by omega) (by omega)).mono ?_
     rintro e w4 ⟨b2, rfl, hc4, hg4⟩
     have hs4 := hg4.size
     have B4 := Lib.hid (below_of_cur HW0.out (grownC_trans G3.out hg4))
     have O4 := Lib.hid (own_grown O3.out hg4 hcw)
     clear hc4 hg4
     cases b2
     · go_wp2
       go_ret2
       exact ⟨p0, T, A, cc, by rw [HZ.out]; rfl, by omega, by rw [HZ.out]; omega, own_blies O4.out, B4.out⟩
     · go_wp2_with (at_builtin; (refine wpList_append_lies _ rfl _ _ 23 rfl w2.heap.size 4 i0 (.bool false) 1 1 Try.underlying23 hi0 hz0 hz1 hz2 rfl (by omega) _ z _ rfl (O4.out.alloc _) ⟨w4.heap.size, 0, none⟩ 1 1 [.bool true] rfl rfl (one_new1 w4 _ _) (by intro u hu; rw [List.mem_singleton.1 hu]; rfl) (by omega) (by unfold maxLen; omega) (by omega) (by first | omega | (simp; omega)) (w4.heap.size + 1) (by first | rfl | simp) ?_; intro g5 cap5 w5 hown5 hg5 hat5 hlt5; have H5 : Hid (BLies w5 (some ⟨g5, 0, none⟩) (T ++ [true])) := Lib.hid (own_blies (by rw [List.map_append]; exact hown5)); have B5 := Lib.hid ((Below.tr B4.out (below1 w4 _)).grown hg5 (by have := B4.out.size; simp; omega) (fun g e => by have := (O4.out.lt g e).1; omega)); clear hown5 hg5 hat5 hlt5))
       go_ret2
       exact ⟨p0, T ++ [true], _, cap5, by rw [List.length_append, HZ.out]; rfl, by omega, by rw [List.length_append, HZ.out]; simp; omega, H5.out, B5.out⟩
  ·  go_wp2_with fail
     refine (table_any w.heap.size _ 6 (2 ^ 6) _ C2 (Lib.hid rfl) (by omega) (by omega)).mono ?_
     rintro e w3 ⟨T, A, cc, rfl, hT, ho3, hc3, hg3⟩
     have hT64 : T.length ≤ 64 := by rw [hT]; exact pow_le6 (by omega)
     obtain ⟨z, hz⟩ : ∃ z, T.length = z := ⟨_, rfl⟩
     rw [← hT, hz] at ho3 ⊢
     rw [hz] at hT64
     have HZ := Lib.hid hz
     have C3 := Lib.hid hc3
     have hs3 := hg3.size
     have G3 := Lib.hid (grownC_trans G2.out hg3)
     have O3 := Lib.hid ho3
     have hcw : w.heap.size < w2.heap.size := C2.out.lt
     clear ho3 hc3 hg3 hT hz
     go_wp2_with fail
     refine (one_any w.heap.size _ 20 _ C3 (by omega) (by omega) (by omega)).mono ?_
     rintro e w4 ⟨b2, rfl, hc4, hg4⟩
     have hs4 := hg4.size
     have B4 := Lib.hid (below_of_cur HW0.out (grownC_trans G3.out hg4))
     have O4 := Lib.hid (own_grown O3.out hg4 hcw)
     clear hc4 hg4
     cases b2
     · go_wp2
       go_ret2
       exact ⟨6, T, A, cc, by rw [HZ.out]; rfl, by omega, by rw [HZ.out]; omega, own_blies O4.out, B4.out⟩
     · go_wp2_with (at_builtin; (refine wpList_append_lies _ rfl _ _ 23 rfl w2.heap.size 4 i0 (.bool false) 1 1 Try.underlying23 hi0 hz0 hz1 hz2 rfl (by omega) _ z _ rfl (O4.out.alloc _) ⟨w4.heap.size, 0, none⟩ 1 1 [.bool true] rfl rfl (one_new1 w4 _ _) (by intro u hu; rw [List.mem_singleton.1 hu]; rfl) (by omega) (by unfold maxLen; omega) (by omega) (by first | omega | (simp; omega)) (w4.heap.size + 1) (by first | rfl | simp) ?_; intro g5 cap5 w5 hown5 hg5 hat5 hlt5; have H5 : Hid (BLies w5 (some ⟨g5, 0, none⟩) (T ++ [true])) := Lib.hid (own_blies (by rw [List.map_append]; exact hown5)); have B5 := Lib.hid ((Below.tr B4.out (below1 w4 _)).grown hg5 (by have := B4.out.size; simp; omega) (fun g e => by have := (O4.out.lt g e).1; omega)); clear hown5 hg5 hat5 hlt5))
       go_ret2
       exact ⟨6, T ++ [true], _, cap5, by rw [List.length_append, HZ.out]; rfl, by omega, by rw [List.length_append, HZ.out]; simp; omega, H5.out, B5.out⟩
/-- a drawn diagram, read -/
def GDr (w : World) (e : Ending) (w' : World) : Prop :=
  ∃ (a r : Int) (A : Option Addr) (cc : Nat) (xs : List Nd), e = .returned (.agg #[.int .i64 a, .slice A xs.length cc, .int .i64 r]) ∧ xs.length ≤ 100 ∧ w'.ownsRow w.heap.size 59 3 (.slice A xs.length cc) xs.length (ncells xs) ∧ Below w.heap.size w w'
theorem nlies_kept {w w' : World} {A : Option Addr} {xs : List Nd} {S : Nat → Prop} (h : NLies w A xs) (hk : Kept w w' S) (hn : ∀ b off, A = some ⟨b, off, none⟩ → ¬ S b) : NLies w' A xs := by
  intro i x hx
  obtain ⟨b, off, hA, hlt, h0, h1, h2⟩ := h i x hx
  have hb := hk.block b hlt (hn b off hA)
  have hc : ∀ o, w'.cell? ⟨b, o, none⟩ = w.cell? ⟨b, o, none⟩ := fun o => by unfold World.cell?; simp only; rw [hb]
  exact ⟨b, off, hA, Nat.lt_of_lt_of_le hlt hk.size, (hc _).trans h0, (hc _).trans h1, (hc _).trans h2⟩
set_option maxRecDepth 100000 in
set_option maxHeartbeats 8000000 in
theorem drawGood_any (a0 : Option Addr) (len cap : Nat) (w : World) (h0 : Hid (Bytes w a0 len)) :
    Calls Try.prog 72 #[.slice a0 len cap] w (GDr w) := by
  obtain ⟨w0, hw0⟩ : ∃ W, W = w.alloc (.cells #[.int .i64 0, .slice none 0 0, .int .i64 0] 28) := ⟨_, rfl⟩
  obtain ⟨w1, hw1⟩ : ∃ W, W = w0.alloc (.cells #[.slice a0 len cap, .int .i64 0, .int .u64 0] 80) := ⟨_, rfl⟩
  have hs0 : w0.heap.size = w.heap.size + 1 := by rw [hw0]; simp
  have hb0 : Below w.heap.size w w0 := by rw [hw0]; exact below1 _ _
  have C0 : Hid (Cur w1 (w.heap.size + 1) 0) := Lib.hid (by rw [hw1, ← hs0]; exact Cur.new (h0.out.below hb0))
  have R1 : Hid (Blk w1 w.heap.size 28 [.int .i64 0, .slice none 0 0, .int .i64 0]) := Lib.hid (by rw [hw1]; exact Blk.below (by rw [hw0]; exact heap_alloc_new w _) (below1 _ _))
  have HE : Hid (w1 = (w.alloc (.cells #[.int .i64 0, .slice none 0 0, .int .i64 0] 28)).alloc (.cells #[.slice a0 len cap, .int .i64 0, .int .u64 0] 80)) := Lib.hid (by rw [hw1, hw0])
  have B1 : Hid (Below w.heap.size w w1) := Lib.hid (by rw [HE.out]; exact below2 _ _ _)
  have S1 : Hid (w1.heap.size = w.heap.size + 2) := Lib.hid (by rw [hw1]; simp [hs0])
  clear hw0 hw1 hs0 hb0
  go_enter Try.func72, Try.ntmps72
  go_wp2_with fail
  rw [← HE.out]
  refine (pick_any (w.heap.size + 1) 0 5 _ C0 (by omega) (by omega) (by omega)).mono ?_
  rintro e w2 ⟨n1, ⟨l1, u1⟩, rfl, hc2, hg2⟩
  have C2 := Lib.hid hc2
  have R2 := Lib.hid (blk_grown R1.out hg2 (by omega))
  have B2 : Hid (Below w.heap.size w w2) := Lib.hid ((Kept.of_grown (S := fun i => i = w.heap.size + 1) hg2 (fun g e => (Option.some.inj e).symm)).below B1.out B1.out.size (fun i e => by omega))
  obtain ⟨p0, hp0⟩ : ∃ p0 : Nat, n1 = p0 := ⟨n1.toNat, by omega⟩
  subst hp0
  have hs2 := C2.out.lt
  clear hc2 hg2
  go_wp2_with fail
  refine (diagram_any (w.heap.size + 1) _ p0 (2 ^ p0) _ C2 (Lib.hid rfl) (by omega) (by omega)).mono ?_
  rintro e w3 ⟨a, r, A, cc, xs, rfl, hx, _, _, ho3, hc3, hg3⟩
  have hRB := blk_grown R2.out hg3 (by omega)
  have B3 := Lib.hid ((Kept.of_grown (S := fun i => i = w.heap.size + 1) hg3 (fun g e => (Option.some.inj e).symm)).below B2.out B2.out.size (fun i e => by omega))
  have O3 := Lib.hid ho3
  obtain ⟨q0, q1, q2, y0, y1, y2, hRl⟩ := blk_cells hRB
  have HRB := Lib.hid hRB
  obtain ⟨z, hz⟩ : ∃ z, xs.length = z := ⟨_, rfl⟩
  have HZ := Lib.hid hz
  rw [hz] at O3 hx ⊢
  clear ho3 hc3 hg3 hRB hz
  go_wp2
  have hfin := dg_store HRB.out (.int .i64 a) (.slice A z cc) (.int .i64 r)
  have hOO := hfin.1.own3 O3.out (fun g e h => by have := (O3.out.lt g e).1; omega)
  have hBB := hfin.1.below B3.out B3.out.size (fun i e => by omega)
  obtain ⟨W', hW'⟩ : ∃ W', W' = (((w3.setCell ⟨w.heap.size, 0, none⟩ (.int .i64 a)).setCell ⟨w.heap.size, 1, none⟩ (.slice A z cc)).setCell ⟨w.heap.size, 2, none⟩ (.int .i64 r)) := ⟨_, rfl⟩
  rw [← hW'] at hfin hOO hBB ⊢
  obtain ⟨_, r0, r1, r2⟩ := hfin
  exact bodyPost_ret (v := .agg #[.int .i64 a, .slice A z cc, .int .i64 r]) (by simp [results, Try.results72, go_sem, r0, r1, r2]) rfl ⟨a, r, A, cc, xs, by rw [HZ.out], by rw [HZ.out]; exact hx, by rw [HZ.out]; exact own_baseN hOO (by omega), hBB⟩
set_option maxRecDepth 100000 in
set_option maxHeartbeats 8000000 in
theorem drawOnes_any (a0 : Option Addr) (len cap : Nat) (w : World) (h0 : Hid (Bytes w a0 len)) :
    Calls Try.prog 27 #[.slice a0 len cap] w (GDr w) := by
  have H1 : Hid (Bytes (w.alloc (.cells #[.int .i64 0, .slice none 0 0, .int .i64 0] 28)) a0 len) := Lib.hid (h0.out.below (below1 _ _))
  have R1 : Hid (Blk (w.alloc (.cells #[.int .i64 0, .slice none 0 0, .int .i64 0] 28)) w.heap.size 28 [.int .i64 0, .slice none 0 0, .int .i64 0]) := Lib.hid (heap_alloc_new w _)
  go_enter Try.func27, Try.ntmps27
  go_wp2_with fail
  refine (drawGood_any a0 len cap _ H1).mono ?_
  rintro e w3 ⟨a, r, A, cc, xs, rfl, hx, ho3, hb3⟩
  have hRB := R1.out.below hb3
  have B3 := Lib.hid (Below.tr (below1 w _) hb3)
  have hsz : (w.alloc (.cells #[.int .i64 0, .slice none 0 0, .int .i64 0] 28)).heap.size = w.heap.size + 1 := by simp
  rw [hsz] at ho3
  have O3 := Lib.hid ho3
  obtain ⟨q0, q1, q2, y0, y1, y2, hRl⟩ := blk_cells hRB
  have HRB := Lib.hid hRB
  obtain ⟨z, hz⟩ : ∃ z, xs.length = z := ⟨_, rfl⟩
  have HZ := Lib.hid hz
  rw [hz] at O3 hx ⊢
  clear ho3 hb3 hRB hz hsz
  go_wp2
  have hfin := dg_store HRB.out (.int .i64 a) (.slice A z cc) (.int .i64 r)
  have hOO := hfin.1.own3 O3.out (fun g e h => by have := (O3.out.lt g e).1; omega)
  have hBB := hfin.1.below B3.out B3.out.size (fun i e => by omega)
  obtain ⟨W', hW'⟩ : ∃ W', W' = (((w3.setCell ⟨w.heap.size, 0, none⟩ (.int .i64 a)).setCell ⟨w.heap.size, 1, none⟩ (.slice A z cc)).setCell ⟨w.heap.size, 2, none⟩ (.int .i64 r)) := ⟨_, rfl⟩
  rw [← hW'] at hfin hOO hBB ⊢
  obtain ⟨_, r0, r1, r2⟩ := hfin
  exact bodyPost_ret (v := .agg #[.int .i64 a, .slice A z cc, .int .i64 r]) (by simp [results, Try.results27, go_sem, r0, r1, r2]) rfl ⟨a, r, A, cc, xs, by rw [HZ.out], by rw [HZ.out]; exact hx, by rw [HZ.out]; exact own_baseN hOO (by omega), hBB⟩
theorem nxB {w wa wb : World} (hB : Below w.heap.size w wa) (hg : wa.grownBy wb (some (w.heap.size + 1))) : Below w.heap.size w wb :=
  (Kept.of_grown (S := fun i => i = w.heap.size + 1) hg (fun g e => (Option.some.inj e).symm)).below hB hB.size (fun i e => by omega)
set_option maxRecDepth 100000 in
set_option maxHeartbeats 16000000 in
theorem drawEval_any (a0 : Option Addr) (len cap : Nat) (w : World) (h0 : Hid (Bytes w a0 len)) :
    Calls Try.prog 25 #[.slice a0 len cap] w fun e w' => ∃ (a r : Int) (A B : Option Addr) (cc c2 : Nat) (xs : List Nd) (M : List Bool), e = .returned (.tuple #[.agg #[.int .i64 a, .slice A xs.length cc, .int .i64 r], .slice B M.length c2]) ∧ xs.length ≤ 100 ∧ M.length ≤ 60 ∧ NLies w' A xs ∧ BLies w' B M ∧ Below w.heap.size w w' := by
  obtain ⟨w0, hw0⟩ : ∃ W, W = w.alloc (.cells #[.int .i64 0, .slice none 0 0, .int .i64 0] 28) := ⟨_, rfl⟩
  obtain ⟨w1, hw1⟩ : ∃ W, W = w0.alloc (.cells #[.slice a0 len cap, .int .i64 0, .int .u64 0] 80) := ⟨_, rfl⟩
  have hs0 : w0.heap.size = w.heap.size + 1 := by rw [hw0]; simp
  have hb0 : Below w.heap.size w w0 := by rw [hw0]; exact below1 _ _
  have C0 : Hid (Cur w1 (w.heap.size + 1) 0) := Lib.hid (by rw [hw1, ← hs0]; exact Cur.new (h0.out.below hb0))
  have R1 : Hid (Blk w1 w.heap.size 28 [.int .i64 0, .slice none 0 0, .int .i64 0]) := Lib.hid (by rw [hw1]; exact Blk.below (by rw [hw0]; exact heap_alloc_new w _) (below1 _ _))
  have HE : Hid (w1 = (w.alloc (.cells #[.int .i64 0, .slice none 0 0, .int .i64 0] 28)).alloc (.cells #[.slice a0 len cap, .int .i64 0, .int .u64 0] 80)) := Lib.hid (by rw [hw1, hw0])
  have B1 : Hid (Below w.heap.size w w1) := Lib.hid (by rw [HE.out]; exact below2 _ _ _)
  clear hw0 hw1 hs0 hb0
  go_enter Try.func25, Try.ntmps25
  go_wp2_with fail
  rw [← HE.out]
  refine (pick_any (w.heap.size + 1) 0 5 _ C0 (by omega) (by omega) (by omega)).mono ?_
  rintro e w2 ⟨n1, ⟨l1, u1⟩, rfl, hc2, hg2⟩
  have C2 := Lib.hid hc2
  have R2 := Lib.hid (blk_grown R1.out hg2 (by omega))
  have B2 := Lib.hid (nxB B1.out hg2)
  obtain ⟨p0, hp0⟩ : ∃ p0 : Nat, n1 = p0 := ⟨n1.toNat, by omega⟩
  subst hp0
  have hs2 := C2.out.lt
  clear hc2 hg2
  go_wp2_with fail
  refine (diagram_any (w.heap.size + 1) _ p0 (2 ^ p0) _ C2 (Lib.hid rfl) (by omega) (by omega)).mono ?_
  rintro e w3 ⟨a, r, A, cc, xs, rfl, hx, _, _, ho3, hc3, hg3⟩
  have R3 := Lib.hid (blk_grown R2.out hg3 (by omega))
  have B3 := Lib.hid (nxB B2.out hg3)
  have O3 := Lib.hid ho3
  have C3 := Lib.hid hc3
  obtain ⟨z, hz⟩ : ∃ z, xs.length = z := ⟨_, rfl⟩
  have HZ := Lib.hid hz
  rw [hz] at O3 hx ⊢
  clear ho3 hc3 hg3 hz
  go_wp2_with fail
  refine (pick_any (w.heap.size + 1) _ 20 _ C3 (by omega) (by omega) (by omega)).mono ?_
  rintro e w4 ⟨n2, ⟨l2, u2⟩, rfl, hc4, hg4⟩
  have R4 := Lib.hid (blk_grown R3.out hg4 (by omega))
  have B4 := Lib.hid (nxB B3.out hg4)
  have O4 := Lib.hid (own_grown O3.out hg4 (by omega))
  have C4 := Lib.hid hc4
  clear hc4 hg4
  obtain ⟨k2, hk2⟩ : ∃ k2 : Nat, n2.tdiv 19 = k2 ∧ k2 ≤ 1 := ⟨(n2 / 19).toNat, by rw [Int.tdiv_eq_ediv_of_nonneg (by omega)]; omega, by omega⟩
  obtain ⟨htd, hk21⟩ := hk2
  go_wp2_with fail
  refine (pick_any (w.heap.size + 1) _ 64 _ C4 (by omega) (by omega) (by omega)).mono ?_
  rintro e w5 ⟨n3, ⟨l3, u3⟩, rfl, hc5, hg5⟩
  have R5 := Lib.hid (blk_grown R4.out hg5 (by omega))
  have B5 := Lib.hid (nxB B4.out hg5)
  have O5 := Lib.hid (own_grown O4.out hg5 (by omega))
  obtain ⟨p3, hp3⟩ : ∃ p3 : Nat, n3 = p3 := ⟨n3.toNat, by omega⟩
  subst hp3
  clear hc5 hg5
  go_wp2_with fail
  have hc := l4Model_any (p0 + k2) p3 w5 (by omega) (by omega)
  rw [show (((p0 + k2 : Nat)) : Int) = (p0 : Int) + (k2 : Int) by push_cast; rfl] at hc
  refine hc.mono ?_
  rintro e w6 ⟨rfl, hk6, hb6⟩
  have M6 := Lib.hid hk6
  have hRB := R5.out.below hb6
  have B6 := Lib.hid (Below.tr B5.out hb6)
  have O6 := Lib.hid (own_below O5.out hb6)
  have hw5 := R5.out.lt
  obtain ⟨q0, q1, q2, y0, y1, y2, hRl⟩ := blk_cells hRB
  have HRB := Lib.hid hRB
  clear hk6 hb6 hRB hc
  go_wp2
  have hfin := dg_store HRB.out (.int .i64 a) (.slice A z cc) (.int .i64 r)
  have hOO := hfin.1.own3 O6.out (fun g e h => by have := (O6.out.lt g e).1; omega)
  have hMM := hfin.1.blk M6.out (by omega)
  have hBB := hfin.1.below B6.out B6.out.size (fun i e => by omega)
  obtain ⟨W', hW'⟩ : ∃ W', W' = (((w6.setCell ⟨w.heap.size, 0, none⟩ (.int .i64 a)).setCell ⟨w.heap.size, 1, none⟩ (.slice A z cc)).setCell ⟨w.heap.size, 2, none⟩ (.int .i64 r)) := ⟨_, rfl⟩
  rw [← hW'] at hfin hOO hMM hBB ⊢
  obtain ⟨_, r0, r1, r2⟩ := hfin
  exact bodyPost_ret (v := .tuple #[.agg #[.int .i64 a, .slice A z cc, .int .i64 r], .slice (some ⟨w5.heap.size, 0, none⟩) (p0 + k2) (p0 + k2)]) (by simp [results, Try.results25, go_sem, r0, r1, r2]) rfl ⟨a, r, A, _, cc, _, xs, modelN (p0 + k2) p3, by rw [HZ.out, modelN_len], by rw [HZ.out]; exact hx, by rw [modelN_len]; omega, own_nlies HZ.out hOO, hMM.blies, hBB⟩
end Go.Proofs.Ythhmacocijcjiaa
