/-
  The walk of the law FnWords.
-/
import Derived.Test.YtcacceapdjkgeaaDoorWordsMath
import Derived.Test.YtcacceapdjkgeaaDoorBytes
namespace Go.Proofs.YtcacceapdjkgeaaDoor
open Go.ChangeShapes Go.WideShapes Go.ChangeAt Go.RowKit

set_option maxHeartbeats 400000 in
theorem specWordOf_any (n : Int) (w : World) :
    Calls Tryd.prog 16 #[.int .i64 n] w fun e w' => e = .returned (.int .i64 (wd n)) ∧ w = w' := by
  go_enter Tryd.func16, Tryd.ntmps16
  go_wp2_with (go_at_call 29; refine (l1Wrap_any _ _).mono ?_; rintro e w' ⟨rfl, rfl⟩)
  go_ret
  exact ⟨rfl, rfl⟩

set_option maxHeartbeats 400000 in
theorem swap_any (a : Int) (w : World) :
    Calls Tryd.prog 11 #[.int .i64 a] w fun e w' => e = .returned (.tuple #[.int .i64 (swOf a), .bool (isW a)]) ∧ w = w' := by
  cases hb : isW a
  · have H := Lib.hid hb
    clear hb
    go_enter Tryd.func11, Tryd.ntmps11
    go_wp2_with (go_at_call 19; refine (isWord_any _ _ false H.out).mono ?_; rintro e w' ⟨rfl, rfl⟩)
    go_ret2
    exact ⟨ret_two (by simp [swOf, H.out]) rfl, rfl⟩
  · obtain ⟨h1, h2⟩ := isW_yes hb
    have H := Lib.hid hb
    clear hb
    go_enter Tryd.func11, Tryd.ntmps11
    go_wp2_with (go_at_call 19; refine (isWord_any _ _ true H.out).mono ?_; rintro e w' ⟨rfl, rfl⟩)
    go_ret2
    exact ⟨ret_two (by simp [swOf, H.out]) rfl, rfl⟩

set_option maxHeartbeats 400000 in
theorem specSwap_any (a : Int) (w : World) :
    Calls Tryd.prog 12 #[.int .i64 a] w fun e w' => e = .returned (.tuple #[.int .i64 (swOf a), .bool (isW a)]) ∧ w = w' := by
  cases hb : isW a
  · have H := Lib.hid hb
    clear hb
    go_enter Tryd.func12, Tryd.ntmps12
    go_wp2_with (go_at_call 24; refine (l1Word_any _ _ false H.out).mono ?_; rintro e w' ⟨rfl, rfl⟩)
    go_ret2
    exact ⟨ret_two (by simp [swOf, H.out]) rfl, rfl⟩
  · obtain ⟨h1, h2⟩ := isW_yes hb
    have H := Lib.hid hb
    clear hb
    go_enter Tryd.func12, Tryd.ntmps12
    go_wp2_with (go_at_call 24; refine (l1Word_any _ _ true H.out).mono ?_; rintro e w' ⟨rfl, rfl⟩)
    go_ret2
    exact ⟨ret_two (by simp [swOf, H.out]) rfl, rfl⟩

set_option maxHeartbeats 2000000 in
theorem drawSwapBytes_any (a0 : Option Addr) (len cap : Nat) (w : World) (h : Hid (Bytes w a0 len)) :
    Calls Tryd.prog 10 #[.slice a0 len cap] w (Draws1 w RawLike) := by
  go_enter Tryd.func10, Tryd.ntmps10
  go_wp2_with fail
  refine (drawSignedOf_any a0 len cap _ h).mono ?_
  rintro e w6 ⟨n6, hin, rfl, hb⟩
  have HN := Lib.hid hin
  have B := Lib.hid hb
  clear hb hin
  go_wp2
  go_ret
  exact ⟨n6, HN.out, rfl, B.out⟩

set_option maxHeartbeats 2000000 in
theorem drawWordOf_any (a0 : Option Addr) (len cap : Nat) (w : World) (h : Hid (Bytes w a0 len)) :
    Calls Tryd.prog 14 #[.slice a0 len cap] w (Draws1 w fun _ => True) := by
  go_enter Tryd.func14, Tryd.ntmps14
  go_wp2_with fail
  refine (word_any w.heap.size 0 _ (Cur.new h.out) (by omega)).mono ?_
  rintro e w6 ⟨n6, hin, rfl, hc6, hg6⟩
  have C6 := Lib.hid hc6
  have G6 := Lib.hid hg6
  clear hc6 hg6 hin
  go_wp2_with fail
  have hsz := C6.out.lt
  refine (among_any w.heap.size (0 + 12) w6.heap.size 9 [-65537, -65536, -1, 0, 65535, 65536, 1099511627776, -1099511627776, n6] _ (C6.out.alloc _) (by omega) (by omega) (by omega) (by omega)
    ⟨rfl, fun i hi => cells_new w6 [-65537, -65536, -1, 0, 65535, 65536, 1099511627776, -1099511627776, n6] 3 i hi⟩).mono ?_
  rintro e w7 ⟨n7, hin, rfl, hc7, hg7⟩
  have B := Lib.hid (below_new (grown_trans G6.out (grown_trans (World.grownBy_alloc w6 _ _) hg7)))
  clear hc7 hg7 hin
  go_wp2
  go_ret
  exact ⟨n7, trivial, rfl, B.out⟩

/-- a draw answers three numbers -/
def Draws3 (w : World) (e : Ending) (w' : World) : Prop := ∃ k n m : Int, e = .returned (.tuple #[.int .i64 k, .int .i64 n, .int .i64 m]) ∧ Below w.heap.size w w'

set_option maxHeartbeats 2000000 in
theorem drawDoOp_any (a0 : Option Addr) (len cap : Nat) (w : World) (h : Hid (Bytes w a0 len)) :
    Calls Tryd.prog 6 #[.slice a0 len cap] w (Draws3 w) := by
  go_enter Tryd.func6, Tryd.ntmps6
  go_wp2_with fail
  refine (pick_any w.heap.size 0 _ _ (Cur.new h.out) (by omega) (by omega) (by omega)).mono ?_
  rintro e w1 ⟨n1, ⟨a1, b1⟩, rfl, hc1, hg1⟩
  have C1 := Lib.hid hc1
  have G1 := Lib.hid hg1
  clear hc1 hg1
  go_wp2_with fail
  refine (pick_any w.heap.size (0 + 2) _ _ C1 (by omega) (by omega) (by omega)).mono ?_
  rintro e w2 ⟨n2, ⟨a2, b2⟩, rfl, hc2, hg2⟩
  have C2 := Lib.hid hc2
  have G2 := Lib.hid (grown_trans G1.out hg2)
  clear hc2 hg2
  go_wp2_with fail
  refine (rawWord_any w.heap.size (0 + 2 + 2) _ C2 (by omega)).mono ?_
  rintro e w3 ⟨n3, hin3, rfl, hc3, hg3⟩
  have C3 := Lib.hid hc3
  have G3 := Lib.hid (grown_trans G2.out hg3)
  clear hc3 hg3 hin3
  go_wp2_with fail
  refine (rawWord_any w.heap.size (0 + 2 + 2 + 14) _ C3 (by omega)).mono ?_
  rintro e w4 ⟨n4, hin4, rfl, hc4, hg4⟩
  have B := Lib.hid (below_new (grown_trans G3.out hg4))
  clear hc4 hg4 hin4
  go_wp2
  go_ret3
  exact ⟨_, n3, n4, rfl, B.out⟩
theorem NibTab.below {w w' : World} (h : NibTab w) (hb : Below w.heap.size w w') : NibTab w' := fun i hi =>
  (hb.cell (p := ⟨0, i, none⟩) (World.block_lt_of_cell? w _ (h i hi))).trans (h i hi)
theorem PowTab.below {w w' : World} (h : PowTab w) (hb : Below w.heap.size w w') : PowTab w' := fun i hi =>
  (hb.cell (p := ⟨1, i, none⟩) (World.block_lt_of_cell? w _ (h i hi))).trans (h i hi)

set_option maxRecDepth 100000 in
set_option maxHeartbeats 4000000 in
theorem words_walk (a0 : Option Addr) (len0 cap0 : Nat) (a1 : Option Addr) (len1 cap1 : Nat) (w : World) (h0 : Hid (Bytes w a0 len0)) (h1 : Hid (Bytes w a1 len1)) (hN : Hid (NibTab w)) (hP : Hid (PowTab w)) :
    Calls Tryd.prog 3 #[.slice a0 len0 cap0, .slice a1 len1 cap1] w fun e w' => e = .returned (.bool true) ∧ Below w.heap.size w w' := by
  go_enter Tryd.func3, Tryd.ntmps3
  go_wp2_with fail
  · go_ret
    exact ⟨rfl, Below.refl _ _⟩
  refine (drawDoOp_any a0 len0 cap0 _ h0).mono ?_
  rintro e w1 ⟨op, a, b, rfl, hb1⟩
  have B1 := Lib.hid hb1
  have H1 : Hid (Bytes w1 a1 len1) := h1.out.below hb1
  have N1 : Hid (NibTab w1) := hN.out.below hb1
  have P1 : Hid (PowTab w1) := hP.out.below hb1
  clear hb1
  have o1 : isOp 1 = true := by decide
  have o2 : isOp 2 = true := by decide
  have o3 : isOp 3 = true := by decide
  have o4 : isOp 4 = true := by decide
  have o5 : isOp 5 = true := by decide
  have o6 : isOp 6 = true := by decide
  have o7 : isOp 7 = true := by decide
  have o8 : isOp 8 = true := by decide
  cases hok : (isOp op && isW a && isW b)
  · go_wp2_with (first | (go_at_call 7; refine (doOp_any _ _ _ _ P1).mono ?_; rintro e w' ⟨rfl, rfl⟩) | (go_at_call 8; refine (specDoOp_any _ _ _ _).mono ?_; rintro e w' ⟨rfl, rfl⟩) | (go_at_call 9; refine (count_any _ _ N1).mono ?_; rintro e w' ⟨rfl, rfl⟩) | fail)
    refine (drawSwapBytes_any a1 len1 cap1 _ H1).mono ?_
    rintro e w2 ⟨x, hx2, rfl, hb2⟩
    have B2 := Lib.hid (B1.out.trans (hb2.mono B1.out.size))
    have H2 : Hid (Bytes w2 a1 len1) := H1.out.below hb2
    have N2 : Hid (NibTab w2) := N1.out.below hb2
    clear hb2 hx2
    cases hxw : isW x
    · go_wp2_with (first | (go_at_call 11; refine (swap_any _ _).mono ?_; rintro e w' ⟨rfl, rfl⟩) | (go_at_call 12; refine (specSwap_any _ _).mono ?_; rintro e w' ⟨rfl, rfl⟩) | (go_at_call 9; refine (count_any _ _ N2).mono ?_; rintro e w' ⟨rfl, rfl⟩) | (go_at_call 13; refine (specCount_any _ _).mono ?_; rintro e w' ⟨rfl, rfl⟩) | fail)
      refine (drawWordOf_any a1 len1 cap1 _ H2).mono ?_
      rintro e w3 ⟨y, hy3, rfl, hb3⟩
      have B3 := Lib.hid (B2.out.trans (hb3.mono B2.out.size))
      clear hb3 hy3
      go_wp2_with (first | (go_at_call 15; refine (wordOf_any _ _).mono ?_; rintro e w' ⟨rfl, rfl⟩) | (go_at_call 16; refine (specWordOf_any _ _).mono ?_; rintro e w' ⟨rfl, rfl⟩))
      go_ret
      exact ⟨rfl, B3.out⟩
    · obtain ⟨x1, x2⟩ := sw_twice hxw
      go_wp2_with (first | (go_at_call 11; refine (swap_any _ _).mono ?_; rintro e w' ⟨rfl, rfl⟩) | (go_at_call 12; refine (specSwap_any _ _).mono ?_; rintro e w' ⟨rfl, rfl⟩) | (go_at_call 9; refine (count_any _ _ N2).mono ?_; rintro e w' ⟨rfl, rfl⟩) | (go_at_call 13; refine (specCount_any _ _).mono ?_; rintro e w' ⟨rfl, rfl⟩) | fail)
      refine (drawWordOf_any a1 len1 cap1 _ H2).mono ?_
      rintro e w3 ⟨y, hy3, rfl, hb3⟩
      have B3 := Lib.hid (B2.out.trans (hb3.mono B2.out.size))
      clear hb3 hy3
      go_wp2_with (first | (go_at_call 15; refine (wordOf_any _ _).mono ?_; rintro e w' ⟨rfl, rfl⟩) | (go_at_call 16; refine (specWordOf_any _ _).mono ?_; rintro e w' ⟨rfl, rfl⟩))
      go_ret
      exact ⟨rfl, B3.out⟩
  · have ha : isW a = true := by revert hok; cases isW a <;> simp
    have hb : isW b = true := by revert hok; cases isW b <;> simp
    have ho : isOp op = true := by revert hok; cases isOp op <;> simp
    have e1 := sub_add ha hb
    have e2 := xor_xor ha hb
    obtain ⟨e3, e4, e5, e6, e7⟩ := mul_quo ha hb
    have e8 := and_or_sum ha hb
    have e9 := and_or_count ha hb
    have s1 := isW_add ha hb
    have s2 := isW_quo ha hb
    have s3 := isW_and ha hb
    have s4 := isW_or ha hb
    have s5 := isW_xor ha hb
    obtain ⟨u1, u2⟩ := isW_yes s3
    obtain ⟨v1, v2⟩ := isW_yes s4
    obtain ⟨a1', a2'⟩ := isW_yes ha
    obtain ⟨b1', b2'⟩ := isW_yes hb
    obtain ⟨c1, c2⟩ := cb_le a
    obtain ⟨d1, d2⟩ := cb_le b
    obtain ⟨f1, f2⟩ := cb_le (opOf 6 a b)
    obtain ⟨g1, g2⟩ := cb_le (opOf 7 a b)
    go_wp2_with (first | (go_at_call 7; refine (doOp_any _ _ _ _ P1).mono ?_; rintro e w' ⟨rfl, rfl⟩) | (go_at_call 8; refine (specDoOp_any _ _ _ _).mono ?_; rintro e w' ⟨rfl, rfl⟩) | (go_at_call 9; refine (count_any _ _ N1).mono ?_; rintro e w' ⟨rfl, rfl⟩) | fail)
    refine (drawSwapBytes_any a1 len1 cap1 _ H1).mono ?_
    rintro e w2 ⟨x, hx2, rfl, hb2⟩
    have B2 := Lib.hid (B1.out.trans (hb2.mono B1.out.size))
    have H2 : Hid (Bytes w2 a1 len1) := H1.out.below hb2
    have N2 : Hid (NibTab w2) := N1.out.below hb2
    clear hb2 hx2
    cases hxw : isW x
    · go_wp2_with (first | (go_at_call 11; refine (swap_any _ _).mono ?_; rintro e w' ⟨rfl, rfl⟩) | (go_at_call 12; refine (specSwap_any _ _).mono ?_; rintro e w' ⟨rfl, rfl⟩) | (go_at_call 9; refine (count_any _ _ N2).mono ?_; rintro e w' ⟨rfl, rfl⟩) | (go_at_call 13; refine (specCount_any _ _).mono ?_; rintro e w' ⟨rfl, rfl⟩) | fail)
      refine (drawWordOf_any a1 len1 cap1 _ H2).mono ?_
      rintro e w3 ⟨y, hy3, rfl, hb3⟩
      have B3 := Lib.hid (B2.out.trans (hb3.mono B2.out.size))
      clear hb3 hy3
      go_wp2_with (first | (go_at_call 15; refine (wordOf_any _ _).mono ?_; rintro e w' ⟨rfl, rfl⟩) | (go_at_call 16; refine (specWordOf_any _ _).mono ?_; rintro e w' ⟨rfl, rfl⟩))
      go_ret
      exact ⟨rfl, B3.out⟩
    · obtain ⟨x1, x2⟩ := sw_twice hxw
      go_wp2_with (first | (go_at_call 11; refine (swap_any _ _).mono ?_; rintro e w' ⟨rfl, rfl⟩) | (go_at_call 12; refine (specSwap_any _ _).mono ?_; rintro e w' ⟨rfl, rfl⟩) | (go_at_call 9; refine (count_any _ _ N2).mono ?_; rintro e w' ⟨rfl, rfl⟩) | (go_at_call 13; refine (specCount_any _ _).mono ?_; rintro e w' ⟨rfl, rfl⟩) | fail)
      refine (drawWordOf_any a1 len1 cap1 _ H2).mono ?_
      rintro e w3 ⟨y, hy3, rfl, hb3⟩
      have B3 := Lib.hid (B2.out.trans (hb3.mono B2.out.size))
      clear hb3 hy3
      go_wp2_with (first | (go_at_call 15; refine (wordOf_any _ _).mono ?_; rintro e w' ⟨rfl, rfl⟩) | (go_at_call 16; refine (specWordOf_any _ _).mono ?_; rintro e w' ⟨rfl, rfl⟩))
      go_ret
      exact ⟨rfl, B3.out⟩
end Go.Proofs.YtcacceapdjkgeaaDoor
