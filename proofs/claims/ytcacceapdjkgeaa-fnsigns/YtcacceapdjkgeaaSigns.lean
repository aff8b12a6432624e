/-
  The walk of the law FnSigns.
-/
import Derived.Test.YtcacceapdjkgeaaWords
import Derived.Test.YtcacceapdjkgeaaBytes
namespace Go.Proofs.Ytcacceapdjkgeaa
open Go.ChangeShapes Go.WideShapes Go.ChangeAt Go.RowKit

set_option maxHeartbeats 2000000 in
theorem drawExtendByte_any (a0 : Option Addr) (len cap : Nat) (w : World) (h : Hid (Bytes w a0 len)) :
    Calls Try.prog 16 #[.slice a0 len cap] w (Draws1 w RawLike) := by
  go_enter Try.func16, Try.ntmps16
  go_wp2_with fail
  refine (drawSignedOf_any a0 len cap _ h).mono ?_
  rintro e w6 ⟨n6, hin, rfl, hb⟩
  have HN := Lib.hid hin
  have B := Lib.hid hb
  clear hb hin
  go_wp2
  go_ret
  exact ⟨n6, HN.out, rfl, B.out⟩

/-- a draw answers two numbers -/
def Draws2 (w : World) (e : Ending) (w' : World) : Prop := ∃ n m : Int, RawLike n ∧ RawLike m ∧ e = .returned (.tuple #[.int .i64 n, .int .i64 m]) ∧ Below w.heap.size w w'

set_option maxHeartbeats 2000000 in
theorem drawLessSigned_any (a0 : Option Addr) (len cap : Nat) (w : World) (h : Hid (Bytes w a0 len)) :
    Calls Try.prog 10 #[.slice a0 len cap] w (Draws2 w) := by
  go_enter Try.func10, Try.ntmps10
  go_wp2_with fail
  refine (rawWord_any w.heap.size 0 _ (Cur.new h.out) (by omega)).mono ?_
  rintro e w6 ⟨n6, hin, rfl, hc6, hg6⟩
  have HN := Lib.hid hin
  have C6 := Lib.hid hc6
  have G6 := Lib.hid hg6
  clear hc6 hg6 hin
  go_wp2_with fail
  refine (rawWord_any w.heap.size (0 + 14) _ C6 (by omega)).mono ?_
  rintro e w7 ⟨n7, hin, rfl, hc7, hg7⟩
  have HM := Lib.hid hin
  have B := Lib.hid (below_new (grown_trans G6.out hg7))
  clear hc7 hg7 hin
  go_wp2
  go_ret2
  exact ⟨n6, n7, HN.out, HM.out, rfl, B.out⟩

theorem wd_sg {a : Int} (h : isW a = true) : wd (sgOf a) = a := by
  obtain ⟨h1, h2⟩ := isW_yes h
  unfold wd sgOf sg
  simp only [h, if_true]
  split <;> omega
theorem isW_ng (a : Int) : isW (ngOf a) = true := by
  unfold ngOf
  split
  · have : 0 ≤ wd (-a) ∧ wd (-a) < 65536 := by unfold wd; omega
    simp [isW, this]
  · decide
theorem sg_ng {a : Int} (h : isW a = true) (hn : sgOf a ≠ -32768) : sgOf (ngOf a) = - sgOf a := by
  have h' := isW_ng a
  obtain ⟨h1, h2⟩ := isW_yes h
  unfold sgOf at hn ⊢
  simp only [h, h', if_true] at hn ⊢
  unfold ngOf
  simp only [h, if_true]
  unfold sg wd at *
  split at hn <;> split <;> omega
theorem ls_sg {a b : Int} (ha : isW a = true) (hb : isW b = true) : lsOf a b = decide (sgOf a < sgOf b) := by simp [lsOf, sgOf, ha, hb]
theorem sg_ex {a : Int} (h : isW a = true) : isW (exOf a) = true ∧ -128 ≤ sgOf (exOf a) ∧ sgOf (exOf a) ≤ 127 ∧ exOf a % 256 = a % 256 := by
  have h' : isW (exOf a) = true := by
    unfold exOf; simp only [h, if_true]
    split
    · have : 0 ≤ a % 256 ∧ a % 256 < 65536 := by omega
      simp [isW, this]
    · have : 0 ≤ a % 256 + 65280 ∧ a % 256 + 65280 < 65536 := by omega
      simp [isW, this]
  refine ⟨h', ?_⟩
  unfold sgOf
  simp only [h', if_true]
  unfold exOf sg
  simp only [h, if_true]
  split <;> split <;> omega

set_option maxRecDepth 100000 in
set_option maxHeartbeats 4000000 in
theorem signs_walk (a0 : Option Addr) (len0 cap0 : Nat) (a1 : Option Addr) (len1 cap1 : Nat) (w : World) (h0 : Hid (Bytes w a0 len0)) (h1 : Hid (Bytes w a1 len1)) :
    Calls Try.prog 3 #[.slice a0 len0 cap0, .slice a1 len1 cap1] w fun e w' => e = .returned (.bool true) ∧ Below w.heap.size w w' := by
  go_enter Try.func3, Try.ntmps3
  go_wp2_with fail
  · go_ret
    exact ⟨rfl, Below.refl _ _⟩
  refine (drawLessSigned_any a0 len0 cap0 _ h0).mono ?_
  rintro e w1 ⟨a, b, ha, hb, rfl, hb1⟩
  have B1 := Lib.hid hb1
  have H1 : Hid (Bytes w1 a1 len1) := h1.out.below hb1
  clear hb1 ha hb
  go_wp2_with (first | (go_at_call 11; refine (lessSigned_any _ _ _).mono ?_; rintro e w' ⟨rfl, rfl⟩) | (go_at_call 12; refine (specLessSigned_any _ _ _).mono ?_; rintro e w' ⟨rfl, rfl⟩) | fail)
  · have hab : isW a = true ∧ isW b = true := by assumption
    obtain ⟨ha, hb⟩ := hab
    have e1 := ls_sg ha hb
    have e2 := wd_sg ha
    have e3 := isW_ng a
    by_cases hx : sgOf a = -32768
    · have e4 : wd (-32768) = a := by rw [← hx]; exact e2
      have e5 : sgOf (ngOf a) = -32768 := by
        have ea : a = 32768 := by rw [← e4]; decide
        rw [ea]; decide
      go_wp2_with (first | (go_at_call 13; refine (signedOf_any _ _).mono ?_; rintro e w' ⟨rfl, rfl⟩) | (go_at_call 14; refine (negate_any _ _).mono ?_; rintro e w' ⟨rfl, rfl⟩) | (go_at_call 15; refine (wordOf_any _ _).mono ?_; rintro e w' ⟨rfl, rfl⟩) | fail)
      refine (drawExtendByte_any a1 len1 cap1 _ H1).mono ?_
      rintro e w2 ⟨x, hx2, rfl, hb2⟩
      have B2 := Lib.hid (B1.out.trans (hb2.mono B1.out.size))
      clear hb2 hx2
      cases hxw : isW x
      · go_wp2_with (first | (go_at_call 17; refine (extend_any _ _).mono ?_; rintro e w' ⟨rfl, rfl⟩) | (go_at_call 18; refine (specExtend_any _ _).mono ?_; rintro e w' ⟨rfl, rfl⟩) | (go_at_call 13; refine (signedOf_any _ _).mono ?_; rintro e w' ⟨rfl, rfl⟩) | (go_at_call 19; refine (specSignedOf_any _ _).mono ?_; rintro e w' ⟨rfl, rfl⟩) | (go_at_call 14; refine (negate_any _ _).mono ?_; rintro e w' ⟨rfl, rfl⟩) | (go_at_call 20; refine (specNegate_any _ _).mono ?_; rintro e w' ⟨rfl, rfl⟩))
        go_ret
        exact ⟨rfl, B2.out⟩
      · obtain ⟨x1, x2, x3, x4⟩ := sg_ex hxw
        obtain ⟨y1, y2⟩ := isW_yes hxw
        obtain ⟨z1, z2⟩ := isW_yes x1
        go_wp2_with (first | (go_at_call 17; refine (extend_any _ _).mono ?_; rintro e w' ⟨rfl, rfl⟩) | (go_at_call 18; refine (specExtend_any _ _).mono ?_; rintro e w' ⟨rfl, rfl⟩) | (go_at_call 13; refine (signedOf_any _ _).mono ?_; rintro e w' ⟨rfl, rfl⟩) | (go_at_call 19; refine (specSignedOf_any _ _).mono ?_; rintro e w' ⟨rfl, rfl⟩) | (go_at_call 14; refine (negate_any _ _).mono ?_; rintro e w' ⟨rfl, rfl⟩) | (go_at_call 20; refine (specNegate_any _ _).mono ?_; rintro e w' ⟨rfl, rfl⟩))
        go_ret
        exact ⟨rfl, B2.out⟩
    · have e5 := sg_ng ha hx
      have hlo : -32768 ≤ sgOf a ∧ sgOf a ≤ 32767 := by
        have := isW_yes ha
        unfold sgOf sg
        simp only [ha, if_true]
        split <;> omega
      obtain ⟨lo, hi⟩ := hlo
      clear hx
      go_wp2_with (first | (go_at_call 13; refine (signedOf_any _ _).mono ?_; rintro e w' ⟨rfl, rfl⟩) | (go_at_call 14; refine (negate_any _ _).mono ?_; rintro e w' ⟨rfl, rfl⟩) | (go_at_call 15; refine (wordOf_any _ _).mono ?_; rintro e w' ⟨rfl, rfl⟩) | fail)
      refine (drawExtendByte_any a1 len1 cap1 _ H1).mono ?_
      rintro e w2 ⟨x, hx2, rfl, hb2⟩
      have B2 := Lib.hid (B1.out.trans (hb2.mono B1.out.size))
      clear hb2 hx2
      cases hxw : isW x
      · go_wp2_with (first | (go_at_call 17; refine (extend_any _ _).mono ?_; rintro e w' ⟨rfl, rfl⟩) | (go_at_call 18; refine (specExtend_any _ _).mono ?_; rintro e w' ⟨rfl, rfl⟩) | (go_at_call 13; refine (signedOf_any _ _).mono ?_; rintro e w' ⟨rfl, rfl⟩) | (go_at_call 19; refine (specSignedOf_any _ _).mono ?_; rintro e w' ⟨rfl, rfl⟩) | (go_at_call 14; refine (negate_any _ _).mono ?_; rintro e w' ⟨rfl, rfl⟩) | (go_at_call 20; refine (specNegate_any _ _).mono ?_; rintro e w' ⟨rfl, rfl⟩))
        go_ret
        exact ⟨rfl, B2.out⟩
      · obtain ⟨x1, x2, x3, x4⟩ := sg_ex hxw
        obtain ⟨y1, y2⟩ := isW_yes hxw
        obtain ⟨z1, z2⟩ := isW_yes x1
        go_wp2_with (first | (go_at_call 17; refine (extend_any _ _).mono ?_; rintro e w' ⟨rfl, rfl⟩) | (go_at_call 18; refine (specExtend_any _ _).mono ?_; rintro e w' ⟨rfl, rfl⟩) | (go_at_call 13; refine (signedOf_any _ _).mono ?_; rintro e w' ⟨rfl, rfl⟩) | (go_at_call 19; refine (specSignedOf_any _ _).mono ?_; rintro e w' ⟨rfl, rfl⟩) | (go_at_call 14; refine (negate_any _ _).mono ?_; rintro e w' ⟨rfl, rfl⟩) | (go_at_call 20; refine (specNegate_any _ _).mono ?_; rintro e w' ⟨rfl, rfl⟩))
        go_ret
        exact ⟨rfl, B2.out⟩
  · go_wp2_with fail
    refine (drawExtendByte_any a1 len1 cap1 _ H1).mono ?_
    rintro e w2 ⟨x, hx2, rfl, hb2⟩
    have B2 := Lib.hid (B1.out.trans (hb2.mono B1.out.size))
    clear hb2 hx2
    cases hxw : isW x
    · go_wp2_with (first | (go_at_call 17; refine (extend_any _ _).mono ?_; rintro e w' ⟨rfl, rfl⟩) | (go_at_call 18; refine (specExtend_any _ _).mono ?_; rintro e w' ⟨rfl, rfl⟩) | (go_at_call 13; refine (signedOf_any _ _).mono ?_; rintro e w' ⟨rfl, rfl⟩) | (go_at_call 19; refine (specSignedOf_any _ _).mono ?_; rintro e w' ⟨rfl, rfl⟩) | (go_at_call 14; refine (negate_any _ _).mono ?_; rintro e w' ⟨rfl, rfl⟩) | (go_at_call 20; refine (specNegate_any _ _).mono ?_; rintro e w' ⟨rfl, rfl⟩))
      go_ret
      exact ⟨rfl, B2.out⟩
    · obtain ⟨x1, x2, x3, x4⟩ := sg_ex hxw
      obtain ⟨y1, y2⟩ := isW_yes hxw
      obtain ⟨z1, z2⟩ := isW_yes x1
      go_wp2_with (first | (go_at_call 17; refine (extend_any _ _).mono ?_; rintro e w' ⟨rfl, rfl⟩) | (go_at_call 18; refine (specExtend_any _ _).mono ?_; rintro e w' ⟨rfl, rfl⟩) | (go_at_call 13; refine (signedOf_any _ _).mono ?_; rintro e w' ⟨rfl, rfl⟩) | (go_at_call 19; refine (specSignedOf_any _ _).mono ?_; rintro e w' ⟨rfl, rfl⟩) | (go_at_call 14; refine (negate_any _ _).mono ?_; rintro e w' ⟨rfl, rfl⟩) | (go_at_call 20; refine (specNegate_any _ _).mono ?_; rintro e w' ⟨rfl, rfl⟩))
      go_ret
      exact ⟨rfl, B2.out⟩
end Go.Proofs.Ytcacceapdjkgeaa
