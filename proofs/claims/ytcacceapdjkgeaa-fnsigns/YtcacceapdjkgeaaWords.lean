/-
  Contracts of the functions of chapter 1 that these laws go through: each returns what the plain function beside it says, and leaves the world as it was.
-/
import Derived.Test.YtcacceapdjkgeaaRows
import Derived.WalkKit
import Derived.ProofKit
import Derived.OpenShut
import Derived.Outline
import Derived.IntWalk
import Derived.Lib.Hide
namespace Go.Proofs.Ytcacceapdjkgeaa
open Go.ChangeShapes Go.WideShapes Go.ChangeAt Go.RowKit

/-- a word -/
def isW (a : Int) : Bool := decide (0 ≤ a ∧ a < 65536)
/-- the word congruent to n -/
def wd (n : Int) : Int := n % 65536
def sg (a : Int) : Int := if a < 32768 then a else a - 65536
def sgOf (a : Int) : Int := if isW a then sg a else 0
def ngOf (a : Int) : Int := if isW a then wd (-a) else 0
def exOf (a : Int) : Int := if isW a then (if a % 256 < 128 then a % 256 else a % 256 + 65280) else 0
def swOf (a : Int) : Int := if isW a then a % 256 * 256 + a / 256 else 0
def lsOf (a b : Int) : Bool := isW a && isW b && decide (sg a < sg b)

theorem isW_yes {a : Int} (h : isW a = true) : 0 ≤ a ∧ a < 65536 := by simpa [isW] using h
theorem isW_no {a : Int} (h : isW a = false) : ¬ (0 ≤ a ∧ a < 65536) := by
  intro h'; simp [isW] at h; omega

theorem wd_tmod (n : Int) : (wrap64 (n.tmod 65536 + 65536)).tmod 65536 = wd n := by
  have h := Int.tmod_def n 65536
  have hr := Int.tmod_lt_of_pos n (show (0 : Int) < 65536 by decide)
  have hl := Int.lt_tmod_of_pos n (show (0 : Int) < 65536 by decide)
  have e : wrap64 (n.tmod 65536 + 65536) = n.tmod 65536 + 65536 := by unfold wrap64; omega
  rw [e, Int.tmod_eq_emod_of_nonneg (by omega)]
  unfold wd
  omega

theorem wd_neg (n : Int) (h : n.tmod 65536 < 0) : wrap64 (n.tmod 65536 + 65536) = wd n := by
  have hd := Int.tmod_def n 65536
  have hr := Int.tmod_lt_of_pos n (show (0 : Int) < 65536 by decide)
  have hl := Int.lt_tmod_of_pos n (show (0 : Int) < 65536 by decide)
  have e : wrap64 (n.tmod 65536 + 65536) = n.tmod 65536 + 65536 := by unfold wrap64; omega
  rw [e]
  unfold wd
  omega

theorem wd_pos (n : Int) (h : 0 ≤ n.tmod 65536) : n.tmod 65536 = wd n := by
  have hd := Int.tmod_def n 65536
  have hr := Int.tmod_lt_of_pos n (show (0 : Int) < 65536 by decide)
  unfold wd
  omega

theorem ret_int {k : IntKind} {a b : Int} (h : a = b) : Ending.returned (.int k a) = .returned (.int k b) := by rw [h]
theorem ret_two {k : IntKind} {a b : Int} {c d : Bool} (h : a = b) (h' : c = d) : Ending.returned (.tuple #[.int k a, .bool c]) = .returned (.tuple #[.int k b, .bool d]) := by rw [h, h']
theorem ret_bools {a b : Bool} {c d : Bool} (h : a = b) (h' : c = d) : Ending.returned (.tuple #[.bool a, .bool c]) = .returned (.tuple #[.bool b, .bool d]) := by rw [h, h']
theorem ret_bool {a b : Bool} (h : a = b) : Ending.returned (.bool a) = .returned (.bool b) := by rw [h]

set_option maxHeartbeats 400000 in
theorem isWord_any (a : Int) (w : World) (b : Bool) (hb : isW a = b) :
    Calls Try.prog 27 #[.int .i64 a] w fun e w' => e = .returned (.bool b) ∧ w = w' := by
  subst hb
  by_cases h1 : 0 ≤ a
  · by_cases h2 : a < 65536
    all_goals
      go_enter Try.func27, Try.ntmps27
      go_wp2
      go_ret
      exact ⟨ret_bool (by simp [isW]; omega), rfl⟩
  · go_enter Try.func27, Try.ntmps27
    go_wp2
    go_ret
    exact ⟨ret_bool (by simp [isW]; omega), rfl⟩

set_option maxHeartbeats 400000 in
theorem l1In_any (a lo hi : Int) (w : World) :
    Calls Try.prog 33 #[.int .i64 a, .int .i64 lo, .int .i64 hi] w fun e w' => e = .returned (.bool (decide (lo ≤ a ∧ a ≤ hi))) ∧ w = w' := by
  by_cases h1 : lo ≤ a
  · by_cases h2 : a ≤ hi
    all_goals
      go_enter Try.func33, Try.ntmps33
      go_wp2
      go_ret
      exact ⟨ret_bool (by simp; omega), rfl⟩
  · go_enter Try.func33, Try.ntmps33
    go_wp2
    go_ret
    exact ⟨ret_bool (by simp; omega), rfl⟩

set_option maxHeartbeats 400000 in
theorem l1Word_any (a : Int) (w : World) (b : Bool) (hb : isW a = b) :
    Calls Try.prog 25 #[.int .i64 a] w fun e w' => e = .returned (.bool b) ∧ w = w' := by
  subst hb
  go_enter Try.func25, Try.ntmps25
  go_wp2_with (go_at_call 33; refine (l1In_any _ _ _ _).mono ?_; rintro e w' ⟨rfl, rfl⟩)
  go_ret
  exact ⟨ret_bool (by rw [Bool.eq_iff_iff]; simp [isW]; omega), rfl⟩

set_option maxHeartbeats 400000 in
theorem wordOf_any (n : Int) (w : World) :
    Calls Try.prog 15 #[.int .i64 n] w fun e w' => e = .returned (.int .i64 (wd n)) ∧ w = w' := by
  go_enter Try.func15, Try.ntmps15
  go_wp2
  · go_ret
    exact ⟨ret_int (wd_neg n ‹_›), rfl⟩
  · go_ret
    exact ⟨ret_int (wd_pos n ‹_›), rfl⟩

set_option maxHeartbeats 400000 in
theorem l1Wrap_any (n : Int) (w : World) :
    Calls Try.prog 29 #[.int .i64 n] w fun e w' => e = .returned (.int .i64 (wd n)) ∧ w = w' := by
  go_enter Try.func29, Try.ntmps29
  go_wp2
  go_ret
  exact ⟨ret_int (wd_tmod n), rfl⟩

set_option maxHeartbeats 400000 in
theorem specWordOf_any (n : Int) (w : World) :
    Calls Try.prog 21 #[.int .i64 n] w fun e w' => e = .returned (.int .i64 (wd n)) ∧ w = w' := by
  go_enter Try.func21, Try.ntmps21
  go_wp2_with (go_at_call 29; refine (l1Wrap_any _ _).mono ?_; rintro e w' ⟨rfl, rfl⟩)
  go_ret
  exact ⟨rfl, rfl⟩

set_option maxHeartbeats 400000 in
theorem l1Signed_any (a : Int) (w : World) (h1 : 0 ≤ a) (h2 : a < 65536) :
    Calls Try.prog 26 #[.int .i64 a] w fun e w' => e = .returned (.int .i64 (sg a)) ∧ w = w' := by
  by_cases h : a < 32768
  · go_enter Try.func26, Try.ntmps26
    go_wp2
    go_ret
    exact ⟨ret_int (by simp [sg, h]), rfl⟩
  · go_enter Try.func26, Try.ntmps26
    go_wp2
    go_ret
    exact ⟨ret_int (by unfold sg; omega), rfl⟩

set_option maxHeartbeats 400000 in
theorem signedOf_any (a : Int) (w : World) :
    Calls Try.prog 13 #[.int .i64 a] w fun e w' => e = .returned (.tuple #[.int .i64 (sgOf a), .bool (isW a)]) ∧ w = w' := by
  cases hb : isW a
  · have H := Lib.hid hb
    clear hb
    go_enter Try.func13, Try.ntmps13
    go_wp2_with (go_at_call 27; refine (isWord_any _ _ false H.out).mono ?_; rintro e w' ⟨rfl, rfl⟩)
    go_ret2
    exact ⟨ret_two (by simp [sgOf, H.out]) rfl, rfl⟩
  · obtain ⟨h1, h2⟩ := isW_yes hb
    have H := Lib.hid hb
    clear hb
    by_cases h : a < 32768
    all_goals
      go_enter Try.func13, Try.ntmps13
      go_wp2_with (go_at_call 27; refine (isWord_any _ _ true H.out).mono ?_; rintro e w' ⟨rfl, rfl⟩)
      go_ret2
      exact ⟨ret_two (by simp only [sgOf, H.out, sg]; simp; omega) rfl, rfl⟩

set_option maxHeartbeats 400000 in
theorem specSignedOf_any (a : Int) (w : World) :
    Calls Try.prog 19 #[.int .i64 a] w fun e w' => e = .returned (.tuple #[.int .i64 (sgOf a), .bool (isW a)]) ∧ w = w' := by
  cases hb : isW a
  · have H := Lib.hid hb
    clear hb
    go_enter Try.func19, Try.ntmps19
    go_wp2_with (go_at_call 25; refine (l1Word_any _ _ false H.out).mono ?_; rintro e w' ⟨rfl, rfl⟩)
    go_ret2
    exact ⟨ret_two (by simp [sgOf, H.out]) rfl, rfl⟩
  · obtain ⟨h1, h2⟩ := isW_yes hb
    have H := Lib.hid hb
    clear hb
    go_enter Try.func19, Try.ntmps19
    go_wp2_with (first | (go_at_call 25; refine (l1Word_any _ _ true H.out).mono ?_; rintro e w' ⟨rfl, rfl⟩) | (go_at_call 26; refine (l1Signed_any _ _ h1 h2).mono ?_; rintro e w' ⟨rfl, rfl⟩))
    go_ret2
    exact ⟨ret_two (by simp [sgOf, H.out]) rfl, rfl⟩

set_option maxHeartbeats 400000 in
theorem lessSigned_any (a b : Int) (w : World) :
    Calls Try.prog 11 #[.int .i64 a, .int .i64 b] w fun e w' => e = .returned (.tuple #[.bool (lsOf a b), .bool (isW a && isW b)]) ∧ w = w' := by
  cases ha : isW a <;> cases hb : isW b
  all_goals
    go_enter Try.func11, Try.ntmps11
    go_wp2_with (go_at_call 13; refine (signedOf_any _ _).mono ?_; rintro e w' ⟨rfl, rfl⟩)
    go_ret2
    exact ⟨ret_bools (by simp [lsOf, sgOf, ha, hb]) rfl, rfl⟩

set_option maxHeartbeats 400000 in
theorem specLessSigned_any (a b : Int) (w : World) :
    Calls Try.prog 12 #[.int .i64 a, .int .i64 b] w fun e w' => e = .returned (.tuple #[.bool (lsOf a b), .bool (isW a && isW b)]) ∧ w = w' := by
  cases ha : isW a <;> cases hb : isW b
  case true.true =>
    obtain ⟨a1, a2⟩ := isW_yes ha
    obtain ⟨b1, b2⟩ := isW_yes hb
    have HA := Lib.hid ha
    have HB := Lib.hid hb
    clear ha hb
    go_enter Try.func12, Try.ntmps12
    go_wp2_with (first | (go_at_call 25; refine (l1Word_any _ _ true (by first | exact HA.out | exact HB.out)).mono ?_; rintro e w' ⟨rfl, rfl⟩) | (go_at_call 26; refine (l1Signed_any _ _ (by omega) (by omega)).mono ?_; rintro e w' ⟨rfl, rfl⟩))
    go_ret2
    exact ⟨ret_bools (by simp [lsOf, HA.out, HB.out]) rfl, rfl⟩
  all_goals
    have HA := Lib.hid ha
    have HB := Lib.hid hb
    clear ha hb
    go_enter Try.func12, Try.ntmps12
    go_wp2_with (go_at_call 25; refine (l1Word_any _ _ _ (by first | exact HA.out | exact HB.out)).mono ?_; rintro e w' ⟨rfl, rfl⟩)
    go_ret2
    exact ⟨ret_bools (by simp [lsOf, HA.out, HB.out]) rfl, rfl⟩

set_option maxHeartbeats 400000 in
theorem negate_any (a : Int) (w : World) :
    Calls Try.prog 14 #[.int .i64 a] w fun e w' => e = .returned (.tuple #[.int .i64 (ngOf a), .bool (isW a)]) ∧ w = w' := by
  cases hb : isW a
  · have H := Lib.hid hb
    clear hb
    go_enter Try.func14, Try.ntmps14
    go_wp2_with (go_at_call 27; refine (isWord_any _ _ false H.out).mono ?_; rintro e w' ⟨rfl, rfl⟩)
    go_ret2
    exact ⟨ret_two (by simp [ngOf, H.out]) rfl, rfl⟩
  · obtain ⟨h1, h2⟩ := isW_yes hb
    have H := Lib.hid hb
    clear hb
    go_enter Try.func14, Try.ntmps14
    go_wp2_with (first | (go_at_call 27; refine (isWord_any _ _ true H.out).mono ?_; rintro e w' ⟨rfl, rfl⟩) | (go_at_call 15; refine (wordOf_any _ _).mono ?_; rintro e w' ⟨rfl, rfl⟩))
    go_ret2
    exact ⟨ret_two (by simp [ngOf, H.out]) rfl, rfl⟩

set_option maxHeartbeats 400000 in
theorem specNegate_any (a : Int) (w : World) :
    Calls Try.prog 20 #[.int .i64 a] w fun e w' => e = .returned (.tuple #[.int .i64 (ngOf a), .bool (isW a)]) ∧ w = w' := by
  cases hb : isW a
  · have H := Lib.hid hb
    clear hb
    go_enter Try.func20, Try.ntmps20
    go_wp2_with (go_at_call 25; refine (l1Word_any _ _ false H.out).mono ?_; rintro e w' ⟨rfl, rfl⟩)
    go_ret2
    exact ⟨ret_two (by simp [ngOf, H.out]) rfl, rfl⟩
  · obtain ⟨h1, h2⟩ := isW_yes hb
    have H := Lib.hid hb
    clear hb
    go_enter Try.func20, Try.ntmps20
    go_wp2_with (first | (go_at_call 25; refine (l1Word_any _ _ true H.out).mono ?_; rintro e w' ⟨rfl, rfl⟩) | (go_at_call 29; refine (l1Wrap_any _ _).mono ?_; rintro e w' ⟨rfl, rfl⟩))
    go_ret2
    exact ⟨ret_two (by simp [ngOf, H.out]) rfl, rfl⟩

set_option maxHeartbeats 400000 in
theorem extend_any (a : Int) (w : World) :
    Calls Try.prog 17 #[.int .i64 a] w fun e w' => e = .returned (.tuple #[.int .i64 (exOf a), .bool (isW a)]) ∧ w = w' := by
  cases hb : isW a
  · have H := Lib.hid hb
    clear hb
    go_enter Try.func17, Try.ntmps17
    go_wp2_with (go_at_call 27; refine (isWord_any _ _ false H.out).mono ?_; rintro e w' ⟨rfl, rfl⟩)
    go_ret2
    exact ⟨ret_two (by simp [exOf, H.out]) rfl, rfl⟩
  · obtain ⟨h1, h2⟩ := isW_yes hb
    have H := Lib.hid hb
    clear hb
    by_cases h : a % 256 < 128
    all_goals
      go_enter Try.func17, Try.ntmps17
      go_wp2_with (first | (go_at_call 27; refine (isWord_any _ _ true H.out).mono ?_; rintro e w' ⟨rfl, rfl⟩) | (go_at_call 15; refine (wordOf_any _ _).mono ?_; rintro e w' ⟨rfl, rfl⟩))
      go_ret2
      exact ⟨ret_two (by simp only [exOf, H.out, wd]; simp; omega) rfl, rfl⟩

set_option maxHeartbeats 400000 in
theorem specExtend_any (a : Int) (w : World) :
    Calls Try.prog 18 #[.int .i64 a] w fun e w' => e = .returned (.tuple #[.int .i64 (exOf a), .bool (isW a)]) ∧ w = w' := by
  cases hb : isW a
  · have H := Lib.hid hb
    clear hb
    go_enter Try.func18, Try.ntmps18
    go_wp2_with (go_at_call 25; refine (l1Word_any _ _ false H.out).mono ?_; rintro e w' ⟨rfl, rfl⟩)
    go_ret2
    exact ⟨ret_two (by simp [exOf, H.out]) rfl, rfl⟩
  · obtain ⟨h1, h2⟩ := isW_yes hb
    have H := Lib.hid hb
    clear hb
    by_cases h : a % 256 < 128
    all_goals
      go_enter Try.func18, Try.ntmps18
      go_wp2_with (go_at_call 25; refine (l1Word_any _ _ true H.out).mono ?_; rintro e w' ⟨rfl, rfl⟩)
      go_ret2
      exact ⟨ret_two (by simp only [exOf, H.out]; simp; omega) rfl, rfl⟩

end Go.Proofs.Ytcacceapdjkgeaa
