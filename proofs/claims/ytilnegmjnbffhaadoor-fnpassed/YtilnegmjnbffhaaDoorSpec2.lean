/-
  Contract of the model's test whether a step is valid.
-/
import Derived.Test.YtilnegmjnbffhaaDoorSpec1
namespace Go.Proofs.YtilnegmjnbffhaaDoor
open Go.ChangeShapes Go.WideShapes Go.ChangeAt Go.RowKit

theorem okS1 (o d s i t : Int) : (inB 0 5 d && (inB 0 5 s && (inB 1 10 o && (i == 0 && t == 0)))) = okB 1 o d s i t := by
  rw [Bool.eq_iff_iff]
  simp [okB, okP, inB]
  try omega
set_option maxRecDepth 100000 in
set_option maxHeartbeats 1000000 in
theorem l2Step1 (o d s i t : Int) (w : World) :
    Calls Tryd.prog 43 #[.agg #[.int .i64 1, .int .i64 o, .int .i64 d, .int .i64 s, .int .i64 i, .int .i64 t]] w fun e w' => e = .returned (.bool (okB 1 o d s i t)) ∧ Below w.heap.size w w' := by
  rw [← okS1]
  cases h0 : inB 0 5 d
  · go_enter Tryd.func43, Tryd.ntmps43
    go_wp2_with (first | (go_at_call 44; refine (l1In_any _ _ _ _).mono ?_; rintro e w' ⟨rfl, rfl⟩) | (go_at_call 61; refine (l2Reg_any _ _).mono ?_; rintro e w' ⟨rfl, rfl⟩) | (go_at_call 62; refine (l2Zero_tttff _ _ _ _ _ _ _).mono ?_; rintro e w2 ⟨rfl, hb2⟩))
    go_ret
    exact ⟨ret_bool (by simp), below1 _ _⟩
  · cases h1 : inB 0 5 s
    · go_enter Tryd.func43, Tryd.ntmps43
      go_wp2_with (first | (go_at_call 44; refine (l1In_any _ _ _ _).mono ?_; rintro e w' ⟨rfl, rfl⟩) | (go_at_call 61; refine (l2Reg_any _ _).mono ?_; rintro e w' ⟨rfl, rfl⟩) | (go_at_call 62; refine (l2Zero_tttff _ _ _ _ _ _ _).mono ?_; rintro e w2 ⟨rfl, hb2⟩))
      go_ret
      exact ⟨ret_bool (by simp), below1 _ _⟩
    · cases h2 : inB 1 10 o
      · go_enter Tryd.func43, Tryd.ntmps43
        go_wp2_with (first | (go_at_call 44; refine (l1In_any _ _ _ _).mono ?_; rintro e w' ⟨rfl, rfl⟩) | (go_at_call 61; refine (l2Reg_any _ _).mono ?_; rintro e w' ⟨rfl, rfl⟩) | (go_at_call 62; refine (l2Zero_tttff _ _ _ _ _ _ _).mono ?_; rintro e w2 ⟨rfl, hb2⟩))
        go_ret
        exact ⟨ret_bool (by simp), below1 _ _⟩
      · go_enter Tryd.func43, Tryd.ntmps43
        go_wp2_with (first | (go_at_call 44; refine (l1In_any _ _ _ _).mono ?_; rintro e w' ⟨rfl, rfl⟩) | (go_at_call 61; refine (l2Reg_any _ _).mono ?_; rintro e w' ⟨rfl, rfl⟩) | (go_at_call 62; refine (l2Zero_tttff _ _ _ _ _ _ _).mono ?_; rintro e w2 ⟨rfl, hb2⟩))
        go_ret
        exact ⟨ret_bool (by simp), (below1 w _).trans (Below.mono ‹Below _ _ _› (by simp))⟩

theorem okS2 (o d s i t : Int) : (inB 0 5 d && (inB 0 5 s && (inB 1 10 o && (inB 0 255 i && (s == 0 && t == 0))))) = okB 2 o d s i t := by
  rw [Bool.eq_iff_iff]
  simp [okB, okP, inB]
  try omega
set_option maxRecDepth 100000 in
set_option maxHeartbeats 1000000 in
theorem l2Step2 (o d s i t : Int) (w : World) :
    Calls Tryd.prog 43 #[.agg #[.int .i64 2, .int .i64 o, .int .i64 d, .int .i64 s, .int .i64 i, .int .i64 t]] w fun e w' => e = .returned (.bool (okB 2 o d s i t)) ∧ Below w.heap.size w w' := by
  rw [← okS2]
  cases h0 : inB 0 5 d
  · go_enter Tryd.func43, Tryd.ntmps43
    go_wp2_with (first | (go_at_call 44; refine (l1In_any _ _ _ _).mono ?_; rintro e w' ⟨rfl, rfl⟩) | (go_at_call 61; refine (l2Reg_any _ _).mono ?_; rintro e w' ⟨rfl, rfl⟩) | (go_at_call 62; refine (l2Zero_ttftf _ _ _ _ _ _ _).mono ?_; rintro e w2 ⟨rfl, hb2⟩))
    go_ret
    exact ⟨ret_bool (by simp), below1 _ _⟩
  · cases h1 : inB 0 5 s
    · go_enter Tryd.func43, Tryd.ntmps43
      go_wp2_with (first | (go_at_call 44; refine (l1In_any _ _ _ _).mono ?_; rintro e w' ⟨rfl, rfl⟩) | (go_at_call 61; refine (l2Reg_any _ _).mono ?_; rintro e w' ⟨rfl, rfl⟩) | (go_at_call 62; refine (l2Zero_ttftf _ _ _ _ _ _ _).mono ?_; rintro e w2 ⟨rfl, hb2⟩))
      go_ret
      exact ⟨ret_bool (by simp), below1 _ _⟩
    · cases h2 : inB 1 10 o
      · go_enter Tryd.func43, Tryd.ntmps43
        go_wp2_with (first | (go_at_call 44; refine (l1In_any _ _ _ _).mono ?_; rintro e w' ⟨rfl, rfl⟩) | (go_at_call 61; refine (l2Reg_any _ _).mono ?_; rintro e w' ⟨rfl, rfl⟩) | (go_at_call 62; refine (l2Zero_ttftf _ _ _ _ _ _ _).mono ?_; rintro e w2 ⟨rfl, hb2⟩))
        go_ret
        exact ⟨ret_bool (by simp), below1 _ _⟩
      · cases h3 : inB 0 255 i
        · go_enter Tryd.func43, Tryd.ntmps43
          go_wp2_with (first | (go_at_call 44; refine (l1In_any _ _ _ _).mono ?_; rintro e w' ⟨rfl, rfl⟩) | (go_at_call 61; refine (l2Reg_any _ _).mono ?_; rintro e w' ⟨rfl, rfl⟩) | (go_at_call 62; refine (l2Zero_ttftf _ _ _ _ _ _ _).mono ?_; rintro e w2 ⟨rfl, hb2⟩))
          go_ret
          exact ⟨ret_bool (by simp), below1 _ _⟩
        · go_enter Tryd.func43, Tryd.ntmps43
          go_wp2_with (first | (go_at_call 44; refine (l1In_any _ _ _ _).mono ?_; rintro e w' ⟨rfl, rfl⟩) | (go_at_call 61; refine (l2Reg_any _ _).mono ?_; rintro e w' ⟨rfl, rfl⟩) | (go_at_call 62; refine (l2Zero_ttftf _ _ _ _ _ _ _).mono ?_; rintro e w2 ⟨rfl, hb2⟩))
          go_ret
          exact ⟨ret_bool (by simp), (below1 w _).trans (Below.mono ‹Below _ _ _› (by simp))⟩

theorem okS3 (o d s i t : Int) : (inB 0 5 d && (inB 0 5 s && (inB 0 255 i && (o == 0 && s == 0 && t == 0)))) = okB 3 o d s i t := by
  rw [Bool.eq_iff_iff]
  simp [okB, okP, inB]
  try omega
set_option maxRecDepth 100000 in
set_option maxHeartbeats 1000000 in
theorem l2Step3 (o d s i t : Int) (w : World) :
    Calls Tryd.prog 43 #[.agg #[.int .i64 3, .int .i64 o, .int .i64 d, .int .i64 s, .int .i64 i, .int .i64 t]] w fun e w' => e = .returned (.bool (okB 3 o d s i t)) ∧ Below w.heap.size w w' := by
  rw [← okS3]
  cases h0 : inB 0 5 d
  · go_enter Tryd.func43, Tryd.ntmps43
    go_wp2_with (first | (go_at_call 44; refine (l1In_any _ _ _ _).mono ?_; rintro e w' ⟨rfl, rfl⟩) | (go_at_call 61; refine (l2Reg_any _ _).mono ?_; rintro e w' ⟨rfl, rfl⟩) | (go_at_call 62; refine (l2Zero_ftftf _ _ _ _ _ _ _).mono ?_; rintro e w2 ⟨rfl, hb2⟩))
    go_ret
    exact ⟨ret_bool (by simp), below1 _ _⟩
  · cases h1 : inB 0 5 s
    · go_enter Tryd.func43, Tryd.ntmps43
      go_wp2_with (first | (go_at_call 44; refine (l1In_any _ _ _ _).mono ?_; rintro e w' ⟨rfl, rfl⟩) | (go_at_call 61; refine (l2Reg_any _ _).mono ?_; rintro e w' ⟨rfl, rfl⟩) | (go_at_call 62; refine (l2Zero_ftftf _ _ _ _ _ _ _).mono ?_; rintro e w2 ⟨rfl, hb2⟩))
      go_ret
      exact ⟨ret_bool (by simp), below1 _ _⟩
    · cases h2 : inB 0 255 i
      · go_enter Tryd.func43, Tryd.ntmps43
        go_wp2_with (first | (go_at_call 44; refine (l1In_any _ _ _ _).mono ?_; rintro e w' ⟨rfl, rfl⟩) | (go_at_call 61; refine (l2Reg_any _ _).mono ?_; rintro e w' ⟨rfl, rfl⟩) | (go_at_call 62; refine (l2Zero_ftftf _ _ _ _ _ _ _).mono ?_; rintro e w2 ⟨rfl, hb2⟩))
        go_ret
        exact ⟨ret_bool (by simp), below1 _ _⟩
      · go_enter Tryd.func43, Tryd.ntmps43
        go_wp2_with (first | (go_at_call 44; refine (l1In_any _ _ _ _).mono ?_; rintro e w' ⟨rfl, rfl⟩) | (go_at_call 61; refine (l2Reg_any _ _).mono ?_; rintro e w' ⟨rfl, rfl⟩) | (go_at_call 62; refine (l2Zero_ftftf _ _ _ _ _ _ _).mono ?_; rintro e w2 ⟨rfl, hb2⟩))
        go_ret
        exact ⟨ret_bool (by simp), (below1 w _).trans (Below.mono ‹Below _ _ _› (by simp))⟩

theorem okS4 (o d s i t : Int) : (inB 0 5 d && (inB 0 5 s && (inB 256 65535 i && (o == 0 && s == 0 && t == 0)))) = okB 4 o d s i t := by
  rw [Bool.eq_iff_iff]
  simp [okB, okP, inB]
  try omega
set_option maxRecDepth 100000 in
set_option maxHeartbeats 1000000 in
theorem l2Step4 (o d s i t : Int) (w : World) :
    Calls Tryd.prog 43 #[.agg #[.int .i64 4, .int .i64 o, .int .i64 d, .int .i64 s, .int .i64 i, .int .i64 t]] w fun e w' => e = .returned (.bool (okB 4 o d s i t)) ∧ Below w.heap.size w w' := by
  rw [← okS4]
  cases h0 : inB 0 5 d
  · go_enter Tryd.func43, Tryd.ntmps43
    go_wp2_with (first | (go_at_call 44; refine (l1In_any _ _ _ _).mono ?_; rintro e w' ⟨rfl, rfl⟩) | (go_at_call 61; refine (l2Reg_any _ _).mono ?_; rintro e w' ⟨rfl, rfl⟩) | (go_at_call 62; refine (l2Zero_ftftf _ _ _ _ _ _ _).mono ?_; rintro e w2 ⟨rfl, hb2⟩))
    go_ret
    exact ⟨ret_bool (by simp), below1 _ _⟩
  · cases h1 : inB 0 5 s
    · go_enter Tryd.func43, Tryd.ntmps43
      go_wp2_with (first | (go_at_call 44; refine (l1In_any _ _ _ _).mono ?_; rintro e w' ⟨rfl, rfl⟩) | (go_at_call 61; refine (l2Reg_any _ _).mono ?_; rintro e w' ⟨rfl, rfl⟩) | (go_at_call 62; refine (l2Zero_ftftf _ _ _ _ _ _ _).mono ?_; rintro e w2 ⟨rfl, hb2⟩))
      go_ret
      exact ⟨ret_bool (by simp), below1 _ _⟩
    · cases h2 : inB 256 65535 i
      · go_enter Tryd.func43, Tryd.ntmps43
        go_wp2_with (first | (go_at_call 44; refine (l1In_any _ _ _ _).mono ?_; rintro e w' ⟨rfl, rfl⟩) | (go_at_call 61; refine (l2Reg_any _ _).mono ?_; rintro e w' ⟨rfl, rfl⟩) | (go_at_call 62; refine (l2Zero_ftftf _ _ _ _ _ _ _).mono ?_; rintro e w2 ⟨rfl, hb2⟩))
        go_ret
        exact ⟨ret_bool (by simp), below1 _ _⟩
      · go_enter Tryd.func43, Tryd.ntmps43
        go_wp2_with (first | (go_at_call 44; refine (l1In_any _ _ _ _).mono ?_; rintro e w' ⟨rfl, rfl⟩) | (go_at_call 61; refine (l2Reg_any _ _).mono ?_; rintro e w' ⟨rfl, rfl⟩) | (go_at_call 62; refine (l2Zero_ftftf _ _ _ _ _ _ _).mono ?_; rintro e w2 ⟨rfl, hb2⟩))
        go_ret
        exact ⟨ret_bool (by simp), (below1 w _).trans (Below.mono ‹Below _ _ _› (by simp))⟩

theorem okS5 (o d s i t : Int) : (inB 0 5 d && (inB 0 5 s && (inB 0 7 i && (o == 0 && t == 0)))) = okB 5 o d s i t := by
  rw [Bool.eq_iff_iff]
  simp [okB, okP, inB]
  try omega
set_option maxRecDepth 100000 in
set_option maxHeartbeats 1000000 in
theorem l2Step5 (o d s i t : Int) (w : World) :
    Calls Tryd.prog 43 #[.agg #[.int .i64 5, .int .i64 o, .int .i64 d, .int .i64 s, .int .i64 i, .int .i64 t]] w fun e w' => e = .returned (.bool (okB 5 o d s i t)) ∧ Below w.heap.size w w' := by
  rw [← okS5]
  cases h0 : inB 0 5 d
  · go_enter Tryd.func43, Tryd.ntmps43
    go_wp2_with (first | (go_at_call 44; refine (l1In_any _ _ _ _).mono ?_; rintro e w' ⟨rfl, rfl⟩) | (go_at_call 61; refine (l2Reg_any _ _).mono ?_; rintro e w' ⟨rfl, rfl⟩) | (go_at_call 62; refine (l2Zero_ftttf _ _ _ _ _ _ _).mono ?_; rintro e w2 ⟨rfl, hb2⟩))
    go_ret
    exact ⟨ret_bool (by simp), below1 _ _⟩
  · cases h1 : inB 0 5 s
    · go_enter Tryd.func43, Tryd.ntmps43
      go_wp2_with (first | (go_at_call 44; refine (l1In_any _ _ _ _).mono ?_; rintro e w' ⟨rfl, rfl⟩) | (go_at_call 61; refine (l2Reg_any _ _).mono ?_; rintro e w' ⟨rfl, rfl⟩) | (go_at_call 62; refine (l2Zero_ftttf _ _ _ _ _ _ _).mono ?_; rintro e w2 ⟨rfl, hb2⟩))
      go_ret
      exact ⟨ret_bool (by simp), below1 _ _⟩
    · cases h2 : inB 0 7 i
      · go_enter Tryd.func43, Tryd.ntmps43
        go_wp2_with (first | (go_at_call 44; refine (l1In_any _ _ _ _).mono ?_; rintro e w' ⟨rfl, rfl⟩) | (go_at_call 61; refine (l2Reg_any _ _).mono ?_; rintro e w' ⟨rfl, rfl⟩) | (go_at_call 62; refine (l2Zero_ftttf _ _ _ _ _ _ _).mono ?_; rintro e w2 ⟨rfl, hb2⟩))
        go_ret
        exact ⟨ret_bool (by simp), below1 _ _⟩
      · go_enter Tryd.func43, Tryd.ntmps43
        go_wp2_with (first | (go_at_call 44; refine (l1In_any _ _ _ _).mono ?_; rintro e w' ⟨rfl, rfl⟩) | (go_at_call 61; refine (l2Reg_any _ _).mono ?_; rintro e w' ⟨rfl, rfl⟩) | (go_at_call 62; refine (l2Zero_ftttf _ _ _ _ _ _ _).mono ?_; rintro e w2 ⟨rfl, hb2⟩))
        go_ret
        exact ⟨ret_bool (by simp), (below1 w _).trans (Below.mono ‹Below _ _ _› (by simp))⟩

theorem okS6 (o d s i t : Int) : (inB 0 5 d && (inB 0 5 s && (inB 0 255 i && (o == 0 && s == 0 && t == 0)))) = okB 6 o d s i t := by
  rw [Bool.eq_iff_iff]
  simp [okB, okP, inB]
  try omega
set_option maxRecDepth 100000 in
set_option maxHeartbeats 1000000 in
theorem l2Step6 (o d s i t : Int) (w : World) :
    Calls Tryd.prog 43 #[.agg #[.int .i64 6, .int .i64 o, .int .i64 d, .int .i64 s, .int .i64 i, .int .i64 t]] w fun e w' => e = .returned (.bool (okB 6 o d s i t)) ∧ Below w.heap.size w w' := by
  rw [← okS6]
  cases h0 : inB 0 5 d
  · go_enter Tryd.func43, Tryd.ntmps43
    go_wp2_with (first | (go_at_call 44; refine (l1In_any _ _ _ _).mono ?_; rintro e w' ⟨rfl, rfl⟩) | (go_at_call 61; refine (l2Reg_any _ _).mono ?_; rintro e w' ⟨rfl, rfl⟩) | (go_at_call 62; refine (l2Zero_ftftf _ _ _ _ _ _ _).mono ?_; rintro e w2 ⟨rfl, hb2⟩))
    go_ret
    exact ⟨ret_bool (by simp), below1 _ _⟩
  · cases h1 : inB 0 5 s
    · go_enter Tryd.func43, Tryd.ntmps43
      go_wp2_with (first | (go_at_call 44; refine (l1In_any _ _ _ _).mono ?_; rintro e w' ⟨rfl, rfl⟩) | (go_at_call 61; refine (l2Reg_any _ _).mono ?_; rintro e w' ⟨rfl, rfl⟩) | (go_at_call 62; refine (l2Zero_ftftf _ _ _ _ _ _ _).mono ?_; rintro e w2 ⟨rfl, hb2⟩))
      go_ret
      exact ⟨ret_bool (by simp), below1 _ _⟩
    · cases h2 : inB 0 255 i
      · go_enter Tryd.func43, Tryd.ntmps43
        go_wp2_with (first | (go_at_call 44; refine (l1In_any _ _ _ _).mono ?_; rintro e w' ⟨rfl, rfl⟩) | (go_at_call 61; refine (l2Reg_any _ _).mono ?_; rintro e w' ⟨rfl, rfl⟩) | (go_at_call 62; refine (l2Zero_ftftf _ _ _ _ _ _ _).mono ?_; rintro e w2 ⟨rfl, hb2⟩))
        go_ret
        exact ⟨ret_bool (by simp), below1 _ _⟩
      · go_enter Tryd.func43, Tryd.ntmps43
        go_wp2_with (first | (go_at_call 44; refine (l1In_any _ _ _ _).mono ?_; rintro e w' ⟨rfl, rfl⟩) | (go_at_call 61; refine (l2Reg_any _ _).mono ?_; rintro e w' ⟨rfl, rfl⟩) | (go_at_call 62; refine (l2Zero_ftftf _ _ _ _ _ _ _).mono ?_; rintro e w2 ⟨rfl, hb2⟩))
        go_ret
        exact ⟨ret_bool (by simp), (below1 w _).trans (Below.mono ‹Below _ _ _› (by simp))⟩

theorem okS7 (o d s i t : Int) : (inB 0 5 d && (inB 0 5 s && (inB 0 255 i && (o == 0 && s == 0 && t == 0)))) = okB 7 o d s i t := by
  rw [Bool.eq_iff_iff]
  simp [okB, okP, inB]
  try omega
set_option maxRecDepth 100000 in
set_option maxHeartbeats 1000000 in
theorem l2Step7 (o d s i t : Int) (w : World) :
    Calls Tryd.prog 43 #[.agg #[.int .i64 7, .int .i64 o, .int .i64 d, .int .i64 s, .int .i64 i, .int .i64 t]] w fun e w' => e = .returned (.bool (okB 7 o d s i t)) ∧ Below w.heap.size w w' := by
  rw [← okS7]
  cases h0 : inB 0 5 d
  · go_enter Tryd.func43, Tryd.ntmps43
    go_wp2_with (first | (go_at_call 44; refine (l1In_any _ _ _ _).mono ?_; rintro e w' ⟨rfl, rfl⟩) | (go_at_call 61; refine (l2Reg_any _ _).mono ?_; rintro e w' ⟨rfl, rfl⟩) | (go_at_call 62; refine (l2Zero_ftftf _ _ _ _ _ _ _).mono ?_; rintro e w2 ⟨rfl, hb2⟩))
    go_ret
    exact ⟨ret_bool (by simp), below1 _ _⟩
  · cases h1 : inB 0 5 s
    · go_enter Tryd.func43, Tryd.ntmps43
      go_wp2_with (first | (go_at_call 44; refine (l1In_any _ _ _ _).mono ?_; rintro e w' ⟨rfl, rfl⟩) | (go_at_call 61; refine (l2Reg_any _ _).mono ?_; rintro e w' ⟨rfl, rfl⟩) | (go_at_call 62; refine (l2Zero_ftftf _ _ _ _ _ _ _).mono ?_; rintro e w2 ⟨rfl, hb2⟩))
      go_ret
      exact ⟨ret_bool (by simp), below1 _ _⟩
    · cases h2 : inB 0 255 i
      · go_enter Tryd.func43, Tryd.ntmps43
        go_wp2_with (first | (go_at_call 44; refine (l1In_any _ _ _ _).mono ?_; rintro e w' ⟨rfl, rfl⟩) | (go_at_call 61; refine (l2Reg_any _ _).mono ?_; rintro e w' ⟨rfl, rfl⟩) | (go_at_call 62; refine (l2Zero_ftftf _ _ _ _ _ _ _).mono ?_; rintro e w2 ⟨rfl, hb2⟩))
        go_ret
        exact ⟨ret_bool (by simp), below1 _ _⟩
      · go_enter Tryd.func43, Tryd.ntmps43
        go_wp2_with (first | (go_at_call 44; refine (l1In_any _ _ _ _).mono ?_; rintro e w' ⟨rfl, rfl⟩) | (go_at_call 61; refine (l2Reg_any _ _).mono ?_; rintro e w' ⟨rfl, rfl⟩) | (go_at_call 62; refine (l2Zero_ftftf _ _ _ _ _ _ _).mono ?_; rintro e w2 ⟨rfl, hb2⟩))
        go_ret
        exact ⟨ret_bool (by simp), (below1 w _).trans (Below.mono ‹Below _ _ _› (by simp))⟩

theorem okS8 (o d s i t : Int) : (inB 0 5 d && (inB 0 5 s && (inB 1 19 t && (o == 0 && d == 0 && s == 0 && i == 0)))) = okB 8 o d s i t := by
  rw [Bool.eq_iff_iff]
  simp [okB, okP, inB]
  try omega
set_option maxRecDepth 100000 in
set_option maxHeartbeats 1000000 in
theorem l2Step8 (o d s i t : Int) (w : World) :
    Calls Tryd.prog 43 #[.agg #[.int .i64 8, .int .i64 o, .int .i64 d, .int .i64 s, .int .i64 i, .int .i64 t]] w fun e w' => e = .returned (.bool (okB 8 o d s i t)) ∧ Below w.heap.size w w' := by
  rw [← okS8]
  cases h0 : inB 0 5 d
  · go_enter Tryd.func43, Tryd.ntmps43
    go_wp2_with (first | (go_at_call 44; refine (l1In_any _ _ _ _).mono ?_; rintro e w' ⟨rfl, rfl⟩) | (go_at_call 61; refine (l2Reg_any _ _).mono ?_; rintro e w' ⟨rfl, rfl⟩) | (go_at_call 62; refine (l2Zero_fffft _ _ _ _ _ _ _).mono ?_; rintro e w2 ⟨rfl, hb2⟩))
    go_ret
    exact ⟨ret_bool (by simp), below1 _ _⟩
  · cases h1 : inB 0 5 s
    · go_enter Tryd.func43, Tryd.ntmps43
      go_wp2_with (first | (go_at_call 44; refine (l1In_any _ _ _ _).mono ?_; rintro e w' ⟨rfl, rfl⟩) | (go_at_call 61; refine (l2Reg_any _ _).mono ?_; rintro e w' ⟨rfl, rfl⟩) | (go_at_call 62; refine (l2Zero_fffft _ _ _ _ _ _ _).mono ?_; rintro e w2 ⟨rfl, hb2⟩))
      go_ret
      exact ⟨ret_bool (by simp), below1 _ _⟩
    · cases h2 : inB 1 19 t
      · go_enter Tryd.func43, Tryd.ntmps43
        go_wp2_with (first | (go_at_call 44; refine (l1In_any _ _ _ _).mono ?_; rintro e w' ⟨rfl, rfl⟩) | (go_at_call 61; refine (l2Reg_any _ _).mono ?_; rintro e w' ⟨rfl, rfl⟩) | (go_at_call 62; refine (l2Zero_fffft _ _ _ _ _ _ _).mono ?_; rintro e w2 ⟨rfl, hb2⟩))
        go_ret
        exact ⟨ret_bool (by simp), below1 _ _⟩
      · go_enter Tryd.func43, Tryd.ntmps43
        go_wp2_with (first | (go_at_call 44; refine (l1In_any _ _ _ _).mono ?_; rintro e w' ⟨rfl, rfl⟩) | (go_at_call 61; refine (l2Reg_any _ _).mono ?_; rintro e w' ⟨rfl, rfl⟩) | (go_at_call 62; refine (l2Zero_fffft _ _ _ _ _ _ _).mono ?_; rintro e w2 ⟨rfl, hb2⟩))
        go_ret
        exact ⟨ret_bool (by simp), (below1 w _).trans (Below.mono ‹Below _ _ _› (by simp))⟩

theorem okS9 (o d s i t : Int) : (inB 0 5 d && (inB 0 5 s && (inB 1 19 t && (o == 0 && i == 0)))) = okB 9 o d s i t := by
  rw [Bool.eq_iff_iff]
  simp [okB, okP, inB]
  try omega
set_option maxRecDepth 100000 in
set_option maxHeartbeats 1000000 in
theorem l2Step9 (o d s i t : Int) (w : World) :
    Calls Tryd.prog 43 #[.agg #[.int .i64 9, .int .i64 o, .int .i64 d, .int .i64 s, .int .i64 i, .int .i64 t]] w fun e w' => e = .returned (.bool (okB 9 o d s i t)) ∧ Below w.heap.size w w' := by
  rw [← okS9]
  cases h0 : inB 0 5 d
  · go_enter Tryd.func43, Tryd.ntmps43
    go_wp2_with (first | (go_at_call 44; refine (l1In_any _ _ _ _).mono ?_; rintro e w' ⟨rfl, rfl⟩) | (go_at_call 61; refine (l2Reg_any _ _).mono ?_; rintro e w' ⟨rfl, rfl⟩) | (go_at_call 62; refine (l2Zero_fttft _ _ _ _ _ _ _).mono ?_; rintro e w2 ⟨rfl, hb2⟩))
    go_ret
    exact ⟨ret_bool (by simp), below1 _ _⟩
  · cases h1 : inB 0 5 s
    · go_enter Tryd.func43, Tryd.ntmps43
      go_wp2_with (first | (go_at_call 44; refine (l1In_any _ _ _ _).mono ?_; rintro e w' ⟨rfl, rfl⟩) | (go_at_call 61; refine (l2Reg_any _ _).mono ?_; rintro e w' ⟨rfl, rfl⟩) | (go_at_call 62; refine (l2Zero_fttft _ _ _ _ _ _ _).mono ?_; rintro e w2 ⟨rfl, hb2⟩))
      go_ret
      exact ⟨ret_bool (by simp), below1 _ _⟩
    · cases h2 : inB 1 19 t
      · go_enter Tryd.func43, Tryd.ntmps43
        go_wp2_with (first | (go_at_call 44; refine (l1In_any _ _ _ _).mono ?_; rintro e w' ⟨rfl, rfl⟩) | (go_at_call 61; refine (l2Reg_any _ _).mono ?_; rintro e w' ⟨rfl, rfl⟩) | (go_at_call 62; refine (l2Zero_fttft _ _ _ _ _ _ _).mono ?_; rintro e w2 ⟨rfl, hb2⟩))
        go_ret
        exact ⟨ret_bool (by simp), below1 _ _⟩
      · go_enter Tryd.func43, Tryd.ntmps43
        go_wp2_with (first | (go_at_call 44; refine (l1In_any _ _ _ _).mono ?_; rintro e w' ⟨rfl, rfl⟩) | (go_at_call 61; refine (l2Reg_any _ _).mono ?_; rintro e w' ⟨rfl, rfl⟩) | (go_at_call 62; refine (l2Zero_fttft _ _ _ _ _ _ _).mono ?_; rintro e w2 ⟨rfl, hb2⟩))
        go_ret
        exact ⟨ret_bool (by simp), (below1 w _).trans (Below.mono ‹Below _ _ _› (by simp))⟩

theorem okS10 (o d s i t : Int) : (inB 0 5 d && (inB 0 5 s && (inB 1 19 t && (o == 0 && i == 0)))) = okB 10 o d s i t := by
  rw [Bool.eq_iff_iff]
  simp [okB, okP, inB]
  try omega
set_option maxRecDepth 100000 in
set_option maxHeartbeats 1000000 in
theorem l2Step10 (o d s i t : Int) (w : World) :
    Calls Tryd.prog 43 #[.agg #[.int .i64 10, .int .i64 o, .int .i64 d, .int .i64 s, .int .i64 i, .int .i64 t]] w fun e w' => e = .returned (.bool (okB 10 o d s i t)) ∧ Below w.heap.size w w' := by
  rw [← okS10]
  cases h0 : inB 0 5 d
  · go_enter Tryd.func43, Tryd.ntmps43
    go_wp2_with (first | (go_at_call 44; refine (l1In_any _ _ _ _).mono ?_; rintro e w' ⟨rfl, rfl⟩) | (go_at_call 61; refine (l2Reg_any _ _).mono ?_; rintro e w' ⟨rfl, rfl⟩) | (go_at_call 62; refine (l2Zero_fttft _ _ _ _ _ _ _).mono ?_; rintro e w2 ⟨rfl, hb2⟩))
    go_ret
    exact ⟨ret_bool (by simp), below1 _ _⟩
  · cases h1 : inB 0 5 s
    · go_enter Tryd.func43, Tryd.ntmps43
      go_wp2_with (first | (go_at_call 44; refine (l1In_any _ _ _ _).mono ?_; rintro e w' ⟨rfl, rfl⟩) | (go_at_call 61; refine (l2Reg_any _ _).mono ?_; rintro e w' ⟨rfl, rfl⟩) | (go_at_call 62; refine (l2Zero_fttft _ _ _ _ _ _ _).mono ?_; rintro e w2 ⟨rfl, hb2⟩))
      go_ret
      exact ⟨ret_bool (by simp), below1 _ _⟩
    · cases h2 : inB 1 19 t
      · go_enter Tryd.func43, Tryd.ntmps43
        go_wp2_with (first | (go_at_call 44; refine (l1In_any _ _ _ _).mono ?_; rintro e w' ⟨rfl, rfl⟩) | (go_at_call 61; refine (l2Reg_any _ _).mono ?_; rintro e w' ⟨rfl, rfl⟩) | (go_at_call 62; refine (l2Zero_fttft _ _ _ _ _ _ _).mono ?_; rintro e w2 ⟨rfl, hb2⟩))
        go_ret
        exact ⟨ret_bool (by simp), below1 _ _⟩
      · go_enter Tryd.func43, Tryd.ntmps43
        go_wp2_with (first | (go_at_call 44; refine (l1In_any _ _ _ _).mono ?_; rintro e w' ⟨rfl, rfl⟩) | (go_at_call 61; refine (l2Reg_any _ _).mono ?_; rintro e w' ⟨rfl, rfl⟩) | (go_at_call 62; refine (l2Zero_fttft _ _ _ _ _ _ _).mono ?_; rintro e w2 ⟨rfl, hb2⟩))
        go_ret
        exact ⟨ret_bool (by simp), (below1 w _).trans (Below.mono ‹Below _ _ _› (by simp))⟩

theorem okS11 (o d s i t : Int) : (inB 0 5 d && (inB 0 5 s && (o == 0 && d == 0 && s == 0 && i == 0 && t == 0))) = okB 11 o d s i t := by
  rw [Bool.eq_iff_iff]
  simp [okB, okP, inB]
  try omega
set_option maxRecDepth 100000 in
set_option maxHeartbeats 1000000 in
theorem l2Step11 (o d s i t : Int) (w : World) :
    Calls Tryd.prog 43 #[.agg #[.int .i64 11, .int .i64 o, .int .i64 d, .int .i64 s, .int .i64 i, .int .i64 t]] w fun e w' => e = .returned (.bool (okB 11 o d s i t)) ∧ Below w.heap.size w w' := by
  rw [← okS11]
  cases h0 : inB 0 5 d
  · go_enter Tryd.func43, Tryd.ntmps43
    go_wp2_with (first | (go_at_call 44; refine (l1In_any _ _ _ _).mono ?_; rintro e w' ⟨rfl, rfl⟩) | (go_at_call 61; refine (l2Reg_any _ _).mono ?_; rintro e w' ⟨rfl, rfl⟩) | (go_at_call 62; refine (l2Zero_fffff _ _ _ _ _ _ _).mono ?_; rintro e w2 ⟨rfl, hb2⟩))
    go_ret
    exact ⟨ret_bool (by simp), below1 _ _⟩
  · cases h1 : inB 0 5 s
    · go_enter Tryd.func43, Tryd.ntmps43
      go_wp2_with (first | (go_at_call 44; refine (l1In_any _ _ _ _).mono ?_; rintro e w' ⟨rfl, rfl⟩) | (go_at_call 61; refine (l2Reg_any _ _).mono ?_; rintro e w' ⟨rfl, rfl⟩) | (go_at_call 62; refine (l2Zero_fffff _ _ _ _ _ _ _).mono ?_; rintro e w2 ⟨rfl, hb2⟩))
      go_ret
      exact ⟨ret_bool (by simp), below1 _ _⟩
    · go_enter Tryd.func43, Tryd.ntmps43
      go_wp2_with (first | (go_at_call 44; refine (l1In_any _ _ _ _).mono ?_; rintro e w' ⟨rfl, rfl⟩) | (go_at_call 61; refine (l2Reg_any _ _).mono ?_; rintro e w' ⟨rfl, rfl⟩) | (go_at_call 62; refine (l2Zero_fffff _ _ _ _ _ _ _).mono ?_; rintro e w2 ⟨rfl, hb2⟩))
      go_ret
      exact ⟨ret_bool (by simp), (below1 w _).trans (Below.mono ‹Below _ _ _› (by simp))⟩

set_option maxRecDepth 100000 in
set_option maxHeartbeats 1000000 in
theorem l2Step_no (k o d s i t : Int) (w : World) (h : knB k = false) :
    Calls Tryd.prog 43 #[.agg #[.int .i64 k, .int .i64 o, .int .i64 d, .int .i64 s, .int .i64 i, .int .i64 t]] w fun e w' => e = .returned (.bool false) ∧ Below w.heap.size w w' := by
  have h' : ¬ (1 ≤ k ∧ k ≤ 11) := by simpa [knB] using h
  have n1 : (k == 1) = false := by simp; omega
  have n2 : (k == 2) = false := by simp; omega
  have n3 : (k == 3) = false := by simp; omega
  have n4 : (k == 4) = false := by simp; omega
  have n5 : (k == 5) = false := by simp; omega
  have n6 : (k == 6) = false := by simp; omega
  have n7 : (k == 7) = false := by simp; omega
  have n8 : (k == 8) = false := by simp; omega
  have n9 : (k == 9) = false := by simp; omega
  have n10 : (k == 10) = false := by simp; omega
  have n11 : (k == 11) = false := by simp; omega
  clear h h'
  cases h1 : inB 0 5 d
  all_goals
    cases h2 : inB 0 5 s
    all_goals
      go_enter Tryd.func43, Tryd.ntmps43
      go_wp2_with (first | (go_at_call 44; refine (l1In_any _ _ _ _).mono ?_; rintro e w' ⟨rfl, rfl⟩) | (go_at_call 61; refine (l2Reg_any _ _).mono ?_; rintro e w' ⟨rfl, rfl⟩))
      go_ret
      exact ⟨rfl, below1 _ _⟩

theorem l2Step_any (k o d s i t : Int) (w : World) :
    Calls Tryd.prog 43 #[.agg #[.int .i64 k, .int .i64 o, .int .i64 d, .int .i64 s, .int .i64 i, .int .i64 t]] w fun e w' => e = .returned (.bool (okB k o d s i t)) ∧ Below w.heap.size w w' := by
  cases h : knB k
  · have e : okB k o d s i t = false := by
      have h' : ¬ (1 ≤ k ∧ k ≤ 11) := by simpa [knB] using h
      apply okB_f
      unfold okP
      omega
    rw [e]
    exact l2Step_no k o d s i t w h
  · rcases kinds_of h with rfl | rfl | rfl | rfl | rfl | rfl | rfl | rfl | rfl | rfl | rfl
    · exact l2Step1 o d s i t w
    · exact l2Step2 o d s i t w
    · exact l2Step3 o d s i t w
    · exact l2Step4 o d s i t w
    · exact l2Step5 o d s i t w
    · exact l2Step6 o d s i t w
    · exact l2Step7 o d s i t w
    · exact l2Step8 o d s i t w
    · exact l2Step9 o d s i t w
    · exact l2Step10 o d s i t w
    · exact l2Step11 o d s i t w
end Go.Proofs.YtilnegmjnbffhaaDoor
