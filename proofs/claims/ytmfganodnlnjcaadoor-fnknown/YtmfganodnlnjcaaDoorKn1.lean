/-
  Contracts of chapter 10: GoodKnown, MayBe, the small helpers, of the program and of the model.
-/
import Derived.Test.YtmfganodnlnjcaaDoorKb
namespace Go.Proofs.YtmfganodnlnjcaaDoor.Op
open Go.Proofs.YtmfganodnlnjcaaDoor
open Go.ChangeShapes Go.WideShapes Go.ChangeAt Go.RowKit

set_option maxRecDepth 100000 in
set_option maxHeartbeats 1000000 in
theorem goodKI_any (v m : Int) (w : World) :
    Calls Tryd.prog 11 #[.agg #[.int .i64 v, .int .i64 m]] w fun e w' => e = .returned (.bool (gK v m)) ∧ Below w.heap.size w w' := by
  cases h1 : isW v
  · rw [gK_no1 h1]
    have H1 := Lib.hid h1
    have H2 := Lib.hid h1
    clear h1
    go_enter Tryd.func11, Tryd.ntmps11
    go_wp2_with (go_at_call 40; refine (isWord_any _ _ _ (by first | exact H1.out | exact H2.out)).mono ?_; rintro e w' ⟨rfl, rfl⟩)
    go_ret
    exact ⟨rfl, by first | exact Below.refl _ _ | exact below1 _ _⟩
  · cases h2 : isW m
    · rw [gK_no2 h2]
      have H1 := Lib.hid h1
      have H2 := Lib.hid h2
      clear h1 h2
      go_enter Tryd.func11, Tryd.ntmps11
      go_wp2_with (go_at_call 40; refine (isWord_any _ _ _ (by first | exact H1.out | exact H2.out)).mono ?_; rintro e w' ⟨rfl, rfl⟩)
      go_ret
      exact ⟨rfl, by first | exact Below.refl _ _ | exact below1 _ _⟩
    · rw [gK_and h1 h2]
      obtain ⟨b, hb⟩ : ∃ b, (bits .and .i64 v m == 0) = b := ⟨_, rfl⟩
      rw [hb]
      have H1 := Lib.hid h1
      have H2 := Lib.hid h2
      clear h1 h2
      go_enter Tryd.func11, Tryd.ntmps11
      go_wp2_with (go_at_call 40; refine (isWord_any _ _ _ (by first | exact H1.out | exact H2.out)).mono ?_; rintro e w' ⟨rfl, rfl⟩)
      go_ret
      exact ⟨rfl, by first | exact Below.refl _ _ | exact below1 _ _⟩

set_option maxRecDepth 100000 in
set_option maxHeartbeats 1000000 in
theorem goodKM_any (v m : Int) (w : World) :
    Calls Tryd.prog 12 #[.agg #[.int .i64 v, .int .i64 m]] w fun e w' => e = .returned (.bool (gK v m)) ∧ Below w.heap.size w w' := by
  cases h1 : isW v
  · rw [gK_no1 h1]
    have H1 := Lib.hid h1
    have H2 := Lib.hid h1
    clear h1
    go_enter Tryd.func12, Tryd.ntmps12
    go_wp2_with (go_at_call 41; refine (l1Word_any _ _ _ (by first | exact H1.out | exact H2.out)).mono ?_; rintro e w' ⟨rfl, rfl⟩)
    go_ret
    exact ⟨rfl, by first | exact Below.refl _ _ | exact below1 _ _⟩
  · cases h2 : isW m
    · rw [gK_no2 h2]
      have H1 := Lib.hid h1
      have H2 := Lib.hid h2
      clear h1 h2
      go_enter Tryd.func12, Tryd.ntmps12
      go_wp2_with (go_at_call 41; refine (l1Word_any _ _ _ (by first | exact H1.out | exact H2.out)).mono ?_; rintro e w' ⟨rfl, rfl⟩)
      go_ret
      exact ⟨rfl, by first | exact Below.refl _ _ | exact below1 _ _⟩
    · rw [gK_and h1 h2]
      obtain ⟨b, hb⟩ : ∃ b, (bits .and .i64 v m == 0) = b := ⟨_, rfl⟩
      rw [hb]
      have H1 := Lib.hid h1
      have H2 := Lib.hid h2
      clear h1 h2
      go_enter Tryd.func12, Tryd.ntmps12
      go_wp2_with (go_at_call 41; refine (l1Word_any _ _ _ (by first | exact H1.out | exact H2.out)).mono ?_; rintro e w' ⟨rfl, rfl⟩)
      go_ret
      exact ⟨rfl, by first | exact Below.refl _ _ | exact below1 _ _⟩

set_option maxRecDepth 100000 in
set_option maxHeartbeats 1000000 in
theorem matches_any (v m n : Int) (w : World) (b : Bool) (hb : (bits .andNot .i64 n m == v) = b) :
    Calls Tryd.prog 47 #[.agg #[.int .i64 v, .int .i64 m], .int .i64 n] w fun e w' => e = .returned (.bool b) ∧ Below w.heap.size w w' := by
  go_enter Tryd.func47, Tryd.ntmps47
  go_wp2
  go_ret
  exact ⟨rfl, by first | exact Below.refl _ _ | exact below1 _ _⟩

set_option maxRecDepth 100000 in
set_option maxHeartbeats 1000000 in
theorem l10May_any (v m n : Int) (w : World) (b : Bool) (hb : (bits .andNot .i64 n m == v) = b) :
    Calls Tryd.prog 53 #[.agg #[.int .i64 v, .int .i64 m], .int .i64 n] w fun e w' => e = .returned (.bool b) ∧ Below w.heap.size w w' := by
  go_enter Tryd.func53, Tryd.ntmps53
  go_wp2
  go_ret
  exact ⟨rfl, by first | exact Below.refl _ _ | exact below1 _ _⟩

set_option maxRecDepth 100000 in
set_option maxHeartbeats 1000000 in
theorem greatest_any (v m : Int) (w : World) :
    Calls Tryd.prog 69 #[.agg #[.int .i64 v, .int .i64 m]] w fun e w' => e = .returned (.int .i64 (bits .or .i64 v m)) ∧ Below w.heap.size w w' := by
  go_enter Tryd.func69, Tryd.ntmps69
  go_wp2
  go_ret
  exact ⟨rfl, by first | exact Below.refl _ _ | exact below1 _ _⟩

set_option maxRecDepth 100000 in
set_option maxHeartbeats 1000000 in
theorem noBit_any (w : World) : Calls Tryd.prog 72 #[] w fun e w' => e = .returned (.agg #[.int .i64 0, .int .i64 65535]) ∧ Below w.heap.size w w' := by
  go_enter Tryd.func72, Tryd.ntmps72
  go_wp2
  exact bodyPost_ret (v := .agg #[.int .i64 0, .int .i64 65535]) (by simp [results, Tryd.results72, go_sem]) rfl ⟨rfl, below1 _ _⟩

set_option maxRecDepth 100000 in
set_option maxHeartbeats 1000000 in
theorem knownBut_any (n u : Int) (w : World) :
    Calls Tryd.prog 71 #[.int .i64 n, .int .i64 u] w fun e w' => e = .returned (.agg #[.int .i64 (bits .andNot .i64 n u), .int .i64 u]) ∧ Below w.heap.size w w' := by
  go_enter Tryd.func71, Tryd.ntmps71
  go_wp2
  exact bodyPost_ret (v := .agg #[.int .i64 (bits .andNot .i64 n u), .int .i64 u]) (by simp [results, Tryd.results71, go_sem]) rfl ⟨rfl, below1 _ _⟩

set_option maxRecDepth 100000 in
set_option maxHeartbeats 1000000 in
theorem l10Not_any (n u : Int) (w : World) :
    Calls Tryd.prog 54 #[.int .i64 n, .int .i64 u] w fun e w' => e = .returned (.agg #[.int .i64 (bits .andNot .i64 n u), .int .i64 u]) ∧ Below w.heap.size w w' := by
  go_enter Tryd.func54, Tryd.ntmps54
  go_wp2
  exact bodyPost_ret (v := .agg #[.int .i64 (bits .andNot .i64 n u), .int .i64 u]) (by simp [results, Tryd.results54, go_sem]) rfl ⟨rfl, below1 _ _⟩

theorem may_int {v m n : Nat} (hm : m < 65536) (hn : n < 65536) : (bits .andNot .i64 (n : Int) (m : Int) == (v : Int)) = mayK ⟨v, m⟩ n := by
  rw [i64_andNot_nat n m (by omega) (by omega)]
  unfold mayK
  rw [Bool.eq_iff_iff, beq_iff_eq, decide_eq_true_eq]
  simp only
  omega
theorem isW_open {n : Int} (h : isW n = true) : ∃ a : Nat, n = a ∧ a < 65536 := by
  have := isW_yes h
  obtain ⟨a, rfl⟩ := Int.eq_ofNat_of_zero_le this.1
  exact ⟨a, rfl, by omega⟩
theorem mayA_nat {v m n : Nat} (g : goodK ⟨v, m⟩ = true) (hn : n < 65536) : mayA (v : Int) (m : Int) (n : Int) = (mayK ⟨v, m⟩ n, true) := by
  unfold mayA
  rw [gK_nat, g, isW_nat, decide_eq_true hn]
  rfl

set_option maxRecDepth 100000 in
set_option maxHeartbeats 2000000 in
theorem mayI_any (v m n : Int) (w : World) :
    Calls Tryd.prog 16 #[.agg #[.int .i64 v, .int .i64 m], .int .i64 n] w fun e w' => e = .returned (.tuple #[.bool (mayA v m n).1, .bool (mayA v m n).2]) ∧ Below w.heap.size w w' := by
  cases h1 : gK v m
  · have G1 := Lib.hid h1
    clear h1
    have N0 := one_newk w v m
    go_enter Tryd.func16, Tryd.ntmps16
    go_wp2_with fail
    unfold kO at N0
    generalize (w.alloc (.cells #[.int .i64 v, .int .i64 m] 24)) = v0 at N0 ⊢
    refine (goodKI_any _ _ _).mono ?_
    rw [G1.out]
    rintro e v1 ⟨rfl, hb⟩
    have D1 := Lib.hid (Below.tr N0.out.2 hb)
    clear hb
    go_wp2
    go_ret2
    exact ⟨ret_bools (by simp [mayA, G1.out]) (by simp [mayA, G1.out]), D1.out⟩
  · cases h2 : isW n
    · have G1 := Lib.hid h1
      have G2 := Lib.hid h2
      clear h1 h2
      have N0 := one_newk w v m
      go_enter Tryd.func16, Tryd.ntmps16
      go_wp2_with fail
      unfold kO at N0
      generalize (w.alloc (.cells #[.int .i64 v, .int .i64 m] 24)) = v0 at N0 ⊢
      refine (goodKI_any _ _ _).mono ?_
      rw [G1.out]
      rintro e v1 ⟨rfl, hb⟩
      have D1 := Lib.hid (Below.tr N0.out.2 hb)
      clear hb
      go_wp2_with fail
      refine (isWord_any _ _ _ G2.out).mono ?_
      rintro e v9 ⟨rfl, rfl⟩
      go_wp2
      go_ret2
      exact ⟨ret_bools (by simp [mayA, G2.out]) (by simp [mayA, G2.out]), D1.out⟩
    · obtain ⟨a, b, rfl, rfl, g⟩ := gK_open h1
      obtain ⟨x, rfl, hx⟩ := isW_open h2
      rw [mayA_nat g hx]
      have M := Lib.hid (may_int (v := a) (goodK_yes g).2.1 hx)
      have G1 := Lib.hid h1
      have G2 := Lib.hid h2
      clear h1 h2 g hx
      have N0 := one_newk w a b
      go_enter Tryd.func16, Tryd.ntmps16
      go_wp2_with fail
      unfold kO at N0
      generalize (w.alloc (.cells #[.int .i64 a, .int .i64 b] 24)) = v0 at N0 ⊢
      refine (goodKI_any _ _ _).mono ?_
      rw [G1.out]
      rintro e v1 ⟨rfl, hb⟩
      have k0 := (KB.below N0.out.1 hb).c0
      have m0 := (KB.below N0.out.1 hb).c1
      have D1 := Lib.hid (Below.tr N0.out.2 hb)
      clear hb
      go_wp2_with fail
      refine (isWord_any _ _ _ G2.out).mono ?_
      rintro e v9 ⟨rfl, rfl⟩
      go_wp2_with fail
      refine (matches_any _ _ _ _ _ M.out).mono ?_
      rintro e v2 ⟨rfl, hb⟩
      have D2 := Lib.hid (Below.tr D1.out hb)
      clear hb
      go_wp2
      go_ret2
      exact ⟨rfl, D2.out⟩

set_option maxRecDepth 100000 in
set_option maxHeartbeats 2000000 in
theorem mayM_any (v m n : Int) (w : World) :
    Calls Tryd.prog 21 #[.agg #[.int .i64 v, .int .i64 m], .int .i64 n] w fun e w' => e = .returned (.tuple #[.bool (mayA v m n).1, .bool (mayA v m n).2]) ∧ Below w.heap.size w w' := by
  cases h1 : gK v m
  · have G1 := Lib.hid h1
    clear h1
    have N0 := one_newk w v m
    go_enter Tryd.func21, Tryd.ntmps21
    go_wp2_with fail
    unfold kO at N0
    generalize (w.alloc (.cells #[.int .i64 v, .int .i64 m] 24)) = v0 at N0 ⊢
    refine (goodKM_any _ _ _).mono ?_
    rw [G1.out]
    rintro e v1 ⟨rfl, hb⟩
    have D1 := Lib.hid (Below.tr N0.out.2 hb)
    clear hb
    go_wp2
    go_ret2
    exact ⟨ret_bools (by simp [mayA, G1.out]) (by simp [mayA, G1.out]), D1.out⟩
  · cases h2 : isW n
    · have G1 := Lib.hid h1
      have G2 := Lib.hid h2
      clear h1 h2
      have N0 := one_newk w v m
      go_enter Tryd.func21, Tryd.ntmps21
      go_wp2_with fail
      unfold kO at N0
      generalize (w.alloc (.cells #[.int .i64 v, .int .i64 m] 24)) = v0 at N0 ⊢
      refine (goodKM_any _ _ _).mono ?_
      rw [G1.out]
      rintro e v1 ⟨rfl, hb⟩
      have D1 := Lib.hid (Below.tr N0.out.2 hb)
      clear hb
      go_wp2_with fail
      refine (l1Word_any _ _ _ G2.out).mono ?_
      rintro e v9 ⟨rfl, rfl⟩
      go_wp2
      go_ret2
      exact ⟨ret_bools (by simp [mayA, G2.out]) (by simp [mayA, G2.out]), D1.out⟩
    · obtain ⟨a, b, rfl, rfl, g⟩ := gK_open h1
      obtain ⟨x, rfl, hx⟩ := isW_open h2
      rw [mayA_nat g hx]
      have M := Lib.hid (may_int (v := a) (goodK_yes g).2.1 hx)
      have G1 := Lib.hid h1
      have G2 := Lib.hid h2
      clear h1 h2 g hx
      have N0 := one_newk w a b
      go_enter Tryd.func21, Tryd.ntmps21
      go_wp2_with fail
      unfold kO at N0
      generalize (w.alloc (.cells #[.int .i64 a, .int .i64 b] 24)) = v0 at N0 ⊢
      refine (goodKM_any _ _ _).mono ?_
      rw [G1.out]
      rintro e v1 ⟨rfl, hb⟩
      have k0 := (KB.below N0.out.1 hb).c0
      have m0 := (KB.below N0.out.1 hb).c1
      have D1 := Lib.hid (Below.tr N0.out.2 hb)
      clear hb
      go_wp2_with fail
      refine (l1Word_any _ _ _ G2.out).mono ?_
      rintro e v9 ⟨rfl, rfl⟩
      go_wp2_with fail
      refine (l10May_any _ _ _ _ _ M.out).mono ?_
      rintro e v2 ⟨rfl, hb⟩
      have D2 := Lib.hid (Below.tr D1.out hb)
      clear hb
      go_wp2
      go_ret2
      exact ⟨rfl, D2.out⟩

end Go.Proofs.YtmfganodnlnjcaaDoor.Op
