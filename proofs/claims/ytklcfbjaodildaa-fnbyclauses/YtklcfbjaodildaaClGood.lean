/-
  Contracts of GoodClauses: the program's and the model's; the walk of its law.
-/
import Derived.Test.YtklcfbjaodildaaClSet2
import Derived.Test.YtklcfbjaodildaaSS
namespace Go.Proofs.Ytklcfbjaodildaa
open Go.ChangeShapes Go.WideShapes Go.ChangeAt Go.RowKit

theorem LLies.nil {w : World} {A : Option Addr} : LLies w A [] := fun i l h => by simp at h
set_option maxRecDepth 100000 in
set_option maxHeartbeats 2000000 in
theorem areClauses_any (v : Int) (A : Option Addr) (n cap : Nat) (L : List (List Int)) (w : World) (hl : Hid (LLies w A L)) (HX : Hid (L.length = n)) (hn : n ≤ 9223372036854775807) (h1 : 0 ≤ v) (h2 : v ≤ 12) :
    Calls Try.prog 122 #[.int .i64 v, .slice A n cap] w fun e w' => e = .returned (.bool (L.all (clauseB v))) ∧ w = w' := by
  go_enter Try.func122, Try.ntmps122
  go_wp2_with fail
  go_loop [9] (fun i => ∃ k : Nat, k ≤ n ∧ i = .int .i64 k ∧ L.all (clauseB v) = (L.drop k).all (clauseB v)) (fun i => n - (intOf i).toNat)
  case atStart => exact ⟨0, Nat.zero_le _, rfl, rfl⟩
  case round =>
    obtain ⟨k, hk, rfl, hcl⟩ := hrel
    have HC := Lib.hid hcl
    clear hcl
    by_cases hlt : k < n
    · obtain ⟨x, hx⟩ : ∃ x, L[k]? = some x := ⟨_, List.getElem?_eq_getElem (by have := HX.out; omega)⟩
      obtain ⟨b, off, a, c, rfl, hbl, ha, hca, hma, hil⟩ := hl.out k x hx
      have HS := Lib.hid (all_at (clauseB v) L k x hx)
      have IL := Lib.hid hil
      clear hx hil
      obtain ⟨m, hm⟩ : ∃ m, x.length = m := ⟨_, rfl⟩
      rw [hm] at ha hca hma
      have HM := Lib.hid hm
      clear hm
      cases q : clauseB v x
      · have E : Hid (L.all (clauseB v) = false) := Lib.hid (by rw [HC.out, HS.out, q]; rfl)
        go_wp2_with (go_at_call 110; refine (isClause_any _ _ _ _ x _ IL HM hma h1 h2).mono ?_; rintro e w' ⟨rfl, rfl⟩; rw [q])
        go_ret
        exact ⟨ret_bool E.out.symm, rfl⟩
      · have E : Hid (L.all (clauseB v) = (L.drop (k + 1)).all (clauseB v)) := Lib.hid (by rw [HC.out, HS.out, q]; rfl)
        go_wp2_with (go_at_call 110; refine (isClause_any _ _ _ _ x _ IL HM hma h1 h2).mono ?_; rintro e w' ⟨rfl, rfl⟩; rw [q])
        go_round
        case rel => exact ⟨k + 1, by omega, by go_num, E.out⟩
        case measure => simp [intOf]; omega
    · obtain rfl : k = n := by omega
      have E : Hid (L.all (clauseB v) = true) := Lib.hid (by rw [HC.out, List.drop_of_length_le (by have := HX.out; omega)]; rfl)
      go_wp2
      go_ret
      exact ⟨ret_bool E.out.symm, rfl⟩
set_option maxRecDepth 100000 in
set_option maxHeartbeats 2000000 in
theorem implGoodC_any (v : Int) (A : Option Addr) (n cap : Nat) (L : List (List Int)) (w : World) (hl : Hid (LLies w A L)) (HX : Hid (L.length = n)) (hn : n ≤ 9223372036854775807) :
    Calls Try.prog 76 #[.int .i64 v, .slice A n cap] w fun e w' => e = .returned (.bool (goodB v L)) ∧ w = w' := by
  by_cases h1 : 0 ≤ v
  · by_cases h2 : v ≤ 12
    · by_cases h3 : n ≤ 60
      · have E : Hid (goodB v L = L.all (clauseB v)) := Lib.hid (by have := HX.out; unfold goodB; rw [decide_eq_true h1, decide_eq_true h2, decide_eq_true (by omega)]; simp)
        go_enter Try.func76, Try.ntmps76
        go_wp2_with (go_at_call 122; refine (areClauses_any _ _ _ _ L _ hl HX hn h1 h2).mono ?_; rintro e w' ⟨rfl, rfl⟩)
        go_ret
        exact ⟨ret_bool E.out.symm, rfl⟩
      · have E : Hid (goodB v L = false) := Lib.hid (by have := HX.out; unfold goodB; rw [decide_eq_false (show ¬ L.length ≤ 60 by omega)]; simp)
        go_enter Try.func76, Try.ntmps76
        go_wp2
        go_ret
        exact ⟨ret_bool E.out.symm, rfl⟩
    · have E : Hid (goodB v L = false) := Lib.hid (by unfold goodB; rw [decide_eq_false h2]; simp)
      go_enter Try.func76, Try.ntmps76
      go_wp2
      go_ret
      exact ⟨ret_bool E.out.symm, rfl⟩
  · have E : Hid (goodB v L = false) := Lib.hid (by unfold goodB; rw [decide_eq_false h1]; simp)
    go_enter Try.func76, Try.ntmps76
    go_wp2
    go_ret
    exact ⟨ret_bool E.out.symm, rfl⟩
set_option maxRecDepth 100000 in
set_option maxHeartbeats 2000000 in
theorem l4Good_any (v : Int) (A : Option Addr) (n cap most : Nat) (L : List (List Int)) (w : World) (hl : Hid (LLies w A L)) (HX : Hid (L.length = n)) (hn : n ≤ 9223372036854775807) (hmo : most ≤ 1000000) :
    Calls Try.prog 127 #[.int .i64 v, .slice A n cap, .int .i64 most] w fun e w' => e = .returned (.bool ((decide (0 ≤ v) && decide (v ≤ 12)) && (decide (L.length ≤ most) && L.all (clauseB v)))) ∧ w = w' := by
  cases q0 : inB 0 12 v
  · have E : Hid (((decide (0 ≤ v) && decide (v ≤ 12)) && (decide (L.length ≤ most) && L.all (clauseB v))) = false) := Lib.hid (by have := inB_no q0; by_cases h1 : 0 ≤ v <;> by_cases h2 : v ≤ 12 <;> simp [h1, h2]; omega)
    rw [E.out]
    go_enter Try.func127, Try.ntmps127
    go_wp2_with (go_at_call 94; refine (l1In_any _ _ _ _).mono ?_; rintro e w' ⟨rfl, rfl⟩; rw [q0])
    go_ret
    exact ⟨rfl, rfl⟩
  have hv := inB_yes q0
  have h1 : 0 ≤ v := hv.1
  have h2 : v ≤ 12 := hv.2
  clear hv
  by_cases h3 : n ≤ most
  · have E : Hid (((decide (0 ≤ v) && decide (v ≤ 12)) && (decide (L.length ≤ most) && L.all (clauseB v))) = L.all (clauseB v)) := Lib.hid (by have := HX.out; rw [decide_eq_true h1, decide_eq_true h2, decide_eq_true (by omega)]; simp)
    rw [E.out]
    clear E
    have hgt : decide (most < n) = false := by simp; omega
    go_enter Try.func127, Try.ntmps127
    go_wp2_with (go_at_call 94; refine (l1In_any _ _ _ _).mono ?_; rintro e w' ⟨rfl, rfl⟩; rw [q0])
    go_loop [20] (fun i => ∃ k : Nat, k ≤ n ∧ i = .int .i64 k ∧ L.all (clauseB v) = (L.drop k).all (clauseB v)) (fun i => n - (intOf i).toNat)
    case atStart => exact ⟨0, Nat.zero_le _, rfl, rfl⟩
    case round =>
      obtain ⟨k, hk, rfl, hcl⟩ := hrel
      have HC := Lib.hid hcl
      clear hcl
      by_cases hlt : k < n
      · obtain ⟨x, hx⟩ : ∃ x, L[k]? = some x := ⟨_, List.getElem?_eq_getElem (by have := HX.out; omega)⟩
        obtain ⟨b, off, a, c, rfl, hbl, ha, hca, hma, hil⟩ := hl.out k x hx
        have HS := Lib.hid (all_at (clauseB v) L k x hx)
        have IL := Lib.hid hil
        clear hx hil
        obtain ⟨m, hm⟩ : ∃ m, x.length = m := ⟨_, rfl⟩
        rw [hm] at ha hca hma
        have HM := Lib.hid hm
        clear hm
        cases q : clauseB v x
        · have E : Hid (L.all (clauseB v) = false) := Lib.hid (by rw [HC.out, HS.out, q]; rfl)
          go_wp2_with (go_at_call 157; refine (l4Clause_any _ _ _ _ x _ IL HM hma hca h1 h2).mono ?_; rintro e w' ⟨rfl, rfl⟩; rw [q])
          go_ret
          exact ⟨ret_bool E.out.symm, rfl⟩
        · have E : Hid (L.all (clauseB v) = (L.drop (k + 1)).all (clauseB v)) := Lib.hid (by rw [HC.out, HS.out, q]; rfl)
          clear q0
          go_wp2_with (go_at_call 157; refine (l4Clause_any _ _ _ _ x _ IL HM hma hca h1 h2).mono ?_; rintro e w' ⟨rfl, rfl⟩; rw [q])
          go_round
          case rel =>
            exact ⟨k + 1, by omega, by go_num, E.out⟩
          case measure => simp [intOf]; omega
      · obtain rfl : k = n := by omega
        have E : Hid (L.all (clauseB v) = true) := Lib.hid (by rw [HC.out, List.drop_of_length_le (by have := HX.out; omega)]; rfl)
        go_wp2
        go_ret
        exact ⟨ret_bool E.out.symm, rfl⟩
  · have E : Hid (((decide (0 ≤ v) && decide (v ≤ 12)) && (decide (L.length ≤ most) && L.all (clauseB v))) = false) := Lib.hid (by have := HX.out; rw [decide_eq_false (show ¬ L.length ≤ most by omega)]; simp)
    rw [E.out]
    go_enter Try.func127, Try.ntmps127
    go_wp2_with (go_at_call 94; refine (l1In_any _ _ _ _).mono ?_; rintro e w' ⟨rfl, rfl⟩; rw [q0])
    go_ret
    exact ⟨rfl, rfl⟩
set_option maxRecDepth 100000 in
set_option maxHeartbeats 400000 in
theorem specGoodC_any (v : Int) (A : Option Addr) (n cap : Nat) (L : List (List Int)) (w : World) (hl : Hid (LLies w A L)) (HX : Hid (L.length = n)) (hn : n ≤ 9223372036854775807) :
    Calls Try.prog 81 #[.int .i64 v, .slice A n cap] w fun e w' => e = .returned (.bool (goodB v L)) ∧ w = w' := by
  go_enter Try.func81, Try.ntmps81
  go_wp2_with (go_at_call 127; refine (l4Good_any _ _ _ _ 60 L _ hl HX hn (by omega)).mono ?_; rintro e w' ⟨rfl, rfl⟩)
  go_ret
  exact ⟨rfl, rfl⟩

end Go.Proofs.Ytklcfbjaodildaa
