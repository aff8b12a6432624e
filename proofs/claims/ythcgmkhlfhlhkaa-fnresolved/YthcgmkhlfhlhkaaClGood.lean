/-
  Contracts of GoodClauses: the program's and the model's; the walk of its law.
-/
import Derived.Test.YthcgmkhlfhlhkaaClSet2
import Derived.Test.YthcgmkhlfhlhkaaSS
namespace Go.Proofs.Ythcgmkhlfhlhkaa
open Go.ChangeShapes Go.WideShapes Go.ChangeAt Go.RowKit

theorem LLies.nil {w : World} {A : Option Addr} : LLies w A [] := fun i l h => by simp at h
set_option maxRecDepth 100000 in
set_option maxHeartbeats 2000000 in
theorem areClauses_any (v : Int) (A : Option Addr) (n cap : Nat) (L : List (List Int)) (w : World) (hl : Hid (LLies w A L)) (HX : Hid (L.length = n)) (hn : n ≤ 9223372036854775807) (h1 : 0 ≤ v) (h2 : v ≤ 12) :
    Calls Try.prog 55 #[.int .i64 v, .slice A n cap] w fun e w' => e = .returned (.bool (L.all (clauseB v))) ∧ w = w' := by
  go_enter Try.func55, Try.ntmps55
  go_wp2_with fail
  go_loop [9] (fun i => ∃ k : Nat, k ≤ n ∧ i = .int .i64 k ∧ L.all (clauseB v) = (L.drop k).all (clauseB v)) (fun i => n - (intOf i).toNat)
  case atStart => exact ⟨0, Nat.zero_le _, rfl, rfl⟩
  case round =>
    obtain ⟨k, hk, rfl, hcl⟩ := hrel
    have HC := Lib.hid hcl
    clear hcl
    by_cases hlt : k < n
    · obtain ⟨x, hx⟩ : ∃ x, L[k]? = some x := ⟨_, List.getElem?_eq_getElem (by have := HX.out; omega)⟩
      obtain ⟨b, off, a, c, rfl, hbl, ha, hca, hma, hil⟩ := hl.out k x hx
      have HS := Lib.hid (all_at (clauseB v) L k x hx)
      have IL := Lib.hid hil
      clear hx hil
      obtain ⟨m, hm⟩ : ∃ m, x.length = m := ⟨_, rfl⟩
      rw [hm] at ha hca hma
      have HM := Lib.hid hm
      clear hm
      cases q : clauseB v x
      · have E : Hid (L.all (clauseB v) = false) := Lib.hid (by rw [HC.out, HS.out, q]; rfl)
        go_wp2_with (go_at_call 51; refine (isClause_any _ _ _ _ x _ IL HM hma h1 h2).mono ?_; rintro e w' ⟨rfl, rfl⟩; rw [q])
        go_ret
        exact ⟨ret_bool E.out.symm, rfl⟩
      · have E : Hid (L.all (clauseB v) = (L.drop (k + 1)).all (clauseB v)) := Lib.hid (by rw [HC.out, HS.out, q]; rfl)
        go_wp2_with (go_at_call 51; refine (isClause_any _ _ _ _ x _ IL HM hma h1 h2).mono ?_; rintro e w' ⟨rfl, rfl⟩; rw [q])
        go_round
        case rel => exact ⟨k + 1, by omega, by go_num, E.out⟩
        case measure => simp [intOf]; omega
    · obtain rfl : k = n := by omega
      have E : Hid (L.all (clauseB v) = true) := Lib.hid (by rw [HC.out, List.drop_of_length_le (by have := HX.out; omega)]; rfl)
      go_wp2
      go_ret
      exact ⟨ret_bool E.out.symm, rfl⟩
set_option maxRecDepth 100000 in
set_option maxHeartbeats 2000000 in
theorem implGoodC_any (v : Int) (A : Option Addr) (n cap : Nat) (L : List (List Int)) (w : World) (hl : Hid (LLies w A L)) (HX : Hid (L.length = n)) (hn : n ≤ 9223372036854775807) :
    Calls Try.prog 16 #[.int .i64 v, .slice A n cap] w fun e w' => e = .returned (.bool (goodB v L)) ∧ w = w' := by
  by_cases h1 : 0 ≤ v
  · by_cases h2 : v ≤ 12
    · by_cases h3 : n ≤ 60
      · have E : Hid (goodB v L = L.all (clauseB v)) := Lib.hid (by have := HX.out; unfold goodB; rw [decide_eq_true h1, decide_eq_true h2, decide_eq_true (by omega)]; simp)
        go_enter Try.func16, Try.ntmps16
        go_wp2_with (go_at_call 55; refine (areClauses_any _ _ _ _ L _ hl HX hn h1 h2).mono ?_; rintro e w' ⟨rfl, rfl⟩)
        go_ret
        exact ⟨ret_bool E.out.symm, rfl⟩
      · have E : Hid (goodB v L = false) := Lib.hid (by have := HX.out; unfold goodB; rw [decide_eq_false (show ¬ L.length ≤ 60 by omega)]; simp)
        go_enter Try.func16, Try.ntmps16
        go_wp2
        go_ret
        exact ⟨ret_bool E.out.symm, rfl⟩
    · have E : Hid (goodB v L = false) := Lib.hid (by unfold goodB; rw [decide_eq_false h2]; simp)
      go_enter Try.func16, Try.ntmps16
      go_wp2
      go_ret
      exact ⟨ret_bool E.out.symm, rfl⟩
  · have E : Hid (goodB v L = false) := Lib.hid (by unfold goodB; rw [decide_eq_false h1]; simp)
    go_enter Try.func16, Try.ntmps16
    go_wp2
    go_ret
    exact ⟨ret_bool E.out.symm, rfl⟩
set_option maxRecDepth 100000 in
set_option maxHeartbeats 2000000 in
theorem l4Good_any (v : Int) (A : Option Addr) (n cap most : Nat) (L : List (List Int)) (w : World) (hl : Hid (LLies w A L)) (HX : Hid (L.length = n)) (hn : n ≤ 9223372036854775807) (hmo : most ≤ 1000000) :
    Calls Try.prog 56 #[.int .i64 v, .slice A n cap, .int .i64 most] w fun e w' => e = .returned (.bool ((decide (0 ≤ v) && decide (v ≤ 12)) && (decide (L.length ≤ most) && L.all (clauseB v)))) ∧ w = w' := by
  cases q0 : inB 0 12 v
  · have E : Hid (((decide (0 ≤ v) && decide (v ≤ 12)) && (decide (L.length ≤ most) && L.all (clauseB v))) = false) := Lib.hid (by have := inB_no q0; by_cases h1 : 0 ≤ v <;> by_cases h2 : v ≤ 12 <;> simp [h1, h2]; omega)
    rw [E.out]
    go_enter Try.func56, Try.ntmps56
    go_wp2_with (go_at_call 68; refine (l1In_any _ _ _ _).mono ?_; rintro e w' ⟨rfl, rfl⟩; rw [q0])
    go_ret
    exact ⟨rfl, rfl⟩
  have hv := inB_yes q0
  have h1 : 0 ≤ v := hv.1
  have h2 : v ≤ 12 := hv.2
  clear hv
  by_cases h3 : n ≤ most
  · have E : Hid (((decide (0 ≤ v) && decide (v ≤ 12)) && (decide (L.length ≤ most) && L.all (clauseB v))) = L.all (clauseB v)) := Lib.hid (by have := HX.out; rw [decide_eq_true h1, decide_eq_true h2, decide_eq_true (by omega)]; simp)
    rw [E.out]
    clear E
    have hgt : decide (most < n) = false := by simp; omega
    go_enter Try.func56, Try.ntmps56
    go_wp2_with (go_at_call 68; refine (l1In_any _ _ _ _).mono ?_; rintro e w' ⟨rfl, rfl⟩; rw [q0])
    go_loop [20] (fun i => ∃ k : Nat, k ≤ n ∧ i = .int .i64 k ∧ L.all (clauseB v) = (L.drop k).all (clauseB v)) (fun i => n - (intOf i).toNat)
    case atStart => exact ⟨0, Nat.zero_le _, rfl, rfl⟩
    case round =>
      obtain ⟨k, hk, rfl, hcl⟩ := hrel
      have HC := Lib.hid hcl
      clear hcl
      by_cases hlt : k < n
      · obtain ⟨x, hx⟩ : ∃ x, L[k]? = some x := ⟨_, List.getElem?_eq_getElem (by have := HX.out; omega)⟩
        obtain ⟨b, off, a, c, rfl, hbl, ha, hca, hma, hil⟩ := hl.out k x hx
        have HS := Lib.hid (all_at (clauseB v) L k x hx)
        have IL := Lib.hid hil
        clear hx hil
        obtain ⟨m, hm⟩ : ∃ m, x.length = m := ⟨_, rfl⟩
        rw [hm] at ha hca hma
        have HM := Lib.hid hm
        clear hm
        cases q : clauseB v x
        · have E : Hid (L.all (clauseB v) = false) := Lib.hid (by rw [HC.out, HS.out, q]; rfl)
          go_wp2_with (go_at_call 67; refine (l4Clause_any _ _ _ _ x _ IL HM hma hca h1 h2).mono ?_; rintro e w' ⟨rfl, rfl⟩; rw [q])
          go_ret
          exact ⟨ret_bool E.out.symm, rfl⟩
        · have E : Hid (L.all (clauseB v) = (L.drop (k + 1)).all (clauseB v)) := Lib.hid (by rw [HC.out, HS.out, q]; rfl)
          clear q0
          go_wp2_with (go_at_call 67; refine (l4Clause_any _ _ _ _ x _ IL HM hma hca h1 h2).mono ?_; rintro e w' ⟨rfl, rfl⟩; rw [q])
          go_round
          case rel =>
            exact ⟨k + 1, by omega, by go_num, E.out⟩
          case measure => simp [intOf]; omega
      · obtain rfl : k = n := by omega
        have E : Hid (L.all (clauseB v) = true) := Lib.hid (by rw [HC.out, List.drop_of_length_le (by have := HX.out; omega)]; rfl)
        go_wp2
        go_ret
        exact ⟨ret_bool E.out.symm, rfl⟩
  · have E : Hid (((decide (0 ≤ v) && decide (v ≤ 12)) && (decide (L.length ≤ most) && L.all (clauseB v))) = false) := Lib.hid (by have := HX.out; rw [decide_eq_false (show ¬ L.length ≤ most by omega)]; simp)
    rw [E.out]
    go_enter Try.func56, Try.ntmps56
    go_wp2_with (go_at_call 68; refine (l1In_any _ _ _ _).mono ?_; rintro e w' ⟨rfl, rfl⟩; rw [q0])
    go_ret
    exact ⟨rfl, rfl⟩
set_option maxRecDepth 100000 in
set_option maxHeartbeats 400000 in
theorem specGoodC_any (v : Int) (A : Option Addr) (n cap : Nat) (L : List (List Int)) (w : World) (hl : Hid (LLies w A L)) (HX : Hid (L.length = n)) (hn : n ≤ 9223372036854775807) :
    Calls Try.prog 17 #[.int .i64 v, .slice A n cap] w fun e w' => e = .returned (.bool (goodB v L)) ∧ w = w' := by
  go_enter Try.func17, Try.ntmps17
  go_wp2_with (go_at_call 56; refine (l4Good_any _ _ _ _ 60 L _ hl HX hn (by omega)).mono ?_; rintro e w' ⟨rfl, rfl⟩)
  go_ret
  exact ⟨rfl, rfl⟩

set_option maxRecDepth 100000 in
set_option maxHeartbeats 4000000 in
theorem lawGoodC (v : Int) (A : Option Addr) (cap : Nat) (L : List (List Int)) (w : World) (hn : L.length ≤ 9223372036854775807) (hl : LLies w A L) :
    Calls Try.prog 5 #[.int .i64 v, .slice A L.length cap] w fun e w' => e = .returned (.bool true) ∧ Below w.heap.size w w' := by
  obtain ⟨n, hxn⟩ : ∃ n, L.length = n := ⟨_, rfl⟩
  rw [hxn] at hn ⊢
  have HX := Lib.hid hxn
  have HL := Lib.hid hl
  clear hxn hl
  obtain ⟨b, hb⟩ : ∃ b, goodB v L = b := ⟨_, rfl⟩
  have HB := Lib.hid hb
  clear hb
  have hbb : (b != b) = false := by simp
  go_enter Try.func5, Try.ntmps5
  go_wp2_with fail
  refine (szIntSS_any _ _ _ L _ 1048576 HL HX hn (by omega) (by omega)).mono ?_
  rintro e w1 ⟨⟨q, rfl, hq⟩, rfl⟩
  by_cases hneg : q < 0
  · clear hq
    go_wp2
    go_ret
    exact ⟨rfl, Below.refl _ _⟩
  have hsz : n + tot L ≤ 1048576 := by omega
  have hn2 : n ≤ 1048576 := by omega
  have HT : Hid (tot L ≤ 1048576) := Lib.hid (by omega)
  clear hq hsz
  go_wp2_with fail
  refine (toIntSS_any _ _ _ L _ HL HX hn2 HT).mono ?_
  rintro e w1 ⟨rfl, ⟨vs1, ho1⟩, hb1⟩
  have O1 := Lib.hid ho1.lies
  have B1 := Lib.hid hb1
  clear ho1 hb1
  go_wp2_with fail
  refine (specGoodC_any _ _ _ _ L _ O1 HX hn).mono ?_
  rintro e w' ⟨rfl, rfl⟩
  rw [HB.out]
  have L1 := Lib.hid (HL.out.below B1.out)
  clear O1
  go_wp2_with fail
  refine (toIntSS_any _ _ _ L _ L1 HX hn2 HT).mono ?_
  rintro e w2 ⟨rfl, ⟨vs2, ho2⟩, hb2⟩
  have O2 := Lib.hid ho2.lies
  have B2 := Lib.hid (Below.tr B1.out hb2)
  have L2 := Lib.hid (L1.out.below hb2)
  clear ho2 hb2 L1 B1
  obtain ⟨g2, hg2⟩ : ∃ g, w1.heap.size = g := ⟨_, rfl⟩
  rw [hg2] at O2 ⊢
  go_wp2_with fail
  refine (implGoodC_any _ _ _ _ L _ O2 HX hn).mono ?_
  rintro e w' ⟨rfl, rfl⟩
  rw [HB.out]
  go_wp2_with fail
  refine (toIntSS_any _ _ _ L _ L2 HX hn2 HT).mono ?_
  rintro e w3 ⟨rfl, ⟨vs3, ho3⟩, hb3⟩
  have O3 := Lib.hid ho3.lies
  have O2' := Lib.hid (O2.out.below hb3)
  have B3 := Lib.hid (Below.tr B2.out hb3)
  clear ho3 hb3 O2 B2
  go_wp2_with fail
  refine (eqIntSS_same _ _ _ _ _ L _ O2' O3 HX (by omega) (Lib.hid (by have := HT.out; omega))).mono ?_
  rintro e w4 ⟨rfl, hb4⟩
  have B4 := Lib.hid (Below.tr B3.out hb4)
  clear hb4
  go_wp2
  go_ret
  exact ⟨rfl, B4.out⟩
end Go.Proofs.Ythcgmkhlfhlhkaa
