/-
  The least 2^k - 1 that is at least a word: by the number of bits, and by doubling.
-/
import Derived.Test.YtkffggnajoohfaaDoorSt2
import Derived.Laws.Strings
import Derived.Deep.DeepCutAuto
namespace Go.Proofs.YtkffggnajoohfaaDoor.Op
open Go.Proofs.YtkffggnajoohfaaDoor
open Go.ChangeShapes Go.WideShapes Go.ChangeAt Go.RowKit

/-- the library's table of the lengths of bytes -/
def lenTab : ByteArray := ⟨((([0, 1, 2, 2, 3, 3, 3, 3, 4, 4, 4, 4, 4, 4, 4, 4, 5, 5, 5, 5, 5, 5, 5, 5, 5, 5, 5, 5, 5, 5, 5, 5, 6, 6, 6, 6, 6, 6, 6, 6, 6, 6, 6, 6, 6, 6, 6, 6, 6, 6, 6, 6, 6, 6, 6, 6, 6, 6, 6, 6, 6, 6, 6, 6] : List UInt8).append [7, 7, 7, 7, 7, 7, 7, 7, 7, 7, 7, 7, 7, 7, 7, 7, 7, 7, 7, 7, 7, 7, 7, 7, 7, 7, 7, 7, 7, 7, 7, 7, 7, 7, 7, 7, 7, 7, 7, 7, 7, 7, 7, 7, 7, 7, 7, 7, 7, 7, 7, 7, 7, 7, 7, 7, 7, 7, 7, 7, 7, 7, 7, 7]).append (([8, 8, 8, 8, 8, 8, 8, 8, 8, 8, 8, 8, 8, 8, 8, 8, 8, 8, 8, 8, 8, 8, 8, 8, 8, 8, 8, 8, 8, 8, 8, 8, 8, 8, 8, 8, 8, 8, 8, 8, 8, 8, 8, 8, 8, 8, 8, 8, 8, 8, 8, 8, 8, 8, 8, 8, 8, 8, 8, 8, 8, 8, 8, 8] : List UInt8).append [8, 8, 8, 8, 8, 8, 8, 8, 8, 8, 8, 8, 8, 8, 8, 8, 8, 8, 8, 8, 8, 8, 8, 8, 8, 8, 8, 8, 8, 8, 8, 8, 8, 8, 8, 8, 8, 8, 8, 8, 8, 8, 8, 8, 8, 8, 8, 8, 8, 8, 8, 8, 8, 8, 8, 8, 8, 8, 8, 8, 8, 8, 8, 8])).toArray⟩
theorem lenTab_is : (⟨((([0, 1, 2, 2, 3, 3, 3, 3, 4, 4, 4, 4, 4, 4, 4, 4, 5, 5, 5, 5, 5, 5, 5, 5, 5, 5, 5, 5, 5, 5, 5, 5, 6, 6, 6, 6, 6, 6, 6, 6, 6, 6, 6, 6, 6, 6, 6, 6, 6, 6, 6, 6, 6, 6, 6, 6, 6, 6, 6, 6, 6, 6, 6, 6] : List UInt8).append [7, 7, 7, 7, 7, 7, 7, 7, 7, 7, 7, 7, 7, 7, 7, 7, 7, 7, 7, 7, 7, 7, 7, 7, 7, 7, 7, 7, 7, 7, 7, 7, 7, 7, 7, 7, 7, 7, 7, 7, 7, 7, 7, 7, 7, 7, 7, 7, 7, 7, 7, 7, 7, 7, 7, 7, 7, 7, 7, 7, 7, 7, 7, 7]).append (([8, 8, 8, 8, 8, 8, 8, 8, 8, 8, 8, 8, 8, 8, 8, 8, 8, 8, 8, 8, 8, 8, 8, 8, 8, 8, 8, 8, 8, 8, 8, 8, 8, 8, 8, 8, 8, 8, 8, 8, 8, 8, 8, 8, 8, 8, 8, 8, 8, 8, 8, 8, 8, 8, 8, 8, 8, 8, 8, 8, 8, 8, 8, 8] : List UInt8).append [8, 8, 8, 8, 8, 8, 8, 8, 8, 8, 8, 8, 8, 8, 8, 8, 8, 8, 8, 8, 8, 8, 8, 8, 8, 8, 8, 8, 8, 8, 8, 8, 8, 8, 8, 8, 8, 8, 8, 8, 8, 8, 8, 8, 8, 8, 8, 8, 8, 8, 8, 8, 8, 8, 8, 8, 8, 8, 8, 8, 8, 8, 8, 8])).toArray⟩ : ByteArray) = lenTab := rfl
theorem lenTab_size : lenTab.size = 256 := by kernel_rfl
def lt8 (j : Nat) : Nat := (lenTab.data.toList.getD j 0).toNat
theorem lt8_ok : ∀ j : Fin 256, lt8 j.val ≤ 8 ∧ j.val < 2 ^ lt8 j.val ∧ (lt8 j.val = 0 ∨ 2 ^ (lt8 j.val - 1) ≤ j.val) := by decide +kernel
theorem index_tab (j : Nat) (h : j < 256) (w : World) : (Instr.index 9 (.string lenTab) (.int .u8 (j : Int))).run Tryd.prog w = .ok (.int .u8 (lt8 j : Int)) w := by
  rw [run_index_string w 9 lenTab .u8 j Tryd.underlying9, dif_pos ⟨by omega, by rw [lenTab_size]; omega⟩]
  congr 2
  unfold lt8
  have h' : j < lenTab.data.toList.length := by rw [Array.length_toList]; exact (show j < lenTab.size by rw [lenTab_size]; exact h)
  rw [List.getD_eq_getElem?_getD, List.getElem?_eq_getElem h', Option.getD_some, Array.getElem_toList]
  rfl
theorem index_tabI (x : Int) (h0 : 0 ≤ x) (h1 : x < 256) (w : World) : (Instr.index 9 (.string lenTab) (.int .u8 x)).run Tryd.prog w = .ok (.int .u8 (lt8 x.toNat : Int)) w := by
  obtain ⟨n, rfl⟩ := Int.eq_ofNat_of_zero_le h0
  exact index_tab n (by omega) w
set_option maxRecDepth 100000 in
set_option maxHeartbeats 1000000 in
theorem len64_small (x : Int) (h0 : 0 ≤ x) (h1 : x < 256) (w : World) :
    Calls Tryd.prog 107 #[.int .u64 x] w fun e w' => e = .returned (.int .i64 (lt8 x.toNat)) ∧ w = w' := by
  have hq := index_tabI x h0 h1
  obtain ⟨q, hqq⟩ : ∃ q : Int, (lt8 x.toNat : Int) = q := ⟨_, rfl⟩
  have hl : 0 ≤ q ∧ q ≤ 8 := by have := (lt8_ok ⟨x.toNat, by omega⟩).1; simp only at this; omega
  rw [hqq] at hq ⊢
  clear hqq
  go_enter Tryd.func107, Tryd.ntmps107
  rw [lenTab_is]
  obtain ⟨T, hT⟩ : ∃ T, lenTab = T := ⟨_, rfl⟩
  rw [hT] at hq ⊢
  clear hT
  go_wp2
  go_ret
  exact ⟨rfl, rfl⟩
set_option maxRecDepth 100000 in
set_option maxHeartbeats 1000000 in
theorem len64_big (x : Int) (h0 : 256 ≤ x) (h1 : x < 65536) (w : World) :
    Calls Tryd.prog 107 #[.int .u64 x] w fun e w' => e = .returned (.int .i64 (8 + lt8 (x / 256).toNat)) ∧ w = w' := by
  have hq := index_tabI (x / 256) (by omega) (by omega)
  obtain ⟨q, hqq⟩ : ∃ q : Int, (lt8 (x / 256).toNat : Int) = q := ⟨_, rfl⟩
  have hl : 0 ≤ q ∧ q ≤ 8 := by have := (lt8_ok ⟨(x / 256).toNat, by omega⟩).1; simp only at this; omega
  rw [hqq] at hq ⊢
  clear hqq
  go_enter Tryd.func107, Tryd.ntmps107
  rw [lenTab_is]
  obtain ⟨T, hT⟩ : ∃ T, lenTab = T := ⟨_, rfl⟩
  rw [hT] at hq ⊢
  clear hT
  go_wp2
  go_ret
  exact ⟨rfl, rfl⟩
/-- the number of bits of a word -/
def lenW (x : Nat) : Nat := if x < 256 then lt8 x else 8 + lt8 (x / 256)
theorem lenW_ok {x : Nat} (h : x < 65536) : lenW x ≤ 16 ∧ x < 2 ^ lenW x ∧ (lenW x = 0 ∨ 2 ^ (lenW x - 1) ≤ x) := by
  unfold lenW
  split
  · have := lt8_ok ⟨x, by omega⟩
    simp only at this
    omega
  · obtain ⟨h1, h2, h3⟩ := lt8_ok ⟨x / 256, by omega⟩
    simp only at h1 h2 h3
    refine ⟨by omega, ?_, Or.inr ?_⟩
    · rw [Nat.pow_add]; omega
    · rcases h3 with h3 | h3
      · rw [h3] at h2; simp at h2; omega
      · have hp : lt8 (x / 256) ≠ 0 := by intro e; rw [e] at h2; simp at h2; omega
        have e : 8 + lt8 (x / 256) - 1 = 8 + (lt8 (x / 256) - 1) := by omega
        rw [e, Nat.pow_add]; omega
theorem onesN_of {n k : Nat} (h : n < 2 ^ k) (h2 : k = 0 ∨ 2 ^ (k - 1) ≤ n) : onesN n = 2 ^ k - 1 := by
  obtain ⟨j, hj⟩ := onesN_pow n
  have h3 := onesN_ge n
  have h4 := onesN_least n k (by omega)
  have p1 := Nat.two_pow_pos k
  have p2 := Nat.two_pow_pos j
  have h5 : k ≤ j := by
    rcases h2 with rfl | h2
    · omega
    · have : 2 ^ (k - 1) < 2 ^ j := by omega
      have := (Nat.pow_lt_pow_iff_right (a := 2) (by omega)).1 this
      omega
  have := Nat.pow_le_pow_right (n := 2) (by omega) h5
  omega
theorem len64_any (x : Int) (h0 : 0 ≤ x) (h1 : x < 65536) (w : World) :
    Calls Tryd.prog 107 #[.int .u64 x] w fun e w' => e = .returned (.int .i64 (lenW x.toNat)) ∧ w = w' := by
  by_cases h : x < 256
  · have e : lenW x.toNat = lt8 x.toNat := if_pos (by omega)
    rw [e]
    exact len64_small x h0 h w
  · have e : (lenW x.toNat : Int) = 8 + lt8 (x / 256).toNat := by
      have h2 : x.toNat / 256 = (x / 256).toNat := by omega
      unfold lenW
      rw [if_neg (by omega), h2]; omega
    rw [e]
    exact len64_big x (by omega) h1 w
set_option maxRecDepth 100000 in
set_option maxHeartbeats 1000000 in
theorem len_any (x : Int) (h0 : 0 ≤ x) (h1 : x < 65536) (w : World) (q : Int) (hq : Hid ((lenW x.toNat : Int) = q)) :
    Calls Tryd.prog 90 #[.int .u64 x] w fun e w' => e = .returned (.int .i64 q) ∧ w = w' := by
  go_enter Tryd.func90, Tryd.ntmps90
  go_wp2_with fail
  refine (len64_any x h0 h1 _).mono ?_
  rw [hq.out]
  rintro e w' ⟨rfl, rfl⟩
  go_wp2
  go_ret
  exact ⟨rfl, rfl⟩
set_option maxRecDepth 100000 in
set_option maxHeartbeats 4000000 in
theorem ones_any (n : Int) (h0 : 0 ≤ n) (h1 : n < 65536) (w : World) :
    Calls Tryd.prog 60 #[.int .i64 n] w fun e w' => e = .returned (.int .i64 (onesN n.toNat)) ∧ w = w' := by
  obtain ⟨k1, k2, k3⟩ := lenW_ok (x := n.toNat) (by omega)
  have ho := onesN_of k2 k3
  obtain ⟨q, hq⟩ : ∃ q, lenW n.toNat = q := ⟨_, rfl⟩
  have HQ := Lib.hid hq
  rw [hq] at k1 ho
  have HO := Lib.hid ho
  clear hq k2 k3 ho
  rcases (show q = 0 ∨ q = 1 ∨ q = 2 ∨ q = 3 ∨ q = 4 ∨ q = 5 ∨ q = 6 ∨ q = 7 ∨ q = 8 ∨ q = 9 ∨ q = 10 ∨ q = 11 ∨ q = 12 ∨ q = 13 ∨ q = 14 ∨ q = 15 ∨ q = 16 by omega) with rfl | rfl | rfl | rfl | rfl | rfl | rfl | rfl | rfl | rfl | rfl | rfl | rfl | rfl | rfl | rfl | rfl
  all_goals
    go_enter Tryd.func60, Tryd.ntmps60
    go_wp2_with fail
    refine (len_any n h0 h1 _ _ (Lib.hid (congrArg Nat.cast HQ.out))).mono ?_
    rintro e w' ⟨rfl, rfl⟩
    go_wp2
    go_ret
    exact ⟨ret_int (by rw [HO.out]; rfl), rfl⟩
set_option maxRecDepth 100000 in
set_option maxHeartbeats 4000000 in
theorem l9Ones_any (n : Int) (h0 : 0 ≤ n) (h1 : n < 65536) (w : World) :
    Calls Tryd.prog 93 #[.int .i64 n] w fun e w' => e = .returned (.int .i64 (onesN n.toNat)) ∧ w = w' := by
  obtain ⟨m, rfl⟩ := Int.eq_ofNat_of_zero_le h0
  have hm : m < 65536 := by omega
  have Z := Lib.hid (ones_zero m)
  have L := onesN_lt hm
  clear h0 h1
  go_enter Tryd.func93, Tryd.ntmps93
  go_wp2_with fail
  go_loop [3] (fun u => ∃ k : Nat, u = .int .i64 k ∧ OnesAt k m ∧ k < 65536) (fun u => m - (intOf u).toNat)
  case atStart => exact ⟨0, rfl, Z.out, by omega⟩
  case round =>
    obtain ⟨k, rfl, ha, hk⟩ := hrel
    have HA := Lib.hid ha
    clear ha Z
    by_cases hlt : k < m
    · have hnext := Lib.hid (ones_more HA.out hlt)
      have hle : 2 * k + 1 < 65536 := Nat.lt_of_le_of_lt hnext.out.2 L
      go_wp2
      go_round
      case rel => exact ⟨2 * k + 1, by go_num, hnext.out, hle⟩
      case measure => simp [intOf]; omega
    · have E := Lib.hid (ones_end HA.out (by omega))
      go_wp2
      go_ret
      exact ⟨ret_int (by rw [E.out]), rfl⟩
end Go.Proofs.YtkffggnajoohfaaDoor.Op
