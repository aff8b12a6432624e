/-
  Contracts: CountBits, of the program (by its table) and of the model, return the number of 1 bits of a word.
-/
import Derived.Test.YtcacceapdjkgeaaDoorWords
namespace Go.Proofs.YtcacceapdjkgeaaDoor
open Go.ChangeShapes Go.WideShapes Go.ChangeAt Go.RowKit

/-- the table of nibbles, as it lies in memory -/
def NibTab (w : World) : Prop := ∀ i : Nat, i < 16 → w.cell? ⟨0, i, none⟩ = some (.int .i64 (nib i))

theorem two_pow_le {k : Nat} (h : k ≤ 16) : 2 ^ k ≤ 65536 := Nat.pow_le_pow_right (by decide) h
theorem nib_le (i : Nat) : nib i ≤ 4 := by unfold nib; omega
/-- what a round of the model's loop keeps -/
theorem step_two {k m rest c : Nat} (h : m + pcF k rest = c) (hr : rest < 2 ^ k) (h0 : 0 < rest) : ∃ k', k = k' + 1 ∧ (m + rest % 2) + pcF k' (rest / 2) = c ∧ rest / 2 < 2 ^ k' := by
  cases k with
  | zero => simp at hr; omega
  | succ k => exact ⟨k, rfl, by simp only [pcF] at h; omega, by rw [Nat.pow_succ] at hr; omega⟩
/-- what a round of the program's loop keeps -/
theorem step_four {j m rest c : Nat} (h : m + pcF (4 * j) rest = c) (hr : rest < 2 ^ (4 * j)) (h0 : 0 < rest) : ∃ j', j = j' + 1 ∧ (m + nib (rest % 16)) + pcF (4 * j') (rest / 16) = c ∧ rest / 16 < 2 ^ (4 * j') := by
  cases j with
  | zero => simp at hr; omega
  | succ j => exact ⟨j, rfl, by rw [show 4 * (j + 1) = 4 * j + 4 from by omega, pcF_four] at h; omega, by rw [show 4 * (j + 1) = 4 * j + 4 from by omega, Nat.pow_add] at hr; omega⟩
theorem count_end {n m k rest : Nat} (h : m + pcF k rest = pc n) (h0 : ¬ 0 < rest) (H : isW n = true) : (m : Int) = cbOf n := by
  have e : rest = 0 := by omega
  rw [e, pcF_zero] at h
  simp [cbOf, H]
  omega
/-- what the loops keep: the bits counted, and those left -/
def Counting (n : Nat) (c r : Value) (step : Nat) : Prop := ∃ m j rest : Nat, m + pcF (step * j) rest = pc n ∧ rest < 2 ^ (step * j) ∧ step * j ≤ 16 ∧ c = .int .i64 m ∧ r = .int .i64 rest

set_option maxHeartbeats 400000 in
theorem specCount_any (a : Int) (w : World) :
    Calls Tryd.prog 13 #[.int .i64 a] w fun e w' => e = .returned (.tuple #[.int .i64 (cbOf a), .bool (isW a)]) ∧ w = w' := by
  cases hb : isW a
  · have H := Lib.hid hb
    clear hb
    go_enter Tryd.func13, Tryd.ntmps13
    go_wp2_with (go_at_call 24; refine (l1Word_any _ _ false H.out).mono ?_; rintro e w' ⟨rfl, rfl⟩)
    go_ret2
    exact ⟨ret_two (by simp [cbOf, H.out]) rfl, rfl⟩
  · obtain ⟨h1, h2⟩ := isW_yes hb
    have H := Lib.hid hb
    clear hb
    obtain ⟨n, rfl⟩ := Int.eq_ofNat_of_zero_le h1
    go_enter Tryd.func13, Tryd.ntmps13
    go_wp2_with (first | (go_at_call 24; refine (l1Word_any _ _ true H.out).mono ?_; rintro e w' ⟨rfl, rfl⟩) | fail)
    go_loop [4, 0] (fun c r => Counting n c r 1) (fun _ r => (intOf r).toNat)
    case atStart => exact ⟨0, 16, n, by simp [pc], by omega, by omega, rfl, rfl⟩
    case round =>
      obtain ⟨m, k, rest, hm, hr, hk, rfl, rfl⟩ := hrel
      have hlt : rest < 65536 := Nat.lt_of_lt_of_le hr (two_pow_le hk)
      have hm16 : m ≤ 16 := by have := pcF_le 16 n; unfold pc at hm; omega
      have HM := Lib.hid hm
      have HR := Lib.hid hr
      clear hm hr
      by_cases h0 : 0 < rest
      · obtain ⟨k', hk', e1, e2⟩ := step_two HM.out HR.out h0
        have E1 := Lib.hid e1
        have E2 := Lib.hid e2
        have HK : Hid (1 * k' ≤ 16) := (by omega : 1 * k' ≤ 16)
        clear e1 e2 hk'
        go_wp2
        go_round
        case rel => exact ⟨m + rest % 2, k', rest / 2, by rw [Nat.one_mul]; exact E1.out, by rw [Nat.one_mul]; exact E2.out, HK.out, by go_num, by go_num⟩
        case measure => simp [intOf]; omega
      · go_wp2
        go_ret2
        exact ⟨ret_two (count_end HM.out h0 H.out) rfl, rfl⟩

set_option maxHeartbeats 400000 in
theorem count_any (a : Int) (w : World) (ht : Hid (NibTab w)) :
    Calls Tryd.prog 9 #[.int .i64 a] w fun e w' => e = .returned (.tuple #[.int .i64 (cbOf a), .bool (isW a)]) ∧ w = w' := by
  cases hb : isW a
  · have H := Lib.hid hb
    clear hb
    go_enter Tryd.func9, Tryd.ntmps9
    go_wp2_with (go_at_call 19; refine (isWord_any _ _ false H.out).mono ?_; rintro e w' ⟨rfl, rfl⟩)
    go_ret2
    exact ⟨ret_two (by simp [cbOf, H.out]) rfl, rfl⟩
  · obtain ⟨h1, h2⟩ := isW_yes hb
    have H := Lib.hid hb
    clear hb
    obtain ⟨n, rfl⟩ := Int.eq_ofNat_of_zero_le h1
    go_enter Tryd.func9, Tryd.ntmps9
    go_wp2_with (first | (go_at_call 19; refine (isWord_any _ _ true H.out).mono ?_; rintro e w' ⟨rfl, rfl⟩) | fail)
    go_loop [4, 5] (fun c r => Counting n c r 4) (fun _ r => (intOf r).toNat)
    case atStart => exact ⟨0, 4, n, by simp [pc], by omega, by omega, rfl, rfl⟩
    case round =>
      obtain ⟨m, j, rest, hm, hr, hk, rfl, rfl⟩ := hrel
      have hlt : rest < 65536 := Nat.lt_of_lt_of_le hr (two_pow_le hk)
      have hm16 : m ≤ 16 := by have := pcF_le 16 n; unfold pc at hm; omega
      have hnib := nib_le (rest % 16)
      have HM := Lib.hid hm
      have HR := Lib.hid hr
      clear hm hr
      by_cases h0 : 0 < rest
      · obtain ⟨j', hj', e1, e2⟩ := step_four HM.out HR.out h0
        have E1 := Lib.hid e1
        have E2 := Lib.hid e2
        have HK : Hid (4 * j' ≤ 16) := (by omega : 4 * j' ≤ 16)
        clear e1 e2 hj'
        have hc := ht.out (rest % 16) (by omega)
        go_wp2
        go_round
        case rel => exact ⟨m + nib (rest % 16), j', rest / 16, E1.out, E2.out, HK.out, by go_num, by go_num⟩
        case measure => simp [intOf]; omega
      · go_wp2
        go_ret2
        exact ⟨ret_two (count_end HM.out h0 H.out) rfl, rfl⟩
end Go.Proofs.YtcacceapdjkgeaaDoor
