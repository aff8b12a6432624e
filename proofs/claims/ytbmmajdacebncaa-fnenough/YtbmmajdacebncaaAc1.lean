/-
  Valid arcs and lists of vertices: the tests, both sides.
-/
import Derived.Test.YtbmmajdacebncaaAcMath
import Derived.Test.YtbmmajdacebncaaAcMem
namespace Go.Proofs.Ytbmmajdacebncaa
open Go.ChangeShapes Go.WideShapes Go.ChangeAt Go.RowKit

set_option maxRecDepth 100000 in
set_option maxHeartbeats 400000 in
theorem isSpot_any (a : Int) (w : World) : Calls Try.prog 58 #[.int .i64 a] w fun e w' => e = .returned (.bool (inB 1 6 a)) ∧ w = w' := by
  by_cases h1 : 1 ≤ a
  all_goals
    by_cases h2 : a ≤ 6
    all_goals
      go_enter Try.func58, Try.ntmps58
      go_wp2
      go_ret
      exact ⟨ret_bool (by rw [eq_comm]; apply inB_mk; simp; omega), rfl⟩
set_option maxRecDepth 100000 in
set_option maxHeartbeats 400000 in
theorem isLayer_any (a : Int) (w : World) : Calls Try.prog 52 #[.int .i64 a] w fun e w' => e = .returned (.bool (inB 1 8 a)) ∧ w = w' := by
  by_cases h1 : 1 ≤ a
  all_goals
    by_cases h2 : a ≤ 8
    all_goals
      go_enter Try.func52, Try.ntmps52
      go_wp2
      go_ret
      exact ⟨ret_bool (by rw [eq_comm]; apply inB_mk; simp; omega), rfl⟩
theorem isIx_any (a b : Int) (w : World) : Calls Try.prog 59 #[.int .i64 a, .int .i64 b] w fun e w' => e = .returned (.bool (ixB a b)) ∧ w = w' := by
  go_enter Try.func59, Try.ntmps59
  by_cases h1 : 0 ≤ a
  · by_cases h2 : a < b
    · go_wp2
      go_ret
      exact ⟨by simp [ixB, h1, h2], rfl⟩
    · have h2' : b ≤ a := by omega
      go_wp2
      go_ret
      exact ⟨by simp [ixB, h2], rfl⟩
  · have h1' : a < 0 := by omega
    go_wp2
    go_ret
    exact ⟨by simp [ixB]; omega, rfl⟩
set_option maxRecDepth 100000 in
set_option maxHeartbeats 4000000 in
theorem implGoodA_any (s : Int) (A : Option Addr) (n cap : Nat) (l : AL) (w : World) (b : Bool) (HR : Hid (goodAB s l = b)) (hl : Hid (ALies w A l)) (HX : Hid (l.length = n)) (hn : n ≤ 1048576) :
    Calls Try.prog 26 #[.int .i64 s, .slice A n cap] w fun e w' => e = .returned (.bool b) ∧ Below w.heap.size w w' := by
  cases qs : inB 1 6 s with
  | false =>
    have E : Hid (b = false) := Lib.hid (by rw [← HR.out]; exact good_no_s qs)
    go_enter Try.func26, Try.ntmps26
    go_wp2_with (go_at_call 58; refine (isSpot_any _ _).mono ?_; rintro e w' ⟨rfl, rfl⟩; rw [qs])
    go_ret
    exact ⟨ret_b E.out.symm, Below.refl _ _⟩
  | true =>
    have HS := Lib.hid (inB_yes qs)
    have QS := Lib.hid qs
    clear qs
    by_cases hbig : 30 < n
    · have E : Hid (b = false) := Lib.hid (by rw [← HR.out]; exact good_no_len (by rw [HX.out]; exact hbig))
      go_enter Try.func26, Try.ntmps26
      go_wp2_with (go_at_call 58; refine (isSpot_any _ _).mono ?_; rintro e w' ⟨rfl, rfl⟩; rw [QS.out])
      go_ret
      exact ⟨ret_b E.out.symm, Below.refl _ _⟩
    have hn30 : n ≤ 30 := by omega
    go_enter Try.func26, Try.ntmps26
    go_wp2_with (go_at_call 58; refine (isSpot_any _ _).mono ?_; rintro e w' ⟨rfl, rfl⟩; rw [QS.out])
    go_loopw [5, 19] (fun last i wr => ∃ k : Nat, k ≤ n ∧ i = .int .i64 k ∧ last = .int .i64 (lastA s l k) ∧ PreA s l k ∧ Below w.heap.size w wr) (fun _ i _ => n - (intOf i).toNat)
    case atStart => exact ⟨0, Nat.zero_le _, rfl, rfl, pre_zero _ _, Below.refl _ _⟩
    case round =>
      obtain ⟨k, hk, rfl, rfl, hp, hb⟩ := hrel
      have P1 := Lib.hid hp
      have B1 := Lib.hid hb
      clear hp hb
      by_cases hlt : k < n
      · obtain ⟨x, hx⟩ : ∃ x, l[k]? = some x := ⟨_, List.getElem?_eq_getElem (by have := HX.out; omega)⟩
        obtain ⟨bb, off, rfl, hbl, e0, e1⟩ := (hl.out.below B1.out) k x hx
        have HXK := Lib.hid hx
        clear hx
        cases q1 : ixB x.1 s with
        | false =>
          have E : Hid (b = false) := Lib.hid (by rw [← HR.out]; exact good_no_1 HXK.out q1)
          go_wp2_with (go_at_call 59; refine (isIx_any _ _ _).mono ?_; rintro e w' ⟨rfl, rfl⟩; rw [q1])
          go_ret
          exact ⟨ret_b E.out.symm, (by first | exact B1.out.alloc B1.out.size _)⟩
        | true =>
          have Q1 := Lib.hid q1
          clear q1
          cases q2 : ixB x.2 s with
          | false =>
            have E : Hid (b = false) := Lib.hid (by rw [← HR.out]; exact good_no_2 HXK.out q2)
            go_wp2_with (go_at_call 59; refine (isIx_any _ _ _).mono ?_; rintro e w' ⟨rfl, rfl⟩; first | rw [Q1.out] | rw [q2])
            go_ret
            exact ⟨ret_b E.out.symm, B1.out.alloc B1.out.size _⟩
          | true =>
            have Q2 := Lib.hid q2
            clear q2
            obtain ⟨M, hM⟩ : ∃ M, x.1 * s = M := ⟨_, rfl⟩
            have HM := Lib.hid hM
            obtain ⟨hm1, hm2⟩ := plc_le (p := x) HS.out Q1.out Q2.out
            have HPL : Hid (plc s x = M + x.2) := Lib.hid (by unfold plc; rw [hM])
            rw [hM] at hm1
            rw [HPL.out] at hm2
            have hla := lastA_le P1.out HS.out
            obtain ⟨L, hL⟩ : ∃ L, lastA s l k = L := ⟨_, rfl⟩
            rw [hL] at hla ⊢
            have HLA := Lib.hid hL
            clear hL
            by_cases h3 : L < M + x.2
            · have PS := Lib.hid (last_yes P1.out HS.out HXK.out Q1.out Q2.out (by rw [HLA.out, HPL.out]; exact h3))
              go_wp2_with (go_at_call 59; refine (isIx_any _ _ _).mono ?_; rintro e w' ⟨rfl, rfl⟩; first | rw [Q1.out] | rw [Q2.out])
              go_roundw
              case rel => exact ⟨k + 1, by omega, by go_num, by rw [lastA_succ HXK.out, HPL.out], PS.out, B1.out.alloc B1.out.size _⟩
              case measure => simp [intOf]; omega
            · have E : Hid (b = false) := Lib.hid (by rw [← HR.out]; exact last_no P1.out HS.out HXK.out Q1.out Q2.out (by rw [HLA.out, HPL.out]; exact h3))
              go_wp2_with (go_at_call 59; refine (isIx_any _ _ _).mono ?_; rintro e w' ⟨rfl, rfl⟩; first | rw [Q1.out] | rw [Q2.out])
              go_ret
              exact ⟨ret_b E.out.symm, B1.out.alloc B1.out.size _⟩
      · obtain rfl : k = n := by omega
        have E : Hid (b = true) := Lib.hid (by rw [← HR.out]; exact good_yes (by rw [HX.out]; exact P1.out) QS.out (by rw [HX.out]; exact hn30))
        go_wp2
        go_ret
        exact ⟨ret_b E.out.symm, B1.out⟩
end Go.Proofs.Ytbmmajdacebncaa
