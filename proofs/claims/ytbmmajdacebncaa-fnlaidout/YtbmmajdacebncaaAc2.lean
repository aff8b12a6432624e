/-
  Valid arcs by the model.
-/
import Derived.Test.YtbmmajdacebncaaAc1
namespace Go.Proofs.Ytbmmajdacebncaa
open Go.ChangeShapes Go.WideShapes Go.ChangeAt Go.RowKit

set_option maxRecDepth 100000 in
set_option maxHeartbeats 8000000 in
theorem specGoodA_any (s : Int) (A : Option Addr) (n cap : Nat) (l : AL) (w : World) (b : Bool) (HR : Hid (goodAB s l = b)) (hl : Hid (ALies w A l)) (HX : Hid (l.length = n)) (hn : n ≤ 1048576) :
    Calls Try.prog 37 #[.int .i64 s, .slice A n cap] w fun e w' => e = .returned (.bool b) ∧ Below w.heap.size w w' := by
  obtain ⟨hi, hhi⟩ : ∃ hi, IntKind.i64.wrap (s - 1) = hi := ⟨_, rfl⟩
  have hg : inB 1 6 s = true → ∀ a, inB 0 hi a = ixB a s := fun h a => by
    have h2 := inB_yes h
    have : hi = s - 1 := by rw [← hhi, IntKind.wrap_i64]; omega
    rw [this]
    exact inB_ixA a s
  have HG := Lib.hid hg
  clear hg
  go_enter Try.func37, Try.ntmps37
  go_wp2_with fail
  go_loopw [9] (fun i wr => ∃ k : Nat, k ≤ n ∧ i = .int .i64 k ∧ (inB 1 6 s = true → PreA s l k) ∧ Below w.heap.size w wr) (fun i _ => n - (intOf i).toNat)
  case atStart => exact ⟨0, Nat.zero_le _, rfl, fun _ => pre_zero _ _, Below.refl _ _⟩
  case round =>
    obtain ⟨k, hk, rfl, hp, hb⟩ := hrel
    have P1 := Lib.hid hp
    have B1 := Lib.hid hb
    clear hp hb
    by_cases hlt : k < n
    · obtain ⟨x, hx⟩ : ∃ x, l[k]? = some x := ⟨_, List.getElem?_eq_getElem (by have := HX.out; omega)⟩
      obtain ⟨bb, off, hA, hbl, e0, e1⟩ := (hl.out.below B1.out) k x hx
      have HXK := Lib.hid hx
      clear hx
      subst hA
      cases q1 : inB 0 hi x.1 with
      | false =>
        have E : Hid (b = false) := Lib.hid (by rw [← HR.out]; cases qs : inB 1 6 s with
          | false => exact good_no_s qs
          | true => exact good_no_1 HXK.out (by rw [← HG.out qs]; exact q1))
        go_wp2_with (go_at_call 54; refine (l1In_any _ _ _ _).mono ?_; rintro e w' ⟨rfl, rfl⟩; rw [q1])
        go_ret
        exact ⟨ret_b E.out.symm, B1.out.alloc B1.out.size _⟩
      | true =>
        have Q1 := Lib.hid q1
        clear q1
        cases q2 : inB 0 hi x.2 with
        | false =>
          have E : Hid (b = false) := Lib.hid (by rw [← HR.out]; cases qs : inB 1 6 s with
            | false => exact good_no_s qs
            | true => exact good_no_2 HXK.out (by rw [← HG.out qs]; exact q2))
          go_wp2_with (go_at_call 54; refine (l1In_any _ _ _ _).mono ?_; rintro e w' ⟨rfl, rfl⟩; first | rw [Q1.out] | rw [q2])
          go_ret
          exact ⟨ret_b E.out.symm, B1.out.alloc B1.out.size _⟩
        | true =>
          have Q2 := Lib.hid q2
          clear q2
          rcases Nat.eq_zero_or_pos k with hk0 | hk0
          · have PS : Hid (inB 1 6 s = true → PreA s l (k + 1)) := Lib.hid (fun qs => pre_step (P1.out qs) HXK.out (by rw [← HG.out qs]; exact Q1.out) (by rw [← HG.out qs]; exact Q2.out) (fun p h _ => by omega))
            have hk1 : ¬ (0 < k) := by omega
            clear hk0
            go_wp2_with (go_at_call 54; refine (l1In_any _ _ _ _).mono ?_; rintro e w' ⟨rfl, rfl⟩; first | rw [Q1.out] | rw [Q2.out])
            go_quiet (fail)
            go_wp2
            go_roundw
            case rel => exact ⟨k + 1, by omega, by go_num, PS.out, bdrewN (B1.out.alloc B1.out.size _) _⟩
            case measure => simp [intOf]; omega
          · obtain ⟨j, rfl⟩ : ∃ j, k = j + 1 := ⟨k - 1, by omega⟩
            obtain ⟨p, hp⟩ : ∃ p, l[j]? = some p := ⟨_, List.getElem?_eq_getElem (by have := HX.out; omega)⟩
            obtain ⟨b2, off2, hA2, hbl2, f0, f1⟩ := (hl.out.below B1.out) j p hp
            have HPJ := Lib.hid hp
            clear hp
            simp only [Option.some.injEq, Addr.mk.injEq, and_true] at hA2
            obtain ⟨rfl, rfl⟩ := hA2
            obtain ⟨kk, hkk⟩ : ∃ kk : Nat, j + 1 = kk := ⟨_, rfl⟩
            have hkj : (kk : Int) - 1 = (j : Int) := by omega
            have hwj : IntKind.i64.wrap (j : Int) = (j : Int) := by rw [IntKind.wrap_i64]; omega
            have hk1 : 0 < kk := by omega
            have HKK := Lib.hid hkk
            rw [hkk] at hlt e0 e1 ⊢
            clear hkk hk hk0
            cases t1 : decide (x.1 < p.1) with
            | true =>
              have E : Hid (b = false) := Lib.hid (by rw [← HR.out]; exact good_no_srt HPJ.out HXK.out (nlt_1 t1))
              go_wp2_with (go_at_call 54; refine (l1In_any _ _ _ _).mono ?_; rintro e w' ⟨rfl, rfl⟩; first | rw [Q1.out] | rw [Q2.out])
              go_quiet (fail)
              go_wp2
              go_ret
              exact ⟨ret_b E.out.symm, bdrewN (B1.out.alloc B1.out.size _) _⟩
            | false =>
              cases t2 : (p.1 == x.1) with
              | false =>
                have PS : Hid (inB 1 6 s = true → PreA s l (kk + 1)) := Lib.hid (fun qs => by
                  rw [← HKK.out]
                  exact pre_step (P1.out qs) HXK.out (by rw [← HG.out qs]; exact Q1.out) (by rw [← HG.out qs]; exact Q2.out) (fun p' _ hp' => by simp only [Nat.add_sub_cancel] at hp'; rw [HPJ.out] at hp'; cases hp'; exact lt_by t1 (by rw [t2]; rfl)))
                go_wp2_with (go_at_call 54; refine (l1In_any _ _ _ _).mono ?_; rintro e w' ⟨rfl, rfl⟩; first | rw [Q1.out] | rw [Q2.out])
                go_quiet (fail)
                go_wp2
                go_roundw
                case rel => exact ⟨kk + 1, by omega, by go_num, PS.out, bdrewN (B1.out.alloc B1.out.size _) _⟩
                case measure => simp [intOf]; omega
              | true =>
                cases t3 : decide (x.2 ≤ p.2) with
                | true =>
                  have E : Hid (b = false) := Lib.hid (by rw [← HR.out]; exact good_no_srt HPJ.out HXK.out (nlt_2 t2 t3))
                  go_wp2_with (go_at_call 54; refine (l1In_any _ _ _ _).mono ?_; rintro e w' ⟨rfl, rfl⟩; first | rw [Q1.out] | rw [Q2.out])
                  go_quiet (fail)
                  go_wp2
                  go_ret
                  exact ⟨ret_b E.out.symm, bdrewN (B1.out.alloc B1.out.size _) _⟩
                | false =>
                  have PS : Hid (inB 1 6 s = true → PreA s l (kk + 1)) := Lib.hid (fun qs => by
                    rw [← HKK.out]
                    exact pre_step (P1.out qs) HXK.out (by rw [← HG.out qs]; exact Q1.out) (by rw [← HG.out qs]; exact Q2.out) (fun p' _ hp' => by simp only [Nat.add_sub_cancel] at hp'; rw [HPJ.out] at hp'; cases hp'; exact lt_by t1 (by rw [t3]; simp)))
                  go_wp2_with (go_at_call 54; refine (l1In_any _ _ _ _).mono ?_; rintro e w' ⟨rfl, rfl⟩; first | rw [Q1.out] | rw [Q2.out])
                  go_quiet (fail)
                  go_wp2
                  go_roundw
                  case rel => exact ⟨kk + 1, by omega, by go_num, PS.out, bdrewN (B1.out.alloc B1.out.size _) _⟩
                  case measure => simp [intOf]; omega
    · obtain rfl : k = n := by omega
      cases qs : inB 1 6 s with
      | false =>
        have E : Hid (b = false) := Lib.hid (by rw [← HR.out]; exact good_no_s qs)
        go_wp2_with (go_at_call 54; refine (l1In_any _ _ _ _).mono ?_; rintro e w' ⟨rfl, rfl⟩; rw [qs])
        go_ret
        exact ⟨ret_b E.out.symm, B1.out⟩
      | true =>
        have E : Hid (decide ((k : Int) ≤ 30) = b) := Lib.hid (by
          rw [← HR.out]
          by_cases h30 : k ≤ 30
          · rw [good_yes (by rw [HX.out]; exact P1.out qs) qs (by rw [HX.out]; exact h30), decide_eq_true_eq]; omega
          · rw [good_no_len (by rw [HX.out]; omega), decide_eq_false_iff_not]; omega)
        go_wp2_with (go_at_call 54; refine (l1In_any _ _ _ _).mono ?_; rintro e w' ⟨rfl, rfl⟩; rw [qs])
        go_ret
        exact ⟨ret_b E.out, B1.out⟩
end Go.Proofs.Ytbmmajdacebncaa
