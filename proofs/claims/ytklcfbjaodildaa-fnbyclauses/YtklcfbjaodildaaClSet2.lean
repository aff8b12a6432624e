/-
  Contracts: the model's clauses.
-/
import Derived.Test.YtklcfbjaodildaaClSet
namespace Go.Proofs.Ytklcfbjaodildaa
open Go.ChangeShapes Go.WideShapes Go.ChangeAt Go.RowKit

theorem lit_in {v x : Int} (h : x ≠ 0) : inB (-v) v x = litB v x := by
  unfold inB litB
  rw [Bool.eq_iff_iff]
  simp [h]
set_option maxRecDepth 100000 in
set_option maxHeartbeats 2000000 in
theorem l4Clause_any (v : Int) (A : Option Addr) (n cap : Nat) (l : List Int) (w : World) (hl : Hid (ILies w A l)) (HX : Hid (l.length = n)) (hn : n ≤ 9223372036854775807) (hc : n ≤ cap) (h1 : 0 ≤ v) (h2 : v ≤ 12) :
    Calls Try.prog 157 #[.int .i64 v, .slice A n cap] w fun e w' => e = .returned (.bool (clauseB v l)) ∧ w = w' := by
  go_enter Try.func157, Try.ntmps157
  go_wp2_with fail
  go_loop [9] (fun i => ∃ k : Nat, k ≤ n ∧ i = .int .i64 k ∧ clOk v [] l = clOk v (l.take k) (l.drop k)) (fun i => n - (intOf i).toNat)
  case atStart => exact ⟨0, Nat.zero_le _, rfl, rfl⟩
  case round =>
    obtain ⟨k, hk, rfl, hcl⟩ := hrel
    have HC := Lib.hid hcl
    clear hcl
    by_cases hlt : k < n
    · obtain ⟨x, hx⟩ : ∃ x, l[k]? = some x := ⟨_, List.getElem?_eq_getElem (by have := HX.out; omega)⟩
      obtain ⟨b, off, rfl, hbl, ha⟩ := hl.out k x hx
      have HS := Lib.hid (clOk_at v l k x hx)
      have HLT := Lib.hid (hl.out.take k)
      have HXT : Hid ((l.take k).length = k) := Lib.hid (by have := HX.out; simp; omega)
      clear hx
      have hkc : k ≤ cap := by omega
      cases q0 : (x == 0)
      · have q0' : x ≠ 0 := by simpa using q0
        have HL := Lib.hid (lit_in (v := v) q0')
        clear q0'
        cases q1 : litB v x
        · have E : Hid (clauseB v l = false) := Lib.hid (by unfold clauseB; rw [HC.out, HS.out, q1]; simp)
          go_wp2_with (go_at_call 94; refine (l1In_any _ _ _ _).mono ?_; rintro e w' ⟨rfl, rfl⟩; rw [HL.out, q1])
          go_ret
          exact ⟨ret_bool E.out.symm, rfl⟩
        · have hxr := litB_iff.1 q1
          have hxa : -12 ≤ x := by omega
          have hxb : x ≤ 12 := by omega
          clear hxr
          cases q2 : decide (x ∈ l.take k)
          · cases q3 : decide (-x ∈ l.take k)
            · have E : Hid (clOk v [] l = clOk v (l.take (k + 1)) (l.drop (k + 1))) := Lib.hid (by rw [HC.out, HS.out, q1]; simp only [List.contains_eq_mem, q2, q3]; rfl)
              go_wp2_with (first
                | (go_at_call 94; refine (l1In_any _ _ _ _).mono ?_; rintro e w' ⟨rfl, rfl⟩; rw [HL.out, q1])
                | (go_at_call 163; refine (l1Has_any _ _ _ (l.take k) _ _ HLT HXT (by omega)).mono ?_; rintro e w' ⟨rfl, rfl⟩; first | rw [q2] | rw [q3]))
              go_round
              case rel => exact ⟨k + 1, by omega, by go_num, E.out⟩
              case measure => simp [intOf]; omega
            · have E : Hid (clauseB v l = false) := Lib.hid (by unfold clauseB; rw [HC.out, HS.out, q1]; simp only [List.contains_eq_mem, q2, q3]; simp)
              go_wp2_with (first
                | (go_at_call 94; refine (l1In_any _ _ _ _).mono ?_; rintro e w' ⟨rfl, rfl⟩; rw [HL.out, q1])
                | (go_at_call 163; refine (l1Has_any _ _ _ (l.take k) _ _ HLT HXT (by omega)).mono ?_; rintro e w' ⟨rfl, rfl⟩; first | rw [q2] | rw [q3]))
              go_ret
              exact ⟨ret_bool E.out.symm, rfl⟩
          · have E : Hid (clauseB v l = false) := Lib.hid (by unfold clauseB; rw [HC.out, HS.out, q1]; simp only [List.contains_eq_mem, q2]; simp)
            go_wp2_with (first
              | (go_at_call 94; refine (l1In_any _ _ _ _).mono ?_; rintro e w' ⟨rfl, rfl⟩; rw [HL.out, q1])
              | (go_at_call 163; refine (l1Has_any _ _ _ (l.take k) _ _ HLT HXT (by omega)).mono ?_; rintro e w' ⟨rfl, rfl⟩; rw [q2]))
            go_ret
            exact ⟨ret_bool E.out.symm, rfl⟩
      · have E : Hid (clauseB v l = false) := Lib.hid (by unfold clauseB; rw [HC.out, HS.out]; simp at q0; simp [litB, q0])
        go_wp2
        go_ret
        exact ⟨ret_bool E.out.symm, rfl⟩
    · obtain rfl : k = n := by omega
      have E : Hid (clauseB v l = decide ((k : Int) ≤ 12)) := Lib.hid (by unfold clauseB; rw [HC.out, ← HX.out, clOk_end]; simp; omega)
      go_wp2
      go_ret
      exact ⟨ret_bool E.out.symm, rfl⟩
end Go.Proofs.Ytklcfbjaodildaa
