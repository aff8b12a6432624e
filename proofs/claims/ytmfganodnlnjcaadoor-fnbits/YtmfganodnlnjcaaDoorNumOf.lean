/-
  The number that the laws make of bytes.
-/
import Derived.Test.YtmfganodnlnjcaaDoorBytes
namespace Go.Proofs.YtmfganodnlnjcaaDoor.Op
open Go.Proofs.YtmfganodnlnjcaaDoor
open Go.ChangeShapes Go.WideShapes Go.ChangeAt Go.RowKit

set_option maxRecDepth 100000 in
set_option maxHeartbeats 1000000 in
theorem number_any (a0 : Option Addr) (len cap : Nat) (w : World) (h : Hid (Bytes w a0 len)) :
    Calls Tryd.prog 27 #[.slice a0 len cap] w fun e w' => (∃ N : Nat, e = .returned (.int .i64 N) ∧ N ≤ 1000003) ∧ w = w' := by
  have hlen : len ≤ 9223372036854775807 := h.out.1
  go_enter Tryd.func27, Tryd.ntmps27
  go_wp2_with fail
  go_loop [3, 8] (fun u i => ∃ (k N : Nat), k ≤ len ∧ i = .int .i64 k ∧ u = .int .i64 N ∧ N ≤ 1000003) (fun _ i => len - (intOf i).toNat)
  case atStart => exact ⟨0, 0, Nat.zero_le _, rfl, rfl, by omega⟩
  case round =>
    obtain ⟨k, N, hk, rfl, rfl, hN⟩ := hrel
    by_cases hlt : k < len
    · obtain ⟨b, off, x, rfl, ha, x0, x1⟩ := h.out.2 k hlt
      obtain ⟨N2, hN2⟩ : ∃ N2 : Nat, (31 * (N : Int) + x).tmod 1000003 = N2 := ⟨((31 * (N : Int) + x).tmod 1000003).toNat, by have := Int.tmod_nonneg 1000003 (show (0 : Int) ≤ 31 * (N : Int) + x by omega); omega⟩
      have hN3 : N2 ≤ 1000003 := by have := Int.tmod_lt_of_pos (31 * (N : Int) + x) (show (0 : Int) < 1000003 by omega); omega
      have hN4 : (31 * (N : Int) + x) % 1000003 = N2 := by rw [← hN2, Int.tmod_eq_emod_of_nonneg (by omega)]
      go_wp2
      go_round
      case rel => exact ⟨k + 1, N2, by omega, by go_num, rfl, hN3⟩
      case measure => simp [intOf]; omega
    · obtain rfl : k = len := by omega
      go_wp2
      go_ret
      exact ⟨⟨N, rfl, hN⟩, rfl⟩
end Go.Proofs.YtmfganodnlnjcaaDoor.Op
