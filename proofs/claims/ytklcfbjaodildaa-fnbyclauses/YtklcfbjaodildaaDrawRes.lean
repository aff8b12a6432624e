/-
  Drawn arguments of the law FnResolved.
-/
import Derived.Test.YtklcfbjaodildaaLawH
import Derived.Test.YtklcfbjaodildaaSnd2
import Derived.Test.YtklcfbjaodildaaLawH
namespace Go.Proofs.Ytklcfbjaodildaa
open Go.ChangeShapes Go.WideShapes Go.ChangeAt Go.RowKit

set_option maxRecDepth 100000 in
set_option maxHeartbeats 1000000 in
theorem number_any (a0 : Option Addr) (len cap : Nat) (w : World) (h : Hid (Bytes w a0 len)) :
    Calls Try.prog 21 #[.slice a0 len cap] w fun e w' => (∃ N : Nat, e = .returned (.int .i64 N) ∧ N ≤ 1000003) ∧ w = w' := by
  have hlen : len ≤ 9223372036854775807 := h.out.1
  go_enter Try.func21, Try.ntmps21
  go_wp2_with fail
  go_loop [3, 8] (fun u i => ∃ (k N : Nat), k ≤ len ∧ i = .int .i64 k ∧ u = .int .i64 N ∧ N ≤ 1000003) (fun _ i => len - (intOf i).toNat)
  case atStart => exact ⟨0, 0, Nat.zero_le _, rfl, rfl, by omega⟩
  case round =>
    obtain ⟨k, N, hk, rfl, rfl, hN⟩ := hrel
    by_cases hlt : k < len
    · obtain ⟨b, off, x, rfl, ha, x0, x1⟩ := h.out.2 k hlt
      obtain ⟨N2, hN2⟩ : ∃ N2 : Nat, (31 * (N : Int) + x).tmod 1000003 = N2 := ⟨((31 * (N : Int) + x).tmod 1000003).toNat, by have := Int.tmod_nonneg 1000003 (show (0 : Int) ≤ 31 * (N : Int) + x by omega); omega⟩
      have hN3 : N2 ≤ 1000003 := by have := Int.tmod_lt_of_pos (31 * (N : Int) + x) (show (0 : Int) < 1000003 by omega); omega
      have hN4 : (31 * (N : Int) + x) % 1000003 = N2 := by rw [← hN2, Int.tmod_eq_emod_of_nonneg (by omega)]
      go_wp2
      go_round
      case rel => exact ⟨k + 1, N2, by omega, by go_num, rfl, hN3⟩
      case measure => simp [intOf]; omega
    · obtain rfl : k = len := by omega
      go_wp2
      go_ret
      exact ⟨⟨N, rfl, hN⟩, rfl⟩
/-- drawn clauses -/
def DrewC (w : World) (e : Ending) (w' : World) : Prop :=
  ∃ (v : Int) (L : List (List Int)) (A : Option Addr) (c1 : Nat), e = .returned (.tuple #[.int .i64 v, .slice A L.length c1]) ∧ (0 ≤ v ∧ v ≤ 13) ∧ L.length ≤ 13 ∧ LLies w' A L ∧ Below w.heap.size w w'
set_option maxRecDepth 100000 in
set_option maxHeartbeats 1000000 in
theorem drawGoodC_any (a0 : Option Addr) (len cap : Nat) (w : World) (h : Hid (Bytes w a0 len)) :
    Calls Try.prog 75 #[.slice a0 len cap] w (DrewC w) := by
  go_enter Try.func75, Try.ntmps75
  go_wp2_with fail
  refine (clauses_any w.heap.size 0 _ (Cur.new h.out) (by omega)).mono ?_
  rintro e w1 ⟨v, L, A, cp, vs, rfl, hv, hL, hT, ho, hc, hg⟩
  have O1 := Lib.hid ho
  have B1 := Lib.hid (below_new hg)
  clear ho hc hg
  go_wp2
  go_ret2
  exact ⟨v, L, A, cp, rfl, hv, hL, O1.out.lies, B1.out⟩
/-- drawn clauses and a model -/
def DrewH (w : World) (e : Ending) (w' : World) : Prop :=
  ∃ (v : Int) (L : List (List Int)) (M : List Bool) (A B : Option Addr) (c1 m c2 : Nat), e = .returned (.tuple #[.int .i64 v, .slice A L.length c1, .slice B m c2]) ∧ L.length ≤ 13 ∧ M.length = m ∧ LLies w' A L ∧ BLies w' B M ∧ Below w.heap.size w w'
theorem draw_below {w wa w' : World} {c : Nat} (h : Below w.heap.size w wa) (hg : wa.grownBy w' (some c)) (hc : w.heap.size = c) : Below w.heap.size w w' :=
  h.grown hg h.size (fun k hk => by have := Option.some.inj hk; omega)
/-- drawn numbers -/
def DrewI (w : World) (e : Ending) (w' : World) : Prop :=
  ∃ (l : List Int) (A : Option Addr) (c1 : Nat), e = .returned (.slice A l.length c1) ∧ l.length ≤ 50 ∧ w'.ownsRow w.heap.size 3 1 (.slice A l.length c1) l.length (l.map (Value.int .i64)) ∧ Below w.heap.size w w'
end Go.Proofs.Ytklcfbjaodildaa
