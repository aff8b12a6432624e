/-
  The helpers of chapter 12's named laws.
-/
import Derived.Test.YtbmmajdacebncaaAc3
namespace Go.Proofs.Ytbmmajdacebncaa
open Go.ChangeShapes Go.WideShapes Go.ChangeAt Go.RowKit

set_option maxRecDepth 100000 in
set_option maxHeartbeats 4000000 in
theorem hasArc_any (A : Option Addr) (n cap : Nat) (l : AL) (a c : Int) (w : World) (b : Bool) (HR : Hid (decide ((a, c) ∈ l) = b)) (hl : Hid (ALies w A l)) (HX : Hid (l.length = n)) (hn : n ≤ 1048576) :
    Calls Try.prog 20 #[.slice A n cap, .int .i64 a, .int .i64 c] w fun e w' => e = .returned (.bool b) ∧ Below w.heap.size w w' := by
  go_enter Try.func20, Try.ntmps20
  go_wp2_with fail
  go_loopw [11] (fun i wr => ∃ k : Nat, k ≤ n ∧ i = .int .i64 k ∧ (a, c) ∉ l.take k ∧ Below w.heap.size w wr) (fun i _ => n - (intOf i).toNat)
  case atStart => exact ⟨0, Nat.zero_le _, rfl, by simp, Below.refl _ _⟩
  case round =>
    obtain ⟨k, hk, rfl, hnot, hb⟩ := hrel
    have N1 := Lib.hid hnot
    have B1 := Lib.hid hb
    clear hnot hb
    by_cases hlt : k < n
    · obtain ⟨x, hx⟩ : ∃ x, l[k]? = some x := ⟨_, List.getElem?_eq_getElem (by have := HX.out; omega)⟩
      obtain ⟨bb, off, rfl, hbl, e0, e1⟩ := (hl.out.below B1.out) k x hx
      have HXK := Lib.hid hx
      clear hx
      cases q1 : (x.1 == a) with
      | false =>
        have N2 := Lib.hid (mem_no HXK.out N1.out (fun e => by subst e; simp at q1))
        go_wp2
        go_roundw
        case rel => exact ⟨k + 1, by omega, by go_num, N2.out, B1.out.alloc B1.out.size _⟩
        case measure => simp [intOf]; omega
      | true =>
        cases q2 : (x.2 == c) with
        | false =>
          have N2 := Lib.hid (mem_no HXK.out N1.out (fun e => by subst e; simp at q2))
          go_wp2
          go_roundw
          case rel => exact ⟨k + 1, by omega, by go_num, N2.out, B1.out.alloc B1.out.size _⟩
          case measure => simp [intOf]; omega
        | true =>
          have E : Hid (b = true) := Lib.hid (by rw [← HR.out, decide_eq_true_eq]; simp at q1 q2; rw [← q1, ← q2]; exact List.mem_of_getElem? HXK.out)
          go_wp2
          go_ret
          exact ⟨ret_b E.out.symm, B1.out.alloc B1.out.size _⟩
    · obtain rfl : k = n := by omega
      have E : Hid (b = false) := Lib.hid (by rw [← HR.out, decide_eq_false_iff_not]; have := N1.out; rwa [List.take_of_length_le (by have := HX.out; omega)] at this)
      go_wp2
      go_ret
      exact ⟨ret_b E.out.symm, B1.out⟩
set_option maxRecDepth 100000 in
set_option maxHeartbeats 2000000 in
theorem sameInts_same (A B : Option Addr) (n c1 c2 : Nat) (l : List Int) (w : World) (hl : Hid (ILies w A l)) (hl2 : Hid (ILies w B l)) (hx : Hid (l.length = n)) (hn : n ≤ 10000000) :
    Calls Try.prog 18 #[.slice A n c1, .slice B n c2] w fun e w' => e = .returned (.bool true) ∧ Below w.heap.size w w' := by
  have hnn : ((n : Int) != (n : Int)) = false := by simp
  go_enter Try.func18, Try.ntmps18
  go_wp2_with fail
  go_loopw [13] (fun i wr => ∃ k : Nat, k ≤ n ∧ i = .int .i64 k ∧ Below w.heap.size w wr) (fun i _ => n - (intOf i).toNat)
  case atStart => exact ⟨0, Nat.zero_le _, rfl, Below.refl _ _⟩
  case round =>
    obtain ⟨k, hk, rfl, hb⟩ := hrel
    have B1 := Lib.hid hb
    clear hb
    by_cases hlt : k < n
    · obtain ⟨y, hy⟩ : ∃ y, l[k]? = some y := ⟨_, List.getElem?_eq_getElem (by have := hx.out; omega)⟩
      obtain ⟨b, off, rfl, hbl, hc⟩ := (hl.out.below B1.out) k y hy
      obtain ⟨b2, off2, rfl, hbl2, hc2⟩ := (hl2.out.below B1.out) k y hy
      clear hy
      have hyy : (y != y) = false := by simp
      go_wp2_with fail
      go_quiet (fail)
      go_wp2
      go_roundw
      case rel => exact ⟨k + 1, by omega, by go_num, bdrewN B1.out _⟩
      case measure => simp [intOf]; omega
    · obtain rfl : k = n := by omega
      go_wp2
      go_ret
      exact ⟨rfl, B1.out⟩
theorem neq_arc0 (a b : Int) (w : World) : (binOp .neq 36 (.agg #[.int .i64 a, .int .i64 b]) (.agg #[.int .i64 a, .int .i64 b])).run Try.prog w = .ok (.bool false) w := by
  have h1 : (a == a) = true := by simp
  have h2 : (b == b) = true := by simp
  go_simp
set_option maxRecDepth 100000 in
set_option maxHeartbeats 2000000 in
theorem sameArcs_same (A B : Option Addr) (n c1 c2 : Nat) (l : AL) (w : World) (hl : Hid (ALies w A l)) (hl2 : Hid (ALies w B l)) (hx : Hid (l.length = n)) (hn : n ≤ 10000000) :
    Calls Try.prog 25 #[.slice A n c1, .slice B n c2] w fun e w' => e = .returned (.bool true) ∧ Below w.heap.size w w' := by
  have hnn : ((n : Int) != (n : Int)) = false := by simp
  go_enter Try.func25, Try.ntmps25
  go_wp2_with fail
  go_loopw [13] (fun i wr => ∃ k : Nat, k ≤ n ∧ i = .int .i64 k ∧ Below w.heap.size w wr) (fun i _ => n - (intOf i).toNat)
  case atStart => exact ⟨0, Nat.zero_le _, rfl, Below.refl _ _⟩
  case round =>
    obtain ⟨k, hk, rfl, hb⟩ := hrel
    have B1 := Lib.hid hb
    clear hb
    by_cases hlt : k < n
    · obtain ⟨y, hy⟩ : ∃ y, l[k]? = some y := ⟨_, List.getElem?_eq_getElem (by have := hx.out; omega)⟩
      obtain ⟨b, off, rfl, hbl, e0, e1⟩ := (hl.out.below B1.out) k y hy
      obtain ⟨b2, off2, rfl, hbl2, g0, g1⟩ := (hl2.out.below B1.out) k y hy
      clear hy
      have hne := fun W => neq_arc0 y.1 y.2 W
      go_wp2_with fail
      go_quiet (fail)
      go_wp2
      go_roundw
      case rel => exact ⟨k + 1, by omega, by go_num, bdrewN B1.out _⟩
      case measure => simp [intOf]; omega
    · obtain rfl : k = n := by omega
      go_wp2
      go_ret
      exact ⟨rfl, B1.out⟩
end Go.Proofs.Ytbmmajdacebncaa
