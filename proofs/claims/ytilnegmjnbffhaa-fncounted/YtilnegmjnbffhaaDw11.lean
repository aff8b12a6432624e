/-
  Drawn programs with an index, as chapter 11's named laws draw them; their helpers sameInts and has.
-/
import Derived.Test.YtilnegmjnbffhaaDrawProg
import Derived.Test.YtilnegmjnbffhaaBytes
import Derived.Test.YtilnegmjnbffhaaPutD
namespace Go.Proofs.Ytilnegmjnbffhaa
open Go.ChangeShapes Go.WideShapes Go.ChangeAt Go.RowKit

/-- a drawn program and an index -/
def DrewN (w : World) (e : Ending) (w' : World) : Prop :=
  ∃ (xs : List Stp) (A : Option Addr) (cap : Nat) (at_ : Int), e = .returned (.tuple #[.slice A xs.length cap, .int .i64 at_]) ∧ (1 ≤ xs.length ∧ xs.length ≤ 20) ∧ (-1 ≤ at_ ∧ at_ ≤ xs.length) ∧ w'.ownsRow w.heap.size 61 6 (.slice A xs.length cap) xs.length (cellsOf xs) ∧ Below w.heap.size w w'
set_option maxRecDepth 100000 in
set_option maxHeartbeats 1000000 in
theorem drawNexts_any (a0 : Option Addr) (len cap : Nat) (w : World) (h : Hid (Bytes w a0 len)) :
    Calls Try.prog 37 #[.slice a0 len cap] w (DrewN w) := by
  go_enter Try.func37, Try.ntmps37
  go_wp2_with fail
  refine (program_any w.heap.size 0 _ (Cur.new h.out) (by omega)).mono ?_
  rintro e w1 ⟨xs, A, cp, rfl, hl, hp⟩
  have P1 := Lib.hid hp
  clear hp
  obtain ⟨n, hn⟩ : ∃ n, xs.length = n := ⟨_, rfl⟩
  rw [hn] at hl ⊢
  have HN := Lib.hid hn
  clear hn
  have hn1 : 1 ≤ n := hl.1
  have hn2 : n ≤ 20 := hl.2
  clear hl
  go_wp2_with fail
  refine (pickP _ w.heap.size _ xs A cp _ _ P1 (by omega) (by omega) (by omega)).mono ?_
  rintro e w2 ⟨k, ⟨hk1, hk2⟩, rfl, hp2⟩
  have P2 := Lib.hid hp2
  clear hp2
  go_wp2
  go_ret2
  exact ⟨xs, A, cp, k - 1, by rw [HN.out]; rfl, by rw [HN.out]; omega, by rw [HN.out]; omega, own_base P2.out.2.1 (by simp), below_new P2.out.2.2.1⟩
theorem own_liesN {w : World} {base n cap : Nat} {A : Option Addr} {t : TypeId} {xs : List Stp} (h : w.ownsRow base t 6 (.slice A n cap) n (cellsOf xs)) (hx : xs.length = n) : Lies w A xs := by
  intro i x hi
  have hlt : i < xs.length := (List.getElem?_eq_some_iff.1 hi).1
  obtain ⟨g, cp, hv, _, hg⟩ := h.form (by omega)
  have hA : A = some ⟨g, 0, none⟩ := by injection hv
  subst hA
  exact own_lies h i x hi
/-- a drawn program, from the bytes that came in -/
def DrewProg (w : World) (e : Ending) (w' : World) : Prop :=
  ∃ (xs : List Stp) (A : Option Addr) (cap : Nat), e = .returned (.slice A xs.length cap) ∧ (1 ≤ xs.length ∧ xs.length ≤ 20) ∧ w'.ownsRow w.heap.size 61 6 (.slice A xs.length cap) xs.length (cellsOf xs) ∧ Below w.heap.size w w'

set_option maxRecDepth 100000 in
set_option maxHeartbeats 1000000 in
theorem drawGood_any (a0 : Option Addr) (len cap : Nat) (w : World) (h : Hid (Bytes w a0 len)) :
    Calls Try.prog 46 #[.slice a0 len cap] w (DrewProg w) := by
  go_enter Try.func46, Try.ntmps46
  go_wp2_with fail
  refine (program_any w.heap.size 0 _ (Cur.new h.out) (by omega)).mono ?_
  rintro e w1 ⟨xs, A, cp, rfl, hl, hp⟩
  have P1 := Lib.hid hp
  clear hp
  go_wp2
  go_ret
  exact ⟨xs, A, cp, rfl, hl, own_base P1.out.2.1 (by simp), below_new P1.out.2.2.1⟩
set_option maxRecDepth 100000 in
set_option maxHeartbeats 2000000 in
theorem sameInts_same (A B : Option Addr) (n c1 c2 : Nat) (l : List Int) (w : World) (hl : Hid (ILies w A l)) (hl2 : Hid (ILies w B l)) (hx : Hid (l.length = n)) (hn : n ≤ 10000000) :
    Calls Try.prog 16 #[.slice A n c1, .slice B n c2] w fun e w' => e = .returned (.bool true) ∧ Below w.heap.size w w' := by
  have hnn : ((n : Int) != (n : Int)) = false := by simp
  go_enter Try.func16, Try.ntmps16
  go_wp2_with fail
  go_loopw [13] (fun i wr => ∃ k : Nat, k ≤ n ∧ i = .int .i64 k ∧ Below w.heap.size w wr) (fun i _ => n - (intOf i).toNat)
  case atStart => exact ⟨0, Nat.zero_le _, rfl, Below.refl _ _⟩
  case round =>
    obtain ⟨k, hk, rfl, hb⟩ := hrel
    have B1 := Lib.hid hb
    clear hb
    by_cases hlt : k < n
    · obtain ⟨y, hy⟩ : ∃ y, l[k]? = some y := ⟨_, List.getElem?_eq_getElem (by have := hx.out; omega)⟩
      obtain ⟨b, off, rfl, hbl, hc⟩ := (hl.out.below B1.out) k y hy
      obtain ⟨b2, off2, rfl, hbl2, hc2⟩ := (hl2.out.below B1.out) k y hy
      clear hy
      have hyy : (y != y) = false := by simp
      go_wp2_with fail
      go_quiet (fail)
      go_wp2
      go_roundw
      case rel => exact ⟨k + 1, by omega, by go_num, bdrewN B1.out _⟩
      case measure => simp [intOf]; omega
    · obtain rfl : k = n := by omega
      go_wp2
      go_ret
      exact ⟨rfl, B1.out⟩
set_option maxRecDepth 100000 in
set_option maxHeartbeats 1000000 in
theorem hasL_any (A : Option Addr) (n cap : Nat) (l : List Int) (y : Int) (w : World) (hl : Hid (ILies w A l)) (HX : Hid (l.length = n)) (hn : n ≤ 9223372036854775807) :
    Calls Try.prog 18 #[.slice A n cap, .int .i64 y] w fun e w' => e = .returned (.bool (decide (y ∈ l))) ∧ w = w' := by
  go_enter Try.func18, Try.ntmps18
  go_wp2_with fail
  go_loop [9] (fun i => ∃ k : Nat, k ≤ n ∧ i = .int .i64 k ∧ y ∉ l.take k) (fun i => n - (intOf i).toNat)
  case atStart => exact ⟨0, Nat.zero_le _, rfl, by simp⟩
  case round =>
    obtain ⟨k, hk, rfl, hnot⟩ := hrel
    have HN := Lib.hid hnot
    clear hnot
    by_cases hlt : k < n
    · obtain ⟨x, hx⟩ : ∃ x, l[k]? = some x := ⟨_, List.getElem?_eq_getElem (by have := HX.out; omega)⟩
      obtain ⟨b, off, rfl, hbl, ha⟩ := hl.out k x hx
      have HT := Lib.hid (take_snoc hx)
      have HM := Lib.hid (List.mem_of_getElem? hx)
      clear hx
      cases q : (x == y)
      · go_wp2
        go_round
        case rel => exact ⟨k + 1, by omega, by go_num, by rw [HT.out]; simp at q; simp; exact ⟨HN.out, fun e => q e.symm⟩⟩
        case measure => simp [intOf]; omega
      · have E : Hid (decide (y ∈ l) = true) := Lib.hid (by simp at q; subst q; simpa using HM.out)
        go_wp2
        go_ret
        exact ⟨ret_bool E.out.symm, rfl⟩
    · obtain rfl : k = n := by omega
      have E : Hid (decide (y ∈ l) = false) := Lib.hid (by have := HN.out; rw [List.take_of_length_le (by have := HX.out; omega)] at this; simpa using this)
      go_wp2
      go_ret
      exact ⟨ret_bool E.out.symm, rfl⟩
set_option maxRecDepth 100000 in
set_option maxHeartbeats 1000000 in
theorem drawWay_any (a0 : Option Addr) (len cap : Nat) (w : World) (h : Hid (Bytes w a0 len)) :
    Calls Try.prog 11 #[.slice a0 len cap] w (DrewN w) := by
  go_enter Try.func11, Try.ntmps11
  go_wp2_with fail
  refine (drawNexts_any a0 len cap _ h).mono ?_
  rintro e w1 ⟨xs, A, cp, at_, rfl, hl, hat, ho, hb⟩
  have O1 := Lib.hid ho
  have B1 := Lib.hid hb
  clear ho hb
  go_wp2
  go_ret2
  exact ⟨xs, A, cp, at_, rfl, hl, hat, O1.out, B1.out⟩
set_option maxRecDepth 100000 in
set_option maxHeartbeats 1000000 in
theorem drawEnds_any (a0 : Option Addr) (len cap : Nat) (w : World) (h : Hid (Bytes w a0 len)) :
    Calls Try.prog 22 #[.slice a0 len cap] w (DrewN w) := by
  go_enter Try.func22, Try.ntmps22
  go_wp2_with fail
  refine (drawNexts_any a0 len cap _ h).mono ?_
  rintro e w1 ⟨xs, A, cp, at_, rfl, hl, hat, ho, hb⟩
  have O1 := Lib.hid ho
  have B1 := Lib.hid hb
  clear ho hb
  go_wp2
  go_ret2
  exact ⟨xs, A, cp, at_, rfl, hl, hat, O1.out, B1.out⟩
set_option maxRecDepth 100000 in
set_option maxHeartbeats 1000000 in
theorem drawLead_any (a0 : Option Addr) (len cap : Nat) (w : World) (h : Hid (Bytes w a0 len)) :
    Calls Try.prog 19 #[.slice a0 len cap] w (DrewProg w) := by
  go_enter Try.func19, Try.ntmps19
  go_wp2_with fail
  refine (drawGood_any a0 len cap _ h).mono ?_
  rintro e w1 ⟨xs, A, cp, rfl, hl, ho, hb⟩
  have O1 := Lib.hid ho
  have B1 := Lib.hid hb
  clear ho hb
  go_wp2
  go_ret
  exact ⟨xs, A, cp, rfl, hl, O1.out, B1.out⟩
end Go.Proofs.Ytilnegmjnbffhaa
