/-
  Contracts of the laws' own helpers that write a slice through and look whether it still holds what was written; and of the comparison of slices of ints.
-/
import Derived.Test.YtbmonndpblnjkaaLawGood
import Derived.Deep.QuietTactic
import Derived.BigQuiet
namespace Go.Proofs.Ytbmonndpblnjkaa
open Go.ChangeShapes Go.WideShapes Go.ChangeAt Go.RowKit

theorem own_below {w w' : World} {base : Nat} {e : TypeId} {size : Nat} {v : Value} {n : Nat} {xs : List Value} (h : w.ownsRow base e size v n xs) (hb : Below w.heap.size w w') : w'.ownsRow base e size v n xs := by
  refine ⟨h.1, ?_⟩
  rcases h.2 with hn | ⟨g, cap, cur, rfl, hg, hgg, rest⟩
  · exact .inl hn
  · exact .inr ⟨g, cap, cur, rfl, hg, (hb.block g (Array.getElem?_eq_some_iff.1 hgg).1).trans hgg, rest⟩
theorem grown_trans {a b c : World} {row : Option Nat} (h : a.grownBy b row) (k : b.grownBy c row) : a.grownBy c row :=
  ⟨k.os.trans h.os, k.tape.trans h.tape, k.output.trans h.output, Nat.le_trans h.size k.size, fun i hi hne => (k.block i (Nat.lt_of_lt_of_le hi h.size) hne).trans (h.block i hi hne)⟩
/-- the numbers from m on -/
def iota (m : Int) (n : Nat) : List Int := (List.range n).map fun (j : Nat) => m + (j : Int)
theorem iota_len (m : Int) (n : Nat) : (iota m n).length = n := by simp [iota]
theorem iota_succ (m : Int) (n : Nat) : iota m (n + 1) = iota m n ++ [m + n] := by simp [iota, List.range_succ]
theorem iota_at (m : Int) (n j : Nat) (h : j < n) : (iota m n)[j]? = some (m + j) := by simp [iota, h]
/-- the steps from m on -/
def stI (m : Int) (j : Nat) : Stp := ⟨m + j * 6, m + j * 6 + 1, m + j * 6 + 2, m + j * 6 + 3, m + j * 6 + 4, m + j * 6 + 5⟩
def stIs (m : Int) (n : Nat) : List Stp := (List.range n).map (stI m)
theorem stIs_len (m : Int) (n : Nat) : (stIs m n).length = n := by simp [stIs]
theorem stIs_at (m : Int) (n j : Nat) (h : j < n) : (stIs m n)[j]? = some (stI m j) := by simp [stIs, h]
theorem stIs_succ (m : Int) (n : Nat) : cellsOf (stIs m (n + 1)) = cellsOf (stIs m n) ++ (stI m n).cells := by simp [stIs, List.range_succ, cellsOf]

theorem set_iota (l : List Int) (m : Int) (j : Nat) (h : j < l.length) :
    (((iota m j ++ l.drop j).map (Value.int .i64)).set j (.int .i64 (m + j))) = (iota m (j + 1) ++ l.drop (j + 1)).map (Value.int .i64) := by
  rw [iota_succ, List.drop_eq_getElem_cons h, List.map_append, List.map_cons]
  have : ((iota m j).map (Value.int .i64)).length = j := by simp [iota_len]
  rw [List.set_append_right _ _ (by omega), this]
  simp

set_option maxHeartbeats 2000000 in
theorem markIntS_any (base n c : Nat) (A : Option Addr) (l : List Int) (m : Int) (w : World) (ho : Hid (w.ownsRow base 3 1 (.slice A n c) n (l.map (Value.int .i64)))) (hn : n ≤ 10000000) (hm : 0 ≤ m ∧ m ≤ 1000000000) :
    Calls Try.prog 31 #[.slice A n c, .int .i64 m] w fun e w' => e = .returned (.int .i64 (m + n)) ∧ w'.ownsRow base 3 1 (.slice A n c) n ((iota m n).map (Value.int .i64)) ∧ w.grownBy w' (Value.slice A n c).ownBlock := by
  have hll : l.length = n := by have := ho.out.1; simpa using this
  have HL := Lib.hid hll
  clear hll
  go_enter Try.func31, Try.ntmps31
  go_wp2_with fail
  go_loopw [1, 5] (fun kk i wr => ∃ j : Nat, j ≤ n ∧ i = .int .i64 j ∧ kk = .int .i64 (m + j) ∧ wr.ownsRow base 3 1 (.slice A n c) n ((iota m j ++ l.drop j).map (Value.int .i64)) ∧ w.grownBy wr (Value.slice A n c).ownBlock) (fun _ i _ => n - (intOf i).toNat)
  case atStart => exact ⟨0, Nat.zero_le _, rfl, by simp, by simpa [iota] using ho.out, World.grownBy.refl _ _⟩
  case round =>
    obtain ⟨j, hj, rfl, rfl, hown, hgr⟩ := hrel
    have O1 := Lib.hid hown
    have G1 := Lib.hid hgr
    clear hown hgr
    by_cases hlt : j < n
    · obtain ⟨g, cap, hv, hbg, hgl⟩ := O1.out.form (by omega)
      have hA : A = some ⟨g, 0, none⟩ := by injection hv
      clear hv
      subst hA
      have hv : ∃ v, wr.cell? ⟨g, j, none⟩ = some v := by
        have hlen : j < ((iota m j ++ l.drop j).map (Value.int .i64)).length := by simp [iota_len]; have := HL.out; omega
        have := O1.out.cells (g := g) rfl j _ (List.getElem?_eq_getElem hlen)
        rw [add_plain, Nat.zero_add] at this
        exact ⟨_, this⟩
      obtain ⟨v, hc⟩ := hv
      have hf : wr.frozen? ⟨g, j, none⟩ = false := by
        rcases O1.out.2 with ⟨h', _⟩ | ⟨g', cap', cur, h', hb, hg, hnc, hcm, hcs, htake⟩
        · simp at h'
        · simp only [Value.slice.injEq, Option.some.injEq, Addr.mk.injEq, and_true, true_and] at h'
          obtain ⟨rfl, rfl⟩ := h'
          simp [World.frozen?, hg]
      have O2 := Lib.hid (O1.out.stored j (.int .i64 (m + j)))
      have HS := Lib.hid (set_iota l m j (by have := HL.out; omega))
      go_wp2
      go_roundw
      case rel => exact ⟨j + 1, by omega, by go_num, by go_num, by rw [← HS.out]; exact O2.out.1, grown_trans G1.out O2.out.2⟩
      case measure => simp [intOf]; omega
    · obtain rfl : j = n := by omega
      go_wp2
      go_ret
      refine ⟨rfl, ?_, G1.out⟩
      have := O1.out
      rw [List.drop_of_length_le (by have := HL.out; omega), List.append_nil] at this
      exact this

set_option maxHeartbeats 2000000 in
theorem heldIntS_any (n c : Nat) (A : Option Addr) (m : Int) (w : World) (hl : Hid (ILies w A (iota m n))) (hn : n ≤ 10000000) (hm : 0 ≤ m ∧ m ≤ 1000000000) :
    Calls Try.prog 32 #[.slice A n c, .int .i64 m] w fun e w' => e = .returned (.int .i64 (m + n)) ∧ w = w' := by
  go_enter Try.func32, Try.ntmps32
  go_wp2_with fail
  go_loop [1, 5] (fun kk i => ∃ j : Nat, j ≤ n ∧ i = .int .i64 j ∧ kk = .int .i64 (m + j)) (fun _ i => n - (intOf i).toNat)
  case atStart => exact ⟨0, Nat.zero_le _, rfl, by simp⟩
  case round =>
    obtain ⟨j, hj, rfl, rfl⟩ := hrel
    by_cases hlt : j < n
    · obtain ⟨b, off, rfl, hb, hc⟩ := hl.out j _ (iota_at m n j hlt)
      have hne : ((m + (j : Int)) != (m + (j : Int))) = false := by simp
      go_wp2
      go_round
      case rel => exact ⟨j + 1, by omega, by go_num, by go_num⟩
      case measure => simp [intOf]; omega
    · obtain rfl : j = n := by omega
      go_wp2
      go_ret
      exact ⟨rfl, rfl⟩

set_option maxHeartbeats 2000000 in
theorem eqIntS_same (A B : Option Addr) (n c1 c2 : Nat) (l : List Int) (w : World) (hl : Hid (ILies w A l)) (hl2 : Hid (ILies w B l)) (hx : Hid (l.length = n)) (hn : n ≤ 10000000) :
    Calls Try.prog 30 #[.slice A n c1, .slice B n c2] w fun e w' => e = .returned (.bool true) ∧ Below w.heap.size w w' := by
  have hnn : ((n : Int) != (n : Int)) = false := by simp
  go_enter Try.func30, Try.ntmps30
  go_wp2_with fail
  go_loopw [5] (fun i wr => ∃ k : Nat, k ≤ n ∧ i = .int .i64 k ∧ Below w.heap.size w wr) (fun i _ => n - (intOf i).toNat)
  case atStart => exact ⟨0, Nat.zero_le _, rfl, Below.refl _ _⟩
  case round =>
    obtain ⟨k, hk, rfl, hb⟩ := hrel
    have B1 := Lib.hid hb
    clear hb
    by_cases hlt : k < n
    · obtain ⟨y, hy⟩ : ∃ y, l[k]? = some y := ⟨_, List.getElem?_eq_getElem (by have := hx.out; omega)⟩
      obtain ⟨b, off, rfl, hbl, hc⟩ := (hl.out.below B1.out) k y hy
      obtain ⟨b2, off2, rfl, hbl2, hc2⟩ := (hl2.out.below B1.out) k y hy
      clear hy
      have hyy : (y != y) = false := by simp
      go_wp2_with fail
      go_quiet (fail)
      go_wp2
      go_roundw
      case rel => exact ⟨k + 1, by omega, by go_num, bdrewN B1.out _⟩
      case measure => simp [intOf]; omega
    · obtain rfl : k = n := by omega
      go_wp2
      go_ret
      exact ⟨rfl, B1.out⟩
end Go.Proofs.Ytbmonndpblnjkaa
