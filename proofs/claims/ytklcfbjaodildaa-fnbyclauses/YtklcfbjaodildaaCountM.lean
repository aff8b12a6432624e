/-
  Contracts of the models of numbers and of CountModels: the program's and the model's.
-/
import Derived.Test.YtklcfbjaodildaaHolds
import Derived.Laws.BitsLemmas
namespace Go.Proofs.Ytklcfbjaodildaa
open Go.ChangeShapes Go.WideShapes Go.ChangeAt Go.RowKit

theorem ofInt_i64 (a : Nat) (ha : a < 9223372036854775808) : (BitVec.ofInt 64 (a : Int)).toNat = a := by
  rw [BitVec.ofInt_natCast, BitVec.toNat_ofNat]; exact Nat.mod_eq_of_lt (by omega)
theorem i64_and_nat (a b : Nat) (ha : a < 9223372036854775808) (hb : b < 9223372036854775808) : bits .and .i64 (a : Int) (b : Int) = ((a &&& b : Nat) : Int) := by
  have hx : a &&& b < 2 ^ 63 := Nat.and_lt_two_pow _ (by omega)
  show IntKind.i64.wrap ((BitVec.ofInt 64 (a : Int) &&& BitVec.ofInt 64 (b : Int)).toNat : Int) = _
  rw [BitVec.toNat_and, ofInt_i64 a ha, ofInt_i64 b hb, IntKind.wrap_i64]
  omega
theorem bit_test (N k : Nat) (hN : N < 9223372036854775808) : (bits .and .i64 ((N : Int) / 2 ^ k) 1 == 1) = N.testBit k := by
  have e : (N : Int) / 2 ^ k = ((N / 2 ^ k : Nat) : Int) := by push_cast; rfl
  have hl : N / 2 ^ k ≤ N := Nat.div_le_self _ _
  rw [e, show (1 : Int) = ((1 : Nat) : Int) by rfl, i64_and_nat _ _ (by omega) (by omega), Nat.and_one_is_mod, Nat.testBit_eq_decide_div_mod_eq, Bool.eq_iff_iff]
  simp
  omega
set_option maxRecDepth 100000 in
set_option maxHeartbeats 2000000 in
theorem modelOf_any (v N : Nat) (w : World) (hv : v ≤ 60) (hN : N < 9223372036854775808) :
    Calls Try.prog 79 #[.int .i64 v, .int .i64 N] w fun e w' => e = .returned (.slice (some ⟨w.heap.size, 0, none⟩) v v) ∧ Blk w' w.heap.size 4 ((modelN v N).map Value.bool) ∧ Below w.heap.size w w' := by
  obtain ⟨i0, hi0, hz0, hz1, hz2⟩ := info_parts info_bool
  go_enter Try.func79, Try.ntmps79
  go_wp2_with (at_make; (refine wpList_make_full _ rfl _ _ 49 rfl w.heap.size 4 i0 _ 1 Try.underlying49 hi0 hz0 hz1 _ _ _ _ v rfl rfl (by omega) (by omega) (by rw [hz2]; omega) (by unfold maxLen; omega) (Nat.le_refl _) ?_; intro w1 hown1 hg1; have HC := Lib.hid (VCopied.start (vs := (modelN v N).map Value.bool) (by simp [modelN_len]) hown1); have HB := Lib.hid ((Below.refl w.heap.size w).grown hg1 (Nat.le_refl _) (by simp)); clear hown1 hg1))
  go_loopw [11] (fun i wr => ∃ k : Nat, k ≤ v ∧ i = .int .i64 k ∧ VCopied 4 w.heap.size ((modelN v N).map Value.bool) k wr ∧ Below w.heap.size w wr) (fun i _ => v - (intOf i).toNat)
  case atStart => exact ⟨0, Nat.zero_le _, rfl, HC.out, HB.out⟩
  case round =>
    obtain ⟨k, hk, rfl, hc, hb⟩ := hrel
    have C1 := Lib.hid hc
    have B1 := Lib.hid hb
    clear hc hb HC HB
    by_cases hlt : k < v
    · have HXK : Hid (((modelN v N).map Value.bool)[k]? = some (.bool (N.testBit k))) := Lib.hid (by simp [modelN, hlt])
      obtain ⟨v0, t0⟩ := C1.out.there k (by simp [modelN_len]; omega)
      have f0 := C1.out.free k
      have hbt := bit_test N k hN
      go_wp2
      go_roundw
      case rel => exact ⟨k + 1, by omega, by go_num, C1.out.step HXK.out, B1.out.setCell (Nat.le_refl _) _⟩
      case measure => simp [intOf]; omega
    · obtain rfl : k = v := by omega
      go_wp2
      go_ret
      exact ⟨rfl, (by have h := C1.out; rw [show k = ((modelN k N).map Value.bool).length by simp [modelN_len]] at h; rw [List.length_map, modelN_len] at h; have h2 := VCopied.end_ (by rw [List.length_map, modelN_len]; exact h); exact h2), B1.out⟩
set_option maxRecDepth 100000 in
set_option maxHeartbeats 2000000 in
theorem l4Model_any (v N : Nat) (w : World) (hv : v ≤ 60) (hN : N < 9223372036854775808) :
    Calls Try.prog 83 #[.int .i64 v, .int .i64 N] w fun e w' => e = .returned (.slice (some ⟨w.heap.size, 0, none⟩) v v) ∧ Blk w' w.heap.size 4 ((modelN v N).map Value.bool) ∧ Below w.heap.size w w' := by
  obtain ⟨i0, hi0, hz0, hz1, hz2⟩ := info_parts info_bool
  go_enter Try.func83, Try.ntmps83
  go_wp2_with (at_make; (refine wpList_make_full _ rfl _ _ 49 rfl w.heap.size 4 i0 _ 1 Try.underlying49 hi0 hz0 hz1 _ _ _ _ v rfl rfl (by omega) (by omega) (by rw [hz2]; omega) (by unfold maxLen; omega) (Nat.le_refl _) ?_; intro w1 hown1 hg1; have HC := Lib.hid (VCopied.start (vs := (modelN v N).map Value.bool) (by simp [modelN_len]) hown1); have HB := Lib.hid ((Below.refl w.heap.size w).grown hg1 (Nat.le_refl _) (by simp)); clear hown1 hg1))
  go_loopw [11] (fun i wr => ∃ k : Nat, k ≤ v ∧ i = .int .i64 k ∧ VCopied 4 w.heap.size ((modelN v N).map Value.bool) k wr ∧ Below w.heap.size w wr) (fun i _ => v - (intOf i).toNat)
  case atStart => exact ⟨0, Nat.zero_le _, rfl, HC.out, HB.out⟩
  case round =>
    obtain ⟨k, hk, rfl, hc, hb⟩ := hrel
    have C1 := Lib.hid hc
    have B1 := Lib.hid hb
    clear hc hb HC HB
    by_cases hlt : k < v
    · have HXK : Hid (((modelN v N).map Value.bool)[k]? = some (.bool (N.testBit k))) := Lib.hid (by simp [modelN, hlt])
      obtain ⟨v0, t0⟩ := C1.out.there k (by simp [modelN_len]; omega)
      have f0 := C1.out.free k
      have hbt := bit_test N k hN
      go_wp2
      go_roundw
      case rel => exact ⟨k + 1, by omega, by go_num, C1.out.step HXK.out, B1.out.setCell (Nat.le_refl _) _⟩
      case measure => simp [intOf]; omega
    · obtain rfl : k = v := by omega
      go_wp2
      go_ret
      exact ⟨rfl, (by have h := C1.out; rw [show k = ((modelN k N).map Value.bool).length by simp [modelN_len]] at h; rw [List.length_map, modelN_len] at h; have h2 := VCopied.end_ (by rw [List.length_map, modelN_len]; exact h); exact h2), B1.out⟩

/-- what CountModels answers -/
def CountR (v : Int) (L : List (List Int)) (c : Int) (ok : Bool) : Prop := ok = goodB v L ∧ c = (if ok then (countB v.toNat L (2 ^ v.toNat) : Int) else 0)
theorem pow_le {v : Nat} (h : v ≤ 12) : 2 ^ v ≤ 4096 := Nat.pow_le_pow_right (by omega) h
theorem shl_one (v : Nat) (h : v ≤ 12) : IntKind.i64.wrap (1 * 2 ^ v) = ((2 ^ v : Nat) : Int) := by
  rw [IntKind.wrap_i64]
  have := pow_le h
  have e : (2 : Int) ^ v = ((2 ^ v : Nat) : Int) := by push_cast; rfl
  rw [Int.one_mul, e]
  generalize 2 ^ v = M at this ⊢
  omega
theorem countB_succ (v : Nat) (L : List (List Int)) (n : Nat) : countB v L (n + 1) = countB v L n + (if holdsB (modelN v n) L then 1 else 0) := rfl
theorem ret_ib {a b : Int} {c d : Bool} (h : a = b) (k : c = d) : Ending.returned (.tuple #[.int .i64 a, .bool c]) = .returned (.tuple #[.int .i64 b, .bool d]) := by rw [h, k]
set_option maxRecDepth 100000 in
set_option maxHeartbeats 4000000 in
theorem implCount_any (v : Int) (A : Option Addr) (n cap : Nat) (L : List (List Int)) (w : World) (c : Int) (ok : Bool) (hr : Hid (CountR v L c ok)) (hl : Hid (LLies w A L)) (HX : Hid (L.length = n)) (hn : n ≤ 9223372036854775807) :
    Calls Try.prog 20 #[.int .i64 v, .slice A n cap] w fun e w' => e = .returned (.tuple #[.int .i64 c, .bool ok]) ∧ Below w.heap.size w w' := by
  cases q1 : goodB v L
  · have E : Hid (c = 0 ∧ ok = false) := Lib.hid (by have := hr.out; unfold CountR at this; rw [q1] at this; obtain ⟨rfl, rfl⟩ := this; simp)
    go_enter Try.func20, Try.ntmps20
    go_wp2_with (go_at_call 76; refine (implGoodC_any _ _ _ _ L _ hl HX hn).mono ?_; rintro e w' ⟨rfl, rfl⟩; rw [q1])
    go_ret2
    exact ⟨ret_ib E.out.1.symm E.out.2.symm, Below.refl _ _⟩
  have hv := goodB_v q1
  obtain ⟨p, rfl⟩ : ∃ p : Nat, v = p := ⟨v.toNat, by omega⟩
  have hp : p ≤ 12 := by omega
  have E : Hid (c = (countB p L (2 ^ p) : Int) ∧ ok = true) := Lib.hid (by have := hr.out; unfold CountR at this; rw [q1] at this; obtain ⟨rfl, rfl⟩ := this; simp)
  have HI := Lib.hid (goodB_in12 q1)
  have HCL : Hid (∀ M : List Bool, M.length = p → holdF (trueL M) L = holdsB M L) := Lib.hid (fun M hM => hold_same (fun c hc x hx => by rw [hM]; exact clauseB_lits (goodB_cl q1 c hc) x hx))
  clear hv
  obtain ⟨T, hT⟩ : ∃ T : Nat, 2 ^ p = T := ⟨_, rfl⟩
  have hT2 : T ≤ 4096 := by rw [← hT]; exact pow_le hp
  have hsh := shl_one p hp
  rw [hT] at E hsh
  have hsh2 : IntKind.i64.wrap (2 ^ p) = (T : Int) := by rw [← hsh, Int.one_mul]
  clear hT
  go_enter Try.func20, Try.ntmps20
  go_wp2_with (go_at_call 76; refine (implGoodC_any _ _ _ _ L _ hl HX hn).mono ?_; rintro e w' ⟨rfl, rfl⟩; rw [q1])
  go_loopw [6, 14] (fun cc i wr => ∃ k : Nat, k ≤ T ∧ i = .int .i64 k ∧ (∃ q : Nat, countB p L k = q ∧ q ≤ k ∧ cc = .int .i64 q) ∧ Below w.heap.size w wr) (fun _ i _ => T - (intOf i).toNat)
  case atStart => exact ⟨0, Nat.zero_le _, rfl, ⟨0, rfl, Nat.le_refl _, rfl⟩, Below.refl _ _⟩
  case round =>
    obtain ⟨k, hk, rfl, ⟨q, hq, hqk, rfl⟩, hb⟩ := hrel
    have HQ := Lib.hid hq
    have B1 := Lib.hid hb
    clear hq hb
    by_cases hlt : k < T
    · have HS := Lib.hid (countB_succ p L k)
      have L1 := Lib.hid (hl.out.below B1.out)
      go_wp2_with fail
      refine (modelOf_any p k _ (by omega) (by omega)).mono ?_
      rintro e w1 ⟨rfl, hk1, hb1⟩
      have M1 := Lib.hid hk1.blies
      have B2 := Lib.hid (Below.tr B1.out hb1)
      have L2 := Lib.hid (L1.out.below hb1)
      clear hk1 hb1 L1 B1
      go_wp2_with fail
      refine (trueLits_any _ _ _ (modelN p k) _ M1 (modelN_len p k) hp).mono ?_
      rintro e w' ⟨rfl, rfl⟩
      go_wp2_with fail
      refine (holdIn_any _ _ _ _ L _ (Lib.hid (trueL_in12 (by rw [modelN_len]; exact hp))) L2 HX HI hn).mono ?_
      rintro e w' ⟨rfl, rfl⟩
      rw [HCL.out _ (modelN_len p k)]
      cases qh : holdsB (modelN p k) L
      · go_wp2
        go_roundw
        case rel => exact ⟨k + 1, by omega, by go_num, ⟨q, by rw [HS.out, HQ.out, qh]; rfl, by omega, rfl⟩, B2.out⟩
        case measure => simp [intOf]; omega
      · go_wp2
        go_roundw
        case rel => exact ⟨k + 1, by omega, by go_num, ⟨q + 1, by rw [HS.out, HQ.out, qh]; rfl, by omega, by go_num⟩, B2.out⟩
        case measure => simp [intOf]; omega
    · obtain rfl : k = T := by omega
      go_wp2
      go_ret2
      exact ⟨ret_ib (by rw [E.out.1, HQ.out]) E.out.2.symm, B1.out⟩
end Go.Proofs.Ytklcfbjaodildaa
