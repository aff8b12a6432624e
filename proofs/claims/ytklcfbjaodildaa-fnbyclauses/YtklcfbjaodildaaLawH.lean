/-
  The laws' own helpers: lists compared, literals in a model, the model of a number; drawn arguments.
-/
import Derived.Test.YtklcfbjaodildaaDrawCl2
import Derived.Test.YtklcfbjaodildaaSnd
namespace Go.Proofs.Ytklcfbjaodildaa
open Go.ChangeShapes Go.WideShapes Go.ChangeAt Go.RowKit

set_option maxRecDepth 100000 in
set_option maxHeartbeats 2000000 in
theorem sameInts_same (A B : Option Addr) (n c1 c2 : Nat) (l : List Int) (w : World) (hl : Hid (ILies w A l)) (hl2 : Hid (ILies w B l)) (hx : Hid (l.length = n)) (hn : n ≤ 10000000) :
    Calls Try.prog 103 #[.slice A n c1, .slice B n c2] w fun e w' => e = .returned (.bool true) ∧ Below w.heap.size w w' := by
  have hnn : ((n : Int) != (n : Int)) = false := by simp
  go_enter Try.func103, Try.ntmps103
  go_wp2_with fail
  go_loopw [13] (fun i wr => ∃ k : Nat, k ≤ n ∧ i = .int .i64 k ∧ Below w.heap.size w wr) (fun i _ => n - (intOf i).toNat)
  case atStart => exact ⟨0, Nat.zero_le _, rfl, Below.refl _ _⟩
  case round =>
    obtain ⟨k, hk, rfl, hb⟩ := hrel
    have B1 := Lib.hid hb
    clear hb
    by_cases hlt : k < n
    · obtain ⟨y, hy⟩ : ∃ y, l[k]? = some y := ⟨_, List.getElem?_eq_getElem (by have := hx.out; omega)⟩
      obtain ⟨b, off, rfl, hbl, hc⟩ := (hl.out.below B1.out) k y hy
      obtain ⟨b2, off2, rfl, hbl2, hc2⟩ := (hl2.out.below B1.out) k y hy
      clear hy
      have hyy : (y != y) = false := by simp
      go_wp2_with fail
      go_quiet (fail)
      go_wp2
      go_roundw
      case rel => exact ⟨k + 1, by omega, by go_num, bdrewN B1.out _⟩
      case measure => simp [intOf]; omega
    · obtain rfl : k = n := by omega
      go_wp2
      go_ret
      exact ⟨rfl, B1.out⟩
set_option maxRecDepth 100000 in
set_option maxHeartbeats 2000000 in
theorem sameRows_same (A B : Option Addr) (n c1 c2 : Nat) (L : List (List Int)) (w : World) (hl : Hid (LLies w A L)) (hl2 : Hid (LLies w B L)) (hx : Hid (L.length = n)) (hn : n ≤ 10000000) (HT : Hid (tot L ≤ 10000000)) :
    Calls Try.prog 33 #[.slice A n c1, .slice B n c2] w fun e w' => e = .returned (.bool true) ∧ Below w.heap.size w w' := by
  have hnn : ((n : Int) != (n : Int)) = false := by simp
  go_enter Try.func33, Try.ntmps33
  go_wp2_with fail
  go_loopw [13] (fun i wr => ∃ k : Nat, k ≤ n ∧ i = .int .i64 k ∧ Below w.heap.size w wr) (fun i _ => n - (intOf i).toNat)
  case atStart => exact ⟨0, Nat.zero_le _, rfl, Below.refl _ _⟩
  case round =>
    obtain ⟨k, hk, rfl, hb⟩ := hrel
    have B1 := Lib.hid hb
    clear hb
    by_cases hlt : k < n
    · obtain ⟨y, hy⟩ : ∃ y, L[k]? = some y := ⟨_, List.getElem?_eq_getElem (by have := hx.out; omega)⟩
      obtain ⟨b, off, a, c, rfl, hbl, hc, -, hml, hi⟩ := (hl.out.below B1.out) k y hy
      obtain ⟨b2, off2, a2, cc2, rfl, hbl2, hc2, -, -, hi2⟩ := (hl2.out.below B1.out) k y hy
      have I1 := Lib.hid hi
      have I2 := Lib.hid hi2
      have hmt : y.length ≤ 10000000 := by have := tot_mem hy; have := HT.out; omega
      clear hy hi hi2
      obtain ⟨m, hm⟩ : ∃ m, y.length = m := ⟨_, rfl⟩
      rw [hm] at hc hc2 hml hmt
      have HM := Lib.hid hm
      clear hm
      go_wp2_with fail
      go_still_tail 8, (by kernel_rfl)
      change wpList _ _ _ _ _ wr.drew
      have B2 : Hid (Below w.heap.size w wr.drew) := B1.out.drew
      have I3 := Lib.hid (I1.out.below (Below.refl _ _).drew)
      have I4 := Lib.hid (I2.out.below (Below.refl _ _).drew)
      generalize wr.drew = w2 at B2 I3 I4 ⊢
      clear hc hc2
      go_wp2_with (go_at_call 103; refine (sameInts_same _ _ _ _ _ y _ I3 I4 HM hmt).mono ?_; rintro e w3 ⟨rfl, hb3⟩; have B3 := Lib.hid (Below.tr B2.out hb3); clear hb3)
      go_roundw
      case rel => exact ⟨k + 1, by omega, by go_num, B3.out⟩
      case measure => simp [intOf]; omega
    · obtain rfl : k = n := by omega
      go_wp2
      go_ret
      exact ⟨rfl, B1.out⟩
set_option maxRecDepth 100000 in
set_option maxHeartbeats 2000000 in
theorem modelL_any (v N : Nat) (w : World) (hv : v ≤ 60) (hN : N < 9223372036854775808) :
    Calls Try.prog 38 #[.int .i64 v, .int .i64 N] w fun e w' => e = .returned (.slice (some ⟨w.heap.size, 0, none⟩) v v) ∧ Blk w' w.heap.size 4 ((modelN v N).map Value.bool) ∧ Below w.heap.size w w' := by
  obtain ⟨i0, hi0, hz0, hz1, hz2⟩ := info_parts info_bool
  go_enter Try.func38, Try.ntmps38
  go_wp2_with (at_make; (refine wpList_make_full _ rfl _ _ 49 rfl w.heap.size 4 i0 _ 1 Try.underlying49 hi0 hz0 hz1 _ _ _ _ v rfl rfl (by omega) (by omega) (by rw [hz2]; omega) (by unfold maxLen; omega) (Nat.le_refl _) ?_; intro w1 hown1 hg1; have HC := Lib.hid (VCopied.start (vs := (modelN v N).map Value.bool) (by simp [modelN_len]) hown1); have HB := Lib.hid ((Below.refl w.heap.size w).grown hg1 (Nat.le_refl _) (by simp)); clear hown1 hg1))
  go_loopw [11] (fun i wr => ∃ k : Nat, k ≤ v ∧ i = .int .i64 k ∧ VCopied 4 w.heap.size ((modelN v N).map Value.bool) k wr ∧ Below w.heap.size w wr) (fun i _ => v - (intOf i).toNat)
  case atStart => exact ⟨0, Nat.zero_le _, rfl, HC.out, HB.out⟩
  case round =>
    obtain ⟨k, hk, rfl, hc, hb⟩ := hrel
    have C1 := Lib.hid hc
    have B1 := Lib.hid hb
    clear hc hb HC HB
    by_cases hlt : k < v
    · have HXK : Hid (((modelN v N).map Value.bool)[k]? = some (.bool (N.testBit k))) := Lib.hid (by simp [modelN, hlt])
      obtain ⟨v0, t0⟩ := C1.out.there k (by simp [modelN_len]; omega)
      have f0 := C1.out.free k
      have hbt := bit_test N k hN
      go_wp2
      go_roundw
      case rel => exact ⟨k + 1, by omega, by go_num, C1.out.step HXK.out, B1.out.setCell (Nat.le_refl _) _⟩
      case measure => simp [intOf]; omega
    · obtain rfl : k = v := by omega
      go_wp2
      go_ret
      exact ⟨rfl, (by have h := C1.out; rw [show k = ((modelN k N).map Value.bool).length by simp [modelN_len]] at h; rw [List.length_map, modelN_len] at h; have h2 := VCopied.end_ (by rw [List.length_map, modelN_len]; exact h); exact h2), B1.out⟩


theorem allT_at (M : List Bool) (l : List Int) (k : Nat) (x : Int) (h : l[k]? = some x) : allT M (l.drop k) = (litT M x && allT M (l.drop (k + 1))) := by
  have hlt : k < l.length := (List.getElem?_eq_some_iff.1 h).1
  have e : l[k] = x := (List.getElem?_eq_some_iff.1 h).2
  unfold allT
  rw [List.drop_eq_getElem_cons hlt, List.all_cons, e]
set_option maxRecDepth 100000 in
set_option maxHeartbeats 4000000 in
theorem allIn_any (A B : Option Addr) (n m cap c2 : Nat) (l : List Int) (M : List Bool) (w : World) (hl : Hid (ILies w A l)) (hl2 : Hid (BLies w B M)) (HX : Hid (l.length = n)) (HY : Hid (M.length = m)) (HI : Hid (∀ x ∈ l, litB m x = true)) (hn : n ≤ 9223372036854775807) (hm : m ≤ 1000) :
    Calls Try.prog 48 #[.slice A n cap, .slice B m c2] w fun e w' => e = .returned (.bool (allT M l)) ∧ w = w' := by
  go_enter Try.func48, Try.ntmps48
  go_wp2_with fail
  go_loop [9] (fun i => ∃ k : Nat, k ≤ n ∧ i = .int .i64 k ∧ allT M l = allT M (l.drop k)) (fun i => n - (intOf i).toNat)
  case atStart => exact ⟨0, Nat.zero_le _, rfl, rfl⟩
  case round =>
    obtain ⟨k, hk, rfl, hcl⟩ := hrel
    have HC := Lib.hid hcl
    clear hcl
    by_cases hlt : k < n
    · obtain ⟨x, hx⟩ : ∃ x, l[k]? = some x := ⟨_, List.getElem?_eq_getElem (by have := HX.out; omega)⟩
      obtain ⟨b, off, rfl, hbl, ha⟩ := hl.out k x hx
      have HS := Lib.hid (allT_at M l k x hx)
      have hx3 := litB_iff.1 (HI.out x (List.mem_of_getElem? hx))
      have h0 : x ≠ 0 := hx3.1
      have h1 : -(m : Int) ≤ x := hx3.2.1
      have h2 : x ≤ m := hx3.2.2
      clear hx hx3
      by_cases hs : x < 0
      · obtain ⟨j, hj⟩ : ∃ j : Nat, -x - 1 = j := ⟨(-x - 1).toNat, by omega⟩
        have hjl : j < M.length := by have := HY.out; omega
        obtain ⟨b2, off2, rfl, hbl2, ha2⟩ := hl2.out j _ (List.getElem?_eq_getElem hjl)
        obtain ⟨y, hy⟩ : ∃ y, M[j] = y := ⟨_, rfl⟩
        rw [hy] at ha2
        have E : Hid (litT M x = !y) := Lib.hid (by unfold litT; rw [if_pos hs, show (-x - 1).toNat = j by omega, List.getElem?_eq_getElem hjl, hy]; rfl)
        clear hjl hy
        obtain rfl : x = -(j : Int) - 1 := by omega
        clear hj
        have he : (-(-(j : Int) - 1)).toNat - 1 = j := by omega
        cases y
        · go_wp2
          go_round
          case rel => exact ⟨k + 1, by omega, by go_num, by rw [HC.out, HS.out, E.out]; rfl⟩
          case measure => simp [intOf]; omega
        · have EF : Hid (allT M l = false) := Lib.hid (by rw [HC.out, HS.out, E.out]; rfl)
          go_wp2
          go_ret
          exact ⟨ret_bool EF.out.symm, rfl⟩
      · obtain ⟨j, hj⟩ : ∃ j : Nat, x - 1 = j := ⟨(x - 1).toNat, by omega⟩
        have hjl : j < M.length := by have := HY.out; omega
        obtain ⟨b2, off2, rfl, hbl2, ha2⟩ := hl2.out j _ (List.getElem?_eq_getElem hjl)
        obtain ⟨y, hy⟩ : ∃ y, M[j] = y := ⟨_, rfl⟩
        rw [hy] at ha2
        have E : Hid (litT M x = y) := Lib.hid (by unfold litT; rw [if_neg hs, show (x - 1).toNat = j by omega, List.getElem?_eq_getElem hjl, hy]; rfl)
        clear hjl hy
        obtain rfl : x = (j : Int) + 1 := by omega
        clear hj
        cases y
        · have EF : Hid (allT M l = false) := Lib.hid (by rw [HC.out, HS.out, E.out]; rfl)
          go_wp2
          go_ret
          exact ⟨ret_bool EF.out.symm, rfl⟩
        · go_wp2
          go_round
          case rel => exact ⟨k + 1, by omega, by go_num, by rw [HC.out, HS.out, E.out]; rfl⟩
          case measure => simp [intOf]; omega
    · obtain rfl : k = n := by omega
      have E : Hid (allT M l = true) := Lib.hid (by rw [HC.out, List.drop_of_length_le (by have := HX.out; omega)]; rfl)
      go_wp2
      go_ret
      exact ⟨ret_bool E.out.symm, rfl⟩
/-- drawn clauses and given literals -/
def DrewP (w : World) (e : Ending) (w' : World) : Prop :=
  ∃ (v : Int) (L : List (List Int)) (given : List Int) (A B : Option Addr) (c1 c2 : Nat), e = .returned (.tuple #[.int .i64 v, .slice A L.length c1, .slice B given.length c2]) ∧ (0 ≤ v ∧ v ≤ 13) ∧ L.length ≤ 13 ∧ tot L ≤ 100 ∧ given.length ≤ 3 ∧
    LLies w' A L ∧ w'.ownsRow w.heap.size 3 1 (.slice B given.length c2) given.length (given.map (Value.int .i64)) ∧ Below w.heap.size w w'
theorem own_nil {w : World} {base n c : Nat} {t : TypeId} {A : Option Addr} {xs : List Value} (h : w.ownsRow base t 1 (.slice A n c) n xs) : A = none → n = 0 ∧ c = 0 := by
  rintro rfl
  rcases h.2 with ⟨h', _⟩ | ⟨g', cap', cur, h', _⟩
  · simp only [Value.slice.injEq, true_and] at h'; exact h'
  · simp at h'
end Go.Proofs.Ytklcfbjaodildaa
