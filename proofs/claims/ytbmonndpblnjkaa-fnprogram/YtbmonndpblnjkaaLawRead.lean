/-
  The walk of the law of ReadProgram.
-/
import Derived.Test.YtbmonndpblnjkaaRead3
namespace Go.Proofs.Ytbmonndpblnjkaa
open Go.ChangeShapes Go.WideShapes Go.ChangeAt Go.RowKit

set_option maxHeartbeats 400000 in
theorem markStepS_nil (m : Int) (w : World) : Calls Try.prog 26 #[.slice none 0 0, .int .i64 m] w fun e w' => e = .returned (.int .i64 m) ∧ w = w' := by
  go_enter Try.func26, Try.ntmps26
  go_wp2_with fail
  refine wp_loop_rounds 1 ?_
  rw [rounds_succ]
  go_wp2
  go_ret
  exact ⟨rfl, rfl⟩
theorem markStepS_own (base n c : Nat) (A : Option Addr) (vs : List Value) (m : Int) (w : World) (ho : Hid (w.ownsRow base 36 6 (.slice A n c) n vs)) (hn : n ≤ 10000000) (hm : 0 ≤ m ∧ m ≤ 1000000000) :
    Calls Try.prog 26 #[.slice A n c, .int .i64 m] w fun e w' => e = .returned (.int .i64 (m + n * 6)) ∧ w'.ownsRow base 36 6 (.slice A n c) n (cellsOf (stIs m n)) ∧ w.grownBy w' (Value.slice A n c).ownBlock := by
  rcases ho.out.2 with ⟨h', h0⟩ | ⟨g', cap', cur, h', hb, hg, hnc, hcm, hcs, htake⟩
  · simp only [Value.slice.injEq] at h'
    obtain ⟨rfl, rfl, rfl⟩ := h'
    refine (markStepS_nil m w).mono fun e w' ⟨he, hw⟩ => ?_
    subst hw
    refine ⟨?_, World.ownsRow_nil _ _ _ _, World.grownBy.refl _ _⟩
    rw [he]
    exact ret_int (by simp)
  · simp only [Value.slice.injEq, true_and] at h'
    obtain ⟨rfl, rfl⟩ := h'
    exact markStepS_any base n c g' vs m w ho hn hm
theorem ReadRes.len {s : ByteArray} {l : List Stp} {code : Int} {b : Bool} (h : ReadRes s l code b) : l.length ≤ 20 := by
  by_cases hb : 160 < s.size
  · rw [(h.1 hb).1]; simp
  · have hf := h.2 hb
    rcases Classical.em ((rdF s 41 0 []).1 = 0) with h0 | h0
    · rcases Classical.em (Good (rdF s 41 0 []).2) with hg | hg
      · rw [(hf.2.1 h0 hg).1]; exact hg.1.2
      · rw [(hf.2.2 h0 hg).1]; simp
    · rw [(hf.1 h0).1]; simp

set_option maxRecDepth 100000 in
set_option maxHeartbeats 4000000 in
theorem lawRead (s : ByteArray) (w : World) (hm : s.size ≤ maxLen) :
    Calls Try.prog 7 #[.string s] w fun e w' => e = .returned (.bool true) ∧ Below w.heap.size w w' := by
  unfold maxLen at hm
  by_cases hbig : 1048576 < s.size
  · have hb' : (1048576 : Int) < (s.size : Int) := by omega
    go_enter Try.func7, Try.ntmps7
    go_wp2
    go_ret
    exact ⟨rfl, Below.refl _ _⟩
  · have hs : s.size ≤ 1048576 := by omega
    have hb' : decide ((1048576 : Int) < (s.size : Int)) = false := by simp; omega
    obtain ⟨l, code, b, hr⟩ := read_res s
    have HR := Lib.hid hr
    have hll : l.length ≤ 20 := hr.len
    clear hr
    have hcc : (code != code) = false := by simp
    have hbb : (b != b) = false := by simp
    go_enter Try.func7, Try.ntmps7
    go_wp2_with fail
    refine (specRead_any s _ l code b HR hs).mono ?_
    rintro e w1 ⟨A0, c0, rfl, ho, hb1⟩
    have O0 := Lib.hid ho
    have B1 := Lib.hid hb1
    clear ho hb1
    have F0 := Lib.hid (fun g h => (O0.out.lt g h).2)
    go_wp2_with fail
    refine (implRead_any s _ l code b HR hs).mono ?_
    rintro e w2 ⟨A1, c1, rfl, ho, hb2⟩
    have O1 := Lib.hid ho
    have B2 := Lib.hid (Below.tr B1.out hb2)
    have O02 := Lib.hid (own_below O0.out hb2)
    clear ho hb2 O0
    have F1 := Lib.hid (fun g h => (O1.out.lt g h).1)
    go_wp2_with fail
    refine (eqStepS_same _ _ _ _ _ l _ (own_lies' O1.out) (own_lies' O02.out) (Lib.hid rfl) (by omega)).mono ?_
    rintro e w3 ⟨rfl, hb3⟩
    have B3 := Lib.hid (Below.tr B2.out hb3)
    have O03 := Lib.hid (own_below O02.out hb3)
    have O13 := Lib.hid (own_below O1.out hb3)
    clear hb3 O02 O1
    go_wp2_with fail
    refine (markStepS_own _ _ _ _ _ _ _ O13 (by omega) (by omega)).mono ?_
    rintro e w4 ⟨rfl, ho, hg4⟩
    have O1m := Lib.hid ho
    have B4 := Lib.hid (B3.out.grown hg4 B3.out.size (fun k hk => by have := F1.out k hk; have := B1.out.size; omega))
    have O04 := Lib.hid (kept_of O03.out hg4 (fun g h e => by have h1 := F0.out g h; have h2 := F1.out g e; omega))
    clear ho hg4 O03 O13
    have hneg2 : decide ((1 : Int) + (l.length : Int) * 6 < 0) = false := by simp; omega
    have heq2 : (((1 : Int) + (l.length : Int) * 6) != ((1 : Int) + (l.length : Int) * 6)) = false := by simp
    go_wp2_with fail
    refine (heldStepS_any _ _ _ _ _ (own_lies' O1m.out) (by omega) (by omega)).mono ?_
    rintro e w' ⟨rfl, rfl⟩
    go_wp2_with fail
    refine (implRead_any s _ l code b HR hs).mono ?_
    rintro e w5 ⟨A2, c2, rfl, ho, hb5⟩
    have O2 := Lib.hid ho
    have B5 := Lib.hid (Below.tr B4.out hb5)
    have O05 := Lib.hid (own_below O04.out hb5)
    have O1m5 := Lib.hid (own_below O1m.out hb5)
    clear ho hb5 O04 O1m
    go_wp2_with fail
    refine (eqStepS_same _ _ _ _ _ l _ (own_lies' O2.out) (own_lies' O05.out) (Lib.hid rfl) (by omega)).mono ?_
    rintro e w6 ⟨rfl, hb6⟩
    have B6 := Lib.hid (Below.tr B5.out hb6)
    have O1m6 := Lib.hid (own_below O1m5.out hb6)
    clear hb6 O1m5 O05 O2
    go_wp2_with fail
    refine (heldStepS_any _ _ _ _ _ (own_lies' O1m6.out) (by omega) (by omega)).mono ?_
    rintro e w' ⟨rfl, rfl⟩
    go_wp2
    go_ret
    exact ⟨rfl, B6.out⟩
end Go.Proofs.Ytbmonndpblnjkaa
