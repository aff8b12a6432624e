/-
  The walks of the laws of GoodProgram and of the comparison behind it.
-/
import Derived.Test.YtbmonndpblnjkaaGood
namespace Go.Proofs.Ytbmonndpblnjkaa
open Go.ChangeShapes Go.WideShapes Go.ChangeAt Go.RowKit

theorem good_bool (xs : List Stp) : ∃ b : Bool, b = true ↔ Good xs := by
  rcases Classical.em (Good xs) with h | h
  · exact ⟨true, fun _ => h, fun _ => rfl⟩
  · exact ⟨false, (fun e => by cases e), fun e => absurd e h⟩
theorem toStepS_n (A : Option Addr) (n cap : Nat) (xs : List Stp) (w : World) (hl : Hid (Lies w A xs)) (hx : Hid (xs.length = n)) (hn : n ≤ 1048576) :
    Calls Try.prog 22 #[.slice A n cap] w fun e w' => e = .returned (.slice (some ⟨w.heap.size, 0, none⟩) n n) ∧ Blk w' w.heap.size 36 (cellsOf xs) ∧ Below w.heap.size w w' := by
  obtain rfl := hx.out
  exact toStepS_any A cap xs w hl hn
theorem szF_big {n : Nat} (h : 1048576 < n) : szF 1048576 n = -1 := if_pos (by omega)
theorem szF_small {n : Nat} (h : ¬ 1048576 < n) : 0 ≤ szF 1048576 n := by unfold szF; rw [if_neg (by omega)]; omega

set_option maxHeartbeats 2000000 in
theorem lawGood (A : Option Addr) (cap : Nat) (xs : List Stp) (w : World) (hm : xs.length ≤ 9223372036854775807) (hl : Lies w A xs) :
    Calls Try.prog 4 #[.slice A xs.length cap] w fun e w' => e = .returned (.bool true) ∧ Below w.heap.size w w' := by
  obtain ⟨b, hb⟩ := good_bool xs
  have HG := Lib.hid hb
  have HL := Lib.hid hl
  clear hb hl
  obtain ⟨n, hxn⟩ : ∃ n, xs.length = n := ⟨_, rfl⟩
  rw [hxn] at hm ⊢
  have HX := Lib.hid hxn
  clear hxn
  by_cases hbig : 1048576 < n
  · have hs : szF 1048576 n = -1 := szF_big hbig
    go_enter Try.func4, Try.ntmps4
    go_wp2_with (go_at_call 20; refine (szStepS_any _ _ _ _ _ hm (by omega) (by omega)).mono ?_; rintro e w' ⟨rfl, rfl⟩)
    go_ret
    exact ⟨rfl, Below.refl _ _⟩
  · have hs := szF_small hbig
    have hn : n ≤ 1048576 := by omega
    go_enter Try.func4, Try.ntmps4
    go_wp2_with fail
    refine (szStepS_any _ _ _ _ _ hm (by omega) (by omega)).mono ?_
    rintro e w' ⟨rfl, rfl⟩
    go_wp2_with fail
    refine (toStepS_n _ _ _ xs _ HL HX hn).mono ?_
    rintro e w1 ⟨rfl, k1, hb1⟩
    have K1 := Lib.hid k1
    have B1 := Lib.hid hb1
    clear k1 hb1
    go_wp2_with fail
    refine (specGood_any _ _ _ xs _ b HG K1.out.lies HX hn).mono ?_
    rintro e w2 ⟨rfl, hb2⟩
    have B2 := Lib.hid (Below.tr B1.out hb2)
    clear hb2
    go_wp2_with fail
    refine (toStepS_n _ _ _ xs _ (HL.out.below B2.out) HX hn).mono ?_
    rintro e w3 ⟨rfl, k3, hb3⟩
    have K3 := Lib.hid k3
    have B3 := Lib.hid (Below.tr B2.out hb3)
    clear k3 hb3
    go_wp2_with fail
    refine (implGood_any _ _ _ xs _ b HG K3.out.lies HX hn).mono ?_
    rintro e w4 ⟨rfl, hb4⟩
    have K4 := Lib.hid (K3.out.below hb4)
    have B4 := Lib.hid (Below.tr B3.out hb4)
    clear hb4
    cases b
    all_goals
      go_wp2_with fail
      refine (toStepS_n _ _ _ xs _ (HL.out.below B4.out) HX hn).mono ?_
      rintro e w5 ⟨rfl, k5, hb5⟩
      have K5 := Lib.hid k5
      have K4' := Lib.hid (K4.out.below hb5)
      have B5 := Lib.hid (Below.tr B4.out hb5)
      clear k5 hb5
      go_wp2_with fail
      refine (eqStepS_same _ _ _ _ _ xs _ K4'.out.lies K5.out.lies HX hn).mono ?_
      rintro e w6 ⟨rfl, hb6⟩
      have B6 := Lib.hid (Below.tr B5.out hb6)
      clear hb6
      go_wp2
      go_ret
      exact ⟨rfl, B6.out⟩
end Go.Proofs.Ytbmonndpblnjkaa
