/-
  The walk of the law of WayCount.
-/
import Derived.Test.YtilnegmjnbffhaaSpTwo
namespace Go.Proofs.Ytilnegmjnbffhaa
open Go.ChangeShapes Go.WideShapes Go.ChangeAt Go.RowKit

set_option maxRecDepth 100000 in
set_option maxHeartbeats 4000000 in
theorem lawWay11 (A : Option Addr) (cap : Nat) (xs : List Stp) (at_ : Int) (w : World) (hm : xs.length ≤ 9223372036854775807) (hl : Lies w A xs) :
    Calls Try.prog 10 #[.slice A xs.length cap, .int .i64 at_] w fun e w' => e = .returned (.bool true) ∧ Below w.heap.size w w' := by
  obtain ⟨n, hxn⟩ : ∃ n, xs.length = n := ⟨_, rfl⟩
  rw [hxn] at hm ⊢
  have HX := Lib.hid hxn
  clear hxn
  obtain ⟨b, c, hr⟩ := one_res (There xs n at_) (wayR xs at_)
  have HR := Lib.hid hr
  clear hr
  have HL := Lib.hid hl
  clear hl
  by_cases hbig : 1048576 < n
  · have hs : szF 1048576 n = -1 := szF_big hbig
    go_enter Try.func10, Try.ntmps10
    go_wp2_with (go_at_call 25; refine (szStepS_any _ _ _ _ _ hm (by omega) (by omega)).mono ?_; rintro e w' ⟨rfl, rfl⟩)
    go_ret
    exact ⟨rfl, Below.refl _ _⟩
  · have hs := szF_small hbig
    have hn : n ≤ 1048576 := by omega
    go_enter Try.func10, Try.ntmps10
    go_wp2_with fail
    refine (szStepS_any _ _ _ _ _ hm (by omega) (by omega)).mono ?_
    rintro e w' ⟨rfl, rfl⟩
    go_wp2_with fail
    refine (toStepS_n _ _ _ xs _ HL HX hn).mono ?_
    rintro e w1 ⟨rfl, k1, hb1⟩
    have K1 := Lib.hid k1
    have B1 := Lib.hid hb1
    clear k1 hb1
    go_wp2_with fail
    refine (specWay_any _ _ _ at_ xs _ b c HR K1.out.lies HX hn).mono ?_
    rintro e w2 ⟨rfl, hb2⟩
    have B2 := Lib.hid (Below.tr B1.out hb2)
    clear hb2
    go_wp2_with fail
    refine (toStepS_n _ _ _ xs _ (HL.out.below B2.out) HX hn).mono ?_
    rintro e w3 ⟨rfl, k3, hb3⟩
    have K3 := Lib.hid k3
    have B3 := Lib.hid (Below.tr B2.out hb3)
    clear k3 hb3
    go_wp2_with fail
    refine (implWay_any _ _ _ at_ xs _ b c HR K3.out.lies HX hn).mono ?_
    rintro e w4 ⟨rfl, hb4⟩
    have B4 := Lib.hid (Below.tr B3.out hb4)
    have K4 := Lib.hid (K3.out.below hb4)
    clear hb4 K3
    have hcc : (c != c) = false := by simp
    have hbb : (b != b) = false := by simp
    go_wp2_with fail
    refine (toStepS_n _ _ _ xs _ (HL.out.below B4.out) HX hn).mono ?_
    rintro e w6 ⟨rfl, k6, hb6⟩
    have K6 := Lib.hid k6
    have B6 := Lib.hid (Below.tr B4.out hb6)
    have K36 := Lib.hid (K4.out.below hb6)
    clear k6 hb6
    go_wp2_with fail
    refine (eqStepS_same _ _ _ _ _ xs _ K36.out.lies K6.out.lies HX hn).mono ?_
    rintro e w7 ⟨rfl, hb7⟩
    have B7 := Lib.hid (Below.tr B6.out hb7)
    clear hb7
    go_wp2
    go_ret
    exact ⟨rfl, B7.out⟩
end Go.Proofs.Ytilnegmjnbffhaa
