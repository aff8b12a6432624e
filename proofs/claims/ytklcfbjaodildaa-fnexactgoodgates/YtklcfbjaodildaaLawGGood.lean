/-
  The walk of the law of GGood.
-/
import Derived.Test.YtklcfbjaodildaaGi1
import Derived.Test.YtklcfbjaodildaaGtLaw
namespace Go.Proofs.Ytklcfbjaodildaa
open Go.ChangeShapes Go.WideShapes Go.ChangeAt Go.RowKit

set_option maxRecDepth 100000 in
set_option maxHeartbeats 8000000 in
theorem lawGGood (Ag : Option Addr) (capg : Nat) (g : List Gt) (w : World) (hng : g.length ≤ 9223372036854775807) (hlg : GLies w Ag g) :
    Calls Try.prog 7 #[.slice Ag g.length capg] w fun e w' => e = .returned (.bool true) ∧ Below w.heap.size w w' := by
  obtain ⟨ng, hxg⟩ : ∃ n, g.length = n := ⟨_, rfl⟩
  rw [hxg] at hng ⊢
  have HXg := Lib.hid hxg
  have HLg := Lib.hid hlg
  clear hxg hlg
  go_enter Try.func7, Try.ntmps7
  go_wp2_with fail
  refine (szGateS_any Ag ng capg 1048576 _ hng (by omega) (by omega)).mono ?_
  rintro e w' ⟨rfl, rfl⟩
  by_cases hnegg : 1048576 - (ng : Int) < 0
  · have hszg : szF 1048576 ng = -1 := if_pos (by omega)
    rw [hszg]
    go_wp2
    go_ret
    exact ⟨rfl, Below.refl _ _⟩
  have hszg : szF 1048576 ng = 1048576 - ng := if_neg (by omega)
  rw [hszg]
  clear hszg
  have hsg : ng ≤ 1048576 := by omega
  obtain ⟨r0, hr0⟩ : ∃ b, goodGB g = b := ⟨_, rfl⟩
  have HR := Lib.hid hr0
  clear hr0
  go_wp2_with fail
  refine (toGateS_any _ _ _ g _ (Lib.hid (HLg.out.below (Below.refl _ _))) HXg hsg).mono ?_
  rintro e w1 ⟨rfl, kk, hb⟩
  have S1 := Lib.hid (hb.size)
  have B1 := Lib.hid (Below.tr (Below.refl _ _) hb)
  have Fsg_1 := Lib.hid (own_of_gblk kk HXg.out hsg)
  have Psg : Hid (∀ g, (.slice (some ⟨w.heap.size, 0, none⟩) ng ng : Value).ownBlock = some g → w.heap.size ≤ g ∧ g < w1.heap.size) := Lib.hid (fun g h => Fsg_1.out.lt g h)
  clear kk hb
  go_wp2_with fail
  refine (specGoodG_any _ _ _ g _ (Lib.hid (own_glies HXg.out Fsg_1.out)) HXg hsg).mono ?_
  rintro e w2 ⟨rfl, hb⟩
  have S2 := Lib.hid (hb.size)
  have B2 := Lib.hid (Below.tr B1.out hb)
  have Fsg_2 := Lib.hid (own_below Fsg_1.out hb)
  clear Fsg_1
  clear hb
  clear Fsg_2
  go_wp2_with fail
  refine (toGateS_any _ _ _ g _ (Lib.hid (HLg.out.below B2.out)) HXg hsg).mono ?_
  rintro e w3 ⟨rfl, kk, hb⟩
  have S3 := Lib.hid (hb.size)
  have B3 := Lib.hid (Below.tr B2.out hb)
  have Fxg_3 := Lib.hid (own_of_gblk kk HXg.out hsg)
  have Pxg : Hid (∀ g, (.slice (some ⟨w2.heap.size, 0, none⟩) ng ng : Value).ownBlock = some g → w2.heap.size ≤ g ∧ g < w3.heap.size) := Lib.hid (fun g h => Fxg_3.out.lt g h)
  clear kk hb
  go_wp2_with fail
  refine (implGoodG_any _ _ _ g _ (Lib.hid (own_glies HXg.out Fxg_3.out)) HXg hsg).mono ?_
  rintro e w4 ⟨rfl, hb⟩
  have S4 := Lib.hid (hb.size)
  have B4 := Lib.hid (Below.tr B3.out hb)
  have Fxg_4 := Lib.hid (own_below Fxg_3.out hb)
  clear Fxg_3
  clear hb
  have hb0 : (r0 != r0) = false := by simp
  go_wp2_with fail
  refine (toGateS_any _ _ _ g _ (Lib.hid (HLg.out.below B4.out)) HXg hsg).mono ?_
  rintro e w5 ⟨rfl, kk, hb⟩
  have S5 := Lib.hid (hb.size)
  have B5 := Lib.hid (Below.tr B4.out hb)
  have Fxg_5 := Lib.hid (own_below Fxg_4.out hb)
  clear Fxg_4
  have Fcg_5 := Lib.hid (own_of_gblk kk HXg.out hsg)
  have Pcg : Hid (∀ g, (.slice (some ⟨w4.heap.size, 0, none⟩) ng ng : Value).ownBlock = some g → w4.heap.size ≤ g ∧ g < w5.heap.size) := Lib.hid (fun g h => Fcg_5.out.lt g h)
  clear kk hb
  go_wp2_with fail
  refine (eqGateS_same _ _ _ _ _ g _ (Lib.hid (own_glies HXg.out Fxg_5.out)) (Lib.hid (own_glies HXg.out Fcg_5.out)) HXg (by omega)).mono ?_
  rintro e w6 ⟨rfl, hb⟩
  have S6 := Lib.hid (hb.size)
  have B6 := Lib.hid (Below.tr B5.out hb)
  have Fxg_6 := Lib.hid (own_below Fxg_5.out hb)
  clear Fxg_5
  have Fcg_6 := Lib.hid (own_below Fcg_5.out hb)
  clear Fcg_5
  clear hb
  clear Fcg_6
  go_wp2
  go_ret
  exact ⟨rfl, B6.out⟩
end Go.Proofs.Ytklcfbjaodildaa
