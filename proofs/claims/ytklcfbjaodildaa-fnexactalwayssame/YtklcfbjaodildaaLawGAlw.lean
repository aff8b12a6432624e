/-
  The walk of the law of GAlw.
-/
import Derived.Test.YtklcfbjaodildaaGi11
import Derived.Test.YtklcfbjaodildaaGtLaw
namespace Go.Proofs.Ytklcfbjaodildaa
open Go.ChangeShapes Go.WideShapes Go.ChangeAt Go.RowKit

set_option maxRecDepth 100000 in
set_option maxHeartbeats 8000000 in
theorem lawGAlw (Ag : Option Addr) (capg : Nat) (g : List Gt) (Ab : Option Addr) (capb : Nat) (b : List Gt) (w : World) (hng : g.length ≤ 9223372036854775807) (hlg : GLies w Ag g) (hnb : b.length ≤ 9223372036854775807) (hlb : GLies w Ab b) :
    Calls Try.prog 14 #[.slice Ag g.length capg, .slice Ab b.length capb] w fun e w' => e = .returned (.bool true) ∧ Below w.heap.size w w' := by
  obtain ⟨ng, hxg⟩ : ∃ n, g.length = n := ⟨_, rfl⟩
  rw [hxg] at hng ⊢
  have HXg := Lib.hid hxg
  have HLg := Lib.hid hlg
  clear hxg hlg
  obtain ⟨nb, hxb⟩ : ∃ n, b.length = n := ⟨_, rfl⟩
  rw [hxb] at hnb ⊢
  have HXb := Lib.hid hxb
  have HLb := Lib.hid hlb
  clear hxb hlb
  go_enter Try.func14, Try.ntmps14
  go_wp2_with fail
  refine (szGateS_any Ag ng capg 1048576 _ hng (by omega) (by omega)).mono ?_
  rintro e w' ⟨rfl, rfl⟩
  by_cases hnegg : 1048576 - (ng : Int) < 0
  · have hszg : szF 1048576 ng = -1 := if_pos (by omega)
    rw [hszg]
    go_wp2
    go_ret
    exact ⟨rfl, Below.refl _ _⟩
  have hszg : szF 1048576 ng = 1048576 - ng := if_neg (by omega)
  rw [hszg]
  clear hszg
  have hsg : ng ≤ 1048576 := by omega
  go_wp2_with fail
  refine (szGateS_any Ab nb capb (1048576 - (ng : Int)) _ hnb (by omega) (by omega)).mono ?_
  rintro e w' ⟨rfl, rfl⟩
  by_cases hnegb : (1048576 - (ng : Int)) - (nb : Int) < 0
  · have hszb : szF (1048576 - (ng : Int)) nb = -1 := if_pos (by omega)
    rw [hszb]
    go_wp2
    go_ret
    exact ⟨rfl, Below.refl _ _⟩
  have hszb : szF (1048576 - (ng : Int)) nb = (1048576 - (ng : Int)) - nb := if_neg (by omega)
  rw [hszb]
  clear hszb
  have hsb : nb ≤ 1048576 := by omega
  obtain ⟨⟨r0, r1⟩, hr⟩ : ∃ x, rAlw g b = x := ⟨_, rfl⟩
  have HR := Lib.hid hr
  clear hr
  go_wp2_with fail
  refine (toGateS_any _ _ _ g _ (Lib.hid (HLg.out.below (Below.refl _ _))) HXg hsg).mono ?_
  rintro e w1 ⟨rfl, kk, hb⟩
  have S1 := Lib.hid (hb.size)
  have B1 := Lib.hid (Below.tr (Below.refl _ _) hb)
  have Fsg_1 := Lib.hid (own_of_gblk kk HXg.out hsg)
  have Psg : Hid (∀ g, (.slice (some ⟨w.heap.size, 0, none⟩) ng ng : Value).ownBlock = some g → w.heap.size ≤ g ∧ g < w1.heap.size) := Lib.hid (fun g h => Fsg_1.out.lt g h)
  clear kk hb
  go_wp2_with fail
  refine (toGateS_any _ _ _ b _ (Lib.hid (HLb.out.below B1.out)) HXb hsb).mono ?_
  rintro e w2 ⟨rfl, kk, hb⟩
  have S2 := Lib.hid (hb.size)
  have B2 := Lib.hid (Below.tr B1.out hb)
  have Fsg_2 := Lib.hid (own_below Fsg_1.out hb)
  clear Fsg_1
  have Fsb_2 := Lib.hid (own_of_gblk kk HXb.out hsb)
  have Psb : Hid (∀ g, (.slice (some ⟨w1.heap.size, 0, none⟩) nb nb : Value).ownBlock = some g → w1.heap.size ≤ g ∧ g < w2.heap.size) := Lib.hid (fun g h => Fsb_2.out.lt g h)
  clear kk hb
  go_wp2_with fail
  refine (specAlw_any _ _ _ _ _ _ g b _ r0 r1 HR (Lib.hid (own_glies HXg.out Fsg_2.out)) HXg hsg (Lib.hid (own_glies HXb.out Fsb_2.out)) HXb hsb).mono ?_
  rintro e w3 ⟨rfl, hb⟩
  have S3 := Lib.hid (hb.size)
  have B3 := Lib.hid (Below.tr B2.out hb)
  have Fsg_3 := Lib.hid (own_below Fsg_2.out hb)
  clear Fsg_2
  have Fsb_3 := Lib.hid (own_below Fsb_2.out hb)
  clear Fsb_2
  clear hb
  clear Fsg_3
  clear Fsb_3
  go_wp2_with fail
  refine (toGateS_any _ _ _ g _ (Lib.hid (HLg.out.below B3.out)) HXg hsg).mono ?_
  rintro e w4 ⟨rfl, kk, hb⟩
  have S4 := Lib.hid (hb.size)
  have B4 := Lib.hid (Below.tr B3.out hb)
  have Fxg_4 := Lib.hid (own_of_gblk kk HXg.out hsg)
  have Pxg : Hid (∀ g, (.slice (some ⟨w3.heap.size, 0, none⟩) ng ng : Value).ownBlock = some g → w3.heap.size ≤ g ∧ g < w4.heap.size) := Lib.hid (fun g h => Fxg_4.out.lt g h)
  clear kk hb
  go_wp2_with fail
  refine (toGateS_any _ _ _ b _ (Lib.hid (HLb.out.below B4.out)) HXb hsb).mono ?_
  rintro e w5 ⟨rfl, kk, hb⟩
  have S5 := Lib.hid (hb.size)
  have B5 := Lib.hid (Below.tr B4.out hb)
  have Fxg_5 := Lib.hid (own_below Fxg_4.out hb)
  clear Fxg_4
  have Fxb_5 := Lib.hid (own_of_gblk kk HXb.out hsb)
  have Pxb : Hid (∀ g, (.slice (some ⟨w4.heap.size, 0, none⟩) nb nb : Value).ownBlock = some g → w4.heap.size ≤ g ∧ g < w5.heap.size) := Lib.hid (fun g h => Fxb_5.out.lt g h)
  clear kk hb
  go_wp2_with fail
  refine (implAlw_any _ _ _ _ _ _ g b _ r0 r1 HR (Lib.hid (own_glies HXg.out Fxg_5.out)) HXg hsg (Lib.hid (own_glies HXb.out Fxb_5.out)) HXb hsb).mono ?_
  rintro e w6 ⟨rfl, hb⟩
  have S6 := Lib.hid (hb.size)
  have B6 := Lib.hid (Below.tr B5.out hb)
  have Fxg_6 := Lib.hid (own_below Fxg_5.out hb)
  clear Fxg_5
  have Fxb_6 := Lib.hid (own_below Fxb_5.out hb)
  clear Fxb_5
  clear hb
  have hb0 : (r0 != r0) = false := by simp
  have hb1 : (r1 != r1) = false := by simp
  go_wp2_with fail
  refine (toGateS_any _ _ _ g _ (Lib.hid (HLg.out.below B6.out)) HXg hsg).mono ?_
  rintro e w7 ⟨rfl, kk, hb⟩
  have S7 := Lib.hid (hb.size)
  have B7 := Lib.hid (Below.tr B6.out hb)
  have Fxg_7 := Lib.hid (own_below Fxg_6.out hb)
  clear Fxg_6
  have Fxb_7 := Lib.hid (own_below Fxb_6.out hb)
  clear Fxb_6
  have Fcg_7 := Lib.hid (own_of_gblk kk HXg.out hsg)
  have Pcg : Hid (∀ g, (.slice (some ⟨w6.heap.size, 0, none⟩) ng ng : Value).ownBlock = some g → w6.heap.size ≤ g ∧ g < w7.heap.size) := Lib.hid (fun g h => Fcg_7.out.lt g h)
  clear kk hb
  go_wp2_with fail
  refine (eqGateS_same _ _ _ _ _ g _ (Lib.hid (own_glies HXg.out Fxg_7.out)) (Lib.hid (own_glies HXg.out Fcg_7.out)) HXg (by omega)).mono ?_
  rintro e w8 ⟨rfl, hb⟩
  have S8 := Lib.hid (hb.size)
  have B8 := Lib.hid (Below.tr B7.out hb)
  have Fxg_8 := Lib.hid (own_below Fxg_7.out hb)
  clear Fxg_7
  have Fxb_8 := Lib.hid (own_below Fxb_7.out hb)
  clear Fxb_7
  have Fcg_8 := Lib.hid (own_below Fcg_7.out hb)
  clear Fcg_7
  clear hb
  clear Fcg_8
  go_wp2_with fail
  refine (toGateS_any _ _ _ b _ (Lib.hid (HLb.out.below B8.out)) HXb hsb).mono ?_
  rintro e w9 ⟨rfl, kk, hb⟩
  have S9 := Lib.hid (hb.size)
  have B9 := Lib.hid (Below.tr B8.out hb)
  have Fxg_9 := Lib.hid (own_below Fxg_8.out hb)
  clear Fxg_8
  have Fxb_9 := Lib.hid (own_below Fxb_8.out hb)
  clear Fxb_8
  have Fcb_9 := Lib.hid (own_of_gblk kk HXb.out hsb)
  have Pcb : Hid (∀ g, (.slice (some ⟨w8.heap.size, 0, none⟩) nb nb : Value).ownBlock = some g → w8.heap.size ≤ g ∧ g < w9.heap.size) := Lib.hid (fun g h => Fcb_9.out.lt g h)
  clear kk hb
  go_wp2_with fail
  refine (eqGateS_same _ _ _ _ _ b _ (Lib.hid (own_glies HXb.out Fxb_9.out)) (Lib.hid (own_glies HXb.out Fcb_9.out)) HXb (by omega)).mono ?_
  rintro e w10 ⟨rfl, hb⟩
  have S10 := Lib.hid (hb.size)
  have B10 := Lib.hid (Below.tr B9.out hb)
  have Fxg_10 := Lib.hid (own_below Fxg_9.out hb)
  clear Fxg_9
  have Fxb_10 := Lib.hid (own_below Fxb_9.out hb)
  clear Fxb_9
  have Fcb_10 := Lib.hid (own_below Fcb_9.out hb)
  clear Fcb_9
  clear hb
  clear Fcb_10
  go_wp2
  go_ret
  exact ⟨rfl, B10.out⟩
end Go.Proofs.Ytklcfbjaodildaa
