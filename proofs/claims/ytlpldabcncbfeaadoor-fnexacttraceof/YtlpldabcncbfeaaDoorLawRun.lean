/-
  The walks of the laws of RunProgram, FaultFree and TraceOf.
-/
import Derived.Test.YtlpldabcncbfeaaDoorRunB
import Derived.Test.YtlpldabcncbfeaaDoorMarks2
namespace Go.Proofs.YtlpldabcncbfeaaDoor
open Go.ChangeShapes Go.WideShapes Go.ChangeAt Go.RowKit

set_option maxRecDepth 100000 in
set_option maxHeartbeats 4000000 in
theorem lawRun (A : Option Addr) (cap : Nat) (xs : List Stp) (D : Option Addr) (dcap : Nat) (ctx : List Int) (F : Int) (w : World) (hm : xs.length ≤ 9223372036854775807) (hl : Lies w A xs) (hm2 : ctx.length ≤ 9223372036854775807) (hl2 : ILies w D ctx) (ht : Op.PowTab w) :
    Calls Tryd.prog 6 #[.slice A xs.length cap, .slice D ctx.length dcap, .int .i64 F] w fun e w' => e = .returned (.bool true) ∧ Below w.heap.size w w' := by
  obtain ⟨n, hxn⟩ : ∃ n, xs.length = n := ⟨_, rfl⟩
  rw [hxn] at hm ⊢
  have HX := Lib.hid hxn
  obtain ⟨cn, hcn⟩ : ∃ n, ctx.length = n := ⟨_, rfl⟩
  rw [hcn] at hm2 ⊢
  have HCX := Lib.hid hcn
  clear hxn hcn
  obtain ⟨g, hg⟩ := good_bool xs
  have HG := Lib.hid hg
  have HL := Lib.hid hl
  have HD := Lib.hid hl2
  have HT := Lib.hid ht
  clear hg hl hl2 ht
  by_cases hbig2 : 1048576 < cn
  · have hq : (1048576 : Int) < (cn : Int) := by omega
    go_enter Tryd.func6, Tryd.ntmps6
    go_wp2
    go_ret
    exact ⟨rfl, Below.refl _ _⟩
  have hc20 : cn ≤ 1048576 := by omega
  have hq : decide ((1048576 : Int) < (cn : Int)) = false := by simp; omega
  by_cases hbig : 1048576 < n
  · have hs : szF 1048576 n = -1 := szF_big hbig
    go_enter Tryd.func6, Tryd.ntmps6
    go_wp2_with (go_at_call 29; refine (szStepS_any _ _ _ _ _ hm (by omega) (by omega)).mono ?_; rintro e w' ⟨rfl, rfl⟩)
    go_ret
    exact ⟨rfl, Below.refl _ _⟩
  · have hs := szF_small hbig
    have hn : n ≤ 1048576 := by omega
    go_enter Tryd.func6, Tryd.ntmps6
    go_wp2_with fail
    refine (szStepS_any _ _ _ _ _ hm (by omega) (by omega)).mono ?_
    rintro e w' ⟨rfl, rfl⟩
    go_wp2_with fail
    refine (toStepS_n _ _ _ xs _ HL HX hn).mono ?_
    rintro e w1 ⟨rfl, k1, hb1⟩
    have K1 := Lib.hid k1
    have B1 := Lib.hid hb1
    clear k1 hb1
    go_wp2_with fail
    refine (toIntS_any _ _ _ ctx _ (HD.out.below B1.out) HCX hc20).mono ?_
    rintro e w2 ⟨rfl, k2, hb2⟩
    have C2 := Lib.hid k2
    have K2 := Lib.hid (K1.out.below hb2)
    have B2 := Lib.hid (Below.tr B1.out hb2)
    clear k2 hb2 K1
    go_wp2_with fail
    refine (specRun_any _ _ _ xs _ _ _ ctx F g _ HG K2.out.lies HX hn C2.out.ilies HCX hc20).mono ?_
    rintro e w3 ⟨rfl, hb3⟩
    have B3 := Lib.hid (Below.tr B2.out hb3)
    clear hb3 K2 C2
    obtain ⟨q, hQ⟩ : ∃ q, (runR g xs ctx F) = q := ⟨_, rfl⟩
    rw [hQ]
    have HQ := Lib.hid hQ
    clear hQ
    obtain ⟨⟨r1, r2, r3, T⟩, ok⟩ := q
    go_wp2_with fail
    refine (toStepS_n _ _ _ xs _ (HL.out.below B3.out) HX hn).mono ?_
    rintro e w4 ⟨rfl, k4, hb4⟩
    have K4 := Lib.hid k4
    have B4 := Lib.hid (Below.tr B3.out hb4)
    clear k4 hb4
    go_wp2_with fail
    refine (toIntS_any _ _ _ ctx _ (HD.out.below B4.out) HCX hc20).mono ?_
    rintro e w5 ⟨rfl, k5, hb5⟩
    have C5 := Lib.hid k5
    have K5 := Lib.hid (K4.out.below hb5)
    have B5 := Lib.hid (Below.tr B4.out hb5)
    clear k5 hb5 K4
    go_wp2_with fail
    refine (implRun_any _ _ _ xs _ _ _ ctx F g _ HG K5.out.lies HX hn C5.out.ilies HCX hc20 (powTab_below HT.out B5.out)).mono ?_
    rw [HQ.out]
    rintro e w6 ⟨rfl, hb6⟩
    have C6 := Lib.hid (C5.out.below hb6)
    have K6 := Lib.hid (K5.out.below hb6)
    have B6 := Lib.hid (Below.tr B5.out hb6)
    clear hb6 K5 C5
    have s1 : (r1 != r1) = false := by simp
    have s2 : (r2 != r2) = false := by simp
    have s3 : (r3 != r3) = false := by simp
    have s4 : (ok != ok) = false := by simp
    have s5 : ((ok && r2 == 0) != (ok && r2 == 0)) = false := by simp
    go_wp2_with fail
    refine (toStepS_n _ _ _ xs _ (HL.out.below B6.out) HX hn).mono ?_
    rintro e w7 ⟨rfl, k7, hb7⟩
    have K7 := Lib.hid k7
    have K67 := Lib.hid (K6.out.below hb7)
    have C7 := Lib.hid (C6.out.below hb7)
    have B7 := Lib.hid (Below.tr B6.out hb7)
    clear k7 hb7 K6 C6
    go_wp2_with fail
    refine (eqStepS_same _ _ _ _ _ xs _ K67.out.lies K7.out.lies HX hn).mono ?_
    rintro e w8 ⟨rfl, hb8⟩
    have C8 := Lib.hid (C7.out.below hb8)
    have B8 := Lib.hid (Below.tr B7.out hb8)
    clear hb8 K67 K7 C7
    go_wp2_with fail
    refine (toIntS_any _ _ _ ctx _ (HD.out.below B8.out) HCX hc20).mono ?_
    rintro e w9 ⟨rfl, k9, hb9⟩
    have C9 := Lib.hid k9
    have C89 := Lib.hid (C8.out.below hb9)
    have B9 := Lib.hid (Below.tr B8.out hb9)
    clear k9 hb9 C8
    go_wp2_with fail
    refine (eqIntS_same _ _ _ _ _ ctx _ C89.out.ilies C9.out.ilies HCX (by omega)).mono ?_
    rintro e w10 ⟨rfl, hb10⟩
    have B10 := Lib.hid (Below.tr B9.out hb10)
    clear hb10
    go_wp2
    go_ret
    exact ⟨rfl, B10.out⟩

set_option maxRecDepth 100000 in
set_option maxHeartbeats 4000000 in
theorem lawFree (A : Option Addr) (cap : Nat) (xs : List Stp) (D : Option Addr) (dcap : Nat) (ctx : List Int) (w : World) (hm : xs.length ≤ 9223372036854775807) (hl : Lies w A xs) (hm2 : ctx.length ≤ 9223372036854775807) (hl2 : ILies w D ctx) (ht : Op.PowTab w) :
    Calls Tryd.prog 8 #[.slice A xs.length cap, .slice D ctx.length dcap] w fun e w' => e = .returned (.bool true) ∧ Below w.heap.size w w' := by
  obtain ⟨n, hxn⟩ : ∃ n, xs.length = n := ⟨_, rfl⟩
  rw [hxn] at hm ⊢
  have HX := Lib.hid hxn
  obtain ⟨cn, hcn⟩ : ∃ n, ctx.length = n := ⟨_, rfl⟩
  rw [hcn] at hm2 ⊢
  have HCX := Lib.hid hcn
  clear hxn hcn
  obtain ⟨g, hg⟩ := good_bool xs
  have HG := Lib.hid hg
  have HL := Lib.hid hl
  have HD := Lib.hid hl2
  have HT := Lib.hid ht
  clear hg hl hl2 ht
  by_cases hbig2 : 1048576 < cn
  · have hq : (1048576 : Int) < (cn : Int) := by omega
    go_enter Tryd.func8, Tryd.ntmps8
    go_wp2
    go_ret
    exact ⟨rfl, Below.refl _ _⟩
  have hc20 : cn ≤ 1048576 := by omega
  have hq : decide ((1048576 : Int) < (cn : Int)) = false := by simp; omega
  by_cases hbig : 1048576 < n
  · have hs : szF 1048576 n = -1 := szF_big hbig
    go_enter Tryd.func8, Tryd.ntmps8
    go_wp2_with (go_at_call 29; refine (szStepS_any _ _ _ _ _ hm (by omega) (by omega)).mono ?_; rintro e w' ⟨rfl, rfl⟩)
    go_ret
    exact ⟨rfl, Below.refl _ _⟩
  · have hs := szF_small hbig
    have hn : n ≤ 1048576 := by omega
    go_enter Tryd.func8, Tryd.ntmps8
    go_wp2_with fail
    refine (szStepS_any _ _ _ _ _ hm (by omega) (by omega)).mono ?_
    rintro e w' ⟨rfl, rfl⟩
    go_wp2_with fail
    refine (toStepS_n _ _ _ xs _ HL HX hn).mono ?_
    rintro e w1 ⟨rfl, k1, hb1⟩
    have K1 := Lib.hid k1
    have B1 := Lib.hid hb1
    clear k1 hb1
    go_wp2_with fail
    refine (toIntS_any _ _ _ ctx _ (HD.out.below B1.out) HCX hc20).mono ?_
    rintro e w2 ⟨rfl, k2, hb2⟩
    have C2 := Lib.hid k2
    have K2 := Lib.hid (K1.out.below hb2)
    have B2 := Lib.hid (Below.tr B1.out hb2)
    clear k2 hb2 K1
    go_wp2_with fail
    refine (specFree_any _ _ _ xs _ _ _ ctx g _ HG K2.out.lies HX hn C2.out.ilies HCX hc20).mono ?_
    rintro e w3 ⟨rfl, hb3⟩
    have B3 := Lib.hid (Below.tr B2.out hb3)
    clear hb3 K2 C2
    obtain ⟨q, hQ⟩ : ∃ q, (runR g xs ctx 100) = q := ⟨_, rfl⟩
    rw [hQ]
    have HQ := Lib.hid hQ
    clear hQ
    obtain ⟨⟨r1, r2, r3, T⟩, ok⟩ := q
    go_wp2_with fail
    refine (toStepS_n _ _ _ xs _ (HL.out.below B3.out) HX hn).mono ?_
    rintro e w4 ⟨rfl, k4, hb4⟩
    have K4 := Lib.hid k4
    have B4 := Lib.hid (Below.tr B3.out hb4)
    clear k4 hb4
    go_wp2_with fail
    refine (toIntS_any _ _ _ ctx _ (HD.out.below B4.out) HCX hc20).mono ?_
    rintro e w5 ⟨rfl, k5, hb5⟩
    have C5 := Lib.hid k5
    have K5 := Lib.hid (K4.out.below hb5)
    have B5 := Lib.hid (Below.tr B4.out hb5)
    clear k5 hb5 K4
    go_wp2_with fail
    refine (implFree_any _ _ _ xs _ _ _ ctx g _ HG K5.out.lies HX hn C5.out.ilies HCX hc20 (powTab_below HT.out B5.out)).mono ?_
    rw [HQ.out]
    rintro e w6 ⟨rfl, hb6⟩
    have C6 := Lib.hid (C5.out.below hb6)
    have K6 := Lib.hid (K5.out.below hb6)
    have B6 := Lib.hid (Below.tr B5.out hb6)
    clear hb6 K5 C5
    have s1 : (r1 != r1) = false := by simp
    have s2 : (r2 != r2) = false := by simp
    have s3 : (r3 != r3) = false := by simp
    have s4 : (ok != ok) = false := by simp
    have s5 : ((ok && r2 == 0) != (ok && r2 == 0)) = false := by simp
    go_wp2_with fail
    refine (toStepS_n _ _ _ xs _ (HL.out.below B6.out) HX hn).mono ?_
    rintro e w7 ⟨rfl, k7, hb7⟩
    have K7 := Lib.hid k7
    have K67 := Lib.hid (K6.out.below hb7)
    have C7 := Lib.hid (C6.out.below hb7)
    have B7 := Lib.hid (Below.tr B6.out hb7)
    clear k7 hb7 K6 C6
    go_wp2_with fail
    refine (eqStepS_same _ _ _ _ _ xs _ K67.out.lies K7.out.lies HX hn).mono ?_
    rintro e w8 ⟨rfl, hb8⟩
    have C8 := Lib.hid (C7.out.below hb8)
    have B8 := Lib.hid (Below.tr B7.out hb8)
    clear hb8 K67 K7 C7
    go_wp2_with fail
    refine (toIntS_any _ _ _ ctx _ (HD.out.below B8.out) HCX hc20).mono ?_
    rintro e w9 ⟨rfl, k9, hb9⟩
    have C9 := Lib.hid k9
    have C89 := Lib.hid (C8.out.below hb9)
    have B9 := Lib.hid (Below.tr B8.out hb9)
    clear k9 hb9 C8
    go_wp2_with fail
    refine (eqIntS_same _ _ _ _ _ ctx _ C89.out.ilies C9.out.ilies HCX (by omega)).mono ?_
    rintro e w10 ⟨rfl, hb10⟩
    have B10 := Lib.hid (Below.tr B9.out hb10)
    clear hb10
    go_wp2
    go_ret
    exact ⟨rfl, B10.out⟩
end Go.Proofs.YtlpldabcncbfeaaDoor
