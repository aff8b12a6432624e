/-
  The walk of the law FnExactKnownOf.
-/
import Derived.Test.YtmfganodnlnjcaaKn6
import Derived.Test.YtmfganodnlnjcaaKnH
namespace Go.Proofs.Ytmfganodnlnjcaa.Op
open Go.Proofs.Ytmfganodnlnjcaa
open Go.ChangeShapes Go.WideShapes Go.ChangeAt Go.RowKit

set_option maxRecDepth 100000 in
set_option maxHeartbeats 8000000 in
theorem lawOfKn (A : Option Addr) (cap : Nat) (l : List Int) (w : World) (hnl : l.length ≤ 9223372036854775807) (hll : ILies w A l) :
    Calls Try.prog 7 #[.slice A l.length cap] w fun e w' => e = .returned (.bool true) ∧ Below w.heap.size w w' := by
  obtain ⟨n, hx⟩ : ∃ n, l.length = n := ⟨_, rfl⟩
  rw [hx] at hnl ⊢
  have HX := Lib.hid hx
  have HL := Lib.hid hll
  clear hx hll
  by_cases hb : 1048576 < n
  · go_enter Try.func7, Try.ntmps7
    go_wp2
    go_ret
    exact ⟨rfl, Below.refl _ _⟩
  have hs : n ≤ 1048576 := by omega
  obtain ⟨Q, hQ⟩ : ∃ q, ofA l = q := ⟨_, rfl⟩
  obtain ⟨⟨x, y⟩, ok⟩ := Q
  have HQ := Lib.hid hQ
  clear hQ
  have hkk : (ok != ok) = false := by simp
  go_enter Try.func7, Try.ntmps7
  go_wp2_with fail
  refine (toIntS_any _ _ _ l _ HL HX hs).mono ?_
  rintro e w1 ⟨rfl, kk, hb⟩
  have B1 := Lib.hid hb
  have K1 := Lib.hid kk
  clear hb kk
  go_wp2_with fail
  refine (ofM_any _ _ _ l _ (Lib.hid K1.out.ilies) HX hnl).mono ?_
  rw [HQ.out]
  rintro e w2 ⟨rfl, hb⟩
  have B2 := Lib.hid (Below.tr B1.out hb)
  clear hb K1
  go_wp2_with fail
  have NB := one_newk w2 x y
  unfold kO at NB
  have FX := Lib.hid NB.out.1
  have B3 := Lib.hid (Below.tr B2.out NB.out.2)
  clear NB
  obtain ⟨gx, hgx⟩ : ∃ q, w2.heap.size = q := ⟨_, rfl⟩
  rw [hgx] at FX ⊢
  generalize (w2.alloc (.cells #[.int .i64 x, .int .i64 y] 25)) = w3 at FX B3 ⊢
  refine (toIntS_any _ _ _ l _ (Lib.hid (HL.out.below B3.out)) HX hs).mono ?_
  rintro e w4 ⟨rfl, kk, hb⟩
  have B4 := Lib.hid (Below.tr B3.out hb)
  have FX := Lib.hid (KB.below FX.out hb)
  have K4 := Lib.hid kk
  clear hb kk
  go_wp2_with fail
  refine (ofI_any _ _ _ l _ (Lib.hid K4.out.ilies) HX hnl).mono ?_
  rw [HQ.out]
  rintro e w5 ⟨rfl, hb⟩
  have B5 := Lib.hid (Below.tr B4.out hb)
  have FX := Lib.hid (KB.below FX.out hb)
  have K5 := Lib.hid (Blk.below K4.out hb)
  clear hb K4
  have c0 := FX.out.c0
  have c1 := FX.out.c1
  have c2 := FX.out.lt
  go_wp2_with fail
  have NB := one_newk w5 x y
  unfold kO at NB
  have FX := Lib.hid (KB.below FX.out NB.out.2)
  have B6 := Lib.hid (Below.tr B5.out NB.out.2)
  have K6 := Lib.hid (Blk.below K5.out NB.out.2)
  clear NB K5
  generalize (w5.alloc (.cells #[.int .i64 x, .int .i64 y] 25)) = w6 at FX B6 K6 ⊢
  refine (eqKn_any _ _ _).mono ?_
  rintro e w7 ⟨rfl, hb⟩
  have B7 := Lib.hid (Below.tr B6.out hb)
  have K7 := Lib.hid (Blk.below K6.out hb)
  clear hb K6
  go_wp2_with fail
  refine (toIntS_any _ _ _ l _ (Lib.hid (HL.out.below B7.out)) HX hs).mono ?_
  rintro e w8 ⟨rfl, kk, hb⟩
  have B8 := Lib.hid (Below.tr B7.out hb)
  have K8 := Lib.hid (Blk.below K7.out hb)
  have J8 := Lib.hid kk
  clear hb kk K7
  go_wp2_with fail
  refine (eqIntS_same _ _ _ _ _ l _ (Lib.hid K8.out.ilies) (Lib.hid J8.out.ilies) HX (by omega)).mono ?_
  rintro e w9 ⟨rfl, hb⟩
  have B9 := Lib.hid (Below.tr B8.out hb)
  clear hb
  go_wp2
  go_ret
  exact ⟨rfl, B9.out⟩
end Go.Proofs.Ytmfganodnlnjcaa.Op
