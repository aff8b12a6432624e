/-
  The walk of the law FnExactNumberAt.
-/
import Derived.Test.YtmfganodnlnjcaaDoorKn8
import Derived.Test.YtmfganodnlnjcaaDoorKnH
namespace Go.Proofs.YtmfganodnlnjcaaDoor.Op
open Go.Proofs.YtmfganodnlnjcaaDoor
open Go.ChangeShapes Go.WideShapes Go.ChangeAt Go.RowKit

set_option maxRecDepth 100000 in
set_option maxHeartbeats 16000000 in
theorem lawNumKn (sl sh n : Int) (w : World) (HT : Hid (NibTab w)) :
    Calls Tryd.prog 6 #[.agg #[.int .i64 sl, .int .i64 sh], .int .i64 n] w fun e w' => e = .returned (.bool true) ∧ Below w.heap.size w w' := by
  obtain ⟨Q, hq⟩ : ∃ q, numA sl sh n = q := ⟨_, rfl⟩
  obtain ⟨q, r⟩ := Q
  have HQ := Lib.hid hq
  clear hq
  have e1 : (q != q) = false := by simp
  have e2 : (r != r) = false := by simp
  have N0 := one_newKL w sl sh
  go_enter Tryd.func6, Tryd.ntmps6
  go_wp2_with fail
  unfold klO at N0
  generalize (w.alloc (.cells #[.int .i64 sl, .int .i64 sh] 46)) = v0 at N0 ⊢
  have D0 := Lib.hid (Below.refl v0.heap.size v0)
  have D0z := D0.out.size
  have hz0 : w.heap.size < v0.heap.size := N0.out.1.lt
  clear D0z hz0
  refine (toKn_any _ _ _).mono ?_
  rintro e v1 ⟨rfl, hb⟩
  have D1 := Lib.hid (Below.tr D0.out hb)
  clear hb
  have k0 := (KL.below N0.out.1 D1.out).c0
  have m0 := (KL.below N0.out.1 D1.out).c1
  go_wp2_with fail
  refine (numM_any _ _ _ _).mono ?_
  rw [HQ.out]
  rintro e v2 ⟨rfl, hb⟩
  have D2 := Lib.hid (Below.tr D1.out hb)
  clear hb
  have k0 := (KL.below N0.out.1 D2.out).c0
  have m0 := (KL.below N0.out.1 D2.out).c1
  go_wp2_with fail
  refine (toKn_any _ _ _).mono ?_
  rintro e v3 ⟨rfl, hb⟩
  have D3 := Lib.hid (Below.tr D2.out hb)
  clear hb
  have k0 := (KL.below N0.out.1 D3.out).c0
  have m0 := (KL.below N0.out.1 D3.out).c1
  go_wp2_with fail
  refine (numI_any _ _ _ _ (Lib.hid (HT.out.bel (Below.tr N0.out.2 D3.out)))).mono ?_
  rw [HQ.out]
  rintro e v4 ⟨rfl, hb⟩
  have D4 := Lib.hid (Below.tr D3.out hb)
  clear hb
  have k0 := (KL.below N0.out.1 D4.out).c0
  have m0 := (KL.below N0.out.1 D4.out).c1
  go_wp2
  go_ret
  exact ⟨rfl, Below.tr N0.out.2 D4.out⟩
end Go.Proofs.YtmfganodnlnjcaaDoor.Op
