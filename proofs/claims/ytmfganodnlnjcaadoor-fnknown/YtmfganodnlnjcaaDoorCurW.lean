/-
  The reader's words.
-/
import Derived.Test.YtmfganodnlnjcaaDoorBytes
namespace Go.Proofs.YtmfganodnlnjcaaDoor.Op
open Go.Proofs.YtmfganodnlnjcaaDoor
open Go.ChangeShapes Go.WideShapes Go.ChangeAt Go.RowKit

def WordLike (n : Int) : Prop := 0 ≤ n ∧ n ≤ 65535
def RawLike (n : Int) : Prop := -1 ≤ n ∧ n ≤ 65536

set_option maxRecDepth 100000 in
set_option maxHeartbeats 2000000 in
theorem word_any (c K : Nat) (w : World) (h : Hid (Cur w c K)) (hK : K ≤ 800000000000) :
    Calls Tryd.prog 55 #[.pointer (some ⟨c, 0, none⟩)] w (Gives c (K + 12) w WordLike) := by
  go_enter Tryd.func55, Tryd.ntmps55
  go_wp2_with fail
  refine (pick_any c K _ _ h (by omega) (by omega) (by omega)).mono ?_
  rintro e w1 ⟨n1, ⟨a1, b1⟩, rfl, hc1, hg1⟩
  have C1 := Lib.hid hc1
  have G1 := Lib.hid hg1
  clear hc1 hg1
  go_wp2_with fail
  refine (pick_any c (K + 2) _ _ C1 (by omega) (by omega) (by omega)).mono ?_
  rintro e w2 ⟨n2, ⟨a2, b2⟩, rfl, hc2, hg2⟩
  have C2 := Lib.hid hc2
  have G2 := Lib.hid (grownC_trans G1.out hg2)
  clear hc2 hg2
  go_wp2_with fail
  refine (pick_any c (K + 2 + 2) _ _ C2 (by omega) (by omega) (by omega)).mono ?_
  rintro e w3 ⟨n3, ⟨a3, b3⟩, rfl, hc3, hg3⟩
  have C3 := Lib.hid hc3
  have G3 := Lib.hid (grownC_trans G2.out hg3)
  clear hc3 hg3
  go_wp2_with fail
  refine (pick_any c (K + 2 + 2 + 2) _ _ C3 (by omega) (by omega) (by omega)).mono ?_
  rintro e w4 ⟨n4, ⟨a4, b4⟩, rfl, hc4, hg4⟩
  have C4 := Lib.hid hc4
  have G4 := Lib.hid (grownC_trans G3.out hg4)
  clear hc4 hg4
  go_wp2_with fail
  refine (pick_any c (K + 2 + 2 + 2 + 2) _ _ C4 (by omega) (by omega) (by omega)).mono ?_
  rintro e w5 ⟨n5, ⟨a5, b5⟩, rfl, hc5, hg5⟩
  have C5 := Lib.hid hc5
  have G5 := Lib.hid (grownC_trans G4.out hg5)
  clear hc5 hg5
  go_wp2_with fail
  have hsz := C5.out.lt
  refine (among_any c (K + 2 + 2 + 2 + 2 + 2) w5.heap.size 11 [0, 1, 2, 255, 256, 32767, 32768, 65535, n1 * 256 + n2, n3 * 256 + n4, n5] _ (C5.out.alloc _) (by omega) (by omega) (by omega) (by omega)
    ⟨rfl, fun i hi => cells_new w5 [0, 1, 2, 255, 256, 32767, 32768, 65535, n1 * 256 + n2, n3 * 256 + n4, n5] 3 i hi⟩).mono ?_
  rintro e w6 ⟨n6, hin, rfl, hc6, hg6⟩
  have C6 := Lib.hid hc6
  have G6 := Lib.hid (grownC_trans G5.out (grownC_trans (World.grownBy_alloc w5 _ _) hg6))
  have HN : Hid (WordLike n6) := by
    show WordLike n6
    simp only [List.mem_cons, List.mem_nil_iff, or_false] at hin
    unfold WordLike
    omega
  clear hc6 hg6 hin
  go_wp2
  go_ret
  exact ⟨n6, HN.out, rfl, C6.out, G6.out⟩

set_option maxRecDepth 100000 in
set_option maxHeartbeats 2000000 in
theorem rawWord_any (c K : Nat) (w : World) (h : Hid (Cur w c K)) (hK : K ≤ 700000000000) :
    Calls Tryd.prog 52 #[.pointer (some ⟨c, 0, none⟩)] w (Gives c (K + 14) w RawLike) := by
  go_enter Tryd.func52, Tryd.ntmps52
  go_wp2_with fail
  refine (one_any c K _ _ h (by omega) (by omega) (by omega)).mono ?_
  rintro e w1 ⟨b, rfl, hc1, hg1⟩
  have C1 := Lib.hid hc1
  have G1 := Lib.hid hg1
  clear hc1 hg1
  cases b
  · go_wp2_with fail
    refine (word_any c (K + 2) _ C1 (by omega)).mono ?_
    rintro e w6 ⟨n6, hin, rfl, hc6, hg6⟩
    have C6 := Lib.hid hc6
    have G6 := Lib.hid (grownC_trans G1.out hg6)
    have HN : Hid (RawLike n6) := by
      show RawLike n6
      unfold WordLike at hin
      unfold RawLike
      omega
    clear hc6 hg6 hin
    go_wp2
    go_ret
    exact ⟨n6, HN.out, rfl, C6.out, G6.out⟩
  · go_wp2_with fail
    have hsz := C1.out.lt
    refine (among_any c (K + 2) w1.heap.size 2 [-1, 65536] _ (C1.out.alloc _) (by omega) (by omega) (by omega) (by omega)
      ⟨rfl, fun i hi => cells_new w1 [-1, 65536] 3 i hi⟩).mono ?_
    rintro e w6 ⟨n6, hin, rfl, hc6, hg6⟩
    have C6 := Lib.hid (hc6.mono (by omega : K + 2 + 2 ≤ K + 14))
    have G6 := Lib.hid (grownC_trans G1.out (grownC_trans (World.grownBy_alloc w1 _ _) hg6))
    have HN : Hid (RawLike n6) := by
      show RawLike n6
      simp only [List.mem_cons, List.mem_nil_iff, or_false] at hin
      unfold RawLike
      omega
    clear hc6 hg6 hin
    go_wp2
    go_ret
    exact ⟨n6, HN.out, rfl, C6.out, G6.out⟩

end Go.Proofs.YtmfganodnlnjcaaDoor.Op
