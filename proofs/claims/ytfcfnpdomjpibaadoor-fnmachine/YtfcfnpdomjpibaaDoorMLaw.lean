/-
  The laws' own helpers over machines: the copy, the size, the comparison, the marks.
-/
import Derived.Test.YtfcfnpdomjpibaaDoorNewM
import Derived.Test.YtfcfnpdomjpibaaDoorKept
import Derived.Deep.RegionWith
namespace Go.Proofs.YtfcfnpdomjpibaaDoor
open Go.ChangeShapes Go.WideShapes Go.ChangeAt Go.RowKit

theorem Kept.mblk {w w' : World} {S : Nat → Prop} (h : Kept w w' S) {g1 g2 g3 : Nat} {m : Mch} (hm : MBlk w g1 g2 g3 m) (n1 : ¬ S g1) (n2 : ¬ S g2) (n3 : ¬ S g3) : MBlk w' g1 g2 g3 m :=
  ⟨h.blk hm.1 n1, h.blk hm.2.1 n2, h.blk hm.2.2.1 n3, hm.2.2.2⟩
def three (g1 g2 g3 : Nat) (i : Nat) : Prop := i = g1 ∨ i = g2 ∨ i = g3

theorem n32 (w : World) (o0 o1 o2 : Obj) : (((w.alloc o0).alloc o1).alloc o2).heap[w.heap.size + 1 + 1]? = some o2 := by
  have := heap_alloc_new ((w.alloc o0).alloc o1) o2
  simpa using this
theorem n31 (w : World) (o0 o1 o2 : Obj) : (((w.alloc o0).alloc o1).alloc o2).heap[w.heap.size + 1]? = some o1 := by
  have := heap_alloc_new (w.alloc o0) o1
  refine (Below.heap_alloc _ _ _ (by simp)).trans ?_
  simpa using this
theorem n30 (w : World) (o0 o1 o2 : Obj) : (((w.alloc o0).alloc o1).alloc o2).heap[w.heap.size]? = some o0 := by
  refine (Below.heap_alloc _ _ _ (by simp <;> omega)).trans ((Below.heap_alloc _ _ _ (by simp)).trans (heap_alloc_new w o0))

set_option maxRecDepth 100000 in
set_option maxHeartbeats 2000000 in
theorem toMachine_any (a : Int) (A1 A2 A3 : Option Addr) (n1 n2 n3 c1 c2 c3 : Nat) (m : Mch) (w : World) (hl : Hid (MLies w A1 A2 A3 m)) (HX : Hid (Lens m n1 n2 n3)) (h1 : n1 ≤ 1048576) (h2 : n2 ≤ 1048576) (h3 : n3 ≤ 1048576) :
    Calls Tryd.prog 30 #[.agg #[.int .i64 a, .slice A1 n1 c1, .slice A2 n2 c2, .slice A3 n3 c3]] w fun e w' => ∃ g1 g2 g3,
      e = .returned (.agg #[.int .i64 a, .slice (some ⟨g1, 0, none⟩) n1 n1, .slice (some ⟨g2, 0, none⟩) n2 n2, .slice (some ⟨g3, 0, none⟩) n3 n3]) ∧ MBlk w' g1 g2 g3 m ∧ (w.heap.size ≤ g1 ∧ w.heap.size ≤ g2 ∧ w.heap.size ≤ g3) ∧ Below w.heap.size w w' := by
  go_enter Tryd.func30, Tryd.ntmps30
  go_wp2_with fail
  have KA := Lib.hid (n30 w (.cells #[.int .i64 a, .slice A1 n1 c1, .slice A2 n2 c2, .slice A3 n3 c3] 53) (.cells #[.int .i64 0, .slice none 0 0, .slice none 0 0, .slice none 0 0] 32) (.cells #[.int .i64 a, .slice none 0 0, .slice none 0 0, .slice none 0 0] 32))
  have KR := Lib.hid (n31 w (.cells #[.int .i64 a, .slice A1 n1 c1, .slice A2 n2 c2, .slice A3 n3 c3] 53) (.cells #[.int .i64 0, .slice none 0 0, .slice none 0 0, .slice none 0 0] 32) (.cells #[.int .i64 a, .slice none 0 0, .slice none 0 0, .slice none 0 0] 32))
  have KO := Lib.hid (n32 w (.cells #[.int .i64 a, .slice A1 n1 c1, .slice A2 n2 c2, .slice A3 n3 c3] 53) (.cells #[.int .i64 0, .slice none 0 0, .slice none 0 0, .slice none 0 0] 32) (.cells #[.int .i64 a, .slice none 0 0, .slice none 0 0, .slice none 0 0] 32))
  have B0 := Lib.hid (below3 w (.cells #[.int .i64 a, .slice A1 n1 c1, .slice A2 n2 c2, .slice A3 n3 c3] 53) (.cells #[.int .i64 0, .slice none 0 0, .slice none 0 0, .slice none 0 0] 32) (.cells #[.int .i64 a, .slice none 0 0, .slice none 0 0, .slice none 0 0] 32))
  generalize (((w.alloc (.cells #[.int .i64 a, .slice A1 n1 c1, .slice A2 n2 c2, .slice A3 n3 c3] 53)).alloc (.cells #[.int .i64 0, .slice none 0 0, .slice none 0 0, .slice none 0 0] 32)).alloc (.cells #[.int .i64 a, .slice none 0 0, .slice none 0 0, .slice none 0 0] 32)) = w0 at KA KR KO B0 ⊢
  replace KA : Hid (Blk w0 w.heap.size 53 [.int .i64 a, .slice A1 n1 c1, .slice A2 n2 c2, .slice A3 n3 c3]) := KA
  replace KR : Hid (Blk w0 (w.heap.size + 1) 32 [.int .i64 0, .slice none 0 0, .slice none 0 0, .slice none 0 0]) := KR
  replace KO : Hid (Blk w0 (w.heap.size + 1 + 1) 32 [.int .i64 a, .slice none 0 0, .slice none 0 0, .slice none 0 0]) := KO
  refine (toIntS_any _ _ _ m.r _ (hl.out.1.below B0.out) HX.out.1 h1).mono ?_
  rintro e w1 ⟨rfl, k1, hb1⟩
  obtain ⟨g1, hg1⟩ : ∃ g, w0.heap.size = g := ⟨_, rfl⟩
  rw [hg1] at k1 ⊢
  have S1 : Hid (w.heap.size + 1 + 1 < g1) := Lib.hid (by have := KO.out.lt; omega)
  have Q1 := Lib.hid k1
  have B1 := Lib.hid (Below.tr B0.out hb1)
  have KA1 := Lib.hid (KA.out.below hb1)
  have KR1 := Lib.hid (KR.out.below hb1)
  have KO1 := Lib.hid (KO.out.below hb1)
  clear k1 hb1 KA KR KO hg1
  have a2 : w1.cell? ⟨w.heap.size, 2, none⟩ = some (.slice A2 n2 c2) := KA1.out.there rfl
  have o1 : w1.cell? ⟨w.heap.size + 1 + 1, 1, none⟩ = some (.slice none 0 0) := KO1.out.there rfl
  have f1 := KO1.out.frozen 1
  go_wp2_with fail
  have hb2 := (B1.out).setCell (p := ⟨w.heap.size + 1 + 1, 1, none⟩) (by show w.heap.size ≤ w.heap.size + 1 + 1; omega) (.slice (some ⟨g1, 0, none⟩) n1 n1)
  have B2 := Lib.hid hb2
  have KA2 := Lib.hid (KA1.out.far (g' := w.heap.size + 1 + 1) (j := 1) (by omega) (.slice (some ⟨g1, 0, none⟩) n1 n1))
  have KR2 := Lib.hid (KR1.out.far (g' := w.heap.size + 1 + 1) (j := 1) (by omega) (.slice (some ⟨g1, 0, none⟩) n1 n1))
  have KO2 := Lib.hid (KO1.out.set 1 (.slice (some ⟨g1, 0, none⟩) n1 n1))
  have Q2 := Lib.hid (Q1.out.far (g' := w.heap.size + 1 + 1) (j := 1) (by have := S1.out; omega) (.slice (some ⟨g1, 0, none⟩) n1 n1))
  clear hb2 a2 o1 f1 KA1 KR1 KO1 Q1
  generalize w1.setCell ⟨w.heap.size + 1 + 1, 1, none⟩ (.slice (some ⟨g1, 0, none⟩) n1 n1) = w2 at B2 KA2 KR2 KO2 Q2 ⊢
  refine (toIntS_any _ _ _ m.c _ (hl.out.2.1.below B2.out) HX.out.2.1 h2).mono ?_
  rintro e w3 ⟨rfl, k3, hb3⟩
  obtain ⟨g2, hg2⟩ : ∃ g, w2.heap.size = g := ⟨_, rfl⟩
  rw [hg2] at k3 ⊢
  have S2 : Hid (g1 < g2) := Lib.hid (by have := Q2.out.lt; omega)
  have R3 := Lib.hid k3
  have B3 := Lib.hid (Below.tr B2.out hb3)
  have KA3 := Lib.hid (KA2.out.below hb3)
  have KR3 := Lib.hid (KR2.out.below hb3)
  have KO3 := Lib.hid (KO2.out.below hb3)
  have Q3 := Lib.hid (Q2.out.below hb3)
  clear k3 hb3 KA2 KR2 KO2 Q2 hg2
  have a3 : w3.cell? ⟨w.heap.size, 3, none⟩ = some (.slice A3 n3 c3) := KA3.out.there rfl
  have o2 : w3.cell? ⟨w.heap.size + 1 + 1, 2, none⟩ = some (.slice none 0 0) := KO3.out.there rfl
  have f2 := KO3.out.frozen 2
  go_wp2_with fail
  have B4 := Lib.hid ((B3.out).setCell (p := ⟨w.heap.size + 1 + 1, 2, none⟩) (by show w.heap.size ≤ w.heap.size + 1 + 1; omega) (.slice (some ⟨g2, 0, none⟩) n2 n2))
  have KR4 := Lib.hid (KR3.out.far (g' := w.heap.size + 1 + 1) (j := 2) (by omega) (.slice (some ⟨g2, 0, none⟩) n2 n2))
  have KO4 := Lib.hid (KO3.out.set 2 (.slice (some ⟨g2, 0, none⟩) n2 n2))
  have Q4 := Lib.hid (Q3.out.far (g' := w.heap.size + 1 + 1) (j := 2) (by have := S1.out; omega) (.slice (some ⟨g2, 0, none⟩) n2 n2))
  have R4 := Lib.hid (R3.out.far (g' := w.heap.size + 1 + 1) (j := 2) (by have := S1.out; have := S2.out; omega) (.slice (some ⟨g2, 0, none⟩) n2 n2))
  clear a3 o2 f2 KA3 KR3 KO3 Q3 R3
  generalize w3.setCell ⟨w.heap.size + 1 + 1, 2, none⟩ (.slice (some ⟨g2, 0, none⟩) n2 n2) = w4 at B4 KR4 KO4 Q4 R4 ⊢
  refine (toBoolS_any _ _ _ m.s _ (hl.out.2.2.below B4.out) HX.out.2.2 h3).mono ?_
  rintro e w5 ⟨rfl, k5, hb5⟩
  obtain ⟨g3, hg3⟩ : ∃ g, w4.heap.size = g := ⟨_, rfl⟩
  rw [hg3] at k5 ⊢
  have S3 : Hid (g2 < g3) := Lib.hid (by have := R4.out.lt; omega)
  have T5 := Lib.hid k5
  have B5 := Lib.hid (Below.tr B4.out hb5)
  have KR5 := Lib.hid (KR4.out.below hb5)
  have KO5 := Lib.hid (KO4.out.below hb5)
  have Q5 := Lib.hid (Q4.out.below hb5)
  have R5 := Lib.hid (R4.out.below hb5)
  clear k5 hb5 KR4 KO4 Q4 R4 hg3
  have o0 : w5.cell? ⟨w.heap.size + 1 + 1, 0, none⟩ = some (.int .i64 a) := KO5.out.there rfl
  have o1 : w5.cell? ⟨w.heap.size + 1 + 1, 1, none⟩ = some (.slice (some ⟨g1, 0, none⟩) n1 n1) := KO5.out.there rfl
  have o2 : w5.cell? ⟨w.heap.size + 1 + 1, 2, none⟩ = some (.slice (some ⟨g2, 0, none⟩) n2 n2) := KO5.out.there rfl
  have o3 : w5.cell? ⟨w.heap.size + 1 + 1, 3, none⟩ = some (.slice none 0 0) := KO5.out.there rfl
  have f3 := KO5.out.frozen 3
  have r0 : w5.cell? ⟨w.heap.size + 1, 0, none⟩ = some (.int .i64 0) := KR5.out.there rfl
  have r1 : w5.cell? ⟨w.heap.size + 1, 1, none⟩ = some (.slice none 0 0) := KR5.out.there rfl
  have r2 : w5.cell? ⟨w.heap.size + 1, 2, none⟩ = some (.slice none 0 0) := KR5.out.there rfl
  have r3 : w5.cell? ⟨w.heap.size + 1, 3, none⟩ = some (.slice none 0 0) := KR5.out.there rfl
  have e0 := KR5.out.frozen 0
  have e1 := KR5.out.frozen 1
  have e2 := KR5.out.frozen 2
  have e3 := KR5.out.frozen 3
  go_wp2
  refine bodyPost_ret (v := .agg #[.int .i64 a, .slice (some ⟨g1, 0, none⟩) n1 n1, .slice (some ⟨g2, 0, none⟩) n2 n2, .slice (some ⟨g3, 0, none⟩) n3 n3]) (by simp [results, Tryd.results30, go_sem, r0, r1, r2, r3]) rfl ⟨g1, g2, g3, rfl, ?_, ?_, ?_⟩
  · have s1 := S1.out
    have s2 := S2.out
    have s3 := S3.out
    refine ⟨?_, ?_, ?_, by omega, by omega, by omega⟩
    · exact ((((Q5.out.far (by omega) _).far (by omega) _).far (by omega) _).far (by omega) _).far (by omega) _
    · exact ((((R5.out.far (by omega) _).far (by omega) _).far (by omega) _).far (by omega) _).far (by omega) _
    · exact ((((T5.out.far (by omega) _).far (by omega) _).far (by omega) _).far (by omega) _).far (by omega) _
  · have s1 := S1.out
    have s2 := S2.out
    have s3 := S3.out
    omega
  · exact ((((B5.out.setCell (by simp; omega) _).setCell (by simp) _).setCell (by simp) _).setCell (by simp) _).setCell (by simp) _

set_option maxRecDepth 100000 in
set_option maxHeartbeats 2000000 in
theorem szMachine_any (a : Int) (A1 A2 A3 : Option Addr) (n1 n2 n3 c1 c2 c3 : Nat) (w : World) (L : Int) (l0 : 0 ≤ L) (l1 : L ≤ 1048576) (h1 : n1 ≤ 9223372036854775807) (h2 : n2 ≤ 9223372036854775807) (h3 : n3 ≤ 9223372036854775807) :
    Calls Tryd.prog 27 #[.agg #[.int .i64 a, .slice A1 n1 c1, .slice A2 n2 c2, .slice A3 n3 c3], .int .i64 L] w fun e w' => (∃ q : Int, e = .returned (.int .i64 q) ∧ (q < 0 ∨ (0 ≤ q ∧ q = L - n1 - n2 - n3))) ∧ Below w.heap.size w w' := by
  have B0 := Lib.hid (below1 w (.cells #[.int .i64 a, .slice A1 n1 c1, .slice A2 n2 c2, .slice A3 n3 c3] 53))
  by_cases q1 : L < n1
  · have e1 : szF L n1 = -1 := if_pos q1
    go_enter Tryd.func27, Tryd.ntmps27
    go_wp2_with (go_at_call 58; refine (szIntS_any _ _ _ _ _ h1 (by omega) (by omega)).mono ?_; rintro e w' ⟨rfl, rfl⟩)
    go_ret
    exact ⟨⟨_, rfl, .inl (by omega)⟩, B0.out⟩
  have e1 : szF L n1 = L - n1 := if_neg q1
  by_cases q2 : L - n1 < n2
  · have e2 : szF (L - n1) n2 = -1 := if_pos q2
    go_enter Tryd.func27, Tryd.ntmps27
    go_wp2_with fail
    refine (szIntS_any _ _ _ _ _ h1 (by omega) (by omega)).mono ?_
    rintro e w' ⟨rfl, rfl⟩
    rw [e1]
    go_wp2_with fail
    refine (szIntS_any _ _ _ _ _ h2 (by omega) (by omega)).mono ?_
    rintro e w' ⟨rfl, rfl⟩
    rw [e2]
    go_wp2
    go_ret
    exact ⟨⟨_, rfl, .inl (by omega)⟩, B0.out⟩
  have e2 : szF (L - n1) n2 = L - n1 - n2 := if_neg q2
  by_cases q3 : L - n1 - n2 < n3
  · have e3 : szF (L - n1 - n2) n3 = -1 := if_pos q3
    go_enter Tryd.func27, Tryd.ntmps27
    go_wp2_with fail
    refine (szIntS_any _ _ _ _ _ h1 (by omega) (by omega)).mono ?_
    rintro e w' ⟨rfl, rfl⟩
    rw [e1]
    go_wp2_with fail
    refine (szIntS_any _ _ _ _ _ h2 (by omega) (by omega)).mono ?_
    rintro e w' ⟨rfl, rfl⟩
    rw [e2]
    go_wp2_with fail
    refine (szBoolS_any _ _ _ _ _ h3 (by omega) (by omega)).mono ?_
    rintro e w' ⟨rfl, rfl⟩
    rw [e3]
    go_wp2
    go_ret
    exact ⟨⟨_, rfl, .inl (by omega)⟩, B0.out⟩
  have e3 : szF (L - n1 - n2) n3 = L - n1 - n2 - n3 := if_neg q3
  go_enter Tryd.func27, Tryd.ntmps27
  go_wp2_with fail
  refine (szIntS_any _ _ _ _ _ h1 (by omega) (by omega)).mono ?_
  rintro e w' ⟨rfl, rfl⟩
  rw [e1]
  go_wp2_with fail
  refine (szIntS_any _ _ _ _ _ h2 (by omega) (by omega)).mono ?_
  rintro e w' ⟨rfl, rfl⟩
  rw [e2]
  go_wp2_with fail
  refine (szBoolS_any _ _ _ _ _ h3 (by omega) (by omega)).mono ?_
  rintro e w' ⟨rfl, rfl⟩
  rw [e3]
  go_wp2
  go_ret
  exact ⟨⟨_, rfl, .inr ⟨by omega, rfl⟩⟩, B0.out⟩

theorem n21 (w : World) (o0 o1 : Obj) : ((w.alloc o0).alloc o1).heap[w.heap.size + 1]? = some o1 := by
  have := heap_alloc_new (w.alloc o0) o1
  simpa using this
theorem n20 (w : World) (o0 o1 : Obj) : ((w.alloc o0).alloc o1).heap[w.heap.size]? = some o0 := (Below.heap_alloc _ _ _ (by simp)).trans (heap_alloc_new w o0)

set_option maxRecDepth 100000 in
set_option maxHeartbeats 2000000 in
theorem eqMachine_same (a : Int) (A1 A2 A3 D1 D2 D3 : Option Addr) (n1 n2 n3 c1 c2 c3 d1 d2 d3 : Nat) (m : Mch) (w : World) (hl : Hid (MLies w A1 A2 A3 m)) (hl2 : Hid (MLies w D1 D2 D3 m)) (HX : Hid (Lens m n1 n2 n3)) (h1 : n1 ≤ 1048576) (h2 : n2 ≤ 1048576) (h3 : n3 ≤ 1048576) :
    Calls Tryd.prog 31 #[.agg #[.int .i64 a, .slice A1 n1 c1, .slice A2 n2 c2, .slice A3 n3 c3], .agg #[.int .i64 a, .slice D1 n1 d1, .slice D2 n2 d2, .slice D3 n3 d3]] w fun e w' => e = .returned (.bool true) ∧ Below w.heap.size w w' := by
  have haa : (a != a) = false := by simp
  have KA : Hid (Blk ((w.alloc (.cells #[.int .i64 a, .slice A1 n1 c1, .slice A2 n2 c2, .slice A3 n3 c3] 32)).alloc (.cells #[.int .i64 a, .slice D1 n1 d1, .slice D2 n2 d2, .slice D3 n3 d3] 32)) w.heap.size 32 [.int .i64 a, .slice A1 n1 c1, .slice A2 n2 c2, .slice A3 n3 c3]) := Lib.hid (n20 w _ _)
  have KD : Hid (Blk ((w.alloc (.cells #[.int .i64 a, .slice A1 n1 c1, .slice A2 n2 c2, .slice A3 n3 c3] 32)).alloc (.cells #[.int .i64 a, .slice D1 n1 d1, .slice D2 n2 d2, .slice D3 n3 d3] 32)) (w.heap.size + 1) 32 [.int .i64 a, .slice D1 n1 d1, .slice D2 n2 d2, .slice D3 n3 d3]) := Lib.hid (n21 w _ _)
  have B0 := Lib.hid (below2 w (.cells #[.int .i64 a, .slice A1 n1 c1, .slice A2 n2 c2, .slice A3 n3 c3] 32) (.cells #[.int .i64 a, .slice D1 n1 d1, .slice D2 n2 d2, .slice D3 n3 d3] 32))
  go_enter Tryd.func31, Tryd.ntmps31
  go_wp2_with fail
  refine (eqIntS_same _ _ _ _ _ m.r _ (hl.out.1.below B0.out) (hl2.out.1.below B0.out) HX.out.1 (by omega)).mono ?_
  rintro e w1 ⟨rfl, hb1⟩
  have B1 := Lib.hid (Below.tr B0.out hb1)
  have KA1 := Lib.hid (KA.out.below hb1)
  have KD1 := Lib.hid (KD.out.below hb1)
  clear hb1 KA KD
  have a2 : w1.cell? ⟨w.heap.size, 2, none⟩ = some (.slice A2 n2 c2) := KA1.out.there rfl
  have d2' : w1.cell? ⟨w.heap.size + 1, 2, none⟩ = some (.slice D2 n2 d2) := KD1.out.there rfl
  go_wp2_with fail
  refine (eqIntS_same _ _ _ _ _ m.c _ (hl.out.2.1.below B1.out) (hl2.out.2.1.below B1.out) HX.out.2.1 (by omega)).mono ?_
  rintro e w2 ⟨rfl, hb2⟩
  have B2 := Lib.hid (Below.tr B1.out hb2)
  have KA2 := Lib.hid (KA1.out.below hb2)
  have KD2 := Lib.hid (KD1.out.below hb2)
  clear hb2 KA1 KD1 a2 d2'
  have a3 : w2.cell? ⟨w.heap.size, 3, none⟩ = some (.slice A3 n3 c3) := KA2.out.there rfl
  have d3' : w2.cell? ⟨w.heap.size + 1, 3, none⟩ = some (.slice D3 n3 d3) := KD2.out.there rfl
  go_wp2_with fail
  refine (eqBoolS_same _ _ _ _ _ m.s _ (hl.out.2.2.below B2.out) (hl2.out.2.2.below B2.out) HX.out.2.2 (by omega)).mono ?_
  rintro e w3 ⟨rfl, hb3⟩
  have B3 := Lib.hid (Below.tr B2.out hb3)
  clear hb3 KA2 KD2 a3 d3'
  go_wp2
  go_ret
  exact ⟨rfl, B3.out⟩

/-- what the marking leaves of a machine -/
def markM (a k : Int) (n1 n2 n3 : Nat) : Mch := ⟨a, iota k n1, iota (k + n1) n2, biota (k + n1 + n2) n3⟩
theorem markM_lens (a k : Int) (n1 n2 n3 : Nat) : Lens (markM a k n1 n2 n3) n1 n2 n3 := ⟨iota_len _ _, iota_len _ _, biota_len _ _⟩

set_option maxRecDepth 100000 in
set_option maxHeartbeats 2000000 in
theorem markMachine_any (a k : Int) (g1 g2 g3 n1 n2 n3 : Nat) (m : Mch) (w : World) (hm : Hid (MBlk w g1 g2 g3 m)) (HX : Hid (Lens m n1 n2 n3)) (h1 : n1 ≤ 1048576) (h2 : n2 ≤ 1048576) (h3 : n3 ≤ 1048576) (k0 : 0 ≤ k) (k1 : k ≤ 100000000) :
    Calls Tryd.prog 36 #[.agg #[.int .i64 a, .slice (some ⟨g1, 0, none⟩) n1 n1, .slice (some ⟨g2, 0, none⟩) n2 n2, .slice (some ⟨g3, 0, none⟩) n3 n3], .int .i64 k] w fun e w' =>
      e = .returned (.int .i64 (k + n1 + n2 + n3)) ∧ MBlk w' g1 g2 g3 (markM a k n1 n2 n3) ∧ Kept w w' (three g1 g2 g3) := by
  have hb0 := below1 w (.cells #[.int .i64 a, .slice (some ⟨g1, 0, none⟩) n1 n1, .slice (some ⟨g2, 0, none⟩) n2 n2, .slice (some ⟨g3, 0, none⟩) n3 n3] 32)
  have P0 : Hid (Kept w (w.alloc (.cells #[.int .i64 a, .slice (some ⟨g1, 0, none⟩) n1 n1, .slice (some ⟨g2, 0, none⟩) n2 n2, .slice (some ⟨g3, 0, none⟩) n3 n3] 32)) (three g1 g2 g3)) := Lib.hid (.of_below hb0)
  have M0 := Lib.hid (hm.out.below hb0)
  have KA : Hid (Blk (w.alloc (.cells #[.int .i64 a, .slice (some ⟨g1, 0, none⟩) n1 n1, .slice (some ⟨g2, 0, none⟩) n2 n2, .slice (some ⟨g3, 0, none⟩) n3 n3] 32)) w.heap.size 32 [.int .i64 a, .slice (some ⟨g1, 0, none⟩) n1 n1, .slice (some ⟨g2, 0, none⟩) n2 n2, .slice (some ⟨g3, 0, none⟩) n3 n3]) := Lib.hid (heap_alloc_new w _)
  have N1 : Hid (g1 ≠ w.heap.size ∧ g2 ≠ w.heap.size ∧ g3 ≠ w.heap.size) := Lib.hid (by have := hm.out.1.lt; have := hm.out.2.1.lt; have := hm.out.2.2.1.lt; omega)
  have NE : Hid (g1 ≠ g2 ∧ g1 ≠ g3 ∧ g2 ≠ g3) := hm.out.2.2.2
  clear hb0
  go_enter Tryd.func36, Tryd.ntmps36
  go_wp2_with fail
  refine (markIntS_any g1 n1 n1 _ m.r k _ (own_of_vblk M0.out.1 (by simpa using HX.out.1) h1) (by omega) (by omega)).mono ?_
  rintro e w1 ⟨rfl, ho1, hg1⟩
  have G1 := Lib.hid (Kept.of_grown (S := three g1 g2 g3) hg1 (fun g h => by simp [Value.ownBlock] at h; exact .inl h.symm))
  have P1 := Lib.hid (P0.out.trans G1.out)
  have Q1 := Lib.hid (vblk_of_own ho1)
  have KA1 := Lib.hid (blk_far KA.out hg1 (by simp [Value.ownBlock]; have := N1.out; omega))
  have R1 := Lib.hid (blk_far M0.out.2.1 hg1 (by simp [Value.ownBlock]; have := NE.out; omega))
  have T1 := Lib.hid (blk_far M0.out.2.2.1 hg1 (by simp [Value.ownBlock]; have := NE.out; omega))
  clear ho1 hg1 G1 P0 M0 KA
  have a2 : w1.cell? ⟨w.heap.size, 2, none⟩ = some (.slice (some ⟨g2, 0, none⟩) n2 n2) := KA1.out.there rfl
  go_wp2_with fail
  refine (markIntS_any g2 n2 n2 _ m.c (k + n1) _ (own_of_vblk R1.out (by simpa using HX.out.2.1) h2) (by omega) (by omega)).mono ?_
  rintro e w2 ⟨rfl, ho2, hg2⟩
  have G2 := Lib.hid (Kept.of_grown (S := three g1 g2 g3) hg2 (fun g h => by simp [Value.ownBlock] at h; exact .inr (.inl h.symm)))
  have P2 := Lib.hid (P1.out.trans G2.out)
  have R2 := Lib.hid (vblk_of_own ho2)
  have KA2 := Lib.hid (blk_far KA1.out hg2 (by simp [Value.ownBlock]; have := N1.out; omega))
  have Q2 := Lib.hid (blk_far Q1.out hg2 (by simp [Value.ownBlock]; have := NE.out; omega))
  have T2 := Lib.hid (blk_far T1.out hg2 (by simp [Value.ownBlock]; have := NE.out; omega))
  clear ho2 hg2 G2 P1 KA1 Q1 R1 T1 a2
  have a3 : w2.cell? ⟨w.heap.size, 3, none⟩ = some (.slice (some ⟨g3, 0, none⟩) n3 n3) := KA2.out.there rfl
  go_wp2_with fail
  refine (markBoolS_any g3 n3 n3 _ m.s (k + n1 + n2) _ (own_of_vblk T2.out (by simpa using HX.out.2.2) h3) (by omega) (by omega)).mono ?_
  rintro e w3 ⟨rfl, ho3, hg3⟩
  have G3 := Lib.hid (Kept.of_grown (S := three g1 g2 g3) hg3 (fun g h => by simp [Value.ownBlock] at h; exact .inr (.inr h.symm)))
  have P3 := Lib.hid (P2.out.trans G3.out)
  have T3 := Lib.hid (vblk_of_own ho3)
  have Q3 := Lib.hid (blk_far Q2.out hg3 (by simp [Value.ownBlock]; have := NE.out; omega))
  have R3 := Lib.hid (blk_far R2.out hg3 (by simp [Value.ownBlock]; have := NE.out; omega))
  clear ho3 hg3 G3 P2 KA2 Q2 R2 T2 a3
  go_wp2
  go_ret
  exact ⟨rfl, ⟨Q3.out, R3.out, T3.out, NE.out⟩, P3.out⟩

set_option maxRecDepth 100000 in
set_option maxHeartbeats 2000000 in
theorem heldMachine_any (a k : Int) (A1 A2 A3 : Option Addr) (n1 n2 n3 c1 c2 c3 : Nat) (w : World) (hl : Hid (MLies w A1 A2 A3 (markM a k n1 n2 n3))) (h1 : n1 ≤ 1048576) (h2 : n2 ≤ 1048576) (h3 : n3 ≤ 1048576) (k0 : 0 ≤ k) (k1 : k ≤ 100000000) :
    Calls Tryd.prog 37 #[.agg #[.int .i64 a, .slice A1 n1 c1, .slice A2 n2 c2, .slice A3 n3 c3], .int .i64 k] w fun e w' => e = .returned (.int .i64 (k + n1 + n2 + n3)) ∧ Below w.heap.size w w' := by
  have B0 := Lib.hid (below1 w (.cells #[.int .i64 a, .slice A1 n1 c1, .slice A2 n2 c2, .slice A3 n3 c3] 32))
  have q1 : decide (k + (n1 : Int) < 0) = false := by simp; omega
  have q2 : decide (k + (n1 : Int) + (n2 : Int) < 0) = false := by simp; omega
  have q3 : decide (k + (n1 : Int) + (n2 : Int) + (n3 : Int) < 0) = false := by simp; omega
  go_enter Tryd.func37, Tryd.ntmps37
  go_wp2_with fail
  refine (heldIntS_any _ _ _ _ _ (hl.out.1.below B0.out) (by omega) (by omega)).mono ?_
  rintro e w' ⟨rfl, rfl⟩
  go_wp2_with fail
  refine (heldIntS_any _ _ _ _ _ (hl.out.2.1.below B0.out) (by omega) (by omega)).mono ?_
  rintro e w' ⟨rfl, rfl⟩
  go_wp2_with fail
  refine (heldBoolS_any _ _ _ _ _ (hl.out.2.2.below B0.out) (by omega) (by omega)).mono ?_
  rintro e w1 ⟨rfl, hb1⟩
  have B1 := Lib.hid (Below.tr B0.out hb1)
  clear hb1
  go_wp2
  go_ret
  exact ⟨rfl, B1.out⟩
end Go.Proofs.YtfcfnpdomjpibaaDoor
