/-
  The walks of the laws of NewMachine and of GoodMachine.
-/
import Derived.Test.YtlpldabcncbfeaaMLaw
namespace Go.Proofs.Ytlpldabcncbfeaa
open Go.ChangeShapes Go.WideShapes Go.ChangeAt Go.RowKit

theorem newM_lens : Lens newM 6 16 16 := ⟨rfl, rfl, rfl⟩
set_option maxRecDepth 100000 in
set_option maxHeartbeats 4000000 in
theorem lawNewM (w : World) : Calls Try.prog 3 #[] w fun e w' => e = .returned (.bool true) ∧ Below w.heap.size w w' := by
  go_enter Try.func3, Try.ntmps3
  go_wp2_with fail
  refine (specNewM_any w).mono ?_
  rintro e w1 ⟨p1, p2, p3, rfl, hm1, hge1, hb1⟩
  have M1 := Lib.hid hm1
  have B1 := Lib.hid hb1
  have Z1 : Hid (p1 < w1.heap.size ∧ p2 < w1.heap.size ∧ p3 < w1.heap.size) := Lib.hid ⟨hm1.1.lt, hm1.2.1.lt, hm1.2.2.1.lt⟩
  clear hm1 hge1 hb1
  go_wp2_with fail
  have hb2 := below1 w1 (.cells #[.int .i64 0, .slice (some ⟨p1, 0, none⟩) 6 6, .slice (some ⟨p2, 0, none⟩) 16 16, .slice (some ⟨p3, 0, none⟩) 16 16] 25)
  have KW : Hid (Blk (w1.alloc (.cells #[.int .i64 0, .slice (some ⟨p1, 0, none⟩) 6 6, .slice (some ⟨p2, 0, none⟩) 16 16, .slice (some ⟨p3, 0, none⟩) 16 16] 25)) w1.heap.size 25 [.int .i64 0, .slice (some ⟨p1, 0, none⟩) 6 6, .slice (some ⟨p2, 0, none⟩) 16 16, .slice (some ⟨p3, 0, none⟩) 16 16]) := Lib.hid (heap_alloc_new w1 _)
  have M2 := Lib.hid (M1.out.below hb2)
  have B2 := Lib.hid (Below.tr B1.out hb2)
  clear hb2 M1
  generalize w1.alloc (.cells #[.int .i64 0, .slice (some ⟨p1, 0, none⟩) 6 6, .slice (some ⟨p2, 0, none⟩) 16 16, .slice (some ⟨p3, 0, none⟩) 16 16] 25) = w2 at KW M2 B2 ⊢
  obtain ⟨bw, hbw⟩ : ∃ b, w1.heap.size = b := ⟨_, rfl⟩
  rw [hbw] at KW Z1 ⊢
  have LW : Hid (w.heap.size ≤ bw) := Lib.hid (by have := B1.out.size; omega)
  clear hbw B1
  refine (implNewM_any w2).mono ?_
  rintro e w3 ⟨g1, g2, g3, rfl, hm3, hge3, hb3⟩
  have KW3 := Lib.hid (KW.out.below hb3)
  have M3 := Lib.hid (M2.out.below hb3)
  have B3 := Lib.hid (Below.tr B2.out hb3)
  have N3 := Lib.hid hm3
  have Z3 : Hid (g1 < w3.heap.size ∧ g2 < w3.heap.size ∧ g3 < w3.heap.size) := Lib.hid ⟨hm3.1.lt, hm3.2.1.lt, hm3.2.2.1.lt⟩
  have Y3 : Hid ((w2.heap.size ≤ g1 ∧ w2.heap.size ≤ g2 ∧ w2.heap.size ≤ g3) ∧ (p1 < w2.heap.size ∧ p2 < w2.heap.size ∧ p3 < w2.heap.size) ∧ bw < w2.heap.size ∧ w.heap.size ≤ w2.heap.size) := Lib.hid ⟨hge3, ⟨M2.out.1.lt, M2.out.2.1.lt, M2.out.2.2.1.lt⟩, KW.out.lt, B2.out.size⟩
  clear hm3 hge3 hb3 KW M2
  have x0 : w3.cell? ⟨bw, 0, none⟩ = some (.int .i64 0) := KW3.out.there rfl
  have x1 : w3.cell? ⟨bw, 1, none⟩ = some (.slice (some ⟨p1, 0, none⟩) 6 6) := KW3.out.there rfl
  have x2 : w3.cell? ⟨bw, 2, none⟩ = some (.slice (some ⟨p2, 0, none⟩) 16 16) := KW3.out.there rfl
  have x3 : w3.cell? ⟨bw, 3, none⟩ = some (.slice (some ⟨p3, 0, none⟩) 16 16) := KW3.out.there rfl
  have xlt : bw < w3.heap.size := KW3.out.lt
  go_wp2_with fail
  have hb4 := below1 w3 (.cells #[.int .i64 0, .slice (some ⟨g1, 0, none⟩) 6 6, .slice (some ⟨g2, 0, none⟩) 16 16, .slice (some ⟨g3, 0, none⟩) 16 16] 25)
  have KG : Hid (Blk (w3.alloc (.cells #[.int .i64 0, .slice (some ⟨g1, 0, none⟩) 6 6, .slice (some ⟨g2, 0, none⟩) 16 16, .slice (some ⟨g3, 0, none⟩) 16 16] 25)) w3.heap.size 25 [.int .i64 0, .slice (some ⟨g1, 0, none⟩) 6 6, .slice (some ⟨g2, 0, none⟩) 16 16, .slice (some ⟨g3, 0, none⟩) 16 16]) := Lib.hid (heap_alloc_new w3 _)
  have KW4 := Lib.hid (KW3.out.below hb4)
  have M4 := Lib.hid (M3.out.below hb4)
  have N4 := Lib.hid (N3.out.below hb4)
  have B4 := Lib.hid (Below.tr B3.out hb4)
  clear hb4 KW3 M3 N3 x0 x1 x2 x3
  generalize w3.alloc (.cells #[.int .i64 0, .slice (some ⟨g1, 0, none⟩) 6 6, .slice (some ⟨g2, 0, none⟩) 16 16, .slice (some ⟨g3, 0, none⟩) 16 16] 25) = w4 at KG KW4 M4 N4 B4 ⊢
  obtain ⟨bg, hbg⟩ : ∃ b, w3.heap.size = b := ⟨_, rfl⟩
  rw [hbg] at KG Z3 xlt ⊢
  have LG : Hid (bw < bg ∧ g1 < bg ∧ g2 < bg ∧ g3 < bg ∧ w.heap.size ≤ bg) := Lib.hid (by have := Z3.out; have := B3.out.size; omega)
  clear hbg xlt Z3 B3
  refine (eqMachine_same 0 _ _ _ _ _ _ _ _ _ _ _ _ _ _ _ newM _ N4.out.lies M4.out.lies newM_lens (by omega) (by omega) (by omega)).mono ?_
  rintro e w5 ⟨rfl, hb5⟩
  have KG5 := Lib.hid (KG.out.below hb5)
  have KW5 := Lib.hid (KW4.out.below hb5)
  have M5 := Lib.hid (M4.out.below hb5)
  have N5 := Lib.hid (N4.out.below hb5)
  have B5 := Lib.hid (Below.tr B4.out hb5)
  clear hb5 KG KW4 M4 N4 B4
  have y0 : w5.cell? ⟨bg, 0, none⟩ = some (.int .i64 0) := KG5.out.there rfl
  have y1 : w5.cell? ⟨bg, 1, none⟩ = some (.slice (some ⟨g1, 0, none⟩) 6 6) := KG5.out.there rfl
  have y2 : w5.cell? ⟨bg, 2, none⟩ = some (.slice (some ⟨g2, 0, none⟩) 16 16) := KG5.out.there rfl
  have y3 : w5.cell? ⟨bg, 3, none⟩ = some (.slice (some ⟨g3, 0, none⟩) 16 16) := KG5.out.there rfl
  go_wp2_with fail
  refine (markMachine_any 0 1 g1 g2 g3 6 16 16 newM _ N5 newM_lens (by omega) (by omega) (by omega) (by omega) (by omega)).mono ?_
  rintro e w6 ⟨rfl, hn6, hk6⟩
  have NG : Hid (¬ three g1 g2 g3 bg ∧ ¬ three g1 g2 g3 bw ∧ ¬ three g1 g2 g3 p1 ∧ ¬ three g1 g2 g3 p2 ∧ ¬ three g1 g2 g3 p3) := Lib.hid (by have := LG.out; have := Y3.out; unfold three; omega)
  have N6 := Lib.hid hn6
  have KG6 := Lib.hid (hk6.blk KG5.out NG.out.1)
  have KW6 := Lib.hid (hk6.blk KW5.out NG.out.2.1)
  have M6 := Lib.hid (hk6.mblk M5.out NG.out.2.2.1 NG.out.2.2.2.1 NG.out.2.2.2.2)
  have B6 := Lib.hid (hk6.below B5.out B5.out.size (fun i hi => by have := Y3.out; unfold three at hi; omega))
  clear hn6 hk6 KG5 KW5 M5 N5 B5 y0 y1 y2 y3
  have y0 : w6.cell? ⟨bg, 0, none⟩ = some (.int .i64 0) := KG6.out.there rfl
  have y1 : w6.cell? ⟨bg, 1, none⟩ = some (.slice (some ⟨g1, 0, none⟩) 6 6) := KG6.out.there rfl
  have y2 : w6.cell? ⟨bg, 2, none⟩ = some (.slice (some ⟨g2, 0, none⟩) 16 16) := KG6.out.there rfl
  have y3 : w6.cell? ⟨bg, 3, none⟩ = some (.slice (some ⟨g3, 0, none⟩) 16 16) := KG6.out.there rfl
  go_wp2_with fail
  refine (heldMachine_any 0 1 _ _ _ 6 16 16 _ _ _ _ N6.out.lies (by omega) (by omega) (by omega) (by omega) (by omega)).mono ?_
  rintro e w7 ⟨rfl, hb7⟩
  have KG7 := Lib.hid (KG6.out.below hb7)
  have KW7 := Lib.hid (KW6.out.below hb7)
  have M7 := Lib.hid (M6.out.below hb7)
  have N7 := Lib.hid (N6.out.below hb7)
  have B7 := Lib.hid (Below.tr B6.out hb7)
  clear hb7 KG6 KW6 M6 N6 B6 y0 y1 y2 y3
  go_wp2_with fail
  refine (implNewM_any w7).mono ?_
  rintro e w8 ⟨q1, q2, q3, rfl, hm8, hge8, hb8⟩
  have KG8 := Lib.hid (KG7.out.below hb8)
  have KW8 := Lib.hid (KW7.out.below hb8)
  have M8 := Lib.hid (M7.out.below hb8)
  have N8 := Lib.hid (N7.out.below hb8)
  have O8 := Lib.hid hm8
  have B8 := Lib.hid (Below.tr B7.out hb8)
  clear hm8 hge8 hb8 KG7 KW7 M7 N7 B7
  have x0 : w8.cell? ⟨bw, 0, none⟩ = some (.int .i64 0) := KW8.out.there rfl
  have x1 : w8.cell? ⟨bw, 1, none⟩ = some (.slice (some ⟨p1, 0, none⟩) 6 6) := KW8.out.there rfl
  have x2 : w8.cell? ⟨bw, 2, none⟩ = some (.slice (some ⟨p2, 0, none⟩) 16 16) := KW8.out.there rfl
  have x3 : w8.cell? ⟨bw, 3, none⟩ = some (.slice (some ⟨p3, 0, none⟩) 16 16) := KW8.out.there rfl
  have xlt : bw < w8.heap.size := KW8.out.lt
  go_wp2_with fail
  have hb9 := below1 w8 (.cells #[.int .i64 0, .slice (some ⟨q1, 0, none⟩) 6 6, .slice (some ⟨q2, 0, none⟩) 16 16, .slice (some ⟨q3, 0, none⟩) 16 16] 25)
  have KG9 := Lib.hid (KG8.out.below hb9)
  have M9 := Lib.hid (M8.out.below hb9)
  have N9 := Lib.hid (N8.out.below hb9)
  have O9 := Lib.hid (O8.out.below hb9)
  have B9 := Lib.hid (Below.tr B8.out hb9)
  clear hb9 KG8 KW8 M8 N8 O8 B8 x0 x1 x2 x3 xlt
  generalize w8.alloc (.cells #[.int .i64 0, .slice (some ⟨q1, 0, none⟩) 6 6, .slice (some ⟨q2, 0, none⟩) 16 16, .slice (some ⟨q3, 0, none⟩) 16 16] 25) = w9 at KG9 M9 N9 O9 B9 ⊢
  refine (eqMachine_same 0 _ _ _ _ _ _ _ _ _ _ _ _ _ _ _ newM _ O9.out.lies M9.out.lies newM_lens (by omega) (by omega) (by omega)).mono ?_
  rintro e w10 ⟨rfl, hb10⟩
  have KG10 := Lib.hid (KG9.out.below hb10)
  have N10 := Lib.hid (N9.out.below hb10)
  have B10 := Lib.hid (Below.tr B9.out hb10)
  clear hb10 KG9 M9 N9 O9 B9
  have y0 : w10.cell? ⟨bg, 0, none⟩ = some (.int .i64 0) := KG10.out.there rfl
  have y1 : w10.cell? ⟨bg, 1, none⟩ = some (.slice (some ⟨g1, 0, none⟩) 6 6) := KG10.out.there rfl
  have y2 : w10.cell? ⟨bg, 2, none⟩ = some (.slice (some ⟨g2, 0, none⟩) 16 16) := KG10.out.there rfl
  have y3 : w10.cell? ⟨bg, 3, none⟩ = some (.slice (some ⟨g3, 0, none⟩) 16 16) := KG10.out.there rfl
  go_wp2_with fail
  refine (heldMachine_any 0 1 _ _ _ 6 16 16 _ _ _ _ N10.out.lies (by omega) (by omega) (by omega) (by omega) (by omega)).mono ?_
  rintro e w11 ⟨rfl, hb11⟩
  have B11 := Lib.hid (Below.tr B10.out hb11)
  clear hb11 KG10 N10 B10 y0 y1 y2 y3
  go_wp2
  go_ret
  exact ⟨rfl, B11.out⟩

set_option maxRecDepth 100000 in
set_option maxHeartbeats 4000000 in
theorem lawGoodM (A1 A2 A3 : Option Addr) (c1 c2 c3 : Nat) (m : Mch) (w : World) (hn : m.r.length ≤ 9223372036854775807 ∧ m.c.length ≤ 9223372036854775807 ∧ m.s.length ≤ 9223372036854775807) (hl : MLies w A1 A2 A3 m) :
    Calls Try.prog 4 #[.agg #[.int .i64 m.a, .slice A1 m.r.length c1, .slice A2 m.c.length c2, .slice A3 m.s.length c3]] w fun e w' => e = .returned (.bool true) ∧ Below w.heap.size w w' := by
  obtain ⟨a, ha⟩ : ∃ a, m.a = a := ⟨_, rfl⟩
  obtain ⟨n1, hn1⟩ : ∃ n, m.r.length = n := ⟨_, rfl⟩
  obtain ⟨n2, hn2⟩ : ∃ n, m.c.length = n := ⟨_, rfl⟩
  obtain ⟨n3, hn3⟩ : ∃ n, m.s.length = n := ⟨_, rfl⟩
  rw [ha, hn1, hn2, hn3]
  have HX : Hid (Lens m n1 n2 n3) := Lib.hid ⟨hn1, hn2, hn3⟩
  have HA := Lib.hid ha
  have HL := Lib.hid hl
  rw [hn1, hn2, hn3] at hn
  obtain ⟨m1, m2, m3⟩ := hn
  clear hn1 hn2 hn3 ha hl
  obtain ⟨b, hb⟩ : ∃ b, goodMB m = b := ⟨_, rfl⟩
  have HB := Lib.hid hb
  clear hb
  have hb0 := below1 w (.cells #[.int .i64 a, .slice A1 n1 c1, .slice A2 n2 c2, .slice A3 n3 c3] 30)
  have KA : Hid (Blk (w.alloc (.cells #[.int .i64 a, .slice A1 n1 c1, .slice A2 n2 c2, .slice A3 n3 c3] 30)) w.heap.size 30 [.int .i64 a, .slice A1 n1 c1, .slice A2 n2 c2, .slice A3 n3 c3]) := Lib.hid (heap_alloc_new w _)
  have B0 := Lib.hid hb0
  have L0 := Lib.hid (HL.out.below hb0)
  clear hb0
  go_enter Try.func4, Try.ntmps4
  go_wp2_with fail
  generalize w.alloc (.cells #[.int .i64 a, .slice A1 n1 c1, .slice A2 n2 c2, .slice A3 n3 c3] 30) = w0 at KA B0 L0 ⊢
  refine (szMachine_any a _ _ _ _ _ _ _ _ _ _ 1048576 (by omega) (by omega) m1 m2 m3).mono ?_
  rintro e w1 ⟨⟨q, rfl, hq⟩, hb1⟩
  have KA1 := Lib.hid (KA.out.below hb1)
  have B1 := Lib.hid (Below.tr B0.out hb1)
  have L1 := Lib.hid (L0.out.below hb1)
  clear hb1 KA B0 L0
  by_cases hneg : q < 0
  · clear hq
    go_wp2
    go_ret
    exact ⟨rfl, B1.out⟩
  have h1 : n1 ≤ 1048576 := by omega
  have h2 : n2 ≤ 1048576 := by omega
  have h3 : n3 ≤ 1048576 := by omega
  clear hq
  have x0 : w1.cell? ⟨w.heap.size, 0, none⟩ = some (.int .i64 a) := KA1.out.there rfl
  have x1 : w1.cell? ⟨w.heap.size, 1, none⟩ = some (.slice A1 n1 c1) := KA1.out.there rfl
  have x2 : w1.cell? ⟨w.heap.size, 2, none⟩ = some (.slice A2 n2 c2) := KA1.out.there rfl
  have x3 : w1.cell? ⟨w.heap.size, 3, none⟩ = some (.slice A3 n3 c3) := KA1.out.there rfl
  go_wp2_with fail
  refine (toMachine_any a _ _ _ _ _ _ _ _ _ m _ L1 HX h1 h2 h3).mono ?_
  rintro e w2 ⟨g1, g2, g3, rfl, hm2, -, hb2⟩
  have KA2 := Lib.hid (KA1.out.below hb2)
  have B2 := Lib.hid (Below.tr B1.out hb2)
  have L2 := Lib.hid (L1.out.below hb2)
  have M2 := Lib.hid hm2
  clear hb2 hm2 KA1 B1 L1 x0 x1 x2 x3
  go_wp2_with fail
  refine (specGoodM_any a _ _ _ _ _ _ _ _ _ m _ HA.out M2.out.lies HX h1 h2 h3).mono ?_
  rintro e w3 ⟨rfl, hb3⟩
  have KA3 := Lib.hid (KA2.out.below hb3)
  have B3 := Lib.hid (Below.tr B2.out hb3)
  have L3 := Lib.hid (L2.out.below hb3)
  clear hb3 KA2 B2 L2 M2
  rw [HB.out]
  have x0 : w3.cell? ⟨w.heap.size, 0, none⟩ = some (.int .i64 a) := KA3.out.there rfl
  have x1 : w3.cell? ⟨w.heap.size, 1, none⟩ = some (.slice A1 n1 c1) := KA3.out.there rfl
  have x2 : w3.cell? ⟨w.heap.size, 2, none⟩ = some (.slice A2 n2 c2) := KA3.out.there rfl
  have x3 : w3.cell? ⟨w.heap.size, 3, none⟩ = some (.slice A3 n3 c3) := KA3.out.there rfl
  go_wp2_with fail
  refine (toMachine_any a _ _ _ _ _ _ _ _ _ m _ L3 HX h1 h2 h3).mono ?_
  rintro e w4 ⟨g1, g2, g3, rfl, hm4, -, hb4⟩
  have KA4 := Lib.hid (KA3.out.below hb4)
  have B4 := Lib.hid (Below.tr B3.out hb4)
  have L4 := Lib.hid (L3.out.below hb4)
  have M4 := Lib.hid hm4
  clear hb4 hm4 KA3 B3 L3 x0 x1 x2 x3
  go_wp2_with fail
  have hb5 := below1 w4 (.cells #[.int .i64 a, .slice (some ⟨g1, 0, none⟩) n1 n1, .slice (some ⟨g2, 0, none⟩) n2 n2, .slice (some ⟨g3, 0, none⟩) n3 n3] 25)
  have KG : Hid (Blk (w4.alloc (.cells #[.int .i64 a, .slice (some ⟨g1, 0, none⟩) n1 n1, .slice (some ⟨g2, 0, none⟩) n2 n2, .slice (some ⟨g3, 0, none⟩) n3 n3] 25)) w4.heap.size 25 [.int .i64 a, .slice (some ⟨g1, 0, none⟩) n1 n1, .slice (some ⟨g2, 0, none⟩) n2 n2, .slice (some ⟨g3, 0, none⟩) n3 n3]) := Lib.hid (heap_alloc_new w4 _)
  have KA5 := Lib.hid (KA4.out.below hb5)
  have M5 := Lib.hid (M4.out.below hb5)
  have L5 := Lib.hid (L4.out.below hb5)
  have B5 := Lib.hid (Below.tr B4.out hb5)
  clear hb5 KA4 M4 L4 B4
  generalize w4.alloc (.cells #[.int .i64 a, .slice (some ⟨g1, 0, none⟩) n1 n1, .slice (some ⟨g2, 0, none⟩) n2 n2, .slice (some ⟨g3, 0, none⟩) n3 n3] 25) = w5 at KG KA5 M5 L5 B5 ⊢
  obtain ⟨bg, hbg⟩ : ∃ b, w4.heap.size = b := ⟨_, rfl⟩
  rw [hbg] at KG ⊢
  clear hbg
  refine (implGoodM_any a _ _ _ _ _ _ _ _ _ m _ HA.out M5.out.lies HX h1 h2 h3).mono ?_
  rintro e w6 ⟨rfl, hb6⟩
  have KG6 := Lib.hid (KG.out.below hb6)
  have KA6 := Lib.hid (KA5.out.below hb6)
  have M6 := Lib.hid (M5.out.below hb6)
  have L6 := Lib.hid (L5.out.below hb6)
  have B6 := Lib.hid (Below.tr B5.out hb6)
  clear hb6 KG KA5 M5 L5 B5
  rw [HB.out]
  have x0 : w6.cell? ⟨w.heap.size, 0, none⟩ = some (.int .i64 a) := KA6.out.there rfl
  have x1 : w6.cell? ⟨w.heap.size, 1, none⟩ = some (.slice A1 n1 c1) := KA6.out.there rfl
  have x2 : w6.cell? ⟨w.heap.size, 2, none⟩ = some (.slice A2 n2 c2) := KA6.out.there rfl
  have x3 : w6.cell? ⟨w.heap.size, 3, none⟩ = some (.slice A3 n3 c3) := KA6.out.there rfl
  have y0 : w6.cell? ⟨bg, 0, none⟩ = some (.int .i64 a) := KG6.out.there rfl
  have y1 : w6.cell? ⟨bg, 1, none⟩ = some (.slice (some ⟨g1, 0, none⟩) n1 n1) := KG6.out.there rfl
  have y2 : w6.cell? ⟨bg, 2, none⟩ = some (.slice (some ⟨g2, 0, none⟩) n2 n2) := KG6.out.there rfl
  have y3 : w6.cell? ⟨bg, 3, none⟩ = some (.slice (some ⟨g3, 0, none⟩) n3 n3) := KG6.out.there rfl
  have hbb : (b != b) = false := by simp
  go_wp2_with fail
  have L6d : Hid (MLies w6.drew A1 A2 A3 m) := Lib.hid (L6.out.below (Below.refl _ _).drew)
  have M6d : Hid (MBlk w6.drew g1 g2 g3 m) := Lib.hid (M6.out.below (Below.refl _ _).drew)
  have B6d : Hid (Below w.heap.size w w6.drew) := Lib.hid B6.out.drew
  have KG6d := Lib.hid (KG6.out.below (Below.refl w6.heap.size w6).drew)
  go_region_with (first
    | (go_at_call 12; refine (toMachine_any a _ _ _ _ _ _ _ _ _ m _ L6d HX h1 h2 h3).mono ?_; rintro e w7 ⟨f1, f2, f3, rfl, hm7, -, hb7⟩; have M7 := Lib.hid (M6d.out.below hb7); have O7 := Lib.hid hm7; have B7 := Lib.hid (Below.tr B6d.out hb7); have KG7 := Lib.hid (KG6d.out.below hb7); have z0 : w7.cell? ⟨bg, 0, none⟩ = some (.int .i64 a) := KG7.out.there rfl; have z1 : w7.cell? ⟨bg, 1, none⟩ = some (.slice (some ⟨g1, 0, none⟩) n1 n1) := KG7.out.there rfl; have z2 : w7.cell? ⟨bg, 2, none⟩ = some (.slice (some ⟨g2, 0, none⟩) n2 n2) := KG7.out.there rfl; have z3 : w7.cell? ⟨bg, 3, none⟩ = some (.slice (some ⟨g3, 0, none⟩) n3 n3) := KG7.out.there rfl; clear hb7 hm7)
    | (go_at_call 7; refine (eqMachine_same a _ _ _ _ _ _ _ _ _ _ _ _ _ _ _ m _ M7.out.lies O7.out.lies HX h1 h2 h3).mono ?_; rintro e w8 ⟨rfl, hb8⟩; have B8 := Lib.hid (Below.tr B7.out hb8); clear hb8))
  all_goals
    go_wp2
    go_ret
    exact ⟨rfl, B8.out⟩
end Go.Proofs.Ytlpldabcncbfeaa
