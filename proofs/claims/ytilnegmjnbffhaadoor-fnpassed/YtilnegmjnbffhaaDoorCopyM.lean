/-
  The program's copy of a machine.
-/
import Derived.Test.YtilnegmjnbffhaaDoorDoAny
import Derived.Laws.CopyOwn
namespace Go.Proofs.YtilnegmjnbffhaaDoor
open Go.ChangeShapes Go.WideShapes Go.ChangeAt Go.RowKit

theorem wpList_copy_blk {P : Program} {w : World} {ops : Array Oper} {rest : List Oper} {o : Oper} {a : Act} {Q : Exit → Act → World → Prop} (hgd : o.guard = none) (d s : Operand) (dT sT : TypeId)
    (ho : o.op = .call { callee := .builtin .copy, args := #[d, s], argTypes := #[dT, sT] }) (elem : TypeId) (hu : P.underlying dT = some (.slice elem)) (hsz : (P.info? elem).map (·.size) = some 1)
    (g n dCap : Nat) (A : Option Addr) (sCap : Nat) (hd : a.eval d = .slice (some ⟨g, 0, none⟩) n dCap) (hs : a.eval s = .slice A n sCap)
    (t : TypeId) (us vs : List Value) (hg : Blk w g t us) (hul : us.length = n) (hvl : vs.length = n) (hn : 0 < n)
    (hsrc : ∀ j v, vs[j]? = some v → ∃ b off, A = some ⟨b, off, none⟩ ∧ b < w.heap.size ∧ w.cell? ⟨b, off + j, none⟩ = some v) (h1 : ∀ v ∈ vs, v.oneCell' = true)
    (h : ∀ w', Blk w' g t vs → Kept w w' (fun i => i = g) → wpList P ops Q rest (a.put o.dst (goInt n)) w') : wpList P ops Q (o :: rest) a w := by
  obtain ⟨b, off, rfl, _, _⟩ := hsrc 0 vs[0] (List.getElem?_eq_getElem (by omega))
  refine wpList_copy_own hgd d s dT sT ho elem hu hsz g 0 n dCap ⟨b, off, none⟩ n sCap hd hs us.toArray t hg vs (by simp [hvl]) (fun j v hj => ?_) (by simp; omega) h1 ?_
  · obtain ⟨b', off', he, _, hc⟩ := hsrc j v hj
    injection he with he
    injection he with h1 h2 _
    subst h1 h2
    rw [add_plain]
    exact hc
  · rw [hvl]
    refine h _ ?_ ⟨rfl, rfl, rfl, by simp [World.setRow], fun i hi hne => setRow_other w g i _ (by omega)⟩
    have hrow := setRow_heap w g us.toArray (List.take 0 us.toArray.toList ++ (vs ++ List.drop (0 + n) us.toArray.toList)).toArray t (0, 0) hg
    have e : (List.take 0 us.toArray.toList ++ (vs ++ List.drop (0 + n) us.toArray.toList)).toArray = vs.toArray := by
      simp [List.drop_of_length_le (show us.length ≤ n by omega)]
    rw [e] at hrow
    show (w.setRow g _).heap[g]? = _
    rw [e]
    exact hrow
theorem src_i {w : World} {A : Option Addr} {l : List Int} (h : ILies w A l) : ∀ j v, (l.map (Value.int .i64))[j]? = some v → ∃ b off, A = some ⟨b, off, none⟩ ∧ b < w.heap.size ∧ w.cell? ⟨b, off + j, none⟩ = some v := by
  intro j v hj
  simp only [List.getElem?_map, Option.map_eq_some_iff] at hj
  obtain ⟨y, hy, rfl⟩ := hj
  exact h j y hy
theorem src_b {w : World} {A : Option Addr} {l : List Bool} (h : BLies w A l) : ∀ j v, (l.map Value.bool)[j]? = some v → ∃ b off, A = some ⟨b, off, none⟩ ∧ b < w.heap.size ∧ w.cell? ⟨b, off + j, none⟩ = some v := by
  intro j v hj
  simp only [List.getElem?_map, Option.map_eq_some_iff] at hj
  obtain ⟨y, hy, rfl⟩ := hj
  exact h j y hy
theorem one_i (l : List Int) : ∀ v ∈ l.map (Value.int .i64), v.oneCell' = true := ints_oneCell .i64 l
theorem one_b (l : List Bool) : ∀ v ∈ l.map Value.bool, v.oneCell' = true := by
  intro v hv
  simp only [List.mem_map] at hv
  obtain ⟨b, _, rfl⟩ := hv
  rfl
theorem ilies_kept {w w' : World} {A : Option Addr} {l : List Int} {S : Nat → Prop} (h : ILies w A l) (hk : Kept w w' S) (hs : ∀ b off, A = some ⟨b, off, none⟩ → ¬ S b) : ILies w' A l := by
  intro i y hy
  obtain ⟨b, off, hA, hlt, hc⟩ := h i y hy
  exact ⟨b, off, hA, Nat.lt_of_lt_of_le hlt hk.size, (World.cell?_of_block (a := ⟨b, off + i, none⟩) (hk.block b hlt (hs b off hA))).trans hc⟩
theorem blies_kept {w w' : World} {A : Option Addr} {l : List Bool} {S : Nat → Prop} (h : BLies w A l) (hk : Kept w w' S) (hs : ∀ b off, A = some ⟨b, off, none⟩ → ¬ S b) : BLies w' A l := by
  intro i y hy
  obtain ⟨b, off, hA, hlt, hc⟩ := h i y hy
  exact ⟨b, off, hA, Nat.lt_of_lt_of_le hlt hk.size, (World.cell?_of_block (a := ⟨b, off + i, none⟩) (hk.block b hlt (hs b off hA))).trans hc⟩
theorem size_int : (Tryd.prog.info? 3).map (·.size) = some 1 := by kernel_rfl
theorem size_bool : (Tryd.prog.info? 4).map (·.size) = some 1 := by kernel_rfl

set_option maxRecDepth 100000 in
set_option maxHeartbeats 2000000 in
theorem copyM_any (a : Int) (A1 A2 A3 : Option Addr) (c1 c2 c3 : Nat) (m : Mch) (w : World) (hl : Hid (MLies w A1 A2 A3 m)) (HX : Hid (Lens m 6 16 16)) (hin : Hid (∀ b off, (A1 = some ⟨b, off, none⟩ ∨ A2 = some ⟨b, off, none⟩ ∨ A3 = some ⟨b, off, none⟩) → b < w.heap.size)) :
    Calls Tryd.prog 58 #[.agg #[.int .i64 a, .slice A1 6 c1, .slice A2 16 c2, .slice A3 16 c3]] w fun e w' => ∃ g1 g2 g3,
      e = .returned (.agg #[.int .i64 a, .slice (some ⟨g1, 0, none⟩) 6 6, .slice (some ⟨g2, 0, none⟩) 16 16, .slice (some ⟨g3, 0, none⟩) 16 16]) ∧ MBlk w' g1 g2 g3 m ∧ (w.heap.size ≤ g1 ∧ w.heap.size ≤ g2 ∧ w.heap.size ≤ g3) ∧ Below w.heap.size w w' := by
  have B0 := Lib.hid (below2 w (.cells #[.int .i64 a, .slice A1 6 c1, .slice A2 16 c2, .slice A3 16 c3] 73) (.cells #[.int .i64 0, .slice none 0 0, .slice none 0 0, .slice none 0 0] 73))
  have KA : Hid (Blk ((w.alloc (.cells #[.int .i64 a, .slice A1 6 c1, .slice A2 16 c2, .slice A3 16 c3] 73)).alloc (.cells #[.int .i64 0, .slice none 0 0, .slice none 0 0, .slice none 0 0] 73)) w.heap.size 73 [.int .i64 a, .slice A1 6 c1, .slice A2 16 c2, .slice A3 16 c3]) := Lib.hid (n20 w _ _)
  have KR : Hid (Blk ((w.alloc (.cells #[.int .i64 a, .slice A1 6 c1, .slice A2 16 c2, .slice A3 16 c3] 73)).alloc (.cells #[.int .i64 0, .slice none 0 0, .slice none 0 0, .slice none 0 0] 73)) (w.heap.size + 1) 73 [.int .i64 0, .slice none 0 0, .slice none 0 0, .slice none 0 0]) := Lib.hid (n21 w _ _)
  go_enter Tryd.func58, Tryd.ntmps58
  go_wp2_with fail
  generalize (w.alloc (.cells #[.int .i64 a, .slice A1 6 c1, .slice A2 16 c2, .slice A3 16 c3] 73)).alloc (.cells #[.int .i64 0, .slice none 0 0, .slice none 0 0, .slice none 0 0] 73) = w0 at B0 KA KR ⊢
  refine (implNewM_any w0).mono ?_
  rintro e w1 ⟨g1, g2, g3, rfl, hm1, hge, hb1⟩
  have B1 := Lib.hid (Below.tr B0.out hb1)
  have KA1 := Lib.hid (KA.out.below hb1)
  have KR1 := Lib.hid (KR.out.below hb1)
  have M1 := Lib.hid hm1
  have GE : Hid (w.heap.size + 1 < g1 ∧ w.heap.size + 1 < g2 ∧ w.heap.size + 1 < g3) := Lib.hid (by have := KR.out.lt; omega)
  clear hb1 KA KR hm1 hge
  have x0 : w1.cell? ⟨w.heap.size, 0, none⟩ = some (.int .i64 a) := KA1.out.there rfl
  have x1 : w1.cell? ⟨w.heap.size, 1, none⟩ = some (.slice A1 6 c1) := KA1.out.there rfl
  have xl : w.heap.size < w1.heap.size := KA1.out.lt
  have hbb := below1 w1 (.cells #[.int .i64 a, .slice (some ⟨g1, 0, none⟩) 6 6, .slice (some ⟨g2, 0, none⟩) 16 16, .slice (some ⟨g3, 0, none⟩) 16 16] 73)
  have C0 : Hid (Blk (w1.alloc (.cells #[.int .i64 a, .slice (some ⟨g1, 0, none⟩) 6 6, .slice (some ⟨g2, 0, none⟩) 16 16, .slice (some ⟨g3, 0, none⟩) 16 16] 73)) w1.heap.size 73 [.int .i64 a, .slice (some ⟨g1, 0, none⟩) 6 6, .slice (some ⟨g2, 0, none⟩) 16 16, .slice (some ⟨g3, 0, none⟩) 16 16]) := Lib.hid (heap_alloc_new w1 _)
  have M0 := Lib.hid (M1.out.below hbb)
  have KM0 := Lib.hid (KA1.out.below hbb)
  have KR0 := Lib.hid (KR1.out.below hbb)
  have BB := Lib.hid (Below.tr B1.out hbb)
  have NE : Hid (g1 < w1.heap.size ∧ g2 < w1.heap.size ∧ g3 < w1.heap.size ∧ g1 ≠ g2 ∧ g1 ≠ g3 ∧ g2 ≠ g3) := Lib.hid ⟨M1.out.1.lt, M1.out.2.1.lt, M1.out.2.2.1.lt, M1.out.2.2.2⟩
  have L0 := Lib.hid (hl.out.below BB.out)
  clear hbb
  go_wp2_with (first
    | (refine wpList_copy_blk (t := 3) rfl _ _ 24 24 rfl 3 Tryd.underlying24 size_int g1 6 6 A1 c1 rfl rfl _ (m.r.map (Value.int .i64)) M0.out.1 rfl (by simpa using HX.out.1) (by omega) (src_i L0.out.1) (one_i _) ?_; intro w2 hq1 hk1
       have N1 : ∀ b, b ≠ g1 → ¬ (fun i => i = g1) b := fun b h e => h e
       have Q2 := Lib.hid hq1
       have XM2 := Lib.hid (hk1.blk KM0.out (N1 _ (by have := GE.out; omega))); have XR2 := Lib.hid (hk1.blk KR0.out (N1 _ (by have := GE.out; omega))); have XC2 := Lib.hid (hk1.blk C0.out (N1 _ (by have := NE.out; omega)))
       have R2 := Lib.hid (hk1.blk M0.out.2.1 (N1 _ (by have := NE.out; omega))); have T2 := Lib.hid (hk1.blk M0.out.2.2.1 (N1 _ (by have := NE.out; omega)))
       have L2 := Lib.hid (ilies_kept L0.out.2.1 hk1 (fun b off h => N1 _ (by have := hin.out b off (.inr (.inl h)); have := GE.out; omega)))
       have LB2 := Lib.hid (blies_kept L0.out.2.2 hk1 (fun b off h => N1 _ (by have := hin.out b off (.inr (.inr h)); have := GE.out; omega)))
       have B2 := Lib.hid (hk1.below BB.out BB.out.size (fun i hi => by have := GE.out; have hi' : i = g1 := hi; omega))
       clear hq1 hk1 N1
       have xx2 : w2.cell? ⟨w.heap.size, 2, none⟩ = some (.slice A2 16 c2) := XM2.out.there rfl
       have yy2 : w2.cell? ⟨w1.heap.size, 2, none⟩ = some (.slice (some ⟨g2, 0, none⟩) 16 16) := XC2.out.there rfl)
    | (refine wpList_copy_blk (t := 3) rfl _ _ 24 24 rfl 3 Tryd.underlying24 size_int g2 16 16 A2 c2 rfl rfl _ (m.c.map (Value.int .i64)) R2.out rfl (by simpa using HX.out.2.1) (by omega) (src_i L2.out) (one_i _) ?_; intro w3 hq2 hk2
       have N2 : ∀ b, b ≠ g2 → ¬ (fun i => i = g2) b := fun b h e => h e
       have R3 := Lib.hid hq2
       have XM3 := Lib.hid (hk2.blk XM2.out (N2 _ (by have := GE.out; omega))); have XR3 := Lib.hid (hk2.blk XR2.out (N2 _ (by have := GE.out; omega))); have XC3 := Lib.hid (hk2.blk XC2.out (N2 _ (by have := NE.out; omega)))
       have Q3 := Lib.hid (hk2.blk Q2.out (N2 _ (by have := NE.out; omega))); have T3 := Lib.hid (hk2.blk T2.out (N2 _ (by have := NE.out; omega)))
       have LB3 := Lib.hid (blies_kept LB2.out hk2 (fun b off h => N2 _ (by have := hin.out b off (.inr (.inr h)); have := GE.out; omega)))
       have B3 := Lib.hid (hk2.below B2.out B2.out.size (fun i hi => by have := GE.out; have hi' : i = g2 := hi; omega))
       clear hq2 hk2 N2
       have xx3 : w3.cell? ⟨w.heap.size, 3, none⟩ = some (.slice A3 16 c3) := XM3.out.there rfl
       have yy3 : w3.cell? ⟨w1.heap.size, 3, none⟩ = some (.slice (some ⟨g3, 0, none⟩) 16 16) := XC3.out.there rfl)
    | (refine wpList_copy_blk (t := 4) rfl _ _ 71 71 rfl 4 Tryd.underlying71 size_bool g3 16 16 A3 c3 rfl rfl _ (m.s.map Value.bool) T3.out rfl (by simpa using HX.out.2.2) (by omega) (src_b LB3.out) (one_b _) ?_; intro w4 hq3 hk3
       have N3 : ∀ b, b ≠ g3 → ¬ (fun i => i = g3) b := fun b h e => h e
       have T4 := Lib.hid hq3
       have XR4 := Lib.hid (hk3.blk XR3.out (N3 _ (by have := GE.out; omega))); have XC4 := Lib.hid (hk3.blk XC3.out (N3 _ (by have := NE.out; omega)))
       have Q4 := Lib.hid (hk3.blk Q3.out (N3 _ (by have := NE.out; omega))); have R4 := Lib.hid (hk3.blk R3.out (N3 _ (by have := NE.out; omega)))
       have B4 := Lib.hid (hk3.below B3.out B3.out.size (fun i hi => by have := GE.out; have hi' : i = g3 := hi; omega))
       clear hq3 hk3 N3
       have z0 : w4.cell? ⟨w1.heap.size, 0, none⟩ = some (.int .i64 a) := XC4.out.there rfl
       have z1 : w4.cell? ⟨w1.heap.size, 1, none⟩ = some (.slice (some ⟨g1, 0, none⟩) 6 6) := XC4.out.there rfl
       have z2 : w4.cell? ⟨w1.heap.size, 2, none⟩ = some (.slice (some ⟨g2, 0, none⟩) 16 16) := XC4.out.there rfl
       have z3 : w4.cell? ⟨w1.heap.size, 3, none⟩ = some (.slice (some ⟨g3, 0, none⟩) 16 16) := XC4.out.there rfl
       have v0 : w4.cell? ⟨w.heap.size + 1, 0, none⟩ = some (.int .i64 0) := XR4.out.there rfl
       have v1 : w4.cell? ⟨w.heap.size + 1, 1, none⟩ = some (.slice none 0 0) := XR4.out.there rfl
       have v2 : w4.cell? ⟨w.heap.size + 1, 2, none⟩ = some (.slice none 0 0) := XR4.out.there rfl
       have v3 : w4.cell? ⟨w.heap.size + 1, 3, none⟩ = some (.slice none 0 0) := XR4.out.there rfl
       have e0 := XR4.out.frozen 0
       have e1 := XR4.out.frozen 1
       have e2 := XR4.out.frozen 2
       have e3 := XR4.out.frozen 3))
  refine bodyPost_ret (v := .agg #[.int .i64 a, .slice (some ⟨g1, 0, none⟩) 6 6, .slice (some ⟨g2, 0, none⟩) 16 16, .slice (some ⟨g3, 0, none⟩) 16 16]) (by simp [results, Tryd.results58, go_sem, v0, v1, v2, v3]) rfl ⟨g1, g2, g3, rfl, ?_, by have := GE.out; omega, ?_⟩
  · have ge := GE.out
    have ne := NE.out
    refine ⟨?_, ?_, ?_, ne.2.2.2⟩
    · exact (((Q4.out.far (by omega) _).far (by omega) _).far (by omega) _).far (by omega) _
    · exact (((R4.out.far (by omega) _).far (by omega) _).far (by omega) _).far (by omega) _
    · exact (((T4.out.far (by omega) _).far (by omega) _).far (by omega) _).far (by omega) _
  · exact (((B4.out.setCell (by simp) _).setCell (by simp) _).setCell (by simp) _).setCell (by simp) _
end Go.Proofs.YtilnegmjnbffhaaDoor
