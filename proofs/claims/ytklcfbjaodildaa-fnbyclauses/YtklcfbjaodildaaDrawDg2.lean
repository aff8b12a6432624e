/-
  Drawn arguments of ByClauses, FixVar, BothOf.
-/
import Derived.Test.YtklcfbjaodildaaDrawDg
import Derived.Test.YtklcfbjaodildaaDrawRes
namespace Go.Proofs.Ytklcfbjaodildaa
open Go.ChangeShapes Go.WideShapes Go.ChangeAt Go.RowKit Go.Maps

/-- drawn clauses, with what their slice is -/
def DrewO (w : World) (e : Ending) (w' : World) : Prop :=
  ∃ (v : Int) (L : List (List Int)) (A : Option Addr) (c1 : Nat), e = .returned (.tuple #[.int .i64 v, .slice A L.length c1]) ∧ (0 ≤ v ∧ v ≤ 13) ∧ L.length ≤ 13 ∧ LLies w' A L ∧ L.length ≤ c1 ∧ c1 ≤ 9223372036854775807 ∧ ((A = none ∧ L = [] ∧ c1 = 0) ∨ ∃ g, A = some ⟨g, 0, none⟩) ∧ Below w.heap.size w w'
theorem own_shape {w : World} {base n c : Nat} {t : TypeId} {A : Option Addr} {xs : List Value} (h : w.ownsRow base t 1 (.slice A n c) n xs) : n ≤ c ∧ c ≤ 9223372036854775807 ∧ ((A = none ∧ n = 0 ∧ c = 0) ∨ ∃ g, A = some ⟨g, 0, none⟩) := by
  rcases h.2 with ⟨h', _⟩ | ⟨g', cap', cur, h', hb, hg, hnc, hcm, hcs, htake⟩
  · simp only [Value.slice.injEq] at h'
    obtain ⟨h1, h2, h3⟩ := h'
    exact ⟨by omega, by omega, .inl ⟨h1, h2, h3⟩⟩
  · simp only [Value.slice.injEq] at h'
    obtain ⟨h1, _, h3⟩ := h'
    exact ⟨by omega, by unfold maxLen at hcm; omega, .inr ⟨g', h1⟩⟩
set_option maxRecDepth 100000 in
set_option maxHeartbeats 1000000 in
theorem drawGoodO_any (a0 : Option Addr) (len cap : Nat) (w : World) (h : Hid (Bytes w a0 len)) :
    Calls Try.prog 75 #[.slice a0 len cap] w (DrewO w) := by
  go_enter Try.func75, Try.ntmps75
  go_wp2_with fail
  refine (clauses_any w.heap.size 0 _ (Cur.new h.out) (by omega)).mono ?_
  rintro e w1 ⟨v, L, A, cp, vs, rfl, hv, hL, hT, ho, hc, hg⟩
  have O1 := Lib.hid ho
  have B1 := Lib.hid (below_new hg)
  have H1 := Lib.hid (own_shape ho.outer)
  clear ho hc hg
  go_wp2
  go_ret2
  refine ⟨v, L, A, cp, rfl, hv, hL, O1.out.lies, H1.out.1, H1.out.2.1, ?_, B1.out⟩
  rcases H1.out.2.2 with ⟨q1, q2, q3⟩ | q
  · exact .inl ⟨q1, List.eq_nil_of_length_eq_zero q2, q3⟩
  · exact .inr q
set_option maxRecDepth 100000 in
set_option maxHeartbeats 1000000 in
theorem drawByC_any (a0 : Option Addr) (len cap : Nat) (w : World) (h : Hid (Bytes w a0 len)) :
    Calls Try.prog 15 #[.slice a0 len cap] w (DrewO w) := by
  go_enter Try.func15, Try.ntmps15
  go_wp2_with fail
  refine (drawGoodO_any a0 len cap w h).mono ?_
  rintro e w1 ⟨v, L, A, c1, rfl, hv, hL, hl, hc, hcm, hA, hb⟩
  have L1 := Lib.hid hl
  have B1 := Lib.hid hb
  have A1 := Lib.hid hA
  clear hl hb hA
  go_wp2
  go_ret2
  exact ⟨v, L, A, c1, rfl, hv, hL, L1.out, hc, hcm, A1.out, B1.out⟩
theorem LLies.drop {w : World} {g : Nat} {L : List (List Int)} (h : LLies w (some ⟨g, 0, none⟩) L) (k : Nat) : LLies w (some ⟨g, k, none⟩) (L.drop k) := by
  intro i l hl
  rw [List.getElem?_drop] at hl
  obtain ⟨b, off, a, c, hA, hb, hc, h1, h2, h3⟩ := h (k + i) l hl
  simp only [Option.some.injEq, Addr.mk.injEq, and_true] at hA
  obtain ⟨rfl, rfl⟩ := hA
  exact ⟨_, k, a, c, rfl, hb, by rw [Nat.zero_add] at hc; exact hc, h1, h2, h3⟩
theorem num_mod (N n : Nat) : ∃ k : Nat, Int.tmod (N : Int) ((n : Int) + 1) = k ∧ k ≤ n := by
  have key : ∀ t : Int, 0 ≤ t → t < (n : Int) + 1 → ∃ k : Nat, t = k ∧ k ≤ n := fun t a b => ⟨t.toNat, by omega, by omega⟩
  exact key _ (Int.tmod_nonneg _ (Int.natCast_nonneg N)) (Int.tmod_lt_of_pos _ (by omega))
def DrewF (w : World) (e : Ending) (w' : World) : Prop :=
  ∃ (a r : Int) (A : Option Addr) (cc : Nat) (xs : List Nd) (v : Int) (so : Bool), e = .returned (.tuple #[.agg #[.int .i64 a, .slice A xs.length cc, .int .i64 r], .int .i64 v, .bool so]) ∧ xs.length ≤ 100 ∧ NLies w' A xs ∧ Below w.heap.size w w'
def DrewB (w : World) (e : Ending) (w' : World) : Prop :=
  ∃ (a r b s : Int) (A B : Option Addr) (cc dd : Nat) (xs ys : List Nd), e = .returned (.tuple #[.agg #[.int .i64 a, .slice A xs.length cc, .int .i64 r], .agg #[.int .i64 b, .slice B ys.length dd, .int .i64 s]]) ∧ xs.length ≤ 100 ∧ ys.length ≤ 100 ∧ NLies w' A xs ∧ NLies w' B ys ∧ Below w.heap.size w w'
theorem cur_new2 {w : World} {a0 : Option Addr} {len cap : Nat} (h : Bytes w a0 len) : Cur ((w.alloc (.cells #[.int .i64 0, .slice none 0 0, .int .i64 0] 28)).alloc (.cells #[.slice a0 len cap, .int .i64 0, .int .u64 0] 112)) (w.heap.size + 1) 0 := by
  have := Cur.new (cap := cap) (h.below (below1 w (.cells #[.int .i64 0, .slice none 0 0, .int .i64 0] 28)))
  rw [show (w.alloc (.cells #[.int .i64 0, .slice none 0 0, .int .i64 0] 28)).heap.size = w.heap.size + 1 by simp] at this
  exact this
set_option maxRecDepth 100000 in
set_option maxHeartbeats 4000000 in
theorem drawFixV_any (a0 : Option Addr) (len cap : Nat) (w : World) (h : Hid (Bytes w a0 len)) :
    Calls Try.prog 23 #[.slice a0 len cap] w (DrewF w) := by
  have C0 := Lib.hid (cur_new2 (cap := cap) h.out)
  have R0 : Hid (Blk ((w.alloc (.cells #[.int .i64 0, .slice none 0 0, .int .i64 0] 28)).alloc (.cells #[.slice a0 len cap, .int .i64 0, .int .u64 0] 112)) w.heap.size 28 [.int .i64 0, .slice none 0 0, .int .i64 0]) := Lib.hid (Blk.below (heap_alloc_new w _) (below1 _ _))
  have D0 := Lib.hid (below2 w (.cells #[.int .i64 0, .slice none 0 0, .int .i64 0] 28) (.cells #[.slice a0 len cap, .int .i64 0, .int .u64 0] 112))
  have SZ : Hid (((w.alloc (.cells #[.int .i64 0, .slice none 0 0, .int .i64 0] 28)).alloc (.cells #[.slice a0 len cap, .int .i64 0, .int .u64 0] 112)).heap.size = w.heap.size + 2) := Lib.hid (by simp)
  go_enter Try.func23, Try.ntmps23
  go_wp2_with fail
  refine (pick_any (w.heap.size + 1) 0 5 _ C0 (by omega) (by omega) (by omega)).mono ?_
  rintro e w1 ⟨n, ⟨l1, u1⟩, rfl, hc, hg⟩
  have C1 := Lib.hid hc
  have G1 := Lib.hid hg
  have R1 := Lib.hid (blk_grown R0.out hg (by omega))
  clear hc hg
  obtain ⟨p, rfl⟩ := Int.eq_ofNat_of_zero_le l1
  obtain ⟨q, hq⟩ : ∃ q, 2 ^ p = q := ⟨_, rfl⟩
  have HQ := Lib.hid hq
  clear hq
  go_wp2_with fail
  refine (diagram_any (w.heap.size + 1) _ p q _ C1 HQ (by omega) (by omega)).mono ?_
  rintro e w2 ⟨a, r, A, cc, xs, rfl, hxl, _, _, ho, hc, hg⟩
  have S1 : Hid (w.heap.size + 2 ≤ w1.heap.size) := Lib.hid (by have := G1.out.size; have := SZ.out; omega)
  have C2 := Lib.hid hc
  have G2 := Lib.hid (grownC_trans G1.out hg)
  have R2 := Lib.hid (blk_grown R1.out hg (by omega))
  have O2 := Lib.hid ho
  clear hc hg ho
  go_wp2_with fail
  refine (pick_any (w.heap.size + 1) _ _ _ C2 (by omega) (by omega) (by omega)).mono ?_
  rintro e w3 ⟨v, _, rfl, hc, hg⟩
  have C3 := Lib.hid hc
  have G3 := Lib.hid (grownC_trans G2.out hg)
  have R3 := Lib.hid (blk_grown R2.out hg (by omega))
  have O3 := Lib.hid (own_grown O2.out hg (by have := S1.out; omega))
  clear hc hg
  go_wp2_with fail
  refine (one_any (w.heap.size + 1) _ 2 _ C3 (by omega) (by omega) (by omega)).mono ?_
  rintro e w4 ⟨so, rfl, hc, hg⟩
  have R4 := Lib.hid (blk_grown R3.out hg (by omega))
  have O4 := Lib.hid (own_grown O3.out hg (by have := S1.out; omega))
  have B4 := Lib.hid (D0.out.grown (grownC_trans G3.out hg) (by have := SZ.out; omega) (fun g e => by have := Option.some.inj e; omega))
  clear hc hg C3 G3 R3 O3 C2 G2 R2 O2 C1 G1 R1 C0 R0
  obtain ⟨t0, t1, t2, f0, f1, f2, hl⟩ := blk_cells R4.out
  go_wp2
  have hfin := dg_store R4.out (.int .i64 a) (.slice A xs.length cc) (.int .i64 r)
  have hO := hfin.1.own3 O4.out (fun g e h => by have := (O4.out.lt g e).1; have := S1.out; have h2 : g = w.heap.size := h; omega)
  have hB := hfin.1.below B4.out (by have := B4.out.size; omega) (fun i e => by have h2 : i = w.heap.size := e; omega)
  obtain ⟨W', hW'⟩ : ∃ W', W' = (((w4.setCell ⟨w.heap.size, 0, none⟩ (.int .i64 a)).setCell ⟨w.heap.size, 1, none⟩ (.slice A xs.length cc)).setCell ⟨w.heap.size, 2, none⟩ (.int .i64 r)) := ⟨_, rfl⟩
  rw [← hW'] at hfin hO hB ⊢
  obtain ⟨_, r0, r1, r2⟩ := hfin
  exact bodyPost_ret (v := .tuple #[.agg #[.int .i64 a, .slice A xs.length cc, .int .i64 r], .int .i64 v, .bool so]) (by simp [results, Try.results23, go_sem, r0, r1, r2]) rfl ⟨a, r, A, cc, xs, v, so, rfl, hxl, own_nlies rfl hO, hB⟩
theorem cur_new3 {w : World} {a0 : Option Addr} {len cap : Nat} (h : Bytes w a0 len) : Cur (((w.alloc (.cells #[.int .i64 0, .slice none 0 0, .int .i64 0] 28)).alloc (.cells #[.int .i64 0, .slice none 0 0, .int .i64 0] 28)).alloc (.cells #[.slice a0 len cap, .int .i64 0, .int .u64 0] 112)) (w.heap.size + 2) 0 := by
  have := cur_new2 (cap := cap) (h.below (below1 w (.cells #[.int .i64 0, .slice none 0 0, .int .i64 0] 28)))
  rw [show (w.alloc (.cells #[.int .i64 0, .slice none 0 0, .int .i64 0] 28)).heap.size = w.heap.size + 1 by simp] at this
  exact this
theorem blk_mid (w : World) (a0 : Option Addr) (len cap : Nat) : Blk (((w.alloc (.cells #[.int .i64 0, .slice none 0 0, .int .i64 0] 28)).alloc (.cells #[.int .i64 0, .slice none 0 0, .int .i64 0] 28)).alloc (.cells #[.slice a0 len cap, .int .i64 0, .int .u64 0] 112)) (w.heap.size + 1) 28 [.int .i64 0, .slice none 0 0, .int .i64 0] := by
  have := heap_alloc_new (w.alloc (.cells #[.int .i64 0, .slice none 0 0, .int .i64 0] 28)) (.cells #[.int .i64 0, .slice none 0 0, .int .i64 0] 28)
  rw [show (w.alloc (.cells #[.int .i64 0, .slice none 0 0, .int .i64 0] 28)).heap.size = w.heap.size + 1 by simp] at this
  exact Blk.below this (below1 _ _)
set_option maxRecDepth 100000 in
set_option maxHeartbeats 4000000 in
theorem drawBothD_any (a0 : Option Addr) (len cap : Nat) (w : World) (h : Hid (Bytes w a0 len)) :
    Calls Try.prog 26 #[.slice a0 len cap] w (DrewB w) := by
  have C0 := Lib.hid (cur_new3 (cap := cap) h.out)
  have R0 : Hid (Blk (((w.alloc (.cells #[.int .i64 0, .slice none 0 0, .int .i64 0] 28)).alloc (.cells #[.int .i64 0, .slice none 0 0, .int .i64 0] 28)).alloc (.cells #[.slice a0 len cap, .int .i64 0, .int .u64 0] 112)) w.heap.size 28 [.int .i64 0, .slice none 0 0, .int .i64 0]) := Lib.hid (Blk.below (heap_alloc_new w _) (below2 _ _ _))
  have Q0 : Hid (Blk (((w.alloc (.cells #[.int .i64 0, .slice none 0 0, .int .i64 0] 28)).alloc (.cells #[.int .i64 0, .slice none 0 0, .int .i64 0] 28)).alloc (.cells #[.slice a0 len cap, .int .i64 0, .int .u64 0] 112)) (w.heap.size + 1) 28 [.int .i64 0, .slice none 0 0, .int .i64 0]) := Lib.hid (blk_mid w a0 len cap)
  have D0 := Lib.hid (below3 w (.cells #[.int .i64 0, .slice none 0 0, .int .i64 0] 28) (.cells #[.int .i64 0, .slice none 0 0, .int .i64 0] 28) (.cells #[.slice a0 len cap, .int .i64 0, .int .u64 0] 112))
  have SZ : Hid ((((w.alloc (.cells #[.int .i64 0, .slice none 0 0, .int .i64 0] 28)).alloc (.cells #[.int .i64 0, .slice none 0 0, .int .i64 0] 28)).alloc (.cells #[.slice a0 len cap, .int .i64 0, .int .u64 0] 112)).heap.size = w.heap.size + 3) := Lib.hid (by simp)
  go_enter Try.func26, Try.ntmps26
  go_wp2_with fail
  refine (pick_any (w.heap.size + 2) 0 5 _ C0 (by omega) (by omega) (by omega)).mono ?_
  rintro e w1 ⟨n, ⟨l1, u1⟩, rfl, hc, hg⟩
  have C1 := Lib.hid hc
  have G1 := Lib.hid hg
  have R1 := Lib.hid (blk_grown R0.out hg (by omega))
  have Q1 := Lib.hid (blk_grown Q0.out hg (by omega))
  clear hc hg
  obtain ⟨p, rfl⟩ := Int.eq_ofNat_of_zero_le l1
  obtain ⟨q, hq⟩ : ∃ q, 2 ^ p = q := ⟨_, rfl⟩
  have HQ := Lib.hid hq
  clear hq
  go_wp2_with fail
  refine (diagram_any (w.heap.size + 2) _ p q _ C1 HQ (by omega) (by omega)).mono ?_
  rintro e w2 ⟨a, r, A, cc, xs, rfl, hxl, _, _, ho, hc, hg⟩
  have S1 : Hid (w.heap.size + 3 ≤ w1.heap.size) := Lib.hid (by have := G1.out.size; have := SZ.out; omega)
  have C2 := Lib.hid hc
  have G2 := Lib.hid (grownC_trans G1.out hg)
  have R2 := Lib.hid (blk_grown R1.out hg (by omega))
  have Q2 := Lib.hid (blk_grown Q1.out hg (by omega))
  have O2 := Lib.hid ho
  clear hc hg ho
  go_wp2_with fail
  refine (pick_any (w.heap.size + 2) _ _ _ C2 (by omega) (by omega) (by omega)).mono ?_
  rintro e w3 ⟨v, ⟨l3, u3⟩, rfl, hc, hg⟩
  have C3 := Lib.hid hc
  have G3 := Lib.hid (grownC_trans G2.out hg)
  have R3 := Lib.hid (blk_grown R2.out hg (by omega))
  have Q3 := Lib.hid (blk_grown Q2.out hg (by omega))
  have O3 := Lib.hid (own_grown O2.out hg (by have := S1.out; omega))
  clear hc hg
  obtain ⟨qd, hqd, hq1⟩ : ∃ q : Nat, Int.tdiv v 19 = q ∧ q ≤ 1 := ⟨(Int.tdiv v 19).toNat, by rw [Int.tdiv_eq_ediv_of_nonneg l3]; omega, by rw [Int.tdiv_eq_ediv_of_nonneg l3]; omega⟩
  obtain ⟨q2, hq2⟩ : ∃ q, 2 ^ (p + qd) = q := ⟨_, rfl⟩
  have HQ2 := Lib.hid hq2
  clear hq2
  go_wp2_with fail
  refine (diagram_any (w.heap.size + 2) _ (p + qd) q2 _ C3 HQ2 (by omega) (by omega)).mono ?_
  rintro e w4 ⟨b, s, B, dd, ys, rfl, hyl, _, _, ho, hc, hg⟩
  have S2 : Hid (w.heap.size + 3 ≤ w3.heap.size) := Lib.hid (by have := G3.out.size; have := SZ.out; omega)
  have R4 := Lib.hid (blk_grown R3.out hg (by omega))
  have Q4 := Lib.hid (blk_grown Q3.out hg (by omega))
  have O4 := Lib.hid (own_grown O3.out hg (by have := S1.out; omega))
  have P4 := Lib.hid ho
  have B4 := Lib.hid (D0.out.grown (grownC_trans G3.out hg) (by have := SZ.out; omega) (fun g e => by have := Option.some.inj e; omega))
  clear hc hg ho C3 G3 R3 Q3 O3 C2 G2 R2 Q2 O2 C1 G1 R1 Q1 C0 R0 Q0
  obtain ⟨t0, t1, t2, f0, f1, f2, hl⟩ := blk_cells R4.out
  obtain ⟨y0, y1, y2, g0, g1, g2, hl2⟩ := blk_cells Q4.out
  go_wp2
  have hfin := dg_store R4.out (.int .i64 a) (.slice A xs.length cc) (.int .i64 r)
  have hQ := hfin.1.blk Q4.out (fun e => by have h2 : w.heap.size + 1 = w.heap.size := e; omega)
  have hO := hfin.1.own3 O4.out (fun g e h => by have := (O4.out.lt g e).1; have := S1.out; have h2 : g = w.heap.size := h; omega)
  have hP := hfin.1.own3 P4.out (fun g e h => by have := (P4.out.lt g e).1; have := S2.out; have h2 : g = w.heap.size := h; omega)
  have hB := hfin.1.below B4.out (by have := B4.out.size; omega) (fun i e => by have h2 : i = w.heap.size := e; omega)
  have hfin2 := dg_store hQ (.int .i64 b) (.slice B ys.length dd) (.int .i64 s)
  have hO2 := hfin2.1.own3 hO (fun g e h => by have := (hO.lt g e).1; have := S1.out; have h2 : g = w.heap.size + 1 := h; omega)
  have hP2 := hfin2.1.own3 hP (fun g e h => by have := (hP.lt g e).1; have := S2.out; have h2 : g = w.heap.size + 1 := h; omega)
  have hB2 := hfin2.1.below hB (by have := hB.size; omega) (fun i e => by have h2 : i = w.heap.size + 1 := e; omega)
  obtain ⟨_, r0, r1, r2⟩ := hfin
  obtain ⟨hk2, u0, u1', u2⟩ := hfin2
  have zb := hk2.block w.heap.size (by have := hQ.lt; omega) (fun e => by have h2 : w.heap.size = w.heap.size + 1 := e; omega)
  have z0 := (World.cell?_of_block (a := ⟨w.heap.size, 0, none⟩) zb).trans r0
  have z1 := (World.cell?_of_block (a := ⟨w.heap.size, 1, none⟩) zb).trans r1
  have z2 := (World.cell?_of_block (a := ⟨w.heap.size, 2, none⟩) zb).trans r2
  clear zb hk2
  obtain ⟨W', hW'⟩ : ∃ W', W' = ((((((w4.setCell ⟨w.heap.size, 0, none⟩ (.int .i64 a)).setCell ⟨w.heap.size, 1, none⟩ (.slice A xs.length cc)).setCell ⟨w.heap.size, 2, none⟩ (.int .i64 r)).setCell ⟨w.heap.size + 1, 0, none⟩ (.int .i64 b)).setCell ⟨w.heap.size + 1, 1, none⟩ (.slice B ys.length dd)).setCell ⟨w.heap.size + 1, 2, none⟩ (.int .i64 s)) := ⟨_, rfl⟩
  rw [← hW'] at u0 u1' u2 z0 z1 z2 hO2 hP2 hB2 ⊢
  exact bodyPost_ret (v := .tuple #[.agg #[.int .i64 a, .slice A xs.length cc, .int .i64 r], .agg #[.int .i64 b, .slice B ys.length dd, .int .i64 s]]) (by simp [results, Try.results26, go_sem, z0, z1, z2, u0, u1', u2]) rfl ⟨a, r, b, s, A, B, cc, dd, xs, ys, rfl, hxl, hyl, own_nlies rfl hO2, own_nlies rfl hP2, hB2⟩
end Go.Proofs.Ytklcfbjaodildaa
