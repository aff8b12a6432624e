/-
  The drawing of a program.
-/
import Derived.Test.YtilnegmjnbffhaaDoorDrawStep2
import Derived.Test.YtilnegmjnbffhaaDoorRead2
namespace Go.Proofs.YtilnegmjnbffhaaDoor
open Go.ChangeShapes Go.WideShapes Go.ChangeAt Go.RowKit

/-- in the midst of a drawn program: the reader, and the steps so far, in memory of their own -/
def Pr (w0 : World) (c K : Nat) (xs : List Stp) (A : Option Addr) (cap : Nat) (w : World) : Prop :=
  Cur w c K ∧ w.ownsRow w0.heap.size 67 6 (.slice A xs.length cap) xs.length (cellsOf xs) ∧ w0.grownBy w (some c) ∧ c < w0.heap.size
theorem Pr.step {w0 w w' : World} {c K K' : Nat} {xs : List Stp} {A : Option Addr} {cap : Nat} (h : Pr w0 c K xs A cap w) (hc : Cur w' c K') (hg : w.grownBy w' (some c)) : Pr w0 c K' xs A cap w' := by
  obtain ⟨_, h1, h2, h3⟩ := h
  refine ⟨hc, kept_of h1 hg (fun g hgb e => ?_), grownC_trans h2 hg, h3⟩
  have := (h1.lt g hgb).1
  have := Option.some.inj e
  omega
/-- an append of one step -/
theorem Pr.app {w0 w w' : World} {c K g cap' : Nat} {xs : List Stp} {A : Option Addr} {cap : Nat} {y : Stp} {o : Obj} (h : Pr w0 c K xs A cap w)
    (hown : w'.ownsRow w0.heap.size 67 6 (.slice (some ⟨g, 0, none⟩) (xs.length + 1) cap') (xs.length + 1) (cellsOf xs ++ y.cells)) (hg : (w.alloc o).grownBy w' (Value.slice A xs.length cap).ownBlock) :
    Pr w0 c K (xs ++ [y]) (some ⟨g, 0, none⟩) cap' w' := by
  obtain ⟨hc, h1, h2, h3⟩ := h
  have hl := h1.lt
  refine ⟨(hc.alloc o).grown hg (fun g' hg' => by have := (hl g' hg').1; omega), ?_, ?_, h3⟩
  · have e : cellsOf (xs ++ [y]) = cellsOf xs ++ y.cells := by simp [cellsOf]
    rw [e]
    simpa using hown
  · have h2' := grownC_trans h2 (World.grownBy_alloc w o (some c))
    refine ⟨hg.os.trans h2'.os, hg.tape.trans h2'.tape, hg.output.trans h2'.output, Nat.le_trans h2'.size hg.size, fun k hk hne => ?_⟩
    rw [hg.block k (Nat.lt_of_lt_of_le hk h2'.size) (fun e => by have := (hl k e.symm).1; omega)]
    exact h2'.block k hk hne
theorem Pr.size {w0 w : World} {c K : Nat} {xs : List Stp} {A : Option Addr} {cap : Nat} (h : Pr w0 c K xs A cap w) : w0.heap.size ≤ w.heap.size := h.2.2.1.size
/-- it answers a program of its own -/
def GaveProg (c K : Nat) (w : World) (e : Ending) (w' : World) : Prop :=
  ∃ (xs : List Stp) (A : Option Addr) (cap : Nat), e = .returned (.slice A xs.length cap) ∧ (1 ≤ xs.length ∧ xs.length ≤ 20) ∧ Pr w c K xs A cap w'
theorem pickP (w0 : World) (c K : Nat) (xs : List Stp) (A : Option Addr) (cap : Nat) (m : Int) (w : World) (h : Hid (Pr w0 c K xs A cap w)) (hK : K ≤ 900000000000) (h1 : 1 ≤ m) (h2 : m ≤ 100000) :
    Calls Tryd.prog 32 #[.pointer (some ⟨c, 0, none⟩), .int .i64 m] w fun e w' => ∃ n : Int, (0 ≤ n ∧ n < m) ∧ e = .returned (.int .i64 n) ∧ Pr w0 c (K + 2) xs A cap w' :=
  (pick_any c K m w h.out.1 hK h1 h2).mono fun _ _ ⟨n, hp, he, hc, hg⟩ => ⟨n, hp, he, h.out.step hc hg⟩
theorem oneP (w0 : World) (c K : Nat) (xs : List Stp) (A : Option Addr) (cap : Nat) (m : Int) (w : World) (h : Hid (Pr w0 c K xs A cap w)) (hK : K ≤ 900000000000) (h1 : 1 ≤ m) (h2 : m ≤ 100000) :
    Calls Tryd.prog 33 #[.pointer (some ⟨c, 0, none⟩), .int .i64 m] w fun e w' => ∃ b : Bool, e = .returned (.bool b) ∧ Pr w0 c (K + 2) xs A cap w' :=
  (one_any c K m w h.out.1 hK h1 h2).mono fun _ _ ⟨b, he, hc, hg⟩ => ⟨b, he, h.out.step hc hg⟩
theorem amongP (w0 : World) (c K : Nat) (xs : List Stp) (A : Option Addr) (cap : Nat) (vs : List Int) (len : Nat) (w : World) (h : Hid (Pr w0 c K xs A cap w)) (hK : K ≤ 900000000000) (hl : vs.length = len) (h1 : 1 ≤ len) (h2 : len ≤ 100000) :
    Calls Tryd.prog 35 #[.pointer (some ⟨c, 0, none⟩), .slice (some ⟨w.heap.size, 0, none⟩) len len] (w.alloc (.cells (vs.map fun z => Value.int .i64 z).toArray 3)) fun e w' => ∃ n : Int, e = .returned (.int .i64 n) ∧ Pr w0 c (K + 2) xs A cap w' :=
  (among_any c K w.heap.size len vs _ (h.out.1.alloc _) hK h1 h2 (by have := h.out.1.lt; omega) ⟨hl, fun i hi => cells_new w vs 3 i (by omega)⟩).mono
    fun _ _ ⟨n, _, he, hc, hg⟩ => ⟨n, he, (h.out.step (h.out.1.alloc _) (World.grownBy_alloc w _ _)).step hc hg⟩
theorem stepP (w0 : World) (c K : Nat) (xs : List Stp) (A : Option Addr) (cap : Nat) (room : Int) (w : World) (h : Hid (Pr w0 c K xs A cap w)) (hK : K ≤ 800000000000) (hr : 0 ≤ room ∧ room ≤ 1000) :
    Calls Tryd.prog 34 #[.pointer (some ⟨c, 0, none⟩), .int .i64 room] w fun e w' => ∃ y : Stp, e = .returned (.agg #[.int .i64 y.k, .int .i64 y.o, .int .i64 y.d, .int .i64 y.s, .int .i64 y.i, .int .i64 y.t]) ∧ Pr w0 c (K + 20) xs A cap w' :=
  (step_any c K room w h.out.1 hK hr).mono fun _ _ ⟨y, he, hc, hg⟩ => ⟨y, he, h.out.step hc hg⟩

theorem ret_val {v v' : Value} (h : v = v') : Ending.returned v = .returned v' := by rw [h]
theorem Pr.mono {w0 w : World} {c K K' : Nat} {xs : List Stp} {A : Option Addr} {cap : Nat} (h : Pr w0 c K xs A cap w) (hK : K ≤ K') : Pr w0 c K' xs A cap w := ⟨h.1.mono hK, h.2⟩
theorem Pr.there {w0 w : World} {c K g : Nat} {xs : List Stp} {cap : Nat} (h : Pr w0 c K xs (some ⟨g, 0, none⟩) cap w) (j : Nat) (hj : j < xs.length) :
    (∃ v, w.cell? ⟨g, j * 6, none⟩ = some v) ∧ (∃ v, w.cell? ⟨g, j * 6 + 1, none⟩ = some v) ∧ (∃ v, w.cell? ⟨g, j * 6 + 2, none⟩ = some v) ∧ (∃ v, w.cell? ⟨g, j * 6 + 3, none⟩ = some v) ∧ (∃ v, w.cell? ⟨g, j * 6 + 4, none⟩ = some v) ∧ (∃ v, w.cell? ⟨g, j * 6 + 5, none⟩ = some v) ∧ ∀ i, w.frozen? ⟨g, i, none⟩ = false := by
  have h1 := h.2.1
  have q : ∀ i, i < xs.length * 6 → ∃ v, w.cell? ⟨g, i, none⟩ = some v := fun i hi => by
    have := h1.cells (g := g) rfl i _ (List.getElem?_eq_getElem (by have := h1.1; omega))
    rw [add_plain, Nat.zero_add] at this
    exact ⟨_, this⟩
  refine ⟨q _ (by omega), q _ (by omega), q _ (by omega), q _ (by omega), q _ (by omega), q _ (by omega), fun i => ?_⟩
  rcases h1.2 with ⟨h', _⟩ | ⟨g', cap', cur, h', hb, hg, hnc, hcm, hcs, htake⟩
  · simp at h'
  · simp only [Value.slice.injEq, Option.some.injEq, Addr.mk.injEq, and_true, true_and] at h'
    obtain ⟨rfl, rfl⟩ := h'
    simp [World.frozen?, hg]
theorem cellsOf_get (xs : List Stp) (q r : Nat) (hr : r < 6) : (cellsOf xs)[q * 6 + r]? = (xs[q]?).bind fun x => x.cells[r]? := by
  rcases Nat.lt_or_ge q xs.length with h | h
  · rw [cellsOf_at xs q _ (List.getElem?_eq_getElem h) r hr, List.getElem?_eq_getElem h]
    rfl
  · rw [List.getElem?_eq_none (by rw [cellsOf_len]; omega), List.getElem?_eq_none h]
    rfl
theorem cellsOf_set (xs : List Stp) (j : Nat) (hj : j < xs.length) (y : Stp) :
    (((((((cellsOf xs).set (j * 6) (.int .i64 y.k)).set (j * 6 + 1) (.int .i64 y.o)).set (j * 6 + 2) (.int .i64 y.d)).set (j * 6 + 3) (.int .i64 y.s)).set (j * 6 + 4) (.int .i64 y.i)).set (j * 6 + 5) (.int .i64 y.t)) = cellsOf (xs.set j y) := by
  apply List.ext_getElem?
  intro n
  obtain ⟨q, r, hr, rfl⟩ : ∃ q r, r < 6 ∧ n = q * 6 + r := ⟨n / 6, n % 6, by omega, by omega⟩
  rw [cellsOf_get _ _ _ hr]
  have hl := cellsOf_len xs
  simp only [List.getElem?_set, List.length_set]
  by_cases hq : j = q
  · subst hq
    rw [if_pos rfl, if_pos hj]
    have h6 : r = 0 ∨ r = 1 ∨ r = 2 ∨ r = 3 ∨ r = 4 ∨ r = 5 := by omega
    rcases h6 with rfl | rfl | rfl | rfl | rfl | rfl <;> simp [Stp.cells] <;> omega
  · rw [if_neg hq, if_neg (by omega), if_neg (by omega), if_neg (by omega), if_neg (by omega), if_neg (by omega), if_neg (by omega), cellsOf_get _ _ _ hr]
theorem Pr.put {w0 w : World} {c K g : Nat} {xs : List Stp} {cap : Nat} (h : Pr w0 c K xs (some ⟨g, 0, none⟩) cap w) (j : Nat) (hj : j < xs.length) (y : Stp) :
    Pr w0 c K (xs.set j y) (some ⟨g, 0, none⟩) cap ((((((w.setCell ⟨g, j * 6, none⟩ (.int .i64 y.k)).setCell ⟨g, j * 6 + 1, none⟩ (.int .i64 y.o)).setCell ⟨g, j * 6 + 2, none⟩ (.int .i64 y.d)).setCell ⟨g, j * 6 + 3, none⟩ (.int .i64 y.s)).setCell ⟨g, j * 6 + 4, none⟩ (.int .i64 y.i)).setCell ⟨g, j * 6 + 5, none⟩ (.int .i64 y.t)) := by
  obtain ⟨hc, h1, h2, h3⟩ := h
  have hgb := (h1.lt g rfl).1
  obtain ⟨a1, b1⟩ := h1.stored (j * 6) (.int .i64 y.k)
  obtain ⟨a2, b2⟩ := a1.stored (j * 6 + 1) (.int .i64 y.o)
  obtain ⟨a3, b3⟩ := a2.stored (j * 6 + 2) (.int .i64 y.d)
  obtain ⟨a4, b4⟩ := a3.stored (j * 6 + 3) (.int .i64 y.s)
  obtain ⟨a5, b5⟩ := a4.stored (j * 6 + 4) (.int .i64 y.i)
  obtain ⟨a6, b6⟩ := a5.stored (j * 6 + 5) (.int .i64 y.t)
  have hb := grownC_trans b1 (grownC_trans b2 (grownC_trans b3 (grownC_trans b4 (grownC_trans b5 b6))))
  refine ⟨hc.grown hb (fun g' e => by have := Option.some.inj e; omega), ?_, ?_, h3⟩
  · rw [← cellsOf_set xs j hj y, List.length_set]
    exact a6
  · refine ⟨hb.os.trans h2.os, hb.tape.trans h2.tape, hb.output.trans h2.output, Nat.le_trans h2.size hb.size, fun k hk hne => ?_⟩
    rw [hb.block k (Nat.lt_of_lt_of_le hk h2.size) (fun e => by have := Option.some.inj e; omega)]
    exact h2.block k hk hne

set_option maxRecDepth 100000 in
set_option maxHeartbeats 4000000 in
theorem program_any (c K : Nat) (w : World) (h : Hid (Cur w c K)) (hK : K ≤ 700000000000) :
    Calls Tryd.prog 16 #[.pointer (some ⟨c, 0, none⟩)] w (GaveProg c (K + 1000) w) := by
  obtain ⟨i0, hi0, hz0, hz1, hz2⟩ := info_parts info_step
  have P0 : Hid (Pr w c K [] none 0 w) := ⟨h.out, World.ownsRow_nil _ _ _ _, World.grownBy.refl _ _, h.out.lt⟩
  go_enter Tryd.func16, Tryd.ntmps16
  go_wp2_with fail
  refine (pickP w c K [] none 0 _ _ P0 (by omega) (by omega) (by omega)).mono ?_
  rintro e w1 ⟨n1, ⟨l1, u1⟩, rfl, hp1⟩
  have P1 := Lib.hid hp1
  clear hp1
  obtain ⟨m, rfl⟩ := Int.eq_ofNat_of_zero_le l1
  go_wp2_with fail
  refine (oneP w c (K + 2) [] none 0 _ _ P1 (by omega) (by omega) (by omega)).mono ?_
  rintro e w2 ⟨b, rfl, hp2⟩
  have P2 := Lib.hid hp2
  clear hp2
  cases b
  · go_wp2_with fail
    go_loopw [3, 5] (fun v i wr => ∃ (k : Nat) (xs : List Stp) (A : Option Addr) (cap : Nat), k ≤ m ∧ i = .int .i64 k ∧ xs.length = k ∧ v = .slice A xs.length cap ∧ Pr w c (K + 4 + 20 * k) xs A cap wr) (fun _ i _ => m - (intOf i).toNat)
    case atStart => exact ⟨0, [], none, 0, Nat.zero_le _, rfl, rfl, rfl, P2.out⟩
    case round =>
      obtain ⟨k, xs, A, cap, hk, rfl, hxk, rfl, hp⟩ := hrel
      have P3 := Lib.hid hp
      have HX := Lib.hid hxk
      clear hp
      have hx20 : xs.length ≤ 19 := by omega
      by_cases hlt : k < m
      · clear hxk
        go_wp2_with fail
        refine (stepP w c (K + 4 + 20 * k) xs A cap _ _ P3 (by omega) (by omega)).mono ?_
        rintro e w4 ⟨y, rfl, hp4⟩
        have P4 := Lib.hid hp4
        clear hp4
        go_wp2_with (at_builtin; (refine wpList_append_lies _ rfl _ _ 23 rfl w.heap.size 67 i0 _ 6 48 Tryd.underlying23 hi0 hz0 hz1 hz2 rfl (by omega) _ xs.length _ rfl (P4.out.2.1.alloc _) ⟨w4.heap.size, 0, none⟩ 1 1 y.cells rfl rfl (by exact World.news_of_block (heap_alloc_new w4 _)) (cells_one _) (by omega) (by unfold maxLen; omega) (by omega) (by have := P4.out.size; first | omega | (simp; omega)) (w4.heap.size + 1) (by first | rfl | simp) ?_; intro g5 cap5 w5 hown5 hg5 hat5 hlt5; have P5 := Lib.hid (P4.out.app (y := y) hown5 hg5); clear hown5 hg5 hat5 hlt5))
        go_roundw
        case rel => exact ⟨k + 1, xs ++ [y], some ⟨g5, 0, none⟩, cap5, by omega, by go_num, by have := HX.out; simp; omega, by simp, (by have := P5.out; exact this)⟩
        case measure => simp [intOf]; omega
      · obtain rfl : k = m := by omega
        clear hxk
        go_wp2_with (at_builtin; (refine wpList_append_lies _ rfl _ _ 23 rfl w.heap.size 67 i0 _ 6 48 Tryd.underlying23 hi0 hz0 hz1 hz2 rfl (by omega) _ xs.length _ rfl (P3.out.2.1.alloc _) ⟨wr.heap.size, 0, none⟩ 1 1 (⟨11, 0, 0, 0, 0, 0⟩ : Stp).cells rfl rfl (by exact World.news_of_block (heap_alloc_new wr _)) (cells_one _) (by omega) (by unfold maxLen; omega) (by omega) (by have := P3.out.size; first | omega | (simp; omega)) (wr.heap.size + 1) (by first | rfl | simp) ?_; intro g6 cap6 w6 hown6 hg6 hat6 hlt6; have P6 := Lib.hid (P3.out.app (y := (⟨11, 0, 0, 0, 0, 0⟩ : Stp)) hown6 hg6); clear hown6 hg6 hat6 hlt6))
        refine (oneP w c _ _ _ _ _ _ P6 (by omega) (by omega) (by omega)).mono ?_
        rintro e w7 ⟨b7, rfl, hp7⟩
        have P7 := Lib.hid hp7
        clear hp7
        cases b7
        · go_wp2
          go_ret
          exact ⟨xs ++ [(⟨11, 0, 0, 0, 0, 0⟩ : Stp)], some ⟨g6, 0, none⟩, cap6, ret_val (by simp), by simp; omega, P7.out.mono (by omega)⟩
        · go_wp2_with fail
          refine (pickP w c _ _ _ _ _ _ P7 (by omega) (by omega) (by omega)).mono ?_
          rintro e w8 ⟨n8, ⟨l8, u8⟩, rfl, hp8⟩
          have P8 := Lib.hid hp8
          clear hp8
          obtain ⟨j, rfl⟩ := Int.eq_ofNat_of_zero_le l8
          go_wp2_with fail
          refine (pickP w c _ _ _ _ _ _ P8 (by omega) (by omega) (by omega)).mono ?_
          rintro e w9 ⟨n9, ⟨l9, u9⟩, rfl, hp9⟩
          have P9 := Lib.hid hp9
          clear hp9
          go_wp2_with fail
          refine (pickP w c _ _ _ _ _ _ P9 (by omega) (by omega) (by omega)).mono ?_
          rintro e w10 ⟨n10, ⟨l10, u10⟩, rfl, hp10⟩
          have P10 := Lib.hid hp10
          clear hp10
          go_wp2_with fail
          refine (pickP w c _ _ _ _ _ _ P10 (by omega) (by omega) (by omega)).mono ?_
          rintro e w11 ⟨n11, ⟨l11, u11⟩, rfl, hp11⟩
          have P11 := Lib.hid hp11
          clear hp11
          go_wp2_with fail
          refine (amongP w c _ _ _ _ [0, 255, 256, 65536] 4 w11 P11 (by omega) rfl (by omega) (by omega)).mono ?_
          rintro e w12 ⟨n12, rfl, hp12⟩
          have P12 := Lib.hid hp12
          clear hp12
          go_wp2_with fail
          refine (pickP w c _ _ _ _ _ _ P12 (by omega) (by omega) (by omega)).mono ?_
          rintro e w13 ⟨n13, ⟨l13, u13'⟩, rfl, hp13⟩
          have P13 := Lib.hid hp13
          clear hp13
          have hjl : j < (xs ++ [(⟨11, 0, 0, 0, 0, 0⟩ : Stp)]).length := by simp; omega
          obtain ⟨t0, t1, t2, t3, t4, t5, ff⟩ := P13.out.there j hjl
          obtain ⟨v0, t0⟩ := t0
          obtain ⟨v1, t1⟩ := t1
          obtain ⟨v2, t2⟩ := t2
          obtain ⟨v3, t3⟩ := t3
          obtain ⟨v4, t4⟩ := t4
          obtain ⟨v5, t5⟩ := t5
          have PF := Lib.hid (P13.out.put j hjl ⟨n9, n10, n11 - 1, 0, n12, n13⟩)
          clear hjl
          go_wp2
          go_ret
          exact ⟨(xs ++ [(⟨11, 0, 0, 0, 0, 0⟩ : Stp)]).set j ⟨n9, n10, n11 - 1, 0, n12, n13⟩, some ⟨g6, 0, none⟩, cap6, ret_val (by simp), by simp; omega, PF.out.mono (by omega)⟩
  · go_wp2_with fail
    go_loopw [3, 5] (fun v i wr => ∃ (k : Nat) (xs : List Stp) (A : Option Addr) (cap : Nat), k ≤ 19 ∧ i = .int .i64 k ∧ xs.length = k ∧ v = .slice A xs.length cap ∧ Pr w c (K + 4 + 20 * k) xs A cap wr) (fun _ i _ => 19 - (intOf i).toNat)
    case atStart => exact ⟨0, [], none, 0, Nat.zero_le _, rfl, rfl, rfl, P2.out⟩
    case round =>
      obtain ⟨k, xs, A, cap, hk, rfl, hxk, rfl, hp⟩ := hrel
      have P3 := Lib.hid hp
      have HX := Lib.hid hxk
      clear hp
      have hx20 : xs.length ≤ 19 := by omega
      by_cases hlt : k < 19
      · clear hxk
        go_wp2_with fail
        refine (stepP w c (K + 4 + 20 * k) xs A cap _ _ P3 (by omega) (by omega)).mono ?_
        rintro e w4 ⟨y, rfl, hp4⟩
        have P4 := Lib.hid hp4
        clear hp4
        go_wp2_with (at_builtin; (refine wpList_append_lies _ rfl _ _ 23 rfl w.heap.size 67 i0 _ 6 48 Tryd.underlying23 hi0 hz0 hz1 hz2 rfl (by omega) _ xs.length _ rfl (P4.out.2.1.alloc _) ⟨w4.heap.size, 0, none⟩ 1 1 y.cells rfl rfl (by exact World.news_of_block (heap_alloc_new w4 _)) (cells_one _) (by omega) (by unfold maxLen; omega) (by omega) (by have := P4.out.size; first | omega | (simp; omega)) (w4.heap.size + 1) (by first | rfl | simp) ?_; intro g5 cap5 w5 hown5 hg5 hat5 hlt5; have P5 := Lib.hid (P4.out.app (y := y) hown5 hg5); clear hown5 hg5 hat5 hlt5))
        go_roundw
        case rel => exact ⟨k + 1, xs ++ [y], some ⟨g5, 0, none⟩, cap5, by omega, by go_num, by have := HX.out; simp; omega, by simp, (by have := P5.out; exact this)⟩
        case measure => simp [intOf]; omega
      · obtain rfl : k = 19 := by omega
        clear hxk
        go_wp2_with (at_builtin; (refine wpList_append_lies _ rfl _ _ 23 rfl w.heap.size 67 i0 _ 6 48 Tryd.underlying23 hi0 hz0 hz1 hz2 rfl (by omega) _ xs.length _ rfl (P3.out.2.1.alloc _) ⟨wr.heap.size, 0, none⟩ 1 1 (⟨11, 0, 0, 0, 0, 0⟩ : Stp).cells rfl rfl (by exact World.news_of_block (heap_alloc_new wr _)) (cells_one _) (by omega) (by unfold maxLen; omega) (by omega) (by have := P3.out.size; first | omega | (simp; omega)) (wr.heap.size + 1) (by first | rfl | simp) ?_; intro g6 cap6 w6 hown6 hg6 hat6 hlt6; have P6 := Lib.hid (P3.out.app (y := (⟨11, 0, 0, 0, 0, 0⟩ : Stp)) hown6 hg6); clear hown6 hg6 hat6 hlt6))
        refine (oneP w c _ _ _ _ _ _ P6 (by omega) (by omega) (by omega)).mono ?_
        rintro e w7 ⟨b7, rfl, hp7⟩
        have P7 := Lib.hid hp7
        clear hp7
        cases b7
        · go_wp2
          go_ret
          exact ⟨xs ++ [(⟨11, 0, 0, 0, 0, 0⟩ : Stp)], some ⟨g6, 0, none⟩, cap6, ret_val (by simp), by simp; omega, P7.out.mono (by omega)⟩
        · go_wp2_with fail
          refine (pickP w c _ _ _ _ _ _ P7 (by omega) (by omega) (by omega)).mono ?_
          rintro e w8 ⟨n8, ⟨l8, u8⟩, rfl, hp8⟩
          have P8 := Lib.hid hp8
          clear hp8
          obtain ⟨j, rfl⟩ := Int.eq_ofNat_of_zero_le l8
          go_wp2_with fail
          refine (pickP w c _ _ _ _ _ _ P8 (by omega) (by omega) (by omega)).mono ?_
          rintro e w9 ⟨n9, ⟨l9, u9⟩, rfl, hp9⟩
          have P9 := Lib.hid hp9
          clear hp9
          go_wp2_with fail
          refine (pickP w c _ _ _ _ _ _ P9 (by omega) (by omega) (by omega)).mono ?_
          rintro e w10 ⟨n10, ⟨l10, u10⟩, rfl, hp10⟩
          have P10 := Lib.hid hp10
          clear hp10
          go_wp2_with fail
          refine (pickP w c _ _ _ _ _ _ P10 (by omega) (by omega) (by omega)).mono ?_
          rintro e w11 ⟨n11, ⟨l11, u11⟩, rfl, hp11⟩
          have P11 := Lib.hid hp11
          clear hp11
          go_wp2_with fail
          refine (amongP w c _ _ _ _ [0, 255, 256, 65536] 4 w11 P11 (by omega) rfl (by omega) (by omega)).mono ?_
          rintro e w12 ⟨n12, rfl, hp12⟩
          have P12 := Lib.hid hp12
          clear hp12
          go_wp2_with fail
          refine (pickP w c _ _ _ _ _ _ P12 (by omega) (by omega) (by omega)).mono ?_
          rintro e w13 ⟨n13, ⟨l13, u13'⟩, rfl, hp13⟩
          have P13 := Lib.hid hp13
          clear hp13
          have hjl : j < (xs ++ [(⟨11, 0, 0, 0, 0, 0⟩ : Stp)]).length := by simp; omega
          obtain ⟨t0, t1, t2, t3, t4, t5, ff⟩ := P13.out.there j hjl
          obtain ⟨v0, t0⟩ := t0
          obtain ⟨v1, t1⟩ := t1
          obtain ⟨v2, t2⟩ := t2
          obtain ⟨v3, t3⟩ := t3
          obtain ⟨v4, t4⟩ := t4
          obtain ⟨v5, t5⟩ := t5
          have PF := Lib.hid (P13.out.put j hjl ⟨n9, n10, n11 - 1, 0, n12, n13⟩)
          clear hjl
          go_wp2
          go_ret
          exact ⟨(xs ++ [(⟨11, 0, 0, 0, 0, 0⟩ : Stp)]).set j ⟨n9, n10, n11 - 1, 0, n12, n13⟩, some ⟨g6, 0, none⟩, cap6, ret_val (by simp), by simp; omega, PF.out.mono (by omega)⟩
end Go.Proofs.YtilnegmjnbffhaaDoor
