/-
  The walk of the law FnMachine.
-/
import Derived.Test.YtfcfnpdomjpibaaDoorDrawProg
import Derived.Test.YtfcfnpdomjpibaaDoorTwo
import Derived.Test.YtfcfnpdomjpibaaDoorBytes
import Derived.Test.YtfcfnpdomjpibaaDoorOwnM
import Derived.Test.YtfcfnpdomjpibaaDoorStepD
import Derived.Test.YtfcfnpdomjpibaaDoorRunB
namespace Go.Proofs.YtfcfnpdomjpibaaDoor
open Go.ChangeShapes Go.WideShapes Go.ChangeAt Go.RowKit

theorem ownR_read {w w' : World} {base c n : Nat} {t : TypeId} {v : Value} {xs : List Value} (h : w.ownsRow base t 1 v n xs) (hg : w.grownBy w' (some c)) (hc : c < base) : w'.ownsRow base t 1 v n xs :=
  kept_of h hg (fun g hgb e => by have := (h.lt g hgb).1; have := Option.some.inj e; omega)
theorem grown_appR {w0 w w' : World} {c : Nat} {row : Option Nat} {o : Obj} (h : w0.grownBy w (some c)) (hg : (w.alloc o).grownBy w' row) (hr : ∀ g, row = some g → w0.heap.size ≤ g) : w0.grownBy w' (some c) := by
  have h2 := grownC_trans h (World.grownBy_alloc w o (some c))
  refine ⟨hg.os.trans h2.os, hg.tape.trans h2.tape, hg.output.trans h2.output, Nat.le_trans h2.size hg.size, fun k hk hne => ?_⟩
  rw [hg.block k (Nat.lt_of_lt_of_le hk h2.size) (fun e => by have := hr k e.symm; omega)]
  exact h2.block k hk hne
theorem lit_cells (w : World) (vs : List Int) : ∀ i : Nat, i < vs.length → (w.alloc (.cells (vs.map (Value.int .i64)).toArray 3)).cell? ⟨w.heap.size, i, none⟩ = some (.int .i64 (vs[i]?.getD 0)) := by
  intro i hi
  have hb : Blk (w.alloc (.cells (vs.map (Value.int .i64)).toArray 3)) w.heap.size 3 (vs.map (Value.int .i64)) := heap_alloc_new w _
  rw [hb.cell i, List.getElem?_map, List.getElem?_eq_getElem hi]
  rfl
theorem setGR (w : World) (g : Nat) (u : Value) : w.grownBy (w.setCell ⟨g, 0, none⟩ u) (some g) :=
  ⟨rfl, rfl, rfl, by simp, fun i _ hne => Below.heap_setCell w ⟨g, 0, none⟩ u i (fun e => hne (by rw [e]))⟩
/-- it answers eight numbers of its own, drawn -/
def GaveCtx (c K : Nat) (w : World) (e : Ending) (w' : World) : Prop :=
  ∃ (l : List Int) (A : Option Addr) (cap : Nat), e = .returned (.slice A 8 cap) ∧ l.length = 8 ∧ w'.ownsRow w.heap.size 3 1 (.slice A 8 cap) 8 (l.map (Value.int .i64)) ∧ Cur w' c K ∧ w.grownBy w' (some c)
set_option maxRecDepth 100000 in
set_option maxHeartbeats 4000000 in
theorem ctx_any (c K : Nat) (w : World) (h : Hid (Cur w c K)) (hK : K ≤ 800000000) :
    Calls Tryd.prog 39 #[.pointer (some ⟨c, 0, none⟩)] w (GaveCtx c (K + 100) w) := by
  obtain ⟨i0, hi0, hz0, hz1, hz2⟩ := info_parts info_int
  have hcl : Hid (c < w.heap.size) := Lib.hid h.out.lt
  go_enter Tryd.func39, Tryd.ntmps39
  go_wp2_with fail
  go_loopw [3, 4] (fun u i wr => ∃ (k : Nat) (l : List Int), k ≤ 8 ∧ i = .int .i64 k ∧ l.length = k ∧ (∃ A cap, u = .slice A k cap ∧ wr.ownsRow w.heap.size 3 1 (.slice A k cap) k (l.map (Value.int .i64))) ∧ Cur wr c (K + 6 * k) ∧ w.grownBy wr (some c)) (fun _ i _ => 8 - (intOf i).toNat)
  case atStart => exact ⟨0, [], Nat.zero_le _, rfl, rfl, ⟨none, 0, rfl, World.ownsRow_nil _ _ _ _⟩, h.out, World.grownBy.refl _ _⟩
  case round =>
    clear h
    obtain ⟨k, l, hk, rfl, hl, ⟨A, cap, rfl, hown⟩, hc, hg⟩ := hrel
    have OW := Lib.hid hown
    have CW := Lib.hid hc
    have GW := Lib.hid hg
    have HL := Lib.hid hl
    clear hown hc hg hl
    by_cases hlt : k < 8
    · go_wp2_with fail
      refine (pick_any c _ _ _ CW (by omega) (by omega) (by omega)).mono ?_
      rintro e w1 ⟨n1, _, rfl, hc1, hg1⟩
      have O1 := Lib.hid (ownR_read OW.out hg1 hcl.out)
      have G1 := Lib.hid (grownC_trans GW.out hg1)
      have BA := below1 w1 (.cells #[.int .i64 0, .int .i64 1, .int .i64 7, .int .i64 8, .int .i64 255, .int .i64 n1] 3)
      have C1 := Lib.hid (hc1.below BA)
      have O2 := Lib.hid (own_below O1.out BA)
      have G2 := Lib.hid (grownC_trans G1.out (grown_of_below BA))
      have hcw : c < w1.heap.size := hc1.lt
      have VC : Hid ([0, 1, 7, 8, 255, n1].length = 6 ∧ ∀ i : Nat, i < 6 → (w1.alloc (.cells #[.int .i64 0, .int .i64 1, .int .i64 7, .int .i64 8, .int .i64 255, .int .i64 n1] 3)).cell? ⟨w1.heap.size, i, none⟩ = some (.int .i64 ([0, 1, 7, 8, 255, n1][i]?.getD 0))) := Lib.hid ⟨rfl, lit_cells w1 [0, 1, 7, 8, 255, n1]⟩
      clear hc1 hg1 BA O1 G1 OW CW GW
      go_wp2_with fail
      refine (among_any c _ w1.heap.size 6 [0, 1, 7, 8, 255, n1] _ C1 (by omega) (by omega) (by omega) (by omega) VC).mono ?_
      rintro e w3 ⟨x, _, rfl, hc3, hg3⟩
      have O3 := Lib.hid (ownR_read O2.out hg3 hcl.out)
      have C3 := Lib.hid hc3
      have G3 := Lib.hid (grownC_trans G2.out hg3)
      clear hc3 hg3 C1 O2 G2 VC
      go_wp2_with (at_builtin; (refine wpList_append_lies _ rfl _ _ 24 rfl w.heap.size 3 i0 (.int .i64 0) 1 8 Tryd.underlying24 hi0 hz0 hz1 hz2 rfl (by omega) _ k _ rfl (O3.out.alloc _) ⟨w3.heap.size, 0, none⟩ 1 1 [.int .i64 x] rfl rfl (one_newT w3 _ _) (by intro u hu; rw [List.mem_singleton.1 hu]; rfl) (by omega) (by unfold maxLen; omega) (by omega) (by have := G3.out.size; first | omega | (simp; omega)) (w3.heap.size + 1) (by first | rfl | simp) ?_; intro g4 cap4 w4 hown4 hg4 hat4 hlt4; have O4 := Lib.hid hown4; have C4 := Lib.hid ((C3.out.alloc _).grown hg4 (fun g e => by have := (O3.out.lt g e).1; have := hcl.out; omega)); have G4 := Lib.hid (grown_appR G3.out hg4 (fun g e => (O3.out.lt g e).1)); clear hown4 hg4 hat4 hlt4))
      go_roundw
      case rel => exact ⟨k + 1, l ++ [x], by omega, by go_num, by rw [List.length_append, HL.out]; rfl, ⟨some ⟨g4, 0, none⟩, cap4, rfl, by rw [List.map_append]; exact O4.out⟩, C4.out.mono (by omega), G4.out⟩
      case measure => simp [intOf]; omega
    · obtain rfl : k = 8 := by omega
      go_wp2_with fail
      refine (one_any c _ _ _ CW (by omega) (by omega) (by omega)).mono ?_
      rintro e w1 ⟨b, rfl, hc1, hg1⟩
      have C1 := Lib.hid hc1
      have O1 := Lib.hid (ownR_read OW.out hg1 hcl.out)
      have G1 := Lib.hid (grownC_trans GW.out hg1)
      clear hc1 hg1 OW CW GW
      cases b
      · go_wp2
        go_ret
        exact ⟨l, A, cap, rfl, HL.out, O1.out, C1.out.mono (by omega), G1.out⟩
      · obtain ⟨g, cpx, hv9, hbg9, hgl9⟩ := O1.out.form (by omega)
        have hA : A = some ⟨g, 0, none⟩ := by injection hv9
        clear hv9
        subst hA
        have BA := below1 w1 (.cells #[.int .i64 (-1), .int .i64 256] 3)
        have hcw : c < w1.heap.size := C1.out.lt
        have CA := Lib.hid (C1.out.below BA)
        have OA := Lib.hid (own_below O1.out BA)
        have GA := Lib.hid (grownC_trans G1.out (grown_of_below BA))
        have VC : Hid ([-1, 256].length = 2 ∧ ∀ i : Nat, i < 2 → (w1.alloc (.cells #[.int .i64 (-1), .int .i64 256] 3)).cell? ⟨w1.heap.size, i, none⟩ = some (.int .i64 (([-1, 256] : List Int)[i]?.getD 0))) := Lib.hid ⟨rfl, lit_cells w1 [-1, 256]⟩
        clear BA O1 G1 C1
        go_wp2_with fail
        refine (among_any c _ w1.heap.size 2 [-1, 256] _ CA (by omega) (by omega) (by omega) (by omega) VC).mono ?_
        rintro e w3 ⟨x, _, rfl, hc3, hg3⟩
        have O3 := Lib.hid (ownR_read OA.out hg3 hcl.out)
        have C3 := Lib.hid hc3
        have G3 := Lib.hid (grownC_trans GA.out hg3)
        clear hc3 hg3 CA OA GA VC
        obtain ⟨y, hy⟩ : ∃ y, l[0]? = some y := ⟨_, List.getElem?_eq_getElem (by have := HL.out; omega)⟩
        have t0 : w3.cell? ⟨g, 0, none⟩ = some (.int .i64 y) := own_cell O3.out (by rw [List.getElem?_map, hy]; rfl)
        have f0 := own_frozen O3.out 0
        have O4 : Hid ((w3.setCell ⟨g, 0, none⟩ (.int .i64 x)).ownsRow w.heap.size 3 1 (.slice (some ⟨g, 0, none⟩) 8 cap) 8 ((l.set 0 x).map (Value.int .i64))) := Lib.hid (by have := (O3.out.stored 0 (.int .i64 x)).1; rw [← List.map_set] at this; exact this)
        have HS : Hid ((l.set 0 x).length = 8) := Lib.hid (by rw [List.length_set]; exact HL.out)
        have C4 : Hid (Cur (w3.setCell ⟨g, 0, none⟩ (.int .i64 x)) c (K + 6 * 8 + 2 + 2)) := Lib.hid (C3.out.grown (setGR w3 g (.int .i64 x)) (fun g' e => by have := Option.some.inj e; have := hcl.out; omega))
        have G4 : Hid (w.grownBy (w3.setCell ⟨g, 0, none⟩ (.int .i64 x)) (some c)) := Lib.hid ⟨G3.out.os, G3.out.tape, G3.out.output, Nat.le_trans G3.out.size (by simp), fun i hi hne => (Below.heap_setCell w3 ⟨g, 0, none⟩ _ i (show i ≠ g by omega)).trans (G3.out.block i hi hne)⟩
        clear O3 C3 G3 hy
        go_wp2
        go_ret
        exact ⟨l.set 0 x, some ⟨g, 0, none⟩, cap, rfl, HS.out, O4.out, C4.out.mono (by omega), G4.out⟩
/-- a drawn program and a drawn context -/
def DrewPC (w : World) (e : Ending) (w' : World) : Prop :=
  ∃ (xs : List Stp) (l : List Int) (A B : Option Addr) (c1 c2 : Nat), e = .returned (.tuple #[.slice A xs.length c1, .slice B 8 c2]) ∧ (1 ≤ xs.length ∧ xs.length ≤ 20) ∧ l.length = 8 ∧ Lies w' A xs ∧ ILies w' B l ∧ Below w.heap.size w w'
set_option maxRecDepth 100000 in
set_option maxHeartbeats 2000000 in
theorem drawTrace_any (a0 : Option Addr) (len cap : Nat) (w : World) (h : Hid (Bytes w a0 len)) :
    Calls Tryd.prog 6 #[.slice a0 len cap] w (DrewPC w) := by
  go_enter Tryd.func6, Tryd.ntmps6
  go_wp2_with fail
  refine (program_any w.heap.size 0 _ (Cur.new h.out) (by omega)).mono ?_
  rintro e w1 ⟨xs, A, c1, rfl, hx, hc, ho, hg, hcl⟩
  have C1 := Lib.hid hc
  have O1 := Lib.hid ho
  have G1 := Lib.hid hg
  have HCL := Lib.hid hcl
  clear hc ho hg hcl
  go_wp2_with fail
  refine (ctx_any w.heap.size _ _ C1 (by omega)).mono ?_
  rintro e w2 ⟨l, B, c2, rfl, hl, ho2, hc2, hg2⟩
  have LI : Hid (Lies w2 A xs) := Lib.hid (own_lies' (kept_of O1.out hg2 (fun g hgb e => by have h1 := (O1.out.lt g hgb).1; have h2 := Option.some.inj e; simp at h1; omega)))
  have CI := Lib.hid (own_ilies ho2)
  have B2 := Lib.hid (below_new (grownC_trans G1.out hg2))
  clear ho2 hc2 hg2 C1 O1 G1
  go_wp2
  go_ret2
  exact ⟨xs, l, A, B, c1, c2, rfl, hx, hl, LI.out, CI.out, B2.out⟩
/-- a drawn program, a drawn context, and how much fuel there is -/
def DrewPCF (w : World) (e : Ending) (w' : World) : Prop :=
  ∃ (xs : List Stp) (l : List Int) (F : Int) (A B : Option Addr) (c1 c2 : Nat), e = .returned (.tuple #[.slice A xs.length c1, .slice B 8 c2, .int .i64 F]) ∧ (1 ≤ xs.length ∧ xs.length ≤ 20) ∧ l.length = 8 ∧ Lies w' A xs ∧ ILies w' B l ∧ Below w.heap.size w w'
set_option maxRecDepth 100000 in
set_option maxHeartbeats 2000000 in
theorem drawRun_any (a0 : Option Addr) (len cap : Nat) (w : World) (h : Hid (Bytes w a0 len)) :
    Calls Tryd.prog 14 #[.slice a0 len cap] w (DrewPCF w) := by
  go_enter Tryd.func14, Tryd.ntmps14
  go_wp2_with fail
  refine (program_any w.heap.size 0 _ (Cur.new h.out) (by omega)).mono ?_
  rintro e w1 ⟨xs, A, c1, rfl, hx, hc, ho, hg, hcl⟩
  have C1 := Lib.hid hc
  have O1 := Lib.hid ho
  have G1 := Lib.hid hg
  clear hc ho hg hcl
  go_wp2_with fail
  refine (ctx_any w.heap.size _ _ C1 (by omega)).mono ?_
  rintro e w2 ⟨l, B, c2, rfl, hl, ho2, hc2, hg2⟩
  have O2 := Lib.hid (kept_of O1.out hg2 (fun g hgb e => by have h1 := (O1.out.lt g hgb).1; have h2 := Option.some.inj e; simp at h1; omega))
  have I2 := Lib.hid ho2
  have Z1 := G1.out.size
  have G2 := Lib.hid (grownC_trans G1.out hg2)
  have hcw : w.heap.size < w2.heap.size := hc2.lt
  have BA := below1 w2 (.cells #[.int .i64 (-1), .int .i64 0, .int .i64 1, .int .i64 3, .int .i64 20, .int .i64 100, .int .i64 100, .int .i64 101] 3)
  have CA := Lib.hid (hc2.below BA)
  have OA := Lib.hid (own_below O2.out BA)
  have IA := Lib.hid (own_below I2.out BA)
  have GA := Lib.hid (grownC_trans G2.out (grown_of_below BA))
  have VC : Hid ([-1, 0, 1, 3, 20, 100, 100, 101].length = 8 ∧ ∀ i : Nat, i < 8 → (w2.alloc (.cells #[.int .i64 (-1), .int .i64 0, .int .i64 1, .int .i64 3, .int .i64 20, .int .i64 100, .int .i64 100, .int .i64 101] 3)).cell? ⟨w2.heap.size, i, none⟩ = some (.int .i64 (([-1, 0, 1, 3, 20, 100, 100, 101] : List Int)[i]?.getD 0))) := Lib.hid ⟨rfl, lit_cells w2 [-1, 0, 1, 3, 20, 100, 100, 101]⟩
  clear ho2 hc2 hg2 C1 O1 G1 BA O2 I2 G2
  go_wp2_with fail
  refine (among_any w.heap.size _ w2.heap.size 8 [-1, 0, 1, 3, 20, 100, 100, 101] _ CA (by omega) (by omega) (by omega) (by omega) VC).mono ?_
  rintro e w3 ⟨F, _, rfl, hc3, hg3⟩
  have LI : Hid (Lies w3 A xs) := Lib.hid (own_lies' (kept_of OA.out hg3 (fun g hgb e => by have h1 := (OA.out.lt g hgb).1; have h2 := Option.some.inj e; simp at h1; omega)))
  have CI := Lib.hid (own_ilies (ownR_read IA.out hg3 (by simp at Z1; omega)))
  have B3 := Lib.hid (below_new (grownC_trans GA.out hg3))
  clear hc3 hg3 CA OA IA GA VC
  go_wp2
  go_ret3
  exact ⟨xs, l, F, A, B, c1, c2, rfl, hx, hl, LI.out, CI.out, B3.out⟩

theorem doM_fault (x : Stp) (ctx : List Int) (m : Mch) : 0 ≤ (doM x ctx m).2.1 ∧ (doM x ctx m).2.1 ≤ 3 := by
  unfold doM
  repeat' split
  all_goals simp
/-- what a run of a valid program comes to -/
theorem run_facts {xs : List Stp} {ctx : List Int} (hG : Good xs) (hc : ctxB ctx = true) (N : Nat) : ∀ m : Mch, GoodM m → m.a < xs.length → (xs.length : Int) - m.a ≤ N →
    0 < (runM xs ctx N m).2.2.2.length ∧ ((runM xs ctx N m).2.2.2.length : Int) ≤ xs.length - m.a ∧ 0 ≤ (runM xs ctx N m).2.1 ∧ (runM xs ctx N m).2.1 ≤ 3 := by
  induction N with
  | zero => intro m hm h1 h2; omega
  | succ N ih =>
    intro m hm h1 h2
    have ha := hm.a
    obtain ⟨x, hx⟩ : ∃ x, xs[m.a.toNat]? = some x := ⟨_, List.getElem?_eq_getElem (by omega)⟩
    have hf := doM_fault x ctx m
    unfold runM
    rw [hx]
    simp only
    split
    · simp only [List.length_singleton]
      omega
    · rename_i hz
      split
      · simp only [List.length_singleton]
        omega
      · rename_i he
        obtain ⟨g1, g2, g3⟩ := next_good hG rfl hm hc hx (by simpa using hz) (by simpa using he)
        obtain ⟨i1, i2, i3, i4⟩ := ih (doM x ctx m).1 g1 g2 (by omega)
        simp only [List.length_cons]
        omega
/-- in the midst of a run that answers (r, f, at, t): behind i steps the machine is m -/
def RInv (xs : List Stp) (ctx : List Int) (Q : Int × Int × Int × List Int) (i : Nat) (m : Mch) : Prop :=
  i < Q.2.2.2.length → GoodM m ∧ m.a < xs.length ∧ ∃ N : Nat, (xs.length : Int) - m.a ≤ N ∧ runM xs ctx N m = (Q.1, Q.2.1, Q.2.2.1, Q.2.2.2.drop i)
/-- one step of it: which of three it is -/
theorem RInv.step {xs : List Stp} {ctx : List Int} {r f at_ : Int} {t : List Int} {i : Nat} {m : Mch} (h : RInv xs ctx (r, f, at_, t) i m) (hi : i < t.length) (hG : Good xs) (hc : ctxB ctx = true) :
    t[i]? = some m.a ∧ ∃ D, stepD true xs ctx m = D ∧ D.2.2.2 = true ∧
      ((D.2.1 = f ∧ 0 < f ∧ at_ = m.a ∧ D.2.2.1 = false ∧ t.length = i + 1) ∨
       (D.2.1 = 0 ∧ f = 0 ∧ D.2.2.1 = true ∧ t.length = i + 1 ∧ GoodM D.1 ∧ D.1.r[0]? = some r) ∨
       (D.2.1 = 0 ∧ D.2.2.1 = false ∧ i + 1 < t.length)) ∧ RInv xs ctx (r, f, at_, t) (i + 1) D.1 := by
  obtain ⟨hm, ha, N, hN, hr⟩ := h hi
  have ha0 := hm.a
  obtain ⟨x, hx⟩ : ∃ x, xs[m.a.toNat]? = some x := ⟨_, List.getElem?_eq_getElem (by omega)⟩
  obtain ⟨N', rfl⟩ : ∃ N', N = N' + 1 := ⟨N - 1, by omega⟩
  have hf := doM_fault x ctx m
  have hd : t.drop i = t[i] :: t.drop (i + 1) := List.drop_eq_getElem_cons hi
  have hD : stepD true xs ctx m = (if (doM x ctx m).2.1 = 0 then ((doM x ctx m).1, 0, (doM x ctx m).2.2, true) else (zeroM, (doM x ctx m).2.1, false, true)) := by
    unfold stepD
    rw [if_pos (by rw [hc, (goodM_iff m).2 hm]; simpa using ha), hx]
  simp only at hr
  unfold runM at hr
  rw [hx] at hr
  simp only at hr
  rw [hd] at hr
  by_cases hz : (doM x ctx m).2.1 = 0
  · rw [if_neg (by simpa using hz)] at hr
    rw [if_pos hz] at hD
    by_cases he : (doM x ctx m).2.2 = true
    · rw [if_pos he] at hr
      simp only [Prod.mk.injEq, List.cons.injEq] at hr
      obtain ⟨e1, e2, e3, e4, e5⟩ := hr
      have hlen : t.length = i + 1 := by have := congrArg List.length e5; simp at this; omega
      refine ⟨by rw [List.getElem?_eq_getElem hi, e4], _, hD, rfl, .inr (.inl ⟨rfl, e2.symm, he, hlen, ?_, ?_⟩), fun h => by simp only at h; omega⟩
      · have hk : x.k = 11 := by
          apply Classical.byContradiction
          intro hk
          unfold doM at he
          rw [if_neg hk] at he
          revert he
          repeat' split
          all_goals simp
        have : (doM x ctx m).1 = m := by unfold doM; rw [if_pos hk]
        simp only
        rw [this]
        exact hm
      · have hk : (doM x ctx m).1.r.length = 6 := (doM_lens hm.r hm.c hm.s x ctx).1
        simp only
        rw [← e1]
        simp [reg, List.getD, List.getElem?_eq_getElem (show 0 < (doM x ctx m).1.r.length by omega)]
    · rw [if_neg he] at hr
      have he' : (doM x ctx m).2.2 = false := by simpa using he
      obtain ⟨g1, g2, g3⟩ := next_good hG rfl hm hc hx hz he'
      obtain ⟨i1, i2, i3, i4⟩ := run_facts hG hc N' (doM x ctx m).1 g1 g2 (by omega)
      simp only [Prod.mk.injEq, List.cons.injEq] at hr
      obtain ⟨e1, e2, e3, e4, e5⟩ := hr
      have hlen : i + 1 < t.length := by have := congrArg List.length e5; rw [List.length_drop] at this; omega
      refine ⟨by rw [List.getElem?_eq_getElem hi, e4], _, hD, rfl, .inr (.inr ⟨rfl, he', hlen⟩), fun _ => ⟨g1, g2, N', by show (xs.length : Int) - (doM x ctx m).1.a ≤ N'; omega, ?_⟩⟩
      simp only
      rw [← e1, ← e2, ← e3, ← e5]
  · rw [if_pos (by simpa using hz)] at hr
    rw [if_neg hz] at hD
    simp only [Prod.mk.injEq, List.cons.injEq] at hr
    obtain ⟨e1, e2, e3, e4, e5⟩ := hr
    have hlen : t.length = i + 1 := by have := congrArg List.length e5; simp at this; omega
    refine ⟨by rw [List.getElem?_eq_getElem hi, e4], _, hD, rfl, .inl ⟨e2, by omega, e3.symm, rfl, hlen⟩, fun h => by simp only at h; omega⟩
theorem RInv.start {xs : List Stp} {ctx : List Int} (hG : Good xs) : RInv xs ctx (runM xs ctx 100 newM) 0 newM := fun _ =>
  ⟨newM_good, by have := hG.1; simp [newM]; omega, 100, by have := hG.1; simp [newM]; omega, by simp⟩

theorem runM_lenM (xs : List Stp) (ctx : List Int) (k : Nat) : ∀ m : Mch, (runM xs ctx k m).2.2.2.length ≤ k := by
  induction k with
  | zero => intro m; simp [runM]
  | succ k ih =>
    intro m
    unfold runM
    split
    · simp
    · rename_i x _
      split
      · simp
      · split
        · simp
        · have := ih (doM x ctx m).1
          simp only [List.length_cons]
          omega
theorem runR_lenM (g : Bool) (xs : List Stp) (ctx : List Int) (F : Int) (hF : F ≤ 100) : (runR g xs ctx F).1.2.2.2.length ≤ 100 := by
  unfold runR
  split
  · have := runM_lenM xs ctx F.toNat newM
    show (runM xs ctx F.toNat newM).2.2.2.length ≤ 100
    omega
  · simp
theorem stepD_lensM (g : Bool) (xs : List Stp) (ctx : List Int) (m : Mch) : (stepD g xs ctx m).1.r.length ≤ 16 ∧ (stepD g xs ctx m).1.c.length ≤ 16 ∧ (stepD g xs ctx m).1.s.length ≤ 16 := by
  unfold stepD
  split
  · rename_i h
    simp only [Bool.and_eq_true, decide_eq_true_eq] at h
    have GM := (goodM_iff m).1 h.1.2
    split
    · simp [zeroM]
    · split
      · have := doM_lens GM.r GM.c GM.s (by assumption) ctx
        simp only
        omega
      · simp [zeroM]
  · simp [zeroM]
theorem box_setM {W : World} {b : Nat} {v0 v1 v2 v3 : Value} (h : Blk W b 32 [v0, v1, v2, v3]) (u0 u1 u2 u3 : Value) : Blk ((((W.setCell ⟨b, 0, none⟩ u0).setCell ⟨b, 1, none⟩ u1).setCell ⟨b, 2, none⟩ u2).setCell ⟨b, 3, none⟩ u3) b 32 [u0, u1, u2, u3] :=
  (((h.set 0 u0).set 1 u1).set 2 u2).set 3 u3
theorem kept_set4M (W : World) (b : Nat) (u0 u1 u2 u3 : Value) : Kept W ((((W.setCell ⟨b, 0, none⟩ u0).setCell ⟨b, 1, none⟩ u1).setCell ⟨b, 2, none⟩ u2).setCell ⟨b, 3, none⟩ u3) (fun g => g = b) :=
  ((Kept.set.trans Kept.set).trans Kept.set).trans Kept.set
set_option maxRecDepth 100000 in
set_option maxHeartbeats 2000000 in
theorem sameIntsM (A B : Option Addr) (n c1 c2 : Nat) (l : List Int) (w : World) (hl : Hid (ILies w A l)) (hl2 : Hid (ILies w B l)) (hx : Hid (l.length = n)) (hn : n ≤ 10000000) :
    Calls Tryd.prog 9 #[.slice A n c1, .slice B n c2] w fun e w' => e = .returned (.bool true) ∧ Below w.heap.size w w' := by
  have hnn : ((n : Int) != (n : Int)) = false := by simp
  go_enter Tryd.func9, Tryd.ntmps9
  go_wp2_with fail
  go_loopw [13] (fun i wr => ∃ k : Nat, k ≤ n ∧ i = .int .i64 k ∧ Below w.heap.size w wr) (fun i _ => n - (intOf i).toNat)
  case atStart => exact ⟨0, Nat.zero_le _, rfl, Below.refl _ _⟩
  case round =>
    obtain ⟨k, hk, rfl, hb⟩ := hrel
    have B1 := Lib.hid hb
    clear hb
    by_cases hlt : k < n
    · obtain ⟨y, hy⟩ : ∃ y, l[k]? = some y := ⟨_, List.getElem?_eq_getElem (by have := hx.out; omega)⟩
      obtain ⟨b, off, rfl, hbl, hc⟩ := (hl.out.below B1.out) k y hy
      obtain ⟨b2, off2, rfl, hbl2, hc2⟩ := (hl2.out.below B1.out) k y hy
      clear hy
      have hyy : (y != y) = false := by simp
      go_wp2_with fail
      go_quiet (fail)
      go_wp2
      go_roundw
      case rel => exact ⟨k + 1, by omega, by go_num, bdrewN B1.out _⟩
      case measure => simp [intOf]; omega
    · obtain rfl : k = n := by omega
      go_wp2
      go_ret
      exact ⟨rfl, B1.out⟩
set_option maxRecDepth 100000 in
set_option maxHeartbeats 64000000 in
theorem lawMachine (a0 : Option Addr) (len0 cap0 : Nat) (a1 : Option Addr) (len1 cap1 : Nat) (w : World) (h0 : Hid (Bytes w a0 len0)) (h1 : Hid (Bytes w a1 len1)) (ht : Op.PowTab w) :
    Calls Tryd.prog 3 #[.slice a0 len0 cap0, .slice a1 len1 cap1] w fun e w' => e = .returned (.bool true) ∧ Below w.heap.size w w' := by
  have HT := Lib.hid ht
  clear ht
  by_cases hbig : (1048576 : Int) < wrap64 ((len0 : Int) + (len1 : Int))
  · go_enter Tryd.func3, Tryd.ntmps3
    go_wp2
    go_ret
    exact ⟨rfl, Below.refl _ _⟩
  have hdec : decide ((1048576 : Int) < wrap64 ((len0 : Int) + (len1 : Int))) = false := decide_eq_false hbig
  clear hbig
  go_enter Tryd.func3, Tryd.ntmps3
  go_wp2_with fail
  refine (drawTrace_any a0 len0 cap0 _ h0).mono ?_
  rintro e w1 ⟨xs, ctx, A, B, c1, c2, rfl, hx, hl, hlx, hlc, hb⟩
  have LX1 := Lib.hid hlx
  have LC1 := Lib.hid hlc
  have B1 := Lib.hid hb
  have Y1 := Lib.hid (h1.out.below hb)
  have HCX := Lib.hid hl
  clear hlx hlc hb h0 h1 hl
  obtain ⟨g, hg⟩ := good_bool xs
  have HG := Lib.hid hg
  clear hg
  obtain ⟨n, hn⟩ : ∃ n, xs.length = n := ⟨_, rfl⟩
  rw [hn] at hx ⊢
  have HX := Lib.hid hn
  clear hn
  obtain ⟨Q, hQ⟩ : ∃ q, runR g xs ctx 100 = q := ⟨_, rfl⟩
  have HQ := Lib.hid hQ
  have TLE : Hid (Q.1.2.2.2.length ≤ 100) := Lib.hid (by rw [← hQ]; exact runR_lenM g xs ctx 100 (by omega))
  clear hQ
  obtain ⟨⟨r, f, at_, t⟩, ok⟩ := Q
  simp only at TLE
  obtain ⟨tn, htn⟩ : ∃ n, t.length = n := ⟨_, rfl⟩
  have ht100 : tn ≤ 100 := by have := TLE.out; omega
  have HTN := Lib.hid htn
  clear htn TLE
  go_wp2_with fail
  refine (implTrace_any _ _ _ xs _ _ _ ctx g _ HG LX1 HX (by omega) LC1 HCX (by omega) (Lib.hid (powTab_below HT.out B1.out))).mono ?_
  rw [HQ.out]
  simp only
  rintro e w2 ⟨At, ct, rfl, ho2, hb2⟩
  have T2 := Lib.hid (own_ilies ho2)
  have LX2 := Lib.hid (LX1.out.below hb2)
  have LC2 := Lib.hid (LC1.out.below hb2)
  have Y2 := Lib.hid (Y1.out.below hb2)
  have B2 := Lib.hid (Below.tr B1.out hb2)
  clear ho2 hb2 LX1 LC1 Y1 B1
  rw [HTN.out]
  go_wp2_with fail
  refine (specTrace_any _ _ _ xs _ _ _ ctx g _ HG LX2 HX (by omega) LC2 HCX (by omega)).mono ?_
  rw [HQ.out]
  simp only
  rintro e w3 ⟨As, cs, rfl, ho3, hb3⟩
  have S3 := Lib.hid (own_ilies ho3)
  have T3 := Lib.hid (T2.out.below hb3)
  have LX3 := Lib.hid (LX2.out.below hb3)
  have LC3 := Lib.hid (LC2.out.below hb3)
  have Y3 := Lib.hid (Y2.out.below hb3)
  have B3 := Lib.hid (Below.tr B2.out hb3)
  clear ho3 hb3 T2 LX2 LC2 Y2 B2
  rw [HTN.out]
  have e1 : (ok != ok) = false := by simp
  have e2 : (f != f) = false := by simp
  go_wp2_with fail
  refine (sameIntsM _ _ _ _ _ t _ T3 S3 HTN (by omega)).mono ?_
  rintro e w4 ⟨rfl, hb4⟩
  have T4 := Lib.hid (T3.out.below hb4)
  have LX4 := Lib.hid (LX3.out.below hb4)
  have LC4 := Lib.hid (LC3.out.below hb4)
  have Y4 := Lib.hid (Y3.out.below hb4)
  have B4 := Lib.hid (Below.tr B3.out hb4)
  clear hb4 T3 S3 LX3 LC3 Y3 B3
  cases ok
  · go_wp2_with fail
    refine (drawRun_any a1 len1 cap1 _ Y4).mono ?_
    rintro e wa ⟨ys, cy, F, Ay, By, d1, d2, rfl, hxy, hly, hlyx, hlyc, hba⟩
    have LY1 := Lib.hid hlyx
    have CY1 := Lib.hid hlyc
    have BA1 := Lib.hid (Below.tr B4.out hba)
    have HCY := Lib.hid hly
    clear hlyx hlyc hba hly
    obtain ⟨gy, hgy⟩ := good_bool ys
    have HGY := Lib.hid hgy
    clear hgy
    obtain ⟨ny, hny⟩ : ∃ n, ys.length = n := ⟨_, rfl⟩
    rw [hny] at hxy ⊢
    have HXY := Lib.hid hny
    clear hny
    obtain ⟨QY, hQY⟩ : ∃ q, runR gy ys cy F = q := ⟨_, rfl⟩
    have HQY := Lib.hid hQY
    clear hQY
    obtain ⟨⟨ry, fy, aty, ty⟩, oky⟩ := QY
    have y1 : (oky == oky) = true := by simp
    have y2 : (ry == ry) = true := by simp
    have y3 : (fy == fy) = true := by simp
    have y4 : (aty == aty) = true := by simp
    go_wp2_with fail
    refine (implRun_any _ _ _ ys _ _ _ cy F gy _ HGY LY1 HXY (by omega) CY1 HCY (by omega) (Lib.hid (powTab_below HT.out BA1.out))).mono ?_
    rw [HQY.out]
    rintro e wb ⟨rfl, hbb⟩
    have LY2 := Lib.hid (LY1.out.below hbb)
    have CY2 := Lib.hid (CY1.out.below hbb)
    have BA2 := Lib.hid (Below.tr BA1.out hbb)
    clear hbb LY1 CY1 BA1
    go_wp2_with fail
    refine (specRun_any _ _ _ ys _ _ _ cy F gy _ HGY LY2 HXY (by omega) CY2 HCY (by omega)).mono ?_
    rw [HQY.out]
    rintro e wc ⟨rfl, hbc⟩
    have BA3 := Lib.hid (Below.tr BA2.out hbc)
    clear hbc LY2 CY2 BA2
    go_wp2
    go_ret
    exact ⟨rfl, BA3.out⟩
  · have hgc : g = true ∧ ctxB ctx = true ∧ runM xs ctx 100 newM = (r, f, at_, t) := by
      have h := HQ.out
      unfold runR at h
      split at h
      · rename_i hc
        simp only [Bool.and_eq_true] at hc
        simp only [Prod.mk.injEq, and_true] at h
        refine ⟨hc.1.1, hc.1.2, ?_⟩
        have e100 : (100 : Int).toNat = 100 := rfl
        rw [e100] at h
        exact h
      · simp at h
    obtain ⟨hgt, hct, hrun⟩ := hgc
    subst hgt
    have GX := Lib.hid (HG.out.1 rfl)
    have CX := Lib.hid hct
    have RF := run_facts (HG.out.1 rfl) hct 100 newM newM_good (by have := (HG.out.1 rfl).1; simp [newM]; omega) (by have := (HG.out.1 rfl).1; simp [newM]; omega)
    rw [hrun] at RF
    have RI : Hid (RInv xs ctx (r, f, at_, t) 0 newM) := Lib.hid (by have := RInv.start (ctx := ctx) (HG.out.1 rfl); rw [hrun] at this; exact this)
    simp only at RF
    rw [HTN.out, HX.out] at RF
    obtain ⟨rf1, rf2, rf3, rf4⟩ := RF
    have hna : newM.a = 0 := rfl
    rw [hna] at rf2
    have htn : tn ≤ n := by omega
    clear hct hrun hna
    by_cases hf0 : f = 0
    · subst hf0
      go_wp2_with fail
      refine (implNewM_any _).mono ?_
      rintro e w5 ⟨g1, g2, g3, rfl, hm5, -, hb5⟩
      have M5 := Lib.hid hm5
      have T5 := Lib.hid (T4.out.below hb5)
      have LX5 := Lib.hid (LX4.out.below hb5)
      have LC5 := Lib.hid (LC4.out.below hb5)
      have Y5 := Lib.hid (Y4.out.below hb5)
      have B5 := Lib.hid (Below.tr B4.out hb5)
      clear hm5 hb5 T4 LX4 LC4 Y4 B4
      go_wp2_with fail
      have hb := below1 w5 (.cells #[.int .i64 0, .slice (some ⟨g1, 0, none⟩) 6 6, .slice (some ⟨g2, 0, none⟩) 16 16, .slice (some ⟨g3, 0, none⟩) 16 16] 32)
      have KM6 : Hid (Blk (w5.alloc (.cells #[.int .i64 0, .slice (some ⟨g1, 0, none⟩) 6 6, .slice (some ⟨g2, 0, none⟩) 16 16, .slice (some ⟨g3, 0, none⟩) 16 16] 32)) w5.heap.size 32 [.int .i64 0, .slice (some ⟨g1, 0, none⟩) 6 6, .slice (some ⟨g2, 0, none⟩) 16 16, .slice (some ⟨g3, 0, none⟩) 16 16]) := Lib.hid (heap_alloc_new w5 _)
      have M6 := Lib.hid (M5.out.below hb)
      have BQ6 : Hid (Below w5.heap.size w5 (w5.alloc (.cells #[.int .i64 0, .slice (some ⟨g1, 0, none⟩) 6 6, .slice (some ⟨g2, 0, none⟩) 16 16, .slice (some ⟨g3, 0, none⟩) 16 16] 32))) := Lib.hid hb
      have hbm : w.heap.size ≤ w5.heap.size := B5.out.size
      clear hb M5
      generalize w5.alloc (.cells #[.int .i64 0, .slice (some ⟨g1, 0, none⟩) 6 6, .slice (some ⟨g2, 0, none⟩) 16 16, .slice (some ⟨g3, 0, none⟩) 16 16] 32) = w6 at KM6 M6 BQ6 ⊢
      refine (implRun_any _ _ _ xs _ _ _ ctx 100 true _ (Lib.hid ⟨fun _ => GX.out, fun _ => rfl⟩) (Lib.hid (LX5.out.below BQ6.out)) HX (by omega) (Lib.hid (LC5.out.below BQ6.out)) HCX (by omega) (Lib.hid (powTab_below HT.out (Below.tr B5.out BQ6.out)))).mono ?_
      rw [HQ.out]
      rintro e w7 ⟨rfl, hb⟩
      have KM7 := Lib.hid (KM6.out.below hb)
      have M7 := Lib.hid (M6.out.below hb)
      have BQ7 := Lib.hid (Below.tr BQ6.out hb)
      clear hb KM6 M6 BQ6
      have z1 : ((true && ((0 : Int) == 0)) != ((0 : Int) == 0)) = false := by first | (simp; done) | (simp; omega) | rfl
      have z2 : decide ((tn : Int) > (n : Int)) = false := by simp; omega
      have z3 : decide (n < tn) = false := by simp; omega
      have z4 : ((0 : Int) == 4) = false := by first | (simp; done) | (simp; omega) | rfl
      have z5 : (((0 : Int) == 0) != ((0 : Int) == 0)) = false := by first | (simp; done) | (simp; omega) | rfl
      go_wp2_with fail
      refine (implFree_any _ _ _ xs _ _ _ ctx true _ (Lib.hid ⟨fun _ => GX.out, fun _ => rfl⟩) (Lib.hid (LX5.out.below BQ7.out)) HX (by omega) (Lib.hid (LC5.out.below BQ7.out)) HCX (by omega) (Lib.hid (powTab_below HT.out (Below.tr B5.out BQ7.out)))).mono ?_
      rw [HQ.out]
      simp only [Bool.true_and]
      rintro e w8 ⟨rfl, hb⟩
      have KM8 := Lib.hid (KM7.out.below hb)
      have M8 := Lib.hid (M7.out.below hb)
      have BQ8 := Lib.hid (Below.tr BQ7.out hb)
      clear hb KM7 M7 BQ7
      go_wp2_with fail
      obtain ⟨bm, hbm2⟩ : ∃ q, w5.heap.size = q := ⟨_, rfl⟩
      rw [hbm2] at KM8 ⊢
      go_loopw [123] (fun i wr => ∃ (k : Nat) (m : Mch) (a : Int) (U1 U2 U3 : Option Addr) (l1 l2 l3 k1 k2 k3 : Nat), k ≤ tn ∧ i = .int .i64 k ∧ m.a = a ∧ RInv xs ctx (r, 0, at_, t) k m ∧ Blk wr bm 32 [.int .i64 a, .slice U1 l1 k1, .slice U2 l2 k2, .slice U3 l3 k3] ∧ MLies wr U1 U2 U3 m ∧ Lens m l1 l2 l3 ∧ (l1 ≤ 16 ∧ l2 ≤ 16 ∧ l3 ≤ 16) ∧ Below w5.heap.size w5 wr) (fun i _ => tn - (intOf i).toNat)
      case atStart => exact ⟨0, newM, 0, some ⟨g1, 0, none⟩, some ⟨g2, 0, none⟩, some ⟨g3, 0, none⟩, 6, 16, 16, 6, 16, 16, Nat.zero_le _, rfl, rfl, RI.out, KM8.out, M8.out.lies, ⟨rfl, rfl, rfl⟩, by omega, BQ8.out⟩
      case round =>
        clear KM8 M8 BQ8 RI
        obtain ⟨k, m, a, U1, U2, U3, l1, l2, l3, k1, k2, k3, hk, rfl, hma, hri, hkm, hml, hle, hls, hbq⟩ := hrel
        have RW := Lib.hid hri
        have KM := Lib.hid hkm
        have ML := Lib.hid hml
        have LE := Lib.hid hle
        have MA := Lib.hid hma
        have BQ := Lib.hid hbq
        have hbl : bm < wr.heap.size := hkm.lt
        clear hri hkm hml hle hma hbq
        by_cases hlt : k < tn
        · obtain ⟨htk, D, hD, hok, hcase, hnext⟩ := RW.out.step (by rw [HTN.out]; exact hlt) GX.out CX.out
          obtain ⟨M, fl, en, ok2⟩ := D
          simp only at hok hcase hnext
          subst hok
          rw [MA.out] at htk hcase
          rw [HTN.out] at hcase
          obtain ⟨b5, off5, hA5, hbl5, ha5⟩ := (T5.out.below BQ.out) k _ htk
          have HD := Lib.hid hD
          have RN := Lib.hid hnext
          have HML : Hid (M.r.length ≤ 16 ∧ M.c.length ≤ 16 ∧ M.s.length ≤ 16) := Lib.hid (by have := stepD_lensM true xs ctx m; rw [hD] at this; exact this)
          clear htk hD hnext
          subst hA5
          obtain ⟨da, hda⟩ : ∃ q, M.a = q := ⟨_, rfl⟩
          obtain ⟨m1, hm1⟩ : ∃ q, M.r.length = q := ⟨_, rfl⟩
          obtain ⟨m2, hm2⟩ : ∃ q, M.c.length = q := ⟨_, rfl⟩
          obtain ⟨m3, hm3⟩ : ∃ q, M.s.length = q := ⟨_, rfl⟩
          have NL : Hid (Lens M m1 m2 m3) := Lib.hid ⟨hm1, hm2, hm3⟩
          have hms : m1 ≤ 16 ∧ m2 ≤ 16 ∧ m3 ≤ 16 := by have h := HML.out; rw [hm1, hm2, hm3] at h; exact h
          have NA := Lib.hid hda
          have GDX : Hid (∀ (w : World) e w', GaveD w (M, fl, en, true) e w' → ∃ V1 V2 V3 j1 j2 j3, e = .returned (.tuple #[.agg #[.int .i64 da, .slice V1 m1 j1, .slice V2 m2 j2, .slice V3 m3 j3], .int .i64 fl, .bool en, .bool true]) ∧ RowsM w' w.heap.size V1 V2 V3 m1 m2 m3 j1 j2 j3 M ∧ Below w.heap.size w w') := Lib.hid (by
            rintro w e w' ⟨V1, V2, V3, j1, j2, j3, rfl, hr, hb⟩
            simp only [hda, hm1, hm2, hm3] at hr ⊢
            exact ⟨V1, V2, V3, j1, j2, j3, rfl, hr, hb⟩)
          clear hda hm1 hm2 hm3 HML
          have x0 : wr.cell? ⟨bm, 0, none⟩ = some (.int .i64 a) := KM.out.there rfl
          have x1 : wr.cell? ⟨bm, 1, none⟩ = some (.slice U1 l1 k1) := KM.out.there rfl
          have x2 : wr.cell? ⟨bm, 2, none⟩ = some (.slice U2 l2 k2) := KM.out.there rfl
          have x3 : wr.cell? ⟨bm, 3, none⟩ = some (.slice U3 l3 k3) := KM.out.there rfl
          go_wp2_with fail
          refine (implD_any _ _ _ xs _ _ _ ctx a _ _ _ l1 l2 l3 _ _ _ m true _ (Lib.hid ⟨fun _ => GX.out, fun _ => rfl⟩) (Lib.hid (LX5.out.below BQ.out)) HX (by omega) (Lib.hid (LC5.out.below BQ.out)) HCX (by omega) MA ML LE (by omega) (by omega) (by omega) (Lib.hid (powTab_below HT.out (Below.tr B5.out BQ.out)))).mono ?_
          rw [HD.out]
          intro e w7 hgd
          obtain ⟨V1, V2, V3, j1, j2, j3, rfl, hrw, hb⟩ := GDX.out _ _ _ hgd
          have RX := Lib.hid hrw
          have KM7 := Lib.hid (KM.out.below hb)
          have BQ7 := Lib.hid (Below.tr BQ.out hb)
          have hsz := hb.size
          clear hgd hrw hb x0 x1 x2 x3 KM BQ GDX
          have x0 : w7.cell? ⟨bm, 0, none⟩ = some (.int .i64 a) := KM7.out.there rfl
          have y0 := KM7.out.frozen 0
          have x1 : w7.cell? ⟨bm, 1, none⟩ = some (.slice U1 l1 k1) := KM7.out.there rfl
          have y1 := KM7.out.frozen 1
          have x2 : w7.cell? ⟨bm, 2, none⟩ = some (.slice U2 l2 k2) := KM7.out.there rfl
          have y2 := KM7.out.frozen 2
          have x3 : w7.cell? ⟨bm, 3, none⟩ = some (.slice U3 l3 k3) := KM7.out.there rfl
          have y3 := KM7.out.frozen 3
          have hb7 : bm < w7.heap.size := KM7.out.lt
          have haa : (a != a) = false := by simp
          have KM8 := Lib.hid ((box_setM KM7.out (.int .i64 da) (.slice V1 m1 j1) (.slice V2 m2 j2) (.slice V3 m3 j3)).below (below1 _ (.cells #[.int .i64 da, .slice V1 m1 j1, .slice V2 m2 j2, .slice V3 m3 j3] 32)))
          have ML8 := Lib.hid ((RX.out.kept (kept_set4M _ bm (.int .i64 da) (.slice V1 m1 j1) (.slice V2 m2 j2) (.slice V3 m3 j3)) (fun g hg e => by have := (RX.out.ge hg).1; omega)).below (below1 _ (.cells #[.int .i64 da, .slice V1 m1 j1, .slice V2 m2 j2, .slice V3 m3 j3] 32))).lies
          have BQ8 := Lib.hid (Below.tr ((((BQ7.out.setCell (p := ⟨bm, 0, none⟩) (by show w5.heap.size ≤ bm; omega) (.int .i64 da)).setCell (p := ⟨bm, 1, none⟩) (by show w5.heap.size ≤ bm; omega) (.slice V1 m1 j1)).setCell (p := ⟨bm, 2, none⟩) (by show w5.heap.size ≤ bm; omega) (.slice V2 m2 j2)).setCell (p := ⟨bm, 3, none⟩) (by show w5.heap.size ≤ bm; omega) (.slice V3 m3 j3)) (below1 _ (.cells #[.int .i64 da, .slice V1 m1 j1, .slice V2 m2 j2, .slice V3 m3 j3] 32)))
          rcases hcase with ⟨c1', c2', c3', c4', c5'⟩ | ⟨c1', c2', c3', c4', c5', c6'⟩ | ⟨c1', c2', c3'⟩
          · exfalso
            omega
          · have q1 : ((k : Int) == (tn : Int) - 1) = true := by simp; omega
            have C4 := Lib.hid c4'
            have hm6 : m1 = 6 := by rw [← NL.out.1]; exact c5'.r
            clear c4'
            subst c1' c3' hm6
            obtain ⟨gq, cq, hvq, hbq2, hgq⟩ := RX.out.r.form (by omega)
            have hV : V1 = some ⟨gq, 0, none⟩ := by injection hvq
            have hcr : w7.cell? ⟨gq, 0, none⟩ = some (.int .i64 r) := own_cell (by have := RX.out.r; rw [hV] at this; exact this) (by rw [List.getElem?_map, c6']; rfl)
            clear hvq c5' c6'
            subst hV
            have hrr : (r != r) = false := by simp
            go_wp2_with fail
            go_roundw
            case rel => exact ⟨k + 1, M, da, some ⟨gq, 0, none⟩, V2, V3, 6, m2, m3, j1, j2, j3, by omega, by go_num, NA.out, RN.out, KM8.out, ML8.out, NL.out, hms, BQ8.out⟩
            case measure => simp [intOf]; omega
          · have q1 : ((k : Int) == (tn : Int) - 1) = false := by simp; omega
            have C3 := Lib.hid c3'
            clear c3'
            subst c1' c2'
            go_wp2_with fail
            go_roundw
            case rel => exact ⟨k + 1, M, da, V1, V2, V3, m1, m2, m3, j1, j2, j3, by omega, by go_num, NA.out, RN.out, KM8.out, ML8.out, NL.out, hms, BQ8.out⟩
            case measure => simp [intOf]; omega
        · obtain rfl : k = tn := by omega
          have Y9 := Lib.hid (Y5.out.below BQ.out)
          have B9 := Lib.hid (Below.tr B5.out BQ.out)
          go_wp2_with fail
          refine (drawRun_any a1 len1 cap1 _ Y9).mono ?_
          rintro e wa ⟨ys, cy, F, Ay, By, d1, d2, rfl, hxy, hly, hlyx, hlyc, hba⟩
          have LY1 := Lib.hid hlyx
          have CY1 := Lib.hid hlyc
          have BA1 := Lib.hid (Below.tr B9.out hba)
          have HCY := Lib.hid hly
          clear hlyx hlyc hba hly
          obtain ⟨gy, hgy⟩ := good_bool ys
          have HGY := Lib.hid hgy
          clear hgy
          obtain ⟨ny, hny⟩ : ∃ n, ys.length = n := ⟨_, rfl⟩
          rw [hny] at hxy ⊢
          have HXY := Lib.hid hny
          clear hny
          obtain ⟨QY, hQY⟩ : ∃ q, runR gy ys cy F = q := ⟨_, rfl⟩
          have HQY := Lib.hid hQY
          clear hQY
          obtain ⟨⟨ry, fy, aty, ty⟩, oky⟩ := QY
          have y1 : (oky == oky) = true := by simp
          have y2 : (ry == ry) = true := by simp
          have y3 : (fy == fy) = true := by simp
          have y4 : (aty == aty) = true := by simp
          go_wp2_with fail
          refine (implRun_any _ _ _ ys _ _ _ cy F gy _ HGY LY1 HXY (by omega) CY1 HCY (by omega) (Lib.hid (powTab_below HT.out BA1.out))).mono ?_
          rw [HQY.out]
          rintro e wb ⟨rfl, hbb⟩
          have LY2 := Lib.hid (LY1.out.below hbb)
          have CY2 := Lib.hid (CY1.out.below hbb)
          have BA2 := Lib.hid (Below.tr BA1.out hbb)
          clear hbb LY1 CY1 BA1
          go_wp2_with fail
          refine (specRun_any _ _ _ ys _ _ _ cy F gy _ HGY LY2 HXY (by omega) CY2 HCY (by omega)).mono ?_
          rw [HQY.out]
          rintro e wc ⟨rfl, hbc⟩
          have BA3 := Lib.hid (Below.tr BA2.out hbc)
          clear hbc LY2 CY2 BA2
          go_wp2
          go_ret
          exact ⟨rfl, BA3.out⟩
    · have q2 : (f == 0) = false := by simpa using hf0
      go_wp2_with fail
      refine (implNewM_any _).mono ?_
      rintro e w5 ⟨g1, g2, g3, rfl, hm5, -, hb5⟩
      have M5 := Lib.hid hm5
      have T5 := Lib.hid (T4.out.below hb5)
      have LX5 := Lib.hid (LX4.out.below hb5)
      have LC5 := Lib.hid (LC4.out.below hb5)
      have Y5 := Lib.hid (Y4.out.below hb5)
      have B5 := Lib.hid (Below.tr B4.out hb5)
      clear hm5 hb5 T4 LX4 LC4 Y4 B4
      go_wp2_with fail
      have hb := below1 w5 (.cells #[.int .i64 0, .slice (some ⟨g1, 0, none⟩) 6 6, .slice (some ⟨g2, 0, none⟩) 16 16, .slice (some ⟨g3, 0, none⟩) 16 16] 32)
      have KM6 : Hid (Blk (w5.alloc (.cells #[.int .i64 0, .slice (some ⟨g1, 0, none⟩) 6 6, .slice (some ⟨g2, 0, none⟩) 16 16, .slice (some ⟨g3, 0, none⟩) 16 16] 32)) w5.heap.size 32 [.int .i64 0, .slice (some ⟨g1, 0, none⟩) 6 6, .slice (some ⟨g2, 0, none⟩) 16 16, .slice (some ⟨g3, 0, none⟩) 16 16]) := Lib.hid (heap_alloc_new w5 _)
      have M6 := Lib.hid (M5.out.below hb)
      have BQ6 : Hid (Below w5.heap.size w5 (w5.alloc (.cells #[.int .i64 0, .slice (some ⟨g1, 0, none⟩) 6 6, .slice (some ⟨g2, 0, none⟩) 16 16, .slice (some ⟨g3, 0, none⟩) 16 16] 32))) := Lib.hid hb
      have hbm : w.heap.size ≤ w5.heap.size := B5.out.size
      clear hb M5
      generalize w5.alloc (.cells #[.int .i64 0, .slice (some ⟨g1, 0, none⟩) 6 6, .slice (some ⟨g2, 0, none⟩) 16 16, .slice (some ⟨g3, 0, none⟩) 16 16] 32) = w6 at KM6 M6 BQ6 ⊢
      refine (implRun_any _ _ _ xs _ _ _ ctx 100 true _ (Lib.hid ⟨fun _ => GX.out, fun _ => rfl⟩) (Lib.hid (LX5.out.below BQ6.out)) HX (by omega) (Lib.hid (LC5.out.below BQ6.out)) HCX (by omega) (Lib.hid (powTab_below HT.out (Below.tr B5.out BQ6.out)))).mono ?_
      rw [HQ.out]
      rintro e w7 ⟨rfl, hb⟩
      have KM7 := Lib.hid (KM6.out.below hb)
      have M7 := Lib.hid (M6.out.below hb)
      have BQ7 := Lib.hid (Below.tr BQ6.out hb)
      clear hb KM6 M6 BQ6
      have z1 : ((true && (f == 0)) != (f == 0)) = false := by simp
      have z2 : decide ((tn : Int) > (n : Int)) = false := by simp; omega
      have z3 : decide (n < tn) = false := by simp; omega
      have z4 : (f == 4) = false := by simp; omega
      have z5 : ((f == 0) != (f == 0)) = false := by simp
      go_wp2_with fail
      refine (implFree_any _ _ _ xs _ _ _ ctx true _ (Lib.hid ⟨fun _ => GX.out, fun _ => rfl⟩) (Lib.hid (LX5.out.below BQ7.out)) HX (by omega) (Lib.hid (LC5.out.below BQ7.out)) HCX (by omega) (Lib.hid (powTab_below HT.out (Below.tr B5.out BQ7.out)))).mono ?_
      rw [HQ.out]
      simp only [Bool.true_and]
      rintro e w8 ⟨rfl, hb⟩
      have KM8 := Lib.hid (KM7.out.below hb)
      have M8 := Lib.hid (M7.out.below hb)
      have BQ8 := Lib.hid (Below.tr BQ7.out hb)
      clear hb KM7 M7 BQ7
      go_wp2_with fail
      obtain ⟨bm, hbm2⟩ : ∃ q, w5.heap.size = q := ⟨_, rfl⟩
      rw [hbm2] at KM8 ⊢
      go_loopw [123] (fun i wr => ∃ (k : Nat) (m : Mch) (a : Int) (U1 U2 U3 : Option Addr) (l1 l2 l3 k1 k2 k3 : Nat), k ≤ tn ∧ i = .int .i64 k ∧ m.a = a ∧ RInv xs ctx (r, f, at_, t) k m ∧ Blk wr bm 32 [.int .i64 a, .slice U1 l1 k1, .slice U2 l2 k2, .slice U3 l3 k3] ∧ MLies wr U1 U2 U3 m ∧ Lens m l1 l2 l3 ∧ (l1 ≤ 16 ∧ l2 ≤ 16 ∧ l3 ≤ 16) ∧ Below w5.heap.size w5 wr) (fun i _ => tn - (intOf i).toNat)
      case atStart => exact ⟨0, newM, 0, some ⟨g1, 0, none⟩, some ⟨g2, 0, none⟩, some ⟨g3, 0, none⟩, 6, 16, 16, 6, 16, 16, Nat.zero_le _, rfl, rfl, RI.out, KM8.out, M8.out.lies, ⟨rfl, rfl, rfl⟩, by omega, BQ8.out⟩
      case round =>
        clear KM8 M8 BQ8 RI
        obtain ⟨k, m, a, U1, U2, U3, l1, l2, l3, k1, k2, k3, hk, rfl, hma, hri, hkm, hml, hle, hls, hbq⟩ := hrel
        have RW := Lib.hid hri
        have KM := Lib.hid hkm
        have ML := Lib.hid hml
        have LE := Lib.hid hle
        have MA := Lib.hid hma
        have BQ := Lib.hid hbq
        have hbl : bm < wr.heap.size := hkm.lt
        clear hri hkm hml hle hma hbq
        by_cases hlt : k < tn
        · obtain ⟨htk, D, hD, hok, hcase, hnext⟩ := RW.out.step (by rw [HTN.out]; exact hlt) GX.out CX.out
          obtain ⟨M, fl, en, ok2⟩ := D
          simp only at hok hcase hnext
          subst hok
          rw [MA.out] at htk hcase
          rw [HTN.out] at hcase
          obtain ⟨b5, off5, hA5, hbl5, ha5⟩ := (T5.out.below BQ.out) k _ htk
          have HD := Lib.hid hD
          have RN := Lib.hid hnext
          have HML : Hid (M.r.length ≤ 16 ∧ M.c.length ≤ 16 ∧ M.s.length ≤ 16) := Lib.hid (by have := stepD_lensM true xs ctx m; rw [hD] at this; exact this)
          clear htk hD hnext
          subst hA5
          obtain ⟨da, hda⟩ : ∃ q, M.a = q := ⟨_, rfl⟩
          obtain ⟨m1, hm1⟩ : ∃ q, M.r.length = q := ⟨_, rfl⟩
          obtain ⟨m2, hm2⟩ : ∃ q, M.c.length = q := ⟨_, rfl⟩
          obtain ⟨m3, hm3⟩ : ∃ q, M.s.length = q := ⟨_, rfl⟩
          have NL : Hid (Lens M m1 m2 m3) := Lib.hid ⟨hm1, hm2, hm3⟩
          have hms : m1 ≤ 16 ∧ m2 ≤ 16 ∧ m3 ≤ 16 := by have h := HML.out; rw [hm1, hm2, hm3] at h; exact h
          have NA := Lib.hid hda
          have GDX : Hid (∀ (w : World) e w', GaveD w (M, fl, en, true) e w' → ∃ V1 V2 V3 j1 j2 j3, e = .returned (.tuple #[.agg #[.int .i64 da, .slice V1 m1 j1, .slice V2 m2 j2, .slice V3 m3 j3], .int .i64 fl, .bool en, .bool true]) ∧ RowsM w' w.heap.size V1 V2 V3 m1 m2 m3 j1 j2 j3 M ∧ Below w.heap.size w w') := Lib.hid (by
            rintro w e w' ⟨V1, V2, V3, j1, j2, j3, rfl, hr, hb⟩
            simp only [hda, hm1, hm2, hm3] at hr ⊢
            exact ⟨V1, V2, V3, j1, j2, j3, rfl, hr, hb⟩)
          clear hda hm1 hm2 hm3 HML
          have x0 : wr.cell? ⟨bm, 0, none⟩ = some (.int .i64 a) := KM.out.there rfl
          have x1 : wr.cell? ⟨bm, 1, none⟩ = some (.slice U1 l1 k1) := KM.out.there rfl
          have x2 : wr.cell? ⟨bm, 2, none⟩ = some (.slice U2 l2 k2) := KM.out.there rfl
          have x3 : wr.cell? ⟨bm, 3, none⟩ = some (.slice U3 l3 k3) := KM.out.there rfl
          go_wp2_with fail
          refine (implD_any _ _ _ xs _ _ _ ctx a _ _ _ l1 l2 l3 _ _ _ m true _ (Lib.hid ⟨fun _ => GX.out, fun _ => rfl⟩) (Lib.hid (LX5.out.below BQ.out)) HX (by omega) (Lib.hid (LC5.out.below BQ.out)) HCX (by omega) MA ML LE (by omega) (by omega) (by omega) (Lib.hid (powTab_below HT.out (Below.tr B5.out BQ.out)))).mono ?_
          rw [HD.out]
          intro e w7 hgd
          obtain ⟨V1, V2, V3, j1, j2, j3, rfl, hrw, hb⟩ := GDX.out _ _ _ hgd
          have RX := Lib.hid hrw
          have KM7 := Lib.hid (KM.out.below hb)
          have BQ7 := Lib.hid (Below.tr BQ.out hb)
          have hsz := hb.size
          clear hgd hrw hb x0 x1 x2 x3 KM BQ GDX
          have x0 : w7.cell? ⟨bm, 0, none⟩ = some (.int .i64 a) := KM7.out.there rfl
          have y0 := KM7.out.frozen 0
          have x1 : w7.cell? ⟨bm, 1, none⟩ = some (.slice U1 l1 k1) := KM7.out.there rfl
          have y1 := KM7.out.frozen 1
          have x2 : w7.cell? ⟨bm, 2, none⟩ = some (.slice U2 l2 k2) := KM7.out.there rfl
          have y2 := KM7.out.frozen 2
          have x3 : w7.cell? ⟨bm, 3, none⟩ = some (.slice U3 l3 k3) := KM7.out.there rfl
          have y3 := KM7.out.frozen 3
          have hb7 : bm < w7.heap.size := KM7.out.lt
          have haa : (a != a) = false := by simp
          have KM8 := Lib.hid ((box_setM KM7.out (.int .i64 da) (.slice V1 m1 j1) (.slice V2 m2 j2) (.slice V3 m3 j3)).below (below1 _ (.cells #[.int .i64 da, .slice V1 m1 j1, .slice V2 m2 j2, .slice V3 m3 j3] 32)))
          have ML8 := Lib.hid ((RX.out.kept (kept_set4M _ bm (.int .i64 da) (.slice V1 m1 j1) (.slice V2 m2 j2) (.slice V3 m3 j3)) (fun g hg e => by have := (RX.out.ge hg).1; omega)).below (below1 _ (.cells #[.int .i64 da, .slice V1 m1 j1, .slice V2 m2 j2, .slice V3 m3 j3] 32))).lies
          have BQ8 := Lib.hid (Below.tr ((((BQ7.out.setCell (p := ⟨bm, 0, none⟩) (by show w5.heap.size ≤ bm; omega) (.int .i64 da)).setCell (p := ⟨bm, 1, none⟩) (by show w5.heap.size ≤ bm; omega) (.slice V1 m1 j1)).setCell (p := ⟨bm, 2, none⟩) (by show w5.heap.size ≤ bm; omega) (.slice V2 m2 j2)).setCell (p := ⟨bm, 3, none⟩) (by show w5.heap.size ≤ bm; omega) (.slice V3 m3 j3)) (below1 _ (.cells #[.int .i64 da, .slice V1 m1 j1, .slice V2 m2 j2, .slice V3 m3 j3] 32)))
          rcases hcase with ⟨c1', c2', c3', c4', c5'⟩ | ⟨c1', c2', c3', c4', c5', c6'⟩ | ⟨c1', c2', c3'⟩
          · have q1 : ((k : Int) == (tn : Int) - 1) = true := by simp; omega
            have C5 := Lib.hid c5'
            clear c5'
            subst c1' c3' c4'
            have q3 : decide (fl > 0) = true := by simp; omega
            go_wp2_with fail
            go_roundw
            case rel => exact ⟨k + 1, M, da, V1, V2, V3, m1, m2, m3, j1, j2, j3, by omega, by go_num, NA.out, RN.out, KM8.out, ML8.out, NL.out, hms, BQ8.out⟩
            case measure => simp [intOf]; omega
          · exact absurd c2' hf0
          · have q1 : ((k : Int) == (tn : Int) - 1) = false := by simp; omega
            have C3 := Lib.hid c3'
            clear c3'
            subst c1' c2'
            go_wp2_with fail
            go_roundw
            case rel => exact ⟨k + 1, M, da, V1, V2, V3, m1, m2, m3, j1, j2, j3, by omega, by go_num, NA.out, RN.out, KM8.out, ML8.out, NL.out, hms, BQ8.out⟩
            case measure => simp [intOf]; omega
        · obtain rfl : k = tn := by omega
          have Y9 := Lib.hid (Y5.out.below BQ.out)
          have B9 := Lib.hid (Below.tr B5.out BQ.out)
          go_wp2_with fail
          refine (drawRun_any a1 len1 cap1 _ Y9).mono ?_
          rintro e wa ⟨ys, cy, F, Ay, By, d1, d2, rfl, hxy, hly, hlyx, hlyc, hba⟩
          have LY1 := Lib.hid hlyx
          have CY1 := Lib.hid hlyc
          have BA1 := Lib.hid (Below.tr B9.out hba)
          have HCY := Lib.hid hly
          clear hlyx hlyc hba hly
          obtain ⟨gy, hgy⟩ := good_bool ys
          have HGY := Lib.hid hgy
          clear hgy
          obtain ⟨ny, hny⟩ : ∃ n, ys.length = n := ⟨_, rfl⟩
          rw [hny] at hxy ⊢
          have HXY := Lib.hid hny
          clear hny
          obtain ⟨QY, hQY⟩ : ∃ q, runR gy ys cy F = q := ⟨_, rfl⟩
          have HQY := Lib.hid hQY
          clear hQY
          obtain ⟨⟨ry, fy, aty, ty⟩, oky⟩ := QY
          have y1 : (oky == oky) = true := by simp
          have y2 : (ry == ry) = true := by simp
          have y3 : (fy == fy) = true := by simp
          have y4 : (aty == aty) = true := by simp
          go_wp2_with fail
          refine (implRun_any _ _ _ ys _ _ _ cy F gy _ HGY LY1 HXY (by omega) CY1 HCY (by omega) (Lib.hid (powTab_below HT.out BA1.out))).mono ?_
          rw [HQY.out]
          rintro e wb ⟨rfl, hbb⟩
          have LY2 := Lib.hid (LY1.out.below hbb)
          have CY2 := Lib.hid (CY1.out.below hbb)
          have BA2 := Lib.hid (Below.tr BA1.out hbb)
          clear hbb LY1 CY1 BA1
          go_wp2_with fail
          refine (specRun_any _ _ _ ys _ _ _ cy F gy _ HGY LY2 HXY (by omega) CY2 HCY (by omega)).mono ?_
          rw [HQY.out]
          rintro e wc ⟨rfl, hbc⟩
          have BA3 := Lib.hid (Below.tr BA2.out hbc)
          clear hbc LY2 CY2 BA2
          go_wp2
          go_ret
          exact ⟨rfl, BA3.out⟩
end Go.Proofs.YtfcfnpdomjpibaaDoor
