/-
  What a step leaves as it was, all together; whether a list of numbers has one.
-/
import Derived.Test.YtkffggnajoohfaaDoorDrawProg
import Derived.Test.YtkffggnajoohfaaDoorTwo
import Derived.Test.YtkffggnajoohfaaDoorBytes
import Derived.Test.YtkffggnajoohfaaDoorOwnM
import Derived.Test.YtkffggnajoohfaaDoorStepD
import Derived.Test.YtkffggnajoohfaaDoorNexts
namespace Go.Proofs.YtkffggnajoohfaaDoor
open Go.ChangeShapes Go.WideShapes Go.ChangeAt Go.RowKit

theorem ownR_read {w w' : World} {base c n : Nat} {t : TypeId} {v : Value} {xs : List Value} (h : w.ownsRow base t 1 v n xs) (hg : w.grownBy w' (some c)) (hc : c < base) : w'.ownsRow base t 1 v n xs :=
  kept_of h hg (fun g hgb e => by have := (h.lt g hgb).1; have := Option.some.inj e; omega)
theorem grown_appR {w0 w w' : World} {c : Nat} {row : Option Nat} {o : Obj} (h : w0.grownBy w (some c)) (hg : (w.alloc o).grownBy w' row) (hr : ∀ g, row = some g → w0.heap.size ≤ g) : w0.grownBy w' (some c) := by
  have h2 := grownC_trans h (World.grownBy_alloc w o (some c))
  refine ⟨hg.os.trans h2.os, hg.tape.trans h2.tape, hg.output.trans h2.output, Nat.le_trans h2.size hg.size, fun k hk hne => ?_⟩
  rw [hg.block k (Nat.lt_of_lt_of_le hk h2.size) (fun e => by have := hr k e.symm; omega)]
  exact h2.block k hk hne
theorem lit_cells (w : World) (vs : List Int) : ∀ i : Nat, i < vs.length → (w.alloc (.cells (vs.map (Value.int .i64)).toArray 3)).cell? ⟨w.heap.size, i, none⟩ = some (.int .i64 (vs[i]?.getD 0)) := by
  intro i hi
  have hb : Blk (w.alloc (.cells (vs.map (Value.int .i64)).toArray 3)) w.heap.size 3 (vs.map (Value.int .i64)) := heap_alloc_new w _
  rw [hb.cell i, List.getElem?_map, List.getElem?_eq_getElem hi]
  rfl
theorem setGR (w : World) (g : Nat) (u : Value) : w.grownBy (w.setCell ⟨g, 0, none⟩ u) (some g) :=
  ⟨rfl, rfl, rfl, by simp, fun i _ hne => Below.heap_setCell w ⟨g, 0, none⟩ u i (fun e => hne (by rw [e]))⟩
/-- it answers eight numbers of its own, drawn -/
def GaveCtx (c K : Nat) (w : World) (e : Ending) (w' : World) : Prop :=
  ∃ (l : List Int) (A : Option Addr) (cap : Nat), e = .returned (.slice A 8 cap) ∧ l.length = 8 ∧ w'.ownsRow w.heap.size 3 1 (.slice A 8 cap) 8 (l.map (Value.int .i64)) ∧ Cur w' c K ∧ w.grownBy w' (some c)
set_option maxRecDepth 100000 in
set_option maxHeartbeats 4000000 in
theorem ctx_any (c K : Nat) (w : World) (h : Hid (Cur w c K)) (hK : K ≤ 800000000) :
    Calls Tryd.prog 34 #[.pointer (some ⟨c, 0, none⟩)] w (GaveCtx c (K + 100) w) := by
  obtain ⟨i0, hi0, hz0, hz1, hz2⟩ := info_parts info_int
  have hcl : Hid (c < w.heap.size) := Lib.hid h.out.lt
  go_enter Tryd.func34, Tryd.ntmps34
  go_wp2_with fail
  go_loopw [3, 4] (fun u i wr => ∃ (k : Nat) (l : List Int), k ≤ 8 ∧ i = .int .i64 k ∧ l.length = k ∧ (∃ A cap, u = .slice A k cap ∧ wr.ownsRow w.heap.size 3 1 (.slice A k cap) k (l.map (Value.int .i64))) ∧ Cur wr c (K + 6 * k) ∧ w.grownBy wr (some c)) (fun _ i _ => 8 - (intOf i).toNat)
  case atStart => exact ⟨0, [], Nat.zero_le _, rfl, rfl, ⟨none, 0, rfl, World.ownsRow_nil _ _ _ _⟩, h.out, World.grownBy.refl _ _⟩
  case round =>
    clear h
    obtain ⟨k, l, hk, rfl, hl, ⟨A, cap, rfl, hown⟩, hc, hg⟩ := hrel
    have OW := Lib.hid hown
    have CW := Lib.hid hc
    have GW := Lib.hid hg
    have HL := Lib.hid hl
    clear hown hc hg hl
    by_cases hlt : k < 8
    · go_wp2_with fail
      refine (pick_any c _ _ _ CW (by omega) (by omega) (by omega)).mono ?_
      rintro e w1 ⟨n1, _, rfl, hc1, hg1⟩
      have O1 := Lib.hid (ownR_read OW.out hg1 hcl.out)
      have G1 := Lib.hid (grownC_trans GW.out hg1)
      have BA := below1 w1 (.cells #[.int .i64 0, .int .i64 1, .int .i64 7, .int .i64 8, .int .i64 255, .int .i64 n1] 3)
      have C1 := Lib.hid (hc1.below BA)
      have O2 := Lib.hid (own_below O1.out BA)
      have G2 := Lib.hid (grownC_trans G1.out (grown_of_below BA))
      have hcw : c < w1.heap.size := hc1.lt
      have VC : Hid ([0, 1, 7, 8, 255, n1].length = 6 ∧ ∀ i : Nat, i < 6 → (w1.alloc (.cells #[.int .i64 0, .int .i64 1, .int .i64 7, .int .i64 8, .int .i64 255, .int .i64 n1] 3)).cell? ⟨w1.heap.size, i, none⟩ = some (.int .i64 ([0, 1, 7, 8, 255, n1][i]?.getD 0))) := Lib.hid ⟨rfl, lit_cells w1 [0, 1, 7, 8, 255, n1]⟩
      clear hc1 hg1 BA O1 G1 OW CW GW
      go_wp2_with fail
      refine (among_any c _ w1.heap.size 6 [0, 1, 7, 8, 255, n1] _ C1 (by omega) (by omega) (by omega) (by omega) VC).mono ?_
      rintro e w3 ⟨x, _, rfl, hc3, hg3⟩
      have O3 := Lib.hid (ownR_read O2.out hg3 hcl.out)
      have C3 := Lib.hid hc3
      have G3 := Lib.hid (grownC_trans G2.out hg3)
      clear hc3 hg3 C1 O2 G2 VC
      go_wp2_with (at_builtin; (refine wpList_append_lies _ rfl _ _ 24 rfl w.heap.size 3 i0 (.int .i64 0) 1 8 Tryd.underlying24 hi0 hz0 hz1 hz2 rfl (by omega) _ k _ rfl (O3.out.alloc _) ⟨w3.heap.size, 0, none⟩ 1 1 [.int .i64 x] rfl rfl (one_newT w3 _ _) (by intro u hu; rw [List.mem_singleton.1 hu]; rfl) (by omega) (by unfold maxLen; omega) (by omega) (by have := G3.out.size; first | omega | (simp; omega)) (w3.heap.size + 1) (by first | rfl | simp) ?_; intro g4 cap4 w4 hown4 hg4 hat4 hlt4; have O4 := Lib.hid hown4; have C4 := Lib.hid ((C3.out.alloc _).grown hg4 (fun g e => by have := (O3.out.lt g e).1; have := hcl.out; omega)); have G4 := Lib.hid (grown_appR G3.out hg4 (fun g e => (O3.out.lt g e).1)); clear hown4 hg4 hat4 hlt4))
      go_roundw
      case rel => exact ⟨k + 1, l ++ [x], by omega, by go_num, by rw [List.length_append, HL.out]; rfl, ⟨some ⟨g4, 0, none⟩, cap4, rfl, by rw [List.map_append]; exact O4.out⟩, C4.out.mono (by omega), G4.out⟩
      case measure => simp [intOf]; omega
    · obtain rfl : k = 8 := by omega
      go_wp2_with fail
      refine (one_any c _ _ _ CW (by omega) (by omega) (by omega)).mono ?_
      rintro e w1 ⟨b, rfl, hc1, hg1⟩
      have C1 := Lib.hid hc1
      have O1 := Lib.hid (ownR_read OW.out hg1 hcl.out)
      have G1 := Lib.hid (grownC_trans GW.out hg1)
      clear hc1 hg1 OW CW GW
      cases b
      · go_wp2
        go_ret
        exact ⟨l, A, cap, rfl, HL.out, O1.out, C1.out.mono (by omega), G1.out⟩
      · obtain ⟨g, cpx, hv9, hbg9, hgl9⟩ := O1.out.form (by omega)
        have hA : A = some ⟨g, 0, none⟩ := by injection hv9
        clear hv9
        subst hA
        have BA := below1 w1 (.cells #[.int .i64 (-1), .int .i64 256] 3)
        have hcw : c < w1.heap.size := C1.out.lt
        have CA := Lib.hid (C1.out.below BA)
        have OA := Lib.hid (own_below O1.out BA)
        have GA := Lib.hid (grownC_trans G1.out (grown_of_below BA))
        have VC : Hid ([-1, 256].length = 2 ∧ ∀ i : Nat, i < 2 → (w1.alloc (.cells #[.int .i64 (-1), .int .i64 256] 3)).cell? ⟨w1.heap.size, i, none⟩ = some (.int .i64 (([-1, 256] : List Int)[i]?.getD 0))) := Lib.hid ⟨rfl, lit_cells w1 [-1, 256]⟩
        clear BA O1 G1 C1
        go_wp2_with fail
        refine (among_any c _ w1.heap.size 2 [-1, 256] _ CA (by omega) (by omega) (by omega) (by omega) VC).mono ?_
        rintro e w3 ⟨x, _, rfl, hc3, hg3⟩
        have O3 := Lib.hid (ownR_read OA.out hg3 hcl.out)
        have C3 := Lib.hid hc3
        have G3 := Lib.hid (grownC_trans GA.out hg3)
        clear hc3 hg3 CA OA GA VC
        obtain ⟨y, hy⟩ : ∃ y, l[0]? = some y := ⟨_, List.getElem?_eq_getElem (by have := HL.out; omega)⟩
        have t0 : w3.cell? ⟨g, 0, none⟩ = some (.int .i64 y) := own_cell O3.out (by rw [List.getElem?_map, hy]; rfl)
        have f0 := own_frozen O3.out 0
        have O4 : Hid ((w3.setCell ⟨g, 0, none⟩ (.int .i64 x)).ownsRow w.heap.size 3 1 (.slice (some ⟨g, 0, none⟩) 8 cap) 8 ((l.set 0 x).map (Value.int .i64))) := Lib.hid (by have := (O3.out.stored 0 (.int .i64 x)).1; rw [← List.map_set] at this; exact this)
        have HS : Hid ((l.set 0 x).length = 8) := Lib.hid (by rw [List.length_set]; exact HL.out)
        have C4 : Hid (Cur (w3.setCell ⟨g, 0, none⟩ (.int .i64 x)) c (K + 6 * 8 + 2 + 2)) := Lib.hid (C3.out.grown (setGR w3 g (.int .i64 x)) (fun g' e => by have := Option.some.inj e; have := hcl.out; omega))
        have G4 : Hid (w.grownBy (w3.setCell ⟨g, 0, none⟩ (.int .i64 x)) (some c)) := Lib.hid ⟨G3.out.os, G3.out.tape, G3.out.output, Nat.le_trans G3.out.size (by simp), fun i hi hne => (Below.heap_setCell w3 ⟨g, 0, none⟩ _ i (show i ≠ g by omega)).trans (G3.out.block i hi hne)⟩
        clear O3 C3 G3 hy
        go_wp2
        go_ret
        exact ⟨l.set 0 x, some ⟨g, 0, none⟩, cap, rfl, HS.out, O4.out, C4.out.mono (by omega), G4.out⟩
/-- a drawn program and a drawn context -/
def DrewPC (w : World) (e : Ending) (w' : World) : Prop :=
  ∃ (xs : List Stp) (l : List Int) (A B : Option Addr) (c1 c2 : Nat), e = .returned (.tuple #[.slice A xs.length c1, .slice B 8 c2]) ∧ (1 ≤ xs.length ∧ xs.length ≤ 20) ∧ l.length = 8 ∧ Lies w' A xs ∧ ILies w' B l ∧ Below w.heap.size w w'
set_option maxRecDepth 100000 in
set_option maxHeartbeats 2000000 in
theorem drawTrace_any (a0 : Option Addr) (len cap : Nat) (w : World) (h : Hid (Bytes w a0 len)) :
    Calls Tryd.prog 51 #[.slice a0 len cap] w (DrewPC w) := by
  go_enter Tryd.func51, Tryd.ntmps51
  go_wp2_with fail
  refine (program_any w.heap.size 0 _ (Cur.new h.out) (by omega)).mono ?_
  rintro e w1 ⟨xs, A, c1, rfl, hx, hc, ho, hg, hcl⟩
  have C1 := Lib.hid hc
  have O1 := Lib.hid ho
  have G1 := Lib.hid hg
  have HCL := Lib.hid hcl
  clear hc ho hg hcl
  go_wp2_with fail
  refine (ctx_any w.heap.size _ _ C1 (by omega)).mono ?_
  rintro e w2 ⟨l, B, c2, rfl, hl, ho2, hc2, hg2⟩
  have LI : Hid (Lies w2 A xs) := Lib.hid (own_lies' (kept_of O1.out hg2 (fun g hgb e => by have h1 := (O1.out.lt g hgb).1; have h2 := Option.some.inj e; simp at h1; omega)))
  have CI := Lib.hid (own_ilies ho2)
  have B2 := Lib.hid (below_new (grownC_trans G1.out hg2))
  clear ho2 hc2 hg2 C1 O1 G1
  go_wp2
  go_ret2
  exact ⟨xs, l, A, B, c1, c2, rfl, hx, hl, LI.out, CI.out, B2.out⟩
/-- a drawn program, a drawn context, and how much fuel there is -/
def DrewPCF (w : World) (e : Ending) (w' : World) : Prop :=
  ∃ (xs : List Stp) (l : List Int) (F : Int) (A B : Option Addr) (c1 c2 : Nat), e = .returned (.tuple #[.slice A xs.length c1, .slice B 8 c2, .int .i64 F]) ∧ (1 ≤ xs.length ∧ xs.length ≤ 20) ∧ l.length = 8 ∧ Lies w' A xs ∧ ILies w' B l ∧ Below w.heap.size w w'

def WordLike (n : Int) : Prop := 0 ≤ n ∧ n ≤ 65535

set_option maxRecDepth 100000 in
set_option maxHeartbeats 2000000 in
theorem word_any (c K : Nat) (w : World) (h : Hid (Cur w c K)) (hK : K ≤ 800000000000) :
    Calls Tryd.prog 77 #[.pointer (some ⟨c, 0, none⟩)] w (Gives c (K + 12) w WordLike) := by
  go_enter Tryd.func77, Tryd.ntmps77
  go_wp2_with fail
  refine (pick_any c K _ _ h (by omega) (by omega) (by omega)).mono ?_
  rintro e w1 ⟨n1, ⟨a1, b1⟩, rfl, hc1, hg1⟩
  have C1 := Lib.hid hc1
  have G1 := Lib.hid hg1
  clear hc1 hg1
  go_wp2_with fail
  refine (pick_any c (K + 2) _ _ C1 (by omega) (by omega) (by omega)).mono ?_
  rintro e w2 ⟨n2, ⟨a2, b2⟩, rfl, hc2, hg2⟩
  have C2 := Lib.hid hc2
  have G2 := Lib.hid (grownC_trans G1.out hg2)
  clear hc2 hg2
  go_wp2_with fail
  refine (pick_any c (K + 2 + 2) _ _ C2 (by omega) (by omega) (by omega)).mono ?_
  rintro e w3 ⟨n3, ⟨a3, b3⟩, rfl, hc3, hg3⟩
  have C3 := Lib.hid hc3
  have G3 := Lib.hid (grownC_trans G2.out hg3)
  clear hc3 hg3
  go_wp2_with fail
  refine (pick_any c (K + 2 + 2 + 2) _ _ C3 (by omega) (by omega) (by omega)).mono ?_
  rintro e w4 ⟨n4, ⟨a4, b4⟩, rfl, hc4, hg4⟩
  have C4 := Lib.hid hc4
  have G4 := Lib.hid (grownC_trans G3.out hg4)
  clear hc4 hg4
  go_wp2_with fail
  refine (pick_any c (K + 2 + 2 + 2 + 2) _ _ C4 (by omega) (by omega) (by omega)).mono ?_
  rintro e w5 ⟨n5, ⟨a5, b5⟩, rfl, hc5, hg5⟩
  have C5 := Lib.hid hc5
  have G5 := Lib.hid (grownC_trans G4.out hg5)
  clear hc5 hg5
  go_wp2_with fail
  have hsz := C5.out.lt
  refine (among_any c (K + 2 + 2 + 2 + 2 + 2) w5.heap.size 11 [0, 1, 2, 255, 256, 32767, 32768, 65535, n1 * 256 + n2, n3 * 256 + n4, n5] _ (Lib.hid (C5.out.alloc _)) (by omega) (by omega) (by omega) (by omega)
    (Lib.hid ⟨rfl, lit_cells w5 [0, 1, 2, 255, 256, 32767, 32768, 65535, n1 * 256 + n2, n3 * 256 + n4, n5]⟩)).mono ?_
  rintro e w6 ⟨n6, hin, rfl, hc6, hg6⟩
  have C6 := Lib.hid hc6
  have G6 := Lib.hid (grownC_trans G5.out (grownC_trans (World.grownBy_alloc w5 _ _) hg6))
  have HN : Hid (WordLike n6) := by
    show WordLike n6
    simp only [List.mem_cons, List.mem_nil_iff, or_false] at hin
    unfold WordLike
    omega
  clear hc6 hg6 hin
  go_wp2
  go_ret
  exact ⟨n6, HN.out, rfl, C6.out, G6.out⟩

/-- a step writes at most its own register -/
theorem doM_regs (x : Stp) (ctx : List Int) (m : Mch) {j : Nat} (hj : (j : Int) ≠ x.d) (hd : 0 ≤ x.d) : (doM x ctx m).1.r[j]? = m.r[j]? := by
  have key : ∀ v : Int, (setR m x.d v).r[j]? = m.r[j]? := fun v => by
    unfold setR
    simp only
    rw [List.getElem?_set]
    split
    · rename_i e
      exfalso
      omega
    · rfl
  unfold doM
  repeat' split
  all_goals first | rfl | exact key _
/-- a step that is no store leaves the cells as they were -/
theorem doM_cells (x : Stp) (ctx : List Int) (m : Mch) {j : Nat} (hj : x.k ≠ 7 ∨ (j : Int) ≠ x.i) (hi : 0 ≤ x.i) : (doM x ctx m).1.c[j]? = m.c[j]? ∧ (doM x ctx m).1.s[j]? = m.s[j]? := by
  unfold doM
  repeat' split
  all_goals first
    | exact ⟨rfl, rfl⟩
    | (refine ⟨?_, ?_⟩ <;> (simp only; rw [List.getElem?_set, if_neg (by omega)]))
set_option maxRecDepth 100000 in
set_option maxHeartbeats 2000000 in
theorem sameIntsT (A B : Option Addr) (n c1 c2 : Nat) (l : List Int) (w : World) (hl : Hid (ILies w A l)) (hl2 : Hid (ILies w B l)) (hx : Hid (l.length = n)) (hn : n ≤ 10000000) :
    Calls Tryd.prog 44 #[.slice A n c1, .slice B n c2] w fun e w' => e = .returned (.bool true) ∧ Below w.heap.size w w' := by
  have hnn : ((n : Int) != (n : Int)) = false := by simp
  go_enter Tryd.func44, Tryd.ntmps44
  go_wp2_with fail
  go_loopw [13] (fun i wr => ∃ k : Nat, k ≤ n ∧ i = .int .i64 k ∧ Below w.heap.size w wr) (fun i _ => n - (intOf i).toNat)
  case atStart => exact ⟨0, Nat.zero_le _, rfl, Below.refl _ _⟩
  case round =>
    obtain ⟨k, hk, rfl, hb⟩ := hrel
    have B1 := Lib.hid hb
    clear hb
    by_cases hlt : k < n
    · obtain ⟨y, hy⟩ : ∃ y, l[k]? = some y := ⟨_, List.getElem?_eq_getElem (by have := hx.out; omega)⟩
      obtain ⟨b, off, rfl, hbl, hc⟩ := (hl.out.below B1.out) k y hy
      obtain ⟨b2, off2, rfl, hbl2, hc2⟩ := (hl2.out.below B1.out) k y hy
      clear hy
      have hyy : (y != y) = false := by simp
      go_wp2_with fail
      go_quiet (fail)
      go_wp2
      go_roundw
      case rel => exact ⟨k + 1, by omega, by go_num, bdrewN B1.out _⟩
      case measure => simp [intOf]; omega
    · obtain rfl : k = n := by omega
      go_wp2
      go_ret
      exact ⟨rfl, B1.out⟩
set_option maxRecDepth 100000 in
set_option maxHeartbeats 2000000 in
theorem sameBoolsM (A B : Option Addr) (n c1 c2 : Nat) (l : List Bool) (w : World) (hl : Hid (BLies w A l)) (hl2 : Hid (BLies w B l)) (hx : Hid (l.length = n)) (hn : n ≤ 10000000) :
    Calls Tryd.prog 45 #[.slice A n c1, .slice B n c2] w fun e w' => e = .returned (.bool true) ∧ Below w.heap.size w w' := by
  have hnn : ((n : Int) != (n : Int)) = false := by simp
  go_enter Tryd.func45, Tryd.ntmps45
  go_wp2_with fail
  go_loopw [13] (fun i wr => ∃ k : Nat, k ≤ n ∧ i = .int .i64 k ∧ Below w.heap.size w wr) (fun i _ => n - (intOf i).toNat)
  case atStart => exact ⟨0, Nat.zero_le _, rfl, Below.refl _ _⟩
  case round =>
    obtain ⟨k, hk, rfl, hb⟩ := hrel
    have B1 := Lib.hid hb
    clear hb
    by_cases hlt : k < n
    · obtain ⟨y, hy⟩ : ∃ y, l[k]? = some y := ⟨_, List.getElem?_eq_getElem (by have := hx.out; omega)⟩
      obtain ⟨b, off, rfl, hbl, hc⟩ := (hl.out.below B1.out) k y hy
      obtain ⟨b2, off2, rfl, hbl2, hc2⟩ := (hl2.out.below B1.out) k y hy
      clear hy
      have hyy : (y != y) = false := by simp
      go_wp2_with fail
      go_quiet (fail)
      go_wp2
      go_roundw
      case rel => exact ⟨k + 1, by omega, by go_num, bdrewN B1.out _⟩
      case measure => simp [intOf]; omega
    · obtain rfl : k = n := by omega
      go_wp2
      go_ret
      exact ⟨rfl, B1.out⟩
set_option maxRecDepth 100000 in
set_option maxHeartbeats 4000000 in
theorem sameMach_same (a : Int) (A1 A2 A3 D1 D2 D3 : Option Addr) (n1 n2 n3 c1 c2 c3 d1 d2 d3 : Nat) (m : Mch) (w : World) (hl : Hid (MLies w A1 A2 A3 m)) (hl2 : Hid (MLies w D1 D2 D3 m)) (HX : Hid (Lens m n1 n2 n3)) (h1 : n1 ≤ 1048576) (h2 : n2 ≤ 1048576) (h3 : n3 ≤ 1048576) :
    Calls Tryd.prog 9 #[.agg #[.int .i64 a, .slice A1 n1 c1, .slice A2 n2 c2, .slice A3 n3 c3], .agg #[.int .i64 a, .slice D1 n1 d1, .slice D2 n2 d2, .slice D3 n3 d3]] w fun e w' => e = .returned (.bool true) ∧ Below w.heap.size w w' := by
  have haa : (a == a) = true := by simp
  have hb0 := below2 w (.cells #[.int .i64 a, .slice A1 n1 c1, .slice A2 n2 c2, .slice A3 n3 c3] 27) (.cells #[.int .i64 a, .slice D1 n1 d1, .slice D2 n2 d2, .slice D3 n3 d3] 27)
  have KA0 : Hid (Blk ((w.alloc (.cells #[.int .i64 a, .slice A1 n1 c1, .slice A2 n2 c2, .slice A3 n3 c3] 27)).alloc (.cells #[.int .i64 a, .slice D1 n1 d1, .slice D2 n2 d2, .slice D3 n3 d3] 27)) w.heap.size 27 [.int .i64 a, .slice A1 n1 c1, .slice A2 n2 c2, .slice A3 n3 c3]) := Lib.hid (n20 w _ _)
  have KB0 : Hid (Blk ((w.alloc (.cells #[.int .i64 a, .slice A1 n1 c1, .slice A2 n2 c2, .slice A3 n3 c3] 27)).alloc (.cells #[.int .i64 a, .slice D1 n1 d1, .slice D2 n2 d2, .slice D3 n3 d3] 27)) (w.heap.size + 1) 27 [.int .i64 a, .slice D1 n1 d1, .slice D2 n2 d2, .slice D3 n3 d3]) := Lib.hid (n21 w _ _)
  have L0 := Lib.hid (hl.out.below hb0)
  have M0 := Lib.hid (hl2.out.below hb0)
  have B0 := Lib.hid hb0
  clear hb0
  go_enter Tryd.func9, Tryd.ntmps9
  go_wp2_with fail
  generalize (w.alloc (.cells #[.int .i64 a, .slice A1 n1 c1, .slice A2 n2 c2, .slice A3 n3 c3] 27)).alloc (.cells #[.int .i64 a, .slice D1 n1 d1, .slice D2 n2 d2, .slice D3 n3 d3] 27) = v0 at KA0 KB0 L0 M0 B0 ⊢
  refine (sameIntsT _ _ _ _ _ m.r _ (Lib.hid L0.out.1) (Lib.hid M0.out.1) (Lib.hid HX.out.1) (by omega)).mono ?_
  rintro e v1 ⟨rfl, hb⟩
  have KA1 := Lib.hid (KA0.out.below hb)
  have KB1 := Lib.hid (KB0.out.below hb)
  have L1 := Lib.hid (L0.out.below hb)
  have M1 := Lib.hid (M0.out.below hb)
  have B1 := Lib.hid (Below.tr B0.out hb)
  clear hb KA0 KB0 L0 M0 B0
  have x0 : v1.cell? ⟨w.heap.size, 0, none⟩ = some (.int .i64 a) := KA1.out.there rfl
  have x1 : v1.cell? ⟨w.heap.size, 1, none⟩ = some (.slice A1 n1 c1) := KA1.out.there rfl
  have x2 : v1.cell? ⟨w.heap.size, 2, none⟩ = some (.slice A2 n2 c2) := KA1.out.there rfl
  have x3 : v1.cell? ⟨w.heap.size, 3, none⟩ = some (.slice A3 n3 c3) := KA1.out.there rfl
  have y0 : v1.cell? ⟨w.heap.size + 1, 0, none⟩ = some (.int .i64 a) := KB1.out.there rfl
  have y1 : v1.cell? ⟨w.heap.size + 1, 1, none⟩ = some (.slice D1 n1 d1) := KB1.out.there rfl
  have y2 : v1.cell? ⟨w.heap.size + 1, 2, none⟩ = some (.slice D2 n2 d2) := KB1.out.there rfl
  have y3 : v1.cell? ⟨w.heap.size + 1, 3, none⟩ = some (.slice D3 n3 d3) := KB1.out.there rfl
  go_wp2_with fail
  refine (sameIntsT _ _ _ _ _ m.c _ (Lib.hid L1.out.2.1) (Lib.hid M1.out.2.1) (Lib.hid HX.out.2.1) (by omega)).mono ?_
  rintro e v2 ⟨rfl, hb⟩
  have KA2 := Lib.hid (KA1.out.below hb)
  have KB2 := Lib.hid (KB1.out.below hb)
  have L2 := Lib.hid (L1.out.below hb)
  have M2 := Lib.hid (M1.out.below hb)
  have B2 := Lib.hid (Below.tr B1.out hb)
  clear hb KA1 KB1 L1 M1 B1 x0 x1 x2 x3 y0 y1 y2 y3
  have x0 : v2.cell? ⟨w.heap.size, 0, none⟩ = some (.int .i64 a) := KA2.out.there rfl
  have x1 : v2.cell? ⟨w.heap.size, 1, none⟩ = some (.slice A1 n1 c1) := KA2.out.there rfl
  have x2 : v2.cell? ⟨w.heap.size, 2, none⟩ = some (.slice A2 n2 c2) := KA2.out.there rfl
  have x3 : v2.cell? ⟨w.heap.size, 3, none⟩ = some (.slice A3 n3 c3) := KA2.out.there rfl
  have y0 : v2.cell? ⟨w.heap.size + 1, 0, none⟩ = some (.int .i64 a) := KB2.out.there rfl
  have y1 : v2.cell? ⟨w.heap.size + 1, 1, none⟩ = some (.slice D1 n1 d1) := KB2.out.there rfl
  have y2 : v2.cell? ⟨w.heap.size + 1, 2, none⟩ = some (.slice D2 n2 d2) := KB2.out.there rfl
  have y3 : v2.cell? ⟨w.heap.size + 1, 3, none⟩ = some (.slice D3 n3 d3) := KB2.out.there rfl
  go_wp2_with fail
  refine (sameBoolsM _ _ _ _ _ m.s _ (Lib.hid L2.out.2.2) (Lib.hid M2.out.2.2) (Lib.hid HX.out.2.2) (by omega)).mono ?_
  rintro e v3 ⟨rfl, hb⟩
  have B3 := Lib.hid (Below.tr B2.out hb)
  clear hb
  go_wp2
  go_ret
  exact ⟨rfl, B3.out⟩

/-- in the midst of a drawn machine: the reader, the machine's box, its rows -/
structure DM (w0 w : World) (c K b g1 g2 g3 : Nat) (m : Mch) : Prop where
  cur : Cur w c K
  box : Blk w b 27 [.int .i64 m.a, .slice (some ⟨g1, 0, none⟩) 6 6, .slice (some ⟨g2, 0, none⟩) 16 16, .slice (some ⟨g3, 0, none⟩) 16 16]
  rows : MBlk w g1 g2 g3 m
  lens : Lens m 6 16 16
  lo : c < w0.heap.size ∧ w0.heap.size < b ∧ w0.heap.size < g1 ∧ w0.heap.size < g2 ∧ w0.heap.size < g3 ∧ b ≠ g1 ∧ b ≠ g2 ∧ b ≠ g3
  res : Blk w w0.heap.size 27 [.int .i64 0, .slice none 0 0, .slice none 0 0, .slice none 0 0]
  grown : w0.grownBy w (some c)
theorem DM.read {w0 w w' : World} {c K K' b g1 g2 g3 : Nat} {m : Mch} (h : DM w0 w c K b g1 g2 g3 m) (hc : Cur w' c K') (hg : w.grownBy w' (some c)) : DM w0 w' c K' b g1 g2 g3 m := by
  have hl := h.lo
  have hk : Kept w w' (fun g => g = c) := Kept.of_grown hg (fun g e => (Option.some.inj e).symm)
  exact ⟨hc, hk.blk h.box (by omega), hk.mblk h.rows (by omega) (by omega) (by omega), h.lens, h.lo, hk.blk h.res (by omega), grownC_trans h.grown hg⟩
theorem DM.alloc {w0 w : World} {c K b g1 g2 g3 : Nat} {m : Mch} (h : DM w0 w c K b g1 g2 g3 m) (o : Obj) : DM w0 (w.alloc o) c K b g1 g2 g3 m :=
  ⟨h.cur.below (below1 w o), h.box.below (below1 w o), h.rows.below (below1 w o), h.lens, h.lo, h.res.below (below1 w o), grownC_trans h.grown (grown_of_below (below1 w o))⟩
theorem grown_setAt {w0 w : World} {c g j : Nat} {u : Value} (h : w0.grownBy w (some c)) (hg : w0.heap.size ≤ g) : w0.grownBy (w.setCell ⟨g, j, none⟩ u) (some c) :=
  ⟨h.os, h.tape, h.output, Nat.le_trans h.size (by simp), fun i hi hne => (Below.heap_setCell w ⟨g, j, none⟩ u i (show i ≠ g by omega)).trans (h.block i hi hne)⟩
theorem cur_setAt {w : World} {c K g j : Nat} {u : Value} (h : Cur w c K) (hg : c < g) : Cur (w.setCell ⟨g, j, none⟩ u) c K :=
  h.grown (row := some g) ⟨rfl, rfl, rfl, by simp, fun i _ hne => Below.heap_setCell w ⟨g, j, none⟩ u i (fun e => hne (by rw [e]))⟩ (fun g' e => by have := Option.some.inj e; omega)
theorem DM.setReg {w0 w : World} {c K b g1 g2 g3 : Nat} {m : Mch} (h : DM w0 w c K b g1 g2 g3 m) (j : Nat) (v : Int) : DM w0 (w.setCell ⟨g1, j, none⟩ (.int .i64 v)) c K b g1 g2 g3 ⟨m.a, m.r.set j v, m.c, m.s⟩ := by
  have hl := h.lo
  obtain ⟨r1, r2, r3, r4⟩ := h.rows
  refine ⟨cur_setAt h.cur (by omega), h.box.far (by omega) _, ⟨by rw [List.map_set]; exact r1.set _ _, r2.far (by omega) _, r3.far (by omega) _, r4⟩, ⟨by simpa using h.lens.1, h.lens.2.1, h.lens.2.2⟩, h.lo, h.res.far (by omega) _, grown_setAt h.grown (by omega)⟩
theorem DM.setCel {w0 w : World} {c K b g1 g2 g3 : Nat} {m : Mch} (h : DM w0 w c K b g1 g2 g3 m) (j : Nat) (v : Int) : DM w0 (w.setCell ⟨g2, j, none⟩ (.int .i64 v)) c K b g1 g2 g3 ⟨m.a, m.r, m.c.set j v, m.s⟩ := by
  have hl := h.lo
  obtain ⟨r1, r2, r3, r4⟩ := h.rows
  refine ⟨cur_setAt h.cur (by omega), h.box.far (by omega) _, ⟨r1.far (by omega) _, by rw [List.map_set]; exact r2.set _ _, r3.far (by omega) _, r4⟩, ⟨h.lens.1, by simpa using h.lens.2.1, h.lens.2.2⟩, h.lo, h.res.far (by omega) _, grown_setAt h.grown (by omega)⟩
theorem DM.setFlag {w0 w : World} {c K b g1 g2 g3 : Nat} {m : Mch} (h : DM w0 w c K b g1 g2 g3 m) (j : Nat) (v : Bool) : DM w0 (w.setCell ⟨g3, j, none⟩ (.bool v)) c K b g1 g2 g3 ⟨m.a, m.r, m.c, m.s.set j v⟩ := by
  have hl := h.lo
  obtain ⟨r1, r2, r3, r4⟩ := h.rows
  refine ⟨cur_setAt h.cur (by omega), h.box.far (by omega) _, ⟨r1.far (by omega) _, r2.far (by omega) _, by rw [List.map_set]; exact r3.set _ _, r4⟩, ⟨h.lens.1, h.lens.2.1, by simpa using h.lens.2.2⟩, h.lo, h.res.far (by omega) _, grown_setAt h.grown (by omega)⟩
theorem DM.setAt {w0 w : World} {c K b g1 g2 g3 : Nat} {m : Mch} (h : DM w0 w c K b g1 g2 g3 m) (v : Int) : DM w0 (w.setCell ⟨b, 0, none⟩ (.int .i64 v)) c K b g1 g2 g3 ⟨v, m.r, m.c, m.s⟩ := by
  have hl := h.lo
  obtain ⟨r1, r2, r3, r4⟩ := h.rows
  exact ⟨cur_setAt h.cur (by omega), h.box.set 0 _, ⟨r1.far (by omega) _, r2.far (by omega) _, r3.far (by omega) _, r4⟩, h.lens, h.lo, h.res.far (by omega) _, grown_setAt h.grown (by omega)⟩
/-- it answers a machine of its own, drawn -/
def GaveMach (c K : Nat) (w : World) (e : Ending) (w' : World) : Prop :=
  ∃ (m : Mch) (g1 g2 g3 : Nat), e = .returned (.agg #[.int .i64 m.a, .slice (some ⟨g1, 0, none⟩) 6 6, .slice (some ⟨g2, 0, none⟩) 16 16, .slice (some ⟨g3, 0, none⟩) 16 16]) ∧ MBlk w' g1 g2 g3 m ∧ Lens m 6 16 16 ∧ Cur w' c K ∧ w.grownBy w' (some c)
theorem mach_shut {P : Program} {fn : Func} {a : Act} {w W : World} {c K K' b g1 g2 g3 : Nat} {m : Mch} (h : DM w W c K b g1 g2 g3 m) (hK : K ≤ K')
    {u0 u1 u2 u3 : Value} (hr : (results fn a.tmps).run P ((((W.setCell ⟨w.heap.size, 0, none⟩ u0).setCell ⟨w.heap.size, 1, none⟩ u1).setCell ⟨w.heap.size, 2, none⟩ u2).setCell ⟨w.heap.size, 3, none⟩ u3) = .ok (.agg #[.int .i64 m.a, .slice (some ⟨g1, 0, none⟩) 6 6, .slice (some ⟨g2, 0, none⟩) 16 16, .slice (some ⟨g3, 0, none⟩) 16 16]) ((((W.setCell ⟨w.heap.size, 0, none⟩ u0).setCell ⟨w.heap.size, 1, none⟩ u1).setCell ⟨w.heap.size, 2, none⟩ u2).setCell ⟨w.heap.size, 3, none⟩ u3)) (hd : a.defers = [] := by rfl) :
    bodyPost P fn (GaveMach c K' w) .ret a ((((W.setCell ⟨w.heap.size, 0, none⟩ u0).setCell ⟨w.heap.size, 1, none⟩ u1).setCell ⟨w.heap.size, 2, none⟩ u2).setCell ⟨w.heap.size, 3, none⟩ u3) := by
  have hl := h.lo
  obtain ⟨r1, r2, r3, r4⟩ := h.rows
  refine bodyPost_ret hr hd ⟨m, g1, g2, g3, rfl, ⟨?_, ?_, ?_, r4⟩, h.lens, (cur_setAt (cur_setAt (cur_setAt (cur_setAt h.cur (by omega)) (by omega)) (by omega)) (by omega)).mono hK, ?_⟩
  · exact (((r1.far (by omega) _).far (by omega) _).far (by omega) _).far (by omega) _
  · exact (((r2.far (by omega) _).far (by omega) _).far (by omega) _).far (by omega) _
  · exact (((r3.far (by omega) _).far (by omega) _).far (by omega) _).far (by omega) _
  · exact grown_setAt (grown_setAt (grown_setAt (grown_setAt h.grown (Nat.le_refl _)) (Nat.le_refl _)) (Nat.le_refl _)) (Nat.le_refl _)
set_option maxRecDepth 100000 in
set_option maxHeartbeats 8000000 in
theorem machine_any (c K : Nat) (many : Int) (w : World) (h : Hid (Cur w c K)) (hK : K ≤ 600000000) (hm1 : 1 ≤ many) (hm2 : many ≤ 1000) :
    Calls Tryd.prog 35 #[.pointer (some ⟨c, 0, none⟩), .int .i64 many] w (GaveMach c (K + 1000) w) := by
  have hcl : c < w.heap.size := h.out.lt
  have hb0 := below1 w (.cells #[.int .i64 0, .slice none 0 0, .slice none 0 0, .slice none 0 0] 27)
  have C0 := Lib.hid (h.out.below hb0)
  have G0 := Lib.hid ((World.grownBy.refl w (some c)) |> fun g => grownC_trans g (grown_of_below hb0))
  have KR0 : Hid (Blk (w.alloc (.cells #[.int .i64 0, .slice none 0 0, .slice none 0 0, .slice none 0 0] 27)) w.heap.size 27 [.int .i64 0, .slice none 0 0, .slice none 0 0, .slice none 0 0]) := Lib.hid (heap_alloc_new w _)
  clear hb0 h
  go_enter Tryd.func35, Tryd.ntmps35
  go_wp2_with fail
  generalize w.alloc (.cells #[.int .i64 0, .slice none 0 0, .slice none 0 0, .slice none 0 0] 27) = w0 at C0 G0 KR0 ⊢
  refine (specNewM_any _).mono ?_
  rintro e w1 ⟨g1, g2, g3, rfl, hm, hge, hb⟩
  have hz0 := G0.out.size
  have hlt0 := KR0.out.lt
  have hyl : g1 < w1.heap.size ∧ g2 < w1.heap.size ∧ g3 < w1.heap.size := ⟨hm.1.lt, hm.2.1.lt, hm.2.2.1.lt⟩
  have hs1 := hb.size
  have hbx := below1 w1 (.cells #[.int .i64 0, .slice (some ⟨g1, 0, none⟩) 6 6, .slice (some ⟨g2, 0, none⟩) 16 16, .slice (some ⟨g3, 0, none⟩) 16 16] 27)
  have D1 : Hid (DM w (w1.alloc (.cells #[.int .i64 0, .slice (some ⟨g1, 0, none⟩) 6 6, .slice (some ⟨g2, 0, none⟩) 16 16, .slice (some ⟨g3, 0, none⟩) 16 16] 27)) c K w1.heap.size g1 g2 g3 newM) := Lib.hid ⟨(C0.out.below hb).below hbx, heap_alloc_new w1 _, hm.below hbx, ⟨rfl, rfl, rfl⟩, by omega, (KR0.out.below hb).below hbx, grownC_trans (grownC_trans G0.out (grown_of_below hb)) (grown_of_below hbx)⟩
  clear hm hge hb hbx C0 G0 KR0 hyl
  go_wp2_with fail
  generalize w1.alloc (.cells #[.int .i64 0, .slice (some ⟨g1, 0, none⟩) 6 6, .slice (some ⟨g2, 0, none⟩) 16 16, .slice (some ⟨g3, 0, none⟩) 16 16] 27) = w2 at D1 ⊢
  obtain ⟨b, hb⟩ : ∃ q, w1.heap.size = q := ⟨_, rfl⟩
  rw [hb] at D1 ⊢
  clear hb
  refine (pick_any c K _ _ (Lib.hid D1.out.cur) (by omega) (by omega) (by omega)).mono ?_
  rintro e w3 ⟨at_, ⟨ha1, ha2⟩, rfl, hc3, hg3⟩
  have D3 := Lib.hid (D1.out.read hc3 hg3)
  clear hc3 hg3 D1
  have t0 : w3.cell? ⟨b, 0, none⟩ = some (.int .i64 0) := D3.out.box.there rfl
  have f0 := D3.out.box.frozen 0
  have D4 := Lib.hid (D3.out.setAt at_)
  have t1 : (w3.setCell ⟨b, 0, none⟩ (.int .i64 at_)).cell? ⟨b, 1, none⟩ = some (.slice (some ⟨g1, 0, none⟩) 6 6) := D4.out.box.there rfl
  go_wp2_with fail
  generalize w3.setCell ⟨b, 0, none⟩ (.int .i64 at_) = v4 at D4 ⊢
  clear t0 f0 t1 D3
  go_loopw [16] (fun i wr => ∃ (k : Nat) (m : Mch), k ≤ 6 ∧ i = .int .i64 k ∧ DM w wr c (K + 2 + 14 * k) b g1 g2 g3 m) (fun i _ => 6 - (intOf i).toNat)
  case atStart => exact ⟨0, _, Nat.zero_le _, rfl, D4.out⟩
  case round =>
    obtain ⟨k, m, hk, rfl, hdm⟩ := hrel
    have DW := Lib.hid hdm
    clear hdm D4
    by_cases hlt : k < 6
    · have DD : Hid (DM w (World.drew wr) c (K + 2 + 14 * k) b g1 g2 g3 m) := Lib.hid ⟨DW.out.cur.below (Below.refl _ _).drew, DW.out.box, DW.out.rows, DW.out.lens, DW.out.lo, DW.out.res, grownC_trans DW.out.grown (grown_of_below (Below.refl _ _).drew)⟩
      go_wp2_with fail
      refine wp_region_held_drew (S := fun W => W.cell? ⟨b, 1, none⟩ = some (.slice (some ⟨g1, 0, none⟩) 6 6)) (by kernel_rfl) ?_ (fun hHeld => ?_)
      · exact DD.out.box.there rfl
      generalize World.drew wr = u0 at DD hHeld ⊢
      clear DW
      refine wpAnyH_take (i := 0) (v := ?_) rfl (by kernel_rfl) (by kernel_rfl) (by kernel_rfl) (fun _ _ _ h => h) (Or.inl ⟨by rfl, ?_⟩) (by assumption) ?_
      rotate_left
      · intro W hSw
        try dsimp only at hSw
        go_simp
        try with_reducible rfl
      simp only [Act.put, List.setIfInBounds_toArray]
      refine wpAnyH_take (i := 1) (v := ?_) rfl (by kernel_rfl) (by kernel_rfl) (by kernel_rfl) (fun _ _ _ h => h) (Or.inl ⟨by rfl, ?_⟩) (by assumption) ?_
      rotate_left
      · intro W hSw
        try dsimp only at hSw
        go_simp
        try with_reducible rfl
      simp only [Act.put]
      refine wpAnyH_take (i := 2) (v := ?_) rfl (by kernel_rfl) (by kernel_rfl) (by kernel_rfl) (fun _ _ _ h => h) (Or.inl ⟨by rfl, ?_⟩) (by assumption) ?_
      rotate_left
      · intro W hSw
        try dsimp only at hSw
        go_simp
        try with_reducible rfl
      simp only [Act.put]
      refine wpAnyH_take (i := 3) (v := ?_) rfl (by kernel_rfl) (by kernel_rfl) (by kernel_rfl) (fun _ _ _ h => h) (Or.inl ⟨by rfl, ?_⟩) (by assumption) ?_
      rotate_left
      · intro W hSw
        try dsimp only at hSw
        go_simp
        try with_reducible rfl
      simp only [Act.put]
      refine wpAnyH_take (i := 4) (v := ?_) rfl (by kernel_rfl) (by kernel_rfl) (by kernel_rfl) (fun _ _ _ h => h) (Or.inl ⟨by rfl, ?_⟩) (by assumption) ?_
      rotate_left
      · intro W hSw
        try dsimp only at hSw
        go_simp
        try with_reducible rfl
      simp only [Act.put]
      refine wpAnyH_ready (rs := [5]) (by kernel_rfl) (by simp) ?_
      refine AllReadyH.cons rfl (fun K' hK' => ?_) AllReadyH.nil
      go_simp
      refine (word_any c _ _ (Lib.hid DD.out.cur) (by omega)).mono ?_
      rintro e u1 ⟨x, _, rfl, hc1, hg1'⟩
      have D1 := Lib.hid (DD.out.read hc1 hg1')
      refine hK'.out _ _ (D1.out.box.there rfl) (fun hHeld2 => ?_)
      clear hK' K' hc1 hg1' DD
      try simp only [Act.put, List.setIfInBounds_toArray, List.set_cons_zero, List.set_cons_succ]
      refine wpAnyH_ready (rs := [6]) (by kernel_rfl) (by simp) ?_
      refine AllReadyH.cons rfl (fun K' hK' => ?_) AllReadyH.nil
      go_simp
      have D2 := Lib.hid (D1.out.alloc (.cells #[.int .i64 0, .int .i64 1, .int .i64 5, .int .i64 x] 3))
      have hcu : c < u1.heap.size := D1.out.cur.lt
      have VC : Hid ([0, 1, 5, x].length = 4 ∧ ∀ i : Nat, i < 4 → (u1.alloc (.cells #[.int .i64 0, .int .i64 1, .int .i64 5, .int .i64 x] 3)).cell? ⟨u1.heap.size, i, none⟩ = some (.int .i64 ([0, 1, 5, x][i]?.getD 0))) := Lib.hid ⟨rfl, lit_cells u1 [0, 1, 5, x]⟩
      refine hK'.out _ _ (D2.out.box.there rfl) (fun hHeld3 => ?_)
      clear hK' K' D1
      try simp only [Act.put, List.setIfInBounds_toArray, List.set_cons_zero, List.set_cons_succ]
      refine wpAnyH_ready (rs := [7]) (by kernel_rfl) (by simp) ?_
      refine AllReadyH.cons rfl (fun K' hK' => ?_) AllReadyH.nil
      go_simp
      refine (among_any c _ u1.heap.size 4 [0, 1, 5, x] _ (Lib.hid D2.out.cur) (by omega) (by omega) (by omega) (by omega) VC).mono ?_
      rintro e u2 ⟨y, _, rfl, hc2, hg2'⟩
      have D3 := Lib.hid (D2.out.read hc2 hg2')
      refine hK'.out _ _ (D3.out.box.there rfl) (fun hHeld4 => ?_)
      clear hK' K' hc2 hg2' D2 VC
      try simp only [Act.put, List.setIfInBounds_toArray, List.set_cons_zero, List.set_cons_succ]
      refine wpAnyH_take (i := 8) (v := ?_) rfl (by kernel_rfl) (by kernel_rfl) (by kernel_rfl) (fun _ _ _ h => h) (Or.inl ⟨by rfl, ?_⟩) (by assumption) ?_
      rotate_left
      · intro W hSw
        try dsimp only at hSw
        go_simp
        try with_reducible rfl
      simp only [Act.put, List.setIfInBounds_toArray]
      obtain ⟨z, hz⟩ : ∃ z, m.r[k]? = some z := ⟨_, List.getElem?_eq_getElem (by have := D3.out.lens.1; omega)⟩
      have t1 : u2.cell? ⟨g1, k, none⟩ = some (.int .i64 z) := D3.out.rows.1.there (by rw [List.getElem?_map, hz]; rfl)
      have f1 := D3.out.rows.1.frozen k
      have D4 := Lib.hid (D3.out.setReg k y)
      clear hz
      refine wpAnyH_ready (rs := [9]) (by kernel_rfl) (by simp) ?_
      refine AllReadyH.cons rfl (fun K' hK' => ?_) AllReadyH.nil
      go_simp
      refine hK'.out _ _ (D4.out.box.there rfl) (fun hHeld5 => ?_)
      clear hK' K'
      refine wpAnyH_done (by kernel_rfl) ?_ _
      clear D3 t1 f1
      go_wp2
      go_roundw
      case rel => exact ⟨k + 1, _, by omega, by go_num, ⟨D4.out.cur.mono (by omega), D4.out.box, D4.out.rows, D4.out.lens, D4.out.lo, D4.out.res, D4.out.grown⟩⟩
      case measure => simp [intOf]; omega
    · obtain rfl : k = 6 := by omega
      rw [show (((6 : Nat)) : Int) = 6 from rfl]
      have t2 : wr.cell? ⟨b, 2, none⟩ = some (.slice (some ⟨g2, 0, none⟩) 16 16) := DW.out.box.there rfl
      go_wp2_with fail
      obtain ⟨wo, hwo⟩ : ∃ x, x = wr := ⟨_, rfl⟩
      subst hwo
      have DO := Lib.hid DW.out
      clear DW t2
      go_loopw [32] (fun i wr => ∃ (k : Nat) (m : Mch), k ≤ 16 ∧ i = .int .i64 k ∧ DM w wr c (K + 100 + 14 * k) b g1 g2 g3 m) (fun i _ => 16 - (intOf i).toNat)
      case atStart => exact ⟨0, _, Nat.zero_le _, rfl, ⟨DO.out.cur.mono (by omega), DO.out.box, DO.out.rows, DO.out.lens, DO.out.lo, DO.out.res, DO.out.grown⟩⟩
      case round =>
        clear DO hlt hk
        obtain ⟨k, m, hk, rfl, hdm⟩ := hrel
        have DW := Lib.hid hdm
        clear hdm
        by_cases hlt : k < 16
        · go_wp2_with fail
          refine (one_any c _ _ _ (Lib.hid DW.out.cur) (by omega) (by omega) (by omega)).mono ?_
          rintro e u1 ⟨bb, rfl, hc1, hg1'⟩
          have D1 := Lib.hid (DW.out.read hc1 hg1')
          clear hc1 hg1' DW
          cases bb
          · go_wp2
            go_roundw
            case rel => exact ⟨k + 1, _, by omega, by go_num, ⟨D1.out.cur.mono (by omega), D1.out.box, D1.out.rows, D1.out.lens, D1.out.lo, D1.out.res, D1.out.grown⟩⟩
            case measure => simp [intOf]; omega
          have DD : Hid (DM w (World.drew u1) c (K + 100 + 14 * k + 2) b g1 g2 g3 m) := Lib.hid ⟨D1.out.cur.below (Below.refl _ _).drew, D1.out.box, D1.out.rows, D1.out.lens, D1.out.lo, D1.out.res, grownC_trans D1.out.grown (grown_of_below (Below.refl _ _).drew)⟩
          go_wp2_with fail
          refine wp_region_held_drew (S := fun W => W.cell? ⟨b, 2, none⟩ = some (.slice (some ⟨g2, 0, none⟩) 16 16)) (by kernel_rfl) ?_ (fun hHeld => ?_)
          · exact DD.out.box.there rfl
          generalize World.drew u1 = u2 at DD hHeld ⊢
          clear D1
          refine wpAnyH_take (i := 0) (v := ?_) rfl (by kernel_rfl) (by kernel_rfl) (by kernel_rfl) (fun _ _ _ h => h) (Or.inl ⟨by rfl, ?_⟩) (by assumption) ?_
          rotate_left
          · intro W hSw
            try dsimp only at hSw
            go_simp
            try with_reducible rfl
          simp only [Act.put, List.setIfInBounds_toArray]
          refine wpAnyH_take (i := 1) (v := ?_) rfl (by kernel_rfl) (by kernel_rfl) (by kernel_rfl) (fun _ _ _ h => h) (Or.inl ⟨by rfl, ?_⟩) (by assumption) ?_
          rotate_left
          · intro W hSw
            try dsimp only at hSw
            go_simp
            try with_reducible rfl
          simp only [Act.put]
          refine wpAnyH_take (i := 2) (v := ?_) rfl (by kernel_rfl) (by kernel_rfl) (by kernel_rfl) (fun _ _ _ h => h) (Or.inl ⟨by rfl, ?_⟩) (by assumption) ?_
          rotate_left
          · intro W hSw
            try dsimp only at hSw
            go_simp
            try with_reducible rfl
          simp only [Act.put]
          refine wpAnyH_take (i := 3) (v := ?_) rfl (by kernel_rfl) (by kernel_rfl) (by kernel_rfl) (fun _ _ _ h => h) (Or.inl ⟨by rfl, ?_⟩) (by assumption) ?_
          rotate_left
          · intro W hSw
            try dsimp only at hSw
            go_simp
            try with_reducible rfl
          simp only [Act.put]
          refine wpAnyH_ready (rs := [4]) (by kernel_rfl) (by simp) ?_
          refine AllReadyH.cons rfl (fun K' hK' => ?_) AllReadyH.nil
          go_simp
          refine (word_any c _ _ (Lib.hid DD.out.cur) (by omega)).mono ?_
          rintro e u3 ⟨x, _, rfl, hc3, hg3'⟩
          have D3 := Lib.hid (DD.out.read hc3 hg3')
          refine hK'.out _ _ (D3.out.box.there rfl) (fun hHeld2 => ?_)
          clear hK' K' hc3 hg3' DD
          try simp only [Act.put, List.setIfInBounds_toArray, List.set_cons_zero, List.set_cons_succ]
          refine wpAnyH_take (i := 5) (v := ?_) rfl (by kernel_rfl) (by kernel_rfl) (by kernel_rfl) (fun _ _ _ h => h) (Or.inl ⟨by rfl, ?_⟩) (by assumption) ?_
          rotate_left
          · intro W hSw
            try dsimp only at hSw
            go_simp
            try with_reducible rfl
          simp only [Act.put, List.setIfInBounds_toArray]
          obtain ⟨z, hz⟩ : ∃ z, m.c[k]? = some z := ⟨_, List.getElem?_eq_getElem (by have := D3.out.lens.2.1; omega)⟩
          have t1 : u3.cell? ⟨g2, k, none⟩ = some (.int .i64 z) := D3.out.rows.2.1.there (by rw [List.getElem?_map, hz]; rfl)
          have f1 := D3.out.rows.2.1.frozen k
          have D4 := Lib.hid (D3.out.setCel k x)
          clear hz
          refine wpAnyH_ready (rs := [6]) (by kernel_rfl) (by simp) ?_
          refine AllReadyH.cons rfl (fun K' hK' => ?_) AllReadyH.nil
          go_simp
          refine hK'.out _ _ (D4.out.box.there rfl) (fun hHeld5 => ?_)
          clear hK' K'
          refine wpAnyH_done (by kernel_rfl) ?_ _
          clear D3 t1 f1
          generalize u3.setCell ⟨g2, k, none⟩ (.int .i64 x) = u4 at D4 hHeld5 ⊢
          have t3 : u4.cell? ⟨b, 3, none⟩ = some (.slice (some ⟨g3, 0, none⟩) 16 16) := D4.out.box.there rfl
          obtain ⟨z, hz⟩ : ∃ z, m.s[k]? = some z := ⟨_, List.getElem?_eq_getElem (by have := D4.out.lens.2.2; simp only at this; omega)⟩
          have t1 : u4.cell? ⟨g3, k, none⟩ = some (.bool z) := D4.out.rows.2.2.1.there (by rw [List.getElem?_map]; simp only; rw [hz]; rfl)
          have f1 := D4.out.rows.2.2.1.frozen k
          have D5 := Lib.hid (D4.out.setFlag k true)
          clear hz D4
          go_wp2
          go_roundw
          case rel => exact ⟨k + 1, ⟨m.a, m.r, m.c.set k x, m.s.set k true⟩, by omega, by go_num, ⟨D5.out.cur.mono (by omega), D5.out.box, D5.out.rows, D5.out.lens, D5.out.lo, D5.out.res, D5.out.grown⟩⟩
          case measure => simp [intOf]; omega
        · obtain rfl : k = 16 := by omega
          go_wp2_with fail
          refine (one_any c _ _ _ (Lib.hid DW.out.cur) (by omega) (by omega) (by omega)).mono ?_
          rintro e u1 ⟨bb, rfl, hc1, hg1'⟩
          have D1 := Lib.hid (DW.out.read hc1 hg1')
          clear hc1 hg1' DW
          cases bb
          · have p0 : u1.cell? ⟨b, 0, none⟩ = some (.int .i64 m.a) := D1.out.box.there rfl
            have q0 : u1.cell? ⟨w.heap.size, 0, none⟩ = some (.int .i64 0) := D1.out.res.there rfl
            have r0 := D1.out.res.frozen 0
            have p1 : u1.cell? ⟨b, 1, none⟩ = some (.slice (some ⟨g1, 0, none⟩) 6 6) := D1.out.box.there rfl
            have q1 : u1.cell? ⟨w.heap.size, 1, none⟩ = some (.slice none 0 0) := D1.out.res.there rfl
            have r1 := D1.out.res.frozen 1
            have p2 : u1.cell? ⟨b, 2, none⟩ = some (.slice (some ⟨g2, 0, none⟩) 16 16) := D1.out.box.there rfl
            have q2 : u1.cell? ⟨w.heap.size, 2, none⟩ = some (.slice none 0 0) := D1.out.res.there rfl
            have r2 := D1.out.res.frozen 2
            have p3 : u1.cell? ⟨b, 3, none⟩ = some (.slice (some ⟨g3, 0, none⟩) 16 16) := D1.out.box.there rfl
            have q3 : u1.cell? ⟨w.heap.size, 3, none⟩ = some (.slice none 0 0) := D1.out.res.there rfl
            have r3 := D1.out.res.frozen 3
            have hne : b ≠ w.heap.size := by have := D1.out.lo; omega
            go_wp2
            exact mach_shut D1.out (by omega) (by simp [results, Tryd.results35, go_sem, q0, q1, q2, q3])
          · have DD : Hid (DM w (World.drew u1) c (K + 100 + 14 * 16 + 2) b g1 g2 g3 m) := Lib.hid ⟨D1.out.cur.below (Below.refl _ _).drew, D1.out.box, D1.out.rows, D1.out.lens, D1.out.lo, D1.out.res, grownC_trans D1.out.grown (grown_of_below (Below.refl _ _).drew)⟩
            go_wp2_with fail
            refine wp_region_held_drew (S := fun W => W.cell? ⟨b, 1, none⟩ = some (.slice (some ⟨g1, 0, none⟩) 6 6)) (by kernel_rfl) ?_ (fun hHeld => ?_)
            · exact DD.out.box.there rfl
            generalize World.drew u1 = u2 at DD hHeld ⊢
            clear D1
            refine wpAnyH_take (i := 0) (v := ?_) rfl (by kernel_rfl) (by kernel_rfl) (by kernel_rfl) (fun _ _ _ h => h) (Or.inl ⟨by rfl, ?_⟩) (by assumption) ?_
            rotate_left
            · intro W hSw
              try dsimp only at hSw
              go_simp
              try with_reducible rfl
            simp only [Act.put, List.setIfInBounds_toArray]
            refine wpAnyH_take (i := 1) (v := ?_) rfl (by kernel_rfl) (by kernel_rfl) (by kernel_rfl) (fun _ _ _ h => h) (Or.inl ⟨by rfl, ?_⟩) (by assumption) ?_
            rotate_left
            · intro W hSw
              try dsimp only at hSw
              go_simp
              try with_reducible rfl
            simp only [Act.put]
            refine wpAnyH_take (i := 2) (v := ?_) rfl (by kernel_rfl) (by kernel_rfl) (by kernel_rfl) (fun _ _ _ h => h) (Or.inl ⟨by rfl, ?_⟩) (by assumption) ?_
            rotate_left
            · intro W hSw
              try dsimp only at hSw
              go_simp
              try with_reducible rfl
            simp only [Act.put]
            refine wpAnyH_ready (rs := [3]) (by kernel_rfl) (by simp) ?_
            refine AllReadyH.cons rfl (fun K' hK' => ?_) AllReadyH.nil
            go_simp
            have D2 := Lib.hid (DD.out.alloc (.cells #[.int .i64 (-1), .int .i64 65536] 3))
            have hcu : c < u2.heap.size := DD.out.cur.lt
            have VC : Hid ([-1, 65536].length = 2 ∧ ∀ i : Nat, i < 2 → (u2.alloc (.cells #[.int .i64 (-1), .int .i64 65536] 3)).cell? ⟨u2.heap.size, i, none⟩ = some (.int .i64 (([-1, 65536] : List Int)[i]?.getD 0))) := Lib.hid ⟨rfl, lit_cells u2 [-1, 65536]⟩
            refine hK'.out _ _ (D2.out.box.there rfl) (fun hHeld3 => ?_)
            clear hK' K' DD
            try simp only [Act.put, List.setIfInBounds_toArray, List.set_cons_zero, List.set_cons_succ]
            refine wpAnyH_ready (rs := [4]) (by kernel_rfl) (by simp) ?_
            refine AllReadyH.cons rfl (fun K' hK' => ?_) AllReadyH.nil
            go_simp
            refine (among_any c _ u2.heap.size 2 [-1, 65536] _ (Lib.hid D2.out.cur) (by omega) (by omega) (by omega) (by omega) VC).mono ?_
            rintro e u3 ⟨y, _, rfl, hc2, hg2'⟩
            have D3 := Lib.hid (D2.out.read hc2 hg2')
            refine hK'.out _ _ (D3.out.box.there rfl) (fun hHeld4 => ?_)
            clear hK' K' hc2 hg2' D2 VC
            try simp only [Act.put, List.setIfInBounds_toArray, List.set_cons_zero, List.set_cons_succ]
            refine wpAnyH_take (i := 5) (v := ?_) rfl (by kernel_rfl) (by kernel_rfl) (by kernel_rfl) (fun _ _ _ h => h) (Or.inl ⟨by rfl, ?_⟩) (by assumption) ?_
            rotate_left
            · intro W hSw
              try dsimp only at hSw
              go_simp
              try with_reducible rfl
            simp only [Act.put, List.setIfInBounds_toArray]
            obtain ⟨z, hz⟩ : ∃ z, m.r[0]? = some z := ⟨_, List.getElem?_eq_getElem (by have := D3.out.lens.1; omega)⟩
            have t1 : u3.cell? ⟨g1, 0, none⟩ = some (.int .i64 z) := D3.out.rows.1.there (by rw [List.getElem?_map, hz]; rfl)
            have f1 := D3.out.rows.1.frozen 0
            have D4 := Lib.hid (D3.out.setReg 0 y)
            clear hz
            refine wpAnyH_ready (rs := [6]) (by kernel_rfl) (by simp) ?_
            refine AllReadyH.cons rfl (fun K' hK' => ?_) AllReadyH.nil
            go_simp
            refine hK'.out _ _ (D4.out.box.there rfl) (fun hHeld5 => ?_)
            clear hK' K'
            refine wpAnyH_done (by kernel_rfl) ?_ _
            clear D3 t1 f1
            generalize u3.setCell ⟨g1, 0, none⟩ (.int .i64 y) = u4 at D4 hHeld5 ⊢
            have p0 : u4.cell? ⟨b, 0, none⟩ = some (.int .i64 m.a) := D4.out.box.there rfl
            have q0 : u4.cell? ⟨w.heap.size, 0, none⟩ = some (.int .i64 0) := D4.out.res.there rfl
            have r0 := D4.out.res.frozen 0
            have p1 : u4.cell? ⟨b, 1, none⟩ = some (.slice (some ⟨g1, 0, none⟩) 6 6) := D4.out.box.there rfl
            have q1 : u4.cell? ⟨w.heap.size, 1, none⟩ = some (.slice none 0 0) := D4.out.res.there rfl
            have r1 := D4.out.res.frozen 1
            have p2 : u4.cell? ⟨b, 2, none⟩ = some (.slice (some ⟨g2, 0, none⟩) 16 16) := D4.out.box.there rfl
            have q2 : u4.cell? ⟨w.heap.size, 2, none⟩ = some (.slice none 0 0) := D4.out.res.there rfl
            have r2 := D4.out.res.frozen 2
            have p3 : u4.cell? ⟨b, 3, none⟩ = some (.slice (some ⟨g3, 0, none⟩) 16 16) := D4.out.box.there rfl
            have q3 : u4.cell? ⟨w.heap.size, 3, none⟩ = some (.slice none 0 0) := D4.out.res.there rfl
            have r3 := D4.out.res.frozen 3
            have hne : b ≠ w.heap.size := by have := D4.out.lo; omega
            go_wp2
            exact mach_shut D4.out (by omega) (by simp [results, Tryd.results35, go_sem, q0, q1, q2, q3])

/-- a drawn program, context and machine -/
def DrewPCM (w : World) (e : Ending) (w' : World) : Prop :=
  ∃ (xs : List Stp) (l : List Int) (m : Mch) (A B : Option Addr) (c1 c2 g1 g2 g3 : Nat), e = .returned (.tuple #[.slice A xs.length c1, .slice B 8 c2, .agg #[.int .i64 m.a, .slice (some ⟨g1, 0, none⟩) 6 6, .slice (some ⟨g2, 0, none⟩) 16 16, .slice (some ⟨g3, 0, none⟩) 16 16]]) ∧ (1 ≤ xs.length ∧ xs.length ≤ 20) ∧ l.length = 8 ∧ Lens m 6 16 16 ∧ Lies w' A xs ∧ ILies w' B l ∧ MLies w' (some ⟨g1, 0, none⟩) (some ⟨g2, 0, none⟩) (some ⟨g3, 0, none⟩) m ∧ Below w.heap.size w w'
theorem blk_types {w : World} {g h : Nat} {t u : TypeId} {a b : List Value} (k : Blk w g t a) (j : Blk w h u b) (hn : t ≠ u) : g ≠ h := by
  rintro rfl
  have e := k.symm.trans j
  simp only [Option.some.injEq, Obj.cells.injEq] at e
  exact hn e.2.1
theorem grown_set4 (w : World) (g : Nat) (u0 u1 u2 u3 : Value) : w.grownBy ((((w.setCell ⟨g, 0, none⟩ u0).setCell ⟨g, 1, none⟩ u1).setCell ⟨g, 2, none⟩ u2).setCell ⟨g, 3, none⟩ u3) (some g) := by
  have one : ∀ (w : World) (j : Nat) (u : Value), w.grownBy (w.setCell ⟨g, j, none⟩ u) (some g) := fun w j u =>
    ⟨rfl, rfl, rfl, by simp, fun i _ hne => Below.heap_setCell w ⟨g, j, none⟩ u i (fun e => hne (by rw [e]))⟩
  exact grownC_trans (grownC_trans (grownC_trans (one _ _ _) (one _ _ _)) (one _ _ _)) (one _ _ _)
theorem blk_grown {w w' : World} {g c : Nat} {t : TypeId} {a : List Value} (k : Blk w g t a) (hg : w.grownBy w' (some c)) (hn : g ≠ c) : Blk w' g t a :=
  (hg.block g k.lt (fun e => hn (Option.some.inj e))).trans k
set_option maxRecDepth 100000 in
set_option maxHeartbeats 4000000 in
theorem drawDo_any (a0 : Option Addr) (len cap : Nat) (w : World) (h : Hid (Bytes w a0 len)) :
    Calls Tryd.prog 6 #[.slice a0 len cap] w (DrewPCM w) := by
  have hb0 := below1 w (.cells #[.int .i64 0, .slice none 0 0, .slice none 0 0, .slice none 0 0] 27)
  have C0 : Hid (Cur ((w.alloc (.cells #[.int .i64 0, .slice none 0 0, .slice none 0 0, .slice none 0 0] 27)).alloc (.cells #[.slice a0 len cap, .int .i64 0, .int .u64 0] 66)) (w.heap.size + 1) 0) := Lib.hid (by
    have := Cur.new (cap := cap) (h.out.below hb0)
    simpa using this)
  have R0 : Hid (Blk ((w.alloc (.cells #[.int .i64 0, .slice none 0 0, .slice none 0 0, .slice none 0 0] 27)).alloc (.cells #[.slice a0 len cap, .int .i64 0, .int .u64 0] 66)) w.heap.size 27 [.int .i64 0, .slice none 0 0, .slice none 0 0, .slice none 0 0]) := Lib.hid (Blk.below (heap_alloc_new w _) (below1 _ _))
  have B0 := Lib.hid (Below.tr hb0 (below1 _ (.cells #[.slice a0 len cap, .int .i64 0, .int .u64 0] 66)))
  clear hb0 h
  go_enter Tryd.func6, Tryd.ntmps6
  go_wp2_with fail
  generalize (w.alloc (.cells #[.int .i64 0, .slice none 0 0, .slice none 0 0, .slice none 0 0] 27)).alloc (.cells #[.slice a0 len cap, .int .i64 0, .int .u64 0] 66) = v0 at C0 R0 B0 ⊢
  have hz0 := C0.out.lt
  refine (program_any (w.heap.size + 1) 0 _ C0 (by omega)).mono ?_
  rintro e w1 ⟨xs, A, c1, rfl, hx, hc, ho, hg, hcl⟩
  have C1 := Lib.hid hc
  have O1 := Lib.hid ho
  have B1 := Lib.hid (B0.out.grown hg B0.out.size (fun k hk => by cases hk; omega))
  have R1 := Lib.hid (blk_grown R0.out hg (by omega))
  have Z1 := hg.size
  clear hc ho hg hcl C0 R0
  obtain ⟨n, hn⟩ : ∃ n, xs.length = n := ⟨_, rfl⟩
  rw [hn] at hx O1 ⊢
  have HN := Lib.hid hn
  clear hn
  go_wp2_with fail
  refine (ctx_any (w.heap.size + 1) _ _ C1 (by omega)).mono ?_
  rintro e w2 ⟨l, B, c2, rfl, hl, ho2, hc2, hg2⟩
  have C2 := Lib.hid hc2
  have O2 := Lib.hid (kept_of O1.out hg2 (fun g hgb e => by have h1 := (O1.out.lt g hgb).1; have h2 := Option.some.inj e; omega))
  have I2 := Lib.hid ho2
  have B2 := Lib.hid (B1.out.grown hg2 B1.out.size (fun k hk => by cases hk; omega))
  have R2 := Lib.hid (blk_grown R1.out hg2 (by omega))
  have HL := Lib.hid hl
  clear hc2 ho2 hg2 C1 O1 R1 B1 hl
  go_wp2_with fail
  refine (machine_any (w.heap.size + 1) _ n _ C2 (by omega) (by omega) (by omega)).mono ?_
  rintro e w3 ⟨m, g1, g2, g3, rfl, hm, hlen, hc3, hg3⟩
  have O3 := Lib.hid (kept_of O2.out hg3 (fun g hgb e => by have h1 := (O2.out.lt g hgb).1; have h2 := Option.some.inj e; omega))
  have I3 := Lib.hid (ownR_read I2.out hg3 (by omega))
  have B3 := Lib.hid (B2.out.grown hg3 B2.out.size (fun k hk => by cases hk; omega))
  have R3 := Lib.hid (blk_grown R2.out hg3 (by omega))
  have M3 := Lib.hid hm
  have HLN := Lib.hid hlen
  clear hm hlen hc3 hg3 C2 O2 I2 R2 B2
  have r0 := R3.out.cell 0
  have r1 := R3.out.cell 1
  have r2 := R3.out.cell 2
  have r3 := R3.out.cell 3
  simp only [List.getElem?_cons_zero, List.getElem?_cons_succ] at r0 r1 r2 r3
  have f0 := R3.out.frozen 0
  have f1 := R3.out.frozen 1
  have f2 := R3.out.frozen 2
  have f3 := R3.out.frozen 3
  go_wp2
  have HG := grown_set4 w3 w.heap.size (.int .i64 m.a) (.slice (some ⟨g1, 0, none⟩) 6 6) (.slice (some ⟨g2, 0, none⟩) 16 16) (.slice (some ⟨g3, 0, none⟩) 16 16)
  have RB := (((R3.out.set 0 (.int .i64 m.a)).set 1 (.slice (some ⟨g1, 0, none⟩) 6 6)).set 2 (.slice (some ⟨g2, 0, none⟩) 16 16)).set 3 (.slice (some ⟨g3, 0, none⟩) 16 16)
  have LI := own_lies' (kept_of O3.out HG (fun g hgb e => by have h1 := (O3.out.lt g hgb).1; have h2 := Option.some.inj e; omega))
  have CI := own_ilies (kept_of I3.out HG (fun g hgb e => by have h1 := (I3.out.lt g hgb).1; have h2 := Option.some.inj e; omega))
  have ty : (27 : TypeId) ≠ 3 := by decide
  have ty2 : (27 : TypeId) ≠ 4 := by decide
  have n1 := blk_types R3.out M3.out.1 ty
  have n2 := blk_types R3.out M3.out.2.1 ty
  have n3 := blk_types R3.out M3.out.2.2.1 ty2
  have MI := (Kept.mblk (S := fun g => g = w.heap.size) (Kept.of_grown HG (fun g e => (Option.some.inj e).symm)) M3.out (Ne.symm n1) (Ne.symm n2) (Ne.symm n3)).lies
  have BE := B3.out.grown HG B3.out.size (fun k hk => by cases hk; exact Nat.le_refl _)
  have q0 := RB.cell 0
  have q1 := RB.cell 1
  have q2 := RB.cell 2
  have q3 := RB.cell 3
  simp only [List.set_cons_zero, List.set_cons_succ, List.getElem?_cons_zero, List.getElem?_cons_succ] at q0 q1 q2 q3
  exact bodyPost_ret (v := .tuple #[.slice A n c1, .slice B 8 c2, .agg #[.int .i64 m.a, .slice (some ⟨g1, 0, none⟩) 6 6, .slice (some ⟨g2, 0, none⟩) 16 16, .slice (some ⟨g3, 0, none⟩) 16 16]]) (by simp [results, Tryd.results6, go_sem, q0, q1, q2, q3]) rfl
    ⟨xs, l, m, A, B, c1, c2, g1, g2, g3, by rw [HN.out], by rw [HN.out]; exact hx, HL.out, HLN.out, LI, CI, MI, BE⟩
/-- a drawn program and context for FaultFree -/
theorem drawFree_any (a0 : Option Addr) (len cap : Nat) (w : World) (h : Hid (Bytes w a0 len)) :
    Calls Tryd.prog 14 #[.slice a0 len cap] w (DrewPC w) := by
  go_enter Tryd.func14, Tryd.ntmps14
  go_wp2_with fail
  refine (drawTrace_any a0 len cap _ h).mono ?_
  rintro e w1 ⟨xs, l, A, B, c1, c2, rfl, hx, hl, h1, h2, hb⟩
  have B1 := Lib.hid hb
  have L1 := Lib.hid h1
  have L2 := Lib.hid h2
  have HL := Lib.hid hl
  obtain ⟨n, hn⟩ : ∃ n, xs.length = n := ⟨_, rfl⟩
  rw [hn] at hx ⊢
  have HN := Lib.hid hn
  clear hb h1 h2 hl hn
  go_wp2
  go_ret2
  exact ⟨xs, l, A, B, c1, c2, by rw [HN.out]; rfl, by rw [HN.out]; exact hx, HL.out, L1.out, L2.out, B1.out⟩

theorem doM_ends (x : Stp) (ctx : List Int) (m : Mch) : (doM x ctx m).2.2 = decide (x.k = 11) := by
  unfold doM
  by_cases h : x.k = 11
  · rw [if_pos h]; simp [h]
  · rw [if_neg h]
    have e : decide (x.k = 11) = false := decide_eq_false h
    rw [e]
    repeat' split
    all_goals rfl
theorem step_facts {g : Bool} {xs : List Stp} {ctx : List Int} {m M : Mch} {f : Int} {en ok : Bool} (HG : g = true ↔ Good xs) (h : stepD g xs ctx m = (M, f, en, ok)) (hok : ok = true) (hf : f = 0) :
    ∃ (x : Stp) (a : Nat), m.a = a ∧ a < xs.length ∧ xs[a]? = some x ∧ Good xs ∧ goodMB m = true ∧ goodMB M = true ∧ en = decide (x.k = 11) ∧ (en = false → M.a ∈ nextsI x.k x.t m.a) ∧
      M.r.length = 6 ∧ M.c.length = 16 ∧ M.s.length = 16 ∧ m.r.length = 6 ∧ m.c.length = 16 ∧ m.s.length = 16 ∧ 0 ≤ x.d ∧ 0 ≤ x.i ∧
      (∀ j : Nat, (j : Int) ≠ x.d → M.r[j]? = m.r[j]?) ∧ (∀ j : Nat, x.k ≠ 7 ∨ (j : Int) ≠ x.i → M.c[j]? = m.c[j]? ∧ M.s[j]? = m.s[j]?) := by
  subst hok hf
  unfold stepD at h
  split at h
  · rename_i hc
    simp only [Bool.and_eq_true, decide_eq_true_eq] at hc
    obtain ⟨⟨⟨hg, hcx⟩, hgm⟩, hlt⟩ := hc
    have GX := HG.1 hg
    have GM := (goodM_iff m).1 hgm
    obtain ⟨a, ha⟩ := Int.eq_ofNat_of_zero_le GM.a.1
    have hal : a < xs.length := by omega
    obtain ⟨x, hx⟩ : ∃ x, xs[a]? = some x := ⟨_, List.getElem?_eq_getElem hal⟩
    have e : m.a.toNat = a := by omega
    rw [e, hx] at h
    simp only at h
    split at h
    · rename_i h0
      simp only [Prod.mk.injEq, true_and, and_true] at h
      obtain ⟨rfl, rfl⟩ := h
      have hfit := GX.2 a x hx
      have hb := okP_bounds (okB_yes hfit.1)
      have hln := doM_lens GM.r GM.c GM.s x ctx
      have hen := doM_ends x ctx m
      simp only [ctxB, Bool.and_eq_true, decide_eq_true_eq] at hcx
      refine ⟨x, a, ha, hal, hx, GX, hgm, ?_, hen, ?_, hln.1, hln.2.1, hln.2.2, GM.r, GM.c, GM.s, hb.2.2.1.1, hb.2.2.2.2.1.1, fun j hj => doM_regs x ctx m hj hb.2.2.1.1, fun j hj => doM_cells x ctx m hj hb.2.2.2.2.1.1⟩
      · cases he : (doM x ctx m).2.2
        · exact (goodM_iff _).2 (doM_good GX.1.2 GM hcx.2 hcx.1 (by rw [e]; exact hfit) h0 he).1
        · have hk : x.k = 11 := by rw [he] at hen; simpa using hen.symm
          have : (doM x ctx m).1 = m := by unfold doM; rw [if_pos hk]
          rw [this]; exact hgm
      · intro he
        exact (doM_good GX.1.2 GM hcx.2 hcx.1 (by rw [e]; exact hfit) h0 he).2.1
    · rename_i h0
      simp only [Prod.mk.injEq] at h
      exact absurd h.2.1 h0
  · simp at h
/-- a machine's box -/
def MBx (w : World) (g : Nat) (v0 v1 v2 v3 : Value) : Prop := Blk w g 27 [v0, v1, v2, v3]
theorem MBx.c0 {w : World} {g : Nat} {v0 v1 v2 v3 : Value} (k : MBx w g v0 v1 v2 v3) : w.cell? ⟨g, 0, none⟩ = some v0 := Blk.cell k 0
theorem MBx.c1 {w : World} {g : Nat} {v0 v1 v2 v3 : Value} (k : MBx w g v0 v1 v2 v3) : w.cell? ⟨g, 1, none⟩ = some v1 := Blk.cell k 1
theorem MBx.c2 {w : World} {g : Nat} {v0 v1 v2 v3 : Value} (k : MBx w g v0 v1 v2 v3) : w.cell? ⟨g, 2, none⟩ = some v2 := Blk.cell k 2
theorem MBx.c3 {w : World} {g : Nat} {v0 v1 v2 v3 : Value} (k : MBx w g v0 v1 v2 v3) : w.cell? ⟨g, 3, none⟩ = some v3 := Blk.cell k 3
theorem MBx.below {w w' : World} {g : Nat} {v0 v1 v2 v3 : Value} (k : MBx w g v0 v1 v2 v3) (hb : Below w.heap.size w w') : MBx w' g v0 v1 v2 v3 := Blk.below k hb
theorem MBx.new (w : World) (v0 v1 v2 v3 : Value) : MBx (w.alloc (.cells #[v0, v1, v2, v3] 27)) w.heap.size v0 v1 v2 v3 := heap_alloc_new w _
theorem MBx.lt {w : World} {g : Nat} {v0 v1 v2 v3 : Value} (k : MBx w g v0 v1 v2 v3) : g < w.heap.size := Blk.lt k
theorem MLies.below' {w w' : World} {A1 A2 A3 : Option Addr} {m : Mch} (h : MLies w A1 A2 A3 m) (hb : Below w.heap.size w w') : MLies w' A1 A2 A3 m := h.below hb
theorem take_snocS {l : List Int} {k : Nat} {x : Int} (h : l[k]? = some x) : l.take (k + 1) = l.take k ++ [x] := by
  have hlt := (List.getElem?_eq_some_iff.1 h).1
  rw [List.take_succ_eq_append_getElem hlt, (List.getElem?_eq_some_iff.1 h).2]
set_option maxRecDepth 100000 in
set_option maxHeartbeats 1000000 in
theorem hasS_any (A : Option Addr) (n cap : Nat) (l : List Int) (y : Int) (w : World) (hl : Hid (ILies w A l)) (HX : Hid (l.length = n)) (hn : n ≤ 9223372036854775807) (hy : Hid (y ∈ l)) :
    Calls Tryd.prog 13 #[.slice A n cap, .int .i64 y] w fun e w' => e = .returned (.bool true) ∧ w = w' := by
  go_enter Tryd.func13, Tryd.ntmps13
  go_wp2_with fail
  go_loop [9] (fun i => ∃ k : Nat, k ≤ n ∧ i = .int .i64 k ∧ y ∉ l.take k) (fun i => n - (intOf i).toNat)
  case atStart => exact ⟨0, Nat.zero_le _, rfl, by simp⟩
  case round =>
    obtain ⟨k, hk, rfl, hnot⟩ := hrel
    have HN := Lib.hid hnot
    clear hnot
    by_cases hlt : k < n
    · obtain ⟨x, hx⟩ : ∃ x, l[k]? = some x := ⟨_, List.getElem?_eq_getElem (by have := HX.out; omega)⟩
      obtain ⟨b, off, rfl, hbl, ha⟩ := hl.out k x hx
      have HT := Lib.hid (take_snocS hx)
      clear hx
      cases q : (x == y)
      · go_wp2
        go_round
        case rel => exact ⟨k + 1, by omega, by go_num, by rw [HT.out]; simp at q; simp; exact ⟨HN.out, fun e => q e.symm⟩⟩
        case measure => simp [intOf]; omega
      · go_wp2
        go_ret
        exact ⟨rfl, rfl⟩
    · obtain rfl : k = n := by omega
      exfalso
      exact HN.out (by rw [List.take_of_length_le (by have := HX.out; omega)]; exact hy.out)
end Go.Proofs.YtkffggnajoohfaaDoor
