/-
  DoStep, whatever the arguments: the model's and the program's answer alike.
-/
import Derived.Test.YtfcfnpdomjpibaaDoorSpecDo
namespace Go.Proofs.YtfcfnpdomjpibaaDoor
open Go.ChangeShapes Go.WideShapes Go.ChangeAt Go.RowKit

/-- a machine whose rows are the call's own; each may be nil -/
structure RowsM (w : World) (base : Nat) (U1 U2 U3 : Option Addr) (l1 l2 l3 k1 k2 k3 : Nat) (m : Mch) : Prop where
  r : w.ownsRow base 3 1 (.slice U1 l1 k1) l1 (m.r.map (Value.int .i64))
  c : w.ownsRow base 3 1 (.slice U2 l2 k2) l2 (m.c.map (Value.int .i64))
  s : w.ownsRow base 4 1 (.slice U3 l3 k3) l3 (m.s.map Value.bool)
  n12 : ∀ g, (Value.slice U1 l1 k1).ownBlock = some g → (Value.slice U2 l2 k2).ownBlock ≠ some g
  n13 : ∀ g, (Value.slice U1 l1 k1).ownBlock = some g → (Value.slice U3 l3 k3).ownBlock ≠ some g
  n23 : ∀ g, (Value.slice U2 l2 k2).ownBlock = some g → (Value.slice U3 l3 k3).ownBlock ≠ some g
/-- the blocks of a machine -/
def MB (U1 U2 U3 : Option Addr) (l1 l2 l3 k1 k2 k3 : Nat) (g : Nat) : Prop := (Value.slice U1 l1 k1).ownBlock = some g ∨ (Value.slice U2 l2 k2).ownBlock = some g ∨ (Value.slice U3 l3 k3).ownBlock = some g
section
variable {w w' : World} {base l1 l2 l3 k1 k2 k3 : Nat} {U1 U2 U3 : Option Addr} {m : Mch}
theorem RowsM.below (h : RowsM w base U1 U2 U3 l1 l2 l3 k1 k2 k3 m) (hb : Below w.heap.size w w') : RowsM w' base U1 U2 U3 l1 l2 l3 k1 k2 k3 m :=
  ⟨own_below h.r hb, own_below h.c hb, own_below h.s hb, h.n12, h.n13, h.n23⟩
theorem RowsM.lies (h : RowsM w base U1 U2 U3 l1 l2 l3 k1 k2 k3 m) : MLies w U1 U2 U3 m := ⟨own_ilies h.r, own_ilies h.c, own_blies h.s⟩
theorem own_keptU {n c : Nat} {U : Option Addr} {t : TypeId} {vs : List Value} {S : Nat → Prop} (h : w.ownsRow base t 1 (.slice U n c) n vs) (hk : Kept w w' S) (hn : ∀ g, (Value.slice U n c).ownBlock = some g → ¬ S g) : w'.ownsRow base t 1 (.slice U n c) n vs := by
  refine ⟨h.1, ?_⟩
  rcases h.2 with hn' | ⟨g', cap, cur, h', hg, hgg, rest⟩
  · exact .inl hn'
  · exact .inr ⟨g', cap, cur, h', hg, (hk.block g' (Array.getElem?_eq_some_iff.1 hgg).1 (hn g' (by rw [h']; rfl))).trans hgg, rest⟩
theorem RowsM.kept (h : RowsM w base U1 U2 U3 l1 l2 l3 k1 k2 k3 m) {S : Nat → Prop} (hk : Kept w w' S) (hn : ∀ g, MB U1 U2 U3 l1 l2 l3 k1 k2 k3 g → ¬ S g) : RowsM w' base U1 U2 U3 l1 l2 l3 k1 k2 k3 m :=
  ⟨own_keptU h.r hk (fun g e => hn g (.inl e)), own_keptU h.c hk (fun g e => hn g (.inr (.inl e))), own_keptU h.s hk (fun g e => hn g (.inr (.inr e))), h.n12, h.n13, h.n23⟩
theorem RowsM.ge (h : RowsM w base U1 U2 U3 l1 l2 l3 k1 k2 k3 m) {g : Nat} (hg : MB U1 U2 U3 l1 l2 l3 k1 k2 k3 g) : base ≤ g ∧ g < w.heap.size := by
  rcases hg with e | e | e
  · exact h.r.lt g e
  · exact h.c.lt g e
  · exact h.s.lt g e
theorem rows_of_own {g1 g2 g3 : Nat} (h : OwnM w base g1 g2 g3 k1 k2 k3 m) : RowsM w base (some ⟨g1, 0, none⟩) (some ⟨g2, 0, none⟩) (some ⟨g3, 0, none⟩) 6 16 16 k1 k2 k3 m :=
  ⟨h.1, h.2.1, h.2.2.1, fun g e e' => by simp [Value.ownBlock] at e e'; have := h.2.2.2; omega, fun g e e' => by simp [Value.ownBlock] at e e'; have := h.2.2.2; omega, fun g e e' => by simp [Value.ownBlock] at e e'; have := h.2.2.2; omega⟩
def zeroM : Mch := ⟨0, [], [], []⟩
theorem rows_zero (w : World) (base : Nat) : RowsM w base none none none 0 0 0 0 0 0 zeroM :=
  ⟨World.ownsRow_nil _ _ _ _, World.ownsRow_nil _ _ _ _, World.ownsRow_nil _ _ _ _, (fun g e => by cases e), (fun g e => by cases e), (fun g e => by cases e)⟩
end

set_option maxRecDepth 100000 in
set_option maxHeartbeats 2000000 in
theorem markMachine_gen (a k : Int) (base : Nat) (U1 U2 U3 : Option Addr) (n1 n2 n3 k1 k2 k3 : Nat) (m : Mch) (w : World) (hm : Hid (RowsM w base U1 U2 U3 n1 n2 n3 k1 k2 k3 m)) (h1 : n1 ≤ 1048576) (h2 : n2 ≤ 1048576) (h3 : n3 ≤ 1048576) (k0 : 0 ≤ k) (kk : k ≤ 100000000) :
    Calls Tryd.prog 36 #[.agg #[.int .i64 a, .slice U1 n1 k1, .slice U2 n2 k2, .slice U3 n3 k3], .int .i64 k] w fun e w' =>
      e = .returned (.int .i64 (k + n1 + n2 + n3)) ∧ RowsM w' base U1 U2 U3 n1 n2 n3 k1 k2 k3 (markM a k n1 n2 n3) ∧ Kept w w' (MB U1 U2 U3 n1 n2 n3 k1 k2 k3) := by
  have hb0 := below1 w (.cells #[.int .i64 a, .slice U1 n1 k1, .slice U2 n2 k2, .slice U3 n3 k3] 32)
  have P0 : Hid (Kept w (w.alloc (.cells #[.int .i64 a, .slice U1 n1 k1, .slice U2 n2 k2, .slice U3 n3 k3] 32)) (MB U1 U2 U3 n1 n2 n3 k1 k2 k3)) := Lib.hid (.of_below hb0)
  have M0 := Lib.hid (hm.out.below hb0)
  have KA : Hid (Blk (w.alloc (.cells #[.int .i64 a, .slice U1 n1 k1, .slice U2 n2 k2, .slice U3 n3 k3] 32)) w.heap.size 32 [.int .i64 a, .slice U1 n1 k1, .slice U2 n2 k2, .slice U3 n3 k3]) := Lib.hid (heap_alloc_new w _)
  have N1 : Hid (∀ g, MB U1 U2 U3 n1 n2 n3 k1 k2 k3 g → g ≠ w.heap.size) := Lib.hid (fun g h => by have := (hm.out.ge h).2; omega)
  clear hb0
  go_enter Tryd.func36, Tryd.ntmps36
  go_wp2_with fail
  refine (markIntS_any base n1 k1 U1 m.r k _ M0.out.r (by omega) (by omega)).mono ?_
  rintro e w1 ⟨rfl, ho1, hg1⟩
  have P1 := Lib.hid (P0.out.trans (Kept.of_grown (S := MB U1 U2 U3 n1 n2 n3 k1 k2 k3) hg1 (fun g h => .inl h)))
  have Q1 := Lib.hid ho1
  have KA1 := Lib.hid (blk_far KA.out hg1 (fun e => N1.out _ (.inl e.symm) rfl))
  have R1 := Lib.hid (kept_of M0.out.c hg1 (fun g h e => M0.out.n12 g e h))
  have T1 := Lib.hid (kept_of M0.out.s hg1 (fun g h e => M0.out.n13 g e h))
  clear ho1 hg1 P0 KA
  have a2 : w1.cell? ⟨w.heap.size, 2, none⟩ = some (.slice U2 n2 k2) := KA1.out.there rfl
  go_wp2_with fail
  refine (markIntS_any base n2 k2 U2 m.c (k + n1) _ R1 (by omega) (by omega)).mono ?_
  rintro e w2 ⟨rfl, ho2, hg2⟩
  have P2 := Lib.hid (P1.out.trans (Kept.of_grown (S := MB U1 U2 U3 n1 n2 n3 k1 k2 k3) hg2 (fun g h => .inr (.inl h))))
  have R2 := Lib.hid ho2
  have KA2 := Lib.hid (blk_far KA1.out hg2 (fun e => N1.out _ (.inr (.inl e.symm)) rfl))
  have Q2 := Lib.hid (kept_of Q1.out hg2 (fun g h e => M0.out.n12 g h e))
  have T2 := Lib.hid (kept_of T1.out hg2 (fun g h e => M0.out.n23 g e h))
  clear ho2 hg2 P1 KA1 Q1 R1 T1 a2
  have a3 : w2.cell? ⟨w.heap.size, 3, none⟩ = some (.slice U3 n3 k3) := KA2.out.there rfl
  go_wp2_with fail
  refine (markBoolS_any base n3 k3 U3 m.s (k + n1 + n2) _ T2 (by omega) (by omega)).mono ?_
  rintro e w3 ⟨rfl, ho3, hg3⟩
  have P3 := Lib.hid (P2.out.trans (Kept.of_grown (S := MB U1 U2 U3 n1 n2 n3 k1 k2 k3) hg3 (fun g h => .inr (.inr h))))
  have T3 := Lib.hid ho3
  have Q3 := Lib.hid (kept_of Q2.out hg3 (fun g h e => M0.out.n13 g h e))
  have R3 := Lib.hid (kept_of R2.out hg3 (fun g h e => M0.out.n23 g h e))
  clear ho3 hg3 P2 KA2 Q2 R2 T2 a3
  go_wp2
  go_ret
  exact ⟨rfl, ⟨Q3.out, R3.out, T3.out, M0.out.n12, M0.out.n13, M0.out.n23⟩, P3.out⟩

/-- what DoStep answers -/
noncomputable def stepD (g : Bool) (xs : List Stp) (ctx : List Int) (m : Mch) : Mch × Int × Bool × Bool :=
  if g && ctxB ctx && goodMB m && decide (m.a < (xs.length : Int)) then
    match xs[m.a.toNat]? with
    | none => (zeroM, 0, false, false)
    | some x => if (doM x ctx m).2.1 = 0 then ((doM x ctx m).1, 0, (doM x ctx m).2.2, true) else (zeroM, (doM x ctx m).2.1, false, true)
  else (zeroM, 0, false, false)
/-- it answers a machine whose rows are its own -/
def GaveD (w : World) (D : Mch × Int × Bool × Bool) (e : Ending) (w' : World) : Prop :=
  ∃ U1 U2 U3 k1 k2 k3, e = .returned (.tuple #[.agg #[.int .i64 D.1.a, .slice U1 D.1.r.length k1, .slice U2 D.1.c.length k2, .slice U3 D.1.s.length k3], .int .i64 D.2.1, .bool D.2.2.1, .bool D.2.2.2]) ∧ RowsM w' w.heap.size U1 U2 U3 D.1.r.length D.1.c.length D.1.s.length k1 k2 k3 D.1 ∧ Below w.heap.size w w'
theorem gaveD_zero {w w' : World} {f : Int} {ok : Bool} (hb : Below w.heap.size w w') : GaveD w (zeroM, f, false, ok) (.returned (.tuple #[.agg #[.int .i64 0, .slice none 0 0, .slice none 0 0, .slice none 0 0], .int .i64 f, .bool false, .bool ok])) w' :=
  ⟨none, none, none, 0, 0, 0, rfl, rows_zero _ _, hb⟩
theorem gaveD_own {w w' : World} {m : Mch} {b : Bool} {g1 g2 g3 k1 k2 k3 : Nat} (h : OwnM w' w.heap.size g1 g2 g3 k1 k2 k3 m) (hb : Below w.heap.size w w') : GaveD w (m, 0, b, true) (.returned (.tuple #[.agg #[.int .i64 m.a, .slice (some ⟨g1, 0, none⟩) 6 k1, .slice (some ⟨g2, 0, none⟩) 16 k2, .slice (some ⟨g3, 0, none⟩) 16 k3], .int .i64 0, .bool b, .bool true])) w' := by
  obtain ⟨l1, l2, l3⟩ := h.lens
  refine ⟨some ⟨g1, 0, none⟩, some ⟨g2, 0, none⟩, some ⟨g3, 0, none⟩, k1, k2, k3, ?_, ?_, hb⟩
  · simp only [l1, l2, l3]
  · simp only [l1, l2, l3]
    exact rows_of_own h

theorem doM_lens {m : Mch} (h1 : m.r.length = 6) (h2 : m.c.length = 16) (h3 : m.s.length = 16) (x : Stp) (ctx : List Int) : (doM x ctx m).1.r.length = 6 ∧ (doM x ctx m).1.c.length = 16 ∧ (doM x ctx m).1.s.length = 16 := by
  unfold doM setR
  repeat' split
  all_goals simp [h1, h2, h3]

theorem implD_any (P : Option Addr) (n cap : Nat) (xs : List Stp) (C : Option Addr) (cn cc : Nat) (ctx : List Int) (a : Int) (A1 A2 A3 : Option Addr) (n1 n2 n3 c1 c2 c3 : Nat) (m : Mch) (g : Bool) (w : World)
    (HG : Hid (g = true ↔ Good xs)) (hl : Hid (Lies w P xs)) (HX : Hid (xs.length = n)) (hn : n ≤ 1048576) (hcl : Hid (ILies w C ctx)) (HCX : Hid (ctx.length = cn)) (hcn : cn ≤ 1048576)
    (hma : Hid (m.a = a)) (hml : Hid (MLies w A1 A2 A3 m)) (LE : Hid (Lens m n1 n2 n3)) (h1 : n1 ≤ 1048576) (h2 : n2 ≤ 1048576) (h3 : n3 ≤ 1048576) (HT : Hid (Op.PowTab w)) :
    Calls Tryd.prog 13 #[.slice P n cap, .slice C cn cc, .agg #[.int .i64 a, .slice A1 n1 c1, .slice A2 n2 c2, .slice A3 n3 c3]] w (GaveD w (stepD g xs ctx m)) := by
  cases hv : (g && ctxB ctx && goodMB m && decide (m.a < (xs.length : Int)))
  · have e : stepD g xs ctx m = (zeroM, 0, false, false) := by unfold stepD; rw [if_neg (by simp [hv])]
    rw [e]
    refine (implDoStep_bad P n cap xs C cn cc ctx a A1 A2 A3 n1 n2 n3 c1 c2 c3 m g w HG hl HX hn hcl HCX hcn hma hml LE h1 h2 h3 (by rw [← hma.out, ← HX.out]; exact hv)).mono ?_
    rintro e w' ⟨rfl, hb⟩
    exact gaveD_zero hb
  · have hv' := hv
    simp only [Bool.and_eq_true, decide_eq_true_eq] at hv
    obtain ⟨⟨⟨rfl, hc⟩, hg⟩, hlt⟩ := hv
    have GM := (goodM_iff m).1 hg
    obtain ⟨at_, hat⟩ := Int.eq_ofNat_of_zero_le GM.a.1
    obtain rfl : a = at_ := by rw [← hma.out, hat]
    have hatn : at_ < n := by have := HX.out; omega
    obtain ⟨x, hx⟩ : ∃ x, xs[at_]? = some x := ⟨_, List.getElem?_eq_getElem (by have := HX.out; omega)⟩
    have e : stepD true xs ctx m = (if (doM x ctx m).2.1 = 0 then ((doM x ctx m).1, 0, (doM x ctx m).2.2, true) else (zeroM, (doM x ctx m).2.1, false, true)) := by unfold stepD; rw [if_pos hv', hat]; simp [hx]
    rw [e]
    obtain rfl : n1 = 6 := by rw [← LE.out.1]; exact GM.r
    obtain rfl : n2 = 16 := by rw [← LE.out.2.1]; exact GM.c
    obtain rfl : n3 = 16 := by rw [← LE.out.2.2]; exact GM.s
    refine (implDoStep_ok P n cap xs C cn cc ctx at_ A1 A2 A3 c1 c2 c3 m x w (Lib.hid (HG.out.1 rfl)) hl HX hn (Lib.hid hc) hcl HCX hcn (Lib.hid GM) (Lib.hid hat) hml hatn (Lib.hid hx) HT).mono ?_
    rintro e w' (⟨hz, g1, g2, g3, rfl, mb, ge, hb⟩ | ⟨hz, rfl, hb⟩)
    · rw [if_pos hz]
      have GR : (doM x ctx m).1.r.length = 6 ∧ (doM x ctx m).1.c.length = 16 ∧ (doM x ctx m).1.s.length = 16 := doM_lens GM.r GM.c GM.s x ctx
      exact gaveD_own (own_of_mblk mb GR.1 GR.2.1 GR.2.2 ge) hb
    · rw [if_neg hz]
      exact gaveD_zero hb

theorem specD_any (P : Option Addr) (n cap : Nat) (xs : List Stp) (C : Option Addr) (cn cc : Nat) (ctx : List Int) (a : Int) (A1 A2 A3 : Option Addr) (n1 n2 n3 c1 c2 c3 : Nat) (m : Mch) (g : Bool) (w : World)
    (HG : Hid (g = true ↔ Good xs)) (hl : Hid (Lies w P xs)) (HX : Hid (xs.length = n)) (hn : n ≤ 1048576) (hcl : Hid (ILies w C ctx)) (HCX : Hid (ctx.length = cn)) (hcn : cn ≤ 1048576)
    (hma : Hid (m.a = a)) (hml : Hid (MLies w A1 A2 A3 m)) (LE : Hid (Lens m n1 n2 n3)) (h1 : n1 ≤ 1048576) (h2 : n2 ≤ 1048576) (h3 : n3 ≤ 1048576) :
    Calls Tryd.prog 17 #[.slice P n cap, .slice C cn cc, .agg #[.int .i64 a, .slice A1 n1 c1, .slice A2 n2 c2, .slice A3 n3 c3]] w (GaveD w (stepD g xs ctx m)) := by
  cases hv : (g && ctxB ctx && goodMB m && decide (m.a < (xs.length : Int)))
  · have e : stepD g xs ctx m = (zeroM, 0, false, false) := by unfold stepD; rw [if_neg (by simp [hv])]
    rw [e]
    refine (specDoStep_bad P n cap xs C cn cc ctx a A1 A2 A3 n1 n2 n3 c1 c2 c3 m g w HG hl HX hn hcl HCX hcn hma hml LE h1 h2 h3 (by rw [← hma.out, ← HX.out]; exact hv)).mono ?_
    rintro e w' ⟨rfl, hb⟩
    exact gaveD_zero hb
  · have hv' := hv
    simp only [Bool.and_eq_true, decide_eq_true_eq] at hv
    obtain ⟨⟨⟨rfl, hc⟩, hg⟩, hlt⟩ := hv
    have GM := (goodM_iff m).1 hg
    obtain ⟨at_, hat⟩ := Int.eq_ofNat_of_zero_le GM.a.1
    obtain rfl : a = at_ := by rw [← hma.out, hat]
    have hatn : at_ < n := by have := HX.out; omega
    obtain ⟨x, hx⟩ : ∃ x, xs[at_]? = some x := ⟨_, List.getElem?_eq_getElem (by have := HX.out; omega)⟩
    have e : stepD true xs ctx m = (if (doM x ctx m).2.1 = 0 then ((doM x ctx m).1, 0, (doM x ctx m).2.2, true) else (zeroM, (doM x ctx m).2.1, false, true)) := by unfold stepD; rw [if_pos hv', hat]; simp [hx]
    rw [e]
    obtain rfl : n1 = 6 := by rw [← LE.out.1]; exact GM.r
    obtain rfl : n2 = 16 := by rw [← LE.out.2.1]; exact GM.c
    obtain rfl : n3 = 16 := by rw [← LE.out.2.2]; exact GM.s
    refine (specDoStep_ok P n cap xs C cn cc ctx at_ A1 A2 A3 c1 c2 c3 m x w (Lib.hid (HG.out.1 rfl)) hl HX hn (Lib.hid hc) hcl HCX hcn (Lib.hid GM) (Lib.hid hat) hml hatn (Lib.hid hx)).mono ?_
    rintro e w' (⟨hz, g1, g2, g3, k1, k2, k3, rfl, om, hb⟩ | ⟨hz, rfl, hb⟩)
    · rw [if_pos hz]
      exact gaveD_own om hb
    · rw [if_neg hz]
      exact gaveD_zero hb
end Go.Proofs.YtfcfnpdomjpibaaDoor
