/-
  DoStep, whatever the arguments: the model's and the program's answer alike.
-/
import Derived.Test.YtkffggnajoohfaaDoorSpecDo
namespace Go.Proofs.YtkffggnajoohfaaDoor
open Go.ChangeShapes Go.WideShapes Go.ChangeAt Go.RowKit

/-- a machine whose rows are the call's own; each may be nil -/
structure RowsM (w : World) (base : Nat) (U1 U2 U3 : Option Addr) (l1 l2 l3 k1 k2 k3 : Nat) (m : Mch) : Prop where
  r : w.ownsRow base 3 1 (.slice U1 l1 k1) l1 (m.r.map (Value.int .i64))
  c : w.ownsRow base 3 1 (.slice U2 l2 k2) l2 (m.c.map (Value.int .i64))
  s : w.ownsRow base 4 1 (.slice U3 l3 k3) l3 (m.s.map Value.bool)
  n12 : ∀ g, (Value.slice U1 l1 k1).ownBlock = some g → (Value.slice U2 l2 k2).ownBlock ≠ some g
  n13 : ∀ g, (Value.slice U1 l1 k1).ownBlock = some g → (Value.slice U3 l3 k3).ownBlock ≠ some g
  n23 : ∀ g, (Value.slice U2 l2 k2).ownBlock = some g → (Value.slice U3 l3 k3).ownBlock ≠ some g
/-- the blocks of a machine -/
def MB (U1 U2 U3 : Option Addr) (l1 l2 l3 k1 k2 k3 : Nat) (g : Nat) : Prop := (Value.slice U1 l1 k1).ownBlock = some g ∨ (Value.slice U2 l2 k2).ownBlock = some g ∨ (Value.slice U3 l3 k3).ownBlock = some g
section
variable {w w' : World} {base l1 l2 l3 k1 k2 k3 : Nat} {U1 U2 U3 : Option Addr} {m : Mch}
theorem RowsM.below (h : RowsM w base U1 U2 U3 l1 l2 l3 k1 k2 k3 m) (hb : Below w.heap.size w w') : RowsM w' base U1 U2 U3 l1 l2 l3 k1 k2 k3 m :=
  ⟨own_below h.r hb, own_below h.c hb, own_below h.s hb, h.n12, h.n13, h.n23⟩
theorem RowsM.lies (h : RowsM w base U1 U2 U3 l1 l2 l3 k1 k2 k3 m) : MLies w U1 U2 U3 m := ⟨own_ilies h.r, own_ilies h.c, own_blies h.s⟩
theorem own_keptU {n c : Nat} {U : Option Addr} {t : TypeId} {vs : List Value} {S : Nat → Prop} (h : w.ownsRow base t 1 (.slice U n c) n vs) (hk : Kept w w' S) (hn : ∀ g, (Value.slice U n c).ownBlock = some g → ¬ S g) : w'.ownsRow base t 1 (.slice U n c) n vs := by
  refine ⟨h.1, ?_⟩
  rcases h.2 with hn' | ⟨g', cap, cur, h', hg, hgg, rest⟩
  · exact .inl hn'
  · exact .inr ⟨g', cap, cur, h', hg, (hk.block g' (Array.getElem?_eq_some_iff.1 hgg).1 (hn g' (by rw [h']; rfl))).trans hgg, rest⟩
theorem RowsM.kept (h : RowsM w base U1 U2 U3 l1 l2 l3 k1 k2 k3 m) {S : Nat → Prop} (hk : Kept w w' S) (hn : ∀ g, MB U1 U2 U3 l1 l2 l3 k1 k2 k3 g → ¬ S g) : RowsM w' base U1 U2 U3 l1 l2 l3 k1 k2 k3 m :=
  ⟨own_keptU h.r hk (fun g e => hn g (.inl e)), own_keptU h.c hk (fun g e => hn g (.inr (.inl e))), own_keptU h.s hk (fun g e => hn g (.inr (.inr e))), h.n12, h.n13, h.n23⟩
theorem RowsM.ge (h : RowsM w base U1 U2 U3 l1 l2 l3 k1 k2 k3 m) {g : Nat} (hg : MB U1 U2 U3 l1 l2 l3 k1 k2 k3 g) : base ≤ g ∧ g < w.heap.size := by
  rcases hg with e | e | e
  · exact h.r.lt g e
  · exact h.c.lt g e
  · exact h.s.lt g e
theorem rows_of_own {g1 g2 g3 : Nat} (h : OwnM w base g1 g2 g3 k1 k2 k3 m) : RowsM w base (some ⟨g1, 0, none⟩) (some ⟨g2, 0, none⟩) (some ⟨g3, 0, none⟩) 6 16 16 k1 k2 k3 m :=
  ⟨h.1, h.2.1, h.2.2.1, fun g e e' => by simp [Value.ownBlock] at e e'; have := h.2.2.2; omega, fun g e e' => by simp [Value.ownBlock] at e e'; have := h.2.2.2; omega, fun g e e' => by simp [Value.ownBlock] at e e'; have := h.2.2.2; omega⟩
def zeroM : Mch := ⟨0, [], [], []⟩
theorem rows_zero (w : World) (base : Nat) : RowsM w base none none none 0 0 0 0 0 0 zeroM :=
  ⟨World.ownsRow_nil _ _ _ _, World.ownsRow_nil _ _ _ _, World.ownsRow_nil _ _ _ _, (fun g e => by cases e), (fun g e => by cases e), (fun g e => by cases e)⟩
end

/-- what DoStep answers -/
noncomputable def stepD (g : Bool) (xs : List Stp) (ctx : List Int) (m : Mch) : Mch × Int × Bool × Bool :=
  if g && ctxB ctx && goodMB m && decide (m.a < (xs.length : Int)) then
    match xs[m.a.toNat]? with
    | none => (zeroM, 0, false, false)
    | some x => if (doM x ctx m).2.1 = 0 then ((doM x ctx m).1, 0, (doM x ctx m).2.2, true) else (zeroM, (doM x ctx m).2.1, false, true)
  else (zeroM, 0, false, false)
/-- it answers a machine whose rows are its own -/
def GaveD (w : World) (D : Mch × Int × Bool × Bool) (e : Ending) (w' : World) : Prop :=
  ∃ U1 U2 U3 k1 k2 k3, e = .returned (.tuple #[.agg #[.int .i64 D.1.a, .slice U1 D.1.r.length k1, .slice U2 D.1.c.length k2, .slice U3 D.1.s.length k3], .int .i64 D.2.1, .bool D.2.2.1, .bool D.2.2.2]) ∧ RowsM w' w.heap.size U1 U2 U3 D.1.r.length D.1.c.length D.1.s.length k1 k2 k3 D.1 ∧ Below w.heap.size w w'
theorem gaveD_zero {w w' : World} {f : Int} {ok : Bool} (hb : Below w.heap.size w w') : GaveD w (zeroM, f, false, ok) (.returned (.tuple #[.agg #[.int .i64 0, .slice none 0 0, .slice none 0 0, .slice none 0 0], .int .i64 f, .bool false, .bool ok])) w' :=
  ⟨none, none, none, 0, 0, 0, rfl, rows_zero _ _, hb⟩
theorem gaveD_own {w w' : World} {m : Mch} {b : Bool} {g1 g2 g3 k1 k2 k3 : Nat} (h : OwnM w' w.heap.size g1 g2 g3 k1 k2 k3 m) (hb : Below w.heap.size w w') : GaveD w (m, 0, b, true) (.returned (.tuple #[.agg #[.int .i64 m.a, .slice (some ⟨g1, 0, none⟩) 6 k1, .slice (some ⟨g2, 0, none⟩) 16 k2, .slice (some ⟨g3, 0, none⟩) 16 k3], .int .i64 0, .bool b, .bool true])) w' := by
  obtain ⟨l1, l2, l3⟩ := h.lens
  refine ⟨some ⟨g1, 0, none⟩, some ⟨g2, 0, none⟩, some ⟨g3, 0, none⟩, k1, k2, k3, ?_, ?_, hb⟩
  · simp only [l1, l2, l3]
  · simp only [l1, l2, l3]
    exact rows_of_own h

theorem doM_lens {m : Mch} (h1 : m.r.length = 6) (h2 : m.c.length = 16) (h3 : m.s.length = 16) (x : Stp) (ctx : List Int) : (doM x ctx m).1.r.length = 6 ∧ (doM x ctx m).1.c.length = 16 ∧ (doM x ctx m).1.s.length = 16 := by
  unfold doM setR
  repeat' split
  all_goals simp [h1, h2, h3]

theorem implD_any (P : Option Addr) (n cap : Nat) (xs : List Stp) (C : Option Addr) (cn cc : Nat) (ctx : List Int) (a : Int) (A1 A2 A3 : Option Addr) (n1 n2 n3 c1 c2 c3 : Nat) (m : Mch) (g : Bool) (w : World)
    (HG : Hid (g = true ↔ Good xs)) (hl : Hid (Lies w P xs)) (HX : Hid (xs.length = n)) (hn : n ≤ 1048576) (hcl : Hid (ILies w C ctx)) (HCX : Hid (ctx.length = cn)) (hcn : cn ≤ 1048576)
    (hma : Hid (m.a = a)) (hml : Hid (MLies w A1 A2 A3 m)) (LE : Hid (Lens m n1 n2 n3)) (h1 : n1 ≤ 1048576) (h2 : n2 ≤ 1048576) (h3 : n3 ≤ 1048576) (HT : Hid (Op.PowTab w)) :
    Calls Tryd.prog 7 #[.slice P n cap, .slice C cn cc, .agg #[.int .i64 a, .slice A1 n1 c1, .slice A2 n2 c2, .slice A3 n3 c3]] w (GaveD w (stepD g xs ctx m)) := by
  cases hv : (g && ctxB ctx && goodMB m && decide (m.a < (xs.length : Int)))
  · have e : stepD g xs ctx m = (zeroM, 0, false, false) := by unfold stepD; rw [if_neg (by simp [hv])]
    rw [e]
    refine (implDoStep_bad P n cap xs C cn cc ctx a A1 A2 A3 n1 n2 n3 c1 c2 c3 m g w HG hl HX hn hcl HCX hcn hma hml LE h1 h2 h3 (by rw [← hma.out, ← HX.out]; exact hv)).mono ?_
    rintro e w' ⟨rfl, hb⟩
    exact gaveD_zero hb
  · have hv' := hv
    simp only [Bool.and_eq_true, decide_eq_true_eq] at hv
    obtain ⟨⟨⟨rfl, hc⟩, hg⟩, hlt⟩ := hv
    have GM := (goodM_iff m).1 hg
    obtain ⟨at_, hat⟩ := Int.eq_ofNat_of_zero_le GM.a.1
    obtain rfl : a = at_ := by rw [← hma.out, hat]
    have hatn : at_ < n := by have := HX.out; omega
    obtain ⟨x, hx⟩ : ∃ x, xs[at_]? = some x := ⟨_, List.getElem?_eq_getElem (by have := HX.out; omega)⟩
    have e : stepD true xs ctx m = (if (doM x ctx m).2.1 = 0 then ((doM x ctx m).1, 0, (doM x ctx m).2.2, true) else (zeroM, (doM x ctx m).2.1, false, true)) := by unfold stepD; rw [if_pos hv', hat]; simp [hx]
    rw [e]
    obtain rfl : n1 = 6 := by rw [← LE.out.1]; exact GM.r
    obtain rfl : n2 = 16 := by rw [← LE.out.2.1]; exact GM.c
    obtain rfl : n3 = 16 := by rw [← LE.out.2.2]; exact GM.s
    refine (implDoStep_ok P n cap xs C cn cc ctx at_ A1 A2 A3 c1 c2 c3 m x w (Lib.hid (HG.out.1 rfl)) hl HX hn (Lib.hid hc) hcl HCX hcn (Lib.hid GM) (Lib.hid hat) hml hatn (Lib.hid hx) HT).mono ?_
    rintro e w' (⟨hz, g1, g2, g3, rfl, mb, ge, hb⟩ | ⟨hz, rfl, hb⟩)
    · rw [if_pos hz]
      have GR : (doM x ctx m).1.r.length = 6 ∧ (doM x ctx m).1.c.length = 16 ∧ (doM x ctx m).1.s.length = 16 := doM_lens GM.r GM.c GM.s x ctx
      exact gaveD_own (own_of_mblk mb GR.1 GR.2.1 GR.2.2 ge) hb
    · rw [if_neg hz]
      exact gaveD_zero hb

theorem specD_any (P : Option Addr) (n cap : Nat) (xs : List Stp) (C : Option Addr) (cn cc : Nat) (ctx : List Int) (a : Int) (A1 A2 A3 : Option Addr) (n1 n2 n3 c1 c2 c3 : Nat) (m : Mch) (g : Bool) (w : World)
    (HG : Hid (g = true ↔ Good xs)) (hl : Hid (Lies w P xs)) (HX : Hid (xs.length = n)) (hn : n ≤ 1048576) (hcl : Hid (ILies w C ctx)) (HCX : Hid (ctx.length = cn)) (hcn : cn ≤ 1048576)
    (hma : Hid (m.a = a)) (hml : Hid (MLies w A1 A2 A3 m)) (LE : Hid (Lens m n1 n2 n3)) (h1 : n1 ≤ 1048576) (h2 : n2 ≤ 1048576) (h3 : n3 ≤ 1048576) :
    Calls Tryd.prog 8 #[.slice P n cap, .slice C cn cc, .agg #[.int .i64 a, .slice A1 n1 c1, .slice A2 n2 c2, .slice A3 n3 c3]] w (GaveD w (stepD g xs ctx m)) := by
  cases hv : (g && ctxB ctx && goodMB m && decide (m.a < (xs.length : Int)))
  · have e : stepD g xs ctx m = (zeroM, 0, false, false) := by unfold stepD; rw [if_neg (by simp [hv])]
    rw [e]
    refine (specDoStep_bad P n cap xs C cn cc ctx a A1 A2 A3 n1 n2 n3 c1 c2 c3 m g w HG hl HX hn hcl HCX hcn hma hml LE h1 h2 h3 (by rw [← hma.out, ← HX.out]; exact hv)).mono ?_
    rintro e w' ⟨rfl, hb⟩
    exact gaveD_zero hb
  · have hv' := hv
    simp only [Bool.and_eq_true, decide_eq_true_eq] at hv
    obtain ⟨⟨⟨rfl, hc⟩, hg⟩, hlt⟩ := hv
    have GM := (goodM_iff m).1 hg
    obtain ⟨at_, hat⟩ := Int.eq_ofNat_of_zero_le GM.a.1
    obtain rfl : a = at_ := by rw [← hma.out, hat]
    have hatn : at_ < n := by have := HX.out; omega
    obtain ⟨x, hx⟩ : ∃ x, xs[at_]? = some x := ⟨_, List.getElem?_eq_getElem (by have := HX.out; omega)⟩
    have e : stepD true xs ctx m = (if (doM x ctx m).2.1 = 0 then ((doM x ctx m).1, 0, (doM x ctx m).2.2, true) else (zeroM, (doM x ctx m).2.1, false, true)) := by unfold stepD; rw [if_pos hv', hat]; simp [hx]
    rw [e]
    obtain rfl : n1 = 6 := by rw [← LE.out.1]; exact GM.r
    obtain rfl : n2 = 16 := by rw [← LE.out.2.1]; exact GM.c
    obtain rfl : n3 = 16 := by rw [← LE.out.2.2]; exact GM.s
    refine (specDoStep_ok P n cap xs C cn cc ctx at_ A1 A2 A3 c1 c2 c3 m x w (Lib.hid (HG.out.1 rfl)) hl HX hn (Lib.hid hc) hcl HCX hcn (Lib.hid GM) (Lib.hid hat) hml hatn (Lib.hid hx)).mono ?_
    rintro e w' (⟨hz, g1, g2, g3, k1, k2, k3, rfl, om, hb⟩ | ⟨hz, rfl, hb⟩)
    · rw [if_pos hz]
      exact gaveD_own om hb
    · rw [if_neg hz]
      exact gaveD_zero hb
end Go.Proofs.YtkffggnajoohfaaDoor
