/-
  The model's DoStep; and both where the arguments are not valid.
-/
import Derived.Test.YtkffggnajoohfaaDoorOwn3
import Derived.Test.YtkffggnajoohfaaDoorRun
namespace Go.Proofs.YtkffggnajoohfaaDoor
open Go.ChangeShapes Go.WideShapes Go.ChangeAt Go.RowKit

/-- what the model's DoStep answers where its arguments are valid -/
def GaveStepS (w : World) (r : Mch × Int × Bool) (e : Ending) (w' : World) : Prop :=
  (r.2.1 = 0 ∧ ∃ g1 g2 g3 k1 k2 k3, e = .returned (.tuple #[.agg #[.int .i64 r.1.a, .slice (some ⟨g1, 0, none⟩) 6 k1, .slice (some ⟨g2, 0, none⟩) 16 k2, .slice (some ⟨g3, 0, none⟩) 16 k3], .int .i64 0, .bool r.2.2, .bool true]) ∧ OwnM w' w.heap.size g1 g2 g3 k1 k2 k3 r.1 ∧ Below w.heap.size w w') ∨
  (r.2.1 ≠ 0 ∧ e = .returned (.tuple #[.agg #[.int .i64 0, .slice none 0 0, .slice none 0 0, .slice none 0 0], .int .i64 r.2.1, .bool false, .bool true]) ∧ Below w.heap.size w w')

set_option maxRecDepth 100000 in
set_option maxHeartbeats 4000000 in
theorem implDoStep_bad (P : Option Addr) (n cap : Nat) (xs : List Stp) (C : Option Addr) (cn cc : Nat) (ctx : List Int) (a : Int) (A1 A2 A3 : Option Addr) (n1 n2 n3 c1 c2 c3 : Nat) (m : Mch) (g : Bool) (w : World)
    (HG : Hid (g = true ↔ Good xs)) (hl : Hid (Lies w P xs)) (HX : Hid (xs.length = n)) (hn : n ≤ 1048576) (hcl : Hid (ILies w C ctx)) (HCX : Hid (ctx.length = cn)) (hcn : cn ≤ 1048576)
    (hma : Hid (m.a = a)) (hml : Hid (MLies w A1 A2 A3 m)) (LE : Hid (Lens m n1 n2 n3)) (h1 : n1 ≤ 1048576) (h2 : n2 ≤ 1048576) (h3 : n3 ≤ 1048576) (hbad : (g && ctxB ctx && goodMB m && decide (a < (n : Int))) = false) :
    Calls Tryd.prog 7 #[.slice P n cap, .slice C cn cc, .agg #[.int .i64 a, .slice A1 n1 c1, .slice A2 n2 c2, .slice A3 n3 c3]] w (GaveNo w) := by
  have B0 := Lib.hid (below2 w (.cells #[.int .i64 a, .slice A1 n1 c1, .slice A2 n2 c2, .slice A3 n3 c3] 27) (.cells #[.int .i64 0, .slice none 0 0, .slice none 0 0, .slice none 0 0] 27))
  have KA0 : Hid (Blk ((w.alloc (.cells #[.int .i64 a, .slice A1 n1 c1, .slice A2 n2 c2, .slice A3 n3 c3] 27)).alloc (.cells #[.int .i64 0, .slice none 0 0, .slice none 0 0, .slice none 0 0] 27)) w.heap.size 27 [.int .i64 a, .slice A1 n1 c1, .slice A2 n2 c2, .slice A3 n3 c3]) := Lib.hid (n20 w _ _)
  have KR0 : Hid (Blk ((w.alloc (.cells #[.int .i64 a, .slice A1 n1 c1, .slice A2 n2 c2, .slice A3 n3 c3] 27)).alloc (.cells #[.int .i64 0, .slice none 0 0, .slice none 0 0, .slice none 0 0] 27)) (w.heap.size + 1) 27 [.int .i64 0, .slice none 0 0, .slice none 0 0, .slice none 0 0]) := Lib.hid (n21 w _ _)
  go_enter Tryd.func7, Tryd.ntmps7
  go_wp2_with fail
  generalize (w.alloc (.cells #[.int .i64 a, .slice A1 n1 c1, .slice A2 n2 c2, .slice A3 n3 c3] 27)).alloc (.cells #[.int .i64 0, .slice none 0 0, .slice none 0 0, .slice none 0 0] 27) = w0 at B0 KA0 KR0 ⊢
  refine (implGood_any _ _ _ xs _ g HG (hl.out.below B0.out) HX hn).mono ?_
  rintro e w1 ⟨rfl, hb1⟩
  have B1 := Lib.hid (Below.tr B0.out hb1)
  have KA1 := Lib.hid (KA0.out.below hb1)
  have KR1 := Lib.hid (KR0.out.below hb1)
  clear hb1 B0 KA0 KR0
  cases g
  ·
    have v0 : w1.cell? ⟨w.heap.size + 1, 0, none⟩ = some (.int .i64 0) := KR1.out.there rfl
    have v1 : w1.cell? ⟨w.heap.size + 1, 1, none⟩ = some (.slice none 0 0) := KR1.out.there rfl
    have v2 : w1.cell? ⟨w.heap.size + 1, 2, none⟩ = some (.slice none 0 0) := KR1.out.there rfl
    have v3 : w1.cell? ⟨w.heap.size + 1, 3, none⟩ = some (.slice none 0 0) := KR1.out.there rfl
    have f0 := KR1.out.frozen 0
    have f1 := KR1.out.frozen 1
    have f2 := KR1.out.frozen 2
    have f3 := KR1.out.frozen 3
    go_wp2
    refine bodyPost_ret (v := .tuple #[.agg #[.int .i64 0, .slice none 0 0, .slice none 0 0, .slice none 0 0], .int .i64 0, .bool false, .bool false]) (by simp [results, Tryd.results7, go_sem, v0, v1, v2, v3]) rfl ⟨rfl, ?_⟩
    exact (((B1.out.setCell (by simp) _).setCell (by simp) _).setCell (by simp) _).setCell (by simp) _
  go_wp2_with fail
  refine (isContext_any _ _ _ ctx _ (hcl.out.below B1.out) HCX hcn).mono ?_
  rintro e w2 ⟨rfl, hb2⟩
  have B2 := Lib.hid (Below.tr B1.out hb2)
  have KA2 := Lib.hid (KA1.out.below hb2)
  have KR2 := Lib.hid (KR1.out.below hb2)
  clear hb2 B1 KA1 KR1
  cases hc : ctxB ctx
  ·
    have v0 : w2.cell? ⟨w.heap.size + 1, 0, none⟩ = some (.int .i64 0) := KR2.out.there rfl
    have v1 : w2.cell? ⟨w.heap.size + 1, 1, none⟩ = some (.slice none 0 0) := KR2.out.there rfl
    have v2 : w2.cell? ⟨w.heap.size + 1, 2, none⟩ = some (.slice none 0 0) := KR2.out.there rfl
    have v3 : w2.cell? ⟨w.heap.size + 1, 3, none⟩ = some (.slice none 0 0) := KR2.out.there rfl
    have f0 := KR2.out.frozen 0
    have f1 := KR2.out.frozen 1
    have f2 := KR2.out.frozen 2
    have f3 := KR2.out.frozen 3
    go_wp2
    refine bodyPost_ret (v := .tuple #[.agg #[.int .i64 0, .slice none 0 0, .slice none 0 0, .slice none 0 0], .int .i64 0, .bool false, .bool false]) (by simp [results, Tryd.results7, go_sem, v0, v1, v2, v3]) rfl ⟨rfl, ?_⟩
    exact (((B2.out.setCell (by simp) _).setCell (by simp) _).setCell (by simp) _).setCell (by simp) _
  have x0 : w2.cell? ⟨w.heap.size, 0, none⟩ = some (.int .i64 a) := KA2.out.there rfl
  have x1 : w2.cell? ⟨w.heap.size, 1, none⟩ = some (.slice A1 n1 c1) := KA2.out.there rfl
  have x2 : w2.cell? ⟨w.heap.size, 2, none⟩ = some (.slice A2 n2 c2) := KA2.out.there rfl
  have x3 : w2.cell? ⟨w.heap.size, 3, none⟩ = some (.slice A3 n3 c3) := KA2.out.there rfl
  go_wp2_with fail
  refine (implGoodM_any a _ _ _ _ _ _ _ _ _ m _ hma.out (hml.out.below B2.out) LE h1 h2 h3).mono ?_
  rintro e w3 ⟨rfl, hb3⟩
  have B3 := Lib.hid (Below.tr B2.out hb3)
  have KA3 := Lib.hid (KA2.out.below hb3)
  have KR3 := Lib.hid (KR2.out.below hb3)
  clear hb3 B2 KA2 KR2 x0 x1 x2 x3
  cases hg : goodMB m
  ·
    have v0 : w3.cell? ⟨w.heap.size + 1, 0, none⟩ = some (.int .i64 0) := KR3.out.there rfl
    have v1 : w3.cell? ⟨w.heap.size + 1, 1, none⟩ = some (.slice none 0 0) := KR3.out.there rfl
    have v2 : w3.cell? ⟨w.heap.size + 1, 2, none⟩ = some (.slice none 0 0) := KR3.out.there rfl
    have v3 : w3.cell? ⟨w.heap.size + 1, 3, none⟩ = some (.slice none 0 0) := KR3.out.there rfl
    have f0 := KR3.out.frozen 0
    have f1 := KR3.out.frozen 1
    have f2 := KR3.out.frozen 2
    have f3 := KR3.out.frozen 3
    go_wp2
    refine bodyPost_ret (v := .tuple #[.agg #[.int .i64 0, .slice none 0 0, .slice none 0 0, .slice none 0 0], .int .i64 0, .bool false, .bool false]) (by simp [results, Tryd.results7, go_sem, v0, v1, v2, v3]) rfl ⟨rfl, ?_⟩
    exact (((B3.out.setCell (by simp) _).setCell (by simp) _).setCell (by simp) _).setCell (by simp) _
  have hat : (n : Int) ≤ a := by rw [hc, hg] at hbad; simp at hbad; exact hbad
  clear hbad
  have y0 : w3.cell? ⟨w.heap.size, 0, none⟩ = some (.int .i64 a) := KA3.out.there rfl
  ·
    have v0 : w3.cell? ⟨w.heap.size + 1, 0, none⟩ = some (.int .i64 0) := KR3.out.there rfl
    have v1 : w3.cell? ⟨w.heap.size + 1, 1, none⟩ = some (.slice none 0 0) := KR3.out.there rfl
    have v2 : w3.cell? ⟨w.heap.size + 1, 2, none⟩ = some (.slice none 0 0) := KR3.out.there rfl
    have v3 : w3.cell? ⟨w.heap.size + 1, 3, none⟩ = some (.slice none 0 0) := KR3.out.there rfl
    have f0 := KR3.out.frozen 0
    have f1 := KR3.out.frozen 1
    have f2 := KR3.out.frozen 2
    have f3 := KR3.out.frozen 3
    go_wp2
    refine bodyPost_ret (v := .tuple #[.agg #[.int .i64 0, .slice none 0 0, .slice none 0 0, .slice none 0 0], .int .i64 0, .bool false, .bool false]) (by simp [results, Tryd.results7, go_sem, v0, v1, v2, v3]) rfl ⟨rfl, ?_⟩
    exact (((B3.out.setCell (by simp) _).setCell (by simp) _).setCell (by simp) _).setCell (by simp) _

set_option maxRecDepth 100000 in
set_option maxHeartbeats 4000000 in
theorem specDoStep_bad (P : Option Addr) (n cap : Nat) (xs : List Stp) (C : Option Addr) (cn cc : Nat) (ctx : List Int) (a : Int) (A1 A2 A3 : Option Addr) (n1 n2 n3 c1 c2 c3 : Nat) (m : Mch) (g : Bool) (w : World)
    (HG : Hid (g = true ↔ Good xs)) (hl : Hid (Lies w P xs)) (HX : Hid (xs.length = n)) (hn : n ≤ 1048576) (hcl : Hid (ILies w C ctx)) (HCX : Hid (ctx.length = cn)) (hcn : cn ≤ 1048576)
    (hma : Hid (m.a = a)) (hml : Hid (MLies w A1 A2 A3 m)) (LE : Hid (Lens m n1 n2 n3)) (h1 : n1 ≤ 1048576) (h2 : n2 ≤ 1048576) (h3 : n3 ≤ 1048576) (hbad : (g && ctxB ctx && goodMB m && decide (a < (n : Int))) = false) :
    Calls Tryd.prog 8 #[.slice P n cap, .slice C cn cc, .agg #[.int .i64 a, .slice A1 n1 c1, .slice A2 n2 c2, .slice A3 n3 c3]] w (GaveNo w) := by
  have B0 := Lib.hid (below2 w (.cells #[.int .i64 a, .slice A1 n1 c1, .slice A2 n2 c2, .slice A3 n3 c3] 27) (.cells #[.int .i64 0, .slice none 0 0, .slice none 0 0, .slice none 0 0] 27))
  have KA0 : Hid (Blk ((w.alloc (.cells #[.int .i64 a, .slice A1 n1 c1, .slice A2 n2 c2, .slice A3 n3 c3] 27)).alloc (.cells #[.int .i64 0, .slice none 0 0, .slice none 0 0, .slice none 0 0] 27)) w.heap.size 27 [.int .i64 a, .slice A1 n1 c1, .slice A2 n2 c2, .slice A3 n3 c3]) := Lib.hid (n20 w _ _)
  have KR0 : Hid (Blk ((w.alloc (.cells #[.int .i64 a, .slice A1 n1 c1, .slice A2 n2 c2, .slice A3 n3 c3] 27)).alloc (.cells #[.int .i64 0, .slice none 0 0, .slice none 0 0, .slice none 0 0] 27)) (w.heap.size + 1) 27 [.int .i64 0, .slice none 0 0, .slice none 0 0, .slice none 0 0]) := Lib.hid (n21 w _ _)
  go_enter Tryd.func8, Tryd.ntmps8
  go_wp2_with fail
  generalize (w.alloc (.cells #[.int .i64 a, .slice A1 n1 c1, .slice A2 n2 c2, .slice A3 n3 c3] 27)).alloc (.cells #[.int .i64 0, .slice none 0 0, .slice none 0 0, .slice none 0 0] 27) = w0 at B0 KA0 KR0 ⊢
  refine (specGood_any _ _ _ xs _ g HG (hl.out.below B0.out) HX hn).mono ?_
  rintro e w1 ⟨rfl, hb1⟩
  have B1 := Lib.hid (Below.tr B0.out hb1)
  have KA1 := Lib.hid (KA0.out.below hb1)
  have KR1 := Lib.hid (KR0.out.below hb1)
  clear hb1 B0 KA0 KR0
  cases g
  ·
    have v0 : w1.cell? ⟨w.heap.size + 1, 0, none⟩ = some (.int .i64 0) := KR1.out.there rfl
    have v1 : w1.cell? ⟨w.heap.size + 1, 1, none⟩ = some (.slice none 0 0) := KR1.out.there rfl
    have v2 : w1.cell? ⟨w.heap.size + 1, 2, none⟩ = some (.slice none 0 0) := KR1.out.there rfl
    have v3 : w1.cell? ⟨w.heap.size + 1, 3, none⟩ = some (.slice none 0 0) := KR1.out.there rfl
    have f0 := KR1.out.frozen 0
    have f1 := KR1.out.frozen 1
    have f2 := KR1.out.frozen 2
    have f3 := KR1.out.frozen 3
    go_wp2
    refine bodyPost_ret (v := .tuple #[.agg #[.int .i64 0, .slice none 0 0, .slice none 0 0, .slice none 0 0], .int .i64 0, .bool false, .bool false]) (by simp [results, Tryd.results8, go_sem, v0, v1, v2, v3]) rfl ⟨rfl, ?_⟩
    exact (((B1.out.setCell (by simp) _).setCell (by simp) _).setCell (by simp) _).setCell (by simp) _
  go_wp2_with fail
  refine (l3Ctx_any _ _ _ ctx _ (hcl.out.below B1.out) HCX hcn).mono ?_
  rintro e w2 ⟨rfl, hb2⟩
  have B2 := Lib.hid (Below.tr B1.out hb2)
  have KA2 := Lib.hid (KA1.out.below hb2)
  have KR2 := Lib.hid (KR1.out.below hb2)
  clear hb2 B1 KA1 KR1
  cases hc : ctxB ctx
  ·
    have v0 : w2.cell? ⟨w.heap.size + 1, 0, none⟩ = some (.int .i64 0) := KR2.out.there rfl
    have v1 : w2.cell? ⟨w.heap.size + 1, 1, none⟩ = some (.slice none 0 0) := KR2.out.there rfl
    have v2 : w2.cell? ⟨w.heap.size + 1, 2, none⟩ = some (.slice none 0 0) := KR2.out.there rfl
    have v3 : w2.cell? ⟨w.heap.size + 1, 3, none⟩ = some (.slice none 0 0) := KR2.out.there rfl
    have f0 := KR2.out.frozen 0
    have f1 := KR2.out.frozen 1
    have f2 := KR2.out.frozen 2
    have f3 := KR2.out.frozen 3
    go_wp2
    refine bodyPost_ret (v := .tuple #[.agg #[.int .i64 0, .slice none 0 0, .slice none 0 0, .slice none 0 0], .int .i64 0, .bool false, .bool false]) (by simp [results, Tryd.results8, go_sem, v0, v1, v2, v3]) rfl ⟨rfl, ?_⟩
    exact (((B2.out.setCell (by simp) _).setCell (by simp) _).setCell (by simp) _).setCell (by simp) _
  have x0 : w2.cell? ⟨w.heap.size, 0, none⟩ = some (.int .i64 a) := KA2.out.there rfl
  have x1 : w2.cell? ⟨w.heap.size, 1, none⟩ = some (.slice A1 n1 c1) := KA2.out.there rfl
  have x2 : w2.cell? ⟨w.heap.size, 2, none⟩ = some (.slice A2 n2 c2) := KA2.out.there rfl
  have x3 : w2.cell? ⟨w.heap.size, 3, none⟩ = some (.slice A3 n3 c3) := KA2.out.there rfl
  go_wp2_with fail
  refine (specGoodM_any a _ _ _ _ _ _ _ _ _ m _ hma.out (hml.out.below B2.out) LE h1 h2 h3).mono ?_
  rintro e w3 ⟨rfl, hb3⟩
  have B3 := Lib.hid (Below.tr B2.out hb3)
  have KA3 := Lib.hid (KA2.out.below hb3)
  have KR3 := Lib.hid (KR2.out.below hb3)
  clear hb3 B2 KA2 KR2 x0 x1 x2 x3
  cases hg : goodMB m
  ·
    have v0 : w3.cell? ⟨w.heap.size + 1, 0, none⟩ = some (.int .i64 0) := KR3.out.there rfl
    have v1 : w3.cell? ⟨w.heap.size + 1, 1, none⟩ = some (.slice none 0 0) := KR3.out.there rfl
    have v2 : w3.cell? ⟨w.heap.size + 1, 2, none⟩ = some (.slice none 0 0) := KR3.out.there rfl
    have v3 : w3.cell? ⟨w.heap.size + 1, 3, none⟩ = some (.slice none 0 0) := KR3.out.there rfl
    have f0 := KR3.out.frozen 0
    have f1 := KR3.out.frozen 1
    have f2 := KR3.out.frozen 2
    have f3 := KR3.out.frozen 3
    go_wp2
    refine bodyPost_ret (v := .tuple #[.agg #[.int .i64 0, .slice none 0 0, .slice none 0 0, .slice none 0 0], .int .i64 0, .bool false, .bool false]) (by simp [results, Tryd.results8, go_sem, v0, v1, v2, v3]) rfl ⟨rfl, ?_⟩
    exact (((B3.out.setCell (by simp) _).setCell (by simp) _).setCell (by simp) _).setCell (by simp) _
  have hat : (n : Int) ≤ a := by rw [hc, hg] at hbad; simp at hbad; exact hbad
  clear hbad
  have y0 : w3.cell? ⟨w.heap.size, 0, none⟩ = some (.int .i64 a) := KA3.out.there rfl
  ·
    have v0 : w3.cell? ⟨w.heap.size + 1, 0, none⟩ = some (.int .i64 0) := KR3.out.there rfl
    have v1 : w3.cell? ⟨w.heap.size + 1, 1, none⟩ = some (.slice none 0 0) := KR3.out.there rfl
    have v2 : w3.cell? ⟨w.heap.size + 1, 2, none⟩ = some (.slice none 0 0) := KR3.out.there rfl
    have v3 : w3.cell? ⟨w.heap.size + 1, 3, none⟩ = some (.slice none 0 0) := KR3.out.there rfl
    have f0 := KR3.out.frozen 0
    have f1 := KR3.out.frozen 1
    have f2 := KR3.out.frozen 2
    have f3 := KR3.out.frozen 3
    go_wp2
    refine bodyPost_ret (v := .tuple #[.agg #[.int .i64 0, .slice none 0 0, .slice none 0 0, .slice none 0 0], .int .i64 0, .bool false, .bool false]) (by simp [results, Tryd.results8, go_sem, v0, v1, v2, v3]) rfl ⟨rfl, ?_⟩
    exact (((B3.out.setCell (by simp) _).setCell (by simp) _).setCell (by simp) _).setCell (by simp) _

set_option maxRecDepth 100000 in
set_option maxHeartbeats 4000000 in
theorem specDoStep_ok (P : Option Addr) (n cap : Nat) (xs : List Stp) (C : Option Addr) (cn cc : Nat) (ctx : List Int) (at_ : Nat) (A1 A2 A3 : Option Addr) (c1 c2 c3 : Nat) (m : Mch) (x : Stp) (w : World)
    (HG : Hid (Good xs)) (hl : Hid (Lies w P xs)) (HX : Hid (xs.length = n)) (hn : n ≤ 1048576) (HC : Hid (ctxB ctx = true)) (hcl : Hid (ILies w C ctx)) (HCX : Hid (ctx.length = cn)) (hcn : cn ≤ 1048576)
    (HM : Hid (GoodM m)) (hma : Hid (m.a = at_)) (hml : Hid (MLies w A1 A2 A3 m)) (hat : at_ < n) (hx : Hid (xs[at_]? = some x)) :
    Calls Tryd.prog 8 #[.slice P n cap, .slice C cn cc, .agg #[.int .i64 at_, .slice A1 6 c1, .slice A2 16 c2, .slice A3 16 c3]] w (GaveStepS w (doM x ctx m)) := by
  have LE : Hid (Lens m 6 16 16) := Lib.hid ⟨HM.out.r, HM.out.c, HM.out.s⟩
  have N20 : n ≤ 20 := by have := HG.out.1.2; rw [HX.out] at this; exact this
  have OK : Hid (okP x.k x.o x.d x.s x.i x.t) := Lib.hid (okB_yes (HG.out.2 at_ x hx.out).1)
  have C8 : Hid (ctx.length = 8) := Lib.hid (by have := HC.out; simp [ctxB] at this; exact this.1)
  have lr : 0 < m.r.length := by rw [HM.out.r]; omega
  have lc : 0 < m.c.length := by rw [HM.out.c]; omega
  have ls : 0 < m.s.length := by rw [HM.out.s]; omega
  obtain ⟨p1, q1, rfl, -, -⟩ := hml.out.1 0 m.r[0] (List.getElem?_eq_getElem lr)
  obtain ⟨p2, q2, rfl, -, -⟩ := hml.out.2.1 0 m.c[0] (List.getElem?_eq_getElem lc)
  obtain ⟨p3, q3, rfl, -, -⟩ := hml.out.2.2 0 m.s[0] (List.getElem?_eq_getElem ls)
  clear lr lc ls
  have B0 := Lib.hid (below2 w (.cells #[.int .i64 at_, .slice (some ⟨p1, q1, none⟩) 6 c1, .slice (some ⟨p2, q2, none⟩) 16 c2, .slice (some ⟨p3, q3, none⟩) 16 c3] 27) (.cells #[.int .i64 0, .slice none 0 0, .slice none 0 0, .slice none 0 0] 27))
  have KA0 : Hid (Blk ((w.alloc (.cells #[.int .i64 at_, .slice (some ⟨p1, q1, none⟩) 6 c1, .slice (some ⟨p2, q2, none⟩) 16 c2, .slice (some ⟨p3, q3, none⟩) 16 c3] 27)).alloc (.cells #[.int .i64 0, .slice none 0 0, .slice none 0 0, .slice none 0 0] 27)) w.heap.size 27 [.int .i64 at_, .slice (some ⟨p1, q1, none⟩) 6 c1, .slice (some ⟨p2, q2, none⟩) 16 c2, .slice (some ⟨p3, q3, none⟩) 16 c3]) := Lib.hid (n20 w _ _)
  have KR0 : Hid (Blk ((w.alloc (.cells #[.int .i64 at_, .slice (some ⟨p1, q1, none⟩) 6 c1, .slice (some ⟨p2, q2, none⟩) 16 c2, .slice (some ⟨p3, q3, none⟩) 16 c3] 27)).alloc (.cells #[.int .i64 0, .slice none 0 0, .slice none 0 0, .slice none 0 0] 27)) (w.heap.size + 1) 27 [.int .i64 0, .slice none 0 0, .slice none 0 0, .slice none 0 0]) := Lib.hid (n21 w _ _)
  go_enter Tryd.func8, Tryd.ntmps8
  go_wp2_with fail
  generalize (w.alloc (.cells #[.int .i64 at_, .slice (some ⟨p1, q1, none⟩) 6 c1, .slice (some ⟨p2, q2, none⟩) 16 c2, .slice (some ⟨p3, q3, none⟩) 16 c3] 27)).alloc (.cells #[.int .i64 0, .slice none 0 0, .slice none 0 0, .slice none 0 0] 27) = w0 at B0 KA0 KR0 ⊢
  refine (specGood_any _ _ _ xs _ true (Lib.hid ⟨fun _ => HG.out, fun _ => rfl⟩) (hl.out.below B0.out) HX hn).mono ?_
  rintro e w1 ⟨rfl, hb1⟩
  have B1 := Lib.hid (Below.tr B0.out hb1)
  have KA1 := Lib.hid (KA0.out.below hb1)
  have KR1 := Lib.hid (KR0.out.below hb1)
  clear hb1 B0 KA0 KR0
  go_wp2_with fail
  refine (l3Ctx_any _ _ _ ctx _ (hcl.out.below B1.out) HCX hcn).mono ?_
  rintro e w2 ⟨rfl, hb2⟩
  rw [HC.out]
  have B2 := Lib.hid (Below.tr B1.out hb2)
  have KA2 := Lib.hid (KA1.out.below hb2)
  have KR2 := Lib.hid (KR1.out.below hb2)
  clear hb2 B1 KA1 KR1
  have x0 : w2.cell? ⟨w.heap.size, 0, none⟩ = some (.int .i64 at_) := KA2.out.there rfl
  have x1 : w2.cell? ⟨w.heap.size, 1, none⟩ = some (.slice (some ⟨p1, q1, none⟩) 6 c1) := KA2.out.there rfl
  have x2 : w2.cell? ⟨w.heap.size, 2, none⟩ = some (.slice (some ⟨p2, q2, none⟩) 16 c2) := KA2.out.there rfl
  have x3 : w2.cell? ⟨w.heap.size, 3, none⟩ = some (.slice (some ⟨p3, q3, none⟩) 16 c3) := KA2.out.there rfl
  go_wp2_with fail
  refine (specGoodM_any at_ _ _ _ _ _ _ _ _ _ m _ hma.out (hml.out.below B2.out) LE (by omega) (by omega) (by omega)).mono ?_
  rintro e w3 ⟨rfl, hb3⟩
  rw [(goodM_iff m).2 HM.out]
  have B3 := Lib.hid (Below.tr B2.out hb3)
  have KA3 := Lib.hid (KA2.out.below hb3)
  have KR3 := Lib.hid (KR2.out.below hb3)
  clear hb3 B2 KA2 KR2 x0 x1 x2 x3
  have x0 : w3.cell? ⟨w.heap.size, 0, none⟩ = some (.int .i64 at_) := KA3.out.there rfl
  have x1 : w3.cell? ⟨w.heap.size, 1, none⟩ = some (.slice (some ⟨p1, q1, none⟩) 6 c1) := KA3.out.there rfl
  have x2 : w3.cell? ⟨w.heap.size, 2, none⟩ = some (.slice (some ⟨p2, q2, none⟩) 16 c2) := KA3.out.there rfl
  have x3 : w3.cell? ⟨w.heap.size, 3, none⟩ = some (.slice (some ⟨p3, q3, none⟩) 16 c3) := KA3.out.there rfl
  have hlt : decide ((n : Int) ≤ (at_ : Int)) = false := by simp; omega
  go_wp2_with fail
  refine (l3Own_any at_ p1 q1 p2 q2 p3 q3 c1 c2 c3 m _ (Lib.hid (hml.out.below B3.out)) LE).mono ?_
  rintro e w4 ⟨g1, g2, g3, k1, k2, k3, rfl, om4, hb4⟩
  have B4 := Lib.hid (Below.tr B3.out hb4)
  have KR4 := Lib.hid (KR3.out.below hb4)
  have G4 : Hid (w.heap.size + 1 < g1 ∧ w.heap.size + 1 < g2 ∧ w.heap.size + 1 < g3) := Lib.hid (by have := om4.ge; have := KR3.out.lt; omega)
  have O4 : Hid (OwnM w4 w.heap.size g1 g2 g3 k1 k2 k3 m) := Lib.hid ⟨own_base om4.1 B3.out.size, own_base om4.2.1 B3.out.size, own_base om4.2.2.1 B3.out.size, om4.2.2.2⟩
  clear hb4 om4 B3 KA3 KR3 x0 x1 x2 x3
  obtain ⟨pb, off, rfl, hpb, hst⟩ := (hl.out.below B4.out) at_ x hx.out
  have ST := Lib.hid hst
  clear hst
  go_wp2_with fail
  refine (l3Do_any pb off n cap at_ C cn cc ctx x w.heap.size g1 g2 g3 k1 k2 k3 m w4 ST hpb hat N20 hma HM O4 OK.out (Lib.hid (hcl.out.below B4.out)) C8.out (by rw [← HCX.out]; exact C8.out)).mono ?_
  rintro e w5 ⟨rfl, om5, kp5⟩
  have KR5 := Lib.hid (kp5.blk KR4.out (by unfold three; have := G4.out; omega))
  have O5 := Lib.hid om5
  have B5 := Lib.hid (kp5.below B4.out B4.out.size (fun q hq => by unfold three at hq; have := G4.out; omega))
  clear om5 kp5 ST hpb O4 KR4 B4
  obtain ⟨r, hr⟩ : ∃ r, doM x ctx m = r := ⟨_, rfl⟩
  rw [hr] at O5 ⊢
  have HD := Lib.hid hr
  have FC : 0 ≤ r.2.1 := by have := (doM_code x ctx m).1; rw [hr] at this; exact this
  clear hr
  have v0 : w5.cell? ⟨w.heap.size + 1, 0, none⟩ = some (.int .i64 0) := KR5.out.there rfl
  have v1 : w5.cell? ⟨w.heap.size + 1, 1, none⟩ = some (.slice none 0 0) := KR5.out.there rfl
  have v2 : w5.cell? ⟨w.heap.size + 1, 2, none⟩ = some (.slice none 0 0) := KR5.out.there rfl
  have v3 : w5.cell? ⟨w.heap.size + 1, 3, none⟩ = some (.slice none 0 0) := KR5.out.there rfl
  have f0 := KR5.out.frozen 0
  have f1 := KR5.out.frozen 1
  have f2 := KR5.out.frozen 2
  have f3 := KR5.out.frozen 3
  have vl := KR5.out.lt
  by_cases hf : 0 < r.2.1
  · go_wp2
    refine bodyPost_ret (v := .tuple #[.agg #[.int .i64 0, .slice none 0 0, .slice none 0 0, .slice none 0 0], .int .i64 r.2.1, .bool false, .bool true]) (by simp [results, Tryd.results8, go_sem, v0, v1, v2, v3, vl]) rfl (.inr ⟨by rw [HD.out]; omega, by rw [HD.out], ?_⟩)
    exact (set4_kept w5 (w.heap.size + 1) _ _ _ _ _).below B5.out B5.out.size (fun q hq => by have hq' : q = w.heap.size + 1 := hq; omega)
  · have F0 : r.2.1 = 0 := by omega
    go_wp2
    refine bodyPost_ret (v := .tuple #[.agg #[.int .i64 r.1.a, .slice (some ⟨g1, 0, none⟩) 6 k1, .slice (some ⟨g2, 0, none⟩) 16 k2, .slice (some ⟨g3, 0, none⟩) 16 k3], .int .i64 0, .bool r.2.2, .bool true]) (by simp [results, Tryd.results8, go_sem, v0, v1, v2, v3, vl]) rfl (.inl ⟨by rw [HD.out]; exact F0, g1, g2, g3, k1, k2, k3, by rw [HD.out], ?_, ?_⟩)
    · rw [HD.out]
      exact O5.out.kept (set4_kept w5 (w.heap.size + 1) _ _ _ _ _) (by have := G4.out; omega) (by have := G4.out; omega) (by have := G4.out; omega)
    · exact (set4_kept w5 (w.heap.size + 1) _ _ _ _ _).below B5.out B5.out.size (fun q hq => by have hq' : q = w.heap.size + 1 := hq; omega)
end Go.Proofs.YtkffggnajoohfaaDoor
