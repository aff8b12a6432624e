/-
  RunProgram, TraceOf, FaultFree: the model's and the program's, whatever the arguments.
-/
import Derived.Test.YtkffggnajoohfaaDoorRun
namespace Go.Proofs.YtkffggnajoohfaaDoor
open Go.ChangeShapes Go.WideShapes Go.ChangeAt Go.RowKit

/-- what a run answers: register 0, a fault, where, the steps begun, and whether the arguments are valid -/
def runR (g : Bool) (xs : List Stp) (ctx : List Int) (F : Int) : (Int × Int × Int × List Int) × Bool :=
  if g && ctxB ctx && inB 0 100 F then (runM xs ctx F.toNat newM, true) else ((0, 0, 0, []), false)
theorem runR_yes {g : Bool} {xs : List Stp} {ctx : List Int} {F : Int} (h : (g && ctxB ctx && inB 0 100 F) = true) : runR g xs ctx F = (runM xs ctx F.toNat newM, true) := if_pos h
theorem runR_no {g : Bool} {xs : List Stp} {ctx : List Int} {F : Int} (h : (g && ctxB ctx && inB 0 100 F) = false) : runR g xs ctx F = ((0, 0, 0, []), false) := if_neg (by simp [h])
/-- what the program's run answers -/
def GaveRun (w : World) (q : (Int × Int × Int × List Int) × Bool) (e : Ending) (w' : World) : Prop :=
  ∃ A c, e = .returned (.tuple #[.agg #[.slice A q.1.2.2.2.length c, .int .i64 q.1.1, .int .i64 q.1.2.1, .int .i64 q.1.2.2.1], .bool q.2]) ∧ RowOf w w' A c q.1.2.2.2 ∧ Below w.heap.size w w'

set_option maxRecDepth 100000 in
set_option maxHeartbeats 2000000 in
theorem runFor_all (P : Option Addr) (n cap : Nat) (xs : List Stp) (C : Option Addr) (cn cc : Nat) (ctx : List Int) (F : Int) (g : Bool) (w : World)
    (HG : Hid (g = true ↔ Good xs)) (hl : Hid (Lies w P xs)) (HX : Hid (xs.length = n)) (hn : n ≤ 1048576) (hcl : Hid (ILies w C ctx)) (HCX : Hid (ctx.length = cn)) (hcn : cn ≤ 1048576) (HT : Hid (Op.PowTab w)) :
    Calls Tryd.prog 52 #[.slice P n cap, .slice C cn cc, .int .i64 F] w (GaveRun w (runR g xs ctx F)) := by
  cases hv : (g && ctxB ctx && inB 0 100 F)
  case true =>
    simp only [Bool.and_eq_true] at hv
    obtain ⟨⟨rfl, hc⟩, hf⟩ := hv
    obtain ⟨N, rfl⟩ := Int.eq_ofNat_of_zero_le (inB_yes hf).1
    have hN : N ≤ 100 := by have := (inB_yes hf).2; omega
    rw [runR_yes (by simp [hc, hf])]
    refine (runFor_any P n cap xs C cn cc ctx N w (Lib.hid (HG.out.1 rfl)) hl HX (Lib.hid hc) hcl HCX hN HT).mono ?_
    rintro e w' ⟨A, c, rfl, hr, hb⟩
    exact ⟨A, c, rfl, hr, hb⟩
  have RN := Lib.hid (runR_no (xs := xs) hv)
  have KR0 : Hid (Blk (w.alloc (.cells #[.slice none 0 0, .int .i64 0, .int .i64 0, .int .i64 0] 88)) w.heap.size 88 [.slice none 0 0, .int .i64 0, .int .i64 0, .int .i64 0]) := Lib.hid (heap_alloc_new w _)
  have B0 := Lib.hid (below1 w (.cells #[.slice none 0 0, .int .i64 0, .int .i64 0, .int .i64 0] 88))
  go_enter Tryd.func52, Tryd.ntmps52
  go_wp2_with fail
  generalize w.alloc (.cells #[.slice none 0 0, .int .i64 0, .int .i64 0, .int .i64 0] 88) = w0 at KR0 B0 ⊢
  refine (implGood_any _ _ _ xs _ g HG (hl.out.below B0.out) HX hn).mono ?_
  rintro e w1 ⟨rfl, hb1⟩
  have B1 := Lib.hid (Below.tr B0.out hb1)
  have KR1 := Lib.hid (KR0.out.below hb1)
  clear hb1 B0 KR0
  cases g
  · have KR := KR1
    have B := B1
    have v0 : w1.cell? ⟨w.heap.size, 0, none⟩ = some (.slice none 0 0) := KR.out.there rfl
    have v1 : w1.cell? ⟨w.heap.size, 1, none⟩ = some (.int .i64 0) := KR.out.there rfl
    have v2 : w1.cell? ⟨w.heap.size, 2, none⟩ = some (.int .i64 0) := KR.out.there rfl
    have v3 : w1.cell? ⟨w.heap.size, 3, none⟩ = some (.int .i64 0) := KR.out.there rfl
    have q0 := KR.out.frozen 0
    have q1 := KR.out.frozen 1
    have q2 := KR.out.frozen 2
    have q3 := KR.out.frozen 3
    go_wp2
    refine bodyPost_ret (v := .tuple #[.agg #[.slice none 0 0, .int .i64 0, .int .i64 0, .int .i64 0], .bool false]) (by simp [results, Tryd.results52, go_sem, v0, v1, v2, v3]) rfl ⟨none, 0, by rw [RN.out]; rfl, by rw [RN.out]; exact World.ownsRow_nil _ _ _ _, ?_⟩
    exact (((B.out.setCell (by simp) _).setCell (by simp) _).setCell (by simp) _).setCell (by simp) _
  go_wp2_with fail
  refine (isContext_any _ _ _ ctx _ (hcl.out.below B1.out) HCX hcn).mono ?_
  rintro e w2 ⟨rfl, hb2⟩
  have B2 := Lib.hid (Below.tr B1.out hb2)
  have KR2 := Lib.hid (KR1.out.below hb2)
  clear hb2 B1 KR1
  cases hc : ctxB ctx
  · have KR := KR2
    have B := B2
    have v0 : w2.cell? ⟨w.heap.size, 0, none⟩ = some (.slice none 0 0) := KR.out.there rfl
    have v1 : w2.cell? ⟨w.heap.size, 1, none⟩ = some (.int .i64 0) := KR.out.there rfl
    have v2 : w2.cell? ⟨w.heap.size, 2, none⟩ = some (.int .i64 0) := KR.out.there rfl
    have v3 : w2.cell? ⟨w.heap.size, 3, none⟩ = some (.int .i64 0) := KR.out.there rfl
    have q0 := KR.out.frozen 0
    have q1 := KR.out.frozen 1
    have q2 := KR.out.frozen 2
    have q3 := KR.out.frozen 3
    go_wp2
    refine bodyPost_ret (v := .tuple #[.agg #[.slice none 0 0, .int .i64 0, .int .i64 0, .int .i64 0], .bool false]) (by simp [results, Tryd.results52, go_sem, v0, v1, v2, v3]) rfl ⟨none, 0, by rw [RN.out]; rfl, by rw [RN.out]; exact World.ownsRow_nil _ _ _ _, ?_⟩
    exact (((B.out.setCell (by simp) _).setCell (by simp) _).setCell (by simp) _).setCell (by simp) _
  have hi : ¬ (0 ≤ F ∧ F ≤ 100) := by
    rw [hc] at hv
    exact inB_no (by simpa using hv)
  by_cases h0 : F < 0
  · have KR := KR2
    have B := B2
    clear hv
    have v0 : w2.cell? ⟨w.heap.size, 0, none⟩ = some (.slice none 0 0) := KR.out.there rfl
    have v1 : w2.cell? ⟨w.heap.size, 1, none⟩ = some (.int .i64 0) := KR.out.there rfl
    have v2 : w2.cell? ⟨w.heap.size, 2, none⟩ = some (.int .i64 0) := KR.out.there rfl
    have v3 : w2.cell? ⟨w.heap.size, 3, none⟩ = some (.int .i64 0) := KR.out.there rfl
    have q0 := KR.out.frozen 0
    have q1 := KR.out.frozen 1
    have q2 := KR.out.frozen 2
    have q3 := KR.out.frozen 3
    go_wp2
    refine bodyPost_ret (v := .tuple #[.agg #[.slice none 0 0, .int .i64 0, .int .i64 0, .int .i64 0], .bool false]) (by simp [results, Tryd.results52, go_sem, v0, v1, v2, v3]) rfl ⟨none, 0, by rw [RN.out]; rfl, by rw [RN.out]; exact World.ownsRow_nil _ _ _ _, ?_⟩
    exact (((B.out.setCell (by simp) _).setCell (by simp) _).setCell (by simp) _).setCell (by simp) _
  · have h100 : 100 < F := by omega
    have KR := KR2
    have B := B2
    clear hv
    have v0 : w2.cell? ⟨w.heap.size, 0, none⟩ = some (.slice none 0 0) := KR.out.there rfl
    have v1 : w2.cell? ⟨w.heap.size, 1, none⟩ = some (.int .i64 0) := KR.out.there rfl
    have v2 : w2.cell? ⟨w.heap.size, 2, none⟩ = some (.int .i64 0) := KR.out.there rfl
    have v3 : w2.cell? ⟨w.heap.size, 3, none⟩ = some (.int .i64 0) := KR.out.there rfl
    have q0 := KR.out.frozen 0
    have q1 := KR.out.frozen 1
    have q2 := KR.out.frozen 2
    have q3 := KR.out.frozen 3
    go_wp2
    refine bodyPost_ret (v := .tuple #[.agg #[.slice none 0 0, .int .i64 0, .int .i64 0, .int .i64 0], .bool false]) (by simp [results, Tryd.results52, go_sem, v0, v1, v2, v3]) rfl ⟨none, 0, by rw [RN.out]; rfl, by rw [RN.out]; exact World.ownsRow_nil _ _ _ _, ?_⟩
    exact (((B.out.setCell (by simp) _).setCell (by simp) _).setCell (by simp) _).setCell (by simp) _

set_option maxRecDepth 100000 in
set_option maxHeartbeats 2000000 in
theorem implFree_any (P : Option Addr) (n cap : Nat) (xs : List Stp) (C : Option Addr) (cn cc : Nat) (ctx : List Int) (g : Bool) (w : World)
    (HG : Hid (g = true ↔ Good xs)) (hl : Hid (Lies w P xs)) (HX : Hid (xs.length = n)) (hn : n ≤ 1048576) (hcl : Hid (ILies w C ctx)) (HCX : Hid (ctx.length = cn)) (hcn : cn ≤ 1048576) (HT : Hid (Op.PowTab w)) :
    Calls Tryd.prog 15 #[.slice P n cap, .slice C cn cc] w fun e w' => e = .returned (.tuple #[.bool ((runR g xs ctx 100).2 && (runR g xs ctx 100).1.2.1 == 0), .bool (runR g xs ctx 100).2]) ∧ Below w.heap.size w w' := by
  obtain ⟨q, hq⟩ : ∃ q, runR g xs ctx 100 = q := ⟨_, rfl⟩
  rw [hq]
  have HQ := Lib.hid hq
  clear hq
  go_enter Tryd.func15, Tryd.ntmps15
  go_wp2_with fail
  refine (runFor_all P n cap xs C cn cc ctx 100 g w HG hl HX hn hcl HCX hcn HT).mono ?_
  rw [HQ.out]
  rintro e w1 ⟨A, c, rfl, -, hb1⟩
  have B1 := Lib.hid hb1
  clear hb1
  obtain ⟨⟨r1, r2, r3, T⟩, ok⟩ := q
  cases ok
  · go_wp2
    exact bodyPost_ret (v := .tuple #[.bool false, .bool false]) (by simp [results, Tryd.results15, go_sem]) rfl ⟨by simp, Below.tr B1.out (below1 _ _)⟩
  · go_wp2
    exact bodyPost_ret (v := .tuple #[.bool (r2 == 0), .bool true]) (by simp [results, Tryd.results15, go_sem]) rfl ⟨by simp, Below.tr B1.out (below1 _ _)⟩

set_option maxRecDepth 100000 in
set_option maxHeartbeats 2000000 in
theorem specRun_any (P : Option Addr) (n cap : Nat) (xs : List Stp) (C : Option Addr) (cn cc : Nat) (ctx : List Int) (F : Int) (g : Bool) (w : World)
    (HG : Hid (g = true ↔ Good xs)) (hl : Hid (Lies w P xs)) (HX : Hid (xs.length = n)) (hn : n ≤ 1048576) (hcl : Hid (ILies w C ctx)) (HCX : Hid (ctx.length = cn)) (hcn : cn ≤ 1048576) :
    Calls Tryd.prog 53 #[.slice P n cap, .slice C cn cc, .int .i64 F] w fun e w' => e = .returned (.tuple #[.int .i64 (runR g xs ctx F).1.1, .int .i64 (runR g xs ctx F).1.2.1, .int .i64 (runR g xs ctx F).1.2.2.1, .bool (runR g xs ctx F).2]) ∧ Below w.heap.size w w' := by
  have HV : Hid ((g && ctxB ctx && inB 0 100 F) = false ∨ (g && ctxB ctx && inB 0 100 F) = true) := Lib.hid (by cases (g && ctxB ctx && inB 0 100 F) <;> simp)
  go_enter Tryd.func53, Tryd.ntmps53
  go_wp2_with fail
  refine (specGood_any _ _ _ xs _ g HG hl HX hn).mono ?_
  rintro e w1 ⟨rfl, hb1⟩
  have B1 := Lib.hid hb1
  clear hb1
  cases g
  · have RN := Lib.hid (runR_no (g := false) (xs := xs) (ctx := ctx) (F := F) rfl)
    have B := B1
    go_wp2
    exact bodyPost_ret (v := .tuple #[.int .i64 0, .int .i64 0, .int .i64 0, .bool false]) (by simp [results, Tryd.results53, go_sem]) rfl ⟨by rw [RN.out], B.out⟩
  go_wp2_with fail
  refine (l3Ctx_any _ _ _ ctx _ (hcl.out.below B1.out) HCX hcn).mono ?_
  rintro e w2 ⟨rfl, hb2⟩
  have B2 := Lib.hid (Below.tr B1.out hb2)
  clear hb2 B1
  cases hc : ctxB ctx
  · have RN := Lib.hid (runR_no (g := true) (xs := xs) (ctx := ctx) (F := F) (by simp [hc]))
    have B := B2
    clear HV
    go_wp2
    exact bodyPost_ret (v := .tuple #[.int .i64 0, .int .i64 0, .int .i64 0, .bool false]) (by simp [results, Tryd.results53, go_sem]) rfl ⟨by rw [RN.out], B.out⟩
  cases hf : inB 0 100 F
  · have RN := Lib.hid (runR_no (g := true) (xs := xs) (ctx := ctx) (F := F) (by simp [hf]))
    have B := B2
    clear HV
    go_wp2_with (first | (go_at_call 47; refine (l1In_any _ _ _ _).mono ?_; rintro e w' ⟨rfl, rfl⟩))
    exact bodyPost_ret (v := .tuple #[.int .i64 0, .int .i64 0, .int .i64 0, .bool false]) (by simp [results, Tryd.results53, go_sem]) rfl ⟨by rw [RN.out], B.out⟩
  · have RY := Lib.hid (runR_yes (g := true) (xs := xs) (ctx := ctx) (F := F) (by simp [hc, hf]))
    obtain ⟨N, rfl⟩ := Int.eq_ofNat_of_zero_le (inB_yes hf).1
    have hN : N ≤ 100 := by have := (inB_yes hf).2; omega
    have HCc := Lib.hid hc
    clear HV hc
    go_wp2_with (first | (go_at_call 47; refine (l1In_any _ _ _ _).mono ?_; rintro e w' ⟨rfl, rfl⟩))
    refine (l3Run_any P n cap xs C cn cc ctx N w2 (Lib.hid (HG.out.1 (by first | trivial | rfl))) (Lib.hid (hl.out.below B2.out)) HX HCc (Lib.hid (hcl.out.below B2.out)) HCX hN).mono ?_
    rintro e w3 ⟨A, c, rfl, -, hb3⟩
    have B3 := Lib.hid (Below.tr B2.out hb3)
    clear hb3
    go_wp2
    exact bodyPost_ret (v := .tuple #[.int .i64 (runM xs ctx N newM).1, .int .i64 (runM xs ctx N newM).2.1, .int .i64 (runM xs ctx N newM).2.2.1, .bool true]) (by simp [results, Tryd.results53, go_sem]) rfl ⟨by rw [RY.out]; rfl, B3.out⟩

set_option maxRecDepth 100000 in
set_option maxHeartbeats 2000000 in
theorem specFree_any (P : Option Addr) (n cap : Nat) (xs : List Stp) (C : Option Addr) (cn cc : Nat) (ctx : List Int) (g : Bool) (w : World)
    (HG : Hid (g = true ↔ Good xs)) (hl : Hid (Lies w P xs)) (HX : Hid (xs.length = n)) (hn : n ≤ 1048576) (hcl : Hid (ILies w C ctx)) (HCX : Hid (ctx.length = cn)) (hcn : cn ≤ 1048576) :
    Calls Tryd.prog 16 #[.slice P n cap, .slice C cn cc] w fun e w' => e = .returned (.tuple #[.bool ((runR g xs ctx 100).2 && (runR g xs ctx 100).1.2.1 == 0), .bool (runR g xs ctx 100).2]) ∧ Below w.heap.size w w' := by
  obtain ⟨q, hq⟩ : ∃ q, runR g xs ctx 100 = q := ⟨_, rfl⟩
  rw [hq]
  have HQ := Lib.hid hq
  clear hq
  go_enter Tryd.func16, Tryd.ntmps16
  go_wp2_with fail
  refine (specRun_any P n cap xs C cn cc ctx 100 g w HG hl HX hn hcl HCX hcn).mono ?_
  rw [HQ.out]
  rintro e w1 ⟨rfl, hb1⟩
  have B1 := Lib.hid hb1
  clear hb1
  obtain ⟨⟨r1, r2, r3, T⟩, ok⟩ := q
  cases ok
  · go_wp2
    exact bodyPost_ret (v := .tuple #[.bool false, .bool false]) (by simp [results, Tryd.results16, go_sem]) rfl ⟨by simp, B1.out⟩
  · go_wp2
    exact bodyPost_ret (v := .tuple #[.bool (r2 == 0), .bool true]) (by simp [results, Tryd.results16, go_sem]) rfl ⟨by simp, B1.out⟩
end Go.Proofs.YtkffggnajoohfaaDoor
