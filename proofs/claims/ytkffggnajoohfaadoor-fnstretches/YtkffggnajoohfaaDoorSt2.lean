/-
  Contracts of the functions of chapter 9 that answer intervals and yes or no, of the program and of the model.
-/
import Derived.Test.YtkffggnajoohfaaDoorSt1
import Derived.StillTailTactics
namespace Go.Proofs.YtkffggnajoohfaaDoor.Op
open Go.Proofs.YtkffggnajoohfaaDoor
open Go.ChangeShapes Go.WideShapes Go.ChangeAt Go.RowKit

/-- an interval's block -/
def SB (w : World) (g : Nat) (l h : Int) : Prop := Blk w g 46 [.int .i64 l, .int .i64 h]
theorem SB.c0 {w : World} {g : Nat} {l h : Int} (k : SB w g l h) : w.cell? ⟨g, 0, none⟩ = some (.int .i64 l) := Blk.cell k 0
theorem SB.c1 {w : World} {g : Nat} {l h : Int} (k : SB w g l h) : w.cell? ⟨g, 1, none⟩ = some (.int .i64 h) := Blk.cell k 1
theorem SB.f {w : World} {g : Nat} {l h : Int} (k : SB w g l h) (j : Nat) : w.frozen? ⟨g, j, none⟩ = false := Blk.frozen k j
theorem SB.below {w w' : World} {g : Nat} {l h : Int} (k : SB w g l h) (hb : Below w.heap.size w w') : SB w' g l h := Blk.below k hb
theorem SB.new (w : World) (l h : Int) : SB (w.alloc (.cells #[.int .i64 l, .int .i64 h] 46)) w.heap.size l h := heap_alloc_new w _
theorem SB.lt {w : World} {g : Nat} {l h : Int} (k : SB w g l h) : g < w.heap.size := Blk.lt k
abbrev sO (l h : Int) : Obj := .cells #[.int .i64 l, .int .i64 h] 46
theorem belowS2 {w0 w : World} {g a b : Nat} {u v : Value} (h : Below w0.heap.size w0 w) (hg : w0.heap.size ≤ g) :
    Below w0.heap.size w0 ((w.setCell ⟨g, a, none⟩ u).setCell ⟨g, b, none⟩ v) := (h.setCell (p := ⟨g, a, none⟩) hg _).setCell (p := ⟨g, b, none⟩) hg _
theorem one_news (w : World) (al ah : Int) : Hid (SB (w.alloc (sO al ah)) w.heap.size al ah ∧ Below w.heap.size w (w.alloc (sO al ah))) := Lib.hid ⟨SB.new w al ah, below1 _ _⟩
theorem two_news (w : World) (al ah bl bh : Int) :
    Hid (SB ((w.alloc (sO al ah)).alloc (sO bl bh)) w.heap.size al ah ∧ SB ((w.alloc (sO al ah)).alloc (sO bl bh)) (w.heap.size + 1) bl bh ∧ Below w.heap.size w ((w.alloc (sO al ah)).alloc (sO bl bh))) := by
  refine Lib.hid ⟨(SB.new w al ah).below (below1 _ _), ?_, below2 _ _ _⟩
  have := SB.new (w.alloc (sO al ah)) bl bh
  simpa using this
theorem three_news (w : World) (al ah bl bh cl ch : Int) :
    Hid (SB (((w.alloc (sO al ah)).alloc (sO bl bh)).alloc (sO cl ch)) w.heap.size al ah ∧ SB (((w.alloc (sO al ah)).alloc (sO bl bh)).alloc (sO cl ch)) (w.heap.size + 1) bl bh ∧ SB (((w.alloc (sO al ah)).alloc (sO bl bh)).alloc (sO cl ch)) (w.heap.size + 1 + 1) cl ch ∧ Below w.heap.size w (((w.alloc (sO al ah)).alloc (sO bl bh)).alloc (sO cl ch))) := by
  refine Lib.hid ⟨(SB.new w al ah).below (below2 _ _ _), ?_, ?_, below3 _ _ _ _⟩
  · have := (SB.new (w.alloc (sO al ah)) bl bh).below (below1 _ (sO cl ch))
    simpa using this
  · have := SB.new ((w.alloc (sO al ah)).alloc (sO bl bh)) cl ch
    simpa using this
theorem four_news (w : World) (al ah bl bh cl ch dl dh : Int) :
    Hid (SB ((((w.alloc (sO al ah)).alloc (sO bl bh)).alloc (sO cl ch)).alloc (sO dl dh)) w.heap.size al ah ∧ SB ((((w.alloc (sO al ah)).alloc (sO bl bh)).alloc (sO cl ch)).alloc (sO dl dh)) (w.heap.size + 1) bl bh ∧ SB ((((w.alloc (sO al ah)).alloc (sO bl bh)).alloc (sO cl ch)).alloc (sO dl dh)) (w.heap.size + 1 + 1) cl ch ∧ SB ((((w.alloc (sO al ah)).alloc (sO bl bh)).alloc (sO cl ch)).alloc (sO dl dh)) (w.heap.size + 1 + 1 + 1) dl dh ∧ Below w.heap.size w ((((w.alloc (sO al ah)).alloc (sO bl bh)).alloc (sO cl ch)).alloc (sO dl dh))) := by
  obtain ⟨h1, h2, h3, h4⟩ := (three_news w al ah bl bh cl ch).out
  refine Lib.hid ⟨h1.below (below1 _ _), h2.below (below1 _ _), h3.below (below1 _ _), ?_, h4.alloc (by simp; omega) _⟩
  have := SB.new (((w.alloc (sO al ah)).alloc (sO bl bh)).alloc (sO cl ch)) dl dh
  simpa using this

theorem meetR_yes {a b : St} (h1 : goodS a = true) (h2 : goodS b = true) (h : maxI a.lo b.lo ≤ minI a.hi b.hi) : meetR a b = (meetSt a b, true) := by
  unfold meetR; rw [h1, h2, meetB_yes.2 h]; rfl
theorem meetR_no {a b : St} (h : minI a.hi b.hi < maxI a.lo b.lo) : meetR a b = (⟨0, 0⟩, false) := by
  have hm : meetB a b = false := by simp only [meetB, decide_eq_false_iff_not]; omega
  unfold meetR; rw [hm]; simp
theorem splitR2_yes {a b : St} (h1 : goodS a = true) (h2 : goodS b = true) (h : a.lo < b.hi) : splitR2 a b = (splitL a b, splitR a b, true) := by
  unfold splitR2; rw [h1, h2, splitB_yes.2 h]; rfl
theorem splitR2_no {a b : St} (h : b.hi ≤ a.lo) : splitR2 a b = (⟨0, 0⟩, ⟨0, 0⟩, false) := by
  have hm : splitB a b = false := by simp only [splitB, decide_eq_false_iff_not]; omega
  unfold splitR2; rw [hm]; simp
set_option maxRecDepth 100000 in
set_option maxHeartbeats 400000 in
theorem eql_st0 (a b c d : Int) (w : World) : (binOp .eql 46 (.agg #[.int .i64 a, .int .i64 b]) (.agg #[.int .i64 c, .int .i64 d])).run Tryd.prog w = .ok (.bool (a == c && b == d)) w := by
  cases h1 : (a == c)
  · go_simp
  · cases h2 : (b == d) <;> go_simp
theorem eql_st (a b c d : Int) (w : World) : (binOp .eql 46 (.agg #[.int .i64 a, .int .i64 b]) (.agg #[.int .i64 c, .int .i64 d])).run Tryd.prog w = .ok (.bool (decide (a = c ∧ b = d))) w := by
  rw [eql_st0]
  by_cases h1 : a = c <;> by_cases h2 : b = d <;> simp [h1, h2]
set_option maxRecDepth 100000 in
set_option maxHeartbeats 400000 in
theorem neq_st0 (a b c d : Int) (w : World) : (binOp .neq 46 (.agg #[.int .i64 a, .int .i64 b]) (.agg #[.int .i64 c, .int .i64 d])).run Tryd.prog w = .ok (.bool (!(a == c && b == d))) w := by
  cases h1 : (a == c)
  · go_simp
  · cases h2 : (b == d) <;> go_simp
theorem neq_st (a b c d : Int) (w : World) : (binOp .neq 46 (.agg #[.int .i64 a, .int .i64 b]) (.agg #[.int .i64 c, .int .i64 d])).run Tryd.prog w = .ok (.bool (!decide (a = c ∧ b = d))) w := by
  rw [neq_st0]
  by_cases h1 : a = c <;> by_cases h2 : b = d <;> simp [h1, h2]
theorem SB.set2 {w : World} {g : Nat} {l h x y : Int} (k : SB w g l h) : SB ((w.setCell ⟨g, 0, none⟩ (.int .i64 x)).setCell ⟨g, 1, none⟩ (.int .i64 y)) g x y := by
  have := Blk.set (Blk.set k 0 (.int .i64 x)) 1 (.int .i64 y)
  exact this
theorem SB.far2 {w : World} {g g' : Nat} {l h : Int} {u v : Value} {i j : Nat} (k : SB w g l h) (hn : g ≠ g') : SB ((w.setCell ⟨g', i, none⟩ u).setCell ⟨g', j, none⟩ v) g l h :=
  Blk.far (Blk.far k hn u) hn v
/-- the end of a function that answers an interval (in a cell) and whether -/
theorem shut1 {P : Program} {fn : Func} {a : Act} {w W : World} {g : Nat} {x y : Int} {ok : Bool} {T : Value} (k : SB W g x y) (hb : Below w.heap.size w W)
    (hr : W.cell? ⟨g, 0, none⟩ = some (.int .i64 x) → W.cell? ⟨g, 1, none⟩ = some (.int .i64 y) → (results fn a.tmps).run P W = .ok (.tuple #[.agg #[.int .i64 x, .int .i64 y], .bool ok]) W)
    (hv : Value.tuple #[.agg #[.int .i64 x, .int .i64 y], .bool ok] = T) (hd : a.defers = [] := by rfl) : bodyPost P fn (fun e w' => e = .returned T ∧ Below w.heap.size w w') .ret a W :=
  bodyPost_ret (hr k.c0 k.c1) hd ⟨by rw [hv], hb⟩
/-- the end of a function that answers an interval (in a cell) -/
theorem shut0 {P : Program} {fn : Func} {a : Act} {w W : World} {g : Nat} {x y : Int} {T : Value} (k : SB W g x y) (hb : Below w.heap.size w W)
    (hr : W.cell? ⟨g, 0, none⟩ = some (.int .i64 x) → W.cell? ⟨g, 1, none⟩ = some (.int .i64 y) → (results fn a.tmps).run P W = .ok (.agg #[.int .i64 x, .int .i64 y]) W)
    (hv : Value.agg #[.int .i64 x, .int .i64 y] = T) (hd : a.defers = [] := by rfl) : bodyPost P fn (fun e w' => e = .returned T ∧ Below w.heap.size w w') .ret a W :=
  bodyPost_ret (hr k.c0 k.c1) hd ⟨by rw [hv], hb⟩
/-- the end of a function that answers two intervals (in cells) and whether -/
theorem shut2 {P : Program} {fn : Func} {a : Act} {w W : World} {g g' : Nat} {x y x' y' : Int} {ok : Bool} {T : Value} (k : SB W g x y) (k' : SB W g' x' y') (hb : Below w.heap.size w W)
    (hr : W.cell? ⟨g, 0, none⟩ = some (.int .i64 x) → W.cell? ⟨g, 1, none⟩ = some (.int .i64 y) → W.cell? ⟨g', 0, none⟩ = some (.int .i64 x') → W.cell? ⟨g', 1, none⟩ = some (.int .i64 y') →
      (results fn a.tmps).run P W = .ok (.tuple #[.agg #[.int .i64 x, .int .i64 y], .agg #[.int .i64 x', .int .i64 y'], .bool ok]) W)
    (hv : Value.tuple #[.agg #[.int .i64 x, .int .i64 y], .agg #[.int .i64 x', .int .i64 y'], .bool ok] = T) (hd : a.defers = [] := by rfl) : bodyPost P fn (fun e w' => e = .returned T ∧ Below w.heap.size w w') .ret a W :=
  bodyPost_ret (hr k.c0 k.c1 k'.c0 k'.c1) hd ⟨by rw [hv], hb⟩
theorem join_same {al ah bl bh : Int} : (minI al bl = bl ∧ maxI ah bh = bh) ↔ (bl ≤ al ∧ ah ≤ bh) := by
  unfold minI maxI; constructor
  · rintro ⟨h1, h2⟩; split at h1 <;> split at h2 <;> omega
  · rintro ⟨h1, h2⟩; split <;> split <;> omega

theorem run_min (a b : Int) (W : World) : (Builtin.min_ #[3, 3] 3 #[.int .i64 a, .int .i64 b]).run Tryd.prog W = .ok (.int .i64 (minI a b)) W := by
  by_cases h : b < a
  · have e : minI a b = b := if_pos h
    rw [e]
    go_simp
  · have e : minI a b = a := if_neg h
    rw [e]
    go_simp
theorem run_max (a b : Int) (W : World) : (Builtin.max_ #[3, 3] 3 #[.int .i64 a, .int .i64 b]).run Tryd.prog W = .ok (.int .i64 (maxI a b)) W := by
  by_cases h : a < b
  · have e : maxI a b = b := if_pos h
    rw [e]
    go_simp
  · have e : maxI a b = a := if_neg h
    rw [e]
    go_simp
set_option maxRecDepth 100000 in
set_option maxHeartbeats 400000 in
theorem l1Least_any (a b : Int) (w : World) : Calls Tryd.prog 87 #[.int .i64 a, .int .i64 b] w fun e w' => e = .returned (.int .i64 (minI a b)) ∧ w = w' := by
  by_cases h : a < b
  all_goals
    go_enter Tryd.func87, Tryd.ntmps87
    go_wp2
    go_ret
    exact ⟨ret_int (by unfold minI; split <;> omega), rfl⟩
set_option maxRecDepth 100000 in
set_option maxHeartbeats 400000 in
theorem l1Most_any (a b : Int) (w : World) : Calls Tryd.prog 88 #[.int .i64 a, .int .i64 b] w fun e w' => e = .returned (.int .i64 (maxI a b)) ∧ w = w' := by
  by_cases h : b < a
  all_goals
    go_enter Tryd.func88, Tryd.ntmps88
    go_wp2
    go_ret
    exact ⟨ret_int (by unfold maxI; split <;> omega), rfl⟩

theorem maxI_comm (a b : Int) : maxI a b = maxI b a := by unfold maxI; split <;> split <;> omega
theorem in_within (l h n : Int) : inR ⟨l, h⟩ n = withinR ⟨n, n⟩ ⟨l, h⟩ := by
  have e : goodS ⟨n, n⟩ = isW n := by rw [goodS_parts]; simp
  unfold inR withinR
  rw [e, Bool.and_comm (isW n)]
  rfl
theorem within_of_join {a b : St} {x y : Int} {ok : Bool} (h : joinR a b = (⟨x, y⟩, ok)) : withinR a b = (ok && decide (x = b.lo ∧ y = b.hi), ok) := by
  unfold joinR at h
  unfold withinR
  cases hg : (goodS a && goodS b)
  · rw [hg] at h
    simp only [Bool.false_eq_true, if_false, Prod.mk.injEq] at h
    obtain ⟨_, rfl⟩ := h
    rfl
  · rw [hg] at h
    simp only [if_true, Prod.mk.injEq, joinSt, St.mk.injEq] at h
    obtain ⟨⟨rfl, rfl⟩, rfl⟩ := h
    simp only [Bool.true_and, Prod.mk.injEq, and_true, withinB]
    rw [decide_eq_decide]
    exact join_same.symm

set_option maxRecDepth 100000 in
set_option maxHeartbeats 2000000 in
theorem onlyWord_any (n : Int) (w : World) :
    Calls Tryd.prog 72 #[.int .i64 n] w fun e w' => e = .returned (.agg #[.int .i64 n, .int .i64 n]) ∧ Below w.heap.size w w' := by
  go_enter Tryd.func72, Tryd.ntmps72
  go_wp2
  refine bodyPost_ret (v := .agg #[.int .i64 n, .int .i64 n]) ?_ rfl ⟨rfl, ?_⟩
  · simp [results, Tryd.results72, go_sem]
  · exact below1 _ _

set_option maxRecDepth 100000 in
set_option maxHeartbeats 2000000 in
theorem upTo_any (n : Int) (w : World) :
    Calls Tryd.prog 59 #[.int .i64 n] w fun e w' => e = .returned (.agg #[.int .i64 0, .int .i64 n]) ∧ Below w.heap.size w w' := by
  go_enter Tryd.func59, Tryd.ntmps59
  go_wp2
  refine bodyPost_ret (v := .agg #[.int .i64 0, .int .i64 n]) ?_ rfl ⟨rfl, ?_⟩
  · simp [results, Tryd.results59, go_sem]
  · exact below1 _ _

set_option maxRecDepth 100000 in
set_option maxHeartbeats 2000000 in
theorem joinI_any (al ah bl bh : Int) (w : World) :
    Calls Tryd.prog 95 #[.agg #[.int .i64 al, .int .i64 ah], .agg #[.int .i64 bl, .int .i64 bh]] w fun e w' => e = .returned (.tuple #[.agg #[.int .i64 (joinR ⟨al, ah⟩ ⟨bl, bh⟩).1.lo, .int .i64 (joinR ⟨al, ah⟩ ⟨bl, bh⟩).1.hi], .bool (joinR ⟨al, ah⟩ ⟨bl, bh⟩).2]) ∧ Below w.heap.size w w' := by
  obtain ⟨g1, hg1⟩ : ∃ g, goodS ⟨al, ah⟩ = g := ⟨_, rfl⟩
  have G1 := Lib.hid hg1
  clear hg1
  obtain ⟨g2, hg2⟩ : ∃ g, goodS ⟨bl, bh⟩ = g := ⟨_, rfl⟩
  have G2 := Lib.hid hg2
  clear hg2
  have q0 := run_min al bl
  have q1 := run_max ah bh
  have N0 := three_news w (al) (ah) (bl) (bh) (0) (0)
  go_enter Tryd.func95, Tryd.ntmps95
  go_wp2_with fail
  unfold sO at N0
  generalize (((w.alloc (.cells #[.int .i64 al, .int .i64 ah] 46)).alloc (.cells #[.int .i64 bl, .int .i64 bh] 46)).alloc (.cells #[.int .i64 0, .int .i64 0] 46)) = v0 at N0 ⊢
  have D0 := Lib.hid (Below.refl v0.heap.size v0)
  refine (goodI_any _ _ _).mono ?_
  rw [G1.out]
  rintro e v1 ⟨rfl, hb⟩
  have D1 := Lib.hid (Below.tr D0.out hb)
  clear hb
  have k0 := (SB.below N0.out.1 D1.out).c0
  have m0 := (SB.below N0.out.1 D1.out).c1
  have k1 := (SB.below N0.out.2.1 D1.out).c0
  have m1 := (SB.below N0.out.2.1 D1.out).c1
  have k2 := (SB.below N0.out.2.2.1 D1.out).c0
  have m2 := (SB.below N0.out.2.2.1 D1.out).c1
  have f2 := (SB.below N0.out.2.2.1 D1.out).f 0
  have j2 := (SB.below N0.out.2.2.1 D1.out).f 1
  cases g1
  · go_wp2
    refine shut1 (ok := false) ((SB.below N0.out.2.2.1 D1.out).set2) (belowS2 (Below.tr N0.out.2.2.2 D1.out) (by omega)) ?_ ?_
    · intro c0 c1; simp [results, Tryd.results95, go_sem, c0, c1]
    · simp [joinR, G1.out, G2.out]
  · go_wp2_with fail
    refine (goodI_any _ _ _).mono ?_
    rw [G2.out]
    rintro e v2 ⟨rfl, hb⟩
    have D2 := Lib.hid (Below.tr D1.out hb)
    clear hb
    have k0 := (SB.below N0.out.1 D2.out).c0
    have m0 := (SB.below N0.out.1 D2.out).c1
    have l0 := (SB.below N0.out.1 D2.out).lt
    have k1 := (SB.below N0.out.2.1 D2.out).c0
    have m1 := (SB.below N0.out.2.1 D2.out).c1
    have l1 := (SB.below N0.out.2.1 D2.out).lt
    have k2 := (SB.below N0.out.2.2.1 D2.out).c0
    have m2 := (SB.below N0.out.2.2.1 D2.out).c1
    have f2 := (SB.below N0.out.2.2.1 D2.out).f 0
    have j2 := (SB.below N0.out.2.2.1 D2.out).f 1
    have l2 := (SB.below N0.out.2.2.1 D2.out).lt
    cases g2
    · go_wp2
      refine shut1 (ok := false) ((SB.below N0.out.2.2.1 D2.out).set2) (belowS2 (Below.tr N0.out.2.2.2 D2.out) (by omega)) ?_ ?_
      · intro c0 c1; simp [results, Tryd.results95, go_sem, c0, c1]
      · simp [joinR, G1.out, G2.out]
    · go_wp2
      refine shut1 (ok := true) ((SB.below N0.out.2.2.1 D2.out).set2) (belowS2 (Below.tr N0.out.2.2.2 D2.out) (by omega)) ?_ ?_
      · intro c0 c1; simp [results, Tryd.results95, go_sem, c0, c1]
      · simp [joinR, G1.out, G2.out, joinSt]

end Go.Proofs.YtkffggnajoohfaaDoor.Op
