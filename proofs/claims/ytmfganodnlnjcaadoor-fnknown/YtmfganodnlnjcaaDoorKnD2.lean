/-
  Drawn arguments of chapter 10.
-/
import Derived.Test.YtmfganodnlnjcaaDoorKnD1
import Derived.Test.YtmfganodnlnjcaaDoorKn8
import Derived.Test.YtmfganodnlnjcaaDoorTwo
namespace Go.Proofs.YtmfganodnlnjcaaDoor.Op
open Go.Proofs.YtmfganodnlnjcaaDoor
open Go.ChangeShapes Go.WideShapes Go.ChangeAt Go.RowKit

theorem kshut2n {P : Program} {fn : Func} {a : Act} {w W : World} {g g' : Nat} {x y x' y' : Int} (k : KB W g x y) (k' : KB W g' x' y') (hb : Below w.heap.size w W)
    (hr : W.cell? ⟨g, 0, none⟩ = some (.int .i64 x) → W.cell? ⟨g, 1, none⟩ = some (.int .i64 y) → W.cell? ⟨g', 0, none⟩ = some (.int .i64 x') → W.cell? ⟨g', 1, none⟩ = some (.int .i64 y') →
      (results fn a.tmps).run P W = .ok (.tuple #[.agg #[.int .i64 x, .int .i64 y], .agg #[.int .i64 x', .int .i64 y']]) W)
    (hd : a.defers = [] := by rfl) : bodyPost P fn (Drew2K w) .ret a W :=
  bodyPost_ret (hr k.c0 k.c1 k'.c0 k'.c1) hd ⟨x, y, x', y', rfl, hb⟩
/-- an operation and two drawn knowns; a known and a number; numbers of one's own -/
def DrewO2K (w : World) (e : Ending) (w' : World) : Prop := ∃ op al ah bl bh : Int, e = .returned (.tuple #[.int .i64 op, .agg #[.int .i64 al, .int .i64 ah], .agg #[.int .i64 bl, .int .i64 bh]]) ∧ Below w.heap.size w w'
def DrewKN (w : World) (e : Ending) (w' : World) : Prop := ∃ al ah n : Int, e = .returned (.tuple #[.agg #[.int .i64 al, .int .i64 ah], .int .i64 n]) ∧ Below w.heap.size w w'
theorem kshutN {P : Program} {fn : Func} {a : Act} {w W : World} {g : Nat} {x y n : Int} (k : KB W g x y) (hb : Below w.heap.size w W)
    (hr : W.cell? ⟨g, 0, none⟩ = some (.int .i64 x) → W.cell? ⟨g, 1, none⟩ = some (.int .i64 y) → (results fn a.tmps).run P W = .ok (.tuple #[.agg #[.int .i64 x, .int .i64 y], .int .i64 n]) W)
    (hd : a.defers = [] := by rfl) : bodyPost P fn (DrewKN w) .ret a W :=
  bodyPost_ret (hr k.c0 k.c1) hd ⟨x, y, n, rfl, hb⟩
def DrewL (w : World) (e : Ending) (w' : World) : Prop :=
  ∃ (l : List Int) (A : Option Addr) (c : Nat), e = .returned (.slice A l.length c) ∧ l.length ≤ 41 ∧ w'.ownsRow w.heap.size 3 1 (.slice A l.length c) l.length (l.map (Value.int .i64)) ∧ Below w.heap.size w w'
theorem cur_overK (w : World) (a0 : Option Addr) (len cap : Nat) (h : Bytes w a0 len) (x y : Int) (W : World) (hW : W = w.alloc (kO x y)) : Cur (W.alloc (.cells #[.slice a0 len cap, .int .i64 0, .int .u64 0] 55)) (w.heap.size + 1) 0 := by
  subst hW
  have := Cur.new (cap := cap) (h.below (below1 w (kO x y)))
  simpa using this
theorem cur_overK2 (w : World) (a0 : Option Addr) (len cap : Nat) (h : Bytes w a0 len) (x y x' y' : Int) : Cur (((w.alloc (kO x y)).alloc (kO x' y')).alloc (.cells #[.slice a0 len cap, .int .i64 0, .int .u64 0] 55)) (w.heap.size + 1 + 1) 0 := by
  have := Cur.new (cap := cap) (h.below (below2 w (kO x y) (kO x' y')))
  simpa using this
theorem own_readK {w w' : World} {base c n : Nat} {t : TypeId} {v : Value} {xs : List Value} (h : w.ownsRow base t 1 v n xs) (hg : w.grownBy w' (some c)) (hc : c < base) : w'.ownsRow base t 1 v n xs :=
  kept_of h hg (fun g hgb e => by have := (h.lt g hgb).1; have := Option.some.inj e; omega)
theorem acc_snocK {w3 : World} {o : List Int} {x : Int} {base m g3 cap3 : Nat} (HM : o.length = m) (h : w3.ownsRow base 3 1 (.slice (some ⟨g3, 0, none⟩) (m + 1) cap3) (m + 1) ((o ++ [x]).map (Value.int .i64))) :
    ∃ A2 c2, Value.slice (some ⟨g3, 0, none⟩) (m + 1) cap3 = .slice A2 (o ++ [x]).length c2 ∧ w3.ownsRow base 3 1 (.slice A2 (o ++ [x]).length c2) (o ++ [x]).length ((o ++ [x]).map (Value.int .i64)) :=
  ⟨some ⟨g3, 0, none⟩, cap3, by rw [List.length_append, HM, List.length_singleton], by rw [List.length_append, HM]; exact h⟩

set_option maxRecDepth 100000 in
set_option maxHeartbeats 8000000 in
theorem drawJoinK_any (a0 : Option Addr) (len cap : Nat) (w : World) (h : Hid (Bytes w a0 len)) :
    Calls Tryd.prog 31 #[.slice a0 len cap] w (Drew2K w) := by
  have N0 := two_newk w 0 0 0 0
  have C0 : Hid (Cur (((w.alloc (.cells #[.int .i64 0, .int .i64 0] 24)).alloc (.cells #[.int .i64 0, .int .i64 0] 24)).alloc (.cells #[.slice a0 len cap, .int .i64 0, .int .u64 0] 55)) (w.heap.size + 1 + 1) 0) := Lib.hid (cur_overK2 w a0 len cap h.out 0 0 0 0)
  have R0 : Hid (KB (((w.alloc (.cells #[.int .i64 0, .int .i64 0] 24)).alloc (.cells #[.int .i64 0, .int .i64 0] 24)).alloc (.cells #[.slice a0 len cap, .int .i64 0, .int .u64 0] 55)) w.heap.size 0 0) := Lib.hid (N0.out.1.below (below1 _ _))
  have T0 : Hid (KB (((w.alloc (.cells #[.int .i64 0, .int .i64 0] 24)).alloc (.cells #[.int .i64 0, .int .i64 0] 24)).alloc (.cells #[.slice a0 len cap, .int .i64 0, .int .u64 0] 55)) (w.heap.size + 1) 0 0) := Lib.hid (N0.out.2.1.below (below1 _ _))
  have B0 : Hid (Below w.heap.size w (((w.alloc (.cells #[.int .i64 0, .int .i64 0] 24)).alloc (.cells #[.int .i64 0, .int .i64 0] 24)).alloc (.cells #[.slice a0 len cap, .int .i64 0, .int .u64 0] 55))) := Lib.hid (Below.tr N0.out.2.2 (below1 _ _))
  clear N0 h
  go_enter Tryd.func31, Tryd.ntmps31
  go_wp2_with fail
  generalize (((w.alloc (.cells #[.int .i64 0, .int .i64 0] 24)).alloc (.cells #[.int .i64 0, .int .i64 0] 24)).alloc (.cells #[.slice a0 len cap, .int .i64 0, .int .u64 0] 55)) = v0 at C0 R0 T0 B0 ⊢
  refine (known_any (w.heap.size + 1 + 1) 0 _ C0 (by omega)).mono ?_
  rintro e v1 ⟨al, ah, rfl, hc, hg⟩
  have C1 : Hid (Cur v1 (w.heap.size + 1 + 1) 100) := Lib.hid (hc.mono (by omega))
  have B1 := Lib.hid (B0.out.grown hg B0.out.size (fun k hk => by cases hk; omega))
  have R1 := Lib.hid (KB.grown R0.out hg (by omega))
  have T1 := Lib.hid (KB.grown T0.out hg (by omega))
  clear hc hg
  go_wp2_with fail
  refine (known_any (w.heap.size + 1 + 1) 100 _ C1 (by omega)).mono ?_
  rintro e v2 ⟨bl, bh, rfl, hc, hg⟩
  have C2 : Hid (Cur v2 (w.heap.size + 1 + 1) 200) := Lib.hid (hc.mono (by omega))
  have B2 := Lib.hid (B1.out.grown hg B1.out.size (fun k hk => by cases hk; omega))
  have R2 := Lib.hid (KB.grown R1.out hg (by omega))
  have T2 := Lib.hid (KB.grown T1.out hg (by omega))
  clear hc hg
  have r0 := R2.out.c0
  have r1 := R2.out.c1
  have rf0 := R2.out.f 0
  have rf1 := R2.out.f 1
  have rl := R2.out.lt
  have t0 := T2.out.c0
  have t1 := T2.out.c1
  have tf0 := T2.out.f 0
  have tf1 := T2.out.f 1
  have tl := T2.out.lt
  go_wp2
  refine kshut2n (KB.far2 (KB.set2 R2.out) (by omega)) (KB.set2 (KB.far2 T2.out (by omega))) (belowK2 (belowK2 B2.out (by omega)) (by omega)) ?_
  intro c0 c1 c2 c3; simp [results, Tryd.results31, go_sem, c0, c1, c2, c3]
set_option maxRecDepth 100000 in
set_option maxHeartbeats 8000000 in
theorem drawNumK_any (a0 : Option Addr) (len cap : Nat) (w : World) (h : Hid (Bytes w a0 len)) :
    Calls Tryd.prog 18 #[.slice a0 len cap] w (DrewKN w) := by
  have N0 := one_newk w 0 0
  have C0 : Hid (Cur ((w.alloc (.cells #[.int .i64 0, .int .i64 0] 24)).alloc (.cells #[.slice a0 len cap, .int .i64 0, .int .u64 0] 55)) (w.heap.size + 1) 0) := Lib.hid (cur_overK w a0 len cap h.out 0 0 _ rfl)
  have R0 : Hid (KB ((w.alloc (.cells #[.int .i64 0, .int .i64 0] 24)).alloc (.cells #[.slice a0 len cap, .int .i64 0, .int .u64 0] 55)) w.heap.size 0 0) := Lib.hid (N0.out.1.below (below1 _ _))
  have B0 : Hid (Below w.heap.size w ((w.alloc (.cells #[.int .i64 0, .int .i64 0] 24)).alloc (.cells #[.slice a0 len cap, .int .i64 0, .int .u64 0] 55))) := Lib.hid (Below.tr N0.out.2 (below1 _ _))
  clear N0 h
  go_enter Tryd.func18, Tryd.ntmps18
  go_wp2_with fail
  generalize ((w.alloc (.cells #[.int .i64 0, .int .i64 0] 24)).alloc (.cells #[.slice a0 len cap, .int .i64 0, .int .u64 0] 55)) = v0 at C0 R0 B0 ⊢
  refine (known_any (w.heap.size + 1) 0 _ C0 (by omega)).mono ?_
  rintro e v1 ⟨al, ah, rfl, hc, hg⟩
  have C1 : Hid (Cur v1 (w.heap.size + 1) 100) := Lib.hid (hc.mono (by omega))
  have B1 := Lib.hid (B0.out.grown hg B0.out.size (fun k hk => by cases hk; omega))
  have R1 := Lib.hid (KB.grown R0.out hg (by omega))
  clear hc hg
  go_wp2_with fail
  refine (pick_any (w.heap.size + 1) 100 _ _ C1 (by omega) (by omega) (by omega)).mono ?_
  rintro e v2 ⟨n, ⟨q1, q2⟩, rfl, hc, hg⟩
  have C2 : Hid (Cur v2 (w.heap.size + 1) 200) := Lib.hid (hc.mono (by omega))
  have B2 := Lib.hid (B1.out.grown hg B1.out.size (fun k hk => by cases hk; omega))
  have R2 := Lib.hid (KB.grown R1.out hg (by omega))
  clear hc hg
  have r0 := R2.out.c0
  have r1 := R2.out.c1
  have rf0 := R2.out.f 0
  have rf1 := R2.out.f 1
  have rl := R2.out.lt
  go_wp2
  refine kshutN (n := n - 1) (KB.set2 R2.out) (belowK2 B2.out (by omega)) ?_
  intro c0 c1; simp [results, Tryd.results18, go_sem, c0, c1]
set_option maxRecDepth 100000 in
set_option maxHeartbeats 8000000 in
theorem drawDoK_any (a0 : Option Addr) (len cap : Nat) (w : World) (h : Hid (Bytes w a0 len)) :
    Calls Tryd.prog 8 #[.slice a0 len cap] w (DrewO2K w) := by
  have N0 := two_newk w 0 0 0 0
  have C0 : Hid (Cur (((w.alloc (.cells #[.int .i64 0, .int .i64 0] 24)).alloc (.cells #[.int .i64 0, .int .i64 0] 24)).alloc (.cells #[.slice a0 len cap, .int .i64 0, .int .u64 0] 55)) (w.heap.size + 1 + 1) 0) := Lib.hid (cur_overK2 w a0 len cap h.out 0 0 0 0)
  have R0 : Hid (KB (((w.alloc (.cells #[.int .i64 0, .int .i64 0] 24)).alloc (.cells #[.int .i64 0, .int .i64 0] 24)).alloc (.cells #[.slice a0 len cap, .int .i64 0, .int .u64 0] 55)) w.heap.size 0 0) := Lib.hid (N0.out.1.below (below1 _ _))
  have T0 : Hid (KB (((w.alloc (.cells #[.int .i64 0, .int .i64 0] 24)).alloc (.cells #[.int .i64 0, .int .i64 0] 24)).alloc (.cells #[.slice a0 len cap, .int .i64 0, .int .u64 0] 55)) (w.heap.size + 1) 0 0) := Lib.hid (N0.out.2.1.below (below1 _ _))
  have B0 : Hid (Below w.heap.size w (((w.alloc (.cells #[.int .i64 0, .int .i64 0] 24)).alloc (.cells #[.int .i64 0, .int .i64 0] 24)).alloc (.cells #[.slice a0 len cap, .int .i64 0, .int .u64 0] 55))) := Lib.hid (Below.tr N0.out.2.2 (below1 _ _))
  have Z0 : Hid ((((w.alloc (.cells #[.int .i64 0, .int .i64 0] 24)).alloc (.cells #[.int .i64 0, .int .i64 0] 24)).alloc (.cells #[.slice a0 len cap, .int .i64 0, .int .u64 0] 55)).heap.size = w.heap.size + 1 + 1 + 1) := Lib.hid (by simp)
  clear N0 h
  go_enter Tryd.func8, Tryd.ntmps8
  go_wp2_with fail
  generalize (((w.alloc (.cells #[.int .i64 0, .int .i64 0] 24)).alloc (.cells #[.int .i64 0, .int .i64 0] 24)).alloc (.cells #[.slice a0 len cap, .int .i64 0, .int .u64 0] 55)) = v0 at C0 R0 T0 Z0 B0 ⊢
  have hsz := C0.out.lt
  refine (among_any (w.heap.size + 1 + 1) 0 (w.heap.size + 1 + 1 + 1) 15 [0, 1, 1, 1, 2, 2, 3, 4, 5, 6, 7, 8, 9, 10, 11] _ (Lib.hid (C0.out.alloc _)) (by omega) (by omega) (by omega) (by omega) ⟨rfl, fun i hi => by have q := cells_new v0 [0, 1, 1, 1, 2, 2, 3, 4, 5, 6, 7, 8, 9, 10, 11] 3 i hi; rw [Z0.out] at q; exact q⟩).mono ?_
  rintro e v1 ⟨op, hin, rfl, hc, hg⟩
  have C1 : Hid (Cur v1 (w.heap.size + 1 + 1) 10) := Lib.hid (hc.mono (by omega))
  have B1 := Lib.hid ((Below.tr B0.out (below1 v0 _)).grown hg (Below.tr B0.out (below1 v0 _)).size (fun k hk => by cases hk; omega))
  have R1 := Lib.hid (KB.grown (KB.below R0.out (below1 v0 _)) hg (by omega))
  have T1 := Lib.hid (KB.grown (KB.below T0.out (below1 v0 _)) hg (by omega))
  clear hc hg hin
  go_wp2_with fail
  refine (known_any (w.heap.size + 1 + 1) 10 _ C1 (by omega)).mono ?_
  rintro e v2 ⟨al, ah, rfl, hc, hg⟩
  have C2 : Hid (Cur v2 (w.heap.size + 1 + 1) 110) := Lib.hid (hc.mono (by omega))
  have B2 := Lib.hid (B1.out.grown hg B1.out.size (fun k hk => by cases hk; omega))
  have R2 := Lib.hid (KB.grown R1.out hg (by omega))
  have T2 := Lib.hid (KB.grown T1.out hg (by omega))
  clear hc hg
  go_wp2_with fail
  refine (known_any (w.heap.size + 1 + 1) 110 _ C2 (by omega)).mono ?_
  rintro e v3 ⟨bl, bh, rfl, hc, hg⟩
  have C3 : Hid (Cur v3 (w.heap.size + 1 + 1) 210) := Lib.hid (hc.mono (by omega))
  have B3 := Lib.hid (B2.out.grown hg B2.out.size (fun k hk => by cases hk; omega))
  have R3 := Lib.hid (KB.grown R2.out hg (by omega))
  have T3 := Lib.hid (KB.grown T2.out hg (by omega))
  clear hc hg
  have r0 := R3.out.c0
  have r1 := R3.out.c1
  have rf0 := R3.out.f 0
  have rf1 := R3.out.f 1
  have rl := R3.out.lt
  have t0 := T3.out.c0
  have t1 := T3.out.c1
  have tf0 := T3.out.f 0
  have tf1 := T3.out.f 1
  have tl := T3.out.lt
  go_wp2
  have K1 := KB.far2 (u := .int .i64 bl) (v := .int .i64 bh) (i := 0) (j := 1) (KB.set2 (x := al) (y := ah) R3.out) (show w.heap.size ≠ w.heap.size + 1 by omega)
  have K2 := KB.set2 (x := bl) (y := bh) (KB.far2 (u := .int .i64 al) (v := .int .i64 ah) (i := 0) (j := 1) T3.out (show w.heap.size + 1 ≠ w.heap.size by omega))
  have c0 := K1.c0
  have c1 := K1.c1
  have c2 := K2.c0
  have c3 := K2.c1
  exact bodyPost_ret (v := .tuple #[.int .i64 op, .agg #[.int .i64 al, .int .i64 ah], .agg #[.int .i64 bl, .int .i64 bh]]) (by simp [results, Tryd.results8, go_sem, c0, c1, c2, c3]) rfl ⟨op, al, ah, bl, bh, rfl, belowK2 (belowK2 B3.out (by omega)) (by omega)⟩
set_option maxRecDepth 100000 in
set_option maxHeartbeats 8000000 in
theorem drawMayK_any (a0 : Option Addr) (len cap : Nat) (w : World) (h : Hid (Bytes w a0 len)) :
    Calls Tryd.prog 20 #[.slice a0 len cap] w (DrewKN w) := by
  have N0 := one_newk w 0 0
  have C0 : Hid (Cur ((w.alloc (.cells #[.int .i64 0, .int .i64 0] 24)).alloc (.cells #[.slice a0 len cap, .int .i64 0, .int .u64 0] 55)) (w.heap.size + 1) 0) := Lib.hid (cur_overK w a0 len cap h.out 0 0 _ rfl)
  have R0 : Hid (KB ((w.alloc (.cells #[.int .i64 0, .int .i64 0] 24)).alloc (.cells #[.slice a0 len cap, .int .i64 0, .int .u64 0] 55)) w.heap.size 0 0) := Lib.hid (N0.out.1.below (below1 _ _))
  have B0 : Hid (Below w.heap.size w ((w.alloc (.cells #[.int .i64 0, .int .i64 0] 24)).alloc (.cells #[.slice a0 len cap, .int .i64 0, .int .u64 0] 55))) := Lib.hid (Below.tr N0.out.2 (below1 _ _))
  clear N0 h
  go_enter Tryd.func20, Tryd.ntmps20
  go_wp2_with fail
  generalize ((w.alloc (.cells #[.int .i64 0, .int .i64 0] 24)).alloc (.cells #[.slice a0 len cap, .int .i64 0, .int .u64 0] 55)) = v0 at C0 R0 B0 ⊢
  refine (known_any (w.heap.size + 1) 0 _ C0 (by omega)).mono ?_
  rintro e v1 ⟨al, ah, rfl, hc, hg⟩
  have C1 : Hid (Cur v1 (w.heap.size + 1) 100) := Lib.hid (hc.mono (by omega))
  have B1 := Lib.hid (B0.out.grown hg B0.out.size (fun k hk => by cases hk; omega))
  have R1 := Lib.hid (KB.grown R0.out hg (by omega))
  clear hc hg
  have zl := R1.out.lt
  have cl := C1.out.lt
  go_wp2_with fail
  have N1 := one_newk v1 al ah
  unfold kO at N1
  have C2 : Hid (Cur (v1.alloc (.cells #[.int .i64 al, .int .i64 ah] 24)) (w.heap.size + 1) 100) := Lib.hid (Cur.below C1.out N1.out.2)
  have B2 := Lib.hid (Below.tr B1.out N1.out.2)
  have R2 := Lib.hid (KB.below R1.out N1.out.2)
  have Q2 := Lib.hid N1.out.1
  obtain ⟨gk, hgk⟩ : ∃ q, v1.heap.size = q := ⟨_, rfl⟩
  rw [hgk] at Q2 zl cl ⊢
  clear N1 hgk C1 B1 R1
  generalize (v1.alloc (.cells #[.int .i64 al, .int .i64 ah] 24)) = v2 at C2 B2 R2 Q2 ⊢
  cases hgk : gK al ah
  · have GK := Lib.hid hgk
    clear hgk
    refine (goodKM_any _ _ _).mono ?_
    rw [GK.out]
    rintro e v3 ⟨rfl, hb⟩
    have C3 := Lib.hid (Cur.below C2.out hb)
    have B3 := Lib.hid (Below.tr B2.out hb)
    have R3 := Lib.hid (KB.below R2.out hb)
    have Q3 := Lib.hid (KB.below Q2.out hb)
    clear hb C2 B2 R2 Q2
    go_upto_region 5 with fail
    have q0 := Q3.out.c0
    have q1 := Q3.out.c1
    have r0 := R3.out.c0
    have r1 := R3.out.c1
    have rf0 := R3.out.f 0
    have rf1 := R3.out.f 1
    have rl := R3.out.lt
    have ql := Q3.out.lt
    have cl2 := C3.out.lt
    refine wp_region_held_drew (S := fun W => W.cell? ⟨gk, 0, none⟩ = some (.int .i64 al) ∧ W.cell? ⟨gk, 1, none⟩ = some (.int .i64 ah)) (by kernel_rfl) ?_ (fun hHeld => ?_)
    · exact ⟨(Q3.out).c0, (Q3.out).c1⟩
    refine wpAnyH_take (i := 0) (v := ?_) rfl (by kernel_rfl) (by kernel_rfl) (by kernel_rfl) (fun _ _ _ h => h) (Or.inl ⟨by rfl, ?_⟩) (by assumption) ?_
    rotate_left
    · intro W hSw
      try dsimp only at hSw
      go_simp
      try with_reducible rfl
    refine wpAnyH_take (i := 1) (v := ?_) rfl (by kernel_rfl) (by kernel_rfl) (by kernel_rfl) (fun _ _ _ h => h) (Or.inl ⟨by rfl, ?_⟩) (by assumption) ?_
    rotate_left
    · intro W hSw
      try dsimp only at hSw
      go_simp
      try with_reducible rfl
    refine wpAnyH_ready (rs := [2]) (by kernel_rfl) (by simp) ?_
    refine AllReadyH.cons rfl (fun K hK => ?_) AllReadyH.nil
    go_simp
    refine (rawWord_any (w.heap.size + 1) _ _ (Lib.hid (Cur.below C3.out (Below.refl _ _).drew)) (by omega)).mono ?_
    rintro e y1 ⟨n, _, rfl, hc, hg⟩
    have Y1 := Lib.hid (((Below.drew B3.out)).grown hg ((Below.drew B3.out)).size (fun k hk => by cases hk; omega))
    have Y1z := Y1.out.size
    have Y1c := Lib.hid (hc.mono (show _ ≤ 400 by omega))
    have Y1_r := Lib.hid (KB.grown (KB.drewn R3.out) hg (by omega))
    have Y1_rx := Y1_r.out.c0
    have Y1_ry := Y1_r.out.c1
    have Y1_rf := Y1_r.out.f 0
    have Y1_rh := Y1_r.out.f 1
    have Y1_rl := Y1_r.out.lt
    have Y1_q := Lib.hid (KB.grown (KB.drewn Q3.out) hg (by omega))
    have Y1_qx := Y1_q.out.c0
    have Y1_qy := Y1_q.out.c1
    have Y1_qf := Y1_q.out.f 0
    have Y1_qh := Y1_q.out.f 1
    have Y1_ql := Y1_q.out.lt
    clear hc hg
    refine hK.out _ _ ⟨(Y1_q.out).c0, (Y1_q.out).c1⟩ (fun hHeld2 => ?_)
    clear hK K
    refine wpAnyH_ready (rs := [3]) (by kernel_rfl) (by simp) ?_
    refine AllReadyH.cons rfl (fun K hK => ?_) AllReadyH.nil
    go_simp
    refine hK.out _ _ ⟨((KB.far2 Y1_q.out (by omega))).c0, ((KB.far2 Y1_q.out (by omega))).c1⟩ (fun hHeld2 => ?_)
    clear hK K
    refine wpAnyH_ready (rs := [4]) (by kernel_rfl) (by simp) ?_
    refine AllReadyH.cons rfl (fun K hK => ?_) AllReadyH.nil
    go_simp
    refine hK.out _ _ ⟨((KB.far2 Y1_q.out (by omega))).c0, ((KB.far2 Y1_q.out (by omega))).c1⟩ (fun hHeld2 => ?_)
    clear hK K
    refine wpAnyH_done (by kernel_rfl) ?_ _
    go_wp2
    refine kshutN (n := n) ((KB.set2 Y1_r.out)) ((belowK2 Y1.out (by omega))) ?_
    intro c0 c1; simp [results, Tryd.results20, go_sem, c0, c1]
  · obtain ⟨a, b, rfl, rfl, gg⟩ := gK_open hgk
    have GK := Lib.hid hgk
    have GG := Lib.hid gg
    clear hgk gg
    refine (goodKM_any _ _ _).mono ?_
    rw [GK.out]
    rintro e v3 ⟨rfl, hb⟩
    have C3 := Lib.hid (Cur.below C2.out hb)
    have B3 := Lib.hid (Below.tr B2.out hb)
    have R3 := Lib.hid (KB.below R2.out hb)
    have Q3 := Lib.hid (KB.below Q2.out hb)
    clear hb C2 B2 R2 Q2
    go_wp2_with fail
    refine (one_any (w.heap.size + 1) _ 2 _ C3 (by omega) (by omega) (by omega)).mono ?_
    rintro e v4 ⟨b2, rfl, hc, hg⟩
    have C4 : Hid (Cur v4 (w.heap.size + 1) 200) := Lib.hid (hc.mono (by omega))
    have B4 := Lib.hid (B3.out.grown hg B3.out.size (fun k hk => by cases hk; omega))
    have R4 := Lib.hid (KB.grown R3.out hg (by omega))
    have Q4 := Lib.hid (KB.grown Q3.out hg (by omega))
    clear hc hg
    cases b2
    · go_upto_region 5 with fail
      have q0 := Q4.out.c0
      have q1 := Q4.out.c1
      have r0 := R4.out.c0
      have r1 := R4.out.c1
      have rf0 := R4.out.f 0
      have rf1 := R4.out.f 1
      have rl := R4.out.lt
      have ql := Q4.out.lt
      have cl2 := C4.out.lt
      refine wp_region_held_drew (S := fun W => W.cell? ⟨gk, 0, none⟩ = some (.int .i64 (a : Int)) ∧ W.cell? ⟨gk, 1, none⟩ = some (.int .i64 (b : Int))) (by kernel_rfl) ?_ (fun hHeld => ?_)
      · exact ⟨(Q4.out).c0, (Q4.out).c1⟩
      refine wpAnyH_take (i := 0) (v := ?_) rfl (by kernel_rfl) (by kernel_rfl) (by kernel_rfl) (fun _ _ _ h => h) (Or.inl ⟨by rfl, ?_⟩) (by assumption) ?_
      rotate_left
      · intro W hSw
        try dsimp only at hSw
        go_simp
        try with_reducible rfl
      refine wpAnyH_take (i := 1) (v := ?_) rfl (by kernel_rfl) (by kernel_rfl) (by kernel_rfl) (fun _ _ _ h => h) (Or.inl ⟨by rfl, ?_⟩) (by assumption) ?_
      rotate_left
      · intro W hSw
        try dsimp only at hSw
        go_simp
        try with_reducible rfl
      refine wpAnyH_ready (rs := [2]) (by kernel_rfl) (by simp) ?_
      refine AllReadyH.cons rfl (fun K hK => ?_) AllReadyH.nil
      go_simp
      refine (rawWord_any (w.heap.size + 1) _ _ (Lib.hid (Cur.below C4.out (Below.refl _ _).drew)) (by omega)).mono ?_
      rintro e y1 ⟨n, _, rfl, hc, hg⟩
      have Y1 := Lib.hid (((Below.drew B4.out)).grown hg ((Below.drew B4.out)).size (fun k hk => by cases hk; omega))
      have Y1z := Y1.out.size
      have Y1c := Lib.hid (hc.mono (show _ ≤ 400 by omega))
      have Y1_r := Lib.hid (KB.grown (KB.drewn R4.out) hg (by omega))
      have Y1_rx := Y1_r.out.c0
      have Y1_ry := Y1_r.out.c1
      have Y1_rf := Y1_r.out.f 0
      have Y1_rh := Y1_r.out.f 1
      have Y1_rl := Y1_r.out.lt
      have Y1_q := Lib.hid (KB.grown (KB.drewn Q4.out) hg (by omega))
      have Y1_qx := Y1_q.out.c0
      have Y1_qy := Y1_q.out.c1
      have Y1_qf := Y1_q.out.f 0
      have Y1_qh := Y1_q.out.f 1
      have Y1_ql := Y1_q.out.lt
      clear hc hg
      refine hK.out _ _ ⟨(Y1_q.out).c0, (Y1_q.out).c1⟩ (fun hHeld2 => ?_)
      clear hK K
      refine wpAnyH_ready (rs := [3]) (by kernel_rfl) (by simp) ?_
      refine AllReadyH.cons rfl (fun K hK => ?_) AllReadyH.nil
      go_simp
      refine hK.out _ _ ⟨((KB.far2 Y1_q.out (by omega))).c0, ((KB.far2 Y1_q.out (by omega))).c1⟩ (fun hHeld2 => ?_)
      clear hK K
      refine wpAnyH_ready (rs := [4]) (by kernel_rfl) (by simp) ?_
      refine AllReadyH.cons rfl (fun K hK => ?_) AllReadyH.nil
      go_simp
      refine hK.out _ _ ⟨((KB.far2 Y1_q.out (by omega))).c0, ((KB.far2 Y1_q.out (by omega))).c1⟩ (fun hHeld2 => ?_)
      clear hK K
      refine wpAnyH_done (by kernel_rfl) ?_ _
      go_wp2
      refine kshutN (n := n) ((KB.set2 Y1_r.out)) ((belowK2 Y1.out (by omega))) ?_
      intro c0 c1; simp [results, Tryd.results20, go_sem, c0, c1]
    · go_upto_region 4 with fail
      have q0 := Q4.out.c0
      have q1 := Q4.out.c1
      have r0 := R4.out.c0
      have r1 := R4.out.c1
      have rf0 := R4.out.f 0
      have rf1 := R4.out.f 1
      have rl := R4.out.lt
      have ql := Q4.out.lt
      have cl2 := C4.out.lt
      refine wp_region_held_drew (S := fun W => W.cell? ⟨gk, 0, none⟩ = some (.int .i64 (a : Int)) ∧ W.cell? ⟨gk, 1, none⟩ = some (.int .i64 (b : Int))) (by kernel_rfl) ?_ (fun hHeld => ?_)
      · exact ⟨(Q4.out).c0, (Q4.out).c1⟩
      refine wpAnyH_take (i := 0) (v := ?_) rfl (by kernel_rfl) (by kernel_rfl) (by kernel_rfl) (fun _ _ _ h => h) (Or.inl ⟨by rfl, ?_⟩) (by assumption) ?_
      rotate_left
      · intro W hSw
        try dsimp only at hSw
        go_simp
        try with_reducible rfl
      refine wpAnyH_take (i := 1) (v := ?_) rfl (by kernel_rfl) (by kernel_rfl) (by kernel_rfl) (fun _ _ _ h => h) (Or.inl ⟨by rfl, ?_⟩) (by assumption) ?_
      rotate_left
      · intro W hSw
        try dsimp only at hSw
        go_simp
        try with_reducible rfl
      refine wpAnyH_take (i := 2) (v := ?_) rfl (by kernel_rfl) (by kernel_rfl) (by kernel_rfl) (fun _ _ _ h => h) (Or.inl ⟨by rfl, ?_⟩) (by assumption) ?_
      rotate_left
      · intro W hSw
        try dsimp only at hSw
        go_simp
        try with_reducible rfl
      refine wpAnyH_ready (rs := [3]) (by kernel_rfl) (by simp) ?_
      refine AllReadyH.cons rfl (fun K hK => ?_) AllReadyH.nil
      go_simp
      refine (pick_any (w.heap.size + 1) _ _ _ (Lib.hid (Cur.below C4.out (Below.refl _ _).drew)) (by omega) (by omega) (by omega)).mono ?_
      rintro e y1 ⟨n, ⟨z1, z2⟩, rfl, hc, hg⟩
      have Y1 := Lib.hid (((Below.drew B4.out)).grown hg ((Below.drew B4.out)).size (fun k hk => by cases hk; omega))
      have Y1z := Y1.out.size
      have Y1c := Lib.hid (hc.mono (show _ ≤ 300 by omega))
      have Y1_r := Lib.hid (KB.grown (KB.drewn R4.out) hg (by omega))
      have Y1_rx := Y1_r.out.c0
      have Y1_ry := Y1_r.out.c1
      have Y1_rf := Y1_r.out.f 0
      have Y1_rh := Y1_r.out.f 1
      have Y1_rl := Y1_r.out.lt
      have Y1_q := Lib.hid (KB.grown (KB.drewn Q4.out) hg (by omega))
      have Y1_qx := Y1_q.out.c0
      have Y1_qy := Y1_q.out.c1
      have Y1_qf := Y1_q.out.f 0
      have Y1_qh := Y1_q.out.f 1
      have Y1_ql := Y1_q.out.lt
      clear hc hg
      obtain ⟨nn, rfl⟩ := Int.eq_ofNat_of_zero_le z1
      have hnn : nn < 65536 := by omega
      refine hK.out _ _ ⟨(Y1_q.out).c0, (Y1_q.out).c1⟩ (fun hHeld2 => ?_)
      clear hK K
      refine wpAnyH_ready (rs := [4]) (by kernel_rfl) (by simp) ?_
      refine AllReadyH.cons rfl (fun K hK => ?_) AllReadyH.nil
      go_simp
      refine (l10At_any _ _ _ _ GG hnn).mono ?_
      rintro e y2 ⟨rfl, hb⟩
      have Y2 := Lib.hid (Below.tr Y1.out hb)
      have Y2z := Y2.out.size
      have Y2c := Lib.hid (Cur.below Y1c.out hb)
      have Y2_r := Lib.hid (KB.below Y1_r.out hb)
      have Y2_rx := Y2_r.out.c0
      have Y2_ry := Y2_r.out.c1
      have Y2_rf := Y2_r.out.f 0
      have Y2_rh := Y2_r.out.f 1
      have Y2_rl := Y2_r.out.lt
      have Y2_q := Lib.hid (KB.below Y1_q.out hb)
      have Y2_qx := Y2_q.out.c0
      have Y2_qy := Y2_q.out.c1
      have Y2_qf := Y2_q.out.f 0
      have Y2_qh := Y2_q.out.f 1
      have Y2_ql := Y2_q.out.lt
      clear hb
      refine hK.out _ _ ⟨(Y2_q.out).c0, (Y2_q.out).c1⟩ (fun hHeld2 => ?_)
      clear hK K
      refine wpAnyH_ready (rs := [5]) (by kernel_rfl) (by simp) ?_
      refine AllReadyH.cons rfl (fun K hK => ?_) AllReadyH.nil
      go_simp
      refine hK.out _ _ ⟨((KB.far2 Y2_q.out (by omega))).c0, ((KB.far2 Y2_q.out (by omega))).c1⟩ (fun hHeld2 => ?_)
      clear hK K
      refine wpAnyH_ready (rs := [6]) (by kernel_rfl) (by simp) ?_
      refine AllReadyH.cons rfl (fun K hK => ?_) AllReadyH.nil
      go_simp
      refine hK.out _ _ ⟨((KB.far2 Y2_q.out (by omega))).c0, ((KB.far2 Y2_q.out (by omega))).c1⟩ (fun hHeld2 => ?_)
      clear hK K
      refine wpAnyH_done (by kernel_rfl) ?_ _
      go_wp2
      refine kshutN (n := (numAt ⟨a, b⟩ nn : Nat)) ((KB.set2 Y2_r.out)) ((belowK2 Y2.out (by omega))) ?_
      intro c0 c1; simp [results, Tryd.results20, go_sem, c0, c1]
set_option maxRecDepth 100000 in
set_option maxHeartbeats 8000000 in
theorem drawMeetK_any (a0 : Option Addr) (len cap : Nat) (w : World) (h : Hid (Bytes w a0 len)) :
    Calls Tryd.prog 23 #[.slice a0 len cap] w (Drew2K w) := by
  have N0 := two_newk w 0 0 0 0
  have C0 : Hid (Cur (((w.alloc (.cells #[.int .i64 0, .int .i64 0] 24)).alloc (.cells #[.int .i64 0, .int .i64 0] 24)).alloc (.cells #[.slice a0 len cap, .int .i64 0, .int .u64 0] 55)) (w.heap.size + 1 + 1) 0) := Lib.hid (cur_overK2 w a0 len cap h.out 0 0 0 0)
  have R0 : Hid (KB (((w.alloc (.cells #[.int .i64 0, .int .i64 0] 24)).alloc (.cells #[.int .i64 0, .int .i64 0] 24)).alloc (.cells #[.slice a0 len cap, .int .i64 0, .int .u64 0] 55)) w.heap.size 0 0) := Lib.hid (N0.out.1.below (below1 _ _))
  have T0 : Hid (KB (((w.alloc (.cells #[.int .i64 0, .int .i64 0] 24)).alloc (.cells #[.int .i64 0, .int .i64 0] 24)).alloc (.cells #[.slice a0 len cap, .int .i64 0, .int .u64 0] 55)) (w.heap.size + 1) 0 0) := Lib.hid (N0.out.2.1.below (below1 _ _))
  have B0 : Hid (Below w.heap.size w (((w.alloc (.cells #[.int .i64 0, .int .i64 0] 24)).alloc (.cells #[.int .i64 0, .int .i64 0] 24)).alloc (.cells #[.slice a0 len cap, .int .i64 0, .int .u64 0] 55))) := Lib.hid (Below.tr N0.out.2.2 (below1 _ _))
  clear N0 h
  go_enter Tryd.func23, Tryd.ntmps23
  go_wp2_with fail
  generalize (((w.alloc (.cells #[.int .i64 0, .int .i64 0] 24)).alloc (.cells #[.int .i64 0, .int .i64 0] 24)).alloc (.cells #[.slice a0 len cap, .int .i64 0, .int .u64 0] 55)) = v0 at C0 R0 T0 B0 ⊢
  refine (known_any (w.heap.size + 1 + 1) 0 _ C0 (by omega)).mono ?_
  rintro e v1 ⟨al, ah, rfl, hc, hg⟩
  have C1 : Hid (Cur v1 (w.heap.size + 1 + 1) 100) := Lib.hid (hc.mono (by omega))
  have B1 := Lib.hid (B0.out.grown hg B0.out.size (fun k hk => by cases hk; omega))
  have R1 := Lib.hid (KB.grown R0.out hg (by omega))
  have T1 := Lib.hid (KB.grown T0.out hg (by omega))
  clear hc hg
  have zl := T1.out.lt
  have cl := C1.out.lt
  go_wp2_with fail
  have N1 := one_newk v1 al ah
  unfold kO at N1
  have C2 : Hid (Cur (v1.alloc (.cells #[.int .i64 al, .int .i64 ah] 24)) (w.heap.size + 1 + 1) 100) := Lib.hid (Cur.below C1.out N1.out.2)
  have B2 := Lib.hid (Below.tr B1.out N1.out.2)
  have R2 := Lib.hid (KB.below R1.out N1.out.2)
  have T2 := Lib.hid (KB.below T1.out N1.out.2)
  have Q2 := Lib.hid N1.out.1
  obtain ⟨gk, hgk⟩ : ∃ q, v1.heap.size = q := ⟨_, rfl⟩
  rw [hgk] at Q2 zl cl ⊢
  clear N1 hgk C1 B1 R1 T1
  generalize (v1.alloc (.cells #[.int .i64 al, .int .i64 ah] 24)) = v2 at C2 B2 R2 T2 Q2 ⊢
  refine (one_any (w.heap.size + 1 + 1) _ 2 _ C2 (by omega) (by omega) (by omega)).mono ?_
  rintro e v3 ⟨b2, rfl, hc, hg⟩
  have C3 : Hid (Cur v3 (w.heap.size + 1 + 1) 200) := Lib.hid (hc.mono (by omega))
  have B3 := Lib.hid (B2.out.grown hg B2.out.size (fun k hk => by cases hk; omega))
  have R3 := Lib.hid (KB.grown R2.out hg (by omega))
  have T3 := Lib.hid (KB.grown T2.out hg (by omega))
  have Q3 := Lib.hid (KB.grown Q2.out hg (by omega))
  clear hc hg C2 B2 R2 T2 Q2
  cases b2
  · go_upto_region 5 with fail
    have q0 := Q3.out.c0
    have q1 := Q3.out.c1
    have r0 := R3.out.c0
    have r1 := R3.out.c1
    have rf0 := R3.out.f 0
    have rf1 := R3.out.f 1
    have rl := R3.out.lt
    have ql := Q3.out.lt
    have cl2 := C3.out.lt
    have t0 := T3.out.c0
    have t1 := T3.out.c1
    have tf0 := T3.out.f 0
    have tf1 := T3.out.f 1
    have tl := T3.out.lt
    refine wp_region_held_drew (S := fun W => W.cell? ⟨gk, 0, none⟩ = some (.int .i64 al) ∧ W.cell? ⟨gk, 1, none⟩ = some (.int .i64 ah)) (by kernel_rfl) ?_ (fun hHeld => ?_)
    · exact ⟨(Q3.out).c0, (Q3.out).c1⟩
    refine wpAnyH_take (i := 0) (v := ?_) rfl (by kernel_rfl) (by kernel_rfl) (by kernel_rfl) (fun _ _ _ h => h) (Or.inl ⟨by rfl, ?_⟩) (by assumption) ?_
    rotate_left
    · intro W hSw
      try dsimp only at hSw
      go_simp
      try with_reducible rfl
    refine wpAnyH_take (i := 1) (v := ?_) rfl (by kernel_rfl) (by kernel_rfl) (by kernel_rfl) (fun _ _ _ h => h) (Or.inl ⟨by rfl, ?_⟩) (by assumption) ?_
    rotate_left
    · intro W hSw
      try dsimp only at hSw
      go_simp
      try with_reducible rfl
    refine wpAnyH_ready (rs := [2]) (by kernel_rfl) (by simp) ?_
    refine AllReadyH.cons rfl (fun K hK => ?_) AllReadyH.nil
    go_simp
    refine (known_any (w.heap.size + 1 + 1) _ _ (Lib.hid (Cur.below C3.out (Below.refl _ _).drew)) (by omega)).mono ?_
    rintro e y1 ⟨bl, bh, rfl, hc, hg⟩
    have Y1 := Lib.hid (((Below.drew B3.out)).grown hg ((Below.drew B3.out)).size (fun k hk => by cases hk; omega))
    have Y1z := Y1.out.size
    have Y1c := Lib.hid (hc.mono (show _ ≤ 800 by omega))
    have Y1_r := Lib.hid (KB.grown (KB.drewn R3.out) hg (by omega))
    have Y1_rx := Y1_r.out.c0
    have Y1_ry := Y1_r.out.c1
    have Y1_rf := Y1_r.out.f 0
    have Y1_rh := Y1_r.out.f 1
    have Y1_rl := Y1_r.out.lt
    have Y1_q := Lib.hid (KB.grown (KB.drewn Q3.out) hg (by omega))
    have Y1_qx := Y1_q.out.c0
    have Y1_qy := Y1_q.out.c1
    have Y1_qf := Y1_q.out.f 0
    have Y1_qh := Y1_q.out.f 1
    have Y1_ql := Y1_q.out.lt
    have Y1_t := Lib.hid (KB.grown (KB.drewn T3.out) hg (by omega))
    have Y1_tx := Y1_t.out.c0
    have Y1_ty := Y1_t.out.c1
    have Y1_tf := Y1_t.out.f 0
    have Y1_th := Y1_t.out.f 1
    have Y1_tl := Y1_t.out.lt
    clear hc hg
    refine hK.out _ _ ⟨(Y1_q.out).c0, (Y1_q.out).c1⟩ (fun hHeld2 => ?_)
    clear hK K
    refine wpAnyH_ready (rs := [3]) (by kernel_rfl) (by simp) ?_
    refine AllReadyH.cons rfl (fun K hK => ?_) AllReadyH.nil
    go_simp
    refine hK.out _ _ ⟨((KB.far2 Y1_q.out (by omega))).c0, ((KB.far2 Y1_q.out (by omega))).c1⟩ (fun hHeld2 => ?_)
    clear hK K
    refine wpAnyH_ready (rs := [4]) (by kernel_rfl) (by simp) ?_
    refine AllReadyH.cons rfl (fun K hK => ?_) AllReadyH.nil
    go_simp
    refine hK.out _ _ ⟨((KB.far2 (KB.far2 Y1_q.out (by omega)) (by omega))).c0, ((KB.far2 (KB.far2 Y1_q.out (by omega)) (by omega))).c1⟩ (fun hHeld2 => ?_)
    clear hK K
    refine wpAnyH_done (by kernel_rfl) ?_ _
    go_wp2
    refine kshut2n ((KB.far2 (KB.set2 Y1_r.out) (by omega))) ((KB.set2 (KB.far2 Y1_t.out (by omega)))) ((belowK2 (belowK2 Y1.out (by omega)) (by omega))) ?_
    intro c0 c1 c2 c3; simp [results, Tryd.results23, go_sem, c0, c1, c2, c3]
  · skip
    have q0 := Q3.out.c0
    have q1 := Q3.out.c1
    have r0 := R3.out.c0
    have r1 := R3.out.c1
    have rf0 := R3.out.f 0
    have rf1 := R3.out.f 1
    have rl := R3.out.lt
    have ql := Q3.out.lt
    have cl2 := C3.out.lt
    have t0 := T3.out.c0
    have t1 := T3.out.c1
    have tf0 := T3.out.f 0
    have tf1 := T3.out.f 1
    have tl := T3.out.lt
    go_wp2_with fail
    cases hgk : gK al ah
    · have GK := Lib.hid hgk
      clear hgk
      refine (goodKM_any _ _ _).mono ?_
      rw [GK.out]
      rintro e v4 ⟨rfl, hb⟩
      have C4 := Lib.hid (Cur.below C3.out hb)
      have B4 := Lib.hid (Below.tr B3.out hb)
      have R4 := Lib.hid (KB.below R3.out hb)
      have Q4 := Lib.hid (KB.below Q3.out hb)
      have T4 := Lib.hid (KB.below T3.out hb)
      clear hb
      go_upto_region 5 with fail
      have q0 := Q4.out.c0
      have q1 := Q4.out.c1
      have r0 := R4.out.c0
      have r1 := R4.out.c1
      have rf0 := R4.out.f 0
      have rf1 := R4.out.f 1
      have rl := R4.out.lt
      have ql := Q4.out.lt
      have cl2 := C4.out.lt
      have t0 := T4.out.c0
      have t1 := T4.out.c1
      have tf0 := T4.out.f 0
      have tf1 := T4.out.f 1
      have tl := T4.out.lt
      refine wp_region_held_drew (S := fun W => W.cell? ⟨gk, 0, none⟩ = some (.int .i64 al) ∧ W.cell? ⟨gk, 1, none⟩ = some (.int .i64 ah)) (by kernel_rfl) ?_ (fun hHeld => ?_)
      · exact ⟨(Q4.out).c0, (Q4.out).c1⟩
      refine wpAnyH_take (i := 0) (v := ?_) rfl (by kernel_rfl) (by kernel_rfl) (by kernel_rfl) (fun _ _ _ h => h) (Or.inl ⟨by rfl, ?_⟩) (by assumption) ?_
      rotate_left
      · intro W hSw
        try dsimp only at hSw
        go_simp
        try with_reducible rfl
      refine wpAnyH_take (i := 1) (v := ?_) rfl (by kernel_rfl) (by kernel_rfl) (by kernel_rfl) (fun _ _ _ h => h) (Or.inl ⟨by rfl, ?_⟩) (by assumption) ?_
      rotate_left
      · intro W hSw
        try dsimp only at hSw
        go_simp
        try with_reducible rfl
      refine wpAnyH_ready (rs := [2]) (by kernel_rfl) (by simp) ?_
      refine AllReadyH.cons rfl (fun K hK => ?_) AllReadyH.nil
      go_simp
      refine (known_any (w.heap.size + 1 + 1) _ _ (Lib.hid (Cur.below C4.out (Below.refl _ _).drew)) (by omega)).mono ?_
      rintro e y1 ⟨bl, bh, rfl, hc, hg⟩
      have Y1 := Lib.hid (((Below.drew B4.out)).grown hg ((Below.drew B4.out)).size (fun k hk => by cases hk; omega))
      have Y1z := Y1.out.size
      have Y1c := Lib.hid (hc.mono (show _ ≤ 800 by omega))
      have Y1_r := Lib.hid (KB.grown (KB.drewn R4.out) hg (by omega))
      have Y1_rx := Y1_r.out.c0
      have Y1_ry := Y1_r.out.c1
      have Y1_rf := Y1_r.out.f 0
      have Y1_rh := Y1_r.out.f 1
      have Y1_rl := Y1_r.out.lt
      have Y1_q := Lib.hid (KB.grown (KB.drewn Q4.out) hg (by omega))
      have Y1_qx := Y1_q.out.c0
      have Y1_qy := Y1_q.out.c1
      have Y1_qf := Y1_q.out.f 0
      have Y1_qh := Y1_q.out.f 1
      have Y1_ql := Y1_q.out.lt
      have Y1_t := Lib.hid (KB.grown (KB.drewn T4.out) hg (by omega))
      have Y1_tx := Y1_t.out.c0
      have Y1_ty := Y1_t.out.c1
      have Y1_tf := Y1_t.out.f 0
      have Y1_th := Y1_t.out.f 1
      have Y1_tl := Y1_t.out.lt
      clear hc hg
      refine hK.out _ _ ⟨(Y1_q.out).c0, (Y1_q.out).c1⟩ (fun hHeld2 => ?_)
      clear hK K
      refine wpAnyH_ready (rs := [3]) (by kernel_rfl) (by simp) ?_
      refine AllReadyH.cons rfl (fun K hK => ?_) AllReadyH.nil
      go_simp
      refine hK.out _ _ ⟨((KB.far2 Y1_q.out (by omega))).c0, ((KB.far2 Y1_q.out (by omega))).c1⟩ (fun hHeld2 => ?_)
      clear hK K
      refine wpAnyH_ready (rs := [4]) (by kernel_rfl) (by simp) ?_
      refine AllReadyH.cons rfl (fun K hK => ?_) AllReadyH.nil
      go_simp
      refine hK.out _ _ ⟨((KB.far2 (KB.far2 Y1_q.out (by omega)) (by omega))).c0, ((KB.far2 (KB.far2 Y1_q.out (by omega)) (by omega))).c1⟩ (fun hHeld2 => ?_)
      clear hK K
      refine wpAnyH_done (by kernel_rfl) ?_ _
      go_wp2
      refine kshut2n ((KB.far2 (KB.set2 Y1_r.out) (by omega))) ((KB.set2 (KB.far2 Y1_t.out (by omega)))) ((belowK2 (belowK2 Y1.out (by omega)) (by omega))) ?_
      intro c0 c1 c2 c3; simp [results, Tryd.results23, go_sem, c0, c1, c2, c3]
    · obtain ⟨a, b, rfl, rfl, gg⟩ := gK_open hgk
      have GK := Lib.hid hgk
      have GG := Lib.hid gg
      clear hgk gg
      refine (goodKM_any _ _ _).mono ?_
      rw [GK.out]
      rintro e v4 ⟨rfl, hb⟩
      have C4 := Lib.hid (Cur.below C3.out hb)
      have B4 := Lib.hid (Below.tr B3.out hb)
      have R4 := Lib.hid (KB.below R3.out hb)
      have Q4 := Lib.hid (KB.below Q3.out hb)
      have T4 := Lib.hid (KB.below T3.out hb)
      clear hb
      go_upto_region 4 with fail
      have q0 := Q4.out.c0
      have q1 := Q4.out.c1
      have r0 := R4.out.c0
      have r1 := R4.out.c1
      have rf0 := R4.out.f 0
      have rf1 := R4.out.f 1
      have rl := R4.out.lt
      have ql := Q4.out.lt
      have cl2 := C4.out.lt
      have t0 := T4.out.c0
      have t1 := T4.out.c1
      have tf0 := T4.out.f 0
      have tf1 := T4.out.f 1
      have tl := T4.out.lt
      refine wp_region_held_drew (S := fun W => W.cell? ⟨gk, 0, none⟩ = some (.int .i64 (a : Int)) ∧ W.cell? ⟨gk, 1, none⟩ = some (.int .i64 (b : Int))) (by kernel_rfl) ?_ (fun hHeld => ?_)
      · exact ⟨(Q4.out).c0, (Q4.out).c1⟩
      refine wpAnyH_take (i := 0) (v := ?_) rfl (by kernel_rfl) (by kernel_rfl) (by kernel_rfl) (fun _ _ _ h => h) (Or.inl ⟨by rfl, ?_⟩) (by assumption) ?_
      rotate_left
      · intro W hSw
        try dsimp only at hSw
        go_simp
        try with_reducible rfl
      refine wpAnyH_take (i := 1) (v := ?_) rfl (by kernel_rfl) (by kernel_rfl) (by kernel_rfl) (fun _ _ _ h => h) (Or.inl ⟨by rfl, ?_⟩) (by assumption) ?_
      rotate_left
      · intro W hSw
        try dsimp only at hSw
        go_simp
        try with_reducible rfl
      refine wpAnyH_take (i := 2) (v := ?_) rfl (by kernel_rfl) (by kernel_rfl) (by kernel_rfl) (fun _ _ _ h => h) (Or.inl ⟨by rfl, ?_⟩) (by assumption) ?_
      rotate_left
      · intro W hSw
        try dsimp only at hSw
        go_simp
        try with_reducible rfl
      refine wpAnyH_take (i := 5) (v := ?_) rfl (by kernel_rfl) (by kernel_rfl) (by kernel_rfl) (fun _ _ _ h => h) (Or.inl ⟨by rfl, ?_⟩) (by assumption) ?_
      rotate_left
      · intro W hSw
        try dsimp only at hSw
        go_simp
        try with_reducible rfl
      refine wpAnyH_ready (rs := [3]) (by kernel_rfl) (by simp) ?_
      refine AllReadyH.cons rfl (fun K hK => ?_) AllReadyH.nil
      go_simp
      refine (pick_any (w.heap.size + 1 + 1) _ _ _ (Lib.hid (Cur.below C4.out (Below.refl _ _).drew)) (by omega) (by omega) (by omega)).mono ?_
      rintro e y1 ⟨n, ⟨z1, z2⟩, rfl, hc, hg⟩
      have Y1 := Lib.hid (((Below.drew B4.out)).grown hg ((Below.drew B4.out)).size (fun k hk => by cases hk; omega))
      have Y1z := Y1.out.size
      have Y1c := Lib.hid (hc.mono (show _ ≤ 300 by omega))
      have Y1_r := Lib.hid (KB.grown (KB.drewn R4.out) hg (by omega))
      have Y1_rx := Y1_r.out.c0
      have Y1_ry := Y1_r.out.c1
      have Y1_rf := Y1_r.out.f 0
      have Y1_rh := Y1_r.out.f 1
      have Y1_rl := Y1_r.out.lt
      have Y1_q := Lib.hid (KB.grown (KB.drewn Q4.out) hg (by omega))
      have Y1_qx := Y1_q.out.c0
      have Y1_qy := Y1_q.out.c1
      have Y1_qf := Y1_q.out.f 0
      have Y1_qh := Y1_q.out.f 1
      have Y1_ql := Y1_q.out.lt
      have Y1_t := Lib.hid (KB.grown (KB.drewn T4.out) hg (by omega))
      have Y1_tx := Y1_t.out.c0
      have Y1_ty := Y1_t.out.c1
      have Y1_tf := Y1_t.out.f 0
      have Y1_th := Y1_t.out.f 1
      have Y1_tl := Y1_t.out.lt
      clear hc hg
      obtain ⟨nn, rfl⟩ := Int.eq_ofNat_of_zero_le z1
      have hnn : nn < 65536 := by omega
      refine hK.out _ _ ⟨(Y1_q.out).c0, (Y1_q.out).c1⟩ (fun hHeld2 => ?_)
      clear hK K
      refine wpAnyH_ready (rs := [4]) (by kernel_rfl) (by simp) ?_
      refine AllReadyH.cons rfl (fun K hK => ?_) AllReadyH.nil
      go_simp
      refine (l10At_any _ _ _ _ GG hnn).mono ?_
      rintro e y2 ⟨rfl, hb⟩
      have Y2 := Lib.hid (Below.tr Y1.out hb)
      have Y2z := Y2.out.size
      have Y2c := Lib.hid (Cur.below Y1c.out hb)
      have Y2_r := Lib.hid (KB.below Y1_r.out hb)
      have Y2_rx := Y2_r.out.c0
      have Y2_ry := Y2_r.out.c1
      have Y2_rf := Y2_r.out.f 0
      have Y2_rh := Y2_r.out.f 1
      have Y2_rl := Y2_r.out.lt
      have Y2_q := Lib.hid (KB.below Y1_q.out hb)
      have Y2_qx := Y2_q.out.c0
      have Y2_qy := Y2_q.out.c1
      have Y2_qf := Y2_q.out.f 0
      have Y2_qh := Y2_q.out.f 1
      have Y2_ql := Y2_q.out.lt
      have Y2_t := Lib.hid (KB.below Y1_t.out hb)
      have Y2_tx := Y2_t.out.c0
      have Y2_ty := Y2_t.out.c1
      have Y2_tf := Y2_t.out.f 0
      have Y2_th := Y2_t.out.f 1
      have Y2_tl := Y2_t.out.lt
      clear hb
      refine hK.out _ _ ⟨(Y2_q.out).c0, (Y2_q.out).c1⟩ (fun hHeld2 => ?_)
      clear hK K
      refine wpAnyH_ready (rs := [6]) (by kernel_rfl) (by simp) ?_
      refine AllReadyH.cons rfl (fun K hK => ?_) AllReadyH.nil
      go_simp
      refine (word_any (w.heap.size + 1 + 1) _ _ (Lib.hid Y2c.out) (by omega)).mono ?_
      rintro e y3 ⟨n2, _, rfl, hc, hg⟩
      have Y3 := Lib.hid ((Y2.out).grown hg (Y2.out).size (fun k hk => by cases hk; omega))
      have Y3z := Y3.out.size
      have Y3c := Lib.hid (hc.mono (show _ ≤ 400 by omega))
      have Y3_r := Lib.hid (KB.grown Y2_r.out hg (by omega))
      have Y3_rx := Y3_r.out.c0
      have Y3_ry := Y3_r.out.c1
      have Y3_rf := Y3_r.out.f 0
      have Y3_rh := Y3_r.out.f 1
      have Y3_rl := Y3_r.out.lt
      have Y3_q := Lib.hid (KB.grown Y2_q.out hg (by omega))
      have Y3_qx := Y3_q.out.c0
      have Y3_qy := Y3_q.out.c1
      have Y3_qf := Y3_q.out.f 0
      have Y3_qh := Y3_q.out.f 1
      have Y3_ql := Y3_q.out.lt
      have Y3_t := Lib.hid (KB.grown Y2_t.out hg (by omega))
      have Y3_tx := Y3_t.out.c0
      have Y3_ty := Y3_t.out.c1
      have Y3_tf := Y3_t.out.f 0
      have Y3_th := Y3_t.out.f 1
      have Y3_tl := Y3_t.out.lt
      clear hc hg
      refine hK.out _ _ ⟨(Y3_q.out).c0, (Y3_q.out).c1⟩ (fun hHeld2 => ?_)
      clear hK K
      refine wpAnyH_ready (rs := [7]) (by kernel_rfl) (by simp) ?_
      refine AllReadyH.cons rfl (fun K hK => ?_) AllReadyH.nil
      go_simp
      refine (l10Not_any _ _ _).mono ?_
      rintro e y4 ⟨rfl, hb⟩
      have Y4 := Lib.hid (Below.tr Y3.out hb)
      have Y4z := Y4.out.size
      have Y4c := Lib.hid (Cur.below Y3c.out hb)
      have Y4_r := Lib.hid (KB.below Y3_r.out hb)
      have Y4_rx := Y4_r.out.c0
      have Y4_ry := Y4_r.out.c1
      have Y4_rf := Y4_r.out.f 0
      have Y4_rh := Y4_r.out.f 1
      have Y4_rl := Y4_r.out.lt
      have Y4_q := Lib.hid (KB.below Y3_q.out hb)
      have Y4_qx := Y4_q.out.c0
      have Y4_qy := Y4_q.out.c1
      have Y4_qf := Y4_q.out.f 0
      have Y4_qh := Y4_q.out.f 1
      have Y4_ql := Y4_q.out.lt
      have Y4_t := Lib.hid (KB.below Y3_t.out hb)
      have Y4_tx := Y4_t.out.c0
      have Y4_ty := Y4_t.out.c1
      have Y4_tf := Y4_t.out.f 0
      have Y4_th := Y4_t.out.f 1
      have Y4_tl := Y4_t.out.lt
      clear hb
      refine hK.out _ _ ⟨(Y4_q.out).c0, (Y4_q.out).c1⟩ (fun hHeld2 => ?_)
      clear hK K
      refine wpAnyH_ready (rs := [8]) (by kernel_rfl) (by simp) ?_
      refine AllReadyH.cons rfl (fun K hK => ?_) AllReadyH.nil
      go_simp
      refine hK.out _ _ ⟨((KB.far2 Y4_q.out (by omega))).c0, ((KB.far2 Y4_q.out (by omega))).c1⟩ (fun hHeld2 => ?_)
      clear hK K
      refine wpAnyH_ready (rs := [9]) (by kernel_rfl) (by simp) ?_
      refine AllReadyH.cons rfl (fun K hK => ?_) AllReadyH.nil
      go_simp
      refine hK.out _ _ ⟨((KB.far2 (KB.far2 Y4_q.out (by omega)) (by omega))).c0, ((KB.far2 (KB.far2 Y4_q.out (by omega)) (by omega))).c1⟩ (fun hHeld2 => ?_)
      clear hK K
      refine wpAnyH_done (by kernel_rfl) ?_ _
      go_wp2
      refine kshut2n ((KB.far2 (KB.set2 Y4_r.out) (by omega))) ((KB.set2 (KB.far2 Y4_t.out (by omega)))) ((belowK2 (belowK2 Y4.out (by omega)) (by omega))) ?_
      intro c0 c1 c2 c3; simp [results, Tryd.results23, go_sem, c0, c1, c2, c3]
end Go.Proofs.YtmfganodnlnjcaaDoor.Op
