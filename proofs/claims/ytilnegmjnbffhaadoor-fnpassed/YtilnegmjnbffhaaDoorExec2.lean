/-
  The program's step on a machine of its own: contracts by kind.
-/
import Derived.Test.YtilnegmjnbffhaaDoorExec1
import Derived.Deep.RegionHeld3
namespace Go.Proofs.YtilnegmjnbffhaaDoor
open Go.ChangeShapes Go.WideShapes Go.ChangeAt Go.RowKit

def four (nb g1 g2 g3 : Nat) (i : Nat) : Prop := i = nb ∨ i = g1 ∨ i = g2 ∨ i = g3
/-- what execute answers where the step has no fault -/
def GaveEx (w : World) (base nb g1 g2 g3 c1 c2 c3 : Nat) (r : Mch × Int × Bool) (e : Ending) (w' : World) : Prop :=
  e = .returned (.bool r.2.2) ∧ Blk w' nb 73 [.int .i64 r.1.a, .slice (some ⟨g1, 0, none⟩) 6 c1, .slice (some ⟨g2, 0, none⟩) 16 c2, .slice (some ⟨g3, 0, none⟩) 16 c3] ∧ OwnM w' base g1 g2 g3 c1 c2 c3 r.1 ∧ Kept w w' (four nb g1 g2 g3)
theorem four_kept3 {w w' : World} {nb g1 g2 g3 : Nat} (h : Kept w w' (three g1 g2 g3)) : Kept w w' (four nb g1 g2 g3) :=
  ⟨h.os, h.tape, h.output, h.size, fun i hi hn => h.block i hi (fun e => hn (.inr e))⟩
theorem ex_shut {w w2 : World} {base nb g1 g2 g3 c1 c2 c3 at_ : Nat} {m1 : Mch} {a : Int} {v1 v2 v3 : Value} (r : Mch × Int × Bool) (h1 : v1 = .slice (some ⟨g1, 0, none⟩) 6 c1) (h2 : v2 = .slice (some ⟨g2, 0, none⟩) 16 c2) (h3 : v3 = .slice (some ⟨g3, 0, none⟩) 16 c3)
    (KB : Blk w2 nb 73 [.int .i64 at_, v1, v2, v3]) (O1 : OwnM w2 base g1 g2 g3 c1 c2 c3 m1) (hk : Kept w w2 (four nb g1 g2 g3)) (hne : nb ≠ g1 ∧ nb ≠ g2 ∧ nb ≠ g3)
    (hr : r.1 = ⟨a, m1.r, m1.c, m1.s⟩) (hb : r.2.2 = false) : GaveEx w base nb g1 g2 g3 c1 c2 c3 r (.returned (.bool false)) (w2.setCell ⟨nb, 0, none⟩ (.int .i64 a)) := by
  subst h1 h2 h3
  refine ⟨by rw [hb], ?_, ?_, hk.trans (kept_setCell w2 nb 0 _ (.inl rfl))⟩
  · rw [hr]; exact KB.set 0 (.int .i64 a)
  · rw [hr]; exact (O1.at a).far _ (by omega) (by omega) (by omega)
theorem box_at (w : World) (g d : Nat) (v : Value) (cs : List Value) (T : TypeId) (j : Nat) : (World.drew ((w.setCell ⟨g, d, none⟩ v).alloc (.cells cs.toArray T))).cell? ⟨w.heap.size, j, none⟩ = cs[j]? := by
  have hs : (w.setCell ⟨g, d, none⟩ v).heap.size = w.heap.size := by simp [World.setCell]
  have hb : Blk ((w.setCell ⟨g, d, none⟩ v).alloc (.cells cs.toArray T)) (w.setCell ⟨g, d, none⟩ v).heap.size T cs := heap_alloc_new _ _
  rw [hs] at hb
  exact hb.cell j
theorem box_at0 (w : World) (cs : List Value) (T : TypeId) (j : Nat) : (World.drew (w.alloc (.cells cs.toArray T))).cell? ⟨w.heap.size, j, none⟩ = cs[j]? := by
  have hb : Blk (w.alloc (.cells cs.toArray T)) w.heap.size T cs := heap_alloc_new _ _
  exact hb.cell j
theorem old_at (w : World) (g d : Nat) (v : Value) (o : Obj) (b j : Nat) (hne : b ≠ g) (hlt : b < w.heap.size) : (World.drew ((w.setCell ⟨g, d, none⟩ v).alloc o)).cell? ⟨b, j, none⟩ = w.cell? ⟨b, j, none⟩ := by
  have hs : (w.setCell ⟨g, d, none⟩ v).heap.size = w.heap.size := by simp [World.setCell]
  have h1 : ((w.setCell ⟨g, d, none⟩ v).alloc o).cell? ⟨b, j, none⟩ = (w.setCell ⟨g, d, none⟩ v).cell? ⟨b, j, none⟩ := World.cell?_alloc_lt _ _ _ (by rw [hs]; exact hlt)
  exact h1.trans (World.cell?_of_block (a := ⟨b, j, none⟩) (Below.heap_setCell w ⟨g, d, none⟩ v b hne))
theorem powTab_below {w w' : World} (h : Op.PowTab w) (hb : Below w.heap.size w w') : Op.PowTab w' := fun i hi => by
  have hc := h i hi
  exact ((bcell hb).1 _ _ (World.block_lt_of_cell? w _ hc)).trans hc

set_option maxRecDepth 100000 in
set_option maxHeartbeats 2000000 in
theorem exec_set3 (i : Int) (d s : Nat) (C : Option Addr) (cn cc : Nat) (at_ : Nat) (base nb g1 g2 g3 c1 c2 c3 : Nat) (m : Mch) (rd rs : Int) (w : World)
    (KB : Hid (Blk w nb 73 [.int .i64 at_, .slice (some ⟨g1, 0, none⟩) 6 c1, .slice (some ⟨g2, 0, none⟩) 16 c2, .slice (some ⟨g3, 0, none⟩) 16 c3])) (hne : nb ≠ g1 ∧ nb ≠ g2 ∧ nb ≠ g3) (hat : at_ < 20) (hma : Hid (m.a = at_)) (HO : Hid (OwnM w base g1 g2 g3 c1 c2 c3 m)) (hd : d < 6) (hs : s < 6) (hrd : m.r.getD d 0 = rd) (_hrs : m.r.getD s 0 = rs) :
    Calls Tryd.prog 67 #[.agg #[.int .i64 3, .int .i64 0, .int .i64 d, .int .i64 s, .int .i64 i, .int .i64 0], .slice C cn cc, .pointer (some ⟨nb, 0, none⟩)] w (GaveEx w base nb g1 g2 g3 c1 c2 c3 (setR m d (i), 0, false)) := by
  have k0 : w.cell? ⟨nb, 0, none⟩ = some (.int .i64 at_) := KB.out.there rfl
  have k1 : w.cell? ⟨nb, 1, none⟩ = some (.slice (some ⟨g1, 0, none⟩) 6 c1) := KB.out.there rfl
  have k2 : w.cell? ⟨nb, 2, none⟩ = some (.slice (some ⟨g2, 0, none⟩) 16 c2) := KB.out.there rfl
  have k3 : w.cell? ⟨nb, 3, none⟩ = some (.slice (some ⟨g3, 0, none⟩) 16 c3) := KB.out.there rfl
  have z0 := KB.out.frozen 0
  have lb := KB.out.lt
  have r1 := HO.out.reg hd
  have r2 := HO.out.reg hs
  rw [hrd] at r1
  rw [_hrs] at r2
  have f1 := own_frozen HO.out.1 d
  obtain ⟨l1, l2, l3⟩ := HO.out.lt
  obtain ⟨n1, n2, n3⟩ := hne
  have hdI : (d : Int) < 6 := by omega
  have hsI : (s : Int) < 6 := by omega
  clear hrd _hrs
  go_enter Tryd.func67, Tryd.ntmps67
  go_wp2_with fail
  refine wp_region_still_tail 8 (by kernel_rfl) (by kernel_rfl) ?_
  simp only [List.take_succ_cons, List.take_zero, List.drop_succ_cons, List.drop_zero]
  change wpStill _ _ (World.drew (w.alloc (.cells #[.int .i64 3, .int .i64 0, .int .i64 d, .int .i64 s, .int .i64 i, .int .i64 0] 67))) _ _ _
  repeat still_step
  refine wpStill_nil ?_
  change wpList _ _ _ _ _ (World.drew (w.alloc (.cells #[.int .i64 3, .int .i64 0, .int .i64 d, .int .i64 s, .int .i64 i, .int .i64 0] 67)))
  go_wp2_with fail
  have hbW : Below (w.setCell ⟨g1, d, none⟩ (.int .i64 (i))).heap.size (w.setCell ⟨g1, d, none⟩ (.int .i64 (i))) (World.drew ((w.setCell ⟨g1, d, none⟩ (.int .i64 (i))).alloc (.cells #[.int .i64 3, .int .i64 0, .int .i64 d, .int .i64 s, .int .i64 i, .int .i64 0] 67))) := (below1 _ _).drew
  have O1 := Lib.hid ((HO.out.setReg d (i)).below hbW)
  have KB1 := Lib.hid ((KB.out.far (g' := g1) (j := d) n1 _).below hbW)
  have P1 : Hid (Kept w (World.drew ((w.setCell ⟨g1, d, none⟩ (.int .i64 (i))).alloc (.cells #[.int .i64 3, .int .i64 0, .int .i64 d, .int .i64 s, .int .i64 i, .int .i64 0] 67))) (four nb g1 g2 g3)) := Lib.hid ((kept_setCell w g1 d _ (.inr (.inl rfl))).trans (.of_below hbW))
  clear hbW
  generalize World.drew ((w.setCell ⟨g1, d, none⟩ (.int .i64 (i))).alloc (.cells #[.int .i64 3, .int .i64 0, .int .i64 d, .int .i64 s, .int .i64 i, .int .i64 0] 67)) = W at O1 KB1 P1 ⊢
  have y0 : W.cell? ⟨nb, 0, none⟩ = some (.int .i64 at_) := KB1.out.there rfl
  have y1 : W.cell? ⟨nb, 1, none⟩ = some (.slice (some ⟨g1, 0, none⟩) 6 c1) := KB1.out.there rfl
  have yl : nb < W.heap.size := KB1.out.lt
  refine (nextAt_of _ _ _ _ _ _ nb g1 c1 at_ false W yl hat (by omega) y0 y1 (fun V _ => isTaken_no _ _ _ _ _ _ _ _ _ V rfl rfl rfl)).mono ?_
  simp only [Bool.false_eq_true, if_false]
  rintro e w2 ⟨rfl, hb2⟩
  have O2 := Lib.hid (O1.out.below hb2)
  have KB2 := Lib.hid (KB1.out.below hb2)
  have P2 := Lib.hid (P1.out.trans (.of_below hb2))
  clear hb2 y0 y1 yl O1 KB1 P1 k0 k1 k2 k3 z0 r1 r2 f1
  have y0 : w2.cell? ⟨nb, 0, none⟩ = some (.int .i64 at_) := KB2.out.there rfl
  have z0 := KB2.out.frozen 0
  go_wp2
  go_ret
  exact ex_shut (m1 := ⟨m.a, m.r.set d (i), m.c, m.s⟩) (setR m d (i), 0, false) rfl rfl rfl KB2.out O2.out P2.out ⟨n1, n2, n3⟩ (by simp [setR, hma.out]) rfl

set_option maxRecDepth 100000 in
set_option maxHeartbeats 2000000 in
theorem exec_set4 (i : Int) (d s : Nat) (C : Option Addr) (cn cc : Nat) (at_ : Nat) (base nb g1 g2 g3 c1 c2 c3 : Nat) (m : Mch) (rd rs : Int) (w : World)
    (KB : Hid (Blk w nb 73 [.int .i64 at_, .slice (some ⟨g1, 0, none⟩) 6 c1, .slice (some ⟨g2, 0, none⟩) 16 c2, .slice (some ⟨g3, 0, none⟩) 16 c3])) (hne : nb ≠ g1 ∧ nb ≠ g2 ∧ nb ≠ g3) (hat : at_ < 20) (hma : Hid (m.a = at_)) (HO : Hid (OwnM w base g1 g2 g3 c1 c2 c3 m)) (hd : d < 6) (hs : s < 6) (hrd : m.r.getD d 0 = rd) (_hrs : m.r.getD s 0 = rs) :
    Calls Tryd.prog 67 #[.agg #[.int .i64 4, .int .i64 0, .int .i64 d, .int .i64 s, .int .i64 i, .int .i64 0], .slice C cn cc, .pointer (some ⟨nb, 0, none⟩)] w (GaveEx w base nb g1 g2 g3 c1 c2 c3 (setR m d (i), 0, false)) := by
  have k0 : w.cell? ⟨nb, 0, none⟩ = some (.int .i64 at_) := KB.out.there rfl
  have k1 : w.cell? ⟨nb, 1, none⟩ = some (.slice (some ⟨g1, 0, none⟩) 6 c1) := KB.out.there rfl
  have k2 : w.cell? ⟨nb, 2, none⟩ = some (.slice (some ⟨g2, 0, none⟩) 16 c2) := KB.out.there rfl
  have k3 : w.cell? ⟨nb, 3, none⟩ = some (.slice (some ⟨g3, 0, none⟩) 16 c3) := KB.out.there rfl
  have z0 := KB.out.frozen 0
  have lb := KB.out.lt
  have r1 := HO.out.reg hd
  have r2 := HO.out.reg hs
  rw [hrd] at r1
  rw [_hrs] at r2
  have f1 := own_frozen HO.out.1 d
  obtain ⟨l1, l2, l3⟩ := HO.out.lt
  obtain ⟨n1, n2, n3⟩ := hne
  have hdI : (d : Int) < 6 := by omega
  have hsI : (s : Int) < 6 := by omega
  clear hrd _hrs
  go_enter Tryd.func67, Tryd.ntmps67
  go_wp2_with fail
  refine wp_region_still_tail 8 (by kernel_rfl) (by kernel_rfl) ?_
  simp only [List.take_succ_cons, List.take_zero, List.drop_succ_cons, List.drop_zero]
  change wpStill _ _ (World.drew (w.alloc (.cells #[.int .i64 4, .int .i64 0, .int .i64 d, .int .i64 s, .int .i64 i, .int .i64 0] 67))) _ _ _
  repeat still_step
  refine wpStill_nil ?_
  change wpList _ _ _ _ _ (World.drew (w.alloc (.cells #[.int .i64 4, .int .i64 0, .int .i64 d, .int .i64 s, .int .i64 i, .int .i64 0] 67)))
  go_wp2_with fail
  have hbW : Below (w.setCell ⟨g1, d, none⟩ (.int .i64 (i))).heap.size (w.setCell ⟨g1, d, none⟩ (.int .i64 (i))) (World.drew ((w.setCell ⟨g1, d, none⟩ (.int .i64 (i))).alloc (.cells #[.int .i64 4, .int .i64 0, .int .i64 d, .int .i64 s, .int .i64 i, .int .i64 0] 67))) := (below1 _ _).drew
  have O1 := Lib.hid ((HO.out.setReg d (i)).below hbW)
  have KB1 := Lib.hid ((KB.out.far (g' := g1) (j := d) n1 _).below hbW)
  have P1 : Hid (Kept w (World.drew ((w.setCell ⟨g1, d, none⟩ (.int .i64 (i))).alloc (.cells #[.int .i64 4, .int .i64 0, .int .i64 d, .int .i64 s, .int .i64 i, .int .i64 0] 67))) (four nb g1 g2 g3)) := Lib.hid ((kept_setCell w g1 d _ (.inr (.inl rfl))).trans (.of_below hbW))
  clear hbW
  generalize World.drew ((w.setCell ⟨g1, d, none⟩ (.int .i64 (i))).alloc (.cells #[.int .i64 4, .int .i64 0, .int .i64 d, .int .i64 s, .int .i64 i, .int .i64 0] 67)) = W at O1 KB1 P1 ⊢
  have y0 : W.cell? ⟨nb, 0, none⟩ = some (.int .i64 at_) := KB1.out.there rfl
  have y1 : W.cell? ⟨nb, 1, none⟩ = some (.slice (some ⟨g1, 0, none⟩) 6 c1) := KB1.out.there rfl
  have yl : nb < W.heap.size := KB1.out.lt
  refine (nextAt_of _ _ _ _ _ _ nb g1 c1 at_ false W yl hat (by omega) y0 y1 (fun V _ => isTaken_no _ _ _ _ _ _ _ _ _ V rfl rfl rfl)).mono ?_
  simp only [Bool.false_eq_true, if_false]
  rintro e w2 ⟨rfl, hb2⟩
  have O2 := Lib.hid (O1.out.below hb2)
  have KB2 := Lib.hid (KB1.out.below hb2)
  have P2 := Lib.hid (P1.out.trans (.of_below hb2))
  clear hb2 y0 y1 yl O1 KB1 P1 k0 k1 k2 k3 z0 r1 r2 f1
  have y0 : w2.cell? ⟨nb, 0, none⟩ = some (.int .i64 at_) := KB2.out.there rfl
  have z0 := KB2.out.frozen 0
  go_wp2
  go_ret
  exact ex_shut (m1 := ⟨m.a, m.r.set d (i), m.c, m.s⟩) (setR m d (i), 0, false) rfl rfl rfl KB2.out O2.out P2.out ⟨n1, n2, n3⟩ (by simp [setR, hma.out]) rfl

set_option maxRecDepth 100000 in
set_option maxHeartbeats 2000000 in
theorem exec_load (i : Nat) (cv : Int) (d s : Nat) (C : Option Addr) (cn cc : Nat) (at_ : Nat) (base nb g1 g2 g3 c1 c2 c3 : Nat) (m : Mch) (rd rs : Int) (w : World)
    (KB : Hid (Blk w nb 73 [.int .i64 at_, .slice (some ⟨g1, 0, none⟩) 6 c1, .slice (some ⟨g2, 0, none⟩) 16 c2, .slice (some ⟨g3, 0, none⟩) 16 c3])) (hne : nb ≠ g1 ∧ nb ≠ g2 ∧ nb ≠ g3) (hat : at_ < 20) (hma : Hid (m.a = at_)) (HO : Hid (OwnM w base g1 g2 g3 c1 c2 c3 m)) (hd : d < 6) (hs : s < 6) (hrd : m.r.getD d 0 = rd) (_hrs : m.r.getD s 0 = rs) (hi : i < 16) (hu : m.s.getD i false = true) (hv : m.c.getD i 0 = cv) :
    Calls Tryd.prog 67 #[.agg #[.int .i64 6, .int .i64 0, .int .i64 d, .int .i64 s, .int .i64 i, .int .i64 0], .slice C cn cc, .pointer (some ⟨nb, 0, none⟩)] w (GaveEx w base nb g1 g2 g3 c1 c2 c3 (setR m d (cv), 0, false)) := by
  have k0 : w.cell? ⟨nb, 0, none⟩ = some (.int .i64 at_) := KB.out.there rfl
  have k1 : w.cell? ⟨nb, 1, none⟩ = some (.slice (some ⟨g1, 0, none⟩) 6 c1) := KB.out.there rfl
  have k2 : w.cell? ⟨nb, 2, none⟩ = some (.slice (some ⟨g2, 0, none⟩) 16 c2) := KB.out.there rfl
  have k3 : w.cell? ⟨nb, 3, none⟩ = some (.slice (some ⟨g3, 0, none⟩) 16 c3) := KB.out.there rfl
  have z0 := KB.out.frozen 0
  have lb := KB.out.lt
  have r1 := HO.out.reg hd
  have r2 := HO.out.reg hs
  rw [hrd] at r1
  rw [_hrs] at r2
  have f1 := own_frozen HO.out.1 d
  obtain ⟨l1, l2, l3⟩ := HO.out.lt
  obtain ⟨n1, n2, n3⟩ := hne
  have hdI : (d : Int) < 6 := by omega
  have hsI : (s : Int) < 6 := by omega
  clear hrd _hrs
  have t1 := HO.out.cel hi
  have t2 := HO.out.flag hi
  rw [hu] at t2
  rw [hv] at t1
  have W2 : (World.drew (w.alloc (.cells #[.int .i64 6, .int .i64 0, .int .i64 d, .int .i64 s, .int .i64 i, .int .i64 0] 67))).cell? ⟨nb, 2, none⟩ = some (.slice (some ⟨g2, 0, none⟩) 16 c2) := ((bcell (below1 w (.cells #[.int .i64 6, .int .i64 0, .int .i64 d, .int .i64 s, .int .i64 i, .int .i64 0] 67)).drew).1 _ _ lb).trans k2
  have W3 : (World.drew (w.alloc (.cells #[.int .i64 6, .int .i64 0, .int .i64 d, .int .i64 s, .int .i64 i, .int .i64 0] 67))).cell? ⟨nb, 3, none⟩ = some (.slice (some ⟨g3, 0, none⟩) 16 c3) := ((bcell (below1 w (.cells #[.int .i64 6, .int .i64 0, .int .i64 d, .int .i64 s, .int .i64 i, .int .i64 0] 67)).drew).1 _ _ lb).trans k3
  have W4 : (World.drew (w.alloc (.cells #[.int .i64 6, .int .i64 0, .int .i64 d, .int .i64 s, .int .i64 i, .int .i64 0] 67))).cell? ⟨g2, i, none⟩ = some (.int .i64 cv) := ((bcell (below1 w (.cells #[.int .i64 6, .int .i64 0, .int .i64 d, .int .i64 s, .int .i64 i, .int .i64 0] 67)).drew).1 _ _ l2).trans t1
  have W5 : (World.drew (w.alloc (.cells #[.int .i64 6, .int .i64 0, .int .i64 d, .int .i64 s, .int .i64 i, .int .i64 0] 67))).cell? ⟨g3, i, none⟩ = some (.bool true) := ((bcell (below1 w (.cells #[.int .i64 6, .int .i64 0, .int .i64 d, .int .i64 s, .int .i64 i, .int .i64 0] 67)).drew).1 _ _ l3).trans t2
  go_enter Tryd.func67, Tryd.ntmps67
  go_wp2_with fail
  refine wp_region_still_tail 10 (by kernel_rfl) (by kernel_rfl) ?_
  simp only [List.take_succ_cons, List.take_zero, List.drop_succ_cons, List.drop_zero]
  change wpStill _ _ (World.drew (w.alloc (.cells #[.int .i64 6, .int .i64 0, .int .i64 d, .int .i64 s, .int .i64 i, .int .i64 0] 67))) _ _ _
  repeat still_step
  still_call ((loadCell_ok nb i g2 g3 c2 c3 cv _ hi W2 W3 W4 W5).mono (fun e w' h => ⟨h.1, h.2.symm⟩))
  repeat still_step
  refine wpStill_nil ?_
  change wpList _ _ _ _ _ (World.drew (w.alloc (.cells #[.int .i64 6, .int .i64 0, .int .i64 d, .int .i64 s, .int .i64 i, .int .i64 0] 67)))
  go_wp2_with fail
  have hbW : Below (w.setCell ⟨g1, d, none⟩ (.int .i64 (cv))).heap.size (w.setCell ⟨g1, d, none⟩ (.int .i64 (cv))) (World.drew ((w.setCell ⟨g1, d, none⟩ (.int .i64 (cv))).alloc (.cells #[.int .i64 6, .int .i64 0, .int .i64 d, .int .i64 s, .int .i64 i, .int .i64 0] 67))) := (below1 _ _).drew
  have O1 := Lib.hid ((HO.out.setReg d (cv)).below hbW)
  have KB1 := Lib.hid ((KB.out.far (g' := g1) (j := d) n1 _).below hbW)
  have P1 : Hid (Kept w (World.drew ((w.setCell ⟨g1, d, none⟩ (.int .i64 (cv))).alloc (.cells #[.int .i64 6, .int .i64 0, .int .i64 d, .int .i64 s, .int .i64 i, .int .i64 0] 67))) (four nb g1 g2 g3)) := Lib.hid ((kept_setCell w g1 d _ (.inr (.inl rfl))).trans (.of_below hbW))
  clear hbW
  generalize World.drew ((w.setCell ⟨g1, d, none⟩ (.int .i64 (cv))).alloc (.cells #[.int .i64 6, .int .i64 0, .int .i64 d, .int .i64 s, .int .i64 i, .int .i64 0] 67)) = W at O1 KB1 P1 ⊢
  have y0 : W.cell? ⟨nb, 0, none⟩ = some (.int .i64 at_) := KB1.out.there rfl
  have y1 : W.cell? ⟨nb, 1, none⟩ = some (.slice (some ⟨g1, 0, none⟩) 6 c1) := KB1.out.there rfl
  have yl : nb < W.heap.size := KB1.out.lt
  refine (nextAt_of _ _ _ _ _ _ nb g1 c1 at_ false W yl hat (by omega) y0 y1 (fun V _ => isTaken_no _ _ _ _ _ _ _ _ _ V rfl rfl rfl)).mono ?_
  simp only [Bool.false_eq_true, if_false]
  rintro e w2 ⟨rfl, hb2⟩
  have O2 := Lib.hid (O1.out.below hb2)
  have KB2 := Lib.hid (KB1.out.below hb2)
  have P2 := Lib.hid (P1.out.trans (.of_below hb2))
  clear hb2 y0 y1 yl O1 KB1 P1 k0 k1 k2 k3 z0 r1 r2 f1
  have y0 : w2.cell? ⟨nb, 0, none⟩ = some (.int .i64 at_) := KB2.out.there rfl
  have z0 := KB2.out.frozen 0
  go_wp2
  go_ret
  exact ex_shut (m1 := ⟨m.a, m.r.set d (cv), m.c, m.s⟩) (setR m d (cv), 0, false) rfl rfl rfl KB2.out O2.out P2.out ⟨n1, n2, n3⟩ (by simp [setR, hma.out]) rfl

set_option maxRecDepth 100000 in
set_option maxHeartbeats 2000000 in
theorem exec_jump (t : Int) (d s : Nat) (C : Option Addr) (cn cc : Nat) (at_ : Nat) (base nb g1 g2 g3 c1 c2 c3 : Nat) (m : Mch) (rd rs : Int) (w : World)
    (KB : Hid (Blk w nb 73 [.int .i64 at_, .slice (some ⟨g1, 0, none⟩) 6 c1, .slice (some ⟨g2, 0, none⟩) 16 c2, .slice (some ⟨g3, 0, none⟩) 16 c3])) (hne : nb ≠ g1 ∧ nb ≠ g2 ∧ nb ≠ g3) (hat : at_ < 20) (_hma : Hid (m.a = at_)) (HO : Hid (OwnM w base g1 g2 g3 c1 c2 c3 m)) (hd : d < 6) (hs : s < 6) (_hrd : m.r.getD d 0 = rd) (_hrs : m.r.getD s 0 = rs) (ht : 1 ≤ t ∧ t ≤ 19) :
    Calls Tryd.prog 67 #[.agg #[.int .i64 8, .int .i64 0, .int .i64 d, .int .i64 s, .int .i64 0, .int .i64 t], .slice C cn cc, .pointer (some ⟨nb, 0, none⟩)] w (GaveEx w base nb g1 g2 g3 c1 c2 c3 (⟨(at_ : Int) + t + 1, m.r, m.c, m.s⟩, 0, false)) := by
  have k0 : w.cell? ⟨nb, 0, none⟩ = some (.int .i64 at_) := KB.out.there rfl
  have k1 : w.cell? ⟨nb, 1, none⟩ = some (.slice (some ⟨g1, 0, none⟩) 6 c1) := KB.out.there rfl
  have k2 : w.cell? ⟨nb, 2, none⟩ = some (.slice (some ⟨g2, 0, none⟩) 16 c2) := KB.out.there rfl
  have k3 : w.cell? ⟨nb, 3, none⟩ = some (.slice (some ⟨g3, 0, none⟩) 16 c3) := KB.out.there rfl
  have z0 := KB.out.frozen 0
  have lb := KB.out.lt
  have r1 := HO.out.reg hd
  have r2 := HO.out.reg hs
  rw [_hrd] at r1
  rw [_hrs] at r2
  have f1 := own_frozen HO.out.1 d
  obtain ⟨l1, l2, l3⟩ := HO.out.lt
  obtain ⟨n1, n2, n3⟩ := hne
  have hdI : (d : Int) < 6 := by omega
  have hsI : (s : Int) < 6 := by omega
  clear _hrd _hrs
  go_enter Tryd.func67, Tryd.ntmps67
  go_wp2_with fail
  have hbW : Below (w).heap.size (w) (w.alloc (.cells #[.int .i64 8, .int .i64 0, .int .i64 d, .int .i64 s, .int .i64 0, .int .i64 t] 67)) := below1 _ _
  have O1 := Lib.hid ((HO.out).below hbW)
  have KB1 := Lib.hid ((KB.out).below hbW)
  have P1 : Hid (Kept w (w.alloc (.cells #[.int .i64 8, .int .i64 0, .int .i64 d, .int .i64 s, .int .i64 0, .int .i64 t] 67)) (four nb g1 g2 g3)) := Lib.hid ((Kept.refl w _).trans (.of_below hbW))
  clear hbW
  generalize w.alloc (.cells #[.int .i64 8, .int .i64 0, .int .i64 d, .int .i64 s, .int .i64 0, .int .i64 t] 67) = W at O1 KB1 P1 ⊢
  have y0 : W.cell? ⟨nb, 0, none⟩ = some (.int .i64 at_) := KB1.out.there rfl
  have y1 : W.cell? ⟨nb, 1, none⟩ = some (.slice (some ⟨g1, 0, none⟩) 6 c1) := KB1.out.there rfl
  have yl : nb < W.heap.size := KB1.out.lt
  refine (nextAt_of _ _ _ _ _ _ nb g1 c1 at_ true W yl hat (by omega) y0 y1 (fun V _ => isTaken_jump _ _ _ _ _ _ _ _ V)).mono ?_
  simp only [if_true]
  rintro e w2 ⟨rfl, hb2⟩
  have O2 := Lib.hid (O1.out.below hb2)
  have KB2 := Lib.hid (KB1.out.below hb2)
  have P2 := Lib.hid (P1.out.trans (.of_below hb2))
  clear hb2 y0 y1 yl O1 KB1 P1 k0 k1 k2 k3 z0 r1 r2 f1
  have y0 : w2.cell? ⟨nb, 0, none⟩ = some (.int .i64 at_) := KB2.out.there rfl
  have z0 := KB2.out.frozen 0
  go_wp2
  go_ret
  exact ex_shut (m1 := m) (⟨(at_ : Int) + t + 1, m.r, m.c, m.s⟩, 0, false) rfl rfl rfl KB2.out O2.out P2.out ⟨n1, n2, n3⟩ (rfl) rfl

set_option maxRecDepth 100000 in
set_option maxHeartbeats 2000000 in
theorem exec_eqT (t : Int) (d s : Nat) (C : Option Addr) (cn cc : Nat) (at_ : Nat) (base nb g1 g2 g3 c1 c2 c3 : Nat) (m : Mch) (rd rs : Int) (w : World)
    (KB : Hid (Blk w nb 73 [.int .i64 at_, .slice (some ⟨g1, 0, none⟩) 6 c1, .slice (some ⟨g2, 0, none⟩) 16 c2, .slice (some ⟨g3, 0, none⟩) 16 c3])) (hne : nb ≠ g1 ∧ nb ≠ g2 ∧ nb ≠ g3) (hat : at_ < 20) (_hma : Hid (m.a = at_)) (HO : Hid (OwnM w base g1 g2 g3 c1 c2 c3 m)) (hd : d < 6) (hs : s < 6) (hrd : m.r.getD d 0 = rd) (hrs : m.r.getD s 0 = rs) (ht : 1 ≤ t ∧ t ≤ 19) (hq : (rd == rs) = true) :
    Calls Tryd.prog 67 #[.agg #[.int .i64 9, .int .i64 0, .int .i64 d, .int .i64 s, .int .i64 0, .int .i64 t], .slice C cn cc, .pointer (some ⟨nb, 0, none⟩)] w (GaveEx w base nb g1 g2 g3 c1 c2 c3 (⟨(at_ : Int) + t + 1, m.r, m.c, m.s⟩, 0, false)) := by
  have k0 : w.cell? ⟨nb, 0, none⟩ = some (.int .i64 at_) := KB.out.there rfl
  have k1 : w.cell? ⟨nb, 1, none⟩ = some (.slice (some ⟨g1, 0, none⟩) 6 c1) := KB.out.there rfl
  have k2 : w.cell? ⟨nb, 2, none⟩ = some (.slice (some ⟨g2, 0, none⟩) 16 c2) := KB.out.there rfl
  have k3 : w.cell? ⟨nb, 3, none⟩ = some (.slice (some ⟨g3, 0, none⟩) 16 c3) := KB.out.there rfl
  have z0 := KB.out.frozen 0
  have lb := KB.out.lt
  have r1 := HO.out.reg hd
  have r2 := HO.out.reg hs
  rw [hrd] at r1
  rw [hrs] at r2
  have f1 := own_frozen HO.out.1 d
  obtain ⟨l1, l2, l3⟩ := HO.out.lt
  obtain ⟨n1, n2, n3⟩ := hne
  have hdI : (d : Int) < 6 := by omega
  have hsI : (s : Int) < 6 := by omega
  clear hrd hrs
  go_enter Tryd.func67, Tryd.ntmps67
  go_wp2_with fail
  have hbW : Below (w).heap.size (w) (w.alloc (.cells #[.int .i64 9, .int .i64 0, .int .i64 d, .int .i64 s, .int .i64 0, .int .i64 t] 67)) := below1 _ _
  have O1 := Lib.hid ((HO.out).below hbW)
  have KB1 := Lib.hid ((KB.out).below hbW)
  have P1 : Hid (Kept w (w.alloc (.cells #[.int .i64 9, .int .i64 0, .int .i64 d, .int .i64 s, .int .i64 0, .int .i64 t] 67)) (four nb g1 g2 g3)) := Lib.hid ((Kept.refl w _).trans (.of_below hbW))
  clear hbW
  generalize w.alloc (.cells #[.int .i64 9, .int .i64 0, .int .i64 d, .int .i64 s, .int .i64 0, .int .i64 t] 67) = W at O1 KB1 P1 ⊢
  have y0 : W.cell? ⟨nb, 0, none⟩ = some (.int .i64 at_) := KB1.out.there rfl
  have y1 : W.cell? ⟨nb, 1, none⟩ = some (.slice (some ⟨g1, 0, none⟩) 6 c1) := KB1.out.there rfl
  have yl : nb < W.heap.size := KB1.out.lt
  have R1 := Lib.hid (O1.out.reg hd)
  have R2 := Lib.hid (O1.out.reg hs)
  have GL := Lib.hid O1.out.lt.1
  have E1 : Hid (m.r.getD d 0 = rd) := Lib.hid (by have h := HO.out.reg hd; rw [r1] at h; injection h with h; injection h with _ h; exact h.symm)
  have E2 : Hid (m.r.getD s 0 = rs) := Lib.hid (by have h := HO.out.reg hs; rw [r2] at h; injection h with h; injection h with _ h; exact h.symm)
  refine (nextAt_of _ _ _ _ _ _ nb g1 c1 at_ true W yl hat (by omega) y0 y1 (fun V hV => ((isTaken_eq _ _ _ d s g1 c1 rd rs V hd hs (Nat.lt_of_lt_of_le GL.out hV.size) (by rw [(bcell hV).1 _ _ GL.out, R1.out, E1.out]) (by rw [(bcell hV).1 _ _ GL.out, R2.out, E2.out])).mono (fun e w' h => by rw [hq] at h; exact h)))).mono ?_
  simp only [if_true]
  rintro e w2 ⟨rfl, hb2⟩
  have O2 := Lib.hid (O1.out.below hb2)
  have KB2 := Lib.hid (KB1.out.below hb2)
  have P2 := Lib.hid (P1.out.trans (.of_below hb2))
  clear hb2 y0 y1 yl O1 KB1 P1 k0 k1 k2 k3 z0 r1 r2 f1
  have y0 : w2.cell? ⟨nb, 0, none⟩ = some (.int .i64 at_) := KB2.out.there rfl
  have z0 := KB2.out.frozen 0
  go_wp2
  go_ret
  exact ex_shut (m1 := m) (⟨(at_ : Int) + t + 1, m.r, m.c, m.s⟩, 0, false) rfl rfl rfl KB2.out O2.out P2.out ⟨n1, n2, n3⟩ (rfl) rfl

set_option maxRecDepth 100000 in
set_option maxHeartbeats 2000000 in
theorem exec_eqN (t : Int) (d s : Nat) (C : Option Addr) (cn cc : Nat) (at_ : Nat) (base nb g1 g2 g3 c1 c2 c3 : Nat) (m : Mch) (rd rs : Int) (w : World)
    (KB : Hid (Blk w nb 73 [.int .i64 at_, .slice (some ⟨g1, 0, none⟩) 6 c1, .slice (some ⟨g2, 0, none⟩) 16 c2, .slice (some ⟨g3, 0, none⟩) 16 c3])) (hne : nb ≠ g1 ∧ nb ≠ g2 ∧ nb ≠ g3) (hat : at_ < 20) (_hma : Hid (m.a = at_)) (HO : Hid (OwnM w base g1 g2 g3 c1 c2 c3 m)) (hd : d < 6) (hs : s < 6) (hrd : m.r.getD d 0 = rd) (hrs : m.r.getD s 0 = rs) (ht : 1 ≤ t ∧ t ≤ 19) (hq : (rd == rs) = false) :
    Calls Tryd.prog 67 #[.agg #[.int .i64 9, .int .i64 0, .int .i64 d, .int .i64 s, .int .i64 0, .int .i64 t], .slice C cn cc, .pointer (some ⟨nb, 0, none⟩)] w (GaveEx w base nb g1 g2 g3 c1 c2 c3 (⟨(at_ : Int) + 1, m.r, m.c, m.s⟩, 0, false)) := by
  have k0 : w.cell? ⟨nb, 0, none⟩ = some (.int .i64 at_) := KB.out.there rfl
  have k1 : w.cell? ⟨nb, 1, none⟩ = some (.slice (some ⟨g1, 0, none⟩) 6 c1) := KB.out.there rfl
  have k2 : w.cell? ⟨nb, 2, none⟩ = some (.slice (some ⟨g2, 0, none⟩) 16 c2) := KB.out.there rfl
  have k3 : w.cell? ⟨nb, 3, none⟩ = some (.slice (some ⟨g3, 0, none⟩) 16 c3) := KB.out.there rfl
  have z0 := KB.out.frozen 0
  have lb := KB.out.lt
  have r1 := HO.out.reg hd
  have r2 := HO.out.reg hs
  rw [hrd] at r1
  rw [hrs] at r2
  have f1 := own_frozen HO.out.1 d
  obtain ⟨l1, l2, l3⟩ := HO.out.lt
  obtain ⟨n1, n2, n3⟩ := hne
  have hdI : (d : Int) < 6 := by omega
  have hsI : (s : Int) < 6 := by omega
  clear hrd hrs
  go_enter Tryd.func67, Tryd.ntmps67
  go_wp2_with fail
  have hbW : Below (w).heap.size (w) (w.alloc (.cells #[.int .i64 9, .int .i64 0, .int .i64 d, .int .i64 s, .int .i64 0, .int .i64 t] 67)) := below1 _ _
  have O1 := Lib.hid ((HO.out).below hbW)
  have KB1 := Lib.hid ((KB.out).below hbW)
  have P1 : Hid (Kept w (w.alloc (.cells #[.int .i64 9, .int .i64 0, .int .i64 d, .int .i64 s, .int .i64 0, .int .i64 t] 67)) (four nb g1 g2 g3)) := Lib.hid ((Kept.refl w _).trans (.of_below hbW))
  clear hbW
  generalize w.alloc (.cells #[.int .i64 9, .int .i64 0, .int .i64 d, .int .i64 s, .int .i64 0, .int .i64 t] 67) = W at O1 KB1 P1 ⊢
  have y0 : W.cell? ⟨nb, 0, none⟩ = some (.int .i64 at_) := KB1.out.there rfl
  have y1 : W.cell? ⟨nb, 1, none⟩ = some (.slice (some ⟨g1, 0, none⟩) 6 c1) := KB1.out.there rfl
  have yl : nb < W.heap.size := KB1.out.lt
  have R1 := Lib.hid (O1.out.reg hd)
  have R2 := Lib.hid (O1.out.reg hs)
  have GL := Lib.hid O1.out.lt.1
  have E1 : Hid (m.r.getD d 0 = rd) := Lib.hid (by have h := HO.out.reg hd; rw [r1] at h; injection h with h; injection h with _ h; exact h.symm)
  have E2 : Hid (m.r.getD s 0 = rs) := Lib.hid (by have h := HO.out.reg hs; rw [r2] at h; injection h with h; injection h with _ h; exact h.symm)
  refine (nextAt_of _ _ _ _ _ _ nb g1 c1 at_ false W yl hat (by omega) y0 y1 (fun V hV => ((isTaken_eq _ _ _ d s g1 c1 rd rs V hd hs (Nat.lt_of_lt_of_le GL.out hV.size) (by rw [(bcell hV).1 _ _ GL.out, R1.out, E1.out]) (by rw [(bcell hV).1 _ _ GL.out, R2.out, E2.out])).mono (fun e w' h => by rw [hq] at h; exact h)))).mono ?_
  simp only [Bool.false_eq_true, if_false]
  rintro e w2 ⟨rfl, hb2⟩
  have O2 := Lib.hid (O1.out.below hb2)
  have KB2 := Lib.hid (KB1.out.below hb2)
  have P2 := Lib.hid (P1.out.trans (.of_below hb2))
  clear hb2 y0 y1 yl O1 KB1 P1 k0 k1 k2 k3 z0 r1 r2 f1
  have y0 : w2.cell? ⟨nb, 0, none⟩ = some (.int .i64 at_) := KB2.out.there rfl
  have z0 := KB2.out.frozen 0
  go_wp2
  go_ret
  exact ex_shut (m1 := m) (⟨(at_ : Int) + 1, m.r, m.c, m.s⟩, 0, false) rfl rfl rfl KB2.out O2.out P2.out ⟨n1, n2, n3⟩ (rfl) rfl

set_option maxRecDepth 100000 in
set_option maxHeartbeats 2000000 in
theorem exec_lessT (t : Int) (d s : Nat) (C : Option Addr) (cn cc : Nat) (at_ : Nat) (base nb g1 g2 g3 c1 c2 c3 : Nat) (m : Mch) (rd rs : Int) (w : World)
    (KB : Hid (Blk w nb 73 [.int .i64 at_, .slice (some ⟨g1, 0, none⟩) 6 c1, .slice (some ⟨g2, 0, none⟩) 16 c2, .slice (some ⟨g3, 0, none⟩) 16 c3])) (hne : nb ≠ g1 ∧ nb ≠ g2 ∧ nb ≠ g3) (hat : at_ < 20) (_hma : Hid (m.a = at_)) (HO : Hid (OwnM w base g1 g2 g3 c1 c2 c3 m)) (hd : d < 6) (hs : s < 6) (hrd : m.r.getD d 0 = rd) (hrs : m.r.getD s 0 = rs) (ht : 1 ≤ t ∧ t ≤ 19) (hq : decide (rd < rs) = true) :
    Calls Tryd.prog 67 #[.agg #[.int .i64 10, .int .i64 0, .int .i64 d, .int .i64 s, .int .i64 0, .int .i64 t], .slice C cn cc, .pointer (some ⟨nb, 0, none⟩)] w (GaveEx w base nb g1 g2 g3 c1 c2 c3 (⟨(at_ : Int) + t + 1, m.r, m.c, m.s⟩, 0, false)) := by
  have k0 : w.cell? ⟨nb, 0, none⟩ = some (.int .i64 at_) := KB.out.there rfl
  have k1 : w.cell? ⟨nb, 1, none⟩ = some (.slice (some ⟨g1, 0, none⟩) 6 c1) := KB.out.there rfl
  have k2 : w.cell? ⟨nb, 2, none⟩ = some (.slice (some ⟨g2, 0, none⟩) 16 c2) := KB.out.there rfl
  have k3 : w.cell? ⟨nb, 3, none⟩ = some (.slice (some ⟨g3, 0, none⟩) 16 c3) := KB.out.there rfl
  have z0 := KB.out.frozen 0
  have lb := KB.out.lt
  have r1 := HO.out.reg hd
  have r2 := HO.out.reg hs
  rw [hrd] at r1
  rw [hrs] at r2
  have f1 := own_frozen HO.out.1 d
  obtain ⟨l1, l2, l3⟩ := HO.out.lt
  obtain ⟨n1, n2, n3⟩ := hne
  have hdI : (d : Int) < 6 := by omega
  have hsI : (s : Int) < 6 := by omega
  clear hrd hrs
  go_enter Tryd.func67, Tryd.ntmps67
  go_wp2_with fail
  have hbW : Below (w).heap.size (w) (w.alloc (.cells #[.int .i64 10, .int .i64 0, .int .i64 d, .int .i64 s, .int .i64 0, .int .i64 t] 67)) := below1 _ _
  have O1 := Lib.hid ((HO.out).below hbW)
  have KB1 := Lib.hid ((KB.out).below hbW)
  have P1 : Hid (Kept w (w.alloc (.cells #[.int .i64 10, .int .i64 0, .int .i64 d, .int .i64 s, .int .i64 0, .int .i64 t] 67)) (four nb g1 g2 g3)) := Lib.hid ((Kept.refl w _).trans (.of_below hbW))
  clear hbW
  generalize w.alloc (.cells #[.int .i64 10, .int .i64 0, .int .i64 d, .int .i64 s, .int .i64 0, .int .i64 t] 67) = W at O1 KB1 P1 ⊢
  have y0 : W.cell? ⟨nb, 0, none⟩ = some (.int .i64 at_) := KB1.out.there rfl
  have y1 : W.cell? ⟨nb, 1, none⟩ = some (.slice (some ⟨g1, 0, none⟩) 6 c1) := KB1.out.there rfl
  have yl : nb < W.heap.size := KB1.out.lt
  have R1 := Lib.hid (O1.out.reg hd)
  have R2 := Lib.hid (O1.out.reg hs)
  have GL := Lib.hid O1.out.lt.1
  have E1 : Hid (m.r.getD d 0 = rd) := Lib.hid (by have h := HO.out.reg hd; rw [r1] at h; injection h with h; injection h with _ h; exact h.symm)
  have E2 : Hid (m.r.getD s 0 = rs) := Lib.hid (by have h := HO.out.reg hs; rw [r2] at h; injection h with h; injection h with _ h; exact h.symm)
  refine (nextAt_of _ _ _ _ _ _ nb g1 c1 at_ true W yl hat (by omega) y0 y1 (fun V hV => ((isTaken_less _ _ _ d s g1 c1 rd rs V hd hs (Nat.lt_of_lt_of_le GL.out hV.size) (by rw [(bcell hV).1 _ _ GL.out, R1.out, E1.out]) (by rw [(bcell hV).1 _ _ GL.out, R2.out, E2.out])).mono (fun e w' h => by rw [hq] at h; exact h)))).mono ?_
  simp only [if_true]
  rintro e w2 ⟨rfl, hb2⟩
  have O2 := Lib.hid (O1.out.below hb2)
  have KB2 := Lib.hid (KB1.out.below hb2)
  have P2 := Lib.hid (P1.out.trans (.of_below hb2))
  clear hb2 y0 y1 yl O1 KB1 P1 k0 k1 k2 k3 z0 r1 r2 f1
  have y0 : w2.cell? ⟨nb, 0, none⟩ = some (.int .i64 at_) := KB2.out.there rfl
  have z0 := KB2.out.frozen 0
  go_wp2
  go_ret
  exact ex_shut (m1 := m) (⟨(at_ : Int) + t + 1, m.r, m.c, m.s⟩, 0, false) rfl rfl rfl KB2.out O2.out P2.out ⟨n1, n2, n3⟩ (rfl) rfl

set_option maxRecDepth 100000 in
set_option maxHeartbeats 2000000 in
theorem exec_lessN (t : Int) (d s : Nat) (C : Option Addr) (cn cc : Nat) (at_ : Nat) (base nb g1 g2 g3 c1 c2 c3 : Nat) (m : Mch) (rd rs : Int) (w : World)
    (KB : Hid (Blk w nb 73 [.int .i64 at_, .slice (some ⟨g1, 0, none⟩) 6 c1, .slice (some ⟨g2, 0, none⟩) 16 c2, .slice (some ⟨g3, 0, none⟩) 16 c3])) (hne : nb ≠ g1 ∧ nb ≠ g2 ∧ nb ≠ g3) (hat : at_ < 20) (_hma : Hid (m.a = at_)) (HO : Hid (OwnM w base g1 g2 g3 c1 c2 c3 m)) (hd : d < 6) (hs : s < 6) (hrd : m.r.getD d 0 = rd) (hrs : m.r.getD s 0 = rs) (ht : 1 ≤ t ∧ t ≤ 19) (hq : decide (rd < rs) = false) :
    Calls Tryd.prog 67 #[.agg #[.int .i64 10, .int .i64 0, .int .i64 d, .int .i64 s, .int .i64 0, .int .i64 t], .slice C cn cc, .pointer (some ⟨nb, 0, none⟩)] w (GaveEx w base nb g1 g2 g3 c1 c2 c3 (⟨(at_ : Int) + 1, m.r, m.c, m.s⟩, 0, false)) := by
  have k0 : w.cell? ⟨nb, 0, none⟩ = some (.int .i64 at_) := KB.out.there rfl
  have k1 : w.cell? ⟨nb, 1, none⟩ = some (.slice (some ⟨g1, 0, none⟩) 6 c1) := KB.out.there rfl
  have k2 : w.cell? ⟨nb, 2, none⟩ = some (.slice (some ⟨g2, 0, none⟩) 16 c2) := KB.out.there rfl
  have k3 : w.cell? ⟨nb, 3, none⟩ = some (.slice (some ⟨g3, 0, none⟩) 16 c3) := KB.out.there rfl
  have z0 := KB.out.frozen 0
  have lb := KB.out.lt
  have r1 := HO.out.reg hd
  have r2 := HO.out.reg hs
  rw [hrd] at r1
  rw [hrs] at r2
  have f1 := own_frozen HO.out.1 d
  obtain ⟨l1, l2, l3⟩ := HO.out.lt
  obtain ⟨n1, n2, n3⟩ := hne
  have hdI : (d : Int) < 6 := by omega
  have hsI : (s : Int) < 6 := by omega
  clear hrd hrs
  go_enter Tryd.func67, Tryd.ntmps67
  go_wp2_with fail
  have hbW : Below (w).heap.size (w) (w.alloc (.cells #[.int .i64 10, .int .i64 0, .int .i64 d, .int .i64 s, .int .i64 0, .int .i64 t] 67)) := below1 _ _
  have O1 := Lib.hid ((HO.out).below hbW)
  have KB1 := Lib.hid ((KB.out).below hbW)
  have P1 : Hid (Kept w (w.alloc (.cells #[.int .i64 10, .int .i64 0, .int .i64 d, .int .i64 s, .int .i64 0, .int .i64 t] 67)) (four nb g1 g2 g3)) := Lib.hid ((Kept.refl w _).trans (.of_below hbW))
  clear hbW
  generalize w.alloc (.cells #[.int .i64 10, .int .i64 0, .int .i64 d, .int .i64 s, .int .i64 0, .int .i64 t] 67) = W at O1 KB1 P1 ⊢
  have y0 : W.cell? ⟨nb, 0, none⟩ = some (.int .i64 at_) := KB1.out.there rfl
  have y1 : W.cell? ⟨nb, 1, none⟩ = some (.slice (some ⟨g1, 0, none⟩) 6 c1) := KB1.out.there rfl
  have yl : nb < W.heap.size := KB1.out.lt
  have R1 := Lib.hid (O1.out.reg hd)
  have R2 := Lib.hid (O1.out.reg hs)
  have GL := Lib.hid O1.out.lt.1
  have E1 : Hid (m.r.getD d 0 = rd) := Lib.hid (by have h := HO.out.reg hd; rw [r1] at h; injection h with h; injection h with _ h; exact h.symm)
  have E2 : Hid (m.r.getD s 0 = rs) := Lib.hid (by have h := HO.out.reg hs; rw [r2] at h; injection h with h; injection h with _ h; exact h.symm)
  refine (nextAt_of _ _ _ _ _ _ nb g1 c1 at_ false W yl hat (by omega) y0 y1 (fun V hV => ((isTaken_less _ _ _ d s g1 c1 rd rs V hd hs (Nat.lt_of_lt_of_le GL.out hV.size) (by rw [(bcell hV).1 _ _ GL.out, R1.out, E1.out]) (by rw [(bcell hV).1 _ _ GL.out, R2.out, E2.out])).mono (fun e w' h => by rw [hq] at h; exact h)))).mono ?_
  simp only [Bool.false_eq_true, if_false]
  rintro e w2 ⟨rfl, hb2⟩
  have O2 := Lib.hid (O1.out.below hb2)
  have KB2 := Lib.hid (KB1.out.below hb2)
  have P2 := Lib.hid (P1.out.trans (.of_below hb2))
  clear hb2 y0 y1 yl O1 KB1 P1 k0 k1 k2 k3 z0 r1 r2 f1
  have y0 : w2.cell? ⟨nb, 0, none⟩ = some (.int .i64 at_) := KB2.out.there rfl
  have z0 := KB2.out.frozen 0
  go_wp2
  go_ret
  exact ex_shut (m1 := m) (⟨(at_ : Int) + 1, m.r, m.c, m.s⟩, 0, false) rfl rfl rfl KB2.out O2.out P2.out ⟨n1, n2, n3⟩ (rfl) rfl

set_option maxRecDepth 100000 in
set_option maxHeartbeats 2000000 in
theorem exec_store (i : Nat) (d s : Nat) (C : Option Addr) (cn cc : Nat) (at_ : Nat) (base nb g1 g2 g3 c1 c2 c3 : Nat) (m : Mch) (rd rs : Int) (w : World)
    (KB : Hid (Blk w nb 73 [.int .i64 at_, .slice (some ⟨g1, 0, none⟩) 6 c1, .slice (some ⟨g2, 0, none⟩) 16 c2, .slice (some ⟨g3, 0, none⟩) 16 c3])) (hne : nb ≠ g1 ∧ nb ≠ g2 ∧ nb ≠ g3) (hat : at_ < 20) (hma : Hid (m.a = at_)) (HO : Hid (OwnM w base g1 g2 g3 c1 c2 c3 m)) (hd : d < 6) (hs : s < 6) (hrd : m.r.getD d 0 = rd) (_hrs : m.r.getD s 0 = rs) (hi : i < 16) :
    Calls Tryd.prog 67 #[.agg #[.int .i64 7, .int .i64 0, .int .i64 d, .int .i64 s, .int .i64 i, .int .i64 0], .slice C cn cc, .pointer (some ⟨nb, 0, none⟩)] w (GaveEx w base nb g1 g2 g3 c1 c2 c3 (⟨m.a + 1, m.r, m.c.set i rd, m.s.set i true⟩, 0, false)) := by
  have k0 : w.cell? ⟨nb, 0, none⟩ = some (.int .i64 at_) := KB.out.there rfl
  have k1 : w.cell? ⟨nb, 1, none⟩ = some (.slice (some ⟨g1, 0, none⟩) 6 c1) := KB.out.there rfl
  have k2 : w.cell? ⟨nb, 2, none⟩ = some (.slice (some ⟨g2, 0, none⟩) 16 c2) := KB.out.there rfl
  have k3 : w.cell? ⟨nb, 3, none⟩ = some (.slice (some ⟨g3, 0, none⟩) 16 c3) := KB.out.there rfl
  have z0 := KB.out.frozen 0
  have lb := KB.out.lt
  have r1 := HO.out.reg hd
  have r2 := HO.out.reg hs
  rw [hrd] at r1
  rw [_hrs] at r2
  have f1 := own_frozen HO.out.1 d
  obtain ⟨l1, l2, l3⟩ := HO.out.lt
  obtain ⟨n1, n2, n3⟩ := hne
  have hdI : (d : Int) < 6 := by omega
  have hsI : (s : Int) < 6 := by omega
  clear hrd _hrs
  have t1 := HO.out.cel hi
  have t2 := HO.out.flag hi
  have f2 := own_frozen HO.out.2.1 i
  have f3 := own_frozen HO.out.2.2.1 i
  have ne23 : g2 ≠ g3 := HO.out.2.2.2.2.2
  have W2 : (World.drew (w.alloc (.cells #[.int .i64 7, .int .i64 0, .int .i64 d, .int .i64 s, .int .i64 i, .int .i64 0] 67))).cell? ⟨nb, 2, none⟩ = some (.slice (some ⟨g2, 0, none⟩) 16 c2) := ((bcell (below1 w (.cells #[.int .i64 7, .int .i64 0, .int .i64 d, .int .i64 s, .int .i64 i, .int .i64 0] 67)).drew).1 _ _ lb).trans k2
  have W3 : (World.drew (w.alloc (.cells #[.int .i64 7, .int .i64 0, .int .i64 d, .int .i64 s, .int .i64 i, .int .i64 0] 67))).cell? ⟨nb, 3, none⟩ = some (.slice (some ⟨g3, 0, none⟩) 16 c3) := ((bcell (below1 w (.cells #[.int .i64 7, .int .i64 0, .int .i64 d, .int .i64 s, .int .i64 i, .int .i64 0] 67)).drew).1 _ _ lb).trans k3
  have W4 : (World.drew (w.alloc (.cells #[.int .i64 7, .int .i64 0, .int .i64 d, .int .i64 s, .int .i64 i, .int .i64 0] 67))).cell? ⟨g2, i, none⟩ = some (.int .i64 (m.c.getD i 0)) := ((bcell (below1 w (.cells #[.int .i64 7, .int .i64 0, .int .i64 d, .int .i64 s, .int .i64 i, .int .i64 0] 67)).drew).1 _ _ l2).trans t1
  have W5 : (World.drew (w.alloc (.cells #[.int .i64 7, .int .i64 0, .int .i64 d, .int .i64 s, .int .i64 i, .int .i64 0] 67))).cell? ⟨g3, i, none⟩ = some (.bool (m.s.getD i false)) := ((bcell (below1 w (.cells #[.int .i64 7, .int .i64 0, .int .i64 d, .int .i64 s, .int .i64 i, .int .i64 0] 67)).drew).1 _ _ l3).trans t2
  have W6 : (World.drew (w.alloc (.cells #[.int .i64 7, .int .i64 0, .int .i64 d, .int .i64 s, .int .i64 i, .int .i64 0] 67))).frozen? ⟨g2, i, none⟩ = false := ((bcell (below1 w (.cells #[.int .i64 7, .int .i64 0, .int .i64 d, .int .i64 s, .int .i64 i, .int .i64 0] 67)).drew).2 _ _ l2).trans f2
  have W7 : (World.drew (w.alloc (.cells #[.int .i64 7, .int .i64 0, .int .i64 d, .int .i64 s, .int .i64 i, .int .i64 0] 67))).frozen? ⟨g3, i, none⟩ = false := ((bcell (below1 w (.cells #[.int .i64 7, .int .i64 0, .int .i64 d, .int .i64 s, .int .i64 i, .int .i64 0] 67)).drew).2 _ _ l3).trans f3
  go_enter Tryd.func67, Tryd.ntmps67
  go_wp2_with fail
  refine wp_region_still_tail 11 (by kernel_rfl) (by kernel_rfl) ?_
  simp only [List.take_succ_cons, List.take_zero, List.drop_succ_cons, List.drop_zero]
  change wpStill _ _ (World.drew (w.alloc (.cells #[.int .i64 7, .int .i64 0, .int .i64 d, .int .i64 s, .int .i64 i, .int .i64 0] 67))) _ _ _
  repeat still_step
  refine wpStill_nil ?_
  change wpList _ _ _ _ _ (World.drew (w.alloc (.cells #[.int .i64 7, .int .i64 0, .int .i64 d, .int .i64 s, .int .i64 i, .int .i64 0] 67)))
  go_wp2_with fail
  refine (storeCell_ok nb i g2 g3 c2 c3 rd _ _ _ hi n2 n3 ne23 W2 W3 W4 W5 W6 W7).mono ?_
  rintro e w' ⟨rfl, rfl⟩
  go_wp2_with fail
  have hbW : Below ((w.setCell ⟨g2, i, none⟩ (.int .i64 rd)).setCell ⟨g3, i, none⟩ (.bool true)).heap.size ((w.setCell ⟨g2, i, none⟩ (.int .i64 rd)).setCell ⟨g3, i, none⟩ (.bool true)) (World.drew (((w.setCell ⟨g2, i, none⟩ (.int .i64 rd)).setCell ⟨g3, i, none⟩ (.bool true)).alloc (.cells #[.int .i64 7, .int .i64 0, .int .i64 d, .int .i64 s, .int .i64 i, .int .i64 0] 67))) := (below1 _ _).drew
  have O1 := Lib.hid (((HO.out.setCel i rd).setFlag i true).below hbW)
  have KB1 := Lib.hid (((KB.out.far (g' := g2) (j := i) n2 _).far (g' := g3) (j := i) n3 _).below hbW)
  have P1 : Hid (Kept w (World.drew (((w.setCell ⟨g2, i, none⟩ (.int .i64 rd)).setCell ⟨g3, i, none⟩ (.bool true)).alloc (.cells #[.int .i64 7, .int .i64 0, .int .i64 d, .int .i64 s, .int .i64 i, .int .i64 0] 67))) (four nb g1 g2 g3)) := Lib.hid (((kept_setCell w g2 i _ (.inr (.inr (.inl rfl)))).trans (kept_setCell _ g3 i _ (.inr (.inr (.inr rfl))))).trans (.of_below hbW))
  clear hbW
  generalize World.drew (((w.setCell ⟨g2, i, none⟩ (.int .i64 rd)).setCell ⟨g3, i, none⟩ (.bool true)).alloc (.cells #[.int .i64 7, .int .i64 0, .int .i64 d, .int .i64 s, .int .i64 i, .int .i64 0] 67)) = W at O1 KB1 P1 ⊢
  have y0 : W.cell? ⟨nb, 0, none⟩ = some (.int .i64 at_) := KB1.out.there rfl
  have y1 : W.cell? ⟨nb, 1, none⟩ = some (.slice (some ⟨g1, 0, none⟩) 6 c1) := KB1.out.there rfl
  have yl : nb < W.heap.size := KB1.out.lt
  refine (nextAt_of _ _ _ _ _ _ nb g1 c1 at_ false W yl hat (by omega) y0 y1 (fun V _ => isTaken_no _ _ _ _ _ _ _ _ _ V rfl rfl rfl)).mono ?_
  simp only [Bool.false_eq_true, if_false]
  rintro e w2 ⟨rfl, hb2⟩
  have O2 := Lib.hid (O1.out.below hb2)
  have KB2 := Lib.hid (KB1.out.below hb2)
  have P2 := Lib.hid (P1.out.trans (.of_below hb2))
  clear hb2 y0 y1 yl O1 KB1 P1 k0 k1 k2 k3 z0 r1 r2 f1
  have y0 : w2.cell? ⟨nb, 0, none⟩ = some (.int .i64 at_) := KB2.out.there rfl
  have z0 := KB2.out.frozen 0
  go_wp2
  go_ret
  exact ex_shut (m1 := ⟨m.a, m.r, m.c.set i rd, m.s.set i true⟩) (⟨m.a + 1, m.r, m.c.set i rd, m.s.set i true⟩, 0, false) rfl rfl rfl KB2.out O2.out P2.out ⟨n1, n2, n3⟩ (by simp [hma.out]) rfl

set_option maxRecDepth 100000 in
set_option maxHeartbeats 2000000 in
theorem exec_exit (d s : Nat) (C : Option Addr) (cn cc : Nat) (at_ : Nat) (base nb g1 g2 g3 c1 c2 c3 : Nat) (m : Mch) (rd rs : Int) (w : World)
    (KB : Hid (Blk w nb 73 [.int .i64 at_, .slice (some ⟨g1, 0, none⟩) 6 c1, .slice (some ⟨g2, 0, none⟩) 16 c2, .slice (some ⟨g3, 0, none⟩) 16 c3])) (hne : nb ≠ g1 ∧ nb ≠ g2 ∧ nb ≠ g3) (_hat : at_ < 20) (hma : Hid (m.a = at_)) (HO : Hid (OwnM w base g1 g2 g3 c1 c2 c3 m)) (hd : d < 6) (hs : s < 6) (_hrd : m.r.getD d 0 = rd) (_hrs : m.r.getD s 0 = rs) :
    Calls Tryd.prog 67 #[.agg #[.int .i64 11, .int .i64 0, .int .i64 d, .int .i64 s, .int .i64 0, .int .i64 0], .slice C cn cc, .pointer (some ⟨nb, 0, none⟩)] w (GaveEx w base nb g1 g2 g3 c1 c2 c3 (m, 0, true)) := by
  have k0 : w.cell? ⟨nb, 0, none⟩ = some (.int .i64 at_) := KB.out.there rfl
  have k1 : w.cell? ⟨nb, 1, none⟩ = some (.slice (some ⟨g1, 0, none⟩) 6 c1) := KB.out.there rfl
  have k2 : w.cell? ⟨nb, 2, none⟩ = some (.slice (some ⟨g2, 0, none⟩) 16 c2) := KB.out.there rfl
  have k3 : w.cell? ⟨nb, 3, none⟩ = some (.slice (some ⟨g3, 0, none⟩) 16 c3) := KB.out.there rfl
  have z0 := KB.out.frozen 0
  have lb := KB.out.lt
  have r1 := HO.out.reg hd
  have r2 := HO.out.reg hs
  rw [_hrd] at r1
  rw [_hrs] at r2
  have f1 := own_frozen HO.out.1 d
  obtain ⟨l1, l2, l3⟩ := HO.out.lt
  obtain ⟨n1, n2, n3⟩ := hne
  have hdI : (d : Int) < 6 := by omega
  have hsI : (s : Int) < 6 := by omega
  clear _hrd _hrs
  go_enter Tryd.func67, Tryd.ntmps67
  go_wp2
  go_ret
  exact ⟨rfl, by rw [hma.out]; exact KB.out.below (below1 _ _), HO.out.below (below1 _ _), .of_below (below1 _ _)⟩
end Go.Proofs.YtilnegmjnbffhaaDoor
