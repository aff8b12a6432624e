/-
  The model's step on a machine of its own: contracts by kind.
-/
import Derived.Test.YtkffggnajoohfaaDoorOwnM
import Derived.Deep.RegionWith
import Derived.StillTailTactics
namespace Go.Proofs.YtkffggnajoohfaaDoor
open Go.ChangeShapes Go.WideShapes Go.ChangeAt Go.RowKit

/-- what l3Do answers -/
def GaveDo (w : World) (base g1 g2 g3 c1 c2 c3 : Nat) (r : Mch × Int × Bool) (e : Ending) (w' : World) : Prop :=
  e = .returned (.tuple #[.agg #[.int .i64 r.1.a, .slice (some ⟨g1, 0, none⟩) 6 c1, .slice (some ⟨g2, 0, none⟩) 16 c2, .slice (some ⟨g3, 0, none⟩) 16 c3], .int .i64 r.2.1, .bool r.2.2]) ∧ OwnM w' base g1 g2 g3 c1 c2 c3 r.1 ∧ Kept w w' (three g1 g2 g3)
theorem do_shut {w w1 w' : World} {base g1 g2 g3 c1 c2 c3 : Nat} {a f : Int} {b : Bool} (r : Mch × Int × Bool) (hO : OwnM w1 base g1 g2 g3 c1 c2 c3 r.1) (hk : Kept w w1 (three g1 g2 g3)) (hb : Below w1.heap.size w1 w') (h1 : a = r.1.a) (h2 : f = r.2.1) (h3 : b = r.2.2) :
    GaveDo w base g1 g2 g3 c1 c2 c3 r (.returned (.tuple #[.agg #[.int .i64 a, .slice (some ⟨g1, 0, none⟩) 6 c1, .slice (some ⟨g2, 0, none⟩) 16 c2, .slice (some ⟨g3, 0, none⟩) 16 c3], .int .i64 f, .bool b])) w' := by
  subst h1 h2 h3
  exact ⟨rfl, hO.below hb, hk.trans (.of_below hb)⟩

set_option maxRecDepth 100000 in
set_option maxHeartbeats 2000000 in
theorem l3Do_exit (pb off n cap at_ d s : Nat) (C : Option Addr) (cn cc : Nat) (base g1 g2 g3 c1 c2 c3 : Nat) (m : Mch) (rd rs : Int) (w : World)
    (ha : Hid (At w pb (off + at_ * 6) ⟨11, 0, d, s, 0, 0⟩)) (hpb : pb < w.heap.size) (hat : at_ < n) (hn : n ≤ 20) (hma : Hid (m.a = at_)) (HO : Hid (OwnM w base g1 g2 g3 c1 c2 c3 m)) (hd : d < 6) (hs : s < 6) (hrd : m.r.getD d 0 = rd) (hrs : m.r.getD s 0 = rs) :
    Calls Tryd.prog 42 #[.slice (some ⟨pb, off, none⟩) n cap, .slice C cn cc, .agg #[.int .i64 at_, .slice (some ⟨g1, 0, none⟩) 6 c1, .slice (some ⟨g2, 0, none⟩) 16 c2, .slice (some ⟨g3, 0, none⟩) 16 c3]] w (GaveDo w base g1 g2 g3 c1 c2 c3 (m, 0, true)) := by
  obtain ⟨e0, e1, e2, e3, e4, e5⟩ := ha.out
  have r1 := HO.out.reg hd
  have r2 := HO.out.reg hs
  rw [hrd] at r1
  rw [hrs] at r2
  have f1 := own_frozen HO.out.1 d
  obtain ⟨l1, l2, l3⟩ := HO.out.lt
  have l11 : g1 < w.heap.size + 1 := by omega
  have l12 : g1 < w.heap.size + 1 + 1 := by omega
  have l13 : g1 < w.heap.size + 1 + 1 + 1 := by omega
  clear hrd hrs
  go_enter Tryd.func42, Tryd.ntmps42
  go_wp2
  exact bodyPost_ret (v := .tuple #[.agg #[.int .i64 (at_), .slice (some ⟨g1, 0, none⟩) 6 c1, .slice (some ⟨g2, 0, none⟩) 16 c2, .slice (some ⟨g3, 0, none⟩) 16 c3], .int .i64 0, .bool true]) (by simp [results, Tryd.results42, go_sem]) rfl (do_shut (w1 := w) (m, 0, true) (HO.out) (Kept.refl _ _) (below3 _ _ _ _) (hma.out.symm) rfl rfl)

set_option maxRecDepth 100000 in
set_option maxHeartbeats 2000000 in
theorem l3Do_set3 (i : Int) (pb off n cap at_ d s : Nat) (C : Option Addr) (cn cc : Nat) (base g1 g2 g3 c1 c2 c3 : Nat) (m : Mch) (rd rs : Int) (w : World)
    (ha : Hid (At w pb (off + at_ * 6) ⟨3, 0, d, s, i, 0⟩)) (hpb : pb < w.heap.size) (hat : at_ < n) (hn : n ≤ 20) (hma : Hid (m.a = at_)) (HO : Hid (OwnM w base g1 g2 g3 c1 c2 c3 m)) (hd : d < 6) (hs : s < 6) (hrd : m.r.getD d 0 = rd) (hrs : m.r.getD s 0 = rs) :
    Calls Tryd.prog 42 #[.slice (some ⟨pb, off, none⟩) n cap, .slice C cn cc, .agg #[.int .i64 at_, .slice (some ⟨g1, 0, none⟩) 6 c1, .slice (some ⟨g2, 0, none⟩) 16 c2, .slice (some ⟨g3, 0, none⟩) 16 c3]] w (GaveDo w base g1 g2 g3 c1 c2 c3 (setR m d i, 0, false)) := by
  obtain ⟨e0, e1, e2, e3, e4, e5⟩ := ha.out
  have r1 := HO.out.reg hd
  have r2 := HO.out.reg hs
  rw [hrd] at r1
  rw [hrs] at r2
  have f1 := own_frozen HO.out.1 d
  obtain ⟨l1, l2, l3⟩ := HO.out.lt
  have l11 : g1 < w.heap.size + 1 := by omega
  have l12 : g1 < w.heap.size + 1 + 1 := by omega
  have l13 : g1 < w.heap.size + 1 + 1 + 1 := by omega
  clear hrd hrs
  go_enter Tryd.func42, Tryd.ntmps42
  go_wp2
  exact bodyPost_ret (v := .tuple #[.agg #[.int .i64 ((at_ : Int) + 1), .slice (some ⟨g1, 0, none⟩) 6 c1, .slice (some ⟨g2, 0, none⟩) 16 c2, .slice (some ⟨g3, 0, none⟩) 16 c3], .int .i64 0, .bool false]) (by simp [results, Tryd.results42, go_sem]) rfl (do_shut (w1 := (w.setCell ⟨g1, d, none⟩ (.int .i64 (i)))) (setR m d i, 0, false) (HO.out.setReg d i) (kept_setCell w g1 d _ (.inl rfl)) (below3 _ _ _ _) (by first | (rw [← hma.out]; rfl) | rw [← hma.out]) rfl rfl)

set_option maxRecDepth 100000 in
set_option maxHeartbeats 2000000 in
theorem l3Do_set4 (i : Int) (pb off n cap at_ d s : Nat) (C : Option Addr) (cn cc : Nat) (base g1 g2 g3 c1 c2 c3 : Nat) (m : Mch) (rd rs : Int) (w : World)
    (ha : Hid (At w pb (off + at_ * 6) ⟨4, 0, d, s, i, 0⟩)) (hpb : pb < w.heap.size) (hat : at_ < n) (hn : n ≤ 20) (hma : Hid (m.a = at_)) (HO : Hid (OwnM w base g1 g2 g3 c1 c2 c3 m)) (hd : d < 6) (hs : s < 6) (hrd : m.r.getD d 0 = rd) (hrs : m.r.getD s 0 = rs) :
    Calls Tryd.prog 42 #[.slice (some ⟨pb, off, none⟩) n cap, .slice C cn cc, .agg #[.int .i64 at_, .slice (some ⟨g1, 0, none⟩) 6 c1, .slice (some ⟨g2, 0, none⟩) 16 c2, .slice (some ⟨g3, 0, none⟩) 16 c3]] w (GaveDo w base g1 g2 g3 c1 c2 c3 (setR m d i, 0, false)) := by
  obtain ⟨e0, e1, e2, e3, e4, e5⟩ := ha.out
  have r1 := HO.out.reg hd
  have r2 := HO.out.reg hs
  rw [hrd] at r1
  rw [hrs] at r2
  have f1 := own_frozen HO.out.1 d
  obtain ⟨l1, l2, l3⟩ := HO.out.lt
  have l11 : g1 < w.heap.size + 1 := by omega
  have l12 : g1 < w.heap.size + 1 + 1 := by omega
  have l13 : g1 < w.heap.size + 1 + 1 + 1 := by omega
  clear hrd hrs
  go_enter Tryd.func42, Tryd.ntmps42
  go_wp2
  exact bodyPost_ret (v := .tuple #[.agg #[.int .i64 ((at_ : Int) + 1), .slice (some ⟨g1, 0, none⟩) 6 c1, .slice (some ⟨g2, 0, none⟩) 16 c2, .slice (some ⟨g3, 0, none⟩) 16 c3], .int .i64 0, .bool false]) (by simp [results, Tryd.results42, go_sem]) rfl (do_shut (w1 := (w.setCell ⟨g1, d, none⟩ (.int .i64 (i)))) (setR m d i, 0, false) (HO.out.setReg d i) (kept_setCell w g1 d _ (.inl rfl)) (below3 _ _ _ _) (by first | (rw [← hma.out]; rfl) | rw [← hma.out]) rfl rfl)

set_option maxRecDepth 100000 in
set_option maxHeartbeats 2000000 in
theorem l3Do_op (o : Int) (pb off n cap at_ d s : Nat) (C : Option Addr) (cn cc : Nat) (base g1 g2 g3 c1 c2 c3 : Nat) (m : Mch) (rd rs : Int) (w : World)
    (ha : Hid (At w pb (off + at_ * 6) ⟨1, o, d, s, 0, 0⟩)) (hpb : pb < w.heap.size) (hat : at_ < n) (hn : n ≤ 20) (hma : Hid (m.a = at_)) (HO : Hid (OwnM w base g1 g2 g3 c1 c2 c3 m)) (hd : d < 6) (hs : s < 6) (hrd : m.r.getD d 0 = rd) (hrs : m.r.getD s 0 = rs) (ho : Hid (Op.isOp o = true)) (hw1 : 0 ≤ rd ∧ rd < 65536) (hw2 : 0 ≤ rs ∧ rs < 65536) :
    Calls Tryd.prog 42 #[.slice (some ⟨pb, off, none⟩) n cap, .slice C cn cc, .agg #[.int .i64 at_, .slice (some ⟨g1, 0, none⟩) 6 c1, .slice (some ⟨g2, 0, none⟩) 16 c2, .slice (some ⟨g3, 0, none⟩) 16 c3]] w (GaveDo w base g1 g2 g3 c1 c2 c3 (setR m d (Op.opv o rd rs), 0, false)) := by
  obtain ⟨e0, e1, e2, e3, e4, e5⟩ := ha.out
  have r1 := HO.out.reg hd
  have r2 := HO.out.reg hs
  rw [hrd] at r1
  rw [hrs] at r2
  have f1 := own_frozen HO.out.1 d
  obtain ⟨l1, l2, l3⟩ := HO.out.lt
  have l11 : g1 < w.heap.size + 1 := by omega
  have l12 : g1 < w.heap.size + 1 + 1 := by omega
  have l13 : g1 < w.heap.size + 1 + 1 + 1 := by omega
  clear hrd hrs
  go_enter Tryd.func42, Tryd.ntmps42
  go_wp2_with fail
  refine wp_region_still_tail 9 (by kernel_rfl) (by kernel_rfl) ?_
  simp only [List.take_succ_cons, List.take_zero, List.drop_succ_cons, List.drop_zero]
  change wpStill _ _ (World.drew (((w.alloc (.cells #[.int .i64 at_, .slice (some ⟨g1, 0, none⟩) 6 c1, .slice (some ⟨g2, 0, none⟩) 16 c2, .slice (some ⟨g3, 0, none⟩) 16 c3] 27)).alloc (.cells #[.int .i64 0, .slice none 0 0, .slice none 0 0, .slice none 0 0] 27)).alloc (.cells #[.int .i64 1, .int .i64 o, .int .i64 d, .int .i64 s, .int .i64 0, .int .i64 0] 35))) _ _ _
  repeat still_step
  still_call ((Op.l1Do_any _ _ _ _ ho.out hw1.1 hw1.2 hw2.1 hw2.2).mono (fun e w' h => ⟨h.1, h.2.symm⟩))
  repeat still_step
  refine wpStill_nil ?_
  change wpList _ _ _ _ _ (World.drew (((w.alloc (.cells #[.int .i64 at_, .slice (some ⟨g1, 0, none⟩) 6 c1, .slice (some ⟨g2, 0, none⟩) 16 c2, .slice (some ⟨g3, 0, none⟩) 16 c3] 27)).alloc (.cells #[.int .i64 0, .slice none 0 0, .slice none 0 0, .slice none 0 0] 27)).alloc (.cells #[.int .i64 1, .int .i64 o, .int .i64 d, .int .i64 s, .int .i64 0, .int .i64 0] 35)))
  go_wp2
  exact bodyPost_ret (v := .tuple #[.agg #[.int .i64 ((at_ : Int) + 1), .slice (some ⟨g1, 0, none⟩) 6 c1, .slice (some ⟨g2, 0, none⟩) 16 c2, .slice (some ⟨g3, 0, none⟩) 16 c3], .int .i64 0, .bool false]) (by simp [results, Tryd.results42, go_sem]) rfl (do_shut (w1 := (w.setCell ⟨g1, d, none⟩ (.int .i64 (Op.opv o rd rs)))) (setR m d (Op.opv o rd rs), 0, false) (HO.out.setReg d _) (kept_setCell w g1 d _ (.inl rfl)) ((below3 _ _ _ _).drew) (by first | (rw [← hma.out]; rfl) | rw [← hma.out]) rfl rfl)

set_option maxRecDepth 100000 in
set_option maxHeartbeats 2000000 in
theorem l3Do_opi (o i : Int) (pb off n cap at_ d s : Nat) (C : Option Addr) (cn cc : Nat) (base g1 g2 g3 c1 c2 c3 : Nat) (m : Mch) (rd rs : Int) (w : World)
    (ha : Hid (At w pb (off + at_ * 6) ⟨2, o, d, s, i, 0⟩)) (hpb : pb < w.heap.size) (hat : at_ < n) (hn : n ≤ 20) (hma : Hid (m.a = at_)) (HO : Hid (OwnM w base g1 g2 g3 c1 c2 c3 m)) (hd : d < 6) (hs : s < 6) (hrd : m.r.getD d 0 = rd) (hrs : m.r.getD s 0 = rs) (ho : Hid (Op.isOp o = true)) (hw1 : 0 ≤ rd ∧ rd < 65536) (hw2 : 0 ≤ i ∧ i < 65536) :
    Calls Tryd.prog 42 #[.slice (some ⟨pb, off, none⟩) n cap, .slice C cn cc, .agg #[.int .i64 at_, .slice (some ⟨g1, 0, none⟩) 6 c1, .slice (some ⟨g2, 0, none⟩) 16 c2, .slice (some ⟨g3, 0, none⟩) 16 c3]] w (GaveDo w base g1 g2 g3 c1 c2 c3 (setR m d (Op.opv o rd i), 0, false)) := by
  obtain ⟨e0, e1, e2, e3, e4, e5⟩ := ha.out
  have r1 := HO.out.reg hd
  have r2 := HO.out.reg hs
  rw [hrd] at r1
  rw [hrs] at r2
  have f1 := own_frozen HO.out.1 d
  obtain ⟨l1, l2, l3⟩ := HO.out.lt
  have l11 : g1 < w.heap.size + 1 := by omega
  have l12 : g1 < w.heap.size + 1 + 1 := by omega
  have l13 : g1 < w.heap.size + 1 + 1 + 1 := by omega
  clear hrd hrs
  go_enter Tryd.func42, Tryd.ntmps42
  go_wp2_with fail
  refine wp_region_still_tail 10 (by kernel_rfl) (by kernel_rfl) ?_
  simp only [List.take_succ_cons, List.take_zero, List.drop_succ_cons, List.drop_zero]
  change wpStill _ _ (World.drew (((w.alloc (.cells #[.int .i64 at_, .slice (some ⟨g1, 0, none⟩) 6 c1, .slice (some ⟨g2, 0, none⟩) 16 c2, .slice (some ⟨g3, 0, none⟩) 16 c3] 27)).alloc (.cells #[.int .i64 0, .slice none 0 0, .slice none 0 0, .slice none 0 0] 27)).alloc (.cells #[.int .i64 2, .int .i64 o, .int .i64 d, .int .i64 s, .int .i64 i, .int .i64 0] 35))) _ _ _
  repeat still_step
  still_call ((Op.l1Do_any _ _ _ _ ho.out hw1.1 hw1.2 hw2.1 hw2.2).mono (fun e w' h => ⟨h.1, h.2.symm⟩))
  repeat still_step
  refine wpStill_nil ?_
  change wpList _ _ _ _ _ (World.drew (((w.alloc (.cells #[.int .i64 at_, .slice (some ⟨g1, 0, none⟩) 6 c1, .slice (some ⟨g2, 0, none⟩) 16 c2, .slice (some ⟨g3, 0, none⟩) 16 c3] 27)).alloc (.cells #[.int .i64 0, .slice none 0 0, .slice none 0 0, .slice none 0 0] 27)).alloc (.cells #[.int .i64 2, .int .i64 o, .int .i64 d, .int .i64 s, .int .i64 i, .int .i64 0] 35)))
  go_wp2
  exact bodyPost_ret (v := .tuple #[.agg #[.int .i64 ((at_ : Int) + 1), .slice (some ⟨g1, 0, none⟩) 6 c1, .slice (some ⟨g2, 0, none⟩) 16 c2, .slice (some ⟨g3, 0, none⟩) 16 c3], .int .i64 0, .bool false]) (by simp [results, Tryd.results42, go_sem]) rfl (do_shut (w1 := (w.setCell ⟨g1, d, none⟩ (.int .i64 (Op.opv o rd i)))) (setR m d (Op.opv o rd i), 0, false) (HO.out.setReg d _) (kept_setCell w g1 d _ (.inl rfl)) ((below3 _ _ _ _).drew) (by first | (rw [← hma.out]; rfl) | rw [← hma.out]) rfl rfl)

set_option maxRecDepth 100000 in
set_option maxHeartbeats 2000000 in
theorem l3Do_ctxF (i : Int) (pb off n cap at_ d s : Nat) (C : Option Addr) (cn cc : Nat) (base g1 g2 g3 c1 c2 c3 : Nat) (m : Mch) (rd rs : Int) (w : World)
    (ha : Hid (At w pb (off + at_ * 6) ⟨5, 0, d, s, i, 0⟩)) (hpb : pb < w.heap.size) (hat : at_ < n) (hn : n ≤ 20) (hma : Hid (m.a = at_)) (HO : Hid (OwnM w base g1 g2 g3 c1 c2 c3 m)) (hd : d < 6) (hs : s < 6) (hrd : m.r.getD d 0 = rd) (hrs : m.r.getD s 0 = rs) (hi : 0 ≤ i ∧ i ≤ 7) (hw2 : 0 ≤ rs ∧ rs < 65536) (h8 : 8 ≤ rs + i) :
    Calls Tryd.prog 42 #[.slice (some ⟨pb, off, none⟩) n cap, .slice C cn cc, .agg #[.int .i64 at_, .slice (some ⟨g1, 0, none⟩) 6 c1, .slice (some ⟨g2, 0, none⟩) 16 c2, .slice (some ⟨g3, 0, none⟩) 16 c3]] w (GaveDo w base g1 g2 g3 c1 c2 c3 (m, 1, false)) := by
  obtain ⟨e0, e1, e2, e3, e4, e5⟩ := ha.out
  have r1 := HO.out.reg hd
  have r2 := HO.out.reg hs
  rw [hrd] at r1
  rw [hrs] at r2
  have f1 := own_frozen HO.out.1 d
  obtain ⟨l1, l2, l3⟩ := HO.out.lt
  have l11 : g1 < w.heap.size + 1 := by omega
  have l12 : g1 < w.heap.size + 1 + 1 := by omega
  have l13 : g1 < w.heap.size + 1 + 1 + 1 := by omega
  clear hrd hrs
  go_enter Tryd.func42, Tryd.ntmps42
  go_wp2
  exact bodyPost_ret (v := .tuple #[.agg #[.int .i64 (at_), .slice (some ⟨g1, 0, none⟩) 6 c1, .slice (some ⟨g2, 0, none⟩) 16 c2, .slice (some ⟨g3, 0, none⟩) 16 c3], .int .i64 1, .bool false]) (by simp [results, Tryd.results42, go_sem]) rfl (do_shut (w1 := w) (m, 1, false) (HO.out) (Kept.refl _ _) (below3 _ _ _ _) (hma.out.symm) rfl rfl)

set_option maxRecDepth 100000 in
set_option maxHeartbeats 2000000 in
theorem l3Do_ctx (i : Int) (cb co j : Nat) (cv : Int) (pb off n cap at_ d s : Nat) (C : Option Addr) (cn cc : Nat) (base g1 g2 g3 c1 c2 c3 : Nat) (m : Mch) (rd rs : Int) (w : World)
    (ha : Hid (At w pb (off + at_ * 6) ⟨5, 0, d, s, i, 0⟩)) (hpb : pb < w.heap.size) (hat : at_ < n) (hn : n ≤ 20) (hma : Hid (m.a = at_)) (HO : Hid (OwnM w base g1 g2 g3 c1 c2 c3 m)) (hd : d < 6) (hs : s < 6) (hrd : m.r.getD d 0 = rd) (hrs : m.r.getD s 0 = rs) (_hi : 0 ≤ i ∧ i ≤ 7) (_hw2 : 0 ≤ rs ∧ rs < 65536) (h8 : rs + i = j) (hj : j < 8) (hcn : cn = 8) (hC : C = some ⟨cb, co, none⟩) (hcb : cb < w.heap.size) (hc : w.cell? ⟨cb, co + j, none⟩ = some (.int .i64 cv)) :
    Calls Tryd.prog 42 #[.slice (some ⟨pb, off, none⟩) n cap, .slice C cn cc, .agg #[.int .i64 at_, .slice (some ⟨g1, 0, none⟩) 6 c1, .slice (some ⟨g2, 0, none⟩) 16 c2, .slice (some ⟨g3, 0, none⟩) 16 c3]] w (GaveDo w base g1 g2 g3 c1 c2 c3 (setR m d cv, 0, false)) := by
  obtain ⟨e0, e1, e2, e3, e4, e5⟩ := ha.out
  have r1 := HO.out.reg hd
  have r2 := HO.out.reg hs
  rw [hrd] at r1
  rw [hrs] at r2
  have f1 := own_frozen HO.out.1 d
  obtain ⟨l1, l2, l3⟩ := HO.out.lt
  have l11 : g1 < w.heap.size + 1 := by omega
  have l12 : g1 < w.heap.size + 1 + 1 := by omega
  have l13 : g1 < w.heap.size + 1 + 1 + 1 := by omega
  clear hrd hrs
  subst hC hcn
  have b1 : cb < w.heap.size + 1 := by omega
  have b2 : cb < w.heap.size + 1 + 1 := by omega
  have b3 : cb < w.heap.size + 1 + 1 + 1 := by omega
  have h8' : decide (8 ≤ rs + i) = false := by simp; omega
  go_enter Tryd.func42, Tryd.ntmps42
  go_wp2_with fail
  go_region
  go_wp2
  exact bodyPost_ret (v := .tuple #[.agg #[.int .i64 ((at_ : Int) + 1), .slice (some ⟨g1, 0, none⟩) 6 c1, .slice (some ⟨g2, 0, none⟩) 16 c2, .slice (some ⟨g3, 0, none⟩) 16 c3], .int .i64 0, .bool false]) (by simp [results, Tryd.results42, go_sem]) rfl (do_shut (w1 := (w.setCell ⟨g1, d, none⟩ (.int .i64 (cv)))) (setR m d cv, 0, false) (HO.out.setReg d cv) (kept_setCell w g1 d _ (.inl rfl)) ((below3 _ _ _ _).drew) (by first | (rw [← hma.out]; rfl) | rw [← hma.out]) rfl rfl)

set_option maxRecDepth 100000 in
set_option maxHeartbeats 2000000 in
theorem l3Do_loadF (i : Int) (pb off n cap at_ d s : Nat) (C : Option Addr) (cn cc : Nat) (base g1 g2 g3 c1 c2 c3 : Nat) (m : Mch) (rd rs : Int) (w : World)
    (ha : Hid (At w pb (off + at_ * 6) ⟨6, 0, d, s, i, 0⟩)) (hpb : pb < w.heap.size) (hat : at_ < n) (hn : n ≤ 20) (hma : Hid (m.a = at_)) (HO : Hid (OwnM w base g1 g2 g3 c1 c2 c3 m)) (hd : d < 6) (hs : s < 6) (hrd : m.r.getD d 0 = rd) (hrs : m.r.getD s 0 = rs) (hi : 16 ≤ i) :
    Calls Tryd.prog 42 #[.slice (some ⟨pb, off, none⟩) n cap, .slice C cn cc, .agg #[.int .i64 at_, .slice (some ⟨g1, 0, none⟩) 6 c1, .slice (some ⟨g2, 0, none⟩) 16 c2, .slice (some ⟨g3, 0, none⟩) 16 c3]] w (GaveDo w base g1 g2 g3 c1 c2 c3 (m, 2, false)) := by
  obtain ⟨e0, e1, e2, e3, e4, e5⟩ := ha.out
  have r1 := HO.out.reg hd
  have r2 := HO.out.reg hs
  rw [hrd] at r1
  rw [hrs] at r2
  have f1 := own_frozen HO.out.1 d
  obtain ⟨l1, l2, l3⟩ := HO.out.lt
  have l11 : g1 < w.heap.size + 1 := by omega
  have l12 : g1 < w.heap.size + 1 + 1 := by omega
  have l13 : g1 < w.heap.size + 1 + 1 + 1 := by omega
  clear hrd hrs
  go_enter Tryd.func42, Tryd.ntmps42
  go_wp2
  exact bodyPost_ret (v := .tuple #[.agg #[.int .i64 (at_), .slice (some ⟨g1, 0, none⟩) 6 c1, .slice (some ⟨g2, 0, none⟩) 16 c2, .slice (some ⟨g3, 0, none⟩) 16 c3], .int .i64 2, .bool false]) (by simp [results, Tryd.results42, go_sem]) rfl (do_shut (w1 := w) (m, 2, false) (HO.out) (Kept.refl _ _) (below3 _ _ _ _) (hma.out.symm) rfl rfl)

set_option maxRecDepth 100000 in
set_option maxHeartbeats 2000000 in
theorem l3Do_storeF (i : Int) (pb off n cap at_ d s : Nat) (C : Option Addr) (cn cc : Nat) (base g1 g2 g3 c1 c2 c3 : Nat) (m : Mch) (rd rs : Int) (w : World)
    (ha : Hid (At w pb (off + at_ * 6) ⟨7, 0, d, s, i, 0⟩)) (hpb : pb < w.heap.size) (hat : at_ < n) (hn : n ≤ 20) (hma : Hid (m.a = at_)) (HO : Hid (OwnM w base g1 g2 g3 c1 c2 c3 m)) (hd : d < 6) (hs : s < 6) (hrd : m.r.getD d 0 = rd) (hrs : m.r.getD s 0 = rs) (hi : 16 ≤ i) :
    Calls Tryd.prog 42 #[.slice (some ⟨pb, off, none⟩) n cap, .slice C cn cc, .agg #[.int .i64 at_, .slice (some ⟨g1, 0, none⟩) 6 c1, .slice (some ⟨g2, 0, none⟩) 16 c2, .slice (some ⟨g3, 0, none⟩) 16 c3]] w (GaveDo w base g1 g2 g3 c1 c2 c3 (m, 2, false)) := by
  obtain ⟨e0, e1, e2, e3, e4, e5⟩ := ha.out
  have r1 := HO.out.reg hd
  have r2 := HO.out.reg hs
  rw [hrd] at r1
  rw [hrs] at r2
  have f1 := own_frozen HO.out.1 d
  obtain ⟨l1, l2, l3⟩ := HO.out.lt
  have l11 : g1 < w.heap.size + 1 := by omega
  have l12 : g1 < w.heap.size + 1 + 1 := by omega
  have l13 : g1 < w.heap.size + 1 + 1 + 1 := by omega
  clear hrd hrs
  go_enter Tryd.func42, Tryd.ntmps42
  go_wp2
  exact bodyPost_ret (v := .tuple #[.agg #[.int .i64 (at_), .slice (some ⟨g1, 0, none⟩) 6 c1, .slice (some ⟨g2, 0, none⟩) 16 c2, .slice (some ⟨g3, 0, none⟩) 16 c3], .int .i64 2, .bool false]) (by simp [results, Tryd.results42, go_sem]) rfl (do_shut (w1 := w) (m, 2, false) (HO.out) (Kept.refl _ _) (below3 _ _ _ _) (hma.out.symm) rfl rfl)

set_option maxRecDepth 100000 in
set_option maxHeartbeats 2000000 in
theorem l3Do_store (i : Nat) (pb off n cap at_ d s : Nat) (C : Option Addr) (cn cc : Nat) (base g1 g2 g3 c1 c2 c3 : Nat) (m : Mch) (rd rs : Int) (w : World)
    (ha : Hid (At w pb (off + at_ * 6) ⟨7, 0, d, s, i, 0⟩)) (hpb : pb < w.heap.size) (hat : at_ < n) (hn : n ≤ 20) (hma : Hid (m.a = at_)) (HO : Hid (OwnM w base g1 g2 g3 c1 c2 c3 m)) (hd : d < 6) (hs : s < 6) (hrd : m.r.getD d 0 = rd) (hrs : m.r.getD s 0 = rs) (hi : i < 16) :
    Calls Tryd.prog 42 #[.slice (some ⟨pb, off, none⟩) n cap, .slice C cn cc, .agg #[.int .i64 at_, .slice (some ⟨g1, 0, none⟩) 6 c1, .slice (some ⟨g2, 0, none⟩) 16 c2, .slice (some ⟨g3, 0, none⟩) 16 c3]] w (GaveDo w base g1 g2 g3 c1 c2 c3 (⟨m.a + 1, m.r, m.c.set i rd, m.s.set i true⟩, 0, false)) := by
  obtain ⟨e0, e1, e2, e3, e4, e5⟩ := ha.out
  have r1 := HO.out.reg hd
  have r2 := HO.out.reg hs
  rw [hrd] at r1
  rw [hrs] at r2
  have f1 := own_frozen HO.out.1 d
  obtain ⟨l1, l2, l3⟩ := HO.out.lt
  have l11 : g1 < w.heap.size + 1 := by omega
  have l12 : g1 < w.heap.size + 1 + 1 := by omega
  have l13 : g1 < w.heap.size + 1 + 1 + 1 := by omega
  clear hrd hrs
  have l21 : g2 < w.heap.size + 1 := by omega
  have l22 : g2 < w.heap.size + 1 + 1 := by omega
  have l23 : g2 < w.heap.size + 1 + 1 + 1 := by omega
  have l31 : g3 < w.heap.size + 1 := by omega
  have l32 : g3 < w.heap.size + 1 + 1 := by omega
  have l33 : g3 < w.heap.size + 1 + 1 + 1 := by omega
  have ne12 : g1 ≠ g2 := HO.out.2.2.2.1
  have ne13 : g1 ≠ g3 := HO.out.2.2.2.2.1
  have ne23 : g2 ≠ g3 := HO.out.2.2.2.2.2
  have t1 := HO.out.cel hi
  have t2 := HO.out.flag hi
  have f2 := own_frozen HO.out.2.1 i
  have f3 := own_frozen HO.out.2.2.1 i
  go_enter Tryd.func42, Tryd.ntmps42
  go_wp2
  exact bodyPost_ret (v := .tuple #[.agg #[.int .i64 ((at_ : Int) + 1), .slice (some ⟨g1, 0, none⟩) 6 c1, .slice (some ⟨g2, 0, none⟩) 16 c2, .slice (some ⟨g3, 0, none⟩) 16 c3], .int .i64 0, .bool false]) (by simp [results, Tryd.results42, go_sem]) rfl (do_shut (w1 := ((w.setCell ⟨g2, i, none⟩ (.int .i64 rd)).setCell ⟨g3, i, none⟩ (.bool true))) (⟨m.a + 1, m.r, m.c.set i rd, m.s.set i true⟩, 0, false) ((HO.out.setCel i rd).setFlag i true) ((kept_setCell w g2 i _ (.inr (.inl rfl))).trans (kept_setCell _ g3 i _ (.inr (.inr rfl)))) (below3 _ _ _ _) (by first | (rw [← hma.out]; rfl) | rw [← hma.out]) rfl rfl)

set_option maxRecDepth 100000 in
set_option maxHeartbeats 2000000 in
theorem l3Do_loadU (i : Nat) (pb off n cap at_ d s : Nat) (C : Option Addr) (cn cc : Nat) (base g1 g2 g3 c1 c2 c3 : Nat) (m : Mch) (rd rs : Int) (w : World)
    (ha : Hid (At w pb (off + at_ * 6) ⟨6, 0, d, s, i, 0⟩)) (hpb : pb < w.heap.size) (hat : at_ < n) (hn : n ≤ 20) (hma : Hid (m.a = at_)) (HO : Hid (OwnM w base g1 g2 g3 c1 c2 c3 m)) (hd : d < 6) (hs : s < 6) (hrd : m.r.getD d 0 = rd) (hrs : m.r.getD s 0 = rs) (hi : i < 16) (hu : m.s.getD i false = false) :
    Calls Tryd.prog 42 #[.slice (some ⟨pb, off, none⟩) n cap, .slice C cn cc, .agg #[.int .i64 at_, .slice (some ⟨g1, 0, none⟩) 6 c1, .slice (some ⟨g2, 0, none⟩) 16 c2, .slice (some ⟨g3, 0, none⟩) 16 c3]] w (GaveDo w base g1 g2 g3 c1 c2 c3 (m, 3, false)) := by
  obtain ⟨e0, e1, e2, e3, e4, e5⟩ := ha.out
  have r1 := HO.out.reg hd
  have r2 := HO.out.reg hs
  rw [hrd] at r1
  rw [hrs] at r2
  have f1 := own_frozen HO.out.1 d
  obtain ⟨l1, l2, l3⟩ := HO.out.lt
  have l11 : g1 < w.heap.size + 1 := by omega
  have l12 : g1 < w.heap.size + 1 + 1 := by omega
  have l13 : g1 < w.heap.size + 1 + 1 + 1 := by omega
  clear hrd hrs
  have l21 : g2 < w.heap.size + 1 := by omega
  have l22 : g2 < w.heap.size + 1 + 1 := by omega
  have l23 : g2 < w.heap.size + 1 + 1 + 1 := by omega
  have l31 : g3 < w.heap.size + 1 := by omega
  have l32 : g3 < w.heap.size + 1 + 1 := by omega
  have l33 : g3 < w.heap.size + 1 + 1 + 1 := by omega
  have ne12 : g1 ≠ g2 := HO.out.2.2.2.1
  have ne13 : g1 ≠ g3 := HO.out.2.2.2.2.1
  have ne23 : g2 ≠ g3 := HO.out.2.2.2.2.2
  have t2 := HO.out.flag hi
  rw [hu] at t2
  go_enter Tryd.func42, Tryd.ntmps42
  go_wp2
  exact bodyPost_ret (v := .tuple #[.agg #[.int .i64 (at_), .slice (some ⟨g1, 0, none⟩) 6 c1, .slice (some ⟨g2, 0, none⟩) 16 c2, .slice (some ⟨g3, 0, none⟩) 16 c3], .int .i64 3, .bool false]) (by simp [results, Tryd.results42, go_sem]) rfl (do_shut (w1 := w) (m, 3, false) (HO.out) (Kept.refl _ _) (below3 _ _ _ _) (hma.out.symm) rfl rfl)

set_option maxRecDepth 100000 in
set_option maxHeartbeats 2000000 in
theorem l3Do_load (i : Nat) (cv : Int) (pb off n cap at_ d s : Nat) (C : Option Addr) (cn cc : Nat) (base g1 g2 g3 c1 c2 c3 : Nat) (m : Mch) (rd rs : Int) (w : World)
    (ha : Hid (At w pb (off + at_ * 6) ⟨6, 0, d, s, i, 0⟩)) (hpb : pb < w.heap.size) (hat : at_ < n) (hn : n ≤ 20) (hma : Hid (m.a = at_)) (HO : Hid (OwnM w base g1 g2 g3 c1 c2 c3 m)) (hd : d < 6) (hs : s < 6) (hrd : m.r.getD d 0 = rd) (hrs : m.r.getD s 0 = rs) (hi : i < 16) (hu : m.s.getD i false = true) (hv : m.c.getD i 0 = cv) :
    Calls Tryd.prog 42 #[.slice (some ⟨pb, off, none⟩) n cap, .slice C cn cc, .agg #[.int .i64 at_, .slice (some ⟨g1, 0, none⟩) 6 c1, .slice (some ⟨g2, 0, none⟩) 16 c2, .slice (some ⟨g3, 0, none⟩) 16 c3]] w (GaveDo w base g1 g2 g3 c1 c2 c3 (setR m d cv, 0, false)) := by
  obtain ⟨e0, e1, e2, e3, e4, e5⟩ := ha.out
  have r1 := HO.out.reg hd
  have r2 := HO.out.reg hs
  rw [hrd] at r1
  rw [hrs] at r2
  have f1 := own_frozen HO.out.1 d
  obtain ⟨l1, l2, l3⟩ := HO.out.lt
  have l11 : g1 < w.heap.size + 1 := by omega
  have l12 : g1 < w.heap.size + 1 + 1 := by omega
  have l13 : g1 < w.heap.size + 1 + 1 + 1 := by omega
  clear hrd hrs
  have l21 : g2 < w.heap.size + 1 := by omega
  have l22 : g2 < w.heap.size + 1 + 1 := by omega
  have l23 : g2 < w.heap.size + 1 + 1 + 1 := by omega
  have l31 : g3 < w.heap.size + 1 := by omega
  have l32 : g3 < w.heap.size + 1 + 1 := by omega
  have l33 : g3 < w.heap.size + 1 + 1 + 1 := by omega
  have ne12 : g1 ≠ g2 := HO.out.2.2.2.1
  have ne13 : g1 ≠ g3 := HO.out.2.2.2.2.1
  have ne23 : g2 ≠ g3 := HO.out.2.2.2.2.2
  have t1 := HO.out.cel hi
  have t2 := HO.out.flag hi
  rw [hu] at t2
  rw [hv] at t1
  go_enter Tryd.func42, Tryd.ntmps42
  go_wp2_with fail
  refine wp_region_still_tail 10 (by kernel_rfl) (by kernel_rfl) ?_
  simp only [List.take_succ_cons, List.take_zero, List.drop_succ_cons, List.drop_zero]
  change wpStill _ _ (World.drew (((w.alloc (.cells #[.int .i64 at_, .slice (some ⟨g1, 0, none⟩) 6 c1, .slice (some ⟨g2, 0, none⟩) 16 c2, .slice (some ⟨g3, 0, none⟩) 16 c3] 27)).alloc (.cells #[.int .i64 0, .slice none 0 0, .slice none 0 0, .slice none 0 0] 27)).alloc (.cells #[.int .i64 6, .int .i64 0, .int .i64 d, .int .i64 s, .int .i64 i, .int .i64 0] 35))) _ _ _
  repeat still_step
  refine wpStill_nil ?_
  change wpList _ _ _ _ _ (World.drew (((w.alloc (.cells #[.int .i64 at_, .slice (some ⟨g1, 0, none⟩) 6 c1, .slice (some ⟨g2, 0, none⟩) 16 c2, .slice (some ⟨g3, 0, none⟩) 16 c3] 27)).alloc (.cells #[.int .i64 0, .slice none 0 0, .slice none 0 0, .slice none 0 0] 27)).alloc (.cells #[.int .i64 6, .int .i64 0, .int .i64 d, .int .i64 s, .int .i64 i, .int .i64 0] 35)))
  go_wp2
  exact bodyPost_ret (v := .tuple #[.agg #[.int .i64 ((at_ : Int) + 1), .slice (some ⟨g1, 0, none⟩) 6 c1, .slice (some ⟨g2, 0, none⟩) 16 c2, .slice (some ⟨g3, 0, none⟩) 16 c3], .int .i64 0, .bool false]) (by simp [results, Tryd.results42, go_sem]) rfl (do_shut (w1 := (w.setCell ⟨g1, d, none⟩ (.int .i64 (cv)))) (setR m d cv, 0, false) (HO.out.setReg d cv) (kept_setCell w g1 d _ (.inl rfl)) ((below3 _ _ _ _).drew) (by first | (rw [← hma.out]; rfl) | rw [← hma.out]) rfl rfl)

set_option maxRecDepth 100000 in
set_option maxHeartbeats 2000000 in
theorem l3Do_jump (t : Int) (pb off n cap at_ d s : Nat) (C : Option Addr) (cn cc : Nat) (base g1 g2 g3 c1 c2 c3 : Nat) (m : Mch) (rd rs : Int) (w : World)
    (ha : Hid (At w pb (off + at_ * 6) ⟨8, 0, d, s, 0, t⟩)) (hpb : pb < w.heap.size) (hat : at_ < n) (hn : n ≤ 20) (_hma : Hid (m.a = at_)) (HO : Hid (OwnM w base g1 g2 g3 c1 c2 c3 m)) (hd : d < 6) (hs : s < 6) (hrd : m.r.getD d 0 = rd) (hrs : m.r.getD s 0 = rs) (ht : 1 ≤ t ∧ t ≤ 19) :
    Calls Tryd.prog 42 #[.slice (some ⟨pb, off, none⟩) n cap, .slice C cn cc, .agg #[.int .i64 at_, .slice (some ⟨g1, 0, none⟩) 6 c1, .slice (some ⟨g2, 0, none⟩) 16 c2, .slice (some ⟨g3, 0, none⟩) 16 c3]] w (GaveDo w base g1 g2 g3 c1 c2 c3 (⟨(at_ : Int) + t + 1, m.r, m.c, m.s⟩, 0, false)) := by
  obtain ⟨e0, e1, e2, e3, e4, e5⟩ := ha.out
  have r1 := HO.out.reg hd
  have r2 := HO.out.reg hs
  rw [hrd] at r1
  rw [hrs] at r2
  have f1 := own_frozen HO.out.1 d
  obtain ⟨l1, l2, l3⟩ := HO.out.lt
  have l11 : g1 < w.heap.size + 1 := by omega
  have l12 : g1 < w.heap.size + 1 + 1 := by omega
  have l13 : g1 < w.heap.size + 1 + 1 + 1 := by omega
  clear hrd hrs
  go_enter Tryd.func42, Tryd.ntmps42
  go_wp2
  exact bodyPost_ret (v := .tuple #[.agg #[.int .i64 ((at_ : Int) + t + 1), .slice (some ⟨g1, 0, none⟩) 6 c1, .slice (some ⟨g2, 0, none⟩) 16 c2, .slice (some ⟨g3, 0, none⟩) 16 c3], .int .i64 0, .bool false]) (by simp [results, Tryd.results42, go_sem]) rfl (do_shut (w1 := w) (⟨(at_ : Int) + t + 1, m.r, m.c, m.s⟩, 0, false) (HO.out.at _) (Kept.refl _ _) (below3 _ _ _ _) rfl rfl rfl)

set_option maxRecDepth 100000 in
set_option maxHeartbeats 2000000 in
theorem l3Do_eqT (t : Int) (pb off n cap at_ d s : Nat) (C : Option Addr) (cn cc : Nat) (base g1 g2 g3 c1 c2 c3 : Nat) (m : Mch) (rd rs : Int) (w : World)
    (ha : Hid (At w pb (off + at_ * 6) ⟨9, 0, d, s, 0, t⟩)) (hpb : pb < w.heap.size) (hat : at_ < n) (hn : n ≤ 20) (_hma : Hid (m.a = at_)) (HO : Hid (OwnM w base g1 g2 g3 c1 c2 c3 m)) (hd : d < 6) (hs : s < 6) (hrd : m.r.getD d 0 = rd) (hrs : m.r.getD s 0 = rs) (ht : 1 ≤ t ∧ t ≤ 19) (hq : (rd == rs) = true) :
    Calls Tryd.prog 42 #[.slice (some ⟨pb, off, none⟩) n cap, .slice C cn cc, .agg #[.int .i64 at_, .slice (some ⟨g1, 0, none⟩) 6 c1, .slice (some ⟨g2, 0, none⟩) 16 c2, .slice (some ⟨g3, 0, none⟩) 16 c3]] w (GaveDo w base g1 g2 g3 c1 c2 c3 (⟨(at_ : Int) + t + 1, m.r, m.c, m.s⟩, 0, false)) := by
  obtain ⟨e0, e1, e2, e3, e4, e5⟩ := ha.out
  have r1 := HO.out.reg hd
  have r2 := HO.out.reg hs
  rw [hrd] at r1
  rw [hrs] at r2
  have f1 := own_frozen HO.out.1 d
  obtain ⟨l1, l2, l3⟩ := HO.out.lt
  have l11 : g1 < w.heap.size + 1 := by omega
  have l12 : g1 < w.heap.size + 1 + 1 := by omega
  have l13 : g1 < w.heap.size + 1 + 1 + 1 := by omega
  clear hrd hrs
  go_enter Tryd.func42, Tryd.ntmps42
  go_wp2
  exact bodyPost_ret (v := .tuple #[.agg #[.int .i64 ((at_ : Int) + t + 1), .slice (some ⟨g1, 0, none⟩) 6 c1, .slice (some ⟨g2, 0, none⟩) 16 c2, .slice (some ⟨g3, 0, none⟩) 16 c3], .int .i64 0, .bool false]) (by simp [results, Tryd.results42, go_sem]) rfl (do_shut (w1 := w) (⟨(at_ : Int) + t + 1, m.r, m.c, m.s⟩, 0, false) (HO.out.at _) (Kept.refl _ _) (below3 _ _ _ _) rfl rfl rfl)

set_option maxRecDepth 100000 in
set_option maxHeartbeats 2000000 in
theorem l3Do_eqN (t : Int) (pb off n cap at_ d s : Nat) (C : Option Addr) (cn cc : Nat) (base g1 g2 g3 c1 c2 c3 : Nat) (m : Mch) (rd rs : Int) (w : World)
    (ha : Hid (At w pb (off + at_ * 6) ⟨9, 0, d, s, 0, t⟩)) (hpb : pb < w.heap.size) (hat : at_ < n) (hn : n ≤ 20) (_hma : Hid (m.a = at_)) (HO : Hid (OwnM w base g1 g2 g3 c1 c2 c3 m)) (hd : d < 6) (hs : s < 6) (hrd : m.r.getD d 0 = rd) (hrs : m.r.getD s 0 = rs) (_ht : 1 ≤ t ∧ t ≤ 19) (hq : (rd == rs) = false) :
    Calls Tryd.prog 42 #[.slice (some ⟨pb, off, none⟩) n cap, .slice C cn cc, .agg #[.int .i64 at_, .slice (some ⟨g1, 0, none⟩) 6 c1, .slice (some ⟨g2, 0, none⟩) 16 c2, .slice (some ⟨g3, 0, none⟩) 16 c3]] w (GaveDo w base g1 g2 g3 c1 c2 c3 (⟨(at_ : Int) + 1, m.r, m.c, m.s⟩, 0, false)) := by
  obtain ⟨e0, e1, e2, e3, e4, e5⟩ := ha.out
  have r1 := HO.out.reg hd
  have r2 := HO.out.reg hs
  rw [hrd] at r1
  rw [hrs] at r2
  have f1 := own_frozen HO.out.1 d
  obtain ⟨l1, l2, l3⟩ := HO.out.lt
  have l11 : g1 < w.heap.size + 1 := by omega
  have l12 : g1 < w.heap.size + 1 + 1 := by omega
  have l13 : g1 < w.heap.size + 1 + 1 + 1 := by omega
  clear hrd hrs
  go_enter Tryd.func42, Tryd.ntmps42
  go_wp2
  exact bodyPost_ret (v := .tuple #[.agg #[.int .i64 ((at_ : Int) + 1), .slice (some ⟨g1, 0, none⟩) 6 c1, .slice (some ⟨g2, 0, none⟩) 16 c2, .slice (some ⟨g3, 0, none⟩) 16 c3], .int .i64 0, .bool false]) (by simp [results, Tryd.results42, go_sem]) rfl (do_shut (w1 := w) (⟨(at_ : Int) + 1, m.r, m.c, m.s⟩, 0, false) (HO.out.at _) (Kept.refl _ _) (below3 _ _ _ _) rfl rfl rfl)

set_option maxRecDepth 100000 in
set_option maxHeartbeats 2000000 in
theorem l3Do_lessT (t : Int) (pb off n cap at_ d s : Nat) (C : Option Addr) (cn cc : Nat) (base g1 g2 g3 c1 c2 c3 : Nat) (m : Mch) (rd rs : Int) (w : World)
    (ha : Hid (At w pb (off + at_ * 6) ⟨10, 0, d, s, 0, t⟩)) (hpb : pb < w.heap.size) (hat : at_ < n) (hn : n ≤ 20) (_hma : Hid (m.a = at_)) (HO : Hid (OwnM w base g1 g2 g3 c1 c2 c3 m)) (hd : d < 6) (hs : s < 6) (hrd : m.r.getD d 0 = rd) (hrs : m.r.getD s 0 = rs) (ht : 1 ≤ t ∧ t ≤ 19) (hq : rd < rs) :
    Calls Tryd.prog 42 #[.slice (some ⟨pb, off, none⟩) n cap, .slice C cn cc, .agg #[.int .i64 at_, .slice (some ⟨g1, 0, none⟩) 6 c1, .slice (some ⟨g2, 0, none⟩) 16 c2, .slice (some ⟨g3, 0, none⟩) 16 c3]] w (GaveDo w base g1 g2 g3 c1 c2 c3 (⟨(at_ : Int) + t + 1, m.r, m.c, m.s⟩, 0, false)) := by
  obtain ⟨e0, e1, e2, e3, e4, e5⟩ := ha.out
  have r1 := HO.out.reg hd
  have r2 := HO.out.reg hs
  rw [hrd] at r1
  rw [hrs] at r2
  have f1 := own_frozen HO.out.1 d
  obtain ⟨l1, l2, l3⟩ := HO.out.lt
  have l11 : g1 < w.heap.size + 1 := by omega
  have l12 : g1 < w.heap.size + 1 + 1 := by omega
  have l13 : g1 < w.heap.size + 1 + 1 + 1 := by omega
  clear hrd hrs
  go_enter Tryd.func42, Tryd.ntmps42
  go_wp2
  exact bodyPost_ret (v := .tuple #[.agg #[.int .i64 ((at_ : Int) + t + 1), .slice (some ⟨g1, 0, none⟩) 6 c1, .slice (some ⟨g2, 0, none⟩) 16 c2, .slice (some ⟨g3, 0, none⟩) 16 c3], .int .i64 0, .bool false]) (by simp [results, Tryd.results42, go_sem]) rfl (do_shut (w1 := w) (⟨(at_ : Int) + t + 1, m.r, m.c, m.s⟩, 0, false) (HO.out.at _) (Kept.refl _ _) (below3 _ _ _ _) rfl rfl rfl)

set_option maxRecDepth 100000 in
set_option maxHeartbeats 2000000 in
theorem l3Do_lessN (t : Int) (pb off n cap at_ d s : Nat) (C : Option Addr) (cn cc : Nat) (base g1 g2 g3 c1 c2 c3 : Nat) (m : Mch) (rd rs : Int) (w : World)
    (ha : Hid (At w pb (off + at_ * 6) ⟨10, 0, d, s, 0, t⟩)) (hpb : pb < w.heap.size) (hat : at_ < n) (hn : n ≤ 20) (_hma : Hid (m.a = at_)) (HO : Hid (OwnM w base g1 g2 g3 c1 c2 c3 m)) (hd : d < 6) (hs : s < 6) (hrd : m.r.getD d 0 = rd) (hrs : m.r.getD s 0 = rs) (_ht : 1 ≤ t ∧ t ≤ 19) (hq : ¬ rd < rs) :
    Calls Tryd.prog 42 #[.slice (some ⟨pb, off, none⟩) n cap, .slice C cn cc, .agg #[.int .i64 at_, .slice (some ⟨g1, 0, none⟩) 6 c1, .slice (some ⟨g2, 0, none⟩) 16 c2, .slice (some ⟨g3, 0, none⟩) 16 c3]] w (GaveDo w base g1 g2 g3 c1 c2 c3 (⟨(at_ : Int) + 1, m.r, m.c, m.s⟩, 0, false)) := by
  obtain ⟨e0, e1, e2, e3, e4, e5⟩ := ha.out
  have r1 := HO.out.reg hd
  have r2 := HO.out.reg hs
  rw [hrd] at r1
  rw [hrs] at r2
  have f1 := own_frozen HO.out.1 d
  obtain ⟨l1, l2, l3⟩ := HO.out.lt
  have l11 : g1 < w.heap.size + 1 := by omega
  have l12 : g1 < w.heap.size + 1 + 1 := by omega
  have l13 : g1 < w.heap.size + 1 + 1 + 1 := by omega
  clear hrd hrs
  go_enter Tryd.func42, Tryd.ntmps42
  go_wp2
  exact bodyPost_ret (v := .tuple #[.agg #[.int .i64 ((at_ : Int) + 1), .slice (some ⟨g1, 0, none⟩) 6 c1, .slice (some ⟨g2, 0, none⟩) 16 c2, .slice (some ⟨g3, 0, none⟩) 16 c3], .int .i64 0, .bool false]) (by simp [results, Tryd.results42, go_sem]) rfl (do_shut (w1 := w) (⟨(at_ : Int) + 1, m.r, m.c, m.s⟩, 0, false) (HO.out.at _) (Kept.refl _ _) (below3 _ _ _ _) rfl rfl rfl)
end Go.Proofs.YtkffggnajoohfaaDoor
