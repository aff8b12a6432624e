/-
  Contract of the form of a step: a valid step has the form of its kind, every other step has none.
-/
import Derived.Test.YtilnegmjnbffhaaDoorFits
import Derived.Deep.QuietTactic
import Derived.BigQuiet
import Derived.Deep.RegionWith
namespace Go.Proofs.YtilnegmjnbffhaaDoor
open Go.ChangeShapes Go.WideShapes Go.ChangeAt Go.RowKit

/-- a step that lies in a block of its own -/
theorem box_keep {w0 w w' : World} {g : Nat} {k o d s i t : Int}
    (h : Below w0.heap.size w0 w ∧ g < w.heap.size ∧ w.cell? ⟨g, 0, none⟩ = some (.int .i64 k) ∧ w.cell? ⟨g, 1, none⟩ = some (.int .i64 o) ∧ w.cell? ⟨g, 2, none⟩ = some (.int .i64 d) ∧ w.cell? ⟨g, 3, none⟩ = some (.int .i64 s) ∧ w.cell? ⟨g, 4, none⟩ = some (.int .i64 i) ∧ w.cell? ⟨g, 5, none⟩ = some (.int .i64 t))
    (hb : Below w.heap.size w w') :
    Below w0.heap.size w0 w' ∧ g < w'.heap.size ∧ w'.cell? ⟨g, 0, none⟩ = some (.int .i64 k) ∧ w'.cell? ⟨g, 1, none⟩ = some (.int .i64 o) ∧ w'.cell? ⟨g, 2, none⟩ = some (.int .i64 d) ∧ w'.cell? ⟨g, 3, none⟩ = some (.int .i64 s) ∧ w'.cell? ⟨g, 4, none⟩ = some (.int .i64 i) ∧ w'.cell? ⟨g, 5, none⟩ = some (.int .i64 t) := by
  obtain ⟨h0, h2, c0, c1, c2, c3, c4, c5⟩ := h
  have q := (bcell hb).1 g
  exact ⟨h0.trans (hb.mono h0.size), Nat.lt_of_lt_of_le h2 hb.size, (q 0 h2).trans c0, (q 1 h2).trans c1, (q 2 h2).trans c2, (q 3 h2).trans c3, (q 4 h2).trans c4, (q 5 h2).trans c5⟩
theorem box_drew {w0 w : World} {g : Nat} {k o d s i t : Int}
    (h : Below w0.heap.size w0 w ∧ g < w.heap.size ∧ w.cell? ⟨g, 0, none⟩ = some (.int .i64 k) ∧ w.cell? ⟨g, 1, none⟩ = some (.int .i64 o) ∧ w.cell? ⟨g, 2, none⟩ = some (.int .i64 d) ∧ w.cell? ⟨g, 3, none⟩ = some (.int .i64 s) ∧ w.cell? ⟨g, 4, none⟩ = some (.int .i64 i) ∧ w.cell? ⟨g, 5, none⟩ = some (.int .i64 t)) :
    Below w0.heap.size w0 w.drew ∧ g < w.drew.heap.size ∧ w.drew.cell? ⟨g, 0, none⟩ = some (.int .i64 k) ∧ w.drew.cell? ⟨g, 1, none⟩ = some (.int .i64 o) ∧ w.drew.cell? ⟨g, 2, none⟩ = some (.int .i64 d) ∧ w.drew.cell? ⟨g, 3, none⟩ = some (.int .i64 s) ∧ w.drew.cell? ⟨g, 4, none⟩ = some (.int .i64 i) ∧ w.drew.cell? ⟨g, 5, none⟩ = some (.int .i64 t) := box_keep h (Below.refl _ _).drew
theorem box_below {w0 w : World} {g : Nat} {k o d s i t : Int}
    (h : Below w0.heap.size w0 w ∧ g < w.heap.size ∧ w.cell? ⟨g, 0, none⟩ = some (.int .i64 k) ∧ w.cell? ⟨g, 1, none⟩ = some (.int .i64 o) ∧ w.cell? ⟨g, 2, none⟩ = some (.int .i64 d) ∧ w.cell? ⟨g, 3, none⟩ = some (.int .i64 s) ∧ w.cell? ⟨g, 4, none⟩ = some (.int .i64 i) ∧ w.cell? ⟨g, 5, none⟩ = some (.int .i64 t)) : Below w0.heap.size w0 w := h.1
theorem box_new (w0 : World) (ty : TypeId) (k o d s i t : Int) :
    Below w0.heap.size w0 (w0.alloc (.cells #[.int .i64 k, .int .i64 o, .int .i64 d, .int .i64 s, .int .i64 i, .int .i64 t] ty)) ∧ w0.heap.size < (w0.alloc (.cells #[.int .i64 k, .int .i64 o, .int .i64 d, .int .i64 s, .int .i64 i, .int .i64 t] ty)).heap.size ∧ (w0.alloc (.cells #[.int .i64 k, .int .i64 o, .int .i64 d, .int .i64 s, .int .i64 i, .int .i64 t] ty)).cell? ⟨w0.heap.size, 0, none⟩ = some (.int .i64 k) ∧ (w0.alloc (.cells #[.int .i64 k, .int .i64 o, .int .i64 d, .int .i64 s, .int .i64 i, .int .i64 t] ty)).cell? ⟨w0.heap.size, 1, none⟩ = some (.int .i64 o) ∧ (w0.alloc (.cells #[.int .i64 k, .int .i64 o, .int .i64 d, .int .i64 s, .int .i64 i, .int .i64 t] ty)).cell? ⟨w0.heap.size, 2, none⟩ = some (.int .i64 d) ∧ (w0.alloc (.cells #[.int .i64 k, .int .i64 o, .int .i64 d, .int .i64 s, .int .i64 i, .int .i64 t] ty)).cell? ⟨w0.heap.size, 3, none⟩ = some (.int .i64 s) ∧ (w0.alloc (.cells #[.int .i64 k, .int .i64 o, .int .i64 d, .int .i64 s, .int .i64 i, .int .i64 t] ty)).cell? ⟨w0.heap.size, 4, none⟩ = some (.int .i64 i) ∧ (w0.alloc (.cells #[.int .i64 k, .int .i64 o, .int .i64 d, .int .i64 s, .int .i64 i, .int .i64 t] ty)).cell? ⟨w0.heap.size, 5, none⟩ = some (.int .i64 t) := by
  refine ⟨below1 _ _, ?_, ?_, ?_, ?_, ?_, ?_, ?_⟩ <;> simp

/-- two steps compared -/
theorem neq_step (k o d s i t k2 o2 d2 s2 i2 t2 : Int) (w : World) :
    (binOp .neq 67 (.agg #[.int .i64 k, .int .i64 o, .int .i64 d, .int .i64 s, .int .i64 i, .int .i64 t]) (.agg #[.int .i64 k2, .int .i64 o2, .int .i64 d2, .int .i64 s2, .int .i64 i2, .int .i64 t2])).run Tryd.prog w = .ok (.bool (!(k == k2 && o == o2 && d == d2 && s == s2 && i == i2 && t == t2))) w := by
  cases h1 : (k == k2)
  · go_simp
  · cases h2 : (o == o2)
    · go_simp
    · cases h3 : (d == d2)
      · go_simp
      · cases h4 : (s == s2)
        · go_simp
        · cases h5 : (i == i2)
          · go_simp
          · cases h6 : (t == t2)
            · go_simp
            · go_simp
theorem me_op (v : Value) (w : World) : (method 248 116 v "loop.example/g00605/impl.step").run Tryd.prog w = .ok (102, v) w := by kernel_rfl
theorem me_opi (v : Value) (w : World) : (method 248 118 v "loop.example/g00605/impl.step").run Tryd.prog w = .ok (103, v) w := by kernel_rfl
theorem me_byte (v : Value) (w : World) : (method 248 120 v "loop.example/g00605/impl.step").run Tryd.prog w = .ok (104, v) w := by kernel_rfl
theorem me_wide (v : Value) (w : World) : (method 248 122 v "loop.example/g00605/impl.step").run Tryd.prog w = .ok (105, v) w := by kernel_rfl
theorem me_ctx (v : Value) (w : World) : (method 248 124 v "loop.example/g00605/impl.step").run Tryd.prog w = .ok (106, v) w := by kernel_rfl
theorem me_jump (v : Value) (w : World) : (method 248 102 v "loop.example/g00605/impl.step").run Tryd.prog w = .ok (99, v) w := by kernel_rfl
theorem me_branch (v : Value) (w : World) : (method 248 104 v "loop.example/g00605/impl.step").run Tryd.prog w = .ok (100, v) w := by kernel_rfl
theorem me_exit (v : Value) (w : World) : (method 248 106 v "loop.example/g00605/impl.step").run Tryd.prog w = .ok (101, v) w := by kernel_rfl

set_option maxRecDepth 100000 in
set_option maxHeartbeats 2000000 in
theorem fo_op_y (o d s i t : Int) (w : World) (hf : (inB 1 10 o && inB 0 5 d && inB 0 5 s) = true)
    (hq : ∀ w, (binOp .neq 67 (.agg #[.int .i64 1, .int .i64 o, .int .i64 d, .int .i64 s, .int .i64 0, .int .i64 0]) (.agg #[.int .i64 1, .int .i64 o, .int .i64 d, .int .i64 s, .int .i64 i, .int .i64 t])).run Tryd.prog w = .ok (.bool false) w) :
    Calls Tryd.prog 54 #[.agg #[.int .i64 1, .int .i64 o, .int .i64 d, .int .i64 s, .int .i64 i, .int .i64 t]] w fun e w' => e = .returned (.tuple #[.iface 116 (.agg #[.int .i64 o, .int .i64 d, .int .i64 s]), .bool true]) ∧ Below w.heap.size w w' := by
  go_enter Tryd.func54, Tryd.ntmps54
  go_wp2_with fail
  refine (fbk1 _ _ _ _ _ _).mono ?_
  rintro e w1 ⟨rfl, hb1⟩
  have H1 := Lib.hid (box_keep (box_new w 67 1 o d s i t) hb1)
  clear hb1
  have z1 := H1.out.2.1
  go_wp2_with fail
  have HS := H1.out
  have hm := me_op
  go_region_held3 (fun w' => Below w.heap.size w w' ∧ w.heap.size < w'.heap.size ∧ w'.cell? ⟨w.heap.size, 0, none⟩ = some (.int .i64 1) ∧ w'.cell? ⟨w.heap.size, 1, none⟩ = some (.int .i64 o) ∧ w'.cell? ⟨w.heap.size, 2, none⟩ = some (.int .i64 d) ∧ w'.cell? ⟨w.heap.size, 3, none⟩ = some (.int .i64 s) ∧ w'.cell? ⟨w.heap.size, 4, none⟩ = some (.int .i64 i) ∧ w'.cell? ⟨w.heap.size, 5, none⟩ = some (.int .i64 t)) (first | exact H1.out | assumption | (refine box_drew ?_; assumption))
      (first | (go_at_call 64; refine (fits_op _ _ _ _).mono ?_; rintro e w2 ⟨rfl, hb2⟩; have hS2 := box_keep (h := by assumption) (hb := hb2)) | (go_at_call 102; refine (opStep_any _ _ _ _).mono ?_; rintro e w3 ⟨rfl, hb3⟩; have hS3 := box_keep (h := by assumption) (hb := hb3)))
  go_wp2
  go_ret2
  refine ⟨rfl, box_below (g := w.heap.size) (k := 1) (o := o) (d := d) (s := s) (i := i) (t := t) ?_⟩
  assumption

set_option maxRecDepth 100000 in
set_option maxHeartbeats 2000000 in
theorem fo_op_n (o d s i t : Int) (w : World) (hf : (inB 1 10 o && inB 0 5 d && inB 0 5 s) = true)
    (hq : ∀ w, (binOp .neq 67 (.agg #[.int .i64 1, .int .i64 o, .int .i64 d, .int .i64 s, .int .i64 0, .int .i64 0]) (.agg #[.int .i64 1, .int .i64 o, .int .i64 d, .int .i64 s, .int .i64 i, .int .i64 t])).run Tryd.prog w = .ok (.bool true) w) :
    Calls Tryd.prog 54 #[.agg #[.int .i64 1, .int .i64 o, .int .i64 d, .int .i64 s, .int .i64 i, .int .i64 t]] w fun e w' => e = .returned (.tuple #[.nilIface, .bool false]) ∧ Below w.heap.size w w' := by
  go_enter Tryd.func54, Tryd.ntmps54
  go_wp2_with fail
  refine (fbk1 _ _ _ _ _ _).mono ?_
  rintro e w1 ⟨rfl, hb1⟩
  have H1 := Lib.hid (box_keep (box_new w 67 1 o d s i t) hb1)
  clear hb1
  have z1 := H1.out.2.1
  go_wp2_with fail
  have HS := H1.out
  have hm := me_op
  go_region_held3 (fun w' => Below w.heap.size w w' ∧ w.heap.size < w'.heap.size ∧ w'.cell? ⟨w.heap.size, 0, none⟩ = some (.int .i64 1) ∧ w'.cell? ⟨w.heap.size, 1, none⟩ = some (.int .i64 o) ∧ w'.cell? ⟨w.heap.size, 2, none⟩ = some (.int .i64 d) ∧ w'.cell? ⟨w.heap.size, 3, none⟩ = some (.int .i64 s) ∧ w'.cell? ⟨w.heap.size, 4, none⟩ = some (.int .i64 i) ∧ w'.cell? ⟨w.heap.size, 5, none⟩ = some (.int .i64 t)) (first | exact H1.out | assumption | (refine box_drew ?_; assumption))
      (first | (go_at_call 64; refine (fits_op _ _ _ _).mono ?_; rintro e w2 ⟨rfl, hb2⟩; have hS2 := box_keep (h := by assumption) (hb := hb2)) | (go_at_call 102; refine (opStep_any _ _ _ _).mono ?_; rintro e w3 ⟨rfl, hb3⟩; have hS3 := box_keep (h := by assumption) (hb := hb3)))
  go_wp2
  go_ret2
  refine ⟨rfl, box_below (g := w.heap.size) (k := 1) (o := o) (d := d) (s := s) (i := i) (t := t) ?_⟩
  assumption

set_option maxRecDepth 100000 in
set_option maxHeartbeats 2000000 in
theorem fo_op_f (o d s i t : Int) (w : World) (hf : (inB 1 10 o && inB 0 5 d && inB 0 5 s) = false) :
    Calls Tryd.prog 54 #[.agg #[.int .i64 1, .int .i64 o, .int .i64 d, .int .i64 s, .int .i64 i, .int .i64 t]] w fun e w' => e = .returned (.tuple #[.nilIface, .bool false]) ∧ Below w.heap.size w w' := by
  go_enter Tryd.func54, Tryd.ntmps54
  go_wp2_with fail
  refine (fbk1 _ _ _ _ _ _).mono ?_
  rintro e w1 ⟨rfl, hb1⟩
  have H1 := Lib.hid (box_keep (box_new w 67 1 o d s i t) hb1)
  clear hb1
  have z1 := H1.out.2.1
  go_wp2_with fail
  have HS := H1.out
  have hm := me_op
  first | (go_region_with ((go_at_call 64; refine (fits_op _ _ _ _).mono ?_; rintro e w2 ⟨rfl, hb2⟩; have hS2 := box_keep (box_drew H1.out) hb2))) | fail
  all_goals
    go_wp2
    go_ret2
    refine ⟨rfl, box_below (g := w.heap.size) (k := 1) (o := o) (d := d) (s := s) (i := i) (t := t) ?_⟩
    assumption

set_option maxRecDepth 100000 in
set_option maxHeartbeats 2000000 in
theorem fo_opi_y (o d s i t : Int) (w : World) (hf : (inB 1 10 o && inB 0 5 d && inB 0 255 i) = true)
    (hq : ∀ w, (binOp .neq 67 (.agg #[.int .i64 2, .int .i64 o, .int .i64 d, .int .i64 0, .int .i64 i, .int .i64 0]) (.agg #[.int .i64 2, .int .i64 o, .int .i64 d, .int .i64 s, .int .i64 i, .int .i64 t])).run Tryd.prog w = .ok (.bool false) w) :
    Calls Tryd.prog 54 #[.agg #[.int .i64 2, .int .i64 o, .int .i64 d, .int .i64 s, .int .i64 i, .int .i64 t]] w fun e w' => e = .returned (.tuple #[.iface 118 (.agg #[.int .i64 o, .int .i64 d, .int .i64 i]), .bool true]) ∧ Below w.heap.size w w' := by
  go_enter Tryd.func54, Tryd.ntmps54
  go_wp2_with fail
  refine (fbk2 _ _ _ _ _ _).mono ?_
  rintro e w1 ⟨rfl, hb1⟩
  have H1 := Lib.hid (box_keep (box_new w 67 2 o d s i t) hb1)
  clear hb1
  have z1 := H1.out.2.1
  go_wp2_with fail
  have HS := H1.out
  have hm := me_opi
  go_region_held3 (fun w' => Below w.heap.size w w' ∧ w.heap.size < w'.heap.size ∧ w'.cell? ⟨w.heap.size, 0, none⟩ = some (.int .i64 2) ∧ w'.cell? ⟨w.heap.size, 1, none⟩ = some (.int .i64 o) ∧ w'.cell? ⟨w.heap.size, 2, none⟩ = some (.int .i64 d) ∧ w'.cell? ⟨w.heap.size, 3, none⟩ = some (.int .i64 s) ∧ w'.cell? ⟨w.heap.size, 4, none⟩ = some (.int .i64 i) ∧ w'.cell? ⟨w.heap.size, 5, none⟩ = some (.int .i64 t)) (first | exact H1.out | assumption | (refine box_drew ?_; assumption))
      (first | (go_at_call 64; refine (fits_opi _ _ _ _).mono ?_; rintro e w2 ⟨rfl, hb2⟩; have hS2 := box_keep (h := by assumption) (hb := hb2)) | (go_at_call 103; refine (opiStep_any _ _ _ _).mono ?_; rintro e w3 ⟨rfl, hb3⟩; have hS3 := box_keep (h := by assumption) (hb := hb3)))
  go_wp2
  go_ret2
  refine ⟨rfl, box_below (g := w.heap.size) (k := 2) (o := o) (d := d) (s := s) (i := i) (t := t) ?_⟩
  assumption

set_option maxRecDepth 100000 in
set_option maxHeartbeats 2000000 in
theorem fo_opi_n (o d s i t : Int) (w : World) (hf : (inB 1 10 o && inB 0 5 d && inB 0 255 i) = true)
    (hq : ∀ w, (binOp .neq 67 (.agg #[.int .i64 2, .int .i64 o, .int .i64 d, .int .i64 0, .int .i64 i, .int .i64 0]) (.agg #[.int .i64 2, .int .i64 o, .int .i64 d, .int .i64 s, .int .i64 i, .int .i64 t])).run Tryd.prog w = .ok (.bool true) w) :
    Calls Tryd.prog 54 #[.agg #[.int .i64 2, .int .i64 o, .int .i64 d, .int .i64 s, .int .i64 i, .int .i64 t]] w fun e w' => e = .returned (.tuple #[.nilIface, .bool false]) ∧ Below w.heap.size w w' := by
  go_enter Tryd.func54, Tryd.ntmps54
  go_wp2_with fail
  refine (fbk2 _ _ _ _ _ _).mono ?_
  rintro e w1 ⟨rfl, hb1⟩
  have H1 := Lib.hid (box_keep (box_new w 67 2 o d s i t) hb1)
  clear hb1
  have z1 := H1.out.2.1
  go_wp2_with fail
  have HS := H1.out
  have hm := me_opi
  go_region_held3 (fun w' => Below w.heap.size w w' ∧ w.heap.size < w'.heap.size ∧ w'.cell? ⟨w.heap.size, 0, none⟩ = some (.int .i64 2) ∧ w'.cell? ⟨w.heap.size, 1, none⟩ = some (.int .i64 o) ∧ w'.cell? ⟨w.heap.size, 2, none⟩ = some (.int .i64 d) ∧ w'.cell? ⟨w.heap.size, 3, none⟩ = some (.int .i64 s) ∧ w'.cell? ⟨w.heap.size, 4, none⟩ = some (.int .i64 i) ∧ w'.cell? ⟨w.heap.size, 5, none⟩ = some (.int .i64 t)) (first | exact H1.out | assumption | (refine box_drew ?_; assumption))
      (first | (go_at_call 64; refine (fits_opi _ _ _ _).mono ?_; rintro e w2 ⟨rfl, hb2⟩; have hS2 := box_keep (h := by assumption) (hb := hb2)) | (go_at_call 103; refine (opiStep_any _ _ _ _).mono ?_; rintro e w3 ⟨rfl, hb3⟩; have hS3 := box_keep (h := by assumption) (hb := hb3)))
  go_wp2
  go_ret2
  refine ⟨rfl, box_below (g := w.heap.size) (k := 2) (o := o) (d := d) (s := s) (i := i) (t := t) ?_⟩
  assumption

set_option maxRecDepth 100000 in
set_option maxHeartbeats 2000000 in
theorem fo_opi_f (o d s i t : Int) (w : World) (hf : (inB 1 10 o && inB 0 5 d && inB 0 255 i) = false) :
    Calls Tryd.prog 54 #[.agg #[.int .i64 2, .int .i64 o, .int .i64 d, .int .i64 s, .int .i64 i, .int .i64 t]] w fun e w' => e = .returned (.tuple #[.nilIface, .bool false]) ∧ Below w.heap.size w w' := by
  go_enter Tryd.func54, Tryd.ntmps54
  go_wp2_with fail
  refine (fbk2 _ _ _ _ _ _).mono ?_
  rintro e w1 ⟨rfl, hb1⟩
  have H1 := Lib.hid (box_keep (box_new w 67 2 o d s i t) hb1)
  clear hb1
  have z1 := H1.out.2.1
  go_wp2_with fail
  have HS := H1.out
  have hm := me_opi
  first | (go_region_with ((go_at_call 64; refine (fits_opi _ _ _ _).mono ?_; rintro e w2 ⟨rfl, hb2⟩; have hS2 := box_keep (box_drew H1.out) hb2))) | fail
  all_goals
    go_wp2
    go_ret2
    refine ⟨rfl, box_below (g := w.heap.size) (k := 2) (o := o) (d := d) (s := s) (i := i) (t := t) ?_⟩
    assumption

set_option maxRecDepth 100000 in
set_option maxHeartbeats 2000000 in
theorem fo_byte_y (k o d s i t : Int) (w : World) (hk : Hid (∀ w, Calls Tryd.prog 63 #[.agg #[.int .i64 k, .int .i64 o, .int .i64 d, .int .i64 s, .int .i64 i, .int .i64 t]] w fun e w' => e = .returned (.tuple #[.iface 120 (.agg #[.int .i64 k, .int .i64 d, .int .i64 i]), .bool true]) ∧ Below w.heap.size w w')) (hf : (inB 0 5 d && inB 0 255 i) = true)
    (hq : ∀ w, (binOp .neq 67 (.agg #[.int .i64 k, .int .i64 0, .int .i64 d, .int .i64 0, .int .i64 i, .int .i64 0]) (.agg #[.int .i64 k, .int .i64 o, .int .i64 d, .int .i64 s, .int .i64 i, .int .i64 t])).run Tryd.prog w = .ok (.bool false) w) :
    Calls Tryd.prog 54 #[.agg #[.int .i64 k, .int .i64 o, .int .i64 d, .int .i64 s, .int .i64 i, .int .i64 t]] w fun e w' => e = .returned (.tuple #[.iface 120 (.agg #[.int .i64 k, .int .i64 d, .int .i64 i]), .bool true]) ∧ Below w.heap.size w w' := by
  go_enter Tryd.func54, Tryd.ntmps54
  go_wp2_with fail
  refine (hk.out _).mono ?_
  rintro e w1 ⟨rfl, hb1⟩
  have H1 := Lib.hid (box_keep (box_new w 67 k o d s i t) hb1)
  clear hb1
  have z1 := H1.out.2.1
  go_wp2_with fail
  have HS := H1.out
  have hm := me_byte
  go_region_held3 (fun w' => Below w.heap.size w w' ∧ w.heap.size < w'.heap.size ∧ w'.cell? ⟨w.heap.size, 0, none⟩ = some (.int .i64 k) ∧ w'.cell? ⟨w.heap.size, 1, none⟩ = some (.int .i64 o) ∧ w'.cell? ⟨w.heap.size, 2, none⟩ = some (.int .i64 d) ∧ w'.cell? ⟨w.heap.size, 3, none⟩ = some (.int .i64 s) ∧ w'.cell? ⟨w.heap.size, 4, none⟩ = some (.int .i64 i) ∧ w'.cell? ⟨w.heap.size, 5, none⟩ = some (.int .i64 t)) (first | exact H1.out | assumption | (refine box_drew ?_; assumption))
      (first | (go_at_call 64; refine (fits_byte _ _ _ _).mono ?_; rintro e w2 ⟨rfl, hb2⟩; have hS2 := box_keep (h := by assumption) (hb := hb2)) | (go_at_call 104; refine (byteStep_any _ _ _ _).mono ?_; rintro e w3 ⟨rfl, hb3⟩; have hS3 := box_keep (h := by assumption) (hb := hb3)))
  go_wp2
  go_ret2
  refine ⟨rfl, box_below (g := w.heap.size) (k := k) (o := o) (d := d) (s := s) (i := i) (t := t) ?_⟩
  assumption

set_option maxRecDepth 100000 in
set_option maxHeartbeats 2000000 in
theorem fo_byte_n (k o d s i t : Int) (w : World) (hk : Hid (∀ w, Calls Tryd.prog 63 #[.agg #[.int .i64 k, .int .i64 o, .int .i64 d, .int .i64 s, .int .i64 i, .int .i64 t]] w fun e w' => e = .returned (.tuple #[.iface 120 (.agg #[.int .i64 k, .int .i64 d, .int .i64 i]), .bool true]) ∧ Below w.heap.size w w')) (hf : (inB 0 5 d && inB 0 255 i) = true)
    (hq : ∀ w, (binOp .neq 67 (.agg #[.int .i64 k, .int .i64 0, .int .i64 d, .int .i64 0, .int .i64 i, .int .i64 0]) (.agg #[.int .i64 k, .int .i64 o, .int .i64 d, .int .i64 s, .int .i64 i, .int .i64 t])).run Tryd.prog w = .ok (.bool true) w) :
    Calls Tryd.prog 54 #[.agg #[.int .i64 k, .int .i64 o, .int .i64 d, .int .i64 s, .int .i64 i, .int .i64 t]] w fun e w' => e = .returned (.tuple #[.nilIface, .bool false]) ∧ Below w.heap.size w w' := by
  go_enter Tryd.func54, Tryd.ntmps54
  go_wp2_with fail
  refine (hk.out _).mono ?_
  rintro e w1 ⟨rfl, hb1⟩
  have H1 := Lib.hid (box_keep (box_new w 67 k o d s i t) hb1)
  clear hb1
  have z1 := H1.out.2.1
  go_wp2_with fail
  have HS := H1.out
  have hm := me_byte
  go_region_held3 (fun w' => Below w.heap.size w w' ∧ w.heap.size < w'.heap.size ∧ w'.cell? ⟨w.heap.size, 0, none⟩ = some (.int .i64 k) ∧ w'.cell? ⟨w.heap.size, 1, none⟩ = some (.int .i64 o) ∧ w'.cell? ⟨w.heap.size, 2, none⟩ = some (.int .i64 d) ∧ w'.cell? ⟨w.heap.size, 3, none⟩ = some (.int .i64 s) ∧ w'.cell? ⟨w.heap.size, 4, none⟩ = some (.int .i64 i) ∧ w'.cell? ⟨w.heap.size, 5, none⟩ = some (.int .i64 t)) (first | exact H1.out | assumption | (refine box_drew ?_; assumption))
      (first | (go_at_call 64; refine (fits_byte _ _ _ _).mono ?_; rintro e w2 ⟨rfl, hb2⟩; have hS2 := box_keep (h := by assumption) (hb := hb2)) | (go_at_call 104; refine (byteStep_any _ _ _ _).mono ?_; rintro e w3 ⟨rfl, hb3⟩; have hS3 := box_keep (h := by assumption) (hb := hb3)))
  go_wp2
  go_ret2
  refine ⟨rfl, box_below (g := w.heap.size) (k := k) (o := o) (d := d) (s := s) (i := i) (t := t) ?_⟩
  assumption

set_option maxRecDepth 100000 in
set_option maxHeartbeats 2000000 in
theorem fo_byte_f (k o d s i t : Int) (w : World) (hk : Hid (∀ w, Calls Tryd.prog 63 #[.agg #[.int .i64 k, .int .i64 o, .int .i64 d, .int .i64 s, .int .i64 i, .int .i64 t]] w fun e w' => e = .returned (.tuple #[.iface 120 (.agg #[.int .i64 k, .int .i64 d, .int .i64 i]), .bool true]) ∧ Below w.heap.size w w')) (hf : (inB 0 5 d && inB 0 255 i) = false) :
    Calls Tryd.prog 54 #[.agg #[.int .i64 k, .int .i64 o, .int .i64 d, .int .i64 s, .int .i64 i, .int .i64 t]] w fun e w' => e = .returned (.tuple #[.nilIface, .bool false]) ∧ Below w.heap.size w w' := by
  go_enter Tryd.func54, Tryd.ntmps54
  go_wp2_with fail
  refine (hk.out _).mono ?_
  rintro e w1 ⟨rfl, hb1⟩
  have H1 := Lib.hid (box_keep (box_new w 67 k o d s i t) hb1)
  clear hb1
  have z1 := H1.out.2.1
  go_wp2_with fail
  have HS := H1.out
  have hm := me_byte
  first | (go_region_with ((go_at_call 64; refine (fits_byte _ _ _ _).mono ?_; rintro e w2 ⟨rfl, hb2⟩; have hS2 := box_keep (box_drew H1.out) hb2))) | fail
  all_goals
    go_wp2
    go_ret2
    refine ⟨rfl, box_below (g := w.heap.size) (k := k) (o := o) (d := d) (s := s) (i := i) (t := t) ?_⟩
    assumption

set_option maxRecDepth 100000 in
set_option maxHeartbeats 2000000 in
theorem fo_wide_y (o d s i t : Int) (w : World) (hf : (inB 0 5 d && inB 0 65535 i && !inB 0 255 i) = true)
    (hq : ∀ w, (binOp .neq 67 (.agg #[.int .i64 4, .int .i64 0, .int .i64 d, .int .i64 0, .int .i64 i, .int .i64 0]) (.agg #[.int .i64 4, .int .i64 o, .int .i64 d, .int .i64 s, .int .i64 i, .int .i64 t])).run Tryd.prog w = .ok (.bool false) w) :
    Calls Tryd.prog 54 #[.agg #[.int .i64 4, .int .i64 o, .int .i64 d, .int .i64 s, .int .i64 i, .int .i64 t]] w fun e w' => e = .returned (.tuple #[.iface 122 (.agg #[.int .i64 d, .int .i64 i]), .bool true]) ∧ Below w.heap.size w w' := by
  go_enter Tryd.func54, Tryd.ntmps54
  go_wp2_with fail
  refine (fbk4 _ _ _ _ _ _).mono ?_
  rintro e w1 ⟨rfl, hb1⟩
  have H1 := Lib.hid (box_keep (box_new w 67 4 o d s i t) hb1)
  clear hb1
  have z1 := H1.out.2.1
  go_wp2_with fail
  have HS := H1.out
  have hm := me_wide
  go_region_held3 (fun w' => Below w.heap.size w w' ∧ w.heap.size < w'.heap.size ∧ w'.cell? ⟨w.heap.size, 0, none⟩ = some (.int .i64 4) ∧ w'.cell? ⟨w.heap.size, 1, none⟩ = some (.int .i64 o) ∧ w'.cell? ⟨w.heap.size, 2, none⟩ = some (.int .i64 d) ∧ w'.cell? ⟨w.heap.size, 3, none⟩ = some (.int .i64 s) ∧ w'.cell? ⟨w.heap.size, 4, none⟩ = some (.int .i64 i) ∧ w'.cell? ⟨w.heap.size, 5, none⟩ = some (.int .i64 t)) (first | exact H1.out | assumption | (refine box_drew ?_; assumption))
      (first | (go_at_call 64; refine (fits_wide _ _ _).mono ?_; rintro e w2 ⟨rfl, hb2⟩; have hS2 := box_keep (h := by assumption) (hb := hb2)) | (go_at_call 105; refine (wideStep_any _ _ _).mono ?_; rintro e w3 ⟨rfl, hb3⟩; have hS3 := box_keep (h := by assumption) (hb := hb3)))
  go_wp2
  go_ret2
  refine ⟨rfl, box_below (g := w.heap.size) (k := 4) (o := o) (d := d) (s := s) (i := i) (t := t) ?_⟩
  assumption

set_option maxRecDepth 100000 in
set_option maxHeartbeats 2000000 in
theorem fo_wide_n (o d s i t : Int) (w : World) (hf : (inB 0 5 d && inB 0 65535 i && !inB 0 255 i) = true)
    (hq : ∀ w, (binOp .neq 67 (.agg #[.int .i64 4, .int .i64 0, .int .i64 d, .int .i64 0, .int .i64 i, .int .i64 0]) (.agg #[.int .i64 4, .int .i64 o, .int .i64 d, .int .i64 s, .int .i64 i, .int .i64 t])).run Tryd.prog w = .ok (.bool true) w) :
    Calls Tryd.prog 54 #[.agg #[.int .i64 4, .int .i64 o, .int .i64 d, .int .i64 s, .int .i64 i, .int .i64 t]] w fun e w' => e = .returned (.tuple #[.nilIface, .bool false]) ∧ Below w.heap.size w w' := by
  go_enter Tryd.func54, Tryd.ntmps54
  go_wp2_with fail
  refine (fbk4 _ _ _ _ _ _).mono ?_
  rintro e w1 ⟨rfl, hb1⟩
  have H1 := Lib.hid (box_keep (box_new w 67 4 o d s i t) hb1)
  clear hb1
  have z1 := H1.out.2.1
  go_wp2_with fail
  have HS := H1.out
  have hm := me_wide
  go_region_held3 (fun w' => Below w.heap.size w w' ∧ w.heap.size < w'.heap.size ∧ w'.cell? ⟨w.heap.size, 0, none⟩ = some (.int .i64 4) ∧ w'.cell? ⟨w.heap.size, 1, none⟩ = some (.int .i64 o) ∧ w'.cell? ⟨w.heap.size, 2, none⟩ = some (.int .i64 d) ∧ w'.cell? ⟨w.heap.size, 3, none⟩ = some (.int .i64 s) ∧ w'.cell? ⟨w.heap.size, 4, none⟩ = some (.int .i64 i) ∧ w'.cell? ⟨w.heap.size, 5, none⟩ = some (.int .i64 t)) (first | exact H1.out | assumption | (refine box_drew ?_; assumption))
      (first | (go_at_call 64; refine (fits_wide _ _ _).mono ?_; rintro e w2 ⟨rfl, hb2⟩; have hS2 := box_keep (h := by assumption) (hb := hb2)) | (go_at_call 105; refine (wideStep_any _ _ _).mono ?_; rintro e w3 ⟨rfl, hb3⟩; have hS3 := box_keep (h := by assumption) (hb := hb3)))
  go_wp2
  go_ret2
  refine ⟨rfl, box_below (g := w.heap.size) (k := 4) (o := o) (d := d) (s := s) (i := i) (t := t) ?_⟩
  assumption

set_option maxRecDepth 100000 in
set_option maxHeartbeats 2000000 in
theorem fo_wide_f (o d s i t : Int) (w : World) (hf : (inB 0 5 d && inB 0 65535 i && !inB 0 255 i) = false) :
    Calls Tryd.prog 54 #[.agg #[.int .i64 4, .int .i64 o, .int .i64 d, .int .i64 s, .int .i64 i, .int .i64 t]] w fun e w' => e = .returned (.tuple #[.nilIface, .bool false]) ∧ Below w.heap.size w w' := by
  go_enter Tryd.func54, Tryd.ntmps54
  go_wp2_with fail
  refine (fbk4 _ _ _ _ _ _).mono ?_
  rintro e w1 ⟨rfl, hb1⟩
  have H1 := Lib.hid (box_keep (box_new w 67 4 o d s i t) hb1)
  clear hb1
  have z1 := H1.out.2.1
  go_wp2_with fail
  have HS := H1.out
  have hm := me_wide
  first | (go_region_with ((go_at_call 64; refine (fits_wide _ _ _).mono ?_; rintro e w2 ⟨rfl, hb2⟩; have hS2 := box_keep (box_drew H1.out) hb2))) | fail
  all_goals
    go_wp2
    go_ret2
    refine ⟨rfl, box_below (g := w.heap.size) (k := 4) (o := o) (d := d) (s := s) (i := i) (t := t) ?_⟩
    assumption

set_option maxRecDepth 100000 in
set_option maxHeartbeats 2000000 in
theorem fo_ctx_y (o d s i t : Int) (w : World) (hf : (inB 0 5 d && inB 0 5 s && inB 0 7 i) = true)
    (hq : ∀ w, (binOp .neq 67 (.agg #[.int .i64 5, .int .i64 0, .int .i64 d, .int .i64 s, .int .i64 i, .int .i64 0]) (.agg #[.int .i64 5, .int .i64 o, .int .i64 d, .int .i64 s, .int .i64 i, .int .i64 t])).run Tryd.prog w = .ok (.bool false) w) :
    Calls Tryd.prog 54 #[.agg #[.int .i64 5, .int .i64 o, .int .i64 d, .int .i64 s, .int .i64 i, .int .i64 t]] w fun e w' => e = .returned (.tuple #[.iface 124 (.agg #[.int .i64 d, .int .i64 s, .int .i64 i]), .bool true]) ∧ Below w.heap.size w w' := by
  go_enter Tryd.func54, Tryd.ntmps54
  go_wp2_with fail
  refine (fbk5 _ _ _ _ _ _).mono ?_
  rintro e w1 ⟨rfl, hb1⟩
  have H1 := Lib.hid (box_keep (box_new w 67 5 o d s i t) hb1)
  clear hb1
  have z1 := H1.out.2.1
  go_wp2_with fail
  have HS := H1.out
  have hm := me_ctx
  go_region_held3 (fun w' => Below w.heap.size w w' ∧ w.heap.size < w'.heap.size ∧ w'.cell? ⟨w.heap.size, 0, none⟩ = some (.int .i64 5) ∧ w'.cell? ⟨w.heap.size, 1, none⟩ = some (.int .i64 o) ∧ w'.cell? ⟨w.heap.size, 2, none⟩ = some (.int .i64 d) ∧ w'.cell? ⟨w.heap.size, 3, none⟩ = some (.int .i64 s) ∧ w'.cell? ⟨w.heap.size, 4, none⟩ = some (.int .i64 i) ∧ w'.cell? ⟨w.heap.size, 5, none⟩ = some (.int .i64 t)) (first | exact H1.out | assumption | (refine box_drew ?_; assumption))
      (first | (go_at_call 64; refine (fits_ctx _ _ _ _).mono ?_; rintro e w2 ⟨rfl, hb2⟩; have hS2 := box_keep (h := by assumption) (hb := hb2)) | (go_at_call 106; refine (ctxStep_any _ _ _ _).mono ?_; rintro e w3 ⟨rfl, hb3⟩; have hS3 := box_keep (h := by assumption) (hb := hb3)))
  go_wp2
  go_ret2
  refine ⟨rfl, box_below (g := w.heap.size) (k := 5) (o := o) (d := d) (s := s) (i := i) (t := t) ?_⟩
  assumption

set_option maxRecDepth 100000 in
set_option maxHeartbeats 2000000 in
theorem fo_ctx_n (o d s i t : Int) (w : World) (hf : (inB 0 5 d && inB 0 5 s && inB 0 7 i) = true)
    (hq : ∀ w, (binOp .neq 67 (.agg #[.int .i64 5, .int .i64 0, .int .i64 d, .int .i64 s, .int .i64 i, .int .i64 0]) (.agg #[.int .i64 5, .int .i64 o, .int .i64 d, .int .i64 s, .int .i64 i, .int .i64 t])).run Tryd.prog w = .ok (.bool true) w) :
    Calls Tryd.prog 54 #[.agg #[.int .i64 5, .int .i64 o, .int .i64 d, .int .i64 s, .int .i64 i, .int .i64 t]] w fun e w' => e = .returned (.tuple #[.nilIface, .bool false]) ∧ Below w.heap.size w w' := by
  go_enter Tryd.func54, Tryd.ntmps54
  go_wp2_with fail
  refine (fbk5 _ _ _ _ _ _).mono ?_
  rintro e w1 ⟨rfl, hb1⟩
  have H1 := Lib.hid (box_keep (box_new w 67 5 o d s i t) hb1)
  clear hb1
  have z1 := H1.out.2.1
  go_wp2_with fail
  have HS := H1.out
  have hm := me_ctx
  go_region_held3 (fun w' => Below w.heap.size w w' ∧ w.heap.size < w'.heap.size ∧ w'.cell? ⟨w.heap.size, 0, none⟩ = some (.int .i64 5) ∧ w'.cell? ⟨w.heap.size, 1, none⟩ = some (.int .i64 o) ∧ w'.cell? ⟨w.heap.size, 2, none⟩ = some (.int .i64 d) ∧ w'.cell? ⟨w.heap.size, 3, none⟩ = some (.int .i64 s) ∧ w'.cell? ⟨w.heap.size, 4, none⟩ = some (.int .i64 i) ∧ w'.cell? ⟨w.heap.size, 5, none⟩ = some (.int .i64 t)) (first | exact H1.out | assumption | (refine box_drew ?_; assumption))
      (first | (go_at_call 64; refine (fits_ctx _ _ _ _).mono ?_; rintro e w2 ⟨rfl, hb2⟩; have hS2 := box_keep (h := by assumption) (hb := hb2)) | (go_at_call 106; refine (ctxStep_any _ _ _ _).mono ?_; rintro e w3 ⟨rfl, hb3⟩; have hS3 := box_keep (h := by assumption) (hb := hb3)))
  go_wp2
  go_ret2
  refine ⟨rfl, box_below (g := w.heap.size) (k := 5) (o := o) (d := d) (s := s) (i := i) (t := t) ?_⟩
  assumption

set_option maxRecDepth 100000 in
set_option maxHeartbeats 2000000 in
theorem fo_ctx_f (o d s i t : Int) (w : World) (hf : (inB 0 5 d && inB 0 5 s && inB 0 7 i) = false) :
    Calls Tryd.prog 54 #[.agg #[.int .i64 5, .int .i64 o, .int .i64 d, .int .i64 s, .int .i64 i, .int .i64 t]] w fun e w' => e = .returned (.tuple #[.nilIface, .bool false]) ∧ Below w.heap.size w w' := by
  go_enter Tryd.func54, Tryd.ntmps54
  go_wp2_with fail
  refine (fbk5 _ _ _ _ _ _).mono ?_
  rintro e w1 ⟨rfl, hb1⟩
  have H1 := Lib.hid (box_keep (box_new w 67 5 o d s i t) hb1)
  clear hb1
  have z1 := H1.out.2.1
  go_wp2_with fail
  have HS := H1.out
  have hm := me_ctx
  first | (go_region_with ((go_at_call 64; refine (fits_ctx _ _ _ _).mono ?_; rintro e w2 ⟨rfl, hb2⟩; have hS2 := box_keep (box_drew H1.out) hb2))) | fail
  all_goals
    go_wp2
    go_ret2
    refine ⟨rfl, box_below (g := w.heap.size) (k := 5) (o := o) (d := d) (s := s) (i := i) (t := t) ?_⟩
    assumption

set_option maxRecDepth 100000 in
set_option maxHeartbeats 2000000 in
theorem fo_jump_y (o d s i t : Int) (w : World) (hf : (inB 1 19 t) = true)
    (hq : ∀ w, (binOp .neq 67 (.agg #[.int .i64 8, .int .i64 0, .int .i64 0, .int .i64 0, .int .i64 0, .int .i64 t]) (.agg #[.int .i64 8, .int .i64 o, .int .i64 d, .int .i64 s, .int .i64 i, .int .i64 t])).run Tryd.prog w = .ok (.bool false) w) :
    Calls Tryd.prog 54 #[.agg #[.int .i64 8, .int .i64 o, .int .i64 d, .int .i64 s, .int .i64 i, .int .i64 t]] w fun e w' => e = .returned (.tuple #[.iface 102 (.agg #[.int .i64 t]), .bool true]) ∧ Below w.heap.size w w' := by
  go_enter Tryd.func54, Tryd.ntmps54
  go_wp2_with fail
  refine (fbk8 _ _ _ _ _ _).mono ?_
  rintro e w1 ⟨rfl, hb1⟩
  have H1 := Lib.hid (box_keep (box_new w 67 8 o d s i t) hb1)
  clear hb1
  have z1 := H1.out.2.1
  go_wp2_with fail
  have HS := H1.out
  have hm := me_jump
  go_region_held3 (fun w' => Below w.heap.size w w' ∧ w.heap.size < w'.heap.size ∧ w'.cell? ⟨w.heap.size, 0, none⟩ = some (.int .i64 8) ∧ w'.cell? ⟨w.heap.size, 1, none⟩ = some (.int .i64 o) ∧ w'.cell? ⟨w.heap.size, 2, none⟩ = some (.int .i64 d) ∧ w'.cell? ⟨w.heap.size, 3, none⟩ = some (.int .i64 s) ∧ w'.cell? ⟨w.heap.size, 4, none⟩ = some (.int .i64 i) ∧ w'.cell? ⟨w.heap.size, 5, none⟩ = some (.int .i64 t)) (first | exact H1.out | assumption | (refine box_drew ?_; assumption))
      (first | (go_at_call 64; refine (fits_jump _ _).mono ?_; rintro e w2 ⟨rfl, hb2⟩; have hS2 := box_keep (h := by assumption) (hb := hb2)) | (go_at_call 99; refine (jumpStep_any _ _).mono ?_; rintro e w3 ⟨rfl, hb3⟩; have hS3 := box_keep (h := by assumption) (hb := hb3)))
  go_wp2
  go_ret2
  refine ⟨rfl, box_below (g := w.heap.size) (k := 8) (o := o) (d := d) (s := s) (i := i) (t := t) ?_⟩
  assumption

set_option maxRecDepth 100000 in
set_option maxHeartbeats 2000000 in
theorem fo_jump_n (o d s i t : Int) (w : World) (hf : (inB 1 19 t) = true)
    (hq : ∀ w, (binOp .neq 67 (.agg #[.int .i64 8, .int .i64 0, .int .i64 0, .int .i64 0, .int .i64 0, .int .i64 t]) (.agg #[.int .i64 8, .int .i64 o, .int .i64 d, .int .i64 s, .int .i64 i, .int .i64 t])).run Tryd.prog w = .ok (.bool true) w) :
    Calls Tryd.prog 54 #[.agg #[.int .i64 8, .int .i64 o, .int .i64 d, .int .i64 s, .int .i64 i, .int .i64 t]] w fun e w' => e = .returned (.tuple #[.nilIface, .bool false]) ∧ Below w.heap.size w w' := by
  go_enter Tryd.func54, Tryd.ntmps54
  go_wp2_with fail
  refine (fbk8 _ _ _ _ _ _).mono ?_
  rintro e w1 ⟨rfl, hb1⟩
  have H1 := Lib.hid (box_keep (box_new w 67 8 o d s i t) hb1)
  clear hb1
  have z1 := H1.out.2.1
  go_wp2_with fail
  have HS := H1.out
  have hm := me_jump
  go_region_held3 (fun w' => Below w.heap.size w w' ∧ w.heap.size < w'.heap.size ∧ w'.cell? ⟨w.heap.size, 0, none⟩ = some (.int .i64 8) ∧ w'.cell? ⟨w.heap.size, 1, none⟩ = some (.int .i64 o) ∧ w'.cell? ⟨w.heap.size, 2, none⟩ = some (.int .i64 d) ∧ w'.cell? ⟨w.heap.size, 3, none⟩ = some (.int .i64 s) ∧ w'.cell? ⟨w.heap.size, 4, none⟩ = some (.int .i64 i) ∧ w'.cell? ⟨w.heap.size, 5, none⟩ = some (.int .i64 t)) (first | exact H1.out | assumption | (refine box_drew ?_; assumption))
      (first | (go_at_call 64; refine (fits_jump _ _).mono ?_; rintro e w2 ⟨rfl, hb2⟩; have hS2 := box_keep (h := by assumption) (hb := hb2)) | (go_at_call 99; refine (jumpStep_any _ _).mono ?_; rintro e w3 ⟨rfl, hb3⟩; have hS3 := box_keep (h := by assumption) (hb := hb3)))
  go_wp2
  go_ret2
  refine ⟨rfl, box_below (g := w.heap.size) (k := 8) (o := o) (d := d) (s := s) (i := i) (t := t) ?_⟩
  assumption

set_option maxRecDepth 100000 in
set_option maxHeartbeats 2000000 in
theorem fo_jump_f (o d s i t : Int) (w : World) (hf : (inB 1 19 t) = false) :
    Calls Tryd.prog 54 #[.agg #[.int .i64 8, .int .i64 o, .int .i64 d, .int .i64 s, .int .i64 i, .int .i64 t]] w fun e w' => e = .returned (.tuple #[.nilIface, .bool false]) ∧ Below w.heap.size w w' := by
  go_enter Tryd.func54, Tryd.ntmps54
  go_wp2_with fail
  refine (fbk8 _ _ _ _ _ _).mono ?_
  rintro e w1 ⟨rfl, hb1⟩
  have H1 := Lib.hid (box_keep (box_new w 67 8 o d s i t) hb1)
  clear hb1
  have z1 := H1.out.2.1
  go_wp2_with fail
  have HS := H1.out
  have hm := me_jump
  first | (go_region_with ((go_at_call 64; refine (fits_jump _ _).mono ?_; rintro e w2 ⟨rfl, hb2⟩; have hS2 := box_keep (box_drew H1.out) hb2))) | fail
  all_goals
    go_wp2
    go_ret2
    refine ⟨rfl, box_below (g := w.heap.size) (k := 8) (o := o) (d := d) (s := s) (i := i) (t := t) ?_⟩
    assumption

set_option maxRecDepth 100000 in
set_option maxHeartbeats 2000000 in
theorem fo_branch_y (k o d s i t : Int) (w : World) (hk : Hid (∀ w, Calls Tryd.prog 63 #[.agg #[.int .i64 k, .int .i64 o, .int .i64 d, .int .i64 s, .int .i64 i, .int .i64 t]] w fun e w' => e = .returned (.tuple #[.iface 104 (.agg #[.int .i64 k, .int .i64 d, .int .i64 s, .int .i64 t]), .bool true]) ∧ Below w.heap.size w w')) (hf : (inB 0 5 d && inB 0 5 s && inB 1 19 t) = true)
    (hq : ∀ w, (binOp .neq 67 (.agg #[.int .i64 k, .int .i64 0, .int .i64 d, .int .i64 s, .int .i64 0, .int .i64 t]) (.agg #[.int .i64 k, .int .i64 o, .int .i64 d, .int .i64 s, .int .i64 i, .int .i64 t])).run Tryd.prog w = .ok (.bool false) w) :
    Calls Tryd.prog 54 #[.agg #[.int .i64 k, .int .i64 o, .int .i64 d, .int .i64 s, .int .i64 i, .int .i64 t]] w fun e w' => e = .returned (.tuple #[.iface 104 (.agg #[.int .i64 k, .int .i64 d, .int .i64 s, .int .i64 t]), .bool true]) ∧ Below w.heap.size w w' := by
  go_enter Tryd.func54, Tryd.ntmps54
  go_wp2_with fail
  refine (hk.out _).mono ?_
  rintro e w1 ⟨rfl, hb1⟩
  have H1 := Lib.hid (box_keep (box_new w 67 k o d s i t) hb1)
  clear hb1
  have z1 := H1.out.2.1
  go_wp2_with fail
  have HS := H1.out
  have hm := me_branch
  go_region_held3 (fun w' => Below w.heap.size w w' ∧ w.heap.size < w'.heap.size ∧ w'.cell? ⟨w.heap.size, 0, none⟩ = some (.int .i64 k) ∧ w'.cell? ⟨w.heap.size, 1, none⟩ = some (.int .i64 o) ∧ w'.cell? ⟨w.heap.size, 2, none⟩ = some (.int .i64 d) ∧ w'.cell? ⟨w.heap.size, 3, none⟩ = some (.int .i64 s) ∧ w'.cell? ⟨w.heap.size, 4, none⟩ = some (.int .i64 i) ∧ w'.cell? ⟨w.heap.size, 5, none⟩ = some (.int .i64 t)) (first | exact H1.out | assumption | (refine box_drew ?_; assumption))
      (first | (go_at_call 64; refine (fits_branch _ _ _ _ _).mono ?_; rintro e w2 ⟨rfl, hb2⟩; have hS2 := box_keep (h := by assumption) (hb := hb2)) | (go_at_call 100; refine (branchStep_any _ _ _ _ _).mono ?_; rintro e w3 ⟨rfl, hb3⟩; have hS3 := box_keep (h := by assumption) (hb := hb3)))
  go_wp2
  go_ret2
  refine ⟨rfl, box_below (g := w.heap.size) (k := k) (o := o) (d := d) (s := s) (i := i) (t := t) ?_⟩
  assumption

set_option maxRecDepth 100000 in
set_option maxHeartbeats 2000000 in
theorem fo_branch_n (k o d s i t : Int) (w : World) (hk : Hid (∀ w, Calls Tryd.prog 63 #[.agg #[.int .i64 k, .int .i64 o, .int .i64 d, .int .i64 s, .int .i64 i, .int .i64 t]] w fun e w' => e = .returned (.tuple #[.iface 104 (.agg #[.int .i64 k, .int .i64 d, .int .i64 s, .int .i64 t]), .bool true]) ∧ Below w.heap.size w w')) (hf : (inB 0 5 d && inB 0 5 s && inB 1 19 t) = true)
    (hq : ∀ w, (binOp .neq 67 (.agg #[.int .i64 k, .int .i64 0, .int .i64 d, .int .i64 s, .int .i64 0, .int .i64 t]) (.agg #[.int .i64 k, .int .i64 o, .int .i64 d, .int .i64 s, .int .i64 i, .int .i64 t])).run Tryd.prog w = .ok (.bool true) w) :
    Calls Tryd.prog 54 #[.agg #[.int .i64 k, .int .i64 o, .int .i64 d, .int .i64 s, .int .i64 i, .int .i64 t]] w fun e w' => e = .returned (.tuple #[.nilIface, .bool false]) ∧ Below w.heap.size w w' := by
  go_enter Tryd.func54, Tryd.ntmps54
  go_wp2_with fail
  refine (hk.out _).mono ?_
  rintro e w1 ⟨rfl, hb1⟩
  have H1 := Lib.hid (box_keep (box_new w 67 k o d s i t) hb1)
  clear hb1
  have z1 := H1.out.2.1
  go_wp2_with fail
  have HS := H1.out
  have hm := me_branch
  go_region_held3 (fun w' => Below w.heap.size w w' ∧ w.heap.size < w'.heap.size ∧ w'.cell? ⟨w.heap.size, 0, none⟩ = some (.int .i64 k) ∧ w'.cell? ⟨w.heap.size, 1, none⟩ = some (.int .i64 o) ∧ w'.cell? ⟨w.heap.size, 2, none⟩ = some (.int .i64 d) ∧ w'.cell? ⟨w.heap.size, 3, none⟩ = some (.int .i64 s) ∧ w'.cell? ⟨w.heap.size, 4, none⟩ = some (.int .i64 i) ∧ w'.cell? ⟨w.heap.size, 5, none⟩ = some (.int .i64 t)) (first | exact H1.out | assumption | (refine box_drew ?_; assumption))
      (first | (go_at_call 64; refine (fits_branch _ _ _ _ _).mono ?_; rintro e w2 ⟨rfl, hb2⟩; have hS2 := box_keep (h := by assumption) (hb := hb2)) | (go_at_call 100; refine (branchStep_any _ _ _ _ _).mono ?_; rintro e w3 ⟨rfl, hb3⟩; have hS3 := box_keep (h := by assumption) (hb := hb3)))
  go_wp2
  go_ret2
  refine ⟨rfl, box_below (g := w.heap.size) (k := k) (o := o) (d := d) (s := s) (i := i) (t := t) ?_⟩
  assumption

set_option maxRecDepth 100000 in
set_option maxHeartbeats 2000000 in
theorem fo_branch_f (k o d s i t : Int) (w : World) (hk : Hid (∀ w, Calls Tryd.prog 63 #[.agg #[.int .i64 k, .int .i64 o, .int .i64 d, .int .i64 s, .int .i64 i, .int .i64 t]] w fun e w' => e = .returned (.tuple #[.iface 104 (.agg #[.int .i64 k, .int .i64 d, .int .i64 s, .int .i64 t]), .bool true]) ∧ Below w.heap.size w w')) (hf : (inB 0 5 d && inB 0 5 s && inB 1 19 t) = false) :
    Calls Tryd.prog 54 #[.agg #[.int .i64 k, .int .i64 o, .int .i64 d, .int .i64 s, .int .i64 i, .int .i64 t]] w fun e w' => e = .returned (.tuple #[.nilIface, .bool false]) ∧ Below w.heap.size w w' := by
  go_enter Tryd.func54, Tryd.ntmps54
  go_wp2_with fail
  refine (hk.out _).mono ?_
  rintro e w1 ⟨rfl, hb1⟩
  have H1 := Lib.hid (box_keep (box_new w 67 k o d s i t) hb1)
  clear hb1
  have z1 := H1.out.2.1
  go_wp2_with fail
  have HS := H1.out
  have hm := me_branch
  first | (go_region_with ((go_at_call 64; refine (fits_branch _ _ _ _ _).mono ?_; rintro e w2 ⟨rfl, hb2⟩; have hS2 := box_keep (box_drew H1.out) hb2))) | fail
  all_goals
    go_wp2
    go_ret2
    refine ⟨rfl, box_below (g := w.heap.size) (k := k) (o := o) (d := d) (s := s) (i := i) (t := t) ?_⟩
    assumption

set_option maxRecDepth 100000 in
set_option maxHeartbeats 2000000 in
theorem fo_exit_y (o d s i t : Int) (w : World)
    (hq : ∀ w, (binOp .neq 67 (.agg #[.int .i64 11, .int .i64 0, .int .i64 0, .int .i64 0, .int .i64 0, .int .i64 0]) (.agg #[.int .i64 11, .int .i64 o, .int .i64 d, .int .i64 s, .int .i64 i, .int .i64 t])).run Tryd.prog w = .ok (.bool false) w) :
    Calls Tryd.prog 54 #[.agg #[.int .i64 11, .int .i64 o, .int .i64 d, .int .i64 s, .int .i64 i, .int .i64 t]] w fun e w' => e = .returned (.tuple #[.iface 106 (.agg #[]), .bool true]) ∧ Below w.heap.size w w' := by
  go_enter Tryd.func54, Tryd.ntmps54
  go_wp2_with fail
  refine (fbk11 _ _ _ _ _ _).mono ?_
  rintro e w1 ⟨rfl, hb1⟩
  have H1 := Lib.hid (box_keep (box_new w 67 11 o d s i t) hb1)
  clear hb1
  have z1 := H1.out.2.1
  go_wp2_with fail
  have HS := H1.out
  have hm := me_exit
  go_region_held3 (fun w' => Below w.heap.size w w' ∧ w.heap.size < w'.heap.size ∧ w'.cell? ⟨w.heap.size, 0, none⟩ = some (.int .i64 11) ∧ w'.cell? ⟨w.heap.size, 1, none⟩ = some (.int .i64 o) ∧ w'.cell? ⟨w.heap.size, 2, none⟩ = some (.int .i64 d) ∧ w'.cell? ⟨w.heap.size, 3, none⟩ = some (.int .i64 s) ∧ w'.cell? ⟨w.heap.size, 4, none⟩ = some (.int .i64 i) ∧ w'.cell? ⟨w.heap.size, 5, none⟩ = some (.int .i64 t)) (first | exact H1.out | assumption | (refine box_drew ?_; assumption))
      (first | (go_at_call 64; refine (fits_exit _).mono ?_; rintro e w2 ⟨rfl, hb2⟩; have hS2 := box_keep (h := by assumption) (hb := hb2)) | (go_at_call 101; refine (exitStep_any _).mono ?_; rintro e w3 ⟨rfl, hb3⟩; have hS3 := box_keep (h := by assumption) (hb := hb3)))
  go_wp2
  go_ret2
  refine ⟨rfl, box_below (g := w.heap.size) (k := 11) (o := o) (d := d) (s := s) (i := i) (t := t) ?_⟩
  assumption

set_option maxRecDepth 100000 in
set_option maxHeartbeats 2000000 in
theorem fo_exit_n (o d s i t : Int) (w : World)
    (hq : ∀ w, (binOp .neq 67 (.agg #[.int .i64 11, .int .i64 0, .int .i64 0, .int .i64 0, .int .i64 0, .int .i64 0]) (.agg #[.int .i64 11, .int .i64 o, .int .i64 d, .int .i64 s, .int .i64 i, .int .i64 t])).run Tryd.prog w = .ok (.bool true) w) :
    Calls Tryd.prog 54 #[.agg #[.int .i64 11, .int .i64 o, .int .i64 d, .int .i64 s, .int .i64 i, .int .i64 t]] w fun e w' => e = .returned (.tuple #[.nilIface, .bool false]) ∧ Below w.heap.size w w' := by
  go_enter Tryd.func54, Tryd.ntmps54
  go_wp2_with fail
  refine (fbk11 _ _ _ _ _ _).mono ?_
  rintro e w1 ⟨rfl, hb1⟩
  have H1 := Lib.hid (box_keep (box_new w 67 11 o d s i t) hb1)
  clear hb1
  have z1 := H1.out.2.1
  go_wp2_with fail
  have HS := H1.out
  have hm := me_exit
  go_region_held3 (fun w' => Below w.heap.size w w' ∧ w.heap.size < w'.heap.size ∧ w'.cell? ⟨w.heap.size, 0, none⟩ = some (.int .i64 11) ∧ w'.cell? ⟨w.heap.size, 1, none⟩ = some (.int .i64 o) ∧ w'.cell? ⟨w.heap.size, 2, none⟩ = some (.int .i64 d) ∧ w'.cell? ⟨w.heap.size, 3, none⟩ = some (.int .i64 s) ∧ w'.cell? ⟨w.heap.size, 4, none⟩ = some (.int .i64 i) ∧ w'.cell? ⟨w.heap.size, 5, none⟩ = some (.int .i64 t)) (first | exact H1.out | assumption | (refine box_drew ?_; assumption))
      (first | (go_at_call 64; refine (fits_exit _).mono ?_; rintro e w2 ⟨rfl, hb2⟩; have hS2 := box_keep (h := by assumption) (hb := hb2)) | (go_at_call 101; refine (exitStep_any _).mono ?_; rintro e w3 ⟨rfl, hb3⟩; have hS3 := box_keep (h := by assumption) (hb := hb3)))
  go_wp2
  go_ret2
  refine ⟨rfl, box_below (g := w.heap.size) (k := 11) (o := o) (d := d) (s := s) (i := i) (t := t) ?_⟩
  assumption

set_option maxRecDepth 100000 in
set_option maxHeartbeats 2000000 in
theorem fo_no (k o d s i t : Int) (w : World) (h : knB k = false) :
    Calls Tryd.prog 54 #[.agg #[.int .i64 k, .int .i64 o, .int .i64 d, .int .i64 s, .int .i64 i, .int .i64 t]] w fun e w' => e = .returned (.tuple #[.nilIface, .bool false]) ∧ Below w.heap.size w w' := by
  have HH := Lib.hid h
  clear h
  go_enter Tryd.func54, Tryd.ntmps54
  go_wp2_with fail
  refine (fbk_no _ _ _ _ _ _ _ HH.out).mono ?_
  rintro e w1 ⟨rfl, hb1⟩
  have H1 := Lib.hid (box_keep (box_new w 67 k o d s i t) hb1)
  clear hb1
  have z1 := H1.out.2.1
  go_wp2_with fail
  have HS := H1.out
  go_quiet (fail)
  go_wp2
  go_ret2
  exact ⟨rfl, bdrewN H1.out.1 _⟩

end Go.Proofs.YtilnegmjnbffhaaDoor
