/-
  Contract of the model's text of a step.
-/
import Derived.Test.YtffeiegbnlbaiaaDoorSpec2
import Derived.Test.YtffeiegbnlbaiaaDoorL1Num
import Derived.Laws.Concat
namespace Go.Proofs.YtffeiegbnlbaiaaDoor
open Go.ChangeShapes Go.WideShapes Go.ChangeAt Go.RowKit

/-- a blank and a number -/
def spN (D : ByteArray) : ByteArray := ⟨#[32]⟩ ++ D
theorem num_any (x : Int) (h0 : 0 ≤ x) (h1 : x ≤ 65535) : ∃ D : ByteArray, Hid (D = digs x) ∧ D.size ≤ 65536 ∧ ∀ w : World,
    Calls Tryd.prog 27 #[.int .i64 x] w fun e w' => e = .returned (.string D) ∧ Below w.heap.size w w' :=
  ⟨digs x, rfl, dig_size x h1, fun w => l1Num_any 65535 x w (by omega) h0 h1⟩
theorem ret_txt {a b : ByteArray} {c : Bool} (h : a = b) : Ending.returned (.tuple #[.string a, .bool c]) = .returned (.tuple #[.string b, .bool c]) := by rw [h]

/-- the text of a valid step -/
def stxt (k o d s i t : Int) : ByteArray :=
  if k = 1 then ⟨#[111, 112]⟩ ++ (⟨#[32]⟩ ++ digs o) ++ (⟨#[32]⟩ ++ digs d) ++ (⟨#[32]⟩ ++ digs s) else
  if k = 2 then ⟨#[111, 112, 105]⟩ ++ (⟨#[32]⟩ ++ digs o) ++ (⟨#[32]⟩ ++ digs d) ++ (⟨#[32]⟩ ++ digs i) else
  if k = 3 then ⟨#[115, 101, 116]⟩ ++ (⟨#[32]⟩ ++ digs d) ++ (⟨#[32]⟩ ++ digs i) else
  if k = 4 then ⟨#[119, 105, 100, 101]⟩ ++ (⟨#[32]⟩ ++ digs d) ++ (⟨#[32]⟩ ++ digs i) else
  if k = 5 then ⟨#[99, 116, 120]⟩ ++ (⟨#[32]⟩ ++ digs d) ++ (⟨#[32]⟩ ++ digs s) ++ (⟨#[32]⟩ ++ digs i) else
  if k = 6 then ⟨#[108, 111, 97, 100]⟩ ++ (⟨#[32]⟩ ++ digs d) ++ (⟨#[32]⟩ ++ digs i) else
  if k = 7 then ⟨#[115, 116, 111, 114, 101]⟩ ++ (⟨#[32]⟩ ++ digs d) ++ (⟨#[32]⟩ ++ digs i) else
  if k = 8 then ⟨#[106, 117, 109, 112]⟩ ++ (⟨#[32]⟩ ++ digs t) else
  if k = 9 then ⟨#[101, 113]⟩ ++ (⟨#[32]⟩ ++ digs d) ++ (⟨#[32]⟩ ++ digs s) ++ (⟨#[32]⟩ ++ digs t) else
  if k = 10 then ⟨#[108, 101, 115, 115]⟩ ++ (⟨#[32]⟩ ++ digs d) ++ (⟨#[32]⟩ ++ digs s) ++ (⟨#[32]⟩ ++ digs t) else
  ⟨#[101, 120, 105, 116]⟩
set_option maxRecDepth 20000 in
set_option maxHeartbeats 4000000 in
theorem st1 (o d s i t : Int) (w : World) (hv : okB 1 o d s i t = true) (X : ByteArray) (hX : X = ⟨#[111, 112]⟩ ++ (⟨#[32]⟩ ++ digs o) ++ (⟨#[32]⟩ ++ digs d) ++ (⟨#[32]⟩ ++ digs s)) :
    Calls Tryd.prog 12 #[.agg #[.int .i64 1, .int .i64 o, .int .i64 d, .int .i64 s, .int .i64 i, .int .i64 t]] w fun e w' => e = .returned (.tuple #[.string X, .bool true]) ∧ Below w.heap.size w w' := by
  have HK := Lib.hid hv
  have HP := okB_yes hv
  have hb : (0 ≤ o ∧ o ≤ 10) ∧ (0 ≤ d ∧ d ≤ 5) ∧ (0 ≤ s ∧ s ≤ 5) ∧ (0 ≤ i ∧ i ≤ 65535) ∧ (0 ≤ t ∧ t ≤ 19) := by unfold okP at HP; omega
  obtain ⟨ho, hd, hs, hi, ht⟩ := hb
  obtain ⟨Do, Eo, zo, no⟩ := num_any o ho.1 (by omega)
  obtain ⟨Dd, Ed, zd, nd⟩ := num_any d hd.1 (by omega)
  obtain ⟨Ds, Es, zs, ns⟩ := num_any s hs.1 (by omega)
  have HX : Hid (⟨#[111, 112]⟩ ++ (⟨#[32]⟩ ++ Do) ++ (⟨#[32]⟩ ++ Dd) ++ (⟨#[32]⟩ ++ Ds) = X) := by
    show _ = _
    rw [hX, Eo.out, Ed.out, Es.out]
  clear hX hv HP
  go_enter Tryd.func12, Tryd.ntmps12
  go_wp2_with fail
  refine (l2Step_any _ _ _ _ _ _ _).mono ?_
  rintro e w1 ⟨rfl, hb1⟩
  have H1 := Lib.hid (box_keep (box_new w 31 1 o d s i t) hb1)
  clear hb1
  obtain ⟨-, z1, c0, c1, c2, c3, c4, c5⟩ := H1.out
  rw [HK.out]
  go_wp2_with fail
  refine (no _).mono ?_
  rintro e w2 ⟨rfl, hb2⟩
  have H2 := Lib.hid (box_keep (box_keep H1.out (below1 w1 _)) hb2)
  clear hb2 c0 c1 c2 c3 c4 c5 z1
  obtain ⟨-, z1, c0, c1, c2, c3, c4, c5⟩ := H2.out
  go_wp2_with fail
  refine (nd _).mono ?_
  rintro e w3 ⟨rfl, hb3⟩
  have H3 := Lib.hid (box_keep H2.out hb3)
  clear hb3 c0 c1 c2 c3 c4 c5 z1
  obtain ⟨-, z1, c0, c1, c2, c3, c4, c5⟩ := H3.out
  go_wp2_with fail
  refine (ns _).mono ?_
  rintro e w4 ⟨rfl, hb4⟩
  have H4 := Lib.hid (box_keep H3.out hb4)
  clear hb4 c0 c1 c2 c3 c4 c5 z1
  obtain ⟨-, z1, c0, c1, c2, c3, c4, c5⟩ := H4.out
  go_wp2
  go_ret2
  exact ⟨ret_txt HX.out, H4.out.1⟩

set_option maxRecDepth 20000 in
set_option maxHeartbeats 4000000 in
theorem st2 (o d s i t : Int) (w : World) (hv : okB 2 o d s i t = true) (X : ByteArray) (hX : X = ⟨#[111, 112, 105]⟩ ++ (⟨#[32]⟩ ++ digs o) ++ (⟨#[32]⟩ ++ digs d) ++ (⟨#[32]⟩ ++ digs i)) :
    Calls Tryd.prog 12 #[.agg #[.int .i64 2, .int .i64 o, .int .i64 d, .int .i64 s, .int .i64 i, .int .i64 t]] w fun e w' => e = .returned (.tuple #[.string X, .bool true]) ∧ Below w.heap.size w w' := by
  have HK := Lib.hid hv
  have HP := okB_yes hv
  have hb : (0 ≤ o ∧ o ≤ 10) ∧ (0 ≤ d ∧ d ≤ 5) ∧ (0 ≤ s ∧ s ≤ 5) ∧ (0 ≤ i ∧ i ≤ 65535) ∧ (0 ≤ t ∧ t ≤ 19) := by unfold okP at HP; omega
  obtain ⟨ho, hd, hs, hi, ht⟩ := hb
  obtain ⟨Do, Eo, zo, no⟩ := num_any o ho.1 (by omega)
  obtain ⟨Dd, Ed, zd, nd⟩ := num_any d hd.1 (by omega)
  obtain ⟨Di, Ei, zi, ni⟩ := num_any i hi.1 (by omega)
  have HX : Hid (⟨#[111, 112, 105]⟩ ++ (⟨#[32]⟩ ++ Do) ++ (⟨#[32]⟩ ++ Dd) ++ (⟨#[32]⟩ ++ Di) = X) := by
    show _ = _
    rw [hX, Eo.out, Ed.out, Ei.out]
  clear hX hv HP
  go_enter Tryd.func12, Tryd.ntmps12
  go_wp2_with fail
  refine (l2Step_any _ _ _ _ _ _ _).mono ?_
  rintro e w1 ⟨rfl, hb1⟩
  have H1 := Lib.hid (box_keep (box_new w 31 2 o d s i t) hb1)
  clear hb1
  obtain ⟨-, z1, c0, c1, c2, c3, c4, c5⟩ := H1.out
  rw [HK.out]
  go_wp2_with fail
  refine (no _).mono ?_
  rintro e w2 ⟨rfl, hb2⟩
  have H2 := Lib.hid (box_keep (box_keep H1.out (below1 w1 _)) hb2)
  clear hb2 c0 c1 c2 c3 c4 c5 z1
  obtain ⟨-, z1, c0, c1, c2, c3, c4, c5⟩ := H2.out
  go_wp2_with fail
  refine (nd _).mono ?_
  rintro e w3 ⟨rfl, hb3⟩
  have H3 := Lib.hid (box_keep H2.out hb3)
  clear hb3 c0 c1 c2 c3 c4 c5 z1
  obtain ⟨-, z1, c0, c1, c2, c3, c4, c5⟩ := H3.out
  go_wp2_with fail
  refine (ni _).mono ?_
  rintro e w4 ⟨rfl, hb4⟩
  have H4 := Lib.hid (box_keep H3.out hb4)
  clear hb4 c0 c1 c2 c3 c4 c5 z1
  obtain ⟨-, z1, c0, c1, c2, c3, c4, c5⟩ := H4.out
  go_wp2
  go_ret2
  exact ⟨ret_txt HX.out, H4.out.1⟩

set_option maxRecDepth 20000 in
set_option maxHeartbeats 4000000 in
theorem st3 (o d s i t : Int) (w : World) (hv : okB 3 o d s i t = true) (X : ByteArray) (hX : X = ⟨#[115, 101, 116]⟩ ++ (⟨#[32]⟩ ++ digs d) ++ (⟨#[32]⟩ ++ digs i)) :
    Calls Tryd.prog 12 #[.agg #[.int .i64 3, .int .i64 o, .int .i64 d, .int .i64 s, .int .i64 i, .int .i64 t]] w fun e w' => e = .returned (.tuple #[.string X, .bool true]) ∧ Below w.heap.size w w' := by
  have HK := Lib.hid hv
  have HP := okB_yes hv
  have hb : (0 ≤ o ∧ o ≤ 10) ∧ (0 ≤ d ∧ d ≤ 5) ∧ (0 ≤ s ∧ s ≤ 5) ∧ (0 ≤ i ∧ i ≤ 65535) ∧ (0 ≤ t ∧ t ≤ 19) := by unfold okP at HP; omega
  obtain ⟨ho, hd, hs, hi, ht⟩ := hb
  obtain ⟨Dd, Ed, zd, nd⟩ := num_any d hd.1 (by omega)
  obtain ⟨Di, Ei, zi, ni⟩ := num_any i hi.1 (by omega)
  have HX : Hid (⟨#[115, 101, 116]⟩ ++ (⟨#[32]⟩ ++ Dd) ++ (⟨#[32]⟩ ++ Di) = X) := by
    show _ = _
    rw [hX, Ed.out, Ei.out]
  clear hX hv HP
  go_enter Tryd.func12, Tryd.ntmps12
  go_wp2_with fail
  refine (l2Step_any _ _ _ _ _ _ _).mono ?_
  rintro e w1 ⟨rfl, hb1⟩
  have H1 := Lib.hid (box_keep (box_new w 31 3 o d s i t) hb1)
  clear hb1
  obtain ⟨-, z1, c0, c1, c2, c3, c4, c5⟩ := H1.out
  rw [HK.out]
  go_wp2_with fail
  refine (nd _).mono ?_
  rintro e w2 ⟨rfl, hb2⟩
  have H2 := Lib.hid (box_keep (box_keep H1.out (below1 w1 _)) hb2)
  clear hb2 c0 c1 c2 c3 c4 c5 z1
  obtain ⟨-, z1, c0, c1, c2, c3, c4, c5⟩ := H2.out
  go_wp2_with fail
  refine (ni _).mono ?_
  rintro e w3 ⟨rfl, hb3⟩
  have H3 := Lib.hid (box_keep H2.out hb3)
  clear hb3 c0 c1 c2 c3 c4 c5 z1
  obtain ⟨-, z1, c0, c1, c2, c3, c4, c5⟩ := H3.out
  go_wp2
  go_ret2
  exact ⟨ret_txt HX.out, H3.out.1⟩

set_option maxRecDepth 20000 in
set_option maxHeartbeats 4000000 in
theorem st4 (o d s i t : Int) (w : World) (hv : okB 4 o d s i t = true) (X : ByteArray) (hX : X = ⟨#[119, 105, 100, 101]⟩ ++ (⟨#[32]⟩ ++ digs d) ++ (⟨#[32]⟩ ++ digs i)) :
    Calls Tryd.prog 12 #[.agg #[.int .i64 4, .int .i64 o, .int .i64 d, .int .i64 s, .int .i64 i, .int .i64 t]] w fun e w' => e = .returned (.tuple #[.string X, .bool true]) ∧ Below w.heap.size w w' := by
  have HK := Lib.hid hv
  have HP := okB_yes hv
  have hb : (0 ≤ o ∧ o ≤ 10) ∧ (0 ≤ d ∧ d ≤ 5) ∧ (0 ≤ s ∧ s ≤ 5) ∧ (0 ≤ i ∧ i ≤ 65535) ∧ (0 ≤ t ∧ t ≤ 19) := by unfold okP at HP; omega
  obtain ⟨ho, hd, hs, hi, ht⟩ := hb
  obtain ⟨Dd, Ed, zd, nd⟩ := num_any d hd.1 (by omega)
  obtain ⟨Di, Ei, zi, ni⟩ := num_any i hi.1 (by omega)
  have HX : Hid (⟨#[119, 105, 100, 101]⟩ ++ (⟨#[32]⟩ ++ Dd) ++ (⟨#[32]⟩ ++ Di) = X) := by
    show _ = _
    rw [hX, Ed.out, Ei.out]
  clear hX hv HP
  go_enter Tryd.func12, Tryd.ntmps12
  go_wp2_with fail
  refine (l2Step_any _ _ _ _ _ _ _).mono ?_
  rintro e w1 ⟨rfl, hb1⟩
  have H1 := Lib.hid (box_keep (box_new w 31 4 o d s i t) hb1)
  clear hb1
  obtain ⟨-, z1, c0, c1, c2, c3, c4, c5⟩ := H1.out
  rw [HK.out]
  go_wp2_with fail
  refine (nd _).mono ?_
  rintro e w2 ⟨rfl, hb2⟩
  have H2 := Lib.hid (box_keep (box_keep H1.out (below1 w1 _)) hb2)
  clear hb2 c0 c1 c2 c3 c4 c5 z1
  obtain ⟨-, z1, c0, c1, c2, c3, c4, c5⟩ := H2.out
  go_wp2_with fail
  refine (ni _).mono ?_
  rintro e w3 ⟨rfl, hb3⟩
  have H3 := Lib.hid (box_keep H2.out hb3)
  clear hb3 c0 c1 c2 c3 c4 c5 z1
  obtain ⟨-, z1, c0, c1, c2, c3, c4, c5⟩ := H3.out
  go_wp2
  go_ret2
  exact ⟨ret_txt HX.out, H3.out.1⟩

set_option maxRecDepth 20000 in
set_option maxHeartbeats 4000000 in
theorem st5 (o d s i t : Int) (w : World) (hv : okB 5 o d s i t = true) (X : ByteArray) (hX : X = ⟨#[99, 116, 120]⟩ ++ (⟨#[32]⟩ ++ digs d) ++ (⟨#[32]⟩ ++ digs s) ++ (⟨#[32]⟩ ++ digs i)) :
    Calls Tryd.prog 12 #[.agg #[.int .i64 5, .int .i64 o, .int .i64 d, .int .i64 s, .int .i64 i, .int .i64 t]] w fun e w' => e = .returned (.tuple #[.string X, .bool true]) ∧ Below w.heap.size w w' := by
  have HK := Lib.hid hv
  have HP := okB_yes hv
  have hb : (0 ≤ o ∧ o ≤ 10) ∧ (0 ≤ d ∧ d ≤ 5) ∧ (0 ≤ s ∧ s ≤ 5) ∧ (0 ≤ i ∧ i ≤ 65535) ∧ (0 ≤ t ∧ t ≤ 19) := by unfold okP at HP; omega
  obtain ⟨ho, hd, hs, hi, ht⟩ := hb
  obtain ⟨Dd, Ed, zd, nd⟩ := num_any d hd.1 (by omega)
  obtain ⟨Ds, Es, zs, ns⟩ := num_any s hs.1 (by omega)
  obtain ⟨Di, Ei, zi, ni⟩ := num_any i hi.1 (by omega)
  have HX : Hid (⟨#[99, 116, 120]⟩ ++ (⟨#[32]⟩ ++ Dd) ++ (⟨#[32]⟩ ++ Ds) ++ (⟨#[32]⟩ ++ Di) = X) := by
    show _ = _
    rw [hX, Ed.out, Es.out, Ei.out]
  clear hX hv HP
  go_enter Tryd.func12, Tryd.ntmps12
  go_wp2_with fail
  refine (l2Step_any _ _ _ _ _ _ _).mono ?_
  rintro e w1 ⟨rfl, hb1⟩
  have H1 := Lib.hid (box_keep (box_new w 31 5 o d s i t) hb1)
  clear hb1
  obtain ⟨-, z1, c0, c1, c2, c3, c4, c5⟩ := H1.out
  rw [HK.out]
  go_wp2_with fail
  refine (nd _).mono ?_
  rintro e w2 ⟨rfl, hb2⟩
  have H2 := Lib.hid (box_keep (box_keep H1.out (below1 w1 _)) hb2)
  clear hb2 c0 c1 c2 c3 c4 c5 z1
  obtain ⟨-, z1, c0, c1, c2, c3, c4, c5⟩ := H2.out
  go_wp2_with fail
  refine (ns _).mono ?_
  rintro e w3 ⟨rfl, hb3⟩
  have H3 := Lib.hid (box_keep H2.out hb3)
  clear hb3 c0 c1 c2 c3 c4 c5 z1
  obtain ⟨-, z1, c0, c1, c2, c3, c4, c5⟩ := H3.out
  go_wp2_with fail
  refine (ni _).mono ?_
  rintro e w4 ⟨rfl, hb4⟩
  have H4 := Lib.hid (box_keep H3.out hb4)
  clear hb4 c0 c1 c2 c3 c4 c5 z1
  obtain ⟨-, z1, c0, c1, c2, c3, c4, c5⟩ := H4.out
  go_wp2
  go_ret2
  exact ⟨ret_txt HX.out, H4.out.1⟩

set_option maxRecDepth 20000 in
set_option maxHeartbeats 4000000 in
theorem st6 (o d s i t : Int) (w : World) (hv : okB 6 o d s i t = true) (X : ByteArray) (hX : X = ⟨#[108, 111, 97, 100]⟩ ++ (⟨#[32]⟩ ++ digs d) ++ (⟨#[32]⟩ ++ digs i)) :
    Calls Tryd.prog 12 #[.agg #[.int .i64 6, .int .i64 o, .int .i64 d, .int .i64 s, .int .i64 i, .int .i64 t]] w fun e w' => e = .returned (.tuple #[.string X, .bool true]) ∧ Below w.heap.size w w' := by
  have HK := Lib.hid hv
  have HP := okB_yes hv
  have hb : (0 ≤ o ∧ o ≤ 10) ∧ (0 ≤ d ∧ d ≤ 5) ∧ (0 ≤ s ∧ s ≤ 5) ∧ (0 ≤ i ∧ i ≤ 65535) ∧ (0 ≤ t ∧ t ≤ 19) := by unfold okP at HP; omega
  obtain ⟨ho, hd, hs, hi, ht⟩ := hb
  obtain ⟨Dd, Ed, zd, nd⟩ := num_any d hd.1 (by omega)
  obtain ⟨Di, Ei, zi, ni⟩ := num_any i hi.1 (by omega)
  have HX : Hid (⟨#[108, 111, 97, 100]⟩ ++ (⟨#[32]⟩ ++ Dd) ++ (⟨#[32]⟩ ++ Di) = X) := by
    show _ = _
    rw [hX, Ed.out, Ei.out]
  clear hX hv HP
  go_enter Tryd.func12, Tryd.ntmps12
  go_wp2_with fail
  refine (l2Step_any _ _ _ _ _ _ _).mono ?_
  rintro e w1 ⟨rfl, hb1⟩
  have H1 := Lib.hid (box_keep (box_new w 31 6 o d s i t) hb1)
  clear hb1
  obtain ⟨-, z1, c0, c1, c2, c3, c4, c5⟩ := H1.out
  rw [HK.out]
  go_wp2_with fail
  refine (nd _).mono ?_
  rintro e w2 ⟨rfl, hb2⟩
  have H2 := Lib.hid (box_keep (box_keep H1.out (below1 w1 _)) hb2)
  clear hb2 c0 c1 c2 c3 c4 c5 z1
  obtain ⟨-, z1, c0, c1, c2, c3, c4, c5⟩ := H2.out
  go_wp2_with fail
  refine (ni _).mono ?_
  rintro e w3 ⟨rfl, hb3⟩
  have H3 := Lib.hid (box_keep H2.out hb3)
  clear hb3 c0 c1 c2 c3 c4 c5 z1
  obtain ⟨-, z1, c0, c1, c2, c3, c4, c5⟩ := H3.out
  go_wp2
  go_ret2
  exact ⟨ret_txt HX.out, H3.out.1⟩

set_option maxRecDepth 20000 in
set_option maxHeartbeats 4000000 in
theorem st7 (o d s i t : Int) (w : World) (hv : okB 7 o d s i t = true) (X : ByteArray) (hX : X = ⟨#[115, 116, 111, 114, 101]⟩ ++ (⟨#[32]⟩ ++ digs d) ++ (⟨#[32]⟩ ++ digs i)) :
    Calls Tryd.prog 12 #[.agg #[.int .i64 7, .int .i64 o, .int .i64 d, .int .i64 s, .int .i64 i, .int .i64 t]] w fun e w' => e = .returned (.tuple #[.string X, .bool true]) ∧ Below w.heap.size w w' := by
  have HK := Lib.hid hv
  have HP := okB_yes hv
  have hb : (0 ≤ o ∧ o ≤ 10) ∧ (0 ≤ d ∧ d ≤ 5) ∧ (0 ≤ s ∧ s ≤ 5) ∧ (0 ≤ i ∧ i ≤ 65535) ∧ (0 ≤ t ∧ t ≤ 19) := by unfold okP at HP; omega
  obtain ⟨ho, hd, hs, hi, ht⟩ := hb
  obtain ⟨Dd, Ed, zd, nd⟩ := num_any d hd.1 (by omega)
  obtain ⟨Di, Ei, zi, ni⟩ := num_any i hi.1 (by omega)
  have HX : Hid (⟨#[115, 116, 111, 114, 101]⟩ ++ (⟨#[32]⟩ ++ Dd) ++ (⟨#[32]⟩ ++ Di) = X) := by
    show _ = _
    rw [hX, Ed.out, Ei.out]
  clear hX hv HP
  go_enter Tryd.func12, Tryd.ntmps12
  go_wp2_with fail
  refine (l2Step_any _ _ _ _ _ _ _).mono ?_
  rintro e w1 ⟨rfl, hb1⟩
  have H1 := Lib.hid (box_keep (box_new w 31 7 o d s i t) hb1)
  clear hb1
  obtain ⟨-, z1, c0, c1, c2, c3, c4, c5⟩ := H1.out
  rw [HK.out]
  go_wp2_with fail
  refine (nd _).mono ?_
  rintro e w2 ⟨rfl, hb2⟩
  have H2 := Lib.hid (box_keep (box_keep H1.out (below1 w1 _)) hb2)
  clear hb2 c0 c1 c2 c3 c4 c5 z1
  obtain ⟨-, z1, c0, c1, c2, c3, c4, c5⟩ := H2.out
  go_wp2_with fail
  refine (ni _).mono ?_
  rintro e w3 ⟨rfl, hb3⟩
  have H3 := Lib.hid (box_keep H2.out hb3)
  clear hb3 c0 c1 c2 c3 c4 c5 z1
  obtain ⟨-, z1, c0, c1, c2, c3, c4, c5⟩ := H3.out
  go_wp2
  go_ret2
  exact ⟨ret_txt HX.out, H3.out.1⟩

set_option maxRecDepth 20000 in
set_option maxHeartbeats 4000000 in
theorem st8 (o d s i t : Int) (w : World) (hv : okB 8 o d s i t = true) (X : ByteArray) (hX : X = ⟨#[106, 117, 109, 112]⟩ ++ (⟨#[32]⟩ ++ digs t)) :
    Calls Tryd.prog 12 #[.agg #[.int .i64 8, .int .i64 o, .int .i64 d, .int .i64 s, .int .i64 i, .int .i64 t]] w fun e w' => e = .returned (.tuple #[.string X, .bool true]) ∧ Below w.heap.size w w' := by
  have HK := Lib.hid hv
  have HP := okB_yes hv
  have hb : (0 ≤ o ∧ o ≤ 10) ∧ (0 ≤ d ∧ d ≤ 5) ∧ (0 ≤ s ∧ s ≤ 5) ∧ (0 ≤ i ∧ i ≤ 65535) ∧ (0 ≤ t ∧ t ≤ 19) := by unfold okP at HP; omega
  obtain ⟨ho, hd, hs, hi, ht⟩ := hb
  obtain ⟨Dt, Et, zt, nt⟩ := num_any t ht.1 (by omega)
  have HX : Hid (⟨#[106, 117, 109, 112]⟩ ++ (⟨#[32]⟩ ++ Dt) = X) := by
    show _ = _
    rw [hX, Et.out]
  clear hX hv HP
  go_enter Tryd.func12, Tryd.ntmps12
  go_wp2_with fail
  refine (l2Step_any _ _ _ _ _ _ _).mono ?_
  rintro e w1 ⟨rfl, hb1⟩
  have H1 := Lib.hid (box_keep (box_new w 31 8 o d s i t) hb1)
  clear hb1
  obtain ⟨-, z1, c0, c1, c2, c3, c4, c5⟩ := H1.out
  rw [HK.out]
  go_wp2_with fail
  refine (nt _).mono ?_
  rintro e w2 ⟨rfl, hb2⟩
  have H2 := Lib.hid (box_keep (box_keep H1.out (below1 w1 _)) hb2)
  clear hb2 c0 c1 c2 c3 c4 c5 z1
  obtain ⟨-, z1, c0, c1, c2, c3, c4, c5⟩ := H2.out
  go_wp2
  go_ret2
  exact ⟨ret_txt HX.out, H2.out.1⟩

set_option maxRecDepth 20000 in
set_option maxHeartbeats 4000000 in
theorem st9 (o d s i t : Int) (w : World) (hv : okB 9 o d s i t = true) (X : ByteArray) (hX : X = ⟨#[101, 113]⟩ ++ (⟨#[32]⟩ ++ digs d) ++ (⟨#[32]⟩ ++ digs s) ++ (⟨#[32]⟩ ++ digs t)) :
    Calls Tryd.prog 12 #[.agg #[.int .i64 9, .int .i64 o, .int .i64 d, .int .i64 s, .int .i64 i, .int .i64 t]] w fun e w' => e = .returned (.tuple #[.string X, .bool true]) ∧ Below w.heap.size w w' := by
  have HK := Lib.hid hv
  have HP := okB_yes hv
  have hb : (0 ≤ o ∧ o ≤ 10) ∧ (0 ≤ d ∧ d ≤ 5) ∧ (0 ≤ s ∧ s ≤ 5) ∧ (0 ≤ i ∧ i ≤ 65535) ∧ (0 ≤ t ∧ t ≤ 19) := by unfold okP at HP; omega
  obtain ⟨ho, hd, hs, hi, ht⟩ := hb
  obtain ⟨Dd, Ed, zd, nd⟩ := num_any d hd.1 (by omega)
  obtain ⟨Ds, Es, zs, ns⟩ := num_any s hs.1 (by omega)
  obtain ⟨Dt, Et, zt, nt⟩ := num_any t ht.1 (by omega)
  have HX : Hid (⟨#[101, 113]⟩ ++ (⟨#[32]⟩ ++ Dd) ++ (⟨#[32]⟩ ++ Ds) ++ (⟨#[32]⟩ ++ Dt) = X) := by
    show _ = _
    rw [hX, Ed.out, Es.out, Et.out]
  clear hX hv HP
  go_enter Tryd.func12, Tryd.ntmps12
  go_wp2_with fail
  refine (l2Step_any _ _ _ _ _ _ _).mono ?_
  rintro e w1 ⟨rfl, hb1⟩
  have H1 := Lib.hid (box_keep (box_new w 31 9 o d s i t) hb1)
  clear hb1
  obtain ⟨-, z1, c0, c1, c2, c3, c4, c5⟩ := H1.out
  rw [HK.out]
  go_wp2_with fail
  refine (nd _).mono ?_
  rintro e w2 ⟨rfl, hb2⟩
  have H2 := Lib.hid (box_keep (box_keep H1.out (below1 w1 _)) hb2)
  clear hb2 c0 c1 c2 c3 c4 c5 z1
  obtain ⟨-, z1, c0, c1, c2, c3, c4, c5⟩ := H2.out
  go_wp2_with fail
  refine (ns _).mono ?_
  rintro e w3 ⟨rfl, hb3⟩
  have H3 := Lib.hid (box_keep H2.out hb3)
  clear hb3 c0 c1 c2 c3 c4 c5 z1
  obtain ⟨-, z1, c0, c1, c2, c3, c4, c5⟩ := H3.out
  go_wp2_with fail
  refine (nt _).mono ?_
  rintro e w4 ⟨rfl, hb4⟩
  have H4 := Lib.hid (box_keep H3.out hb4)
  clear hb4 c0 c1 c2 c3 c4 c5 z1
  obtain ⟨-, z1, c0, c1, c2, c3, c4, c5⟩ := H4.out
  go_wp2
  go_ret2
  exact ⟨ret_txt HX.out, H4.out.1⟩

set_option maxRecDepth 20000 in
set_option maxHeartbeats 4000000 in
theorem st10 (o d s i t : Int) (w : World) (hv : okB 10 o d s i t = true) (X : ByteArray) (hX : X = ⟨#[108, 101, 115, 115]⟩ ++ (⟨#[32]⟩ ++ digs d) ++ (⟨#[32]⟩ ++ digs s) ++ (⟨#[32]⟩ ++ digs t)) :
    Calls Tryd.prog 12 #[.agg #[.int .i64 10, .int .i64 o, .int .i64 d, .int .i64 s, .int .i64 i, .int .i64 t]] w fun e w' => e = .returned (.tuple #[.string X, .bool true]) ∧ Below w.heap.size w w' := by
  have HK := Lib.hid hv
  have HP := okB_yes hv
  have hb : (0 ≤ o ∧ o ≤ 10) ∧ (0 ≤ d ∧ d ≤ 5) ∧ (0 ≤ s ∧ s ≤ 5) ∧ (0 ≤ i ∧ i ≤ 65535) ∧ (0 ≤ t ∧ t ≤ 19) := by unfold okP at HP; omega
  obtain ⟨ho, hd, hs, hi, ht⟩ := hb
  obtain ⟨Dd, Ed, zd, nd⟩ := num_any d hd.1 (by omega)
  obtain ⟨Ds, Es, zs, ns⟩ := num_any s hs.1 (by omega)
  obtain ⟨Dt, Et, zt, nt⟩ := num_any t ht.1 (by omega)
  have HX : Hid (⟨#[108, 101, 115, 115]⟩ ++ (⟨#[32]⟩ ++ Dd) ++ (⟨#[32]⟩ ++ Ds) ++ (⟨#[32]⟩ ++ Dt) = X) := by
    show _ = _
    rw [hX, Ed.out, Es.out, Et.out]
  clear hX hv HP
  go_enter Tryd.func12, Tryd.ntmps12
  go_wp2_with fail
  refine (l2Step_any _ _ _ _ _ _ _).mono ?_
  rintro e w1 ⟨rfl, hb1⟩
  have H1 := Lib.hid (box_keep (box_new w 31 10 o d s i t) hb1)
  clear hb1
  obtain ⟨-, z1, c0, c1, c2, c3, c4, c5⟩ := H1.out
  rw [HK.out]
  go_wp2_with fail
  refine (nd _).mono ?_
  rintro e w2 ⟨rfl, hb2⟩
  have H2 := Lib.hid (box_keep (box_keep H1.out (below1 w1 _)) hb2)
  clear hb2 c0 c1 c2 c3 c4 c5 z1
  obtain ⟨-, z1, c0, c1, c2, c3, c4, c5⟩ := H2.out
  go_wp2_with fail
  refine (ns _).mono ?_
  rintro e w3 ⟨rfl, hb3⟩
  have H3 := Lib.hid (box_keep H2.out hb3)
  clear hb3 c0 c1 c2 c3 c4 c5 z1
  obtain ⟨-, z1, c0, c1, c2, c3, c4, c5⟩ := H3.out
  go_wp2_with fail
  refine (nt _).mono ?_
  rintro e w4 ⟨rfl, hb4⟩
  have H4 := Lib.hid (box_keep H3.out hb4)
  clear hb4 c0 c1 c2 c3 c4 c5 z1
  obtain ⟨-, z1, c0, c1, c2, c3, c4, c5⟩ := H4.out
  go_wp2
  go_ret2
  exact ⟨ret_txt HX.out, H4.out.1⟩

set_option maxRecDepth 20000 in
set_option maxHeartbeats 4000000 in
theorem st11 (o d s i t : Int) (w : World) (hv : okB 11 o d s i t = true) (X : ByteArray) (hX : X = ⟨#[101, 120, 105, 116]⟩) :
    Calls Tryd.prog 12 #[.agg #[.int .i64 11, .int .i64 o, .int .i64 d, .int .i64 s, .int .i64 i, .int .i64 t]] w fun e w' => e = .returned (.tuple #[.string X, .bool true]) ∧ Below w.heap.size w w' := by
  have HK := Lib.hid hv
  have HX : Hid (⟨#[101, 120, 105, 116]⟩ = X) := hX.symm
  clear hX hv
  go_enter Tryd.func12, Tryd.ntmps12
  go_wp2_with fail
  refine (l2Step_any _ _ _ _ _ _ _).mono ?_
  rintro e w1 ⟨rfl, hb1⟩
  have H1 := Lib.hid (box_keep (box_new w 31 11 o d s i t) hb1)
  clear hb1
  obtain ⟨-, z1, c0, c1, c2, c3, c4, c5⟩ := H1.out
  rw [HK.out]
  go_wp2
  go_ret2
  exact ⟨ret_txt HX.out, (box_keep H1.out (below1 w1 _)).1⟩

theorem okP_kind {k o d s i t : Int} (h : okP k o d s i t) : 1 ≤ k ∧ k ≤ 11 := by
  unfold okP at h; omega
/-- what StepText returns -/
def stS (k o d s i t : Int) : ByteArray := if okB k o d s i t = true then stxt k o d s i t else ⟨#[]⟩
theorem stS_yes {k o d s i t : Int} (h : okB k o d s i t = true) : stS k o d s i t = stxt k o d s i t := if_pos h
theorem stS_no {k o d s i t : Int} (h : okB k o d s i t = false) : stS k o d s i t = ⟨#[]⟩ := if_neg (by rw [h]; decide)

set_option maxRecDepth 100000 in
set_option maxHeartbeats 1000000 in
theorem st_no (k o d s i t : Int) (w : World) (hv : okB k o d s i t = false) :
    Calls Tryd.prog 12 #[.agg #[.int .i64 k, .int .i64 o, .int .i64 d, .int .i64 s, .int .i64 i, .int .i64 t]] w fun e w' => e = .returned (.tuple #[.string (stS k o d s i t), .bool false]) ∧ Below w.heap.size w w' := by
  have HK := Lib.hid hv
  clear hv
  go_enter Tryd.func12, Tryd.ntmps12
  go_wp2_with fail
  refine (l2Step_any _ _ _ _ _ _ _).mono ?_
  rintro e w1 ⟨rfl, hb1⟩
  have H1 := Lib.hid (box_keep (box_new w 31 k o d s i t) hb1)
  clear hb1
  rw [HK.out]
  go_wp2
  go_ret2
  exact ⟨ret_txt (stS_no HK.out).symm, H1.out.1⟩

theorem specStepText_any (k o d s i t : Int) (w : World) (b : Bool) (hb : okB k o d s i t = b) :
    Calls Tryd.prog 12 #[.agg #[.int .i64 k, .int .i64 o, .int .i64 d, .int .i64 s, .int .i64 i, .int .i64 t]] w fun e w' => e = .returned (.tuple #[.string (stS k o d s i t), .bool b]) ∧ Below w.heap.size w w' := by
  cases b
  · exact st_no k o d s i t w hb
  · have hk : knB k = true := by
      have := okP_kind (okB_yes hb)
      simpa [knB] using this
    rcases kinds_of hk with rfl | rfl | rfl | rfl | rfl | rfl | rfl | rfl | rfl | rfl | rfl
    · exact st1 o d s i t w hb _ ((stS_yes hb).trans rfl)
    · exact st2 o d s i t w hb _ ((stS_yes hb).trans rfl)
    · exact st3 o d s i t w hb _ ((stS_yes hb).trans rfl)
    · exact st4 o d s i t w hb _ ((stS_yes hb).trans rfl)
    · exact st5 o d s i t w hb _ ((stS_yes hb).trans rfl)
    · exact st6 o d s i t w hb _ ((stS_yes hb).trans rfl)
    · exact st7 o d s i t w hb _ ((stS_yes hb).trans rfl)
    · exact st8 o d s i t w hb _ ((stS_yes hb).trans rfl)
    · exact st9 o d s i t w hb _ ((stS_yes hb).trans rfl)
    · exact st10 o d s i t w hb _ ((stS_yes hb).trans rfl)
    · exact st11 o d s i t w hb _ ((stS_yes hb).trans rfl)
end Go.Proofs.YtffeiegbnlbaiaaDoor
