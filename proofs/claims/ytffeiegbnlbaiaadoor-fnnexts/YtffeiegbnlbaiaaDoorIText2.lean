/-
  The program's text of a step is the model's.
-/
import Derived.Test.YtffeiegbnlbaiaaDoorIText
import Derived.Test.YtffeiegbnlbaiaaDoorSText
namespace Go.Proofs.YtffeiegbnlbaiaaDoor
open Go.ChangeShapes Go.WideShapes Go.ChangeAt Go.RowKit

/-- the words of the kinds -/
def kn : List ByteArray := [⟨#[]⟩, ⟨#[111, 112]⟩, ⟨#[111, 112, 105]⟩, ⟨#[115, 101, 116]⟩, ⟨#[119, 105, 100, 101]⟩, ⟨#[99, 116, 120]⟩, ⟨#[108, 111, 97, 100]⟩, ⟨#[115, 116, 111, 114, 101]⟩, ⟨#[106, 117, 109, 112]⟩, ⟨#[101, 113]⟩, ⟨#[108, 101, 115, 115]⟩, ⟨#[101, 120, 105, 116]⟩]
/-- the table of the words lies in the world -/
def NamesIn (w : World) : Prop := ∀ j v, kn[j]? = some v → w.cell? ⟨0, j, none⟩ = some (.string v)
theorem fgave_lies {w : World} {l : List Int} {n : Nat} (hn : l.length = n) {e : Ending} {w' : World} (h : FGave w l e w') : ∃ A, e = .returned (.slice A n n) ∧ FLies w' A l ∧ Below w.heap.size w w' := by
  obtain ⟨g, rfl, hg, hc, hb⟩ := h
  subst hn
  exact ⟨_, rfl, fun j y hy => ⟨g, rfl, hg, hc j y hy⟩, hb⟩
theorem form_yes {k o d s i t : Int} {Fv : Value} (hv : okB k o d s i t = true) (hf : frmV k o d s i t = Fv) (w : World) :
    Calls Tryd.prog 19 #[.agg #[.int .i64 k, .int .i64 o, .int .i64 d, .int .i64 s, .int .i64 i, .int .i64 t]] w fun e w' => e = .returned (.tuple #[Fv, .bool true]) ∧ Below w.heap.size w w' := by
  have h := formOf_any k o d s i t w
  rw [hv, if_pos rfl, hf] at h
  exact h

theorem it_no (k o d s i t : Int) (w : World) (hv : okB k o d s i t = false) :
    Calls Tryd.prog 11 #[.agg #[.int .i64 k, .int .i64 o, .int .i64 d, .int .i64 s, .int .i64 i, .int .i64 t]] w fun e w' => e = .returned (.tuple #[.string (stS k o d s i t), .bool false]) ∧ Below w.heap.size w w' := by
  have HK := Lib.hid hv
  have hform : ∀ w : World, Calls Tryd.prog 19 #[.agg #[.int .i64 k, .int .i64 o, .int .i64 d, .int .i64 s, .int .i64 i, .int .i64 t]] w fun e w' => e = .returned (.tuple #[.nilIface, .bool false]) ∧ Below w.heap.size w w' := by
    intro w
    have h := formOf_any k o d s i t w
    rw [hv, if_neg (by decide)] at h
    exact h
  clear hv
  go_enter Tryd.func11, Tryd.ntmps11
  go_wp2_with fail
  refine (hform _).mono ?_
  rintro e w1 ⟨rfl, hb1⟩
  have H1 := Lib.hid (box_keep (box_new w 31 k o d s i t) hb1)
  clear hb1 hform
  go_wp2
  go_ret2
  exact ⟨ret_it (stS_no HK.out).symm, H1.out.1⟩

theorem it_yes (k o d s i t : Int) (w : World) (hv : okB k o d s i t = true) (ht : Lib.TabIs Tryd.prog w "internal/strconv.uint64pow10" .u64 Lib.pow10Tab) (hz : 0 < w.heap.size) (hkn : NamesIn w) :
    Calls Tryd.prog 11 #[.agg #[.int .i64 k, .int .i64 o, .int .i64 d, .int .i64 s, .int .i64 i, .int .i64 t]] w fun e w' => e = .returned (.tuple #[.string (stS k o d s i t), .bool true]) ∧ Below w.heap.size w w' := by
  have HP := okB_yes hv
  have hk : knB k = true := by
    have := okP_kind HP
    simpa [knB] using this
  have hb : (0 ≤ o ∧ o ≤ 65535) ∧ (0 ≤ d ∧ d ≤ 65535) ∧ (0 ≤ s ∧ s ≤ 65535) ∧ (0 ≤ i ∧ i ≤ 65535) ∧ (0 ≤ t ∧ t ≤ 65535) := by unfold okP at HP; omega
  obtain ⟨ho, hd, hs, hi, htt⟩ := hb
  rw [stS_yes hv]
  clear HP
  rcases kinds_of hk with rfl | rfl | rfl | rfl | rfl | rfl | rfl | rfl | rfl | rfl | rfl
  · exact implText_y 1 o d s i t _ [o, d, s] 3 ⟨#[111, 112]⟩ w rfl (by decide) (by show _ ≤ _; decide) (by intro y hy; simp only [List.mem_cons, List.not_mem_nil, or_false] at hy; rcases hy with rfl | rfl | rfl <;> assumption) ht (by decide) (by decide) hz (hkn 1 _ rfl) (form_yes hv (frm1 o d s i t)) (fun w => (fields_op o d s w).mono (fun _ _ h => fgave_lies rfl h))
  · exact implText_y 2 o d s i t _ [o, d, i] 3 ⟨#[111, 112, 105]⟩ w rfl (by decide) (by show _ ≤ _; decide) (by intro y hy; simp only [List.mem_cons, List.not_mem_nil, or_false] at hy; rcases hy with rfl | rfl | rfl <;> assumption) ht (by decide) (by decide) hz (hkn 2 _ rfl) (form_yes hv (frm2 o d s i t)) (fun w => (fields_opi o d i w).mono (fun _ _ h => fgave_lies rfl h))
  · exact implText_y 3 o d s i t _ [d, i] 2 ⟨#[115, 101, 116]⟩ w rfl (by decide) (by show _ ≤ _; decide) (by intro y hy; simp only [List.mem_cons, List.not_mem_nil, or_false] at hy; rcases hy with rfl | rfl <;> assumption) ht (by decide) (by decide) hz (hkn 3 _ rfl) (form_yes hv (frm3 o d s i t)) (fun w => (fields_byte 3 d i w).mono (fun _ _ h => fgave_lies rfl h))
  · exact implText_y 4 o d s i t _ [d, i] 2 ⟨#[119, 105, 100, 101]⟩ w rfl (by decide) (by show _ ≤ _; decide) (by intro y hy; simp only [List.mem_cons, List.not_mem_nil, or_false] at hy; rcases hy with rfl | rfl <;> assumption) ht (by decide) (by decide) hz (hkn 4 _ rfl) (form_yes hv (frm4 o d s i t)) (fun w => (fields_wide d i w).mono (fun _ _ h => fgave_lies rfl h))
  · exact implText_y 5 o d s i t _ [d, s, i] 3 ⟨#[99, 116, 120]⟩ w rfl (by decide) (by show _ ≤ _; decide) (by intro y hy; simp only [List.mem_cons, List.not_mem_nil, or_false] at hy; rcases hy with rfl | rfl | rfl <;> assumption) ht (by decide) (by decide) hz (hkn 5 _ rfl) (form_yes hv (frm5 o d s i t)) (fun w => (fields_ctx d s i w).mono (fun _ _ h => fgave_lies rfl h))
  · exact implText_y 6 o d s i t _ [d, i] 2 ⟨#[108, 111, 97, 100]⟩ w rfl (by decide) (by show _ ≤ _; decide) (by intro y hy; simp only [List.mem_cons, List.not_mem_nil, or_false] at hy; rcases hy with rfl | rfl <;> assumption) ht (by decide) (by decide) hz (hkn 6 _ rfl) (form_yes hv (frm6 o d s i t)) (fun w => (fields_byte 6 d i w).mono (fun _ _ h => fgave_lies rfl h))
  · exact implText_y 7 o d s i t _ [d, i] 2 ⟨#[115, 116, 111, 114, 101]⟩ w rfl (by decide) (by show _ ≤ _; decide) (by intro y hy; simp only [List.mem_cons, List.not_mem_nil, or_false] at hy; rcases hy with rfl | rfl <;> assumption) ht (by decide) (by decide) hz (hkn 7 _ rfl) (form_yes hv (frm7 o d s i t)) (fun w => (fields_byte 7 d i w).mono (fun _ _ h => fgave_lies rfl h))
  · exact implText_y 8 o d s i t _ [t] 1 ⟨#[106, 117, 109, 112]⟩ w rfl (by decide) (by show _ ≤ _; decide) (by intro y hy; simp only [List.mem_cons, List.not_mem_nil, or_false] at hy; subst hy; assumption) ht (by decide) (by decide) hz (hkn 8 _ rfl) (form_yes hv (frm8 o d s i t)) (fun w => (fields_jump t w).mono (fun _ _ h => fgave_lies rfl h))
  · exact implText_y 9 o d s i t _ [d, s, t] 3 ⟨#[101, 113]⟩ w rfl (by decide) (by show _ ≤ _; decide) (by intro y hy; simp only [List.mem_cons, List.not_mem_nil, or_false] at hy; rcases hy with rfl | rfl | rfl <;> assumption) ht (by decide) (by decide) hz (hkn 9 _ rfl) (form_yes hv (frm9 o d s i t)) (fun w => (fields_branch 9 d s t w).mono (fun _ _ h => fgave_lies rfl h))
  · exact implText_y 10 o d s i t _ [d, s, t] 3 ⟨#[108, 101, 115, 115]⟩ w rfl (by decide) (by show _ ≤ _; decide) (by intro y hy; simp only [List.mem_cons, List.not_mem_nil, or_false] at hy; rcases hy with rfl | rfl | rfl <;> assumption) ht (by decide) (by decide) hz (hkn 10 _ rfl) (form_yes hv (frm10 o d s i t)) (fun w => (fields_branch 10 d s t w).mono (fun _ _ h => fgave_lies rfl h))
  · exact implText_y 11 o d s i t _ [] 0 ⟨#[101, 120, 105, 116]⟩ w rfl (by decide) (by show _ ≤ _; decide) (by intro y hy; simp at hy) ht (by decide) (by decide) hz (hkn 11 _ rfl) (form_yes hv (frm11 o d s i t)) (fun w => (fields_exit w).mono (fun _ _ h => ⟨none, h.1, fun j y hy => by simp at hy, h.2⟩))
theorem implStepText_any (k o d s i t : Int) (w : World) (b : Bool) (hb : okB k o d s i t = b) (ht : Lib.TabIs Tryd.prog w "internal/strconv.uint64pow10" .u64 Lib.pow10Tab) (hz : 0 < w.heap.size) (hkn : NamesIn w) :
    Calls Tryd.prog 11 #[.agg #[.int .i64 k, .int .i64 o, .int .i64 d, .int .i64 s, .int .i64 i, .int .i64 t]] w fun e w' => e = .returned (.tuple #[.string (stS k o d s i t), .bool b]) ∧ Below w.heap.size w w' := by
  cases b
  · exact it_no k o d s i t w hb
  · exact it_yes k o d s i t w hb ht hz hkn
end Go.Proofs.YtffeiegbnlbaiaaDoor
