/-
  Contracts of StepBytes: the model's and the program's.
-/
import Derived.Test.YtffeiegbnlbaiaaDoorEnc
namespace Go.Proofs.YtffeiegbnlbaiaaDoor
open Go.ChangeShapes Go.WideShapes Go.ChangeAt Go.RowKit

/-- what StepBytes returns -/
def sbS (k o d s i t : Int) : ByteArray := if okB k o d s i t then encS k o d s i t else ⟨#[]⟩
theorem sbS_yes {k o d s i t : Int} (h : okB k o d s i t = true) : encS k o d s i t = sbS k o d s i t := by rw [sbS, if_pos h]
theorem sbS_no {k o d s i t : Int} (h : okB k o d s i t = false) : (⟨#[]⟩ : ByteArray) = sbS k o d s i t := by rw [sbS, if_neg (by simp [h])]
theorem ret_sb {a b : ByteArray} {c : Bool} (h : a = b) : Ending.returned (.tuple #[.string a, .bool c]) = .returned (.tuple #[.string b, .bool c]) := by rw [h]

set_option maxRecDepth 100000 in
set_option maxHeartbeats 1000000 in
theorem specStepBytes_any (k o d s i t : Int) (w : World) (b : Bool) (hb : okB k o d s i t = b) :
    Calls Tryd.prog 10 #[.agg #[.int .i64 k, .int .i64 o, .int .i64 d, .int .i64 s, .int .i64 i, .int .i64 t]] w fun e w' => e = .returned (.tuple #[.string (sbS k o d s i t), .bool b]) ∧ Below w.heap.size w w' := by
  have HK := Lib.hid hb
  clear hb
  go_enter Tryd.func10, Tryd.ntmps10
  go_wp2_with fail
  refine (l2Step_any _ _ _ _ _ _ _).mono ?_
  rintro e w1 ⟨rfl, hb1⟩
  have H1 := Lib.hid (box_keep (box_new w 31 k o d s i t) hb1)
  clear hb1
  obtain ⟨-, z1, c0, c1, c2, c3, c4, c5⟩ := H1.out
  rw [HK.out]
  cases b
  · go_wp2
    go_ret2
    exact ⟨ret_sb (sbS_no HK.out), H1.out.1⟩
  · go_wp2_with fail
    refine (l2Bytes_any _ _ _ _ _ _ _ (okB_yes HK.out)).mono ?_
    rintro e w2 ⟨rfl, hb2⟩
    have H2 := Lib.hid (box_keep H1.out hb2)
    clear hb2
    go_wp2
    go_ret2
    exact ⟨ret_sb (sbS_yes HK.out), H2.out.1⟩

theorem own_built1 (w : World) (C : Obj) (cs : Array Value) (n : Nat) (hn : cs.size = n) (hm : n ≤ maxLen) :
    ((w.alloc (.cells cs 5)).alloc C).ownsRow w.heap.size 5 1 (.slice (some ⟨w.heap.size, 0, none⟩) n n) n cs.toList := by
  refine ⟨by simp [hn], .inr ⟨w.heap.size, n, cs, rfl, by omega, ?_, Nat.le_refl _, hm, by simp [hn], List.take_of_length_le (by simp [hn])⟩⟩
  rw [Below.heap_alloc _ _ _ (by simp)]
  exact heap_alloc_new w (.cells cs 5)
theorem news2 (w : World) (B : Obj) (l : List Value) (t : TypeId) : ∀ j u, l[j]? = some u → ((w.alloc B).alloc (.cells l.toArray t)).cell? ((⟨w.heap.size + 1, 0, none⟩ : Addr).add j) = some u := by
  have h := heap_alloc_new (w.alloc B) (.cells l.toArray t)
  have hs : (w.alloc B).heap.size = w.heap.size + 1 := by simp
  rw [hs] at h
  exact World.news_of_block h
theorem below2g {w w1 : World} {A B : Obj} {n c : Nat} (h : ((w.alloc A).alloc B).grownBy w1 (Value.slice (some ⟨w.heap.size, 0, none⟩) n c).ownBlock) : Below w.heap.size w w1 :=
  (below2 w A B).grown h (by simp; omega) (fun k hk => by have := Option.some.inj hk; simp only at this; omega)

set_option maxRecDepth 100000 in
set_option maxHeartbeats 1000000 in
theorem stepBytes_any (k o d s i t : Int) (w : World) (b : Bool) (hb : okB k o d s i t = b) :
    Calls Tryd.prog 9 #[.agg #[.int .i64 k, .int .i64 o, .int .i64 d, .int .i64 s, .int .i64 i, .int .i64 t]] w fun e w' => e = .returned (.tuple #[.string (sbS k o d s i t), .bool b]) ∧ Below w.heap.size w w' := by
  have HK := Lib.hid hb
  clear hb
  go_enter Tryd.func9, Tryd.ntmps9
  go_wp2_with fail
  refine (formOf_any _ _ _ _ _ _ _).mono ?_
  rintro e w1 ⟨rfl, hb1⟩
  have H1 := Lib.hid (box_keep (box_new w 31 k o d s i t) hb1)
  clear hb1
  obtain ⟨-, z1, c0, c1, c2, c3, c4, c5⟩ := H1.out
  rw [HK.out]
  generalize (if b = true then frmV k o d s i t else .nilIface) = f
  cases b
  · go_wp2
    go_ret2
    exact ⟨ret_sb (sbS_no HK.out), H1.out.1⟩
  · obtain ⟨hk, ho, hd, hs, hi, ht⟩ := okP_bounds (okB_yes HK.out)
    cases h4 : (k == 4)
    · have HE : Hid (encS k o d s i t = strOfNums [k + 16 * o, 16 * d + s, t, i % 256]) := by
        show encS k o d s i t = _
        have : ¬ k = 4 := by simpa using h4
        rw [encS, encL, if_neg this]
      have hconv := conv_new w1 [k + 16 * o, 16 * d + s, t, i % 256] 4 4 rfl
      simp only [List.map_cons, List.map_nil] at hconv
      go_wp2
      go_ret2
      exact ⟨ret_sb (HE.out.symm.trans (sbS_yes HK.out)), H1.out.1.trans ((below1 w1 _).mono H1.out.1.size)⟩
    · obtain rfl : k = 4 := by simpa using h4
      clear h4
      obtain ⟨i0, hi0, hz0, hz1, hz2⟩ := info_parts info_u8
      have HE : Hid (encS 4 o d s i t = strOfNums ([4 + 16 * o, 16 * d + s, t, i % 256] ++ [0, 0, 0, i / 256])) := by
        show encS 4 o d s i t = _
        rw [encS, encL, if_pos rfl]
      have hown := own_built1 w1 (.cells #[.int .u8 0, .int .u8 0, .int .u8 0, .int .u8 (i / 256)] 5) #[.int .u8 (4 + 16 * o), .int .u8 (16 * d + s), .int .u8 t, .int .u8 (i % 256)] 4 rfl (by simp [maxLen])
      have HO := Lib.hid hown
      clear hown
      have HN : Hid (∀ u ∈ [Value.int .u8 0, Value.int .u8 0, Value.int .u8 0, Value.int .u8 (i / 256)], u.oneCell' = true) := by
        show ∀ u ∈ [Value.int .u8 0, Value.int .u8 0, Value.int .u8 0, Value.int .u8 (i / 256)], u.oneCell' = true
        intro u hu
        simp at hu
        rcases hu with rfl | rfl <;> rfl
      go_wp2_with (at_builtin; (refine wpList_append_lies _ rfl _ _ 22 rfl w1.heap.size 5 i0 (.int .u8 0) 1 1 Tryd.underlying22 hi0 hz0 hz1 hz2 rfl (by omega) _ 4 _ rfl HO.out ⟨w1.heap.size + 1, 0, none⟩ 4 4 [.int .u8 0, .int .u8 0, .int .u8 0, .int .u8 (i / 256)] rfl rfl (by exact news2 w1 _ _ _) HN.out (by omega) (by unfold maxLen; omega) (by omega) (by first | omega | (simp; omega)) (w1.heap.size + 1 + 1) (by first | rfl | simp) ?_; intro g cap w2 hown1 hgrow hat hlt; have hconv := conv_own w2 w1.heap.size g 8 cap ([4 + 16 * o, 16 * d + s, t, i % 256] ++ [0, 0, 0, i / 256]) hown1; have HB := Lib.hid (below2g hgrow); clear hown1 hgrow hat hlt))
      go_ret2
      exact ⟨ret_sb (HE.out.symm.trans (sbS_yes HK.out)), H1.out.1.trans (HB.out.mono H1.out.1.size)⟩
end Go.Proofs.YtffeiegbnlbaiaaDoor
