/-
  Contracts of the encoding of a step: the model's and the program's.
-/
import Derived.Test.YtffeiegbnlbaiaaDoorSpec2
import Derived.Laws.BytesArg
import Derived.Deep.AppendLies
import Derived.OwnWalk
namespace Go.Proofs.YtffeiegbnlbaiaaDoor
open Go.ChangeShapes Go.WideShapes Go.ChangeAt Go.RowKit

theorem ret_str {a b : ByteArray} (h : a = b) : Ending.returned (.string a) = .returned (.string b) := by rw [h]
/-- the bytes of a step -/
def encL (k o d s i t : Int) : List Int := if k = 4 then [k + 16 * o, 16 * d + s, t, i % 256] ++ [0, 0, 0, i / 256] else [k + 16 * o, 16 * d + s, t, i % 256]
def encS (k o d s i t : Int) : ByteArray := strOfNums (encL k o d s i t)

theorem conv_new (w : World) (l : List Int) (n c : Nat) (hn : l.length = n) :
    (convert 22 9 (.slice (some ⟨w.heap.size, 0, none⟩) n c)).run Tryd.prog (w.alloc (.cells (l.map (Value.int .u8)).toArray 5)) = .ok (.string (strOfNums l)) (w.alloc (.cells (l.map (Value.int .u8)).toArray 5)) := by
  refine run_convert_bytes_arg _ 22 5 Tryd.underlying22 Tryd.underlying5 _ _ _ _ l hn (fun i hi => ?_) 9 Tryd.underlying9
  have hb : (w.alloc (.cells (l.map (Value.int .u8)).toArray 5)).heap[w.heap.size]? = some (.cells (l.map (Value.int .u8)).toArray 5) := heap_alloc_new w _
  simp only [World.cell?, hb]
  have : i < l.length := by omega
  simp [this]
theorem conv_own (w : World) (base g n cap : Nat) (l : List Int) (h : w.ownsRow base 5 1 (.slice (some ⟨g, 0, none⟩) n cap) n (l.map (Value.int .u8))) :
    (convert 22 9 (.slice (some ⟨g, 0, none⟩) n cap)).run Tryd.prog w = .ok (.string (strOfNums l)) w := by
  have hl : l.length = n := by have := h.1; simpa using this
  refine run_convert_bytes_arg _ 22 5 Tryd.underlying22 Tryd.underlying5 _ _ _ _ l hl (fun i hi => ?_) 9 Tryd.underlying9
  have hg : (l.map (Value.int .u8))[i]? = some (.int .u8 (l.getD i 0)) := by
    have : i < l.length := by omega
    simp [this]
  have := h.cells (g := g) rfl i _ hg
  rw [add_plain] at this
  exact this
/-- a row just laid, one block behind it -/
theorem own_built (w : World) (A C : Obj) (cs : Array Value) (n : Nat) (hn : cs.size = n) (hm : n ≤ maxLen) :
    (((w.alloc A).alloc (.cells cs 5)).alloc C).ownsRow w.heap.size 5 1 (.slice (some ⟨w.heap.size + 1, 0, none⟩) n n) n cs.toList := by
  refine ⟨by simp [hn], .inr ⟨w.heap.size + 1, n, cs, rfl, by omega, ?_, Nat.le_refl _, hm, by simp [hn], List.take_of_length_le (by simp [hn])⟩⟩
  rw [Below.heap_alloc _ _ _ (by simp)]
  have := heap_alloc_new (w.alloc A) (.cells cs 5)
  simpa using this
theorem news3 (w : World) (A B : Obj) (l : List Value) (t : TypeId) : ∀ j u, l[j]? = some u → (((w.alloc A).alloc B).alloc (.cells l.toArray t)).cell? ((⟨w.heap.size + 1 + 1, 0, none⟩ : Addr).add j) = some u := by
  have h := heap_alloc_new ((w.alloc A).alloc B) (.cells l.toArray t)
  have hs : ((w.alloc A).alloc B).heap.size = w.heap.size + 1 + 1 := by simp
  rw [hs] at h
  exact World.news_of_block h
theorem below3g {w w1 : World} {A B C : Obj} {n c : Nat} (h : (((w.alloc A).alloc B).alloc C).grownBy w1 (Value.slice (some ⟨w.heap.size + 1, 0, none⟩) n c).ownBlock) : Below w.heap.size w w1 :=
  (below3 w A B C).grown h (by simp; omega) (fun k hk => by have := Option.some.inj hk; simp only at this; omega)
theorem info_u8 : (Tryd.prog.info? 5).map (fun i => (i.zero, i.size, i.bytes)) = some (some (.int .u8 0), 1, 1) := by kernel_rfl

set_option maxRecDepth 100000 in
set_option maxHeartbeats 1000000 in
theorem l2Bytes_any (k o d s i t : Int) (w : World) (h : okP k o d s i t) :
    Calls Tryd.prog 24 #[.agg #[.int .i64 k, .int .i64 o, .int .i64 d, .int .i64 s, .int .i64 i, .int .i64 t]] w fun e w' => e = .returned (.string (encS k o d s i t)) ∧ Below w.heap.size w w' := by
  obtain ⟨hk, ho, hd, hs, hi, ht⟩ := okP_bounds h
  clear h
  cases h4 : (k == 4)
  · have HE : Hid (encS k o d s i t = strOfNums [k + 16 * o, 16 * d + s, t, i % 256]) := by
      show encS k o d s i t = _
      have : ¬ k = 4 := by simpa using h4
      rw [encS, encL, if_neg this]
    have hconv : (convert 22 9 (.slice (some ⟨w.heap.size + 1, 0, none⟩) 4 4)).run Tryd.prog ((w.alloc (.cells #[.int .i64 k, .int .i64 o, .int .i64 d, .int .i64 s, .int .i64 i, .int .i64 t] 31)).alloc (.cells #[.int .u8 (k + 16 * o), .int .u8 (16 * d + s), .int .u8 t, .int .u8 (i % 256)] 5)) = .ok (.string (strOfNums [k + 16 * o, 16 * d + s, t, i % 256])) ((w.alloc (.cells #[.int .i64 k, .int .i64 o, .int .i64 d, .int .i64 s, .int .i64 i, .int .i64 t] 31)).alloc (.cells #[.int .u8 (k + 16 * o), .int .u8 (16 * d + s), .int .u8 t, .int .u8 (i % 256)] 5)) := by
      have := conv_new (w.alloc (.cells #[.int .i64 k, .int .i64 o, .int .i64 d, .int .i64 s, .int .i64 i, .int .i64 t] 31)) [k + 16 * o, 16 * d + s, t, i % 256] 4 4 rfl
      simpa using this
    go_enter Tryd.func24, Tryd.ntmps24
    go_wp2
    go_ret
    exact ⟨ret_str HE.out.symm, below2 _ _ _⟩
  · obtain rfl : k = 4 := by simpa using h4
    clear h4
    obtain ⟨i0, hi0, hz0, hz1, hz2⟩ := info_parts info_u8
    have HE : Hid (encS 4 o d s i t = strOfNums ([4 + 16 * o, 16 * d + s, t, i % 256] ++ [0, 0, 0, i / 256])) := by
      show encS 4 o d s i t = _
      rw [encS, encL, if_pos rfl]
    have hown := own_built w (.cells #[.int .i64 4, .int .i64 o, .int .i64 d, .int .i64 s, .int .i64 i, .int .i64 t] 31) (.cells #[.int .u8 0, .int .u8 0, .int .u8 0, .int .u8 (i / 256)] 5) #[.int .u8 (4 + 16 * o), .int .u8 (16 * d + s), .int .u8 t, .int .u8 (i % 256)] 4 rfl (by simp [maxLen])
    have HO := Lib.hid hown
    clear hown
    have HN : Hid (∀ u ∈ [Value.int .u8 0, Value.int .u8 0, Value.int .u8 0, Value.int .u8 (i / 256)], u.oneCell' = true) := by
      show ∀ u ∈ [Value.int .u8 0, Value.int .u8 0, Value.int .u8 0, Value.int .u8 (i / 256)], u.oneCell' = true
      intro u hu
      simp at hu
      rcases hu with rfl | rfl <;> rfl
    go_enter Tryd.func24, Tryd.ntmps24
    go_wp2_with (at_builtin; (refine wpList_append_lies _ rfl _ _ 22 rfl w.heap.size 5 i0 (.int .u8 0) 1 1 Tryd.underlying22 hi0 hz0 hz1 hz2 rfl (by omega) _ 4 _ rfl HO.out ⟨w.heap.size + 1 + 1, 0, none⟩ 4 4 [.int .u8 0, .int .u8 0, .int .u8 0, .int .u8 (i / 256)] rfl rfl (by exact news3 w _ _ _ _) HN.out (by omega) (by unfold maxLen; omega) (by omega) (by first | omega | (simp; omega)) (w.heap.size + 1 + 1 + 1) (by first | rfl | simp) ?_; intro g cap w1 hown1 hgrow hat hlt; have hconv := conv_own w1 w.heap.size g 8 cap ([4 + 16 * o, 16 * d + s, t, i % 256] ++ [0, 0, 0, i / 256]) hown1; have HB := Lib.hid (below3g hgrow); clear hown1 hgrow hat hlt))
    go_ret
    exact ⟨ret_str HE.out.symm, HB.out⟩
end Go.Proofs.YtffeiegbnlbaiaaDoor
