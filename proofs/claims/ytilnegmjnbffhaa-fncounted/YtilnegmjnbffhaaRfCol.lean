/-
  Lists that are collected in rounds: what a box holds, an append in a round; slices.AppendSeq and slices.Collect over an iterator with blocks of its own.
-/
import Derived.Test.YtilnegmjnbffhaaRfIt
namespace Go.Proofs.Ytilnegmjnbffhaa
open Go.ChangeShapes Go.WideShapes Go.ChangeAt Go.RowKit
attribute [local go_sem] Oper.semAt_some

theorem SeqR.later {α : Type} {P : Program} {g : Nat} {lb : Array Value} {encs : α → Array Value} {xs : List α} {k : Nat} {T : Nat → Prop} {w w1 : World} (h : SeqR P g lb encs xs k T w) (hb : Below w.heap.size w w1) : SeqR P g lb encs xs k T w1 :=
  fun l J W hW hJ hY h0 => h l J W (Below.tr hb hW) hJ hY h0
/-- a box that holds a slice of one's own, of these numbers -/
def CB (W : World) (B base : Nat) (xs : List Int) : Prop := ∃ A c, Blk W B 28 [.slice A xs.length c] ∧ W.ownsRow base 3 1 (.slice A xs.length c) xs.length (xs.map (Value.int .i64))
theorem CB.kept {W W' : World} {B base : Nat} {xs : List Int} {S : Nat → Prop} (h : CB W B base xs) (hk : Kept W W' S) (hB : ¬ S B) (hs : ∀ g, S g → g < base) : CB W' B base xs := by
  obtain ⟨A, c, h1, h2⟩ := h
  exact ⟨A, c, hk.blk h1 hB, hk.own h2 (fun g hg q => by have := (h2.lt g hg).1; have := hs g q; omega)⟩
/-- behind an append of one number and the store into the box -/
theorem CB.app {W w3 : World} {B base g3 c3 c : Nat} {A : Option Addr} {xs : List Int} {x : Int} {o : Obj} (hB : B < base) (h1 : Blk W B 28 [.slice A xs.length c])
    (h2 : W.ownsRow base 3 1 (.slice A xs.length c) xs.length (xs.map (Value.int .i64)))
    (h3 : w3.ownsRow base 3 1 (.slice (some ⟨g3, 0, none⟩) (xs.length + 1) c3) (xs.length + 1) (xs.map (Value.int .i64) ++ [.int .i64 x])) (hg : (W.alloc o).grownBy w3 (Value.slice A xs.length c).ownBlock) :
    Blk w3 B 28 [.slice A xs.length c] ∧ CB (w3.setCell ⟨B, 0, none⟩ (.slice (some ⟨g3, 0, none⟩) (xs.length + 1) c3)) B base (xs ++ [x]) ∧ Kept W (w3.setCell ⟨B, 0, none⟩ (.slice (some ⟨g3, 0, none⟩) (xs.length + 1) c3)) (fun i => i = B ∨ base ≤ i) := by
  have kg : Kept W w3 (fun i => i = B ∨ base ≤ i) := (Kept.of_below (below1 W o)).trans (Kept.of_grown hg (fun g e => .inr (h2.lt g e).1))
  have b3 : Blk w3 B 28 [.slice A xs.length c] := by
    have kb : Kept W w3 (fun i => base ≤ i) := (Kept.of_below (below1 W o)).trans (Kept.of_grown hg (fun g e => (h2.lt g e).1))
    exact kb.blk h1 (by omega)
  refine ⟨b3, ⟨some ⟨g3, 0, none⟩, c3, ?_, ?_⟩, kg.trans (Kept.set.mono (fun i h => .inl h))⟩
  · have := b3.set 0 (.slice (some ⟨g3, 0, none⟩) (xs.length + 1) c3)
    simpa using this
  · have e : (xs ++ [x]).length = xs.length + 1 := by simp
    rw [e, List.map_append]
    exact (Kept.set (w := w3) (g := B) (j := 0)).own h3 (fun g hg2 q => by have := (h3.lt g hg2).1; omega)

set_option maxRecDepth 100000 in
set_option maxHeartbeats 4000000 in
theorem appendSeq_any (gf : Nat) (lb : Array Value) (xs : List Int) (k : Nat) (T : Nat → Prop) (w : World) (hs : Hid (SeqR Try.prog gf lb (fun x : Int => #[.int .i64 x]) xs k T w)) (eg : ∀ args w, (callFunc gf args).run Try.prog w = .ok (.enter gf args) w)
    (hT : Hid (∀ i, T i → i < w.heap.size)) (hx : xs.length ≤ 1000) :
    Calls Try.prog 63 #[.slice none 0 0, .func (.func gf) #[] lb] w (GaveInts w xs) := by
  obtain ⟨i0, hi0, hz0, hz1, hz2⟩ := info_parts info_int
  refine (callsIn_wide (n := 0)).1 ?_
  refine callsIn_of_wp_marks Try.func63 rfl trivial ?_ rfl
  simp only [Try.ntmps63, List.size_toArray, List.length_cons, List.length_nil, Nat.reduceAdd, Nat.reduceSub, Array.replicate_succ, Array.replicate_zero, List.push_toArray, List.append_toArray, List.nil_append, List.cons_append]
  gi_wp2
  refine rangeR (gf := gf) (lb := lb) rfl eg (hs.out.later (below1 _ _)) (fun _ => rfl) (fun i h => by have := hT.out i h; simp; omega)
    (fun pre W => CB W w.heap.size (w.heap.size + 1 + (2 + k)) pre ∧ Below w.heap.size w W) ?_ ?_
    (fun x => { tmps := #[.slice none 0 0, .func (.func gf) #[] lb, .pointer (some ⟨w.heap.size, 0, none⟩), undef, .slice none 0 0, .int .i64 x, .func (.func gf) #[] lb, .int .i64 x, undef, undef, undef, undef, undef], defers := [] })
    ?assign ?body ?done
  · rintro s A B ⟨h1, h2⟩ hk
    rw [World.size_alloc] at hk
    exact ⟨h1.kept hk (fun q => by unfold Prv at q; omega) (fun g q => by unfold Prv at q; omega), hk.below h2 h2.size (fun i q => by unfold Prv at q; omega)⟩
  · exact ⟨⟨none, 0, heap_alloc_new w _, World.ownsRow_nil _ _ _ _⟩, below1 w _⟩
  case assign =>
    intro l m x W K hK
    gi_wp2
    exact hK
  case body =>
    rintro l m pre x rest W hxs ⟨⟨A, c, h1, h2⟩, hb⟩ hsz
    have HXS := Lib.hid hxs
    have H1 := Lib.hid h1
    have H2 := Lib.hid h2
    have HB := Lib.hid hb
    have hc := h1.cell 0
    simp only [List.getElem?_cons_zero] at hc
    have hlt := h1.lt
    rw [World.size_alloc] at hsz
    have hpl : pre.length ≤ 1000 := by have := congrArg List.length hxs; simp at this; omega
    clear hxs h1 h2 hb
    gi_wp2_with (gi_at_builtin; refine wpListIn_append_own _ rfl _ _ 28 rfl (w.heap.size + 1 + (2 + k)) 3 i0 (.int .i64 0) 1 8 Try.underlying28 hi0 hz0 hz1 hz2 rfl (by decide) _ _ _ rfl (own_below H2.out (below1 _ _)) ⟨(W).heap.size, 0, none⟩ 1 1 [.int .i64 (x)] rfl rfl (one_new1 _ _ _) (by simp [Value.oneCell']) (by unfold maxLen; omega) (by omega) (by simp; omega) ?_; intro v3 w3 hown3 hg3 _; obtain ⟨g3, cap3, rfl⟩ := ownsRow_succ hown3; obtain ⟨hb3, hcb, hkp⟩ := CB.app (by omega) H1.out H2.out hown3 hg3; have hc3 := hb3.cell 0; have hf3 := hb3.frozen 0; simp only [List.getElem?_cons_zero] at hc3; have CBX := Lib.hid hcb; have KPX := Lib.hid hkp; clear hcb hkp hown3 hg3)
    refine ⟨KPX.out.mono (fun i q => ⟨fun t => ?_, fun p => ?_⟩), CBX.out, KPX.out.below HB.out HB.out.size (fun i q => by omega)⟩
    · have := hT.out i t; omega
    · unfold Prv at p; rw [World.size_alloc] at p; omega
  case done =>
    rintro D W rfl ⟨⟨A, c, h1, h2⟩, hb⟩ hK
    have hc := h1.cell 0
    simp only [List.getElem?_cons_zero] at hc
    gi_wp2
    refine ⟨by simp, .inl ⟨_, _, rfl, run_takeDeferred hK, ?_⟩⟩
    exact ⟨_, results_tmp rfl _ _ _, A, c, rfl, own_base (ownsRow_putObj h2 _ hK rfl) (by omega), (Kept.put W _ _).below hb hb.size (fun i q => by simp at q; omega)⟩
theorem callFunc_of {f : Nat} (h : Enters Try.prog f) : ∀ args w, (callFunc f args).run Try.prog w = .ok (.enter f args) w := h
set_option maxRecDepth 100000 in
set_option maxHeartbeats 2000000 in
theorem collect_any (gf : Nat) (lb : Array Value) (xs : List Int) (k : Nat) (T : Nat → Prop) (w : World) (hs : Hid (SeqR Try.prog gf lb (fun x : Int => #[.int .i64 x]) xs k T w)) (eg : ∀ args w, (callFunc gf args).run Try.prog w = .ok (.enter gf args) w)
    (hT : Hid (∀ i, T i → i < w.heap.size)) (hx : xs.length ≤ 1000) :
    Calls Try.prog 44 #[.func (.func gf) #[] lb] w (GaveInts w xs) := by
  have EG := Lib.hid eg
  clear eg
  go_enter Try.func44, Try.ntmps44
  go_wp2_with fail
  refine (appendSeq_any gf lb xs k T w hs EG.out hT hx).mono ?_
  rintro e w1 ⟨A, c, rfl, hown, hb⟩
  have O1 := Lib.hid hown
  have B1 := Lib.hid hb
  clear hown hb
  go_wp2
  go_ret
  exact ⟨A, c, rfl, O1.out, B1.out⟩
end Go.Proofs.Ytilnegmjnbffhaa
