/-
  The nodes of a builder in their order; the diagram of a table: the program's.
-/
import Derived.Test.YtklcfbjaodildaaBd
namespace Go.Proofs.Ytklcfbjaodildaa
open Go.ChangeShapes Go.WideShapes Go.ChangeAt Go.RowKit Go.Maps

set_option maxRecDepth 100000 in
theorem info_node : (Try.prog.info? 43).map (fun i => (i.zero, i.size, i.bytes)) = some (some (.agg #[.int .i64 0, .int .i64 0, .int .i64 0]), 3, 24) := by kernel_rfl
/-- the row of the nodes as it fills -/
def NFill (g : Nat) (ns : List Nd) (left : Lit → Bool) (w : World) : Prop :=
  ∃ cur : List Value, Blk w g 43 cur ∧ cur.length = ns.length * 3 ∧ ∀ (i : Nat) (x : Nd) kl, ns[i]? = some x → keyOf Try.prog 43 x.val = some kl → left kl = false → ∀ j, j < 3 → cur[i * 3 + j]? = x.cells[j]?
theorem NFill.there {g : Nat} {ns : List Nd} {left : Lit → Bool} {w : World} (h : NFill g ns left w) (j : Nat) (hj : j < ns.length * 3) : ∃ v, w.cell? ⟨g, j, none⟩ = some v := by
  obtain ⟨cur, h1, h2, _⟩ := h
  exact ⟨_, (h1.cell j).trans (List.getElem?_eq_getElem (by omega))⟩
theorem NFill.free {g : Nat} {ns : List Nd} {left : Lit → Bool} {w : World} (h : NFill g ns left w) (j : Nat) : w.frozen? ⟨g, j, none⟩ = false := by
  obtain ⟨cur, h1, _⟩ := h
  exact h1.frozen j
theorem NFill.kept {g : Nat} {ns : List Nd} {left : Lit → Bool} {w w' : World} {S : Nat → Prop} (h : NFill g ns left w) (hk : Kept w w' S) (hn : ¬ S g) : NFill g ns left w' := by
  obtain ⟨cur, h1, h2⟩ := h
  exact ⟨cur, hk.blk h1 hn, h2⟩
set_option maxRecDepth 100000 in
theorem NFill.step {g : Nat} {ns : List Nd} {left : Lit → Bool} {w : World} (h : NFill g ns left w) (hd : ns.Nodup) {i : Nat} {x : Nd} {kl : Lit} (hx : ns[i]? = some x) (hk : keyOf Try.prog 43 x.val = some kl) :
    NFill g ns (fun z => left z && !z.sameKey kl) (((w.setCell ⟨g, i * 3, none⟩ (.int .i64 x.v)).setCell ⟨g, i * 3 + 1, none⟩ (.int .i64 x.l)).setCell ⟨g, i * 3 + 2, none⟩ (.int .i64 x.h)) := by
  obtain ⟨cur, h1, h2, h3⟩ := h
  have hi := (List.getElem?_eq_some_iff.1 hx).1
  refine ⟨_, ((h1.set _ _).set _ _).set _ _, by simp [h2], fun i' y kl' hy hk' hl j hj => ?_⟩
  by_cases e : i' = i
  · subst e
    rw [hx] at hy
    injection hy with hy
    subst hy
    have hq : j = 0 ∨ j = 1 ∨ j = 2 := by omega
    rcases hq with rfl | rfl | rfl <;> simp [List.getElem?_set, Nd.cells] <;> omega
  · have hne : kl' ≠ kl := by
      rintro rfl
      have := Nd.val_inj (nd_law.inj hk' hk)
      subst this
      have e1 := idxOf_nodup hd hx
      have e2 := idxOf_nodup hd hy
      omega
    have hl : left kl' = false := by
      have hl' : (left kl' && !kl'.sameKey kl) = false := hl
      rw [sameKey_ne hne] at hl'
      simpa using hl'
    rw [← h3 i' y kl' hy hk' hl j hj]
    simp only [List.getElem?_set]
    rw [if_neg (by omega), if_neg (by omega), if_neg (by omega)]
set_option maxRecDepth 100000 in
theorem NFill.end_ {g : Nat} {ns : List Nd} {left : Lit → Bool} {w : World} (h : NFill g ns left w) (hs : ∀ x ∈ ns, ∃ kl, keyOf Try.prog 43 x.val = some kl) (hl : ∀ kl, left kl = false) : Blk w g 43 (ncells ns) := by
  obtain ⟨cur, h1, h2, h3⟩ := h
  have : cur = ncells ns := by
    apply List.ext_getElem?
    intro k
    by_cases hk : k < ns.length * 3
    · have hlt : k / 3 < ns.length := by omega
      have hx := List.getElem?_eq_getElem hlt
      obtain ⟨kl, hkl⟩ := hs _ (List.getElem_mem hlt)
      have e1 := h3 (k / 3) _ kl hx hkl (hl kl) (k % 3) (by omega)
      have e2 := ncells_at ns (k / 3) _ hx (k % 3) (by omega)
      have e3 : k / 3 * 3 + k % 3 = k := by omega
      rw [e3] at e1 e2
      rw [e1, e2]
    · rw [List.getElem?_eq_none (by omega), List.getElem?_eq_none (by rw [ncells_len]; omega)]
  rw [← this]
  exact h1
set_option maxRecDepth 100000 in
theorem NFill.start {w : World} {base n : Nat} {l : List Value} {ns : List Nd} {g : Nat} {left : Lit → Bool} (hn : ns.length = n) (h : w.ownsRow base 43 3 (.slice (some ⟨g, 0, none⟩) n n) n l) (hl : ∀ (i : Nat) (x : Nd) kl, ns[i]? = some x → keyOf Try.prog 43 x.val = some kl → left kl = true) : NFill g ns left w := by
  rcases h.2 with ⟨h', _⟩ | ⟨g', cap', cur, h', hb, hg, hnc, hcm, hcs, htake⟩
  · simp at h'
  · simp only [Value.slice.injEq, Option.some.injEq, Addr.mk.injEq, and_true, true_and] at h'
    obtain ⟨rfl, rfl⟩ := h'
    refine ⟨cur.toList, by simpa [Blk] using hg, by simp [hcs, hn], fun i x kl hx hk hf => ?_⟩
    rw [hl i x kl hx hk] at hf
    cases hf
theorem set3_kept (w : World) (g a b c : Nat) (u v x : Value) (o : Obj) : Kept w ((((w.setCell ⟨g, a, none⟩ u).setCell ⟨g, b, none⟩ v).setCell ⟨g, c, none⟩ x).alloc o) (fun i => i = g) :=
  ((Kept.set.trans Kept.set).trans Kept.set).trans (Kept.of_below (below1 _ _))
theorem Kept.grown {w w' : World} {g : Nat} (h : Kept w w' (fun i => i = g)) : w.grownBy w' (some g) :=
  ⟨h.os, h.tape, h.output, h.size, fun i hi hne => h.block i hi (fun e => hne (by rw [e]))⟩
set_option maxRecDepth 100000 in
set_option maxHeartbeats 4000000 in
theorem nodes_any (n : Int) (A : Option Addr) (m c B : Nat) (ns : List Nd) (w : World) (hm : Hid (NMap w B ns)) (hd : Hid (ns.Nodup)) (hl : ns.length ≤ 100) :
    Calls Try.prog 126 #[.agg #[.int .i64 n, .slice A m c, .map (some B)]] w fun e w' => e = .returned (.slice (some ⟨w.heap.size + 1, 0, none⟩) ns.length ns.length) ∧ Blk w' (w.heap.size + 1) 43 (ncells ns) ∧ Below w.heap.size w w' := by
  obtain ⟨D, ho, hsz, hhas, hat⟩ := hm.out
  have hBl := ho.lt
  obtain ⟨z, hz⟩ : ∃ z, ns.length = z := ⟨_, rfl⟩
  rw [hz] at ho hsz hl ⊢
  have HZ := Lib.hid hz
  have O := Lib.hid ho
  have HS := Lib.hid hsz
  have HH := Lib.hid hhas
  have HA := Lib.hid hat
  clear ho hsz hhas hat hz
  obtain ⟨i0, hi0, hz0, hz1, hz2⟩ := info_parts info_node
  go_enter Try.func126, Try.ntmps126
  go_wp2_with (first
      | (at_len; refine wpList_len_own _ rfl _ 148 rfl 43 3 Try.underlying148 _ B z D rfl (O.out.alloc _) ?_; rw [HS.out])
      | (at_make; (refine wpList_make_full _ rfl _ _ 26 rfl w.heap.size 43 i0 _ 3 Try.underlying26 hi0 hz0 hz1 _ _ _ _ z rfl rfl (by omega) (by omega) (by rw [hz2]; omega) (by unfold maxLen; omega) (by simp) ?_; intro w1 hown1 hg1; have hblk : Blk w1 w.heap.size 150 [.int .i64 n, .slice A m c, .map (some B)] := (Kept.of_grown (S := fun _ => False) hg1 (fun g e => by cases e)).blk (heap_alloc_new w _) (fun e => e); have t2 : w1.cell? ⟨w.heap.size, 2, none⟩ = some (.map (some B)) := hblk.cell 2; have hwl := hblk.lt))
      | (at_range; refine wpList_range_own _ rfl _ 148 rfl 43 3 nd_law Try.underlying148 _ B z D rfl ((O.out.alloc _).kept hg1 (by simp)) ?_; intro w0 hrg0 hg0 hs0))
  go_frame
  have e1 : (w.alloc (.cells #[.int .i64 n, .slice A m c, .map (some B)] 150)).heap.size = w.heap.size + 1 := by simp
  rw [e1] at hown1
  have hF0 : NFill (w.heap.size + 1) ns (Maps.has D) w1 := NFill.start HZ.out hown1 (fun i x kl hx hk => by
    obtain ⟨kl', h1, h2, _⟩ := HA.out i x hx
    rw [h1] at hk
    injection hk with hk
    rw [← hk]
    exact h2)
  have hgl : w.heap.size + 1 < w1.heap.size := by
    obtain ⟨cur, h1, _⟩ := hF0
    exact h1.lt
  obtain ⟨r, hr⟩ : ∃ r, w1.heap.size = r := ⟨_, rfl⟩
  rw [hr] at hrg0 hgl ⊢
  have F0 := Lib.hid (hF0.kept (S := fun _ => False) (Kept.of_grown hg0 (fun g e => by cases e)) (fun e => e))
  have hB0 : Below w.heap.size w w0 := ((below1 w _).grown hg1 (by simp) (by simp)).grown hg0 (by omega) (by simp)
  have B0 := Lib.hid hB0
  have R0 := Lib.hid hrg0
  clear hown1 hg1 hF0 hg0 hB0 hrg0 hblk t2 hs0
  go_loopw [5] (fun _ wr => ∃ left cnt, wr.ranges Try.prog 43 (plainElem Try.prog 3) B r z D left cnt ∧ (∀ kl, left kl = true → Maps.has D kl = true) ∧ NFill (w.heap.size + 1) ns left wr ∧ Below w.heap.size w wr) (fun _ wr => wr.rangeLeft B r)
  case atStart => exact ⟨_, _, R0.out, fun kl h => h, F0.out, B0.out⟩
  case round =>
    obtain ⟨left, cnt, hrg, hlf, hfl, hb⟩ := hrel
    have RG := Lib.hid hrg
    have LF := Lib.hid hlf
    have FL := Lib.hid hfl
    have BB := Lib.hid hb
    clear hrg hlf hfl hb F0 B0 R0
    go_wp2_with (at_next; refine wpList_next_ranges (α := Nd) (β := Int) _ rfl _ rfl 43 nd_law (plainElem Try.prog 3) (fun x => .agg #[.int .i64 x.v, .int .i64 x.l, .int .i64 x.h]) (fun c => .int .i64 c) (fun key kl hk => nd_inv hk) (fun v y hv => (by obtain ⟨c, rfl, _⟩ := plainElem_int_inv Try.underlying3 hv; exact ⟨c, rfl⟩)) B r z _ _ _ rfl RG.out ?_ ?_)
    · intro hc0 hl0
      have HL0 := Lib.hid hl0
      clear hc0 hl0
      go_wp2
      go_ret
      exact ⟨rfl, FL.out.end_ (fun x hx => by obtain ⟨i, hi⟩ := List.getElem?_of_mem hx; obtain ⟨kl, h1, _⟩ := HA.out i x hi; exact ⟨kl, h1⟩) HL0.out, BB.out⟩
    · intro x c kl y yp w2 cnt2 hkey hlk hv hat hrg2 hlt2 hg2 hs2 hen
      obtain ⟨x', hx', hk'⟩ := HH.out kl (LF.out kl hlk)
      have ex : x' = x := Nd.val_inj (nd_law.inj hk' hkey)
      subst ex
      obtain ⟨i, hi⟩ := List.getElem?_of_mem hx'
      obtain ⟨kl2, hk2, _, hat2⟩ := HA.out i x' hi
      have ek : kl2 = kl := by rw [hk'] at hk2; injection hk2 with hk2; exact hk2.symm
      subst ek
      obtain ⟨c', ec, ey, _⟩ := plainElem_int_inv Try.underlying3 hv
      have hce : c = (i : Int) + 2 := by
        have h1 := (hat2 (.lit (.int .i64 0))).symm.trans (hat (.lit (.int .i64 0)))
        rw [(Prod.mk.inj ey).1] at h1
        injection ec with _ ec
        injection h1 with h1
        injection h1 with _ h1
        omega
      subst hce
      have hil : i < z := by rw [← HZ.out]; exact (List.getElem?_eq_some_iff.1 hi).1
      have HI := Lib.hid hi
      have HKY := Lib.hid hk'
      have RG2 := Lib.hid hrg2
      have HLT := Lib.hid hlt2
      have FL2 := Lib.hid (FL.out.kept (S := fun i => i = r) (Kept.of_grown hg2 (fun g e => (Option.some.inj e).symm)) (by omega))
      have BB2 := Lib.hid (BB.out.grown hg2 (by have := BB.out.size; omega) (fun j hj => by have := Option.some.inj hj; omega))
      clear hx' hi hk2 hat2 hat hv ec ey hkey hrg2 hlt2 hg2 hk' hlk hs2
      obtain ⟨v0, t0⟩ := FL2.out.there (i * 3) (by rw [HZ.out]; omega)
      obtain ⟨v1, t1⟩ := FL2.out.there (i * 3 + 1) (by rw [HZ.out]; omega)
      obtain ⟨v2, t2⟩ := FL2.out.there (i * 3 + 2) (by rw [HZ.out]; omega)
      have f0 := FL2.out.free (i * 3)
      have f1 := FL2.out.free (i * 3 + 1)
      have f2 := FL2.out.free (i * 3 + 2)
      have hg2l : w.heap.size + 1 < w2.heap.size := by obtain ⟨cur, h1, _⟩ := FL2.out; exact h1.lt
      go_wp2
      go_roundw
      case rel =>
        have hk := set3_kept w2 (w.heap.size + 1) (i * 3) (i * 3 + 1) (i * 3 + 2) (.int .i64 x'.v) (.int .i64 x'.l) (.int .i64 x'.h) (.cells #[.int .i64 x'.v, .int .i64 x'.l, .int .i64 x'.h] 43)
        exact ⟨_, cnt2, RG2.out.kept hk.grown (fun e => by have := Option.some.inj e; omega) (fun e => by have := Option.some.inj e; omega), fun kl h => by simp at h; exact LF.out kl h.1, (FL2.out.step hd.out HI.out HKY.out).kept (S := fun _ => False) (Kept.of_below (below1 _ _)) (fun e => e), hk.below BB2.out (by omega) (fun i e => by omega)⟩
      case measure =>
        have hk := set3_kept w2 (w.heap.size + 1) (i * 3) (i * 3 + 1) (i * 3 + 2) (.int .i64 x'.v) (.int .i64 x'.l) (.int .i64 x'.h) (.cells #[.int .i64 x'.v, .int .i64 x'.l, .int .i64 x'.h] 43)
        rw [(RG2.out.kept hk.grown (fun e => by have := Option.some.inj e; omega) (fun e => by have := Option.some.inj e; omega)).left_eq, RG.out.left_eq]
        exact HLT.out

theorem dg_store {w : World} {g : Nat} {t : TypeId} {a b c : Value} (h : Blk w g t [a, b, c]) (x y z : Value) :
    Kept w (((w.setCell ⟨g, 0, none⟩ x).setCell ⟨g, 1, none⟩ y).setCell ⟨g, 2, none⟩ z) (fun i => i = g) ∧
    (((w.setCell ⟨g, 0, none⟩ x).setCell ⟨g, 1, none⟩ y).setCell ⟨g, 2, none⟩ z).cell? ⟨g, 0, none⟩ = some x ∧
    (((w.setCell ⟨g, 0, none⟩ x).setCell ⟨g, 1, none⟩ y).setCell ⟨g, 2, none⟩ z).cell? ⟨g, 1, none⟩ = some y ∧
    (((w.setCell ⟨g, 0, none⟩ x).setCell ⟨g, 1, none⟩ y).setCell ⟨g, 2, none⟩ z).cell? ⟨g, 2, none⟩ = some z := by
  have hb := ((h.set 0 x).set 1 y).set 2 z
  exact ⟨(Kept.set.trans Kept.set).trans Kept.set, hb.cell 0, hb.cell 1, hb.cell 2⟩
theorem Blk.kept1 {w w' : World} {g g' : Nat} {t : TypeId} {cs : List Value} (h : Blk w g t cs) (hk : Kept w w' (fun i => i = g')) (hne : g ≠ g') : Blk w' g t cs := hk.blk h hne
/-- a diagram's value -/
theorem ndcells_nil : ncells [] = [] := rfl
set_option maxRecDepth 100000 in
set_option maxHeartbeats 4000000 in
theorem diagramOf_any (n : Nat) (A : Option Addr) (m c : Nat) (T : List Bool) (w : World) (k : Nat) (ns : List Nd) (hn : n ≤ 6) (HM : Hid (T.length = m)) (HP : Hid (2 ^ n = m)) (hbl : Hid (BLies w A T)) (HD : Hid (dgm n T = (k, ns))) :
    Calls Try.prog 80 #[.int .i64 n, .slice A m c] w fun e w' => ∃ g, e = .returned (.agg #[.int .i64 n, .slice (some ⟨g, 0, none⟩) ns.length ns.length, .int .i64 k]) ∧ w.heap.size ≤ g ∧ Blk w' g 43 (ncells ns) ∧ Below w.heap.size w w' := by
  have hmm := @run_makeMap Try.prog
  have hfa := dgm_facts (by rw [HM.out, HP.out]) HD.out
  have hm6 : m ≤ 64 := by rw [← HP.out]; exact pow_le6 hn
  have hl : ns.length ≤ 64 := by have := hfa.2.2.2.1; rw [HP.out] at this; omega
  have ND := Lib.hid hfa.2.2.2.2.2
  have DD : Hid (bld n 1 (subT T 0 0) [] = (k, ns)) := Lib.hid (by rw [subT_top]; exact HD.out)
  clear hfa
  go_enter Try.func80, Try.ntmps80
  go_wp2_with fail
  obtain ⟨W, hW⟩ : ∃ W, W = ((w.alloc (.cells #[.int .i64 0, .slice none 0 0, .int .i64 0] 28)).alloc (.map #[] 0)).alloc (.cells #[.int .i64 n, .slice A m c, .map (some (w.heap.size + 1))] 150) := ⟨_, rfl⟩
  have hBW : Below w.heap.size w W := by rw [hW]; exact below3 _ _ _ _
  have hsW : W.heap.size = w.heap.size + 3 := by rw [hW]; simp
  have hMW : NMap W (w.heap.size + 1) [] := by
    have := NMap.made (w.alloc (.cells #[.int .i64 0, .slice none 0 0, .int .i64 0] 28))
    rw [show (w.alloc (.cells #[.int .i64 0, .slice none 0 0, .int .i64 0] 28)).heap.size = w.heap.size + 1 by simp] at this
    rw [hW]
    exact this.below (below1 _ _)
  have hb0 : Blk W w.heap.size 28 [.int .i64 0, .slice none 0 0, .int .i64 0] := by
    rw [hW]
    exact (Blk.below (heap_alloc_new w _) (below2 _ _ _))
  have hb2 : Blk W (w.heap.size + 2) 150 [.int .i64 n, .slice A m c, .map (some (w.heap.size + 1))] := by
    have := heap_alloc_new ((w.alloc (.cells #[.int .i64 0, .slice none 0 0, .int .i64 0] 28)).alloc (.map #[] 0)) (.cells #[.int .i64 n, .slice A m c, .map (some (w.heap.size + 1))] 150)
    rw [show ((w.alloc (.cells #[.int .i64 0, .slice none 0 0, .int .i64 0] 28)).alloc (.map #[] 0)).heap.size = w.heap.size + 2 by simp, ← hW] at this
    exact this
  rw [← hW]
  have HBb : Hid (∀ b off, A = some ⟨b, off, none⟩ → b ≠ w.heap.size + 1) := Lib.hid (fun b off e => by
    have hpos : 0 < T.length := by rw [HM.out, ← HP.out]; exact Nat.pow_pos (by omega)
    obtain ⟨b', off', e', hlt, _⟩ := hbl.out 0 _ (List.getElem?_eq_getElem hpos)
    rw [e] at e'
    injection e' with e'
    injection e' with e1 _
    omega)
  refine (build_any n A m c (w.heap.size + 1) T hn HM HP HBb n 0 0 1 0 [] W (Lib.hid (by simp)) (Lib.hid (by simp)) (Lib.hid (by omega)) (Lib.hid (by simp)) (Lib.hid hMW) (Lib.hid (by simp)) (Lib.hid (hbl.out.below hBW)) (Lib.hid (by rw [HP.out]; simp; omega))).mono ?_
  rw [DD.out]
  rintro e w1 ⟨rfl, hm1, hk1⟩
  have M1 := Lib.hid hm1
  have hB1 : Below w.heap.size w w1 := hk1.below hBW (by omega) (fun i e => by omega)
  have B1 := Lib.hid hB1
  have hb2' := hk1.blk hb2 (by omega)
  have hb0' := hk1.blk hb0 (by omega)
  have t0 : w1.cell? ⟨w.heap.size + 2, 0, none⟩ = some (.int .i64 n) := hb2'.cell 0
  have t1 : w1.cell? ⟨w.heap.size + 2, 1, none⟩ = some (.slice A m c) := hb2'.cell 1
  have t2 : w1.cell? ⟨w.heap.size + 2, 2, none⟩ = some (.map (some (w.heap.size + 1))) := hb2'.cell 2
  have BD := Lib.hid hb0'
  have hwl := hb2'.lt
  clear hm1 hk1 hB1 hb2' hb0' hb0 hb2 hMW hBW
  go_wp2_with fail
  refine (nodes_any n A m c (w.heap.size + 1) ns w1 M1 ND (by omega)).mono ?_
  rintro e w2 ⟨rfl, hbk, hb⟩
  have BK := Lib.hid hbk
  have B2 := Lib.hid (Below.tr B1.out hb)
  have hd := BD.out.below hb
  have u0 : w2.cell? ⟨w.heap.size, 0, none⟩ = some (.int .i64 0) := hd.cell 0
  have u1 : w2.cell? ⟨w.heap.size, 1, none⟩ = some (.slice none 0 0) := hd.cell 1
  have u2 : w2.cell? ⟨w.heap.size, 2, none⟩ = some (.int .i64 0) := hd.cell 2
  have f0 := hd.frozen 0
  have f1 := hd.frozen 1
  have f2 := hd.frozen 2
  have hdl := hd.lt
  have HDB := Lib.hid hd
  clear hbk hb hd
  go_wp2
  have hfin := dg_store HDB.out (.int .i64 n) (.slice (some ⟨w1.heap.size + 1, 0, none⟩) ns.length ns.length) (.int .i64 k)
  have hge := B1.out.size
  have hBK := BK.out.kept1 hfin.1 (by omega)
  have hBB := hfin.1.below B2.out B2.out.size (fun i e => by omega)
  obtain ⟨W', hW'⟩ : ∃ W', W' = (((w2.setCell ⟨w.heap.size, 0, none⟩ (.int .i64 n)).setCell ⟨w.heap.size, 1, none⟩ (.slice (some ⟨w1.heap.size + 1, 0, none⟩) ns.length ns.length)).setCell ⟨w.heap.size, 2, none⟩ (.int .i64 k)) := ⟨_, rfl⟩
  rw [← hW'] at hfin hBK hBB ⊢
  obtain ⟨_, r0, r1, r2⟩ := hfin
  exact bodyPost_ret (v := .agg #[.int .i64 n, .slice (some ⟨w1.heap.size + 1, 0, none⟩) ns.length ns.length, .int .i64 k]) (by simp [results, Try.results80, go_sem, r0, r1, r2]) rfl ⟨_, rfl, by omega, hBK, hBB⟩
end Go.Proofs.Ytklcfbjaodildaa
