/-
  The program's search: what its methods do to it.
-/
import Derived.Test.YtklcfbjaodildaaRoles
namespace Go.Proofs.Ytklcfbjaodildaa
open Go.ChangeShapes Go.WideShapes Go.ChangeAt Go.RowKit

/-- a search in block s -/
structure Srch (w : World) (base s v : Nat) (L P : List (List Int)) (D : List Int) (Ac Al Ad : Option Addr) (cc cl cd : Nat) (vsL vsP : List Value) (M : Value) (f e : Bool) : Prop where
  blk : Blk w s 138 [.int .i64 v, .slice Ac (L.length + P.length) cc, .slice Al P.length cl, .slice Ad D.length cd, M, .bool f, .bool e]
  ge : base ≤ s
  r : Roles w base (fun g => g < base) L P D (.slice Ac (L.length + P.length) cc) (.slice Al P.length cl) (.slice Ad D.length cd) vsL vsP
  off : Off (fun g => g < base) (.slice Ac (L.length + P.length) cc) (.slice Al P.length cl) (.slice Ad D.length cd) vsP s
theorem cell_kept {w w' : World} {S : Nat → Prop} {g j : Nat} {x : Value} (hk : Kept w w' S) (hg : g < w.heap.size) (hn : ¬ S g) (h : w.cell? ⟨g, j, none⟩ = some x) : w'.cell? ⟨g, j, none⟩ = some x := by
  have e := hk.block g hg hn
  rw [← h]
  unfold World.cell?
  simp only [e]
theorem frozen_kept {w w' : World} {S : Nat → Prop} {g j : Nat} {b : Bool} (hk : Kept w w' S) (hg : g < w.heap.size) (hn : ¬ S g) (h : w.frozen? ⟨g, j, none⟩ = b) : w'.frozen? ⟨g, j, none⟩ = b := by
  have e := hk.block g hg hn
  rw [← h]
  unfold World.frozen?
  simp only [e]

theorem one_new_at (w : World) (v : Value) (t : TypeId) (n : Nat) (hn : w.heap.size = n) : ∀ j u, [v][j]? = some u → (w.alloc (.cells #[v] t)).cell? ((⟨n, 0, none⟩ : Addr).add j) = some u := by
  subst hn
  exact one_new1 w v t
set_option maxRecDepth 100000 in
set_option maxHeartbeats 4000000 in
theorem learn_any (base s v : Nat) (L P : List (List Int)) (D : List Int) (Ac Al Ad : Option Addr) (cc cl cd : Nat) (vsL vsP : List Value) (M : Value) (f e : Bool) (w : World)
    (h : Hid (Srch w base s v L P D Ac Al Ad cc cl cd vsL vsP M f e)) (HI : Hid (In12 D)) (hd : D.length ≤ 12) (hp : P.length ≤ 1000) (hl : L.length ≤ 1000) :
    Calls Try.prog 147 #[.pointer (some ⟨s, 0, none⟩)] w fun x w' => x = .returned (.tuple #[]) ∧ ∃ Ac' cc' Al' cl' vsP', Srch w' base s v L (P ++ [negL D]) D Ac' Al' Ad cc' cl' cd vsL vsP' M f e ∧ Below base w w' := by
  obtain ⟨iS, hiS, hs0, hs1, hs2⟩ := info_parts info_ints
  obtain ⟨d, hdd⟩ : ∃ d, D.length = d := ⟨_, rfl⟩
  obtain ⟨n, hnn⟩ : ∃ n, L.length + P.length = n := ⟨_, rfl⟩
  have hns : n ≤ 2000 := by omega
  have hb := h.out.blk
  rw [hdd, hnn] at hb
  obtain ⟨p, hpp⟩ : ∃ p, P.length = p := ⟨_, rfl⟩
  rw [hpp] at hb hp
  have hsl := hb.lt
  have hbs := h.out.ge
  have t3 : w.cell? ⟨s, 3, none⟩ = some (.slice Ad d cd) := hb.cell 3
  have HD : Hid (ILies w Ad D) := Lib.hid (own_ilies h.out.r.d)
  have HDD := Lib.hid hdd
  have HPP := Lib.hid hpp
  have HNN := Lib.hid hnn
  have HB := Lib.hid hb
  rw [hdd] at hd
  clear hb hdd hpp hnn
  go_enter Try.func147, Try.ntmps147
  go_wp2_with fail
  refine (negated_any _ _ _ D _ HD HDD HI (by omega)).mono ?_
  rintro x w1 ⟨A3, c3, rfl, ho1, hb1⟩
  have O1 := Lib.hid ho1
  have B1 := Lib.hid hb1
  have K1 := Lib.hid (HB.out.below hb1)
  have t2 : w1.cell? ⟨s, 2, none⟩ = some (.slice Al p cl) := K1.out.cell 2
  have hs1z := hb1.size
  clear ho1 hb1 t3
  have OP : Hid (w1.ownsRow base 55 1 (.slice Al p cl) p vsP) := Lib.hid (by have := own_below h.out.r.p.outer B1.out; rw [HPP.out] at this; exact this)
  have OC : Hid (w1.ownsRow base 55 1 (.slice Ac n cc) n (vsL ++ vsP)) := Lib.hid (by have := own_below h.out.r.c B1.out; rw [HNN.out] at this; exact this)
  have OFF : Hid ((Value.slice Al p cl).ownBlock ≠ some s ∧ (Value.slice Ac n cc).ownBlock ≠ some s ∧ ∀ g, (Value.slice Ac n cc).ownBlock = some g → (Value.slice Al p cl).ownBlock ≠ some g) := Lib.hid (by
    have o := h.out.off
    have c := h.out.r.ci
    rw [HNN.out, HPP.out] at o c
    unfold Off at o
    exact ⟨o.2.2.2.1, o.2.2.1, fun g e => (c g e).2.2.1⟩)
  obtain ⟨q, hq⟩ : ∃ q, (negL D).length = q := ⟨_, rfl⟩
  rw [hq] at O1 ⊢
  have HQ := Lib.hid hq
  clear hq
  go_wp2_with (first
    | (at_builtin; (refine wpList_append_lies _ rfl _ _ 23 rfl base 55 iS (.slice none 0 0) 1 24 Try.underlying23 hiS hs0 hs1 hs2 rfl (by omega) _ p _ rfl (OP.out.alloc _) ⟨w1.heap.size, 0, none⟩ 1 1 [.slice A3 q c3] rfl rfl (one_new1 w1 _ _) (by intro u hu; rw [List.mem_singleton.1 hu]; rfl) (by omega) (by unfold maxLen; omega) (by omega) (by first | omega | (simp; omega)) (w1.heap.size + 1) (by first | rfl | simp) ?_; intro g2 cap2 w2 hownx hgx hatx hltx; have KA := Lib.hid (kept_app hgx); have OW2 := Lib.hid hownx; have AT2 := Lib.hid hatx; have K2 := Lib.hid (KA.out.blk K1.out OFF.out.1); have u1 : w2.cell? ⟨s, 1, none⟩ = some (.slice Ac n cc) := K2.out.cell 1; have u2 : w2.cell? ⟨s, 2, none⟩ = some (.slice Al p cl) := K2.out.cell 2; have f2 := K2.out.frozen 2; have f1 := K2.out.frozen 1; have hs2z := KA.out.size; have KB : Hid (Kept w1 (w2.setCell ⟨s, 2, none⟩ (.slice (some ⟨g2, 0, none⟩) (p + 1) cap2)) (fun g => (Value.slice Al p cl).ownBlock = some g ∨ g = s)) := Lib.hid ((KA.out.mono (fun g e => .inl e)).trans (Kept.set.mono (fun g e => .inr e))); have OC2 : Hid ((w2.setCell ⟨s, 2, none⟩ (.slice (some ⟨g2, 0, none⟩) (p + 1) cap2)).ownsRow base 55 1 (.slice Ac n cc) n (vsL ++ vsP)) := Lib.hid (KB.out.own OC.out (fun g e r => r.elim (fun r => OFF.out.2.2 g e r) (fun r => OFF.out.2.1 (by rw [← r]; exact e)))); have K3 := Lib.hid (K2.out.set 2 (.slice (some ⟨g2, 0, none⟩) (p + 1) cap2)); clear hownx hgx hatx hltx))
    | (at_builtin; (refine wpList_append_lies _ rfl _ _ 23 rfl base 55 iS (.slice none 0 0) 1 24 Try.underlying23 hiS hs0 hs1 hs2 rfl (by omega) _ n _ rfl (OC2.out.alloc _) ⟨w2.heap.size, 0, none⟩ 1 1 [.slice A3 q c3] rfl rfl (one_new_at (w2.setCell ⟨s, 2, none⟩ (.slice (some ⟨g2, 0, none⟩) (p + 1) cap2)) _ _ _ (by simp)) (by intro u hu; rw [List.mem_singleton.1 hu]; rfl) (by omega) (by unfold maxLen; omega) (by omega) (by first | omega | (simp; omega)) (w2.heap.size + 1) (by first | rfl | simp) ?_; intro g3 cap3 w3 hownx hgx hatx hltx; have KC := Lib.hid (kept_app hgx); have OW3 := Lib.hid hownx; have AT3 := Lib.hid hatx; have K4 := Lib.hid (KC.out.blk K3.out OFF.out.2.1); have v1 : w3.cell? ⟨s, 1, none⟩ = some (.slice Ac n cc) := K4.out.cell 1; have g1 := K4.out.frozen 1; clear hownx hgx hatx hltx)))
  go_end0
  have KD : Kept (w2.setCell ⟨s, 2, none⟩ (.slice (some ⟨g2, 0, none⟩) (p + 1) cap2)) (w3.setCell ⟨s, 1, none⟩ (.slice (some ⟨g3, 0, none⟩) (n + 1) cap3)) (fun g => (Value.slice Ac n cc).ownBlock = some g ∨ g = s) := (KC.out.mono (fun g e => .inl e)).trans (Kept.set.mono (fun g e => .inr e))
  have hd' := HDD.out
  have hp' := HPP.out
  have hn' := HNN.out
  have hq' := HQ.out
  subst hq' hp' hd' hn'
  have hoff : ∀ g, g = s → g < w.heap.size ∧ Off (fun g => g < base) (.slice Ac (L.length + P.length) cc) (.slice Al P.length cl) (.slice Ad D.length cd) vsP g := fun g e => by subst e; exact ⟨hsl, h.out.off⟩
  have LE := h.out.r.learn (S := fun g => g = s) (by omega) hoff B1.out O1.out KB.out (by
      have := (Kept.set (g := s) (j := 2) (u := Value.slice (some ⟨g2, 0, none⟩) (P.length + 1) cap2)).own OW2.out (fun g e r => by
        have e' : g = g2 := by simp [Value.ownBlock] at e; exact e.symm
        subst e'
        subst r
        rcases AT2.out with q | q
        · exact OFF.out.1 q
        · omega)
      exact this) (AT2.out.elim .inl (fun q => .inr (by omega))) KD (by
      have := (Kept.set (g := s) (j := 1) (u := Value.slice (some ⟨g3, 0, none⟩) (L.length + P.length + 1) cap3)).own OW3.out (fun g e r => by
        have e' : g = g3 := by simp [Value.ownBlock] at e; exact e.symm
        subst e'
        subst r
        rcases AT3.out with q | q
        · exact OFF.out.2.1 q
        · omega)
      exact this) (AT3.out.elim .inl (fun q => .inr (by simp; omega)))
  refine ⟨rfl, some ⟨g3, 0, none⟩, cap3, some ⟨g2, 0, none⟩, cap2, vsP ++ [.slice A3 (negL D).length c3], ⟨?_, hbs, ?_, ?_⟩, ?_⟩
  · have := K4.out.set 1 (.slice (some ⟨g3, 0, none⟩) (L.length + P.length + 1) cap3)
    rw [List.length_append, List.length_singleton]
    exact this
  · rw [List.length_append, List.length_singleton]
    exact LE.1
  · rw [List.length_append, List.length_singleton]
    exact LE.2 s rfl
  · have b1 : Below base w w1 := B1.out.mono (by omega)
    have b2 := KB.out.below b1 (by omega) (fun i r => r.elim (fun r => (OP.out.lt i r).1) (fun r => by omega))
    exact KD.below b2 (by simp; omega) (fun i r => r.elim (fun r => (OC.out.lt i r).1) (fun r => by omega))
theorem own_nilA {w : World} {base n c : Nat} {t : TypeId} {A : Option Addr} {xs : List Value} (h : w.ownsRow base t 1 (.slice A n c) n xs) (hA : A = none) : n = 0 ∧ c = 0 := by
  rcases h.2 with ⟨h', h0⟩ | ⟨g, cap, cur, h', _⟩
  · simp only [Value.slice.injEq] at h'; omega
  · simp only [Value.slice.injEq] at h'; rw [hA] at h'; simp at h'
theorem maxw : (if IntKind.i64.wrap (-1) < 0 then 0 else IntKind.i64.wrap (-1)) = 0 := by
  have : IntKind.i64.wrap (-1) = -1 := by rw [IntKind.wrap_i64]; omega
  rw [this]; rfl
theorem maxk (k : Nat) (h : k ≤ 1000) : (if IntKind.i64.wrap (k : Int) < 0 then 0 else IntKind.i64.wrap (k : Int)) = k := by
  have : IntKind.i64.wrap (k : Int) = k := by rw [IntKind.wrap_i64]; omega
  rw [this, if_neg (by omega)]
set_option maxRecDepth 100000 in
set_option maxHeartbeats 4000000 in
theorem undo_any (base s v : Nat) (L P : List (List Int)) (D : List Int) (Ac Al Ad : Option Addr) (cc cl cd : Nat) (vsL vsP : List Value) (M : Value) (f e : Bool) (w : World)
    (h : Hid (Srch w base s v L P D Ac Al Ad cc cl cd vsL vsP M f e)) (hd : D.length ≤ 12) :
    Calls Try.prog 148 #[.pointer (some ⟨s, 0, none⟩)] w fun x w' => x = .returned (.tuple #[]) ∧ Srch w' base s v L P (D.take (D.length - 1)) Ac Al Ad cc cl cd vsL vsP M f e ∧ Below base w w' := by
  obtain ⟨d, hdd⟩ : ∃ d, D.length = d := ⟨_, rfl⟩
  have hb := h.out.blk
  rw [hdd] at hb hd
  have hsl := hb.lt
  have hbs := h.out.ge
  have t3 : w.cell? ⟨s, 3, none⟩ = some (.slice Ad d cd) := hb.cell 3
  have f3 := hb.frozen 3
  have hcap : d ≤ cd := by have := own_cap h.out.r.d; omega
  have HDD := Lib.hid hdd
  have HB := Lib.hid hb
  clear hb hdd
  have CUT : Hid (w.ownsRow base 3 1 (.slice Ad (d - 1) cd) (d - 1) ((D.take (d - 1)).map (Value.int .i64))) := Lib.hid (by
    have := own_cut h.out.r.d (m := d - 1) (by have := HDD.out; omega)
    rw [← List.map_take] at this
    exact this)
  have fin : Hid (∀ k, Srch ((w.drewN k).setCell ⟨s, 3, none⟩ (.slice Ad (d - 1) cd)) base s v L P (D.take (D.length - 1)) Ac Al Ad cc cl cd vsL vsP M f e ∧ Below base w ((w.drewN k).setCell ⟨s, 3, none⟩ (.slice Ad (d - 1) cd))) := Lib.hid (fun k => by
    have HD' := HDD.out
    subst HD'
    have hk : Kept w ((w.drewN k).setCell ⟨s, 3, none⟩ (.slice Ad (D.length - 1) cd)) (fun g => g = s) := Kept.trans (b := w.drewN k) ⟨rfl, rfl, rfl, Nat.le_refl _, fun _ _ _ => rfl⟩ Kept.set
    have hl : (D.take (D.length - 1)).length = D.length - 1 := by rw [List.length_take]; omega
    have ho := h.out.off
    obtain ⟨r1, r2⟩ := h.out.r.decide (S := fun g => g = s) (D' := D.take (D.length - 1)) (E' := .slice Ad (D.length - 1) cd) (fun g e => by subst e; exact ⟨hsl, ho⟩) (hk.mono (fun g e => .inr e)) (by rw [hl]; exact hk.own CUT.out (fun g e q => by subst q; exact ho.2.2.2.2 (by cases Ad <;> exact e))) (fun g e => .inl (by cases Ad <;> exact e))
    refine ⟨⟨?_, hbs, ?_, ?_⟩, hk.below (Below.refl _ _) (by omega) (fun i e => by omega)⟩
    · rw [hl]
      exact (show Blk (w.drewN k) s 138 _ from HB.out).set 3 _
    · rw [hl]; exact r1
    · rw [hl]; exact r2 s rfl)
  cases hA : Ad with
  | none =>
    obtain ⟨h0, h1⟩ := own_nilA h.out.r.d hA
    have hd0 : d = 0 := by rw [← HDD.out]; exact h0
    subst hd0 h1 hA
    clear h h0 CUT
    go_enter Try.func148, Try.ntmps148
    go_wp2_with fail
    go_still_tail 15, (by kernel_rfl)
    rw [maxw]
    repeat still_step
    refine wpStill_nil ?_
    go_wp2
    go_end0
    exact ⟨rfl, fin.out 1⟩
  | some a =>
    subst hA
    by_cases hz : d = 0
    · subst hz
      clear h CUT
      go_enter Try.func148, Try.ntmps148
      go_wp2_with fail
      go_still_tail 15, (by kernel_rfl)
      rw [maxw]
      repeat still_step
      refine wpStill_nil ?_
      go_wp2
      go_end0
      exact ⟨rfl, fin.out 1⟩
    · obtain ⟨k, rfl⟩ : ∃ k, d = k + 1 := ⟨d - 1, by omega⟩
      rw [Nat.add_sub_cancel] at fin
      have hkc : k ≤ cd := by omega
      have hkc2 : (k : Int) ≤ (cd : Int) := by omega
      have hk0 : (0 : Int) ≤ (k : Int) := by omega
      clear h CUT
      go_enter Try.func148, Try.ntmps148
      go_wp2_with fail
      go_still_tail 15, (by kernel_rfl)
      rw [maxk k (by omega)]
      repeat still_step
      refine wpStill_nil ?_
      go_wp2
      go_end0
      exact ⟨rfl, fin.out 1⟩
end Go.Proofs.Ytklcfbjaodildaa
