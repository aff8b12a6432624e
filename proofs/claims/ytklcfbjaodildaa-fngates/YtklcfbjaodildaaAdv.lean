/-
  The program's search: a step of it.
-/
import Derived.Test.YtklcfbjaodildaaSrch
import Derived.StillTailTactics
namespace Go.Proofs.Ytklcfbjaodildaa
open Go.ChangeShapes Go.WideShapes Go.ChangeAt Go.RowKit

theorem Srch.below {w w' : World} {base s v : Nat} {L P : List (List Int)} {D : List Int} {Ac Al Ad : Option Addr} {cc cl cd : Nat} {vsL vsP : List Value} {M : Value} {f e : Bool} (h : Srch w base s v L P D Ac Al Ad cc cl cd vsL vsP M f e) (hb : Below w.heap.size w w') : Srch w' base s v L P D Ac Al Ad cc cl cd vsL vsP M f e :=
  ⟨h.blk.below hb, h.ge, h.r.below hb, h.off⟩
theorem Srch.flag {w : World} {base s v : Nat} {L P : List (List Int)} {D : List Int} {Ac Al Ad : Option Addr} {cc cl cd : Nat} {vsL vsP : List Value} {M : Value} {f e : Bool} (h : Srch w base s v L P D Ac Al Ad cc cl cd vsL vsP M f e) : Srch (w.setCell ⟨s, 6, none⟩ (.bool true)) base s v L P D Ac Al Ad cc cl cd vsL vsP M f true :=
  ⟨h.blk.set 6 _, h.ge, h.r.kept Kept.set (fun g e => by subst e; exact h.off), h.off⟩
theorem Srch.found {w : World} {base s v : Nat} {L P : List (List Int)} {D : List Int} {Ac Al Ad : Option Addr} {cc cl cd : Nat} {vsL vsP : List Value} {M : Value} {f e : Bool} (h : Srch w base s v L P D Ac Al Ad cc cl cd vsL vsP M f e) : Srch (w.setCell ⟨s, 5, none⟩ (.bool true)) base s v L P D Ac Al Ad cc cl cd vsL vsP M true e :=
  ⟨h.blk.set 5 _, h.ge, h.r.kept Kept.set (fun g e => by subst e; exact h.off), h.off⟩
theorem Srch.model {w : World} {base s v : Nat} {L P : List (List Int)} {D : List Int} {Ac Al Ad : Option Addr} {cc cl cd : Nat} {vsL vsP : List Value} {M M' : Value} {f e : Bool} (h : Srch w base s v L P D Ac Al Ad cc cl cd vsL vsP M f e) : Srch (w.setCell ⟨s, 4, none⟩ M') base s v L P D Ac Al Ad cc cl cd vsL vsP M' f e :=
  ⟨h.blk.set 4 _, h.ge, h.r.kept Kept.set (fun g e => by subst e; exact h.off), h.off⟩
theorem Srch.decide {w w2 : World} {base s v : Nat} {L P : List (List Int)} {D : List Int} {Ac Al Ad : Option Addr} {cc cl cd : Nat} {vsL vsP : List Value} {M : Value} {f e : Bool} {x : Int} {g2 cap2 : Nat} (h : Srch w base s v L P D Ac Al Ad cc cl cd vsL vsP M f e)
    (hk : Kept w w2 (fun g => (Value.slice Ad D.length cd).ownBlock = some g)) (ho : w2.ownsRow base 3 1 (.slice (some ⟨g2, 0, none⟩) (D.length + 1) cap2) (D.length + 1) ((D ++ [x]).map (Value.int .i64))) (hat : (Value.slice Ad D.length cd).ownBlock = some g2 ∨ w.heap.size ≤ g2) :
    Srch (w2.setCell ⟨s, 3, none⟩ (.slice (some ⟨g2, 0, none⟩) (D.length + 1) cap2)) base s v L P (D ++ [x]) Ac Al (some ⟨g2, 0, none⟩) cc cl cap2 vsL vsP M f e := by
  have hsl := h.blk.lt
  have own2 : ∀ g, (Value.slice (some ⟨g2, 0, none⟩) (D.length + 1) cap2).ownBlock = some g → g = g2 := fun g e => by simp [Value.ownBlock] at e; exact e.symm
  have hk2 : Kept w (w2.setCell ⟨s, 3, none⟩ (.slice (some ⟨g2, 0, none⟩) (D.length + 1) cap2)) (fun g => (Value.slice Ad D.length cd).ownBlock = some g ∨ g = s) := (hk.mono (fun g e => .inl e)).trans (Kept.set.mono (fun g e => .inr e))
  have ho2 : (w2.setCell ⟨s, 3, none⟩ (.slice (some ⟨g2, 0, none⟩) (D.length + 1) cap2)).ownsRow base 3 1 (.slice (some ⟨g2, 0, none⟩) (D.length + 1) cap2) (D ++ [x]).length ((D ++ [x]).map (Value.int .i64)) := by
    rw [List.length_append, List.length_singleton]
    refine (Kept.set (g := s) (j := 3)).own ho (fun g e r => ?_)
    have e' := own2 g e
    subst r
    rcases hat with q | q
    · exact h.off.2.2.2.2 (by rw [e']; exact q)
    · omega
  obtain ⟨r1, r2⟩ := h.r.decide (S := fun g => g = s) (D' := D ++ [x]) (fun g e => by subst e; exact ⟨hsl, h.off⟩) hk2 ho2 (fun g e => by have e' := own2 g e; subst e'; exact hat)
  refine ⟨?_, h.ge, ?_, ?_⟩
  · rw [List.length_append, List.length_singleton]
    exact (hk.blk h.blk h.off.2.2.2.2).set 3 _
  · rw [List.length_append, List.length_singleton]; exact r1
  · rw [List.length_append, List.length_singleton]; exact r2 s rfl
set_option maxRecDepth 100000 in
set_option maxHeartbeats 8000000 in
theorem advance_bad0 (base s v : Nat) (L P : List (List Int)) (D : List Int) (Ac Al Ad : Option Addr) (cc cl cd : Nat) (vsL vsP : List Value) (w : World) (r : List Int) (h : Hid (Srch w base s v L P D Ac Al Ad cc cl cd vsL vsP (.slice none 0 0) false false)) (hv : v ≤ 12) (hp : P.length ≤ 300) (hl : L.length ≤ 60) (HC : Hid (clauseB v D = true)) (HL : Hid (∀ c ∈ L ++ P, clauseB v c = true)) (hr : propN (L ++ P) 20 D = (r, true)) (hD : D = []) :
    Calls Try.prog 113 #[.pointer (some ⟨s, 0, none⟩)] w fun x w' => x = .returned (.tuple #[]) ∧ ∃ Ac' cc' Al' cl' vsP', Srch w' base s v L (P ++ [[]]) [] Ac' Al' Ad cc' cl' cd vsL vsP' (.slice none 0 0) false true ∧ Below base w w' := by
  obtain ⟨i0, hi0, hz0, hz1, hz2⟩ := info_parts info_int
  have HP : Hid (PInv v (L ++ P) r true D) := Lib.hid (pinv_start (by omega) HC.out hr)
  have hd12 := clauseB_len HC.out
  have LIT : Hid (∀ c ∈ L ++ P, ∀ x ∈ c, litB v x = true) := Lib.hid (fun c hc x hx => clauseB_lits (HL.out c hc) x hx)
  have HRL : Hid (∀ x ∈ r, litB v x = true) := Lib.hid (propN_lits LIT.out (clauseB_lits HC.out) hr)
  have HRI : Hid (In12 r) := Lib.hid (lits_in12 (by omega) HRL.out)
  have hrl : r.length ≤ 1000 := by have := propN_len hr; omega
  have HPR := Lib.hid hr
  clear hr
  obtain ⟨d, hdd⟩ : ∃ d, D.length = d := ⟨_, rfl⟩
  obtain ⟨n, hnn⟩ : ∃ n, L.length + P.length = n := ⟨_, rfl⟩
  have hns : n ≤ 400 := by omega
  have hb := h.out.blk
  rw [hdd, hnn] at hb
  rw [hdd] at hd12
  have HDD := Lib.hid hdd
  have HNN : Hid ((L ++ P).length = n) := Lib.hid (by rw [List.length_append]; exact hnn)
  have HNN2 := Lib.hid hnn
  have hsl := hb.lt
  have hbs := h.out.ge
  have t0 : w.cell? ⟨s, 0, none⟩ = some (.int .i64 v) := hb.cell 0
  have t1 : w.cell? ⟨s, 1, none⟩ = some (.slice Ac n cc) := hb.cell 1
  have t3 : w.cell? ⟨s, 3, none⟩ = some (.slice Ad d cd) := hb.cell 3
  have HB := Lib.hid hb
  have HLL : Hid (LLies w Ac (L ++ P)) := Lib.hid h.out.r.lies
  have HDL : Hid (ILies w Ad D) := Lib.hid (own_ilies h.out.r.d)
  have HDN : Hid (Ad = none → d = 0 ∧ cd = 0) := Lib.hid (fun e => by rw [← HDD.out]; exact own_nilA h.out.r.d e)
  have HLLd : Hid (LLies w.drew Ac (L ++ P)) := Lib.hid (HLL.out.below (Below.refl w.heap.size w).drew)
  have HDLd : Hid (ILies w.drew Ad D) := Lib.hid (HDL.out.below (Below.refl w.heap.size w).drew)
  clear hb hdd hnn HLL HDL
  have HD0 : Hid (d = 0) := Lib.hid (by rw [← HDD.out, hD]; rfl)
  have HDE := Lib.hid hD
  clear hD
  go_enter Try.func113, Try.ntmps113
  go_wp2_with fail
  refine wp_region_held_drew (S := fun W => W.cell? ⟨s, 1, none⟩ = some (.slice Ac n cc) ∧ W.cell? ⟨s, 3, none⟩ = some (.slice Ad d cd)) (by kernel_rfl) ?_ (fun hHeld => ?_)
  · exact ⟨t1, t3⟩
  refine wpAnyH_take (i := 0) (v := ?_) rfl (by kernel_rfl) (by kernel_rfl) (by kernel_rfl) (fun _ _ _ h => h) (Or.inl ⟨by rfl, ?_⟩) (by assumption) ?_
  rotate_left
  · intro W hSw
    try dsimp only at hSw
    go_simp
    try with_reducible rfl
  simp only [Act.put, List.setIfInBounds_toArray]
  refine wpAnyH_take (i := 1) (v := ?_) rfl (by kernel_rfl) (by kernel_rfl) (by kernel_rfl) (fun _ _ _ h => h) (Or.inl ⟨by rfl, ?_⟩) (by assumption) ?_
  rotate_left
  · intro W hSw
    try dsimp only at hSw
    go_simp
    try with_reducible rfl
  simp only [Act.put]
  refine wpAnyH_take (i := 2) (v := ?_) rfl (by kernel_rfl) (by kernel_rfl) (by kernel_rfl) (fun _ _ _ h => h) (Or.inl ⟨by rfl, ?_⟩) (by assumption) ?_
  rotate_left
  · intro W hSw
    try dsimp only at hSw
    go_simp
    try with_reducible rfl
  simp only [Act.put]
  refine wpAnyH_take (i := 3) (v := ?_) rfl (by kernel_rfl) (by kernel_rfl) (by kernel_rfl) (fun _ _ _ h => h) (Or.inl ⟨by rfl, ?_⟩) (by assumption) ?_
  rotate_left
  · intro W hSw
    try dsimp only at hSw
    go_simp
    try with_reducible rfl
  simp only [Act.put]
  refine wpAnyH_take (i := 4) (v := ?_) rfl (by kernel_rfl) (by kernel_rfl) (by kernel_rfl) (fun _ _ _ h => h) (Or.inl ⟨by rfl, ?_⟩) (by assumption) ?_
  rotate_left
  · intro W hSw
    try dsimp only at hSw
    go_simp
    try with_reducible rfl
  simp only [Act.put]
  refine wpAnyH_take (i := 5) (v := ?_) rfl (by kernel_rfl) (by kernel_rfl) (by kernel_rfl) (fun _ _ _ h => h) (Or.inl ⟨by rfl, ?_⟩) (by assumption) ?_
  rotate_left
  · intro W hSw
    try dsimp only at hSw
    go_simp
    try with_reducible rfl
  simp only [Act.put]
  refine wpAnyH_take (i := 6) (v := ?_) rfl (by kernel_rfl) (by kernel_rfl) (by kernel_rfl) (fun _ _ _ h => h) (Or.inl ⟨by rfl, ?_⟩) (by assumption) ?_
  rotate_left
  · intro W hSw
    try dsimp only at hSw
    go_simp
    try with_reducible rfl
  simp only [Act.put]
  refine wpAnyH_take (i := 7) (v := ?_) rfl (by kernel_rfl) (by kernel_rfl) (by kernel_rfl) (fun _ _ _ h => h) (Or.inl ⟨by rfl, ?_⟩) (by assumption) ?_
  rotate_left
  · intro W hSw
    try dsimp only at hSw
    go_simp
    try with_reducible rfl
  simp only [Act.put]
  refine wpAnyH_ready (rs := [8]) (by kernel_rfl) (by simp) ?_
  refine AllReadyH.cons rfl (fun K hK => ?_) AllReadyH.nil
  go_simp
  refine (propagate_any v Ac Ad n d cc cd (L ++ P) D w.drew r true HP HLLd HDLd HNN HDD HDN (by omega) (by omega) (by omega) LIT).mono ?_
  rintro e w1 ⟨A3, c3, rfl, ho1, hb1'⟩
  have hb1 : Below w.heap.size w w1 := Below.tr (Below.refl _ _).drew hb1'
  refine hK.out _ _ ⟨((bcell hb1).1 _ _ hsl).trans t1, ((bcell hb1).1 _ _ hsl).trans t3⟩ (fun hHeld2 => ?_)
  clear hK K
  try simp only [Act.put, List.setIfInBounds_toArray, List.set_cons_zero, List.set_cons_succ]
  refine wpAnyH_take (i := 9) (v := ?_) rfl (by kernel_rfl) (by kernel_rfl) (by kernel_rfl) (fun _ _ _ h => h) (Or.inl ⟨by rfl, ?_⟩) (by assumption) ?_
  rotate_left
  · intro W hSw
    try dsimp only at hSw
    go_simp
    try with_reducible rfl
  simp only [Act.put, List.setIfInBounds_toArray]
  refine wpAnyH_take (i := 10) (v := ?_) rfl (by kernel_rfl) (by kernel_rfl) (by kernel_rfl) (fun _ _ _ h => h) (Or.inl ⟨by rfl, ?_⟩) (by assumption) ?_
  rotate_left
  · intro W hSw
    try dsimp only at hSw
    go_simp
    try with_reducible rfl
  simp only [Act.put]
  refine wpAnyH_take (i := 11) (v := ?_) rfl (by kernel_rfl) (by kernel_rfl) (by kernel_rfl) (fun _ _ _ h => h) (Or.inl ⟨by rfl, ?_⟩) (by assumption) ?_
  rotate_left
  · intro W hSw
    try dsimp only at hSw
    go_simp
    try with_reducible rfl
  simp only [Act.put]
  refine wpAnyH_take (i := 12) (v := ?_) rfl (by kernel_rfl) (by kernel_rfl) (by kernel_rfl) (fun _ _ _ h => h) (Or.inl ⟨by rfl, ?_⟩) (by assumption) ?_
  rotate_left
  · intro W hSw
    try dsimp only at hSw
    go_simp
    try with_reducible rfl
  simp only [Act.put]
  refine wpAnyH_take (i := 13) (v := ?_) rfl (by kernel_rfl) (by kernel_rfl) (by kernel_rfl) (fun _ _ _ h => h) (Or.inl ⟨by rfl, ?_⟩) (by assumption) ?_
  rotate_left
  · intro W hSw
    try dsimp only at hSw
    go_simp
    try with_reducible rfl
  simp only [Act.put]
  refine wpAnyH_done (by kernel_rfl) ?_ _
  have B1 := Lib.hid hb1
  have O1 := Lib.hid (own_ilies ho1)
  have S1 := Lib.hid (h.out.below hb1)
  have K1 := Lib.hid (HB.out.below hb1)
  have hs1z := hb1.size
  have u0 : w1.cell? ⟨s, 0, none⟩ = some (.int .i64 v) := K1.out.cell 0
  have u3 : w1.cell? ⟨s, 3, none⟩ = some (.slice Ad d cd) := K1.out.cell 3
  have f3 := K1.out.frozen 3
  have f4 := K1.out.frozen 4
  have f5 := K1.out.frozen 5
  have f6 := K1.out.frozen 6
  have u4 : w1.cell? ⟨s, 4, none⟩ = some (.slice none 0 0) := K1.out.cell 4
  have u5 : w1.cell? ⟨s, 5, none⟩ = some (.bool false) := K1.out.cell 5
  have u6 : w1.cell? ⟨s, 6, none⟩ = some (.bool false) := K1.out.cell 6
  obtain ⟨p, hpl⟩ : ∃ p, r.length = p := ⟨_, rfl⟩
  rw [hpl] at hrl ⊢
  have HPL := Lib.hid hpl
  clear hpl ho1 hb1 hb1' t0 t1 t3 hHeld hHeld2
  go_wp2_with fail
  refine (firstFree_any v _ _ _ r _ O1 HPL HRI hrl hv).mono ?_
  rintro e w2 ⟨rfl, rfl⟩
  have hd0 := HD0.out
  subst hd0
  go_wp2_with fail
  have S2 := Lib.hid S1.out.flag
  have HDI : Hid (In12 D) := Lib.hid (lits_in12 (by omega) (clauseB_lits HC.out))
  refine (learn_any base s v L P D Ac Al Ad cc cl cd vsL vsP _ _ _ _ S2 HDI (by rw [HDD.out]; omega) (by omega) (by omega)).mono ?_
  rintro e w3 ⟨rfl, Ac', cc', Al', cl', vsP', hs3, hb3⟩
  have S3 := Lib.hid hs3
  have B3 := Lib.hid hb3
  clear hs3 hb3 S1 S2
  go_wp2_with fail
  refine (undo_any base s v L (P ++ [negL D]) D Ac' Al' Ad cc' cl' cd vsL vsP' _ _ _ _ S3 (by rw [HDD.out]; omega)).mono ?_
  rintro e w4 ⟨rfl, hs4, hb4⟩
  have S4 := Lib.hid hs4
  have B4 := Lib.hid hb4
  clear hs4 hb4 S3
  go_wp2
  go_end0
  have hD := HDE.out
  subst hD
  exact ⟨rfl, Ac', cc', Al', cl', vsP', S4.out, (((B1.out.mono (by omega)).setCell hbs _).trans B3.out).trans B4.out⟩
set_option maxRecDepth 100000 in
set_option maxHeartbeats 8000000 in
theorem advance_bad (base s v : Nat) (L P : List (List Int)) (D : List Int) (Ac Al Ad : Option Addr) (cc cl cd : Nat) (vsL vsP : List Value) (w : World) (r : List Int) (h : Hid (Srch w base s v L P D Ac Al Ad cc cl cd vsL vsP (.slice none 0 0) false false)) (hv : v ≤ 12) (hp : P.length ≤ 300) (hl : L.length ≤ 60) (HC : Hid (clauseB v D = true)) (HL : Hid (∀ c ∈ L ++ P, clauseB v c = true)) (hr : propN (L ++ P) 20 D = (r, true)) (hD : D ≠ []) :
    Calls Try.prog 113 #[.pointer (some ⟨s, 0, none⟩)] w fun x w' => x = .returned (.tuple #[]) ∧ ∃ Ac' cc' Al' cl' vsP', Srch w' base s v L (P ++ [negL D]) (D.take (D.length - 1)) Ac' Al' Ad cc' cl' cd vsL vsP' (.slice none 0 0) false false ∧ Below base w w' := by
  obtain ⟨i0, hi0, hz0, hz1, hz2⟩ := info_parts info_int
  have HP : Hid (PInv v (L ++ P) r true D) := Lib.hid (pinv_start (by omega) HC.out hr)
  have hd12 := clauseB_len HC.out
  have LIT : Hid (∀ c ∈ L ++ P, ∀ x ∈ c, litB v x = true) := Lib.hid (fun c hc x hx => clauseB_lits (HL.out c hc) x hx)
  have HRL : Hid (∀ x ∈ r, litB v x = true) := Lib.hid (propN_lits LIT.out (clauseB_lits HC.out) hr)
  have HRI : Hid (In12 r) := Lib.hid (lits_in12 (by omega) HRL.out)
  have hrl : r.length ≤ 1000 := by have := propN_len hr; omega
  have HPR := Lib.hid hr
  clear hr
  obtain ⟨d, hdd⟩ : ∃ d, D.length = d := ⟨_, rfl⟩
  obtain ⟨n, hnn⟩ : ∃ n, L.length + P.length = n := ⟨_, rfl⟩
  have hns : n ≤ 400 := by omega
  have hb := h.out.blk
  rw [hdd, hnn] at hb
  rw [hdd] at hd12
  have HDD := Lib.hid hdd
  have HNN : Hid ((L ++ P).length = n) := Lib.hid (by rw [List.length_append]; exact hnn)
  have HNN2 := Lib.hid hnn
  have hsl := hb.lt
  have hbs := h.out.ge
  have t0 : w.cell? ⟨s, 0, none⟩ = some (.int .i64 v) := hb.cell 0
  have t1 : w.cell? ⟨s, 1, none⟩ = some (.slice Ac n cc) := hb.cell 1
  have t3 : w.cell? ⟨s, 3, none⟩ = some (.slice Ad d cd) := hb.cell 3
  have HB := Lib.hid hb
  have HLL : Hid (LLies w Ac (L ++ P)) := Lib.hid h.out.r.lies
  have HDL : Hid (ILies w Ad D) := Lib.hid (own_ilies h.out.r.d)
  have HDN : Hid (Ad = none → d = 0 ∧ cd = 0) := Lib.hid (fun e => by rw [← HDD.out]; exact own_nilA h.out.r.d e)
  have HLLd : Hid (LLies w.drew Ac (L ++ P)) := Lib.hid (HLL.out.below (Below.refl w.heap.size w).drew)
  have HDLd : Hid (ILies w.drew Ad D) := Lib.hid (HDL.out.below (Below.refl w.heap.size w).drew)
  clear hb hdd hnn HLL HDL
  have HD0 : Hid (0 < d) := Lib.hid (by rw [← HDD.out]; exact List.length_pos_iff.2 hD)
  clear hD
  go_enter Try.func113, Try.ntmps113
  go_wp2_with fail
  refine wp_region_held_drew (S := fun W => W.cell? ⟨s, 1, none⟩ = some (.slice Ac n cc) ∧ W.cell? ⟨s, 3, none⟩ = some (.slice Ad d cd)) (by kernel_rfl) ?_ (fun hHeld => ?_)
  · exact ⟨t1, t3⟩
  refine wpAnyH_take (i := 0) (v := ?_) rfl (by kernel_rfl) (by kernel_rfl) (by kernel_rfl) (fun _ _ _ h => h) (Or.inl ⟨by rfl, ?_⟩) (by assumption) ?_
  rotate_left
  · intro W hSw
    try dsimp only at hSw
    go_simp
    try with_reducible rfl
  simp only [Act.put, List.setIfInBounds_toArray]
  refine wpAnyH_take (i := 1) (v := ?_) rfl (by kernel_rfl) (by kernel_rfl) (by kernel_rfl) (fun _ _ _ h => h) (Or.inl ⟨by rfl, ?_⟩) (by assumption) ?_
  rotate_left
  · intro W hSw
    try dsimp only at hSw
    go_simp
    try with_reducible rfl
  simp only [Act.put]
  refine wpAnyH_take (i := 2) (v := ?_) rfl (by kernel_rfl) (by kernel_rfl) (by kernel_rfl) (fun _ _ _ h => h) (Or.inl ⟨by rfl, ?_⟩) (by assumption) ?_
  rotate_left
  · intro W hSw
    try dsimp only at hSw
    go_simp
    try with_reducible rfl
  simp only [Act.put]
  refine wpAnyH_take (i := 3) (v := ?_) rfl (by kernel_rfl) (by kernel_rfl) (by kernel_rfl) (fun _ _ _ h => h) (Or.inl ⟨by rfl, ?_⟩) (by assumption) ?_
  rotate_left
  · intro W hSw
    try dsimp only at hSw
    go_simp
    try with_reducible rfl
  simp only [Act.put]
  refine wpAnyH_take (i := 4) (v := ?_) rfl (by kernel_rfl) (by kernel_rfl) (by kernel_rfl) (fun _ _ _ h => h) (Or.inl ⟨by rfl, ?_⟩) (by assumption) ?_
  rotate_left
  · intro W hSw
    try dsimp only at hSw
    go_simp
    try with_reducible rfl
  simp only [Act.put]
  refine wpAnyH_take (i := 5) (v := ?_) rfl (by kernel_rfl) (by kernel_rfl) (by kernel_rfl) (fun _ _ _ h => h) (Or.inl ⟨by rfl, ?_⟩) (by assumption) ?_
  rotate_left
  · intro W hSw
    try dsimp only at hSw
    go_simp
    try with_reducible rfl
  simp only [Act.put]
  refine wpAnyH_take (i := 6) (v := ?_) rfl (by kernel_rfl) (by kernel_rfl) (by kernel_rfl) (fun _ _ _ h => h) (Or.inl ⟨by rfl, ?_⟩) (by assumption) ?_
  rotate_left
  · intro W hSw
    try dsimp only at hSw
    go_simp
    try with_reducible rfl
  simp only [Act.put]
  refine wpAnyH_take (i := 7) (v := ?_) rfl (by kernel_rfl) (by kernel_rfl) (by kernel_rfl) (fun _ _ _ h => h) (Or.inl ⟨by rfl, ?_⟩) (by assumption) ?_
  rotate_left
  · intro W hSw
    try dsimp only at hSw
    go_simp
    try with_reducible rfl
  simp only [Act.put]
  refine wpAnyH_ready (rs := [8]) (by kernel_rfl) (by simp) ?_
  refine AllReadyH.cons rfl (fun K hK => ?_) AllReadyH.nil
  go_simp
  refine (propagate_any v Ac Ad n d cc cd (L ++ P) D w.drew r true HP HLLd HDLd HNN HDD HDN (by omega) (by omega) (by omega) LIT).mono ?_
  rintro e w1 ⟨A3, c3, rfl, ho1, hb1'⟩
  have hb1 : Below w.heap.size w w1 := Below.tr (Below.refl _ _).drew hb1'
  refine hK.out _ _ ⟨((bcell hb1).1 _ _ hsl).trans t1, ((bcell hb1).1 _ _ hsl).trans t3⟩ (fun hHeld2 => ?_)
  clear hK K
  try simp only [Act.put, List.setIfInBounds_toArray, List.set_cons_zero, List.set_cons_succ]
  refine wpAnyH_take (i := 9) (v := ?_) rfl (by kernel_rfl) (by kernel_rfl) (by kernel_rfl) (fun _ _ _ h => h) (Or.inl ⟨by rfl, ?_⟩) (by assumption) ?_
  rotate_left
  · intro W hSw
    try dsimp only at hSw
    go_simp
    try with_reducible rfl
  simp only [Act.put, List.setIfInBounds_toArray]
  refine wpAnyH_take (i := 10) (v := ?_) rfl (by kernel_rfl) (by kernel_rfl) (by kernel_rfl) (fun _ _ _ h => h) (Or.inl ⟨by rfl, ?_⟩) (by assumption) ?_
  rotate_left
  · intro W hSw
    try dsimp only at hSw
    go_simp
    try with_reducible rfl
  simp only [Act.put]
  refine wpAnyH_take (i := 11) (v := ?_) rfl (by kernel_rfl) (by kernel_rfl) (by kernel_rfl) (fun _ _ _ h => h) (Or.inl ⟨by rfl, ?_⟩) (by assumption) ?_
  rotate_left
  · intro W hSw
    try dsimp only at hSw
    go_simp
    try with_reducible rfl
  simp only [Act.put]
  refine wpAnyH_take (i := 12) (v := ?_) rfl (by kernel_rfl) (by kernel_rfl) (by kernel_rfl) (fun _ _ _ h => h) (Or.inl ⟨by rfl, ?_⟩) (by assumption) ?_
  rotate_left
  · intro W hSw
    try dsimp only at hSw
    go_simp
    try with_reducible rfl
  simp only [Act.put]
  refine wpAnyH_take (i := 13) (v := ?_) rfl (by kernel_rfl) (by kernel_rfl) (by kernel_rfl) (fun _ _ _ h => h) (Or.inl ⟨by rfl, ?_⟩) (by assumption) ?_
  rotate_left
  · intro W hSw
    try dsimp only at hSw
    go_simp
    try with_reducible rfl
  simp only [Act.put]
  refine wpAnyH_done (by kernel_rfl) ?_ _
  have B1 := Lib.hid hb1
  have O1 := Lib.hid (own_ilies ho1)
  have S1 := Lib.hid (h.out.below hb1)
  have K1 := Lib.hid (HB.out.below hb1)
  have hs1z := hb1.size
  have u0 : w1.cell? ⟨s, 0, none⟩ = some (.int .i64 v) := K1.out.cell 0
  have u3 : w1.cell? ⟨s, 3, none⟩ = some (.slice Ad d cd) := K1.out.cell 3
  have f3 := K1.out.frozen 3
  have f4 := K1.out.frozen 4
  have f5 := K1.out.frozen 5
  have f6 := K1.out.frozen 6
  have u4 : w1.cell? ⟨s, 4, none⟩ = some (.slice none 0 0) := K1.out.cell 4
  have u5 : w1.cell? ⟨s, 5, none⟩ = some (.bool false) := K1.out.cell 5
  have u6 : w1.cell? ⟨s, 6, none⟩ = some (.bool false) := K1.out.cell 6
  obtain ⟨p, hpl⟩ : ∃ p, r.length = p := ⟨_, rfl⟩
  rw [hpl] at hrl ⊢
  have HPL := Lib.hid hpl
  clear hpl ho1 hb1 hb1' t0 t1 t3 hHeld hHeld2
  go_wp2_with fail
  refine (firstFree_any v _ _ _ r _ O1 HPL HRI hrl hv).mono ?_
  rintro e w2 ⟨rfl, rfl⟩
  have hd0 : ((d : Int) == 0) = false := by have := HD0.out; simp; omega
  go_wp2_with fail
  have S2 := S1
  have HDI : Hid (In12 D) := Lib.hid (lits_in12 (by omega) (clauseB_lits HC.out))
  refine (learn_any base s v L P D Ac Al Ad cc cl cd vsL vsP _ _ _ _ S2 HDI (by rw [HDD.out]; omega) (by omega) (by omega)).mono ?_
  rintro e w3 ⟨rfl, Ac', cc', Al', cl', vsP', hs3, hb3⟩
  have S3 := Lib.hid hs3
  have B3 := Lib.hid hb3
  clear hs3 hb3 S1 S2
  go_wp2_with fail
  refine (undo_any base s v L (P ++ [negL D]) D Ac' Al' Ad cc' cl' cd vsL vsP' _ _ _ _ S3 (by rw [HDD.out]; omega)).mono ?_
  rintro e w4 ⟨rfl, hs4, hb4⟩
  have S4 := Lib.hid hs4
  have B4 := Lib.hid hb4
  clear hs4 hb4 S3
  go_wp2
  go_end0
  exact ⟨rfl, Ac', cc', Al', cl', vsP', S4.out, ((B1.out.mono (by omega)).trans B3.out).trans B4.out⟩
set_option maxRecDepth 100000 in
set_option maxHeartbeats 8000000 in
theorem advance_on (base s v : Nat) (L P : List (List Int)) (D : List Int) (Ac Al Ad : Option Addr) (cc cl cd : Nat) (vsL vsP : List Value) (w : World) (r : List Int) (h : Hid (Srch w base s v L P D Ac Al Ad cc cl cd vsL vsP (.slice none 0 0) false false)) (hv : v ≤ 12) (hp : P.length ≤ 300) (hl : L.length ≤ 60) (HC : Hid (clauseB v D = true)) (HL : Hid (∀ c ∈ L ++ P, clauseB v c = true)) (hr : propN (L ++ P) 20 D = (r, false)) (hx : firstV v r ≠ 0) :
    Calls Try.prog 113 #[.pointer (some ⟨s, 0, none⟩)] w fun x w' => x = .returned (.tuple #[]) ∧ ∃ Ad' cd', Srch w' base s v L P (D ++ [firstV v r]) Ac Al Ad' cc cl cd' vsL vsP (.slice none 0 0) false false ∧ Below base w w' := by
  obtain ⟨i0, hi0, hz0, hz1, hz2⟩ := info_parts info_int
  have HP : Hid (PInv v (L ++ P) r false D) := Lib.hid (pinv_start (by omega) HC.out hr)
  have hd12 := clauseB_len HC.out
  have LIT : Hid (∀ c ∈ L ++ P, ∀ x ∈ c, litB v x = true) := Lib.hid (fun c hc x hx => clauseB_lits (HL.out c hc) x hx)
  have HRL : Hid (∀ x ∈ r, litB v x = true) := Lib.hid (propN_lits LIT.out (clauseB_lits HC.out) hr)
  have HRI : Hid (In12 r) := Lib.hid (lits_in12 (by omega) HRL.out)
  have hrl : r.length ≤ 1000 := by have := propN_len hr; omega
  have HPR := Lib.hid hr
  clear hr
  obtain ⟨d, hdd⟩ : ∃ d, D.length = d := ⟨_, rfl⟩
  obtain ⟨n, hnn⟩ : ∃ n, L.length + P.length = n := ⟨_, rfl⟩
  have hns : n ≤ 400 := by omega
  have hb := h.out.blk
  rw [hdd, hnn] at hb
  rw [hdd] at hd12
  have HDD := Lib.hid hdd
  have HNN : Hid ((L ++ P).length = n) := Lib.hid (by rw [List.length_append]; exact hnn)
  have HNN2 := Lib.hid hnn
  have hsl := hb.lt
  have hbs := h.out.ge
  have t0 : w.cell? ⟨s, 0, none⟩ = some (.int .i64 v) := hb.cell 0
  have t1 : w.cell? ⟨s, 1, none⟩ = some (.slice Ac n cc) := hb.cell 1
  have t3 : w.cell? ⟨s, 3, none⟩ = some (.slice Ad d cd) := hb.cell 3
  have HB := Lib.hid hb
  have HLL : Hid (LLies w Ac (L ++ P)) := Lib.hid h.out.r.lies
  have HDL : Hid (ILies w Ad D) := Lib.hid (own_ilies h.out.r.d)
  have HDN : Hid (Ad = none → d = 0 ∧ cd = 0) := Lib.hid (fun e => by rw [← HDD.out]; exact own_nilA h.out.r.d e)
  have HLLd : Hid (LLies w.drew Ac (L ++ P)) := Lib.hid (HLL.out.below (Below.refl w.heap.size w).drew)
  have HDLd : Hid (ILies w.drew Ad D) := Lib.hid (HDL.out.below (Below.refl w.heap.size w).drew)
  clear hb hdd hnn HLL HDL
  have HX0 := Lib.hid hx
  clear hx
  go_enter Try.func113, Try.ntmps113
  go_wp2_with fail
  refine wp_region_held_drew (S := fun W => W.cell? ⟨s, 1, none⟩ = some (.slice Ac n cc) ∧ W.cell? ⟨s, 3, none⟩ = some (.slice Ad d cd)) (by kernel_rfl) ?_ (fun hHeld => ?_)
  · exact ⟨t1, t3⟩
  refine wpAnyH_take (i := 0) (v := ?_) rfl (by kernel_rfl) (by kernel_rfl) (by kernel_rfl) (fun _ _ _ h => h) (Or.inl ⟨by rfl, ?_⟩) (by assumption) ?_
  rotate_left
  · intro W hSw
    try dsimp only at hSw
    go_simp
    try with_reducible rfl
  simp only [Act.put, List.setIfInBounds_toArray]
  refine wpAnyH_take (i := 1) (v := ?_) rfl (by kernel_rfl) (by kernel_rfl) (by kernel_rfl) (fun _ _ _ h => h) (Or.inl ⟨by rfl, ?_⟩) (by assumption) ?_
  rotate_left
  · intro W hSw
    try dsimp only at hSw
    go_simp
    try with_reducible rfl
  simp only [Act.put]
  refine wpAnyH_take (i := 2) (v := ?_) rfl (by kernel_rfl) (by kernel_rfl) (by kernel_rfl) (fun _ _ _ h => h) (Or.inl ⟨by rfl, ?_⟩) (by assumption) ?_
  rotate_left
  · intro W hSw
    try dsimp only at hSw
    go_simp
    try with_reducible rfl
  simp only [Act.put]
  refine wpAnyH_take (i := 3) (v := ?_) rfl (by kernel_rfl) (by kernel_rfl) (by kernel_rfl) (fun _ _ _ h => h) (Or.inl ⟨by rfl, ?_⟩) (by assumption) ?_
  rotate_left
  · intro W hSw
    try dsimp only at hSw
    go_simp
    try with_reducible rfl
  simp only [Act.put]
  refine wpAnyH_take (i := 4) (v := ?_) rfl (by kernel_rfl) (by kernel_rfl) (by kernel_rfl) (fun _ _ _ h => h) (Or.inl ⟨by rfl, ?_⟩) (by assumption) ?_
  rotate_left
  · intro W hSw
    try dsimp only at hSw
    go_simp
    try with_reducible rfl
  simp only [Act.put]
  refine wpAnyH_take (i := 5) (v := ?_) rfl (by kernel_rfl) (by kernel_rfl) (by kernel_rfl) (fun _ _ _ h => h) (Or.inl ⟨by rfl, ?_⟩) (by assumption) ?_
  rotate_left
  · intro W hSw
    try dsimp only at hSw
    go_simp
    try with_reducible rfl
  simp only [Act.put]
  refine wpAnyH_take (i := 6) (v := ?_) rfl (by kernel_rfl) (by kernel_rfl) (by kernel_rfl) (fun _ _ _ h => h) (Or.inl ⟨by rfl, ?_⟩) (by assumption) ?_
  rotate_left
  · intro W hSw
    try dsimp only at hSw
    go_simp
    try with_reducible rfl
  simp only [Act.put]
  refine wpAnyH_take (i := 7) (v := ?_) rfl (by kernel_rfl) (by kernel_rfl) (by kernel_rfl) (fun _ _ _ h => h) (Or.inl ⟨by rfl, ?_⟩) (by assumption) ?_
  rotate_left
  · intro W hSw
    try dsimp only at hSw
    go_simp
    try with_reducible rfl
  simp only [Act.put]
  refine wpAnyH_ready (rs := [8]) (by kernel_rfl) (by simp) ?_
  refine AllReadyH.cons rfl (fun K hK => ?_) AllReadyH.nil
  go_simp
  refine (propagate_any v Ac Ad n d cc cd (L ++ P) D w.drew r false HP HLLd HDLd HNN HDD HDN (by omega) (by omega) (by omega) LIT).mono ?_
  rintro e w1 ⟨A3, c3, rfl, ho1, hb1'⟩
  have hb1 : Below w.heap.size w w1 := Below.tr (Below.refl _ _).drew hb1'
  refine hK.out _ _ ⟨((bcell hb1).1 _ _ hsl).trans t1, ((bcell hb1).1 _ _ hsl).trans t3⟩ (fun hHeld2 => ?_)
  clear hK K
  try simp only [Act.put, List.setIfInBounds_toArray, List.set_cons_zero, List.set_cons_succ]
  refine wpAnyH_take (i := 9) (v := ?_) rfl (by kernel_rfl) (by kernel_rfl) (by kernel_rfl) (fun _ _ _ h => h) (Or.inl ⟨by rfl, ?_⟩) (by assumption) ?_
  rotate_left
  · intro W hSw
    try dsimp only at hSw
    go_simp
    try with_reducible rfl
  simp only [Act.put, List.setIfInBounds_toArray]
  refine wpAnyH_take (i := 10) (v := ?_) rfl (by kernel_rfl) (by kernel_rfl) (by kernel_rfl) (fun _ _ _ h => h) (Or.inl ⟨by rfl, ?_⟩) (by assumption) ?_
  rotate_left
  · intro W hSw
    try dsimp only at hSw
    go_simp
    try with_reducible rfl
  simp only [Act.put]
  refine wpAnyH_take (i := 11) (v := ?_) rfl (by kernel_rfl) (by kernel_rfl) (by kernel_rfl) (fun _ _ _ h => h) (Or.inl ⟨by rfl, ?_⟩) (by assumption) ?_
  rotate_left
  · intro W hSw
    try dsimp only at hSw
    go_simp
    try with_reducible rfl
  simp only [Act.put]
  refine wpAnyH_take (i := 12) (v := ?_) rfl (by kernel_rfl) (by kernel_rfl) (by kernel_rfl) (fun _ _ _ h => h) (Or.inl ⟨by rfl, ?_⟩) (by assumption) ?_
  rotate_left
  · intro W hSw
    try dsimp only at hSw
    go_simp
    try with_reducible rfl
  simp only [Act.put]
  refine wpAnyH_take (i := 13) (v := ?_) rfl (by kernel_rfl) (by kernel_rfl) (by kernel_rfl) (fun _ _ _ h => h) (Or.inl ⟨by rfl, ?_⟩) (by assumption) ?_
  rotate_left
  · intro W hSw
    try dsimp only at hSw
    go_simp
    try with_reducible rfl
  simp only [Act.put]
  refine wpAnyH_done (by kernel_rfl) ?_ _
  have B1 := Lib.hid hb1
  have O1 := Lib.hid (own_ilies ho1)
  have S1 := Lib.hid (h.out.below hb1)
  have K1 := Lib.hid (HB.out.below hb1)
  have hs1z := hb1.size
  have u0 : w1.cell? ⟨s, 0, none⟩ = some (.int .i64 v) := K1.out.cell 0
  have u3 : w1.cell? ⟨s, 3, none⟩ = some (.slice Ad d cd) := K1.out.cell 3
  have f3 := K1.out.frozen 3
  have f4 := K1.out.frozen 4
  have f5 := K1.out.frozen 5
  have f6 := K1.out.frozen 6
  have u4 : w1.cell? ⟨s, 4, none⟩ = some (.slice none 0 0) := K1.out.cell 4
  have u5 : w1.cell? ⟨s, 5, none⟩ = some (.bool false) := K1.out.cell 5
  have u6 : w1.cell? ⟨s, 6, none⟩ = some (.bool false) := K1.out.cell 6
  obtain ⟨p, hpl⟩ : ∃ p, r.length = p := ⟨_, rfl⟩
  rw [hpl] at hrl ⊢
  have HPL := Lib.hid hpl
  clear hpl ho1 hb1 hb1' t0 t1 t3 hHeld hHeld2
  go_wp2_with fail
  refine (firstFree_any v _ _ _ r _ O1 HPL HRI hrl hv).mono ?_
  rintro e w2 ⟨rfl, rfl⟩
  have hx0 := HX0.out
  have hx2 := firstV_some hx0
  obtain ⟨x, hxe⟩ : ∃ x, firstV v r = x := ⟨_, rfl⟩
  rw [hxe] at hx0 hx2 ⊢
  have hx0' : (x != 0) = true := by simpa using hx0
  have hxa : 1 ≤ x := hx2.1
  have hxb : x ≤ 12 := by omega
  clear hx0 hx2
  have OD : Hid (w1.ownsRow base 3 1 (.slice Ad d cd) d (D.map (Value.int .i64))) := Lib.hid (by have := S1.out.r.d; rw [HDD.out] at this; exact this)
  have hds : (Value.slice Ad d cd).ownBlock ≠ some s := by have := S1.out.off.2.2.2.2; rw [HDD.out] at this; exact this
  have HDS := Lib.hid hds
  clear hds
  go_wp2_with (at_builtin; (refine wpList_append_lies _ rfl _ _ 55 rfl base 3 i0 (.int .i64 0) 1 8 Try.underlying55 hi0 hz0 hz1 hz2 rfl (by omega) _ d _ rfl (OD.out.alloc _) ⟨w1.heap.size, 0, none⟩ 1 1 [.int .i64 x] rfl rfl (one_new1 w1 _ _) (by intro u hu; rw [List.mem_singleton.1 hu]; rfl) (by omega) (by unfold maxLen; omega) (by omega) (by first | omega | (simp; omega)) (w1.heap.size + 1) (by first | rfl | simp) ?_; intro g2 cap2 w2 hownx hgx hatx hltx; have KA := Lib.hid (kept_app hgx); have OW2 := Lib.hid hownx; have AT2 := Lib.hid hatx; have K2 := Lib.hid (KA.out.blk K1.out HDS.out); have v3 : w2.cell? ⟨s, 3, none⟩ = some (.slice Ad d cd) := K2.out.cell 3; have e3 := K2.out.frozen 3; clear hownx hgx hatx hltx))
  go_end0
  have hd' := HDD.out
  subst hd'
  refine ⟨rfl, some ⟨g2, 0, none⟩, cap2, S1.out.decide KA.out (by rw [List.map_append, hxe]; exact OW2.out) (AT2.out.elim .inl (fun q => .inr (by omega))), ?_⟩
  have b1 : Below base w w1 := B1.out.mono (by omega)
  exact (KA.out.below b1 (by omega) (fun i e => (OD.out.lt i e).1)).setCell hbs _
set_option maxRecDepth 100000 in
set_option maxHeartbeats 8000000 in
theorem advance_yes (base s v : Nat) (L P : List (List Int)) (D : List Int) (Ac Al Ad : Option Addr) (cc cl cd : Nat) (vsL vsP : List Value) (w : World) (r : List Int) (h : Hid (Srch w base s v L P D Ac Al Ad cc cl cd vsL vsP (.slice none 0 0) false false)) (hv : v ≤ 12) (hp : P.length ≤ 300) (hl : L.length ≤ 60) (HC : Hid (clauseB v D = true)) (HL : Hid (∀ c ∈ L ++ P, clauseB v c = true)) (hr : propN (L ++ P) 20 D = (r, false)) (hx : firstV v r = 0) :
    Calls Try.prog 113 #[.pointer (some ⟨s, 0, none⟩)] w fun x w' => x = .returned (.tuple #[]) ∧ ∃ g, Srch w' base s v L P D Ac Al Ad cc cl cd vsL vsP (.slice (some ⟨g, 0, none⟩) v v) true true ∧ Blk w' g 4 ((modelW v r).map Value.bool) ∧ w.heap.size ≤ g ∧ Below base w w' := by
  obtain ⟨i0, hi0, hz0, hz1, hz2⟩ := info_parts info_int
  have HP : Hid (PInv v (L ++ P) r false D) := Lib.hid (pinv_start (by omega) HC.out hr)
  have hd12 := clauseB_len HC.out
  have LIT : Hid (∀ c ∈ L ++ P, ∀ x ∈ c, litB v x = true) := Lib.hid (fun c hc x hx => clauseB_lits (HL.out c hc) x hx)
  have HRL : Hid (∀ x ∈ r, litB v x = true) := Lib.hid (propN_lits LIT.out (clauseB_lits HC.out) hr)
  have HRI : Hid (In12 r) := Lib.hid (lits_in12 (by omega) HRL.out)
  have hrl : r.length ≤ 1000 := by have := propN_len hr; omega
  have HPR := Lib.hid hr
  clear hr
  obtain ⟨d, hdd⟩ : ∃ d, D.length = d := ⟨_, rfl⟩
  obtain ⟨n, hnn⟩ : ∃ n, L.length + P.length = n := ⟨_, rfl⟩
  have hns : n ≤ 400 := by omega
  have hb := h.out.blk
  rw [hdd, hnn] at hb
  rw [hdd] at hd12
  have HDD := Lib.hid hdd
  have HNN : Hid ((L ++ P).length = n) := Lib.hid (by rw [List.length_append]; exact hnn)
  have HNN2 := Lib.hid hnn
  have hsl := hb.lt
  have hbs := h.out.ge
  have t0 : w.cell? ⟨s, 0, none⟩ = some (.int .i64 v) := hb.cell 0
  have t1 : w.cell? ⟨s, 1, none⟩ = some (.slice Ac n cc) := hb.cell 1
  have t3 : w.cell? ⟨s, 3, none⟩ = some (.slice Ad d cd) := hb.cell 3
  have HB := Lib.hid hb
  have HLL : Hid (LLies w Ac (L ++ P)) := Lib.hid h.out.r.lies
  have HDL : Hid (ILies w Ad D) := Lib.hid (own_ilies h.out.r.d)
  have HDN : Hid (Ad = none → d = 0 ∧ cd = 0) := Lib.hid (fun e => by rw [← HDD.out]; exact own_nilA h.out.r.d e)
  have HLLd : Hid (LLies w.drew Ac (L ++ P)) := Lib.hid (HLL.out.below (Below.refl w.heap.size w).drew)
  have HDLd : Hid (ILies w.drew Ad D) := Lib.hid (HDL.out.below (Below.refl w.heap.size w).drew)
  clear hb hdd hnn HLL HDL
  have HX0 := Lib.hid hx
  clear hx
  go_enter Try.func113, Try.ntmps113
  go_wp2_with fail
  refine wp_region_held_drew (S := fun W => W.cell? ⟨s, 1, none⟩ = some (.slice Ac n cc) ∧ W.cell? ⟨s, 3, none⟩ = some (.slice Ad d cd)) (by kernel_rfl) ?_ (fun hHeld => ?_)
  · exact ⟨t1, t3⟩
  refine wpAnyH_take (i := 0) (v := ?_) rfl (by kernel_rfl) (by kernel_rfl) (by kernel_rfl) (fun _ _ _ h => h) (Or.inl ⟨by rfl, ?_⟩) (by assumption) ?_
  rotate_left
  · intro W hSw
    try dsimp only at hSw
    go_simp
    try with_reducible rfl
  simp only [Act.put, List.setIfInBounds_toArray]
  refine wpAnyH_take (i := 1) (v := ?_) rfl (by kernel_rfl) (by kernel_rfl) (by kernel_rfl) (fun _ _ _ h => h) (Or.inl ⟨by rfl, ?_⟩) (by assumption) ?_
  rotate_left
  · intro W hSw
    try dsimp only at hSw
    go_simp
    try with_reducible rfl
  simp only [Act.put]
  refine wpAnyH_take (i := 2) (v := ?_) rfl (by kernel_rfl) (by kernel_rfl) (by kernel_rfl) (fun _ _ _ h => h) (Or.inl ⟨by rfl, ?_⟩) (by assumption) ?_
  rotate_left
  · intro W hSw
    try dsimp only at hSw
    go_simp
    try with_reducible rfl
  simp only [Act.put]
  refine wpAnyH_take (i := 3) (v := ?_) rfl (by kernel_rfl) (by kernel_rfl) (by kernel_rfl) (fun _ _ _ h => h) (Or.inl ⟨by rfl, ?_⟩) (by assumption) ?_
  rotate_left
  · intro W hSw
    try dsimp only at hSw
    go_simp
    try with_reducible rfl
  simp only [Act.put]
  refine wpAnyH_take (i := 4) (v := ?_) rfl (by kernel_rfl) (by kernel_rfl) (by kernel_rfl) (fun _ _ _ h => h) (Or.inl ⟨by rfl, ?_⟩) (by assumption) ?_
  rotate_left
  · intro W hSw
    try dsimp only at hSw
    go_simp
    try with_reducible rfl
  simp only [Act.put]
  refine wpAnyH_take (i := 5) (v := ?_) rfl (by kernel_rfl) (by kernel_rfl) (by kernel_rfl) (fun _ _ _ h => h) (Or.inl ⟨by rfl, ?_⟩) (by assumption) ?_
  rotate_left
  · intro W hSw
    try dsimp only at hSw
    go_simp
    try with_reducible rfl
  simp only [Act.put]
  refine wpAnyH_take (i := 6) (v := ?_) rfl (by kernel_rfl) (by kernel_rfl) (by kernel_rfl) (fun _ _ _ h => h) (Or.inl ⟨by rfl, ?_⟩) (by assumption) ?_
  rotate_left
  · intro W hSw
    try dsimp only at hSw
    go_simp
    try with_reducible rfl
  simp only [Act.put]
  refine wpAnyH_take (i := 7) (v := ?_) rfl (by kernel_rfl) (by kernel_rfl) (by kernel_rfl) (fun _ _ _ h => h) (Or.inl ⟨by rfl, ?_⟩) (by assumption) ?_
  rotate_left
  · intro W hSw
    try dsimp only at hSw
    go_simp
    try with_reducible rfl
  simp only [Act.put]
  refine wpAnyH_ready (rs := [8]) (by kernel_rfl) (by simp) ?_
  refine AllReadyH.cons rfl (fun K hK => ?_) AllReadyH.nil
  go_simp
  refine (propagate_any v Ac Ad n d cc cd (L ++ P) D w.drew r false HP HLLd HDLd HNN HDD HDN (by omega) (by omega) (by omega) LIT).mono ?_
  rintro e w1 ⟨A3, c3, rfl, ho1, hb1'⟩
  have hb1 : Below w.heap.size w w1 := Below.tr (Below.refl _ _).drew hb1'
  refine hK.out _ _ ⟨((bcell hb1).1 _ _ hsl).trans t1, ((bcell hb1).1 _ _ hsl).trans t3⟩ (fun hHeld2 => ?_)
  clear hK K
  try simp only [Act.put, List.setIfInBounds_toArray, List.set_cons_zero, List.set_cons_succ]
  refine wpAnyH_take (i := 9) (v := ?_) rfl (by kernel_rfl) (by kernel_rfl) (by kernel_rfl) (fun _ _ _ h => h) (Or.inl ⟨by rfl, ?_⟩) (by assumption) ?_
  rotate_left
  · intro W hSw
    try dsimp only at hSw
    go_simp
    try with_reducible rfl
  simp only [Act.put, List.setIfInBounds_toArray]
  refine wpAnyH_take (i := 10) (v := ?_) rfl (by kernel_rfl) (by kernel_rfl) (by kernel_rfl) (fun _ _ _ h => h) (Or.inl ⟨by rfl, ?_⟩) (by assumption) ?_
  rotate_left
  · intro W hSw
    try dsimp only at hSw
    go_simp
    try with_reducible rfl
  simp only [Act.put]
  refine wpAnyH_take (i := 11) (v := ?_) rfl (by kernel_rfl) (by kernel_rfl) (by kernel_rfl) (fun _ _ _ h => h) (Or.inl ⟨by rfl, ?_⟩) (by assumption) ?_
  rotate_left
  · intro W hSw
    try dsimp only at hSw
    go_simp
    try with_reducible rfl
  simp only [Act.put]
  refine wpAnyH_take (i := 12) (v := ?_) rfl (by kernel_rfl) (by kernel_rfl) (by kernel_rfl) (fun _ _ _ h => h) (Or.inl ⟨by rfl, ?_⟩) (by assumption) ?_
  rotate_left
  · intro W hSw
    try dsimp only at hSw
    go_simp
    try with_reducible rfl
  simp only [Act.put]
  refine wpAnyH_take (i := 13) (v := ?_) rfl (by kernel_rfl) (by kernel_rfl) (by kernel_rfl) (fun _ _ _ h => h) (Or.inl ⟨by rfl, ?_⟩) (by assumption) ?_
  rotate_left
  · intro W hSw
    try dsimp only at hSw
    go_simp
    try with_reducible rfl
  simp only [Act.put]
  refine wpAnyH_done (by kernel_rfl) ?_ _
  have B1 := Lib.hid hb1
  have O1 := Lib.hid (own_ilies ho1)
  have S1 := Lib.hid (h.out.below hb1)
  have K1 := Lib.hid (HB.out.below hb1)
  have hs1z := hb1.size
  have u0 : w1.cell? ⟨s, 0, none⟩ = some (.int .i64 v) := K1.out.cell 0
  have u3 : w1.cell? ⟨s, 3, none⟩ = some (.slice Ad d cd) := K1.out.cell 3
  have f3 := K1.out.frozen 3
  have f4 := K1.out.frozen 4
  have f5 := K1.out.frozen 5
  have f6 := K1.out.frozen 6
  have u4 : w1.cell? ⟨s, 4, none⟩ = some (.slice none 0 0) := K1.out.cell 4
  have u5 : w1.cell? ⟨s, 5, none⟩ = some (.bool false) := K1.out.cell 5
  have u6 : w1.cell? ⟨s, 6, none⟩ = some (.bool false) := K1.out.cell 6
  obtain ⟨p, hpl⟩ : ∃ p, r.length = p := ⟨_, rfl⟩
  rw [hpl] at hrl ⊢
  have HPL := Lib.hid hpl
  clear hpl ho1 hb1 hb1' t0 t1 t3 hHeld hHeld2
  go_wp2_with fail
  refine (firstFree_any v _ _ _ r _ O1 HPL HRI hrl hv).mono ?_
  rintro e w2 ⟨rfl, rfl⟩
  rw [HX0.out]
  go_wp2_with fail
  refine (modelWith_any v _ _ _ r _ O1 HPL HRL hrl hv).mono ?_
  rintro e w2 ⟨rfl, hk2, hb2⟩
  have S2 := Lib.hid (S1.out.below hb2)
  have M2 := Lib.hid hk2
  have B2 := Lib.hid hb2
  have K2 := Lib.hid (K1.out.below hb2)
  have v4 : w2.cell? ⟨s, 4, none⟩ = some (.slice none 0 0) := K2.out.cell 4
  have v5 : w2.cell? ⟨s, 5, none⟩ = some (.bool false) := K2.out.cell 5
  have v6 : w2.cell? ⟨s, 6, none⟩ = some (.bool false) := K2.out.cell 6
  have e4 := K2.out.frozen 4
  have e5 := K2.out.frozen 5
  have e6 := K2.out.frozen 6
  obtain ⟨g, hg⟩ : ∃ g, w1.heap.size = g := ⟨_, rfl⟩
  have hgs : s ≠ g := by omega
  have HG := Lib.hid hg
  rw [hg] at M2 ⊢
  clear hk2 hb2 hg K1 S1 u0 u3 u4 u5 u6 f3 f4 f5 f6
  go_wp2
  go_end0
  refine ⟨rfl, g, S2.out.model.found.flag, ((M2.out.far (Ne.symm hgs) _).far (Ne.symm hgs) _).far (Ne.symm hgs) _, by rw [← HG.out]; exact B1.out.size, ?_⟩
  have b1 : Below base w w1 := B1.out.mono (by omega)
  exact (((b1.trans (B2.out.mono (by omega))).setCell hbs _).setCell hbs _).setCell hbs _
end Go.Proofs.Ytklcfbjaodildaa
