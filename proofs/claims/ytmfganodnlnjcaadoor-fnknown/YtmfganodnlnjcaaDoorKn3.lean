/-
  Contracts of chapter 10: the program's joins and meets.
-/
import Derived.Test.YtmfganodnlnjcaaDoorKn2
namespace Go.Proofs.YtmfganodnlnjcaaDoor.Op
open Go.Proofs.YtmfganodnlnjcaaDoor
open Go.ChangeShapes Go.WideShapes Go.ChangeAt Go.RowKit

theorem eql_nilF (f : Fn) (b c : Array Value) (W : World) : (binOp .eql 60 (.func f b c) .nilFunc).run Tryd.prog W = .ok (.bool false) W := by
  rfl
theorem eql_nilF0 (W : World) : (binOp .eql 60 .nilFunc .nilFunc).run Tryd.prog W = .ok (.bool true) W := by
  rfl
theorem ilies_new (w : World) (l : List Int) (t : TypeId) : ILies (w.alloc (.cells (l.map (Value.int .i64)).toArray t)) (some ⟨w.heap.size, 0, none⟩) l := Blk.ilies (t := t) (heap_alloc_new w _)
def ruleA (f : Kn → Kn → Kn) (al ah bl bh : Int) : Kn × Bool := if gK al ah && gK bl bh then (f (kn al ah) (kn bl bh), true) else (⟨0, 0⟩, false)
theorem ruleA_no1 {f : Kn → Kn → Kn} {al ah bl bh : Int} (h : gK al ah = false) : ruleA f al ah bl bh = (⟨0, 0⟩, false) := by unfold ruleA; rw [h]; rfl
theorem ruleA_no2 {f : Kn → Kn → Kn} {al ah bl bh : Int} (h : gK bl bh = false) : ruleA f al ah bl bh = (⟨0, 0⟩, false) := by unfold ruleA; rw [h]; simp
theorem ruleA_yes {f : Kn → Kn → Kn} {a b c d : Nat} (g : goodK ⟨a, b⟩ = true) (g' : goodK ⟨c, d⟩ = true) : ruleA f a b c d = (f ⟨a, b⟩ ⟨c, d⟩, true) := by
  unfold ruleA; rw [gK_nat, gK_nat, g, g']; rfl
theorem or_int {a b : Nat} (ha : a < 65536) (hb : b < 65536) : bits .or .i64 (a : Int) (b : Int) = ((a ||| b : Nat) : Int) := i64_or_nat a b (by omega) (by omega)
theorem and_int {a b : Nat} (ha : a < 65536) (hb : b < 65536) : bits .and .i64 (a : Int) (b : Int) = ((a &&& b : Nat) : Int) := i64_and_nat a b (by omega) (by omega)
theorem xor_int {a b : Nat} (ha : a < 65536) (hb : b < 65536) : bits .xor .i64 (a : Int) (b : Int) = ((a ^^^ b : Nat) : Int) := i64_xor_nat a b (by omega) (by omega)
theorem not_int {a b : Nat} (ha : a < 65536) (hb : b < 65536) : bits .andNot .i64 (a : Int) (b : Int) = ((andN a b : Nat) : Int) := i64_andNot_nat a b (by omega) (by omega)
theorem join_int {a b c d : Nat} (g : goodK ⟨a, b⟩ = true) (g' : goodK ⟨c, d⟩ = true) :
    ofI [(a : Int), bits .or .i64 (a : Int) (b : Int), (c : Int), bits .or .i64 (c : Int) (d : Int)] = (((joinK ⟨a, b⟩ ⟨c, d⟩).v : Int), ((joinK ⟨a, b⟩ ⟨c, d⟩).m : Int)) := by
  have h1 := goodK_yes g; have h2 := goodK_yes g'
  simp only at h1 h2
  rw [or_int h1.1 h1.2.1, or_int h2.1 h2.2.1]
  have := ofI_nat [a, a ||| b, c, c ||| d] (by
    intro n hn
    simp only [List.mem_cons, List.mem_nil_iff, or_false] at hn
    rcases hn with rfl | rfl | rfl | rfl
    · exact h1.1
    · exact or_lt16 h1.1 h1.2.1
    · exact h2.1
    · exact or_lt16 h2.1 h2.2.1)
  have e := join_four g g'
  simp only at e
  rw [e] at this
  exact this
theorem meet_int {a b c d : Nat} (g : goodK ⟨a, b⟩ = true) (g' : goodK ⟨c, d⟩ = true) :
    (bits .or .i64 (a : Int) (c : Int), bits .and .i64 (b : Int) (d : Int)) = (((meetK ⟨a, b⟩ ⟨c, d⟩).v : Int), ((meetK ⟨a, b⟩ ⟨c, d⟩).m : Int)) := by
  have h1 := goodK_yes g; have h2 := goodK_yes g'
  simp only at h1 h2
  rw [or_int h1.1 h2.1, and_int h1.2.1 h2.2.1]; rfl

set_option maxRecDepth 100000 in
set_option maxHeartbeats 4000000 in
theorem join_any (al ah bl bh : Nat) (w : World) (ga : Hid (goodK ⟨al, ah⟩ = true)) (gb : Hid (goodK ⟨bl, bh⟩ = true)) :
    Calls Tryd.prog 48 #[.agg #[.int .i64 al, .int .i64 ah], .agg #[.int .i64 bl, .int .i64 bh]] w fun e w' => e = .returned (.agg #[.int .i64 (joinK ⟨al, ah⟩ ⟨bl, bh⟩).v, .int .i64 (joinK ⟨al, ah⟩ ⟨bl, bh⟩).m]) ∧ Below w.heap.size w w' := by
  have N0 := three_newk w (al) (ah) (bl) (bh) (0) (0)
  go_enter Tryd.func48, Tryd.ntmps48
  go_wp2_with fail
  unfold kO at N0
  generalize (((w.alloc (.cells #[.int .i64 al, .int .i64 ah] 24)).alloc (.cells #[.int .i64 bl, .int .i64 bh] 24)).alloc (.cells #[.int .i64 0, .int .i64 0] 24)) = v0 at N0 ⊢
  have D0 := Lib.hid (Below.refl v0.heap.size v0)
  have lr := N0.out.2.2.1.lt
  refine wp_region_held_drew (S := fun W => W.cell? ⟨w.heap.size, 0, none⟩ = some (.int .i64 al) ∧ W.cell? ⟨w.heap.size, 1, none⟩ = some (.int .i64 ah) ∧ W.cell? ⟨w.heap.size + 1, 0, none⟩ = some (.int .i64 bl) ∧ W.cell? ⟨w.heap.size + 1, 1, none⟩ = some (.int .i64 bh)) (by kernel_rfl) ?_ (fun hHeld => ?_)
  · exact ⟨(KB.below N0.out.1 D0.out).c0, (KB.below N0.out.1 D0.out).c1, (KB.below N0.out.2.1 D0.out).c0, (KB.below N0.out.2.1 D0.out).c1⟩
  refine wpAnyH_take (i := 0) (v := ?_) rfl (by kernel_rfl) (by kernel_rfl) (by kernel_rfl) (fun _ _ _ h => h) (Or.inl ⟨by rfl, ?_⟩) (by assumption) ?_
  rotate_left
  · intro W hSw
    try dsimp only at hSw
    go_simp
    try with_reducible rfl
  refine wpAnyH_take (i := 2) (v := ?_) rfl (by kernel_rfl) (by kernel_rfl) (by kernel_rfl) (fun _ _ _ h => h) (Or.inl ⟨by rfl, ?_⟩) (by assumption) ?_
  rotate_left
  · intro W hSw
    try dsimp only at hSw
    go_simp
    try with_reducible rfl
  refine wpAnyH_take (i := 4) (v := ?_) rfl (by kernel_rfl) (by kernel_rfl) (by kernel_rfl) (fun _ _ _ h => h) (Or.inl ⟨by rfl, ?_⟩) (by assumption) ?_
  rotate_left
  · intro W hSw
    try dsimp only at hSw
    go_simp
    try with_reducible rfl
  refine wpAnyH_take (i := 6) (v := ?_) rfl (by kernel_rfl) (by kernel_rfl) (by kernel_rfl) (fun _ _ _ h => h) (Or.inl ⟨by rfl, ?_⟩) (by assumption) ?_
  rotate_left
  · intro W hSw
    try dsimp only at hSw
    go_simp
    try with_reducible rfl
  refine wpAnyH_take (i := 1) (v := ?_) rfl (by kernel_rfl) (by kernel_rfl) (by kernel_rfl) (fun _ _ _ h => h) (Or.inl ⟨by rfl, ?_⟩) (by assumption) ?_
  rotate_left
  · intro W hSw
    try dsimp only at hSw
    go_simp
    try with_reducible rfl
  refine wpAnyH_take (i := 5) (v := ?_) rfl (by kernel_rfl) (by kernel_rfl) (by kernel_rfl) (fun _ _ _ h => h) (Or.inl ⟨by rfl, ?_⟩) (by assumption) ?_
  rotate_left
  · intro W hSw
    try dsimp only at hSw
    go_simp
    try with_reducible rfl
  refine wpAnyH_ready (rs := [3]) (by kernel_rfl) (by simp) ?_
  refine AllReadyH.cons rfl (fun K hK => ?_) AllReadyH.nil
  go_simp
  refine (greatest_any _ _ _).mono ?_
  rintro e y1 ⟨rfl, hb⟩
  have Y1 := Lib.hid (Below.tr (Below.drew D0.out) hb)
  have Y1z := Y1.out.size
  have Y1_r := Lib.hid (KB.below (KB.drewn N0.out.2.2.1) hb)
  have Y1_rx := Y1_r.out.c0
  have Y1_ry := Y1_r.out.c1
  have Y1_rf := Y1_r.out.f 0
  have Y1_rh := Y1_r.out.f 1
  have Y1_rl := Y1_r.out.lt
  clear hb
  refine hK.out _ _ ⟨(KB.below N0.out.1 Y1.out).c0, (KB.below N0.out.1 Y1.out).c1, (KB.below N0.out.2.1 Y1.out).c0, (KB.below N0.out.2.1 Y1.out).c1⟩ (fun hHeld2 => ?_)
  clear hK K
  refine wpAnyH_ready (rs := [7]) (by kernel_rfl) (by simp) ?_
  refine AllReadyH.cons rfl (fun K hK => ?_) AllReadyH.nil
  go_simp
  refine (greatest_any _ _ _).mono ?_
  rintro e y2 ⟨rfl, hb⟩
  have Y2 := Lib.hid (Below.tr Y1.out hb)
  have Y2z := Y2.out.size
  have Y2_r := Lib.hid (KB.below Y1_r.out hb)
  have Y2_rx := Y2_r.out.c0
  have Y2_ry := Y2_r.out.c1
  have Y2_rf := Y2_r.out.f 0
  have Y2_rh := Y2_r.out.f 1
  have Y2_rl := Y2_r.out.lt
  clear hb
  refine hK.out _ _ ⟨(KB.below N0.out.1 Y2.out).c0, (KB.below N0.out.1 Y2.out).c1, (KB.below N0.out.2.1 Y2.out).c0, (KB.below N0.out.2.1 Y2.out).c1⟩ (fun hHeld2 => ?_)
  clear hK K
  refine wpAnyH_ready (rs := [8]) (by kernel_rfl) (by simp) ?_
  refine AllReadyH.cons rfl (fun K hK => ?_) AllReadyH.nil
  go_simp
  refine hK.out _ _ ⟨(KB.below N0.out.1 (Below.tr Y2.out (below1 _ _))).c0, (KB.below N0.out.1 (Below.tr Y2.out (below1 _ _))).c1, (KB.below N0.out.2.1 (Below.tr Y2.out (below1 _ _))).c0, (KB.below N0.out.2.1 (Below.tr Y2.out (below1 _ _))).c1⟩ (fun hHeld2 => ?_)
  clear hK K
  refine wpAnyH_ready (rs := [9]) (by kernel_rfl) (by simp) ?_
  refine AllReadyH.cons rfl (fun K hK => ?_) AllReadyH.nil
  go_simp
  refine (knownOf_any _ 4 4 [(al : Int), bits .or .i64 (al : Int) (ah : Int), (bl : Int), bits .or .i64 (bl : Int) (bh : Int)] _ (Lib.hid (ilies_new _ [(al : Int), bits .or .i64 (al : Int) (ah : Int), (bl : Int), bits .or .i64 (bl : Int) (bh : Int)] _)) (Lib.hid rfl) (by omega)).mono ?_
  rintro e y3 ⟨rfl, hb⟩
  have Y3 := Lib.hid (Below.tr (Below.tr Y2.out (below1 _ _)) hb)
  have Y3z := Y3.out.size
  have Y3_r := Lib.hid (KB.below (KB.below Y2_r.out (below1 _ _)) hb)
  have Y3_rx := Y3_r.out.c0
  have Y3_ry := Y3_r.out.c1
  have Y3_rf := Y3_r.out.f 0
  have Y3_rh := Y3_r.out.f 1
  have Y3_rl := Y3_r.out.lt
  clear hb
  refine hK.out _ _ ⟨(KB.below N0.out.1 Y3.out).c0, (KB.below N0.out.1 Y3.out).c1, (KB.below N0.out.2.1 Y3.out).c0, (KB.below N0.out.2.1 Y3.out).c1⟩ (fun hHeld2 => ?_)
  clear hK K
  refine wpAnyH_ready (rs := [10]) (by kernel_rfl) (by simp) ?_
  refine AllReadyH.cons rfl (fun K hK => ?_) AllReadyH.nil
  go_simp
  refine hK.out _ _ ⟨(KB.far2 (KB.below N0.out.1 Y3.out) (by omega)).c0, (KB.far2 (KB.below N0.out.1 Y3.out) (by omega)).c1, (KB.far2 (KB.below N0.out.2.1 Y3.out) (by omega)).c0, (KB.far2 (KB.below N0.out.2.1 Y3.out) (by omega)).c1⟩ (fun hHeld2 => ?_)
  clear hK K
  refine wpAnyH_done (by kernel_rfl) ?_ _
  go_wp2
  refine kshut0 ((KB.below N0.out.2.2.1 Y3.out).set2) (belowK2 (Below.tr N0.out.2.2.2 Y3.out) (by omega)) ?_ (by rw [join_int ga.out gb.out])
  intro c0 c1; simp [results, Tryd.results48, go_sem, c0, c1]

set_option maxRecDepth 100000 in
set_option maxHeartbeats 2000000 in
theorem meet_any (al ah bl bh : Nat) (w : World) (ga : Hid (goodK ⟨al, ah⟩ = true)) (gb : Hid (goodK ⟨bl, bh⟩ = true)) :
    Calls Tryd.prog 56 #[.agg #[.int .i64 al, .int .i64 ah], .agg #[.int .i64 bl, .int .i64 bh]] w fun e w' => e = .returned (.agg #[.int .i64 (meetK ⟨al, ah⟩ ⟨bl, bh⟩).v, .int .i64 (meetK ⟨al, ah⟩ ⟨bl, bh⟩).m]) ∧ Below w.heap.size w w' := by
  have N0 := three_newk w (al) (ah) (bl) (bh) (0) (0)
  go_enter Tryd.func56, Tryd.ntmps56
  clear N0
  go_wp2
  obtain ⟨e1, e2⟩ := Prod.mk.inj (meet_int ga.out gb.out)
  have N1 := three_newk w al ah bl bh (bits .or .i64 (al : Int) (bl : Int)) (bits .and .i64 (ah : Int) (bh : Int))
  unfold kO at N1
  refine kshut0 N1.out.2.2.1 N1.out.2.2.2 ?_ (by rw [e1, e2])
  intro c0 c1; simp [results, Tryd.results56, go_sem, c0, c1]

set_option maxRecDepth 100000 in
set_option maxHeartbeats 4000000 in
theorem byRule_join (al ah bl bh : Int) (w : World) :
    Calls Tryd.prog 36 #[.func (.func 48) #[] #[], .agg #[.int .i64 al, .int .i64 ah], .agg #[.int .i64 bl, .int .i64 bh]] w fun e w' => e = .returned (.tuple #[.agg #[.int .i64 (ruleA joinK al ah bl bh).1.v, .int .i64 (ruleA joinK al ah bl bh).1.m], .bool (ruleA joinK al ah bl bh).2]) ∧ Below w.heap.size w w' := by
  have qn := fun W => eql_nilF (.func 48) #[] #[] W
  cases h1 : gK al ah
  · have RA := Lib.hid (ruleA_no1 (f := joinK) (bl := bl) (bh := bh) h1)
    have G1 := Lib.hid h1
    clear h1
    have N0 := three_newk w (al) (ah) (bl) (bh) (0) (0)
    go_enter Tryd.func36, Tryd.ntmps36
    go_wp2_with fail
    unfold kO at N0
    generalize (((w.alloc (.cells #[.int .i64 al, .int .i64 ah] 24)).alloc (.cells #[.int .i64 bl, .int .i64 bh] 24)).alloc (.cells #[.int .i64 0, .int .i64 0] 24)) = v0 at N0 ⊢
    have D0 := Lib.hid (Below.refl v0.heap.size v0)
    have lr := N0.out.2.2.1.lt
    refine (goodKI_any _ _ _).mono ?_
    rw [G1.out]
    rintro e v1 ⟨rfl, hb⟩
    have D1 := Lib.hid (Below.tr D0.out hb)
    clear hb
    have k0 := (KB.below N0.out.1 D1.out).c0
    have m0 := (KB.below N0.out.1 D1.out).c1
    have k1 := (KB.below N0.out.2.1 D1.out).c0
    have m1 := (KB.below N0.out.2.1 D1.out).c1
    have k2 := (KB.below N0.out.2.2.1 D1.out).c0
    have m2 := (KB.below N0.out.2.2.1 D1.out).c1
    have f2 := (KB.below N0.out.2.2.1 D1.out).f 0
    have j2 := (KB.below N0.out.2.2.1 D1.out).f 1
    go_wp2
    refine kshut1 (ok := false) ((KB.below N0.out.2.2.1 D1.out).set2) (belowK2 (Below.tr N0.out.2.2.2 D1.out) (by omega)) ?_ ?_
    · intro c0 c1; simp [results, Tryd.results36, go_sem, c0, c1]
    · rw [RA.out]; rfl
  · cases h2 : gK bl bh
    · have RA := Lib.hid (ruleA_no2 (f := joinK) (al := al) (ah := ah) h2)
      have G1 := Lib.hid h1
      have G2 := Lib.hid h2
      clear h1 h2
      have N0 := three_newk w (al) (ah) (bl) (bh) (0) (0)
      go_enter Tryd.func36, Tryd.ntmps36
      go_wp2_with fail
      unfold kO at N0
      generalize (((w.alloc (.cells #[.int .i64 al, .int .i64 ah] 24)).alloc (.cells #[.int .i64 bl, .int .i64 bh] 24)).alloc (.cells #[.int .i64 0, .int .i64 0] 24)) = v0 at N0 ⊢
      have D0 := Lib.hid (Below.refl v0.heap.size v0)
      have lr := N0.out.2.2.1.lt
      refine (goodKI_any _ _ _).mono ?_
      rw [G1.out]
      rintro e v1 ⟨rfl, hb⟩
      have D1 := Lib.hid (Below.tr D0.out hb)
      clear hb
      have k0 := (KB.below N0.out.1 D1.out).c0
      have m0 := (KB.below N0.out.1 D1.out).c1
      have k1 := (KB.below N0.out.2.1 D1.out).c0
      have m1 := (KB.below N0.out.2.1 D1.out).c1
      have k2 := (KB.below N0.out.2.2.1 D1.out).c0
      have m2 := (KB.below N0.out.2.2.1 D1.out).c1
      have f2 := (KB.below N0.out.2.2.1 D1.out).f 0
      have j2 := (KB.below N0.out.2.2.1 D1.out).f 1
      go_wp2_with fail
      refine (goodKI_any _ _ _).mono ?_
      rw [G2.out]
      rintro e v2 ⟨rfl, hb⟩
      have D2 := Lib.hid (Below.tr D1.out hb)
      clear hb
      have k0 := (KB.below N0.out.1 D2.out).c0
      have m0 := (KB.below N0.out.1 D2.out).c1
      have k1 := (KB.below N0.out.2.1 D2.out).c0
      have m1 := (KB.below N0.out.2.1 D2.out).c1
      have k2 := (KB.below N0.out.2.2.1 D2.out).c0
      have m2 := (KB.below N0.out.2.2.1 D2.out).c1
      have f2 := (KB.below N0.out.2.2.1 D2.out).f 0
      have j2 := (KB.below N0.out.2.2.1 D2.out).f 1
      go_wp2
      refine kshut1 (ok := false) ((KB.below N0.out.2.2.1 D2.out).set2) (belowK2 (Below.tr N0.out.2.2.2 D2.out) (by omega)) ?_ ?_
      · intro c0 c1; simp [results, Tryd.results36, go_sem, c0, c1]
      · rw [RA.out]; rfl
    · obtain ⟨a, b, rfl, rfl, ga⟩ := gK_open h1
      obtain ⟨c, d, rfl, rfl, gb⟩ := gK_open h2
      have RA := Lib.hid (ruleA_yes (f := joinK) ga gb)
      have G1 := Lib.hid h1
      have G2 := Lib.hid h2
      have GA := Lib.hid ga
      have GB := Lib.hid gb
      clear h1 h2 ga gb
      have N0 := three_newk w (a) (b) (c) (d) (0) (0)
      go_enter Tryd.func36, Tryd.ntmps36
      go_wp2_with fail
      unfold kO at N0
      generalize (((w.alloc (.cells #[.int .i64 a, .int .i64 b] 24)).alloc (.cells #[.int .i64 c, .int .i64 d] 24)).alloc (.cells #[.int .i64 0, .int .i64 0] 24)) = v0 at N0 ⊢
      have D0 := Lib.hid (Below.refl v0.heap.size v0)
      have lr := N0.out.2.2.1.lt
      refine (goodKI_any _ _ _).mono ?_
      rw [G1.out]
      rintro e v1 ⟨rfl, hb⟩
      have D1 := Lib.hid (Below.tr D0.out hb)
      clear hb
      have k0 := (KB.below N0.out.1 D1.out).c0
      have m0 := (KB.below N0.out.1 D1.out).c1
      have k1 := (KB.below N0.out.2.1 D1.out).c0
      have m1 := (KB.below N0.out.2.1 D1.out).c1
      have k2 := (KB.below N0.out.2.2.1 D1.out).c0
      have m2 := (KB.below N0.out.2.2.1 D1.out).c1
      have f2 := (KB.below N0.out.2.2.1 D1.out).f 0
      have j2 := (KB.below N0.out.2.2.1 D1.out).f 1
      go_wp2_with fail
      refine (goodKI_any _ _ _).mono ?_
      rw [G2.out]
      rintro e v2 ⟨rfl, hb⟩
      have D2 := Lib.hid (Below.tr D1.out hb)
      clear hb
      have k0 := (KB.below N0.out.1 D2.out).c0
      have m0 := (KB.below N0.out.1 D2.out).c1
      have k1 := (KB.below N0.out.2.1 D2.out).c0
      have m1 := (KB.below N0.out.2.1 D2.out).c1
      have k2 := (KB.below N0.out.2.2.1 D2.out).c0
      have m2 := (KB.below N0.out.2.2.1 D2.out).c1
      have f2 := (KB.below N0.out.2.2.1 D2.out).f 0
      have j2 := (KB.below N0.out.2.2.1 D2.out).f 1
      go_wp2_with fail
      refine (join_any _ _ _ _ _ GA GB).mono ?_
      rintro e v3 ⟨rfl, hb⟩
      have D3 := Lib.hid (Below.tr D2.out hb)
      clear hb
      have k2 := (KB.below N0.out.2.2.1 D3.out).c0
      have m2 := (KB.below N0.out.2.2.1 D3.out).c1
      have f2 := (KB.below N0.out.2.2.1 D3.out).f 0
      have j2 := (KB.below N0.out.2.2.1 D3.out).f 1
      go_wp2
      refine kshut1 (ok := true) ((KB.below N0.out.2.2.1 D3.out).set2) (belowK2 (Below.tr N0.out.2.2.2 D3.out) (by omega)) ?_ ?_
      · intro c0 c1; simp [results, Tryd.results36, go_sem, c0, c1]
      · rw [RA.out]

set_option maxRecDepth 100000 in
set_option maxHeartbeats 4000000 in
theorem byRule_meet (al ah bl bh : Int) (w : World) :
    Calls Tryd.prog 36 #[.func (.func 56) #[] #[], .agg #[.int .i64 al, .int .i64 ah], .agg #[.int .i64 bl, .int .i64 bh]] w fun e w' => e = .returned (.tuple #[.agg #[.int .i64 (ruleA meetK al ah bl bh).1.v, .int .i64 (ruleA meetK al ah bl bh).1.m], .bool (ruleA meetK al ah bl bh).2]) ∧ Below w.heap.size w w' := by
  have qn := fun W => eql_nilF (.func 56) #[] #[] W
  cases h1 : gK al ah
  · have RA := Lib.hid (ruleA_no1 (f := meetK) (bl := bl) (bh := bh) h1)
    have G1 := Lib.hid h1
    clear h1
    have N0 := three_newk w (al) (ah) (bl) (bh) (0) (0)
    go_enter Tryd.func36, Tryd.ntmps36
    go_wp2_with fail
    unfold kO at N0
    generalize (((w.alloc (.cells #[.int .i64 al, .int .i64 ah] 24)).alloc (.cells #[.int .i64 bl, .int .i64 bh] 24)).alloc (.cells #[.int .i64 0, .int .i64 0] 24)) = v0 at N0 ⊢
    have D0 := Lib.hid (Below.refl v0.heap.size v0)
    have lr := N0.out.2.2.1.lt
    refine (goodKI_any _ _ _).mono ?_
    rw [G1.out]
    rintro e v1 ⟨rfl, hb⟩
    have D1 := Lib.hid (Below.tr D0.out hb)
    clear hb
    have k0 := (KB.below N0.out.1 D1.out).c0
    have m0 := (KB.below N0.out.1 D1.out).c1
    have k1 := (KB.below N0.out.2.1 D1.out).c0
    have m1 := (KB.below N0.out.2.1 D1.out).c1
    have k2 := (KB.below N0.out.2.2.1 D1.out).c0
    have m2 := (KB.below N0.out.2.2.1 D1.out).c1
    have f2 := (KB.below N0.out.2.2.1 D1.out).f 0
    have j2 := (KB.below N0.out.2.2.1 D1.out).f 1
    go_wp2
    refine kshut1 (ok := false) ((KB.below N0.out.2.2.1 D1.out).set2) (belowK2 (Below.tr N0.out.2.2.2 D1.out) (by omega)) ?_ ?_
    · intro c0 c1; simp [results, Tryd.results36, go_sem, c0, c1]
    · rw [RA.out]; rfl
  · cases h2 : gK bl bh
    · have RA := Lib.hid (ruleA_no2 (f := meetK) (al := al) (ah := ah) h2)
      have G1 := Lib.hid h1
      have G2 := Lib.hid h2
      clear h1 h2
      have N0 := three_newk w (al) (ah) (bl) (bh) (0) (0)
      go_enter Tryd.func36, Tryd.ntmps36
      go_wp2_with fail
      unfold kO at N0
      generalize (((w.alloc (.cells #[.int .i64 al, .int .i64 ah] 24)).alloc (.cells #[.int .i64 bl, .int .i64 bh] 24)).alloc (.cells #[.int .i64 0, .int .i64 0] 24)) = v0 at N0 ⊢
      have D0 := Lib.hid (Below.refl v0.heap.size v0)
      have lr := N0.out.2.2.1.lt
      refine (goodKI_any _ _ _).mono ?_
      rw [G1.out]
      rintro e v1 ⟨rfl, hb⟩
      have D1 := Lib.hid (Below.tr D0.out hb)
      clear hb
      have k0 := (KB.below N0.out.1 D1.out).c0
      have m0 := (KB.below N0.out.1 D1.out).c1
      have k1 := (KB.below N0.out.2.1 D1.out).c0
      have m1 := (KB.below N0.out.2.1 D1.out).c1
      have k2 := (KB.below N0.out.2.2.1 D1.out).c0
      have m2 := (KB.below N0.out.2.2.1 D1.out).c1
      have f2 := (KB.below N0.out.2.2.1 D1.out).f 0
      have j2 := (KB.below N0.out.2.2.1 D1.out).f 1
      go_wp2_with fail
      refine (goodKI_any _ _ _).mono ?_
      rw [G2.out]
      rintro e v2 ⟨rfl, hb⟩
      have D2 := Lib.hid (Below.tr D1.out hb)
      clear hb
      have k0 := (KB.below N0.out.1 D2.out).c0
      have m0 := (KB.below N0.out.1 D2.out).c1
      have k1 := (KB.below N0.out.2.1 D2.out).c0
      have m1 := (KB.below N0.out.2.1 D2.out).c1
      have k2 := (KB.below N0.out.2.2.1 D2.out).c0
      have m2 := (KB.below N0.out.2.2.1 D2.out).c1
      have f2 := (KB.below N0.out.2.2.1 D2.out).f 0
      have j2 := (KB.below N0.out.2.2.1 D2.out).f 1
      go_wp2
      refine kshut1 (ok := false) ((KB.below N0.out.2.2.1 D2.out).set2) (belowK2 (Below.tr N0.out.2.2.2 D2.out) (by omega)) ?_ ?_
      · intro c0 c1; simp [results, Tryd.results36, go_sem, c0, c1]
      · rw [RA.out]; rfl
    · obtain ⟨a, b, rfl, rfl, ga⟩ := gK_open h1
      obtain ⟨c, d, rfl, rfl, gb⟩ := gK_open h2
      have RA := Lib.hid (ruleA_yes (f := meetK) ga gb)
      have G1 := Lib.hid h1
      have G2 := Lib.hid h2
      have GA := Lib.hid ga
      have GB := Lib.hid gb
      clear h1 h2 ga gb
      have N0 := three_newk w (a) (b) (c) (d) (0) (0)
      go_enter Tryd.func36, Tryd.ntmps36
      go_wp2_with fail
      unfold kO at N0
      generalize (((w.alloc (.cells #[.int .i64 a, .int .i64 b] 24)).alloc (.cells #[.int .i64 c, .int .i64 d] 24)).alloc (.cells #[.int .i64 0, .int .i64 0] 24)) = v0 at N0 ⊢
      have D0 := Lib.hid (Below.refl v0.heap.size v0)
      have lr := N0.out.2.2.1.lt
      refine (goodKI_any _ _ _).mono ?_
      rw [G1.out]
      rintro e v1 ⟨rfl, hb⟩
      have D1 := Lib.hid (Below.tr D0.out hb)
      clear hb
      have k0 := (KB.below N0.out.1 D1.out).c0
      have m0 := (KB.below N0.out.1 D1.out).c1
      have k1 := (KB.below N0.out.2.1 D1.out).c0
      have m1 := (KB.below N0.out.2.1 D1.out).c1
      have k2 := (KB.below N0.out.2.2.1 D1.out).c0
      have m2 := (KB.below N0.out.2.2.1 D1.out).c1
      have f2 := (KB.below N0.out.2.2.1 D1.out).f 0
      have j2 := (KB.below N0.out.2.2.1 D1.out).f 1
      go_wp2_with fail
      refine (goodKI_any _ _ _).mono ?_
      rw [G2.out]
      rintro e v2 ⟨rfl, hb⟩
      have D2 := Lib.hid (Below.tr D1.out hb)
      clear hb
      have k0 := (KB.below N0.out.1 D2.out).c0
      have m0 := (KB.below N0.out.1 D2.out).c1
      have k1 := (KB.below N0.out.2.1 D2.out).c0
      have m1 := (KB.below N0.out.2.1 D2.out).c1
      have k2 := (KB.below N0.out.2.2.1 D2.out).c0
      have m2 := (KB.below N0.out.2.2.1 D2.out).c1
      have f2 := (KB.below N0.out.2.2.1 D2.out).f 0
      have j2 := (KB.below N0.out.2.2.1 D2.out).f 1
      go_wp2_with fail
      refine (meet_any _ _ _ _ _ GA GB).mono ?_
      rintro e v3 ⟨rfl, hb⟩
      have D3 := Lib.hid (Below.tr D2.out hb)
      clear hb
      have k2 := (KB.below N0.out.2.2.1 D3.out).c0
      have m2 := (KB.below N0.out.2.2.1 D3.out).c1
      have f2 := (KB.below N0.out.2.2.1 D3.out).f 0
      have j2 := (KB.below N0.out.2.2.1 D3.out).f 1
      go_wp2
      refine kshut1 (ok := true) ((KB.below N0.out.2.2.1 D3.out).set2) (belowK2 (Below.tr N0.out.2.2.2 D3.out) (by omega)) ?_ ?_
      · intro c0 c1; simp [results, Tryd.results36, go_sem, c0, c1]
      · rw [RA.out]

set_option maxRecDepth 100000 in
set_option maxHeartbeats 2000000 in
theorem joinI_any (al ah bl bh : Int) (w : World) :
    Calls Tryd.prog 17 #[.agg #[.int .i64 al, .int .i64 ah], .agg #[.int .i64 bl, .int .i64 bh]] w fun e w' => e = .returned (.tuple #[.agg #[.int .i64 (joinA al ah bl bh).1.v, .int .i64 (joinA al ah bl bh).1.m], .bool (joinA al ah bl bh).2]) ∧ Below w.heap.size w w' := by
  have N0 := three_newk w (al) (ah) (bl) (bh) (0) (0)
  go_enter Tryd.func17, Tryd.ntmps17
  go_wp2_with fail
  unfold kO at N0
  generalize (((w.alloc (.cells #[.int .i64 al, .int .i64 ah] 24)).alloc (.cells #[.int .i64 bl, .int .i64 bh] 24)).alloc (.cells #[.int .i64 0, .int .i64 0] 24)) = v0 at N0 ⊢
  have D0 := Lib.hid (Below.refl v0.heap.size v0)
  have lr := N0.out.2.2.1.lt
  refine (byRule_join _ _ _ _ _).mono ?_
  rintro e v1 ⟨rfl, hb⟩
  have D1 := Lib.hid (Below.tr D0.out hb)
  clear hb
  have k2 := (KB.below N0.out.2.2.1 D1.out).c0
  have m2 := (KB.below N0.out.2.2.1 D1.out).c1
  have f2 := (KB.below N0.out.2.2.1 D1.out).f 0
  have j2 := (KB.below N0.out.2.2.1 D1.out).f 1
  go_wp2
  refine kshut1 (ok := (ruleA joinK al ah bl bh).2) ((KB.below N0.out.2.2.1 D1.out).set2) (belowK2 (Below.tr N0.out.2.2.2 D1.out) (by omega)) ?_ ?_
  · intro c0 c1; simp [results, Tryd.results17, go_sem, c0, c1]
  · rfl

end Go.Proofs.YtmfganodnlnjcaaDoor.Op
