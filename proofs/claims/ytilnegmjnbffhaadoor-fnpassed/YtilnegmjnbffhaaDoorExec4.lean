/-
  The program's step on a machine of its own: contracts by kind.
-/
import Derived.Test.YtilnegmjnbffhaaDoorExec2
import Derived.Deep.RegionHeld3
namespace Go.Proofs.YtilnegmjnbffhaaDoor
open Go.ChangeShapes Go.WideShapes Go.ChangeAt Go.RowKit


set_option maxRecDepth 100000 in
set_option maxHeartbeats 2000000 in
theorem exec_ctxF (i : Int) (d s : Nat) (C : Option Addr) (cn cc : Nat) (at_ : Nat) (base nb g1 g2 g3 c1 c2 c3 : Nat) (m : Mch) (rd rs : Int) (w : World)
    (KB : Hid (Blk w nb 73 [.int .i64 at_, .slice (some ⟨g1, 0, none⟩) 6 c1, .slice (some ⟨g2, 0, none⟩) 16 c2, .slice (some ⟨g3, 0, none⟩) 16 c3])) (hne : nb ≠ g1 ∧ nb ≠ g2 ∧ nb ≠ g3) (_hat : at_ < 20) (_hma : Hid (m.a = at_)) (HO : Hid (OwnM w base g1 g2 g3 c1 c2 c3 m)) (hd : d < 6) (hs : s < 6) (_hrd : m.r.getD d 0 = rd) (hrs : m.r.getD s 0 = rs) (hi : 0 ≤ i ∧ i ≤ 7) (hw2 : 0 ≤ rs ∧ rs < 65536) (h8 : 8 ≤ rs + i) :
    Calls Tryd.prog 67 #[.agg #[.int .i64 5, .int .i64 0, .int .i64 d, .int .i64 s, .int .i64 i, .int .i64 0], .slice C cn cc, .pointer (some ⟨nb, 0, none⟩)] w (fun e w' => e = .panicked (faultC 1) ∧ Below w.heap.size w w') := by
  have k0 : w.cell? ⟨nb, 0, none⟩ = some (.int .i64 at_) := KB.out.there rfl
  have k1 : w.cell? ⟨nb, 1, none⟩ = some (.slice (some ⟨g1, 0, none⟩) 6 c1) := KB.out.there rfl
  have k2 : w.cell? ⟨nb, 2, none⟩ = some (.slice (some ⟨g2, 0, none⟩) 16 c2) := KB.out.there rfl
  have k3 : w.cell? ⟨nb, 3, none⟩ = some (.slice (some ⟨g3, 0, none⟩) 16 c3) := KB.out.there rfl
  have z0 := KB.out.frozen 0
  have lb := KB.out.lt
  have r1 := HO.out.reg hd
  have r2 := HO.out.reg hs
  rw [_hrd] at r1
  rw [hrs] at r2
  have f1 := own_frozen HO.out.1 d
  obtain ⟨l1, l2, l3⟩ := HO.out.lt
  obtain ⟨n1, n2, n3⟩ := hne
  have hdI : (d : Int) < 6 := by omega
  have hsI : (s : Int) < 6 := by omega
  clear _hrd hrs
  have hadd : IntKind.i64.wrap (rs + i) = rs + i := by rw [IntKind.wrap_i64]; omega
  go_enter Tryd.func67, Tryd.ntmps67
  go_wp2_with fail
  refine wp_region_held_drew (S := fun W => W = World.drew (w.alloc (.cells #[.int .i64 5, .int .i64 0, .int .i64 d, .int .i64 s, .int .i64 i, .int .i64 0] 67))) (by kernel_rfl) ?_ (fun hHeld => ?_)
  · rfl
  refine wpAnyH_take (i := 0) (v := ?_) rfl (by kernel_rfl) (by kernel_rfl) (by kernel_rfl) (fun _ _ _ h => h) (Or.inl ⟨by rfl, ?_⟩) (by assumption) ?_
  rotate_left
  · intro W hSw
    subst hSw
    go_simp
    try with_reducible rfl
  simp only [Act.put, List.setIfInBounds_toArray]
  refine wpAnyH_take (i := 1) (v := ?_) rfl (by kernel_rfl) (by kernel_rfl) (by kernel_rfl) (fun _ _ _ h => h) (Or.inl ⟨by rfl, ?_⟩) (by assumption) ?_
  rotate_left
  · intro W hSw
    subst hSw
    go_simp
    try with_reducible rfl
  simp only [Act.put]
  refine wpAnyH_take (i := 2) (v := ?_) rfl (by kernel_rfl) (by kernel_rfl) (by kernel_rfl) (fun _ _ _ h => h) (Or.inl ⟨by rfl, ?_⟩) (by assumption) ?_
  rotate_left
  · intro W hSw
    subst hSw
    go_simp
    try with_reducible rfl
  simp only [Act.put]
  refine wpAnyH_take (i := 3) (v := ?_) rfl (by kernel_rfl) (by kernel_rfl) (by kernel_rfl) (fun _ _ _ h => h) (Or.inl ⟨by rfl, ?_⟩) (by assumption) ?_
  rotate_left
  · intro W hSw
    subst hSw
    go_simp
    try with_reducible rfl
  simp only [Act.put]
  refine wpAnyH_take (i := 4) (v := ?_) rfl (by kernel_rfl) (by kernel_rfl) (by kernel_rfl) (fun _ _ _ h => h) (Or.inl ⟨by rfl, ?_⟩) (by assumption) ?_
  rotate_left
  · intro W hSw
    subst hSw
    go_simp
    try with_reducible rfl
  simp only [Act.put]
  refine wpAnyH_take (i := 5) (v := ?_) rfl (by kernel_rfl) (by kernel_rfl) (by kernel_rfl) (fun _ _ _ h => h) (Or.inl ⟨by rfl, ?_⟩) (by assumption) ?_
  rotate_left
  · intro W hSw
    subst hSw
    go_simp
    try with_reducible rfl
  simp only [Act.put]
  refine wpAnyH_take (i := 6) (v := ?_) rfl (by kernel_rfl) (by kernel_rfl) (by kernel_rfl) (fun _ _ _ h => h) (Or.inl ⟨by rfl, ?_⟩) (by assumption) ?_
  rotate_left
  · intro W hSw
    subst hSw
    go_simp
    try with_reducible rfl
  simp only [Act.put]
  refine wpAnyH_take (i := 7) (v := ?_) rfl (by kernel_rfl) (by kernel_rfl) (by kernel_rfl) (fun _ _ _ h => h) (Or.inl ⟨by rfl, ?_⟩) (by assumption) ?_
  rotate_left
  · intro W hSw
    subst hSw
    go_simp
    try with_reducible rfl
  simp only [Act.put]
  refine wpAnyH_take (i := 8) (v := ?_) rfl (by kernel_rfl) (by kernel_rfl) (by kernel_rfl) (fun _ _ _ h => h) (Or.inl ⟨by rfl, ?_⟩) (by assumption) ?_
  rotate_left
  · intro W hSw
    subst hSw
    go_simp
    try with_reducible rfl
  simp only [Act.put]
  refine wpAnyH_take (i := 9) (v := ?_) rfl (by kernel_rfl) (by kernel_rfl) (by kernel_rfl) (fun _ _ _ h => h) (Or.inl ⟨by rfl, ?_⟩) (by assumption) ?_
  rotate_left
  · intro W hSw
    subst hSw
    go_simp
    try with_reducible rfl
  simp only [Act.put]
  refine wpAnyH_take (i := 10) (v := ?_) rfl (by kernel_rfl) (by kernel_rfl) (by kernel_rfl) (fun _ _ _ h => h) (Or.inl ⟨by rfl, ?_⟩) (by assumption) ?_
  rotate_left
  · intro W hSw
    subst hSw
    go_simp
    try with_reducible rfl
  simp only [Act.put]
  refine wpAnyH_take (i := 11) (v := ?_) rfl (by kernel_rfl) (by kernel_rfl) (by kernel_rfl) (fun _ _ _ h => h) (Or.inl ⟨by rfl, ?_⟩) (by assumption) ?_
  rotate_left
  · intro W hSw
    subst hSw
    go_simp
    try with_reducible rfl
  simp only [Act.put]
  refine wpAnyH_take (i := 12) (v := ?_) rfl (by kernel_rfl) (by kernel_rfl) (by kernel_rfl) (fun _ _ _ h => h) (Or.inl ⟨by rfl, ?_⟩) (by assumption) ?_
  rotate_left
  · intro W hSw
    subst hSw
    go_simp
    try with_reducible rfl
  simp only [Act.put]
  refine wpAnyH_take (i := 13) (v := ?_) rfl (by kernel_rfl) (by kernel_rfl) (by kernel_rfl) (fun _ _ _ h => h) (Or.inl ⟨by rfl, ?_⟩) (by assumption) ?_
  rotate_left
  · intro W hSw
    subst hSw
    go_simp
    try with_reducible rfl
  simp only [Act.put]
  refine wpAnyH_take (i := 14) (v := ?_) rfl (by kernel_rfl) (by kernel_rfl) (by kernel_rfl) (fun _ _ _ h => h) (Or.inl ⟨by rfl, ?_⟩) (by assumption) ?_
  rotate_left
  · intro W hSw
    subst hSw
    go_simp
    try with_reducible rfl
  simp only [Act.put]
  refine wpAnyH_take (i := 15) (v := ?_) rfl (by kernel_rfl) (by kernel_rfl) (by kernel_rfl) (fun _ _ _ h => h) (Or.inl ⟨by rfl, ?_⟩) (by assumption) ?_
  rotate_left
  · intro W hSw
    subst hSw
    go_simp
    try with_reducible rfl
  simp only [Act.put]
  refine wpAnyH_take (i := 16) (v := ?_) rfl (by kernel_rfl) (by kernel_rfl) (by kernel_rfl) (fun _ _ _ h => h) (Or.inl ⟨by rfl, ?_⟩) (by assumption) ?_
  rotate_left
  · intro W hSw
    subst hSw
    go_simp
    try with_reducible rfl
  simp only [Act.put]
  refine wpAnyH_take (i := 17) (v := ?_) rfl (by kernel_rfl) (by kernel_rfl) (by kernel_rfl) (fun _ _ _ h => h) (Or.inl ⟨by rfl, ?_⟩) (by assumption) ?_
  rotate_left
  · intro W hSw
    subst hSw
    go_simp
    try with_reducible rfl
  simp only [Act.put]
  refine wpAnyH_ready (rs := [18]) (by kernel_rfl) (by simp) ?_
  refine AllReadyH.cons rfl (fun K hK => ?_) AllReadyH.nil
  clear hK
  go_simp
  refine (elementAt_fault _ _ _ _ _ h8).mono ?_
  rintro e w' ⟨rfl, rfl⟩
  exact ⟨rfl, rfl, (below1 _ _).drew⟩

set_option maxRecDepth 100000 in
set_option maxHeartbeats 2000000 in
theorem exec_loadF (i : Int) (d s : Nat) (C : Option Addr) (cn cc : Nat) (at_ : Nat) (base nb g1 g2 g3 c1 c2 c3 : Nat) (m : Mch) (rd rs : Int) (w : World)
    (KB : Hid (Blk w nb 73 [.int .i64 at_, .slice (some ⟨g1, 0, none⟩) 6 c1, .slice (some ⟨g2, 0, none⟩) 16 c2, .slice (some ⟨g3, 0, none⟩) 16 c3])) (hne : nb ≠ g1 ∧ nb ≠ g2 ∧ nb ≠ g3) (_hat : at_ < 20) (_hma : Hid (m.a = at_)) (HO : Hid (OwnM w base g1 g2 g3 c1 c2 c3 m)) (hd : d < 6) (hs : s < 6) (_hrd : m.r.getD d 0 = rd) (_hrs : m.r.getD s 0 = rs) (hi : 16 ≤ i) :
    Calls Tryd.prog 67 #[.agg #[.int .i64 6, .int .i64 0, .int .i64 d, .int .i64 s, .int .i64 i, .int .i64 0], .slice C cn cc, .pointer (some ⟨nb, 0, none⟩)] w (fun e w' => e = .panicked (faultC 2) ∧ Below w.heap.size w w') := by
  have k0 : w.cell? ⟨nb, 0, none⟩ = some (.int .i64 at_) := KB.out.there rfl
  have k1 : w.cell? ⟨nb, 1, none⟩ = some (.slice (some ⟨g1, 0, none⟩) 6 c1) := KB.out.there rfl
  have k2 : w.cell? ⟨nb, 2, none⟩ = some (.slice (some ⟨g2, 0, none⟩) 16 c2) := KB.out.there rfl
  have k3 : w.cell? ⟨nb, 3, none⟩ = some (.slice (some ⟨g3, 0, none⟩) 16 c3) := KB.out.there rfl
  have z0 := KB.out.frozen 0
  have lb := KB.out.lt
  have r1 := HO.out.reg hd
  have r2 := HO.out.reg hs
  rw [_hrd] at r1
  rw [_hrs] at r2
  have f1 := own_frozen HO.out.1 d
  obtain ⟨l1, l2, l3⟩ := HO.out.lt
  obtain ⟨n1, n2, n3⟩ := hne
  have hdI : (d : Int) < 6 := by omega
  have hsI : (s : Int) < 6 := by omega
  clear _hrd _hrs
  go_enter Tryd.func67, Tryd.ntmps67
  go_wp2_with fail
  refine wp_region_held_drew (S := fun W => W = World.drew (w.alloc (.cells #[.int .i64 6, .int .i64 0, .int .i64 d, .int .i64 s, .int .i64 i, .int .i64 0] 67))) (by kernel_rfl) ?_ (fun hHeld => ?_)
  · rfl
  refine wpAnyH_take (i := 0) (v := ?_) rfl (by kernel_rfl) (by kernel_rfl) (by kernel_rfl) (fun _ _ _ h => h) (Or.inl ⟨by rfl, ?_⟩) (by assumption) ?_
  rotate_left
  · intro W hSw
    subst hSw
    go_simp
    try with_reducible rfl
  simp only [Act.put, List.setIfInBounds_toArray]
  refine wpAnyH_take (i := 1) (v := ?_) rfl (by kernel_rfl) (by kernel_rfl) (by kernel_rfl) (fun _ _ _ h => h) (Or.inl ⟨by rfl, ?_⟩) (by assumption) ?_
  rotate_left
  · intro W hSw
    subst hSw
    go_simp
    try with_reducible rfl
  simp only [Act.put]
  refine wpAnyH_take (i := 2) (v := ?_) rfl (by kernel_rfl) (by kernel_rfl) (by kernel_rfl) (fun _ _ _ h => h) (Or.inl ⟨by rfl, ?_⟩) (by assumption) ?_
  rotate_left
  · intro W hSw
    subst hSw
    go_simp
    try with_reducible rfl
  simp only [Act.put]
  refine wpAnyH_take (i := 3) (v := ?_) rfl (by kernel_rfl) (by kernel_rfl) (by kernel_rfl) (fun _ _ _ h => h) (Or.inl ⟨by rfl, ?_⟩) (by assumption) ?_
  rotate_left
  · intro W hSw
    subst hSw
    go_simp
    try with_reducible rfl
  simp only [Act.put]
  refine wpAnyH_take (i := 4) (v := ?_) rfl (by kernel_rfl) (by kernel_rfl) (by kernel_rfl) (fun _ _ _ h => h) (Or.inl ⟨by rfl, ?_⟩) (by assumption) ?_
  rotate_left
  · intro W hSw
    subst hSw
    go_simp
    try with_reducible rfl
  simp only [Act.put]
  refine wpAnyH_take (i := 5) (v := ?_) rfl (by kernel_rfl) (by kernel_rfl) (by kernel_rfl) (fun _ _ _ h => h) (Or.inl ⟨by rfl, ?_⟩) (by assumption) ?_
  rotate_left
  · intro W hSw
    subst hSw
    go_simp
    try with_reducible rfl
  simp only [Act.put]
  refine wpAnyH_take (i := 6) (v := ?_) rfl (by kernel_rfl) (by kernel_rfl) (by kernel_rfl) (fun _ _ _ h => h) (Or.inl ⟨by rfl, ?_⟩) (by assumption) ?_
  rotate_left
  · intro W hSw
    subst hSw
    go_simp
    try with_reducible rfl
  simp only [Act.put]
  refine wpAnyH_take (i := 7) (v := ?_) rfl (by kernel_rfl) (by kernel_rfl) (by kernel_rfl) (fun _ _ _ h => h) (Or.inl ⟨by rfl, ?_⟩) (by assumption) ?_
  rotate_left
  · intro W hSw
    subst hSw
    go_simp
    try with_reducible rfl
  simp only [Act.put]
  refine wpAnyH_take (i := 8) (v := ?_) rfl (by kernel_rfl) (by kernel_rfl) (by kernel_rfl) (fun _ _ _ h => h) (Or.inl ⟨by rfl, ?_⟩) (by assumption) ?_
  rotate_left
  · intro W hSw
    subst hSw
    go_simp
    try with_reducible rfl
  simp only [Act.put]
  refine wpAnyH_ready (rs := [9]) (by kernel_rfl) (by simp) ?_
  refine AllReadyH.cons rfl (fun K hK => ?_) AllReadyH.nil
  clear hK
  go_simp
  refine (loadCell_far _ _ _ hi).mono ?_
  rintro e w' ⟨rfl, rfl⟩
  exact ⟨rfl, rfl, (below1 _ _).drew⟩

set_option maxRecDepth 100000 in
set_option maxHeartbeats 2000000 in
theorem exec_loadU (i : Nat) (d s : Nat) (C : Option Addr) (cn cc : Nat) (at_ : Nat) (base nb g1 g2 g3 c1 c2 c3 : Nat) (m : Mch) (rd rs : Int) (w : World)
    (KB : Hid (Blk w nb 73 [.int .i64 at_, .slice (some ⟨g1, 0, none⟩) 6 c1, .slice (some ⟨g2, 0, none⟩) 16 c2, .slice (some ⟨g3, 0, none⟩) 16 c3])) (hne : nb ≠ g1 ∧ nb ≠ g2 ∧ nb ≠ g3) (_hat : at_ < 20) (_hma : Hid (m.a = at_)) (HO : Hid (OwnM w base g1 g2 g3 c1 c2 c3 m)) (hd : d < 6) (hs : s < 6) (_hrd : m.r.getD d 0 = rd) (_hrs : m.r.getD s 0 = rs) (hi : i < 16) (hu : m.s.getD i false = false) :
    Calls Tryd.prog 67 #[.agg #[.int .i64 6, .int .i64 0, .int .i64 d, .int .i64 s, .int .i64 i, .int .i64 0], .slice C cn cc, .pointer (some ⟨nb, 0, none⟩)] w (fun e w' => e = .panicked (faultC 3) ∧ Below w.heap.size w w') := by
  have k0 : w.cell? ⟨nb, 0, none⟩ = some (.int .i64 at_) := KB.out.there rfl
  have k1 : w.cell? ⟨nb, 1, none⟩ = some (.slice (some ⟨g1, 0, none⟩) 6 c1) := KB.out.there rfl
  have k2 : w.cell? ⟨nb, 2, none⟩ = some (.slice (some ⟨g2, 0, none⟩) 16 c2) := KB.out.there rfl
  have k3 : w.cell? ⟨nb, 3, none⟩ = some (.slice (some ⟨g3, 0, none⟩) 16 c3) := KB.out.there rfl
  have z0 := KB.out.frozen 0
  have lb := KB.out.lt
  have r1 := HO.out.reg hd
  have r2 := HO.out.reg hs
  rw [_hrd] at r1
  rw [_hrs] at r2
  have f1 := own_frozen HO.out.1 d
  obtain ⟨l1, l2, l3⟩ := HO.out.lt
  obtain ⟨n1, n2, n3⟩ := hne
  have hdI : (d : Int) < 6 := by omega
  have hsI : (s : Int) < 6 := by omega
  clear _hrd _hrs
  have t2 := HO.out.flag hi
  rw [hu] at t2
  have W3 : (World.drew (w.alloc (.cells #[.int .i64 6, .int .i64 0, .int .i64 d, .int .i64 s, .int .i64 i, .int .i64 0] 67))).cell? ⟨nb, 3, none⟩ = some (.slice (some ⟨g3, 0, none⟩) 16 c3) := ((bcell (below1 w (.cells #[.int .i64 6, .int .i64 0, .int .i64 d, .int .i64 s, .int .i64 i, .int .i64 0] 67)).drew).1 _ _ lb).trans k3
  have W5 : (World.drew (w.alloc (.cells #[.int .i64 6, .int .i64 0, .int .i64 d, .int .i64 s, .int .i64 i, .int .i64 0] 67))).cell? ⟨g3, i, none⟩ = some (.bool false) := ((bcell (below1 w (.cells #[.int .i64 6, .int .i64 0, .int .i64 d, .int .i64 s, .int .i64 i, .int .i64 0] 67)).drew).1 _ _ l3).trans t2
  go_enter Tryd.func67, Tryd.ntmps67
  go_wp2_with fail
  refine wp_region_held_drew (S := fun W => W = World.drew (w.alloc (.cells #[.int .i64 6, .int .i64 0, .int .i64 d, .int .i64 s, .int .i64 i, .int .i64 0] 67))) (by kernel_rfl) ?_ (fun hHeld => ?_)
  · rfl
  refine wpAnyH_take (i := 0) (v := ?_) rfl (by kernel_rfl) (by kernel_rfl) (by kernel_rfl) (fun _ _ _ h => h) (Or.inl ⟨by rfl, ?_⟩) (by assumption) ?_
  rotate_left
  · intro W hSw
    subst hSw
    go_simp
    try with_reducible rfl
  simp only [Act.put, List.setIfInBounds_toArray]
  refine wpAnyH_take (i := 1) (v := ?_) rfl (by kernel_rfl) (by kernel_rfl) (by kernel_rfl) (fun _ _ _ h => h) (Or.inl ⟨by rfl, ?_⟩) (by assumption) ?_
  rotate_left
  · intro W hSw
    subst hSw
    go_simp
    try with_reducible rfl
  simp only [Act.put]
  refine wpAnyH_take (i := 2) (v := ?_) rfl (by kernel_rfl) (by kernel_rfl) (by kernel_rfl) (fun _ _ _ h => h) (Or.inl ⟨by rfl, ?_⟩) (by assumption) ?_
  rotate_left
  · intro W hSw
    subst hSw
    go_simp
    try with_reducible rfl
  simp only [Act.put]
  refine wpAnyH_take (i := 3) (v := ?_) rfl (by kernel_rfl) (by kernel_rfl) (by kernel_rfl) (fun _ _ _ h => h) (Or.inl ⟨by rfl, ?_⟩) (by assumption) ?_
  rotate_left
  · intro W hSw
    subst hSw
    go_simp
    try with_reducible rfl
  simp only [Act.put]
  refine wpAnyH_take (i := 4) (v := ?_) rfl (by kernel_rfl) (by kernel_rfl) (by kernel_rfl) (fun _ _ _ h => h) (Or.inl ⟨by rfl, ?_⟩) (by assumption) ?_
  rotate_left
  · intro W hSw
    subst hSw
    go_simp
    try with_reducible rfl
  simp only [Act.put]
  refine wpAnyH_take (i := 5) (v := ?_) rfl (by kernel_rfl) (by kernel_rfl) (by kernel_rfl) (fun _ _ _ h => h) (Or.inl ⟨by rfl, ?_⟩) (by assumption) ?_
  rotate_left
  · intro W hSw
    subst hSw
    go_simp
    try with_reducible rfl
  simp only [Act.put]
  refine wpAnyH_take (i := 6) (v := ?_) rfl (by kernel_rfl) (by kernel_rfl) (by kernel_rfl) (fun _ _ _ h => h) (Or.inl ⟨by rfl, ?_⟩) (by assumption) ?_
  rotate_left
  · intro W hSw
    subst hSw
    go_simp
    try with_reducible rfl
  simp only [Act.put]
  refine wpAnyH_take (i := 7) (v := ?_) rfl (by kernel_rfl) (by kernel_rfl) (by kernel_rfl) (fun _ _ _ h => h) (Or.inl ⟨by rfl, ?_⟩) (by assumption) ?_
  rotate_left
  · intro W hSw
    subst hSw
    go_simp
    try with_reducible rfl
  simp only [Act.put]
  refine wpAnyH_take (i := 8) (v := ?_) rfl (by kernel_rfl) (by kernel_rfl) (by kernel_rfl) (fun _ _ _ h => h) (Or.inl ⟨by rfl, ?_⟩) (by assumption) ?_
  rotate_left
  · intro W hSw
    subst hSw
    go_simp
    try with_reducible rfl
  simp only [Act.put]
  refine wpAnyH_ready (rs := [9]) (by kernel_rfl) (by simp) ?_
  refine AllReadyH.cons rfl (fun K hK => ?_) AllReadyH.nil
  clear hK
  go_simp
  refine (loadCell_unset nb i g3 c3 _ hi W3 W5).mono ?_
  rintro e w' ⟨rfl, rfl⟩
  exact ⟨rfl, rfl, (below1 _ _).drew⟩

set_option maxRecDepth 100000 in
set_option maxHeartbeats 2000000 in
theorem exec_storeF (i : Int) (d s : Nat) (C : Option Addr) (cn cc : Nat) (at_ : Nat) (base nb g1 g2 g3 c1 c2 c3 : Nat) (m : Mch) (rd rs : Int) (w : World)
    (KB : Hid (Blk w nb 73 [.int .i64 at_, .slice (some ⟨g1, 0, none⟩) 6 c1, .slice (some ⟨g2, 0, none⟩) 16 c2, .slice (some ⟨g3, 0, none⟩) 16 c3])) (hne : nb ≠ g1 ∧ nb ≠ g2 ∧ nb ≠ g3) (_hat : at_ < 20) (_hma : Hid (m.a = at_)) (HO : Hid (OwnM w base g1 g2 g3 c1 c2 c3 m)) (hd : d < 6) (hs : s < 6) (hrd : m.r.getD d 0 = rd) (_hrs : m.r.getD s 0 = rs) (hi : 16 ≤ i) :
    Calls Tryd.prog 67 #[.agg #[.int .i64 7, .int .i64 0, .int .i64 d, .int .i64 s, .int .i64 i, .int .i64 0], .slice C cn cc, .pointer (some ⟨nb, 0, none⟩)] w (fun e w' => e = .panicked (faultC 2) ∧ Below w.heap.size w w') := by
  have k0 : w.cell? ⟨nb, 0, none⟩ = some (.int .i64 at_) := KB.out.there rfl
  have k1 : w.cell? ⟨nb, 1, none⟩ = some (.slice (some ⟨g1, 0, none⟩) 6 c1) := KB.out.there rfl
  have k2 : w.cell? ⟨nb, 2, none⟩ = some (.slice (some ⟨g2, 0, none⟩) 16 c2) := KB.out.there rfl
  have k3 : w.cell? ⟨nb, 3, none⟩ = some (.slice (some ⟨g3, 0, none⟩) 16 c3) := KB.out.there rfl
  have z0 := KB.out.frozen 0
  have lb := KB.out.lt
  have r1 := HO.out.reg hd
  have r2 := HO.out.reg hs
  rw [hrd] at r1
  rw [_hrs] at r2
  have f1 := own_frozen HO.out.1 d
  obtain ⟨l1, l2, l3⟩ := HO.out.lt
  obtain ⟨n1, n2, n3⟩ := hne
  have hdI : (d : Int) < 6 := by omega
  have hsI : (s : Int) < 6 := by omega
  clear hrd _hrs
  go_enter Tryd.func67, Tryd.ntmps67
  go_wp2_with fail
  refine wp_region_held_drew (S := fun W => W = World.drew (w.alloc (.cells #[.int .i64 7, .int .i64 0, .int .i64 d, .int .i64 s, .int .i64 i, .int .i64 0] 67))) (by kernel_rfl) ?_ (fun hHeld => ?_)
  · rfl
  refine wpAnyH_take (i := 0) (v := ?_) rfl (by kernel_rfl) (by kernel_rfl) (by kernel_rfl) (fun _ _ _ h => h) (Or.inl ⟨by rfl, ?_⟩) (by assumption) ?_
  rotate_left
  · intro W hSw
    subst hSw
    go_simp
    try with_reducible rfl
  simp only [Act.put, List.setIfInBounds_toArray]
  refine wpAnyH_take (i := 1) (v := ?_) rfl (by kernel_rfl) (by kernel_rfl) (by kernel_rfl) (fun _ _ _ h => h) (Or.inl ⟨by rfl, ?_⟩) (by assumption) ?_
  rotate_left
  · intro W hSw
    subst hSw
    go_simp
    try with_reducible rfl
  simp only [Act.put]
  refine wpAnyH_take (i := 2) (v := ?_) rfl (by kernel_rfl) (by kernel_rfl) (by kernel_rfl) (fun _ _ _ h => h) (Or.inl ⟨by rfl, ?_⟩) (by assumption) ?_
  rotate_left
  · intro W hSw
    subst hSw
    go_simp
    try with_reducible rfl
  simp only [Act.put]
  refine wpAnyH_take (i := 3) (v := ?_) rfl (by kernel_rfl) (by kernel_rfl) (by kernel_rfl) (fun _ _ _ h => h) (Or.inl ⟨by rfl, ?_⟩) (by assumption) ?_
  rotate_left
  · intro W hSw
    subst hSw
    go_simp
    try with_reducible rfl
  simp only [Act.put]
  refine wpAnyH_take (i := 4) (v := ?_) rfl (by kernel_rfl) (by kernel_rfl) (by kernel_rfl) (fun _ _ _ h => h) (Or.inl ⟨by rfl, ?_⟩) (by assumption) ?_
  rotate_left
  · intro W hSw
    subst hSw
    go_simp
    try with_reducible rfl
  simp only [Act.put]
  refine wpAnyH_take (i := 5) (v := ?_) rfl (by kernel_rfl) (by kernel_rfl) (by kernel_rfl) (fun _ _ _ h => h) (Or.inl ⟨by rfl, ?_⟩) (by assumption) ?_
  rotate_left
  · intro W hSw
    subst hSw
    go_simp
    try with_reducible rfl
  simp only [Act.put]
  refine wpAnyH_take (i := 6) (v := ?_) rfl (by kernel_rfl) (by kernel_rfl) (by kernel_rfl) (fun _ _ _ h => h) (Or.inl ⟨by rfl, ?_⟩) (by assumption) ?_
  rotate_left
  · intro W hSw
    subst hSw
    go_simp
    try with_reducible rfl
  simp only [Act.put]
  refine wpAnyH_take (i := 7) (v := ?_) rfl (by kernel_rfl) (by kernel_rfl) (by kernel_rfl) (fun _ _ _ h => h) (Or.inl ⟨by rfl, ?_⟩) (by assumption) ?_
  rotate_left
  · intro W hSw
    subst hSw
    go_simp
    try with_reducible rfl
  simp only [Act.put]
  refine wpAnyH_take (i := 8) (v := ?_) rfl (by kernel_rfl) (by kernel_rfl) (by kernel_rfl) (fun _ _ _ h => h) (Or.inl ⟨by rfl, ?_⟩) (by assumption) ?_
  rotate_left
  · intro W hSw
    subst hSw
    go_simp
    try with_reducible rfl
  simp only [Act.put]
  refine wpAnyH_take (i := 9) (v := ?_) rfl (by kernel_rfl) (by kernel_rfl) (by kernel_rfl) (fun _ _ _ h => h) (Or.inl ⟨by rfl, ?_⟩) (by assumption) ?_
  rotate_left
  · intro W hSw
    subst hSw
    go_simp
    try with_reducible rfl
  simp only [Act.put]
  refine wpAnyH_take (i := 10) (v := ?_) rfl (by kernel_rfl) (by kernel_rfl) (by kernel_rfl) (fun _ _ _ h => h) (Or.inl ⟨by rfl, ?_⟩) (by assumption) ?_
  rotate_left
  · intro W hSw
    subst hSw
    go_simp
    try with_reducible rfl
  simp only [Act.put]
  refine wpAnyH_ready (rs := [11]) (by kernel_rfl) (by simp) ?_
  refine AllReadyH.cons rfl (fun K hK => ?_) AllReadyH.nil
  clear hK
  go_simp
  refine (storeCell_far _ _ _ _ hi).mono ?_
  rintro e w' ⟨rfl, rfl⟩
  exact ⟨rfl, rfl, (below1 _ _).drew⟩
end Go.Proofs.YtilnegmjnbffhaaDoor
