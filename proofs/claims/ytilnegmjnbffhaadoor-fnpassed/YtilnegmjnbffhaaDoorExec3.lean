/-
  The program's step on a machine of its own: contracts by kind.
-/
import Derived.Test.YtilnegmjnbffhaaDoorExec2
import Derived.Deep.RegionHeld3
namespace Go.Proofs.YtilnegmjnbffhaaDoor
open Go.ChangeShapes Go.WideShapes Go.ChangeAt Go.RowKit


set_option maxRecDepth 100000 in
set_option maxHeartbeats 2000000 in
theorem exec_op (o : Int) (d s : Nat) (C : Option Addr) (cn cc : Nat) (at_ : Nat) (base nb g1 g2 g3 c1 c2 c3 : Nat) (m : Mch) (rd rs : Int) (w : World)
    (KB : Hid (Blk w nb 73 [.int .i64 at_, .slice (some ⟨g1, 0, none⟩) 6 c1, .slice (some ⟨g2, 0, none⟩) 16 c2, .slice (some ⟨g3, 0, none⟩) 16 c3])) (hne : nb ≠ g1 ∧ nb ≠ g2 ∧ nb ≠ g3) (hat : at_ < 20) (hma : Hid (m.a = at_)) (HO : Hid (OwnM w base g1 g2 g3 c1 c2 c3 m)) (hd : d < 6) (hs : s < 6) (hrd : m.r.getD d 0 = rd) (hrs : m.r.getD s 0 = rs) (HT : Hid (Op.PowTab w)) (ho : 1 ≤ o ∧ o ≤ 10) (hw1 : Hid (Op.isW rd = true)) (hw2 : Hid (Op.isW rs = true)) :
    Calls Tryd.prog 67 #[.agg #[.int .i64 1, .int .i64 o, .int .i64 d, .int .i64 s, .int .i64 0, .int .i64 0], .slice C cn cc, .pointer (some ⟨nb, 0, none⟩)] w (GaveEx w base nb g1 g2 g3 c1 c2 c3 (setR m d (Op.opv o rd rs), 0, false)) := by
  have k0 : w.cell? ⟨nb, 0, none⟩ = some (.int .i64 at_) := KB.out.there rfl
  have k1 : w.cell? ⟨nb, 1, none⟩ = some (.slice (some ⟨g1, 0, none⟩) 6 c1) := KB.out.there rfl
  have k2 : w.cell? ⟨nb, 2, none⟩ = some (.slice (some ⟨g2, 0, none⟩) 16 c2) := KB.out.there rfl
  have k3 : w.cell? ⟨nb, 3, none⟩ = some (.slice (some ⟨g3, 0, none⟩) 16 c3) := KB.out.there rfl
  have z0 := KB.out.frozen 0
  have lb := KB.out.lt
  have r1 := HO.out.reg hd
  have r2 := HO.out.reg hs
  rw [hrd] at r1
  rw [hrs] at r2
  have f1 := own_frozen HO.out.1 d
  obtain ⟨l1, l2, l3⟩ := HO.out.lt
  obtain ⟨n1, n2, n3⟩ := hne
  have hdI : (d : Int) < 6 := by omega
  have hsI : (s : Int) < 6 := by omega
  clear hrd hrs
  have HTW : Hid (Op.PowTab (World.drew (w.alloc (.cells #[.int .i64 1, .int .i64 o, .int .i64 d, .int .i64 s, .int .i64 0, .int .i64 0] 67)))) := Lib.hid (powTab_below HT.out (below1 _ _).drew)
  go_enter Tryd.func67, Tryd.ntmps67
  have ZS : (fun W : World => W.cell? ⟨nb, 1, none⟩ = some (.slice (some ⟨g1, 0, none⟩) 6 c1) ∧ W.cell? ⟨w.heap.size, 1, none⟩ = some (.int .i64 o) ∧ W.cell? ⟨w.heap.size, 2, none⟩ = some (.int .i64 d) ∧ W.cell? ⟨w.heap.size, 3, none⟩ = some (.int .i64 s)) (World.drew ((w.setCell ⟨g1, d, none⟩ (.int .i64 (Op.opv o rd rs))).alloc (.cells #[.int .i64 1, .int .i64 o, .int .i64 d, .int .i64 s, .int .i64 0, .int .i64 0] 67))) := ⟨(old_at w g1 d _ _ nb 1 n1 lb).trans k1, box_at w g1 d _ [.int .i64 1, .int .i64 o, .int .i64 d, .int .i64 s, .int .i64 0, .int .i64 0] _ 1, box_at w g1 d _ [.int .i64 1, .int .i64 o, .int .i64 d, .int .i64 s, .int .i64 0, .int .i64 0] _ 2, box_at w g1 d _ [.int .i64 1, .int .i64 o, .int .i64 d, .int .i64 s, .int .i64 0, .int .i64 0] _ 3⟩
  go_wp2_with fail
  refine wp_region_held_drew (S := fun W => W.cell? ⟨nb, 1, none⟩ = some (.slice (some ⟨g1, 0, none⟩) 6 c1) ∧ W.cell? ⟨w.heap.size, 1, none⟩ = some (.int .i64 o) ∧ W.cell? ⟨w.heap.size, 2, none⟩ = some (.int .i64 d) ∧ W.cell? ⟨w.heap.size, 3, none⟩ = some (.int .i64 s)) (by kernel_rfl) ?_ (fun hHeld => ?_)
  · exact ⟨((bcell (below1 w (.cells #[.int .i64 1, .int .i64 o, .int .i64 d, .int .i64 s, .int .i64 0, .int .i64 0] 67)).drew).1 _ _ lb).trans k1, by have h := box_at0 w [.int .i64 1, .int .i64 o, .int .i64 d, .int .i64 s, .int .i64 0, .int .i64 0] 67 1; exact h, by have h := box_at0 w [.int .i64 1, .int .i64 o, .int .i64 d, .int .i64 s, .int .i64 0, .int .i64 0] 67 2; exact h, by have h := box_at0 w [.int .i64 1, .int .i64 o, .int .i64 d, .int .i64 s, .int .i64 0, .int .i64 0] 67 3; exact h⟩
  refine wpAnyH_take (i := 0) (v := ?_) rfl (by kernel_rfl) (by kernel_rfl) (by kernel_rfl) (fun _ _ _ h => h) (Or.inl ⟨by rfl, ?_⟩) (by assumption) ?_
  rotate_left
  · intro W hSw
    try dsimp only at hSw
    go_simp
    try with_reducible rfl
  simp only [Act.put, List.setIfInBounds_toArray]
  refine wpAnyH_take (i := 1) (v := ?_) rfl (by kernel_rfl) (by kernel_rfl) (by kernel_rfl) (fun _ _ _ h => h) (Or.inl ⟨by rfl, ?_⟩) (by assumption) ?_
  rotate_left
  · intro W hSw
    try dsimp only at hSw
    go_simp
    try with_reducible rfl
  simp only [Act.put]
  refine wpAnyH_take (i := 2) (v := ?_) rfl (by kernel_rfl) (by kernel_rfl) (by kernel_rfl) (fun _ _ _ h => h) (Or.inl ⟨by rfl, ?_⟩) (by assumption) ?_
  rotate_left
  · intro W hSw
    try dsimp only at hSw
    go_simp
    try with_reducible rfl
  simp only [Act.put]
  refine wpAnyH_take (i := 3) (v := ?_) rfl (by kernel_rfl) (by kernel_rfl) (by kernel_rfl) (fun _ _ _ h => h) (Or.inl ⟨by rfl, ?_⟩) (by assumption) ?_
  rotate_left
  · intro W hSw
    try dsimp only at hSw
    go_simp
    try with_reducible rfl
  simp only [Act.put]
  refine wpAnyH_take (i := 4) (v := ?_) rfl (by kernel_rfl) (by kernel_rfl) (by kernel_rfl) (fun _ _ _ h => h) (Or.inl ⟨by rfl, ?_⟩) (by assumption) ?_
  rotate_left
  · intro W hSw
    try dsimp only at hSw
    go_simp
    try with_reducible rfl
  simp only [Act.put]
  refine wpAnyH_take (i := 5) (v := ?_) rfl (by kernel_rfl) (by kernel_rfl) (by kernel_rfl) (fun _ _ _ h => h) (Or.inl ⟨by rfl, ?_⟩) (by assumption) ?_
  rotate_left
  · intro W hSw
    try dsimp only at hSw
    go_simp
    try with_reducible rfl
  simp only [Act.put]
  refine wpAnyH_take (i := 6) (v := ?_) rfl (by kernel_rfl) (by kernel_rfl) (by kernel_rfl) (fun _ _ _ h => h) (Or.inl ⟨by rfl, ?_⟩) (by assumption) ?_
  rotate_left
  · intro W hSw
    try dsimp only at hSw
    go_simp
    try with_reducible rfl
  simp only [Act.put]
  refine wpAnyH_take (i := 7) (v := ?_) rfl (by kernel_rfl) (by kernel_rfl) (by kernel_rfl) (fun _ _ _ h => h) (Or.inl ⟨by rfl, ?_⟩) (by assumption) ?_
  rotate_left
  · intro W hSw
    try dsimp only at hSw
    go_simp
    try with_reducible rfl
  simp only [Act.put]
  refine wpAnyH_take (i := 8) (v := ?_) rfl (by kernel_rfl) (by kernel_rfl) (by kernel_rfl) (fun _ _ _ h => h) (Or.inl ⟨by rfl, ?_⟩) (by assumption) ?_
  rotate_left
  · intro W hSw
    try dsimp only at hSw
    go_simp
    try with_reducible rfl
  simp only [Act.put]
  refine wpAnyH_take (i := 9) (v := ?_) rfl (by kernel_rfl) (by kernel_rfl) (by kernel_rfl) (fun _ _ _ h => h) (Or.inl ⟨by rfl, ?_⟩) (by assumption) ?_
  rotate_left
  · intro W hSw
    try dsimp only at hSw
    go_simp
    try with_reducible rfl
  simp only [Act.put]
  refine wpAnyH_take (i := 10) (v := ?_) rfl (by kernel_rfl) (by kernel_rfl) (by kernel_rfl) (fun _ _ _ h => h) (Or.inl ⟨by rfl, ?_⟩) (by assumption) ?_
  rotate_left
  · intro W hSw
    try dsimp only at hSw
    go_simp
    try with_reducible rfl
  simp only [Act.put]
  refine wpAnyH_take (i := 11) (v := ?_) rfl (by kernel_rfl) (by kernel_rfl) (by kernel_rfl) (fun _ _ _ h => h) (Or.inl ⟨by rfl, ?_⟩) (by assumption) ?_
  rotate_left
  · intro W hSw
    try dsimp only at hSw
    go_simp
    try with_reducible rfl
  simp only [Act.put]
  refine wpAnyH_take (i := 12) (v := ?_) rfl (by kernel_rfl) (by kernel_rfl) (by kernel_rfl) (fun _ _ _ h => h) (Or.inl ⟨by rfl, ?_⟩) (by assumption) ?_
  rotate_left
  · intro W hSw
    try dsimp only at hSw
    go_simp
    try with_reducible rfl
  simp only [Act.put]
  refine wpAnyH_take (i := 13) (v := ?_) rfl (by kernel_rfl) (by kernel_rfl) (by kernel_rfl) (fun _ _ _ h => h) (Or.inl ⟨by rfl, ?_⟩) (by assumption) ?_
  rotate_left
  · intro W hSw
    try dsimp only at hSw
    go_simp
    try with_reducible rfl
  simp only [Act.put]
  refine wpAnyH_take (i := 14) (v := ?_) rfl (by kernel_rfl) (by kernel_rfl) (by kernel_rfl) (fun _ _ _ h => h) (Or.inl ⟨by rfl, ?_⟩) (by assumption) ?_
  rotate_left
  · intro W hSw
    try dsimp only at hSw
    go_simp
    try with_reducible rfl
  simp only [Act.put]
  refine wpAnyH_take (i := 16) (v := ?_) rfl (by kernel_rfl) (by kernel_rfl) (by kernel_rfl) (fun _ _ _ h => h) (Or.inl ⟨by rfl, ?_⟩) (by assumption) ?_
  rotate_left
  · intro W hSw
    try dsimp only at hSw
    go_simp
    try with_reducible rfl
  simp only [Act.put]
  refine wpAnyH_take (i := 17) (v := ?_) rfl (by kernel_rfl) (by kernel_rfl) (by kernel_rfl) (fun _ _ _ h => h) (Or.inl ⟨by rfl, ?_⟩) (by assumption) ?_
  rotate_left
  · intro W hSw
    try dsimp only at hSw
    go_simp
    try with_reducible rfl
  simp only [Act.put]
  refine wpAnyH_take (i := 18) (v := ?_) rfl (by kernel_rfl) (by kernel_rfl) (by kernel_rfl) (fun _ _ _ h => h) (Or.inl ⟨by rfl, ?_⟩) (by assumption) ?_
  rotate_left
  · intro W hSw
    try dsimp only at hSw
    go_simp
    try with_reducible rfl
  simp only [Act.put]
  refine wpAnyH_take (i := 19) (v := ?_) rfl (by kernel_rfl) (by kernel_rfl) (by kernel_rfl) (fun _ _ _ h => h) (Or.inl ⟨by rfl, ?_⟩) (by assumption) ?_
  rotate_left
  · intro W hSw
    try dsimp only at hSw
    go_simp
    try with_reducible rfl
  simp only [Act.put]
  refine wpAnyH_take (i := 20) (v := ?_) rfl (by kernel_rfl) (by kernel_rfl) (by kernel_rfl) (fun _ _ _ h => h) (Or.inl ⟨by rfl, ?_⟩) (by assumption) ?_
  rotate_left
  · intro W hSw
    try dsimp only at hSw
    go_simp
    try with_reducible rfl
  simp only [Act.put]
  refine wpAnyH_take (i := 21) (v := ?_) rfl (by kernel_rfl) (by kernel_rfl) (by kernel_rfl) (fun _ _ _ h => h) (Or.inl ⟨by rfl, ?_⟩) (by assumption) ?_
  rotate_left
  · intro W hSw
    try dsimp only at hSw
    go_simp
    try with_reducible rfl
  simp only [Act.put]
  refine wpAnyH_take (i := 22) (v := ?_) rfl (by kernel_rfl) (by kernel_rfl) (by kernel_rfl) (fun _ _ _ h => h) (Or.inl ⟨by rfl, ?_⟩) (by assumption) ?_
  rotate_left
  · intro W hSw
    try dsimp only at hSw
    go_simp
    try with_reducible rfl
  simp only [Act.put]
  refine wpAnyH_ready (rs := [15, 23]) (by kernel_rfl) (by simp) ?_
  refine AllReadyH.cons rfl (fun K hK => ?_) (AllReadyH.cons rfl (fun K hK => ?_) AllReadyH.nil)
  rotate_left
  go_simp
  refine hK.out _ _ (by assumption) (fun hHeld2 => ?_)
  clear hK K
  try simp only [Act.put, List.setIfInBounds_toArray, List.set_cons_zero, List.set_cons_succ]
  refine wpAnyH_ready (rs := [15]) (by kernel_rfl) (by simp) ?_
  refine AllReadyH.cons rfl (fun K hK => ?_) AllReadyH.nil
  go_simp
  refine hK.out _ _ (by assumption) (fun hHeld2 => ?_)
  clear hK K
  try simp only [Act.put, List.setIfInBounds_toArray, List.set_cons_zero, List.set_cons_succ]
  refine wpAnyH_ready (rs := [24]) (by kernel_rfl) (by simp) ?_
  refine AllReadyH.cons rfl (fun K hK => ?_) AllReadyH.nil
  go_simp
  refine (Op.doOp_yes o rd rs _ HTW ho.1 ho.2 hw1 hw2).mono ?_
  rintro e w' ⟨rfl, rfl⟩
  refine hK.out _ _ (by assumption) (fun hHeld2 => ?_)
  clear hK K
  try simp only [Act.put, List.setIfInBounds_toArray, List.set_cons_zero, List.set_cons_succ]
  refine wpAnyH_take (i := 25) (v := ?_) rfl (by kernel_rfl) (by kernel_rfl) (by kernel_rfl) (fun _ _ _ h => h) (Or.inl ⟨by rfl, ?_⟩) (by assumption) ?_
  rotate_left
  · intro W hSw
    try dsimp only at hSw
    go_simp
    try with_reducible rfl
  simp only [Act.put, List.setIfInBounds_toArray]
  refine wpAnyH_take (i := 26) (v := ?_) rfl (by kernel_rfl) (by kernel_rfl) (by kernel_rfl) (fun _ _ _ h => h) (Or.inl ⟨by rfl, ?_⟩) (by assumption) ?_
  rotate_left
  · intro W hSw
    try dsimp only at hSw
    go_simp
    try with_reducible rfl
  simp only [Act.put]
  refine wpAnyH_take (i := 27) (v := ?_) rfl (by kernel_rfl) (by kernel_rfl) (by kernel_rfl) (fun _ _ _ h => h) (Or.inl ⟨by rfl, ?_⟩) (by assumption) ?_
  rotate_left
  · intro W hSw
    try dsimp only at hSw
    go_simp
    try with_reducible rfl
  simp only [Act.put]
  refine wpAnyH_take (i := 28) (v := ?_) rfl (by kernel_rfl) (by kernel_rfl) (by kernel_rfl) (fun _ _ _ h => h) (Or.inl ⟨by rfl, ?_⟩) (by assumption) ?_
  rotate_left
  · intro W hSw
    try dsimp only at hSw
    go_simp
    try with_reducible rfl
  simp only [Act.put]
  refine wpAnyH_ready (rs := [29]) (by kernel_rfl) (by simp) ?_
  refine AllReadyH.cons rfl (fun K hK => ?_) AllReadyH.nil
  go_simp
  refine hK.out _ _ (ZS) (fun hHeld2 => ?_)
  clear hK K
  try simp only [Act.put, List.setIfInBounds_toArray, List.set_cons_zero, List.set_cons_succ]
  refine wpAnyH_done (by kernel_rfl) ?_ _
  rotate_left
  go_simp
  refine hK.out _ _ (by assumption) (fun hHeld2 => ?_)
  clear hK K
  try simp only [Act.put, List.setIfInBounds_toArray, List.set_cons_zero, List.set_cons_succ]
  refine wpAnyH_ready (rs := [23]) (by kernel_rfl) (by simp) ?_
  refine AllReadyH.cons rfl (fun K hK => ?_) AllReadyH.nil
  go_simp
  refine hK.out _ _ (by assumption) (fun hHeld2 => ?_)
  clear hK K
  try simp only [Act.put, List.setIfInBounds_toArray, List.set_cons_zero, List.set_cons_succ]
  refine wpAnyH_ready (rs := [24]) (by kernel_rfl) (by simp) ?_
  refine AllReadyH.cons rfl (fun K hK => ?_) AllReadyH.nil
  go_simp
  refine (Op.doOp_yes o rd rs _ HTW ho.1 ho.2 hw1 hw2).mono ?_
  rintro e w' ⟨rfl, rfl⟩
  refine hK.out _ _ (by assumption) (fun hHeld2 => ?_)
  clear hK K
  try simp only [Act.put, List.setIfInBounds_toArray, List.set_cons_zero, List.set_cons_succ]
  refine wpAnyH_take (i := 25) (v := ?_) rfl (by kernel_rfl) (by kernel_rfl) (by kernel_rfl) (fun _ _ _ h => h) (Or.inl ⟨by rfl, ?_⟩) (by assumption) ?_
  rotate_left
  · intro W hSw
    try dsimp only at hSw
    go_simp
    try with_reducible rfl
  simp only [Act.put, List.setIfInBounds_toArray]
  refine wpAnyH_take (i := 26) (v := ?_) rfl (by kernel_rfl) (by kernel_rfl) (by kernel_rfl) (fun _ _ _ h => h) (Or.inl ⟨by rfl, ?_⟩) (by assumption) ?_
  rotate_left
  · intro W hSw
    try dsimp only at hSw
    go_simp
    try with_reducible rfl
  simp only [Act.put]
  refine wpAnyH_take (i := 27) (v := ?_) rfl (by kernel_rfl) (by kernel_rfl) (by kernel_rfl) (fun _ _ _ h => h) (Or.inl ⟨by rfl, ?_⟩) (by assumption) ?_
  rotate_left
  · intro W hSw
    try dsimp only at hSw
    go_simp
    try with_reducible rfl
  simp only [Act.put]
  refine wpAnyH_take (i := 28) (v := ?_) rfl (by kernel_rfl) (by kernel_rfl) (by kernel_rfl) (fun _ _ _ h => h) (Or.inl ⟨by rfl, ?_⟩) (by assumption) ?_
  rotate_left
  · intro W hSw
    try dsimp only at hSw
    go_simp
    try with_reducible rfl
  simp only [Act.put]
  refine wpAnyH_ready (rs := [29]) (by kernel_rfl) (by simp) ?_
  refine AllReadyH.cons rfl (fun K hK => ?_) AllReadyH.nil
  go_simp
  refine hK.out _ _ (ZS) (fun hHeld2 => ?_)
  clear hK K
  try simp only [Act.put, List.setIfInBounds_toArray, List.set_cons_zero, List.set_cons_succ]
  refine wpAnyH_done (by kernel_rfl) ?_ _
  all_goals
    go_wp2_with fail
    have hbW : Below (w.setCell ⟨g1, d, none⟩ (.int .i64 (Op.opv o rd rs))).heap.size (w.setCell ⟨g1, d, none⟩ (.int .i64 (Op.opv o rd rs))) (World.drew ((w.setCell ⟨g1, d, none⟩ (.int .i64 (Op.opv o rd rs))).alloc (.cells #[.int .i64 1, .int .i64 o, .int .i64 d, .int .i64 s, .int .i64 0, .int .i64 0] 67))) := (below1 _ _).drew
    have O1 := Lib.hid ((HO.out.setReg d (Op.opv o rd rs)).below hbW)
    have KB1 := Lib.hid ((KB.out.far (g' := g1) (j := d) n1 _).below hbW)
    have P1 : Hid (Kept w (World.drew ((w.setCell ⟨g1, d, none⟩ (.int .i64 (Op.opv o rd rs))).alloc (.cells #[.int .i64 1, .int .i64 o, .int .i64 d, .int .i64 s, .int .i64 0, .int .i64 0] 67))) (four nb g1 g2 g3)) := Lib.hid ((kept_setCell w g1 d _ (.inr (.inl rfl))).trans (.of_below hbW))
    clear hbW
    generalize World.drew ((w.setCell ⟨g1, d, none⟩ (.int .i64 (Op.opv o rd rs))).alloc (.cells #[.int .i64 1, .int .i64 o, .int .i64 d, .int .i64 s, .int .i64 0, .int .i64 0] 67)) = W at O1 KB1 P1 ⊢
    have y0 : W.cell? ⟨nb, 0, none⟩ = some (.int .i64 at_) := KB1.out.there rfl
    have y1 : W.cell? ⟨nb, 1, none⟩ = some (.slice (some ⟨g1, 0, none⟩) 6 c1) := KB1.out.there rfl
    have yl : nb < W.heap.size := KB1.out.lt
    refine (nextAt_of _ _ _ _ _ _ nb g1 c1 at_ false W yl hat (by omega) y0 y1 (fun V _ => isTaken_no _ _ _ _ _ _ _ _ _ V rfl rfl rfl)).mono ?_
    simp only [Bool.false_eq_true, if_false]
    rintro e w2 ⟨rfl, hb2⟩
    have O2 := Lib.hid (O1.out.below hb2)
    have KB2 := Lib.hid (KB1.out.below hb2)
    have P2 := Lib.hid (P1.out.trans (.of_below hb2))
    clear hb2 y0 y1 yl O1 KB1 P1 k0 k1 k2 k3 z0 r1 r2 f1
    have y0 : w2.cell? ⟨nb, 0, none⟩ = some (.int .i64 at_) := KB2.out.there rfl
    have z0 := KB2.out.frozen 0
    go_wp2
    go_ret
    exact ex_shut (m1 := ⟨m.a, m.r.set d (Op.opv o rd rs), m.c, m.s⟩) (setR m d (Op.opv o rd rs), 0, false) rfl rfl rfl KB2.out O2.out P2.out ⟨n1, n2, n3⟩ (by simp [setR, hma.out]) rfl

set_option maxRecDepth 100000 in
set_option maxHeartbeats 2000000 in
theorem exec_opi (o i : Int) (d s : Nat) (C : Option Addr) (cn cc : Nat) (at_ : Nat) (base nb g1 g2 g3 c1 c2 c3 : Nat) (m : Mch) (rd rs : Int) (w : World)
    (KB : Hid (Blk w nb 73 [.int .i64 at_, .slice (some ⟨g1, 0, none⟩) 6 c1, .slice (some ⟨g2, 0, none⟩) 16 c2, .slice (some ⟨g3, 0, none⟩) 16 c3])) (hne : nb ≠ g1 ∧ nb ≠ g2 ∧ nb ≠ g3) (hat : at_ < 20) (hma : Hid (m.a = at_)) (HO : Hid (OwnM w base g1 g2 g3 c1 c2 c3 m)) (hd : d < 6) (hs : s < 6) (hrd : m.r.getD d 0 = rd) (_hrs : m.r.getD s 0 = rs) (HT : Hid (Op.PowTab w)) (ho : 1 ≤ o ∧ o ≤ 10) (hw1 : Hid (Op.isW rd = true)) (hw2 : Hid (Op.isW i = true)) :
    Calls Tryd.prog 67 #[.agg #[.int .i64 2, .int .i64 o, .int .i64 d, .int .i64 s, .int .i64 i, .int .i64 0], .slice C cn cc, .pointer (some ⟨nb, 0, none⟩)] w (GaveEx w base nb g1 g2 g3 c1 c2 c3 (setR m d (Op.opv o rd i), 0, false)) := by
  have k0 : w.cell? ⟨nb, 0, none⟩ = some (.int .i64 at_) := KB.out.there rfl
  have k1 : w.cell? ⟨nb, 1, none⟩ = some (.slice (some ⟨g1, 0, none⟩) 6 c1) := KB.out.there rfl
  have k2 : w.cell? ⟨nb, 2, none⟩ = some (.slice (some ⟨g2, 0, none⟩) 16 c2) := KB.out.there rfl
  have k3 : w.cell? ⟨nb, 3, none⟩ = some (.slice (some ⟨g3, 0, none⟩) 16 c3) := KB.out.there rfl
  have z0 := KB.out.frozen 0
  have lb := KB.out.lt
  have r1 := HO.out.reg hd
  have r2 := HO.out.reg hs
  rw [hrd] at r1
  rw [_hrs] at r2
  have f1 := own_frozen HO.out.1 d
  obtain ⟨l1, l2, l3⟩ := HO.out.lt
  obtain ⟨n1, n2, n3⟩ := hne
  have hdI : (d : Int) < 6 := by omega
  have hsI : (s : Int) < 6 := by omega
  clear hrd _hrs
  have HTW : Hid (Op.PowTab (World.drew (w.alloc (.cells #[.int .i64 2, .int .i64 o, .int .i64 d, .int .i64 s, .int .i64 i, .int .i64 0] 67)))) := Lib.hid (powTab_below HT.out (below1 _ _).drew)
  go_enter Tryd.func67, Tryd.ntmps67
  have ZS : (fun W : World => W.cell? ⟨nb, 1, none⟩ = some (.slice (some ⟨g1, 0, none⟩) 6 c1) ∧ W.cell? ⟨w.heap.size, 1, none⟩ = some (.int .i64 o) ∧ W.cell? ⟨w.heap.size, 2, none⟩ = some (.int .i64 d) ∧ W.cell? ⟨w.heap.size, 4, none⟩ = some (.int .i64 i)) (World.drew ((w.setCell ⟨g1, d, none⟩ (.int .i64 (Op.opv o rd i))).alloc (.cells #[.int .i64 2, .int .i64 o, .int .i64 d, .int .i64 s, .int .i64 i, .int .i64 0] 67))) := ⟨(old_at w g1 d _ _ nb 1 n1 lb).trans k1, box_at w g1 d _ [.int .i64 2, .int .i64 o, .int .i64 d, .int .i64 s, .int .i64 i, .int .i64 0] _ 1, box_at w g1 d _ [.int .i64 2, .int .i64 o, .int .i64 d, .int .i64 s, .int .i64 i, .int .i64 0] _ 2, box_at w g1 d _ [.int .i64 2, .int .i64 o, .int .i64 d, .int .i64 s, .int .i64 i, .int .i64 0] _ 4⟩
  go_wp2_with fail
  refine wp_region_held_drew (S := fun W => W.cell? ⟨nb, 1, none⟩ = some (.slice (some ⟨g1, 0, none⟩) 6 c1) ∧ W.cell? ⟨w.heap.size, 1, none⟩ = some (.int .i64 o) ∧ W.cell? ⟨w.heap.size, 2, none⟩ = some (.int .i64 d) ∧ W.cell? ⟨w.heap.size, 4, none⟩ = some (.int .i64 i)) (by kernel_rfl) ?_ (fun hHeld => ?_)
  · exact ⟨((bcell (below1 w (.cells #[.int .i64 2, .int .i64 o, .int .i64 d, .int .i64 s, .int .i64 i, .int .i64 0] 67)).drew).1 _ _ lb).trans k1, by have h := box_at0 w [.int .i64 2, .int .i64 o, .int .i64 d, .int .i64 s, .int .i64 i, .int .i64 0] 67 1; exact h, by have h := box_at0 w [.int .i64 2, .int .i64 o, .int .i64 d, .int .i64 s, .int .i64 i, .int .i64 0] 67 2; exact h, by have h := box_at0 w [.int .i64 2, .int .i64 o, .int .i64 d, .int .i64 s, .int .i64 i, .int .i64 0] 67 4; exact h⟩
  refine wpAnyH_take (i := 0) (v := ?_) rfl (by kernel_rfl) (by kernel_rfl) (by kernel_rfl) (fun _ _ _ h => h) (Or.inl ⟨by rfl, ?_⟩) (by assumption) ?_
  rotate_left
  · intro W hSw
    try dsimp only at hSw
    go_simp
    try with_reducible rfl
  simp only [Act.put, List.setIfInBounds_toArray]
  refine wpAnyH_take (i := 1) (v := ?_) rfl (by kernel_rfl) (by kernel_rfl) (by kernel_rfl) (fun _ _ _ h => h) (Or.inl ⟨by rfl, ?_⟩) (by assumption) ?_
  rotate_left
  · intro W hSw
    try dsimp only at hSw
    go_simp
    try with_reducible rfl
  simp only [Act.put]
  refine wpAnyH_take (i := 2) (v := ?_) rfl (by kernel_rfl) (by kernel_rfl) (by kernel_rfl) (fun _ _ _ h => h) (Or.inl ⟨by rfl, ?_⟩) (by assumption) ?_
  rotate_left
  · intro W hSw
    try dsimp only at hSw
    go_simp
    try with_reducible rfl
  simp only [Act.put]
  refine wpAnyH_take (i := 3) (v := ?_) rfl (by kernel_rfl) (by kernel_rfl) (by kernel_rfl) (fun _ _ _ h => h) (Or.inl ⟨by rfl, ?_⟩) (by assumption) ?_
  rotate_left
  · intro W hSw
    try dsimp only at hSw
    go_simp
    try with_reducible rfl
  simp only [Act.put]
  refine wpAnyH_take (i := 4) (v := ?_) rfl (by kernel_rfl) (by kernel_rfl) (by kernel_rfl) (fun _ _ _ h => h) (Or.inl ⟨by rfl, ?_⟩) (by assumption) ?_
  rotate_left
  · intro W hSw
    try dsimp only at hSw
    go_simp
    try with_reducible rfl
  simp only [Act.put]
  refine wpAnyH_take (i := 5) (v := ?_) rfl (by kernel_rfl) (by kernel_rfl) (by kernel_rfl) (fun _ _ _ h => h) (Or.inl ⟨by rfl, ?_⟩) (by assumption) ?_
  rotate_left
  · intro W hSw
    try dsimp only at hSw
    go_simp
    try with_reducible rfl
  simp only [Act.put]
  refine wpAnyH_take (i := 6) (v := ?_) rfl (by kernel_rfl) (by kernel_rfl) (by kernel_rfl) (fun _ _ _ h => h) (Or.inl ⟨by rfl, ?_⟩) (by assumption) ?_
  rotate_left
  · intro W hSw
    try dsimp only at hSw
    go_simp
    try with_reducible rfl
  simp only [Act.put]
  refine wpAnyH_take (i := 7) (v := ?_) rfl (by kernel_rfl) (by kernel_rfl) (by kernel_rfl) (fun _ _ _ h => h) (Or.inl ⟨by rfl, ?_⟩) (by assumption) ?_
  rotate_left
  · intro W hSw
    try dsimp only at hSw
    go_simp
    try with_reducible rfl
  simp only [Act.put]
  refine wpAnyH_take (i := 8) (v := ?_) rfl (by kernel_rfl) (by kernel_rfl) (by kernel_rfl) (fun _ _ _ h => h) (Or.inl ⟨by rfl, ?_⟩) (by assumption) ?_
  rotate_left
  · intro W hSw
    try dsimp only at hSw
    go_simp
    try with_reducible rfl
  simp only [Act.put]
  refine wpAnyH_take (i := 9) (v := ?_) rfl (by kernel_rfl) (by kernel_rfl) (by kernel_rfl) (fun _ _ _ h => h) (Or.inl ⟨by rfl, ?_⟩) (by assumption) ?_
  rotate_left
  · intro W hSw
    try dsimp only at hSw
    go_simp
    try with_reducible rfl
  simp only [Act.put]
  refine wpAnyH_take (i := 10) (v := ?_) rfl (by kernel_rfl) (by kernel_rfl) (by kernel_rfl) (fun _ _ _ h => h) (Or.inl ⟨by rfl, ?_⟩) (by assumption) ?_
  rotate_left
  · intro W hSw
    try dsimp only at hSw
    go_simp
    try with_reducible rfl
  simp only [Act.put]
  refine wpAnyH_take (i := 11) (v := ?_) rfl (by kernel_rfl) (by kernel_rfl) (by kernel_rfl) (fun _ _ _ h => h) (Or.inl ⟨by rfl, ?_⟩) (by assumption) ?_
  rotate_left
  · intro W hSw
    try dsimp only at hSw
    go_simp
    try with_reducible rfl
  simp only [Act.put]
  refine wpAnyH_take (i := 12) (v := ?_) rfl (by kernel_rfl) (by kernel_rfl) (by kernel_rfl) (fun _ _ _ h => h) (Or.inl ⟨by rfl, ?_⟩) (by assumption) ?_
  rotate_left
  · intro W hSw
    try dsimp only at hSw
    go_simp
    try with_reducible rfl
  simp only [Act.put]
  refine wpAnyH_take (i := 13) (v := ?_) rfl (by kernel_rfl) (by kernel_rfl) (by kernel_rfl) (fun _ _ _ h => h) (Or.inl ⟨by rfl, ?_⟩) (by assumption) ?_
  rotate_left
  · intro W hSw
    try dsimp only at hSw
    go_simp
    try with_reducible rfl
  simp only [Act.put]
  refine wpAnyH_take (i := 14) (v := ?_) rfl (by kernel_rfl) (by kernel_rfl) (by kernel_rfl) (fun _ _ _ h => h) (Or.inl ⟨by rfl, ?_⟩) (by assumption) ?_
  rotate_left
  · intro W hSw
    try dsimp only at hSw
    go_simp
    try with_reducible rfl
  simp only [Act.put]
  refine wpAnyH_take (i := 16) (v := ?_) rfl (by kernel_rfl) (by kernel_rfl) (by kernel_rfl) (fun _ _ _ h => h) (Or.inl ⟨by rfl, ?_⟩) (by assumption) ?_
  rotate_left
  · intro W hSw
    try dsimp only at hSw
    go_simp
    try with_reducible rfl
  simp only [Act.put]
  refine wpAnyH_take (i := 17) (v := ?_) rfl (by kernel_rfl) (by kernel_rfl) (by kernel_rfl) (fun _ _ _ h => h) (Or.inl ⟨by rfl, ?_⟩) (by assumption) ?_
  rotate_left
  · intro W hSw
    try dsimp only at hSw
    go_simp
    try with_reducible rfl
  simp only [Act.put]
  refine wpAnyH_ready (rs := [15]) (by kernel_rfl) (by simp) ?_
  refine AllReadyH.cons rfl (fun K hK => ?_) AllReadyH.nil
  go_simp
  refine hK.out _ _ (by assumption) (fun hHeld2 => ?_)
  clear hK K
  try simp only [Act.put, List.setIfInBounds_toArray, List.set_cons_zero, List.set_cons_succ]
  refine wpAnyH_ready (rs := [18]) (by kernel_rfl) (by simp) ?_
  refine AllReadyH.cons rfl (fun K hK => ?_) AllReadyH.nil
  go_simp
  refine (Op.doOp_yes o rd i _ HTW ho.1 ho.2 hw1 hw2).mono ?_
  rintro e w' ⟨rfl, rfl⟩
  refine hK.out _ _ (by assumption) (fun hHeld2 => ?_)
  clear hK K
  try simp only [Act.put, List.setIfInBounds_toArray, List.set_cons_zero, List.set_cons_succ]
  refine wpAnyH_take (i := 19) (v := ?_) rfl (by kernel_rfl) (by kernel_rfl) (by kernel_rfl) (fun _ _ _ h => h) (Or.inl ⟨by rfl, ?_⟩) (by assumption) ?_
  rotate_left
  · intro W hSw
    try dsimp only at hSw
    go_simp
    try with_reducible rfl
  simp only [Act.put, List.setIfInBounds_toArray]
  refine wpAnyH_take (i := 20) (v := ?_) rfl (by kernel_rfl) (by kernel_rfl) (by kernel_rfl) (fun _ _ _ h => h) (Or.inl ⟨by rfl, ?_⟩) (by assumption) ?_
  rotate_left
  · intro W hSw
    try dsimp only at hSw
    go_simp
    try with_reducible rfl
  simp only [Act.put]
  refine wpAnyH_take (i := 21) (v := ?_) rfl (by kernel_rfl) (by kernel_rfl) (by kernel_rfl) (fun _ _ _ h => h) (Or.inl ⟨by rfl, ?_⟩) (by assumption) ?_
  rotate_left
  · intro W hSw
    try dsimp only at hSw
    go_simp
    try with_reducible rfl
  simp only [Act.put]
  refine wpAnyH_take (i := 22) (v := ?_) rfl (by kernel_rfl) (by kernel_rfl) (by kernel_rfl) (fun _ _ _ h => h) (Or.inl ⟨by rfl, ?_⟩) (by assumption) ?_
  rotate_left
  · intro W hSw
    try dsimp only at hSw
    go_simp
    try with_reducible rfl
  simp only [Act.put]
  refine wpAnyH_ready (rs := [23]) (by kernel_rfl) (by simp) ?_
  refine AllReadyH.cons rfl (fun K hK => ?_) AllReadyH.nil
  go_simp
  refine hK.out _ _ (ZS) (fun hHeld2 => ?_)
  clear hK K
  try simp only [Act.put, List.setIfInBounds_toArray, List.set_cons_zero, List.set_cons_succ]
  refine wpAnyH_done (by kernel_rfl) ?_ _
  all_goals
    go_wp2_with fail
    have hbW : Below (w.setCell ⟨g1, d, none⟩ (.int .i64 (Op.opv o rd i))).heap.size (w.setCell ⟨g1, d, none⟩ (.int .i64 (Op.opv o rd i))) (World.drew ((w.setCell ⟨g1, d, none⟩ (.int .i64 (Op.opv o rd i))).alloc (.cells #[.int .i64 2, .int .i64 o, .int .i64 d, .int .i64 s, .int .i64 i, .int .i64 0] 67))) := (below1 _ _).drew
    have O1 := Lib.hid ((HO.out.setReg d (Op.opv o rd i)).below hbW)
    have KB1 := Lib.hid ((KB.out.far (g' := g1) (j := d) n1 _).below hbW)
    have P1 : Hid (Kept w (World.drew ((w.setCell ⟨g1, d, none⟩ (.int .i64 (Op.opv o rd i))).alloc (.cells #[.int .i64 2, .int .i64 o, .int .i64 d, .int .i64 s, .int .i64 i, .int .i64 0] 67))) (four nb g1 g2 g3)) := Lib.hid ((kept_setCell w g1 d _ (.inr (.inl rfl))).trans (.of_below hbW))
    clear hbW
    generalize World.drew ((w.setCell ⟨g1, d, none⟩ (.int .i64 (Op.opv o rd i))).alloc (.cells #[.int .i64 2, .int .i64 o, .int .i64 d, .int .i64 s, .int .i64 i, .int .i64 0] 67)) = W at O1 KB1 P1 ⊢
    have y0 : W.cell? ⟨nb, 0, none⟩ = some (.int .i64 at_) := KB1.out.there rfl
    have y1 : W.cell? ⟨nb, 1, none⟩ = some (.slice (some ⟨g1, 0, none⟩) 6 c1) := KB1.out.there rfl
    have yl : nb < W.heap.size := KB1.out.lt
    refine (nextAt_of _ _ _ _ _ _ nb g1 c1 at_ false W yl hat (by omega) y0 y1 (fun V _ => isTaken_no _ _ _ _ _ _ _ _ _ V rfl rfl rfl)).mono ?_
    simp only [Bool.false_eq_true, if_false]
    rintro e w2 ⟨rfl, hb2⟩
    have O2 := Lib.hid (O1.out.below hb2)
    have KB2 := Lib.hid (KB1.out.below hb2)
    have P2 := Lib.hid (P1.out.trans (.of_below hb2))
    clear hb2 y0 y1 yl O1 KB1 P1 k0 k1 k2 k3 z0 r1 r2 f1
    have y0 : w2.cell? ⟨nb, 0, none⟩ = some (.int .i64 at_) := KB2.out.there rfl
    have z0 := KB2.out.frozen 0
    go_wp2
    go_ret
    exact ex_shut (m1 := ⟨m.a, m.r.set d (Op.opv o rd i), m.c, m.s⟩) (setR m d (Op.opv o rd i), 0, false) rfl rfl rfl KB2.out O2.out P2.out ⟨n1, n2, n3⟩ (by simp [setR, hma.out]) rfl

set_option maxRecDepth 100000 in
set_option maxHeartbeats 2000000 in
theorem exec_ctx (i : Int) (cb co j : Nat) (cv : Int) (d s : Nat) (C : Option Addr) (cn cc : Nat) (at_ : Nat) (base nb g1 g2 g3 c1 c2 c3 : Nat) (m : Mch) (rd rs : Int) (w : World)
    (KB : Hid (Blk w nb 73 [.int .i64 at_, .slice (some ⟨g1, 0, none⟩) 6 c1, .slice (some ⟨g2, 0, none⟩) 16 c2, .slice (some ⟨g3, 0, none⟩) 16 c3])) (hne : nb ≠ g1 ∧ nb ≠ g2 ∧ nb ≠ g3) (hat : at_ < 20) (hma : Hid (m.a = at_)) (HO : Hid (OwnM w base g1 g2 g3 c1 c2 c3 m)) (hd : d < 6) (hs : s < 6) (hrd : m.r.getD d 0 = rd) (hrs : m.r.getD s 0 = rs) (_hi : 0 ≤ i ∧ i ≤ 7) (_hw2 : 0 ≤ rs ∧ rs < 65536) (h8 : rs + i = j) (hj : j < 8) (hcn : cn = 8) (hC : C = some ⟨cb, co, none⟩) (hcb : cb < w.heap.size) (hc : w.cell? ⟨cb, co + j, none⟩ = some (.int .i64 cv)) :
    Calls Tryd.prog 67 #[.agg #[.int .i64 5, .int .i64 0, .int .i64 d, .int .i64 s, .int .i64 i, .int .i64 0], .slice C cn cc, .pointer (some ⟨nb, 0, none⟩)] w (GaveEx w base nb g1 g2 g3 c1 c2 c3 (setR m d (cv), 0, false)) := by
  have k0 : w.cell? ⟨nb, 0, none⟩ = some (.int .i64 at_) := KB.out.there rfl
  have k1 : w.cell? ⟨nb, 1, none⟩ = some (.slice (some ⟨g1, 0, none⟩) 6 c1) := KB.out.there rfl
  have k2 : w.cell? ⟨nb, 2, none⟩ = some (.slice (some ⟨g2, 0, none⟩) 16 c2) := KB.out.there rfl
  have k3 : w.cell? ⟨nb, 3, none⟩ = some (.slice (some ⟨g3, 0, none⟩) 16 c3) := KB.out.there rfl
  have z0 := KB.out.frozen 0
  have lb := KB.out.lt
  have r1 := HO.out.reg hd
  have r2 := HO.out.reg hs
  rw [hrd] at r1
  rw [hrs] at r2
  have f1 := own_frozen HO.out.1 d
  obtain ⟨l1, l2, l3⟩ := HO.out.lt
  obtain ⟨n1, n2, n3⟩ := hne
  have hdI : (d : Int) < 6 := by omega
  have hsI : (s : Int) < 6 := by omega
  clear hrd hrs
  subst hC hcn
  have hadd : IntKind.i64.wrap (j : Int) = (j : Int) := by rw [IntKind.wrap_i64]; omega
  have hcW : (World.drew (w.alloc (.cells #[.int .i64 5, .int .i64 0, .int .i64 d, .int .i64 s, .int .i64 i, .int .i64 0] 67))).cell? ⟨cb, co + j, none⟩ = some (.int .i64 cv) := ((bcell (below1 w (.cells #[.int .i64 5, .int .i64 0, .int .i64 d, .int .i64 s, .int .i64 i, .int .i64 0] 67)).drew).1 _ _ hcb).trans hc
  go_enter Tryd.func67, Tryd.ntmps67
  go_wp2_with fail
  refine wp_region_still_tail 19 (by kernel_rfl) (by kernel_rfl) ?_
  simp only [List.take_succ_cons, List.take_zero, List.drop_succ_cons, List.drop_zero]
  change wpStill _ _ (World.drew (w.alloc (.cells #[.int .i64 5, .int .i64 0, .int .i64 d, .int .i64 s, .int .i64 i, .int .i64 0] 67))) _ _ _
  repeat still_step
  still_call ((elementAt_ok cb co cc j cv _ hj hcW).mono (fun e w' h => ⟨h.1, h.2.symm⟩))
  repeat still_step
  refine wpStill_nil ?_
  change wpList _ _ _ _ _ (World.drew (w.alloc (.cells #[.int .i64 5, .int .i64 0, .int .i64 d, .int .i64 s, .int .i64 i, .int .i64 0] 67)))
  go_wp2_with fail
  have hbW : Below (w.setCell ⟨g1, d, none⟩ (.int .i64 (cv))).heap.size (w.setCell ⟨g1, d, none⟩ (.int .i64 (cv))) (World.drew ((w.setCell ⟨g1, d, none⟩ (.int .i64 (cv))).alloc (.cells #[.int .i64 5, .int .i64 0, .int .i64 d, .int .i64 s, .int .i64 i, .int .i64 0] 67))) := (below1 _ _).drew
  have O1 := Lib.hid ((HO.out.setReg d (cv)).below hbW)
  have KB1 := Lib.hid ((KB.out.far (g' := g1) (j := d) n1 _).below hbW)
  have P1 : Hid (Kept w (World.drew ((w.setCell ⟨g1, d, none⟩ (.int .i64 (cv))).alloc (.cells #[.int .i64 5, .int .i64 0, .int .i64 d, .int .i64 s, .int .i64 i, .int .i64 0] 67))) (four nb g1 g2 g3)) := Lib.hid ((kept_setCell w g1 d _ (.inr (.inl rfl))).trans (.of_below hbW))
  clear hbW
  generalize World.drew ((w.setCell ⟨g1, d, none⟩ (.int .i64 (cv))).alloc (.cells #[.int .i64 5, .int .i64 0, .int .i64 d, .int .i64 s, .int .i64 i, .int .i64 0] 67)) = W at O1 KB1 P1 ⊢
  have y0 : W.cell? ⟨nb, 0, none⟩ = some (.int .i64 at_) := KB1.out.there rfl
  have y1 : W.cell? ⟨nb, 1, none⟩ = some (.slice (some ⟨g1, 0, none⟩) 6 c1) := KB1.out.there rfl
  have yl : nb < W.heap.size := KB1.out.lt
  refine (nextAt_of _ _ _ _ _ _ nb g1 c1 at_ false W yl hat (by omega) y0 y1 (fun V _ => isTaken_no _ _ _ _ _ _ _ _ _ V rfl rfl rfl)).mono ?_
  simp only [Bool.false_eq_true, if_false]
  rintro e w2 ⟨rfl, hb2⟩
  have O2 := Lib.hid (O1.out.below hb2)
  have KB2 := Lib.hid (KB1.out.below hb2)
  have P2 := Lib.hid (P1.out.trans (.of_below hb2))
  clear hb2 y0 y1 yl O1 KB1 P1 k0 k1 k2 k3 z0 r1 r2 f1
  have y0 : w2.cell? ⟨nb, 0, none⟩ = some (.int .i64 at_) := KB2.out.there rfl
  have z0 := KB2.out.frozen 0
  go_wp2
  go_ret
  exact ex_shut (m1 := ⟨m.a, m.r.set d (cv), m.c, m.s⟩) (setR m d (cv), 0, false) rfl rfl rfl KB2.out O2.out P2.out ⟨n1, n2, n3⟩ (by simp [setR, hma.out]) rfl
end Go.Proofs.YtilnegmjnbffhaaDoor
