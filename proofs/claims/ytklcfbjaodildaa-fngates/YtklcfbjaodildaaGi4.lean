/-
  The output of gates at inputs; the values; the first inputs that are wanted: the program's.
-/
import Derived.Test.YtklcfbjaodildaaGi3
namespace Go.Proofs.Ytklcfbjaodildaa
open Go.ChangeShapes Go.WideShapes Go.ChangeAt Go.RowKit

set_option maxRecDepth 100000 in
set_option maxHeartbeats 4000000 in
theorem out1_any (B : Option Addr) (m c2 g n : Nat) (xs : List Gt) (ins : List Bool) (w : World) (ho : Hid (OutIs w g n xs)) (HX : Hid (xs.length = n)) (hn : n ≤ 12) (HG : Hid (goodGB xs = true)) (hl2 : Hid (BLies w B ins)) (HY : Hid (ins.length = m)) (HM : Hid (m = (inpN xs n).length)) :
    Calls Try.prog 141 #[.slice B m c2, .pointer (some ⟨g, 0, none⟩)] w fun e w' => e = .returned (.bool (outG xs ins)) ∧ Below w.heap.size w w' := by
  obtain ⟨hg, R, hc, hr⟩ := ho.out
  have h1n : 1 ≤ n := by have := goodG_len HG.out; have := HX.out; omega
  obtain ⟨p, hp⟩ : ∃ p, n - 1 = p := ⟨_, rfl⟩
  have hpn : p < n := by omega
  have hwr : IntKind.i64.wrap ((n : Int) - 1) = (p : Int) := by rw [IntKind.wrap_i64]; omega
  go_enter Try.func141, Try.ntmps141
  go_wp2_with fail
  refine wp_region_held_drew (S := fun W => W.cell? ⟨g, 0, none⟩ = some (.slice (some ⟨R, 0, none⟩) n n)) (by kernel_rfl) hc (fun hHeld => ?_)
  obtain ⟨w1, hw1⟩ : ∃ W, W = w.drew := ⟨_, rfl⟩
  have hb : Below w.heap.size w w1 := by rw [hw1]; exact (Below.refl _ _).drew
  rw [← hw1] at hHeld ⊢
  clear hw1
  have R1 := Lib.hid (hr.below hb)
  have I1 := Lib.hid (hl2.out.below hb)
  have B1 := Lib.hid hb
  have G1 : Hid (g < w1.heap.size) := Lib.hid (Nat.lt_of_lt_of_le hg hb.size)
  clear hr hb hc
  refine wpAnyH_take (i := 0) (v := ?_) rfl (by kernel_rfl) (by kernel_rfl) (by kernel_rfl) (fun _ _ _ h => h) (Or.inl ⟨by rfl, ?_⟩) (by assumption) ?_
  rotate_left
  · intro W hSw
    try dsimp only at hSw
    go_simp
    try with_reducible rfl
  simp only [Act.put, List.setIfInBounds_toArray]
  refine wpAnyH_take (i := 1) (v := ?_) rfl (by kernel_rfl) (by kernel_rfl) (by kernel_rfl) (fun _ _ _ h => h) (Or.inl ⟨by rfl, ?_⟩) (by assumption) ?_
  rotate_left
  · intro W hSw
    try dsimp only at hSw
    go_simp
    try with_reducible rfl
  simp only [Act.put]
  refine wpAnyH_take (i := 3) (v := ?_) rfl (by kernel_rfl) (by kernel_rfl) (by kernel_rfl) (fun _ _ _ h => h) (Or.inl ⟨by rfl, ?_⟩) (by assumption) ?_
  rotate_left
  · intro W hSw
    try dsimp only at hSw
    go_simp
    try with_reducible rfl
  simp only [Act.put]
  refine wpAnyH_take (i := 4) (v := ?_) rfl (by kernel_rfl) (by kernel_rfl) (by kernel_rfl) (fun _ _ _ h => h) (Or.inl ⟨by rfl, ?_⟩) (by assumption) ?_
  rotate_left
  · intro W hSw
    try dsimp only at hSw
    go_simp
    try with_reducible rfl
  simp only [Act.put]
  refine wpAnyH_take (i := 5) (v := ?_) rfl (by kernel_rfl) (by kernel_rfl) (by kernel_rfl) (fun _ _ _ h => h) (Or.inl ⟨by rfl, ?_⟩) (by assumption) ?_
  rotate_left
  · intro W hSw
    try dsimp only at hSw
    go_simp
    try with_reducible rfl
  simp only [Act.put]
  refine wpAnyH_ready (rs := [2]) (by kernel_rfl) (by simp) ?_
  refine AllReadyH.cons rfl (fun K hK => ?_) AllReadyH.nil
  go_simp
  refine (valuesBy_any _ _ n m _ _ xs ins _ R1 HX hn HG I1 HY HM).mono ?_
  rintro e w2 ⟨A2, cp, rfl, hown, hb2⟩
  have B2 := Lib.hid (Below.tr B1.out hb2)
  have H2 := ((bcell hb2).1 g 0 G1.out).trans hHeld
  have AL := own_blies hown
  have LE := evK_len xs ins n
  obtain ⟨b1, off, rfl, hbl, c1⟩ := AL (n - 1) _ (outG_at HX.out h1n)
  rw [hp] at c1
  rw [LE]
  clear hb2 hown AL LE
  refine hK.out _ _ H2 (fun hH1 => ?_)
  clear hK K hHeld H2
  try simp only [Act.put, List.setIfInBounds_toArray, List.set_cons_zero, List.set_cons_succ]
  refine wpAnyH_ready (rs := [6]) (by kernel_rfl) (by simp) ?_
  refine AllReadyH.cons rfl (fun K hK => ?_) AllReadyH.nil
  go_simp
  refine hK.out _ _ hH1 (fun hH2 => ?_)
  clear hK K hH1
  try simp only [Act.put, List.setIfInBounds_toArray, List.set_cons_zero, List.set_cons_succ]
  refine wpAnyH_ready (rs := [7]) (by kernel_rfl) (by simp) ?_
  refine AllReadyH.cons rfl (fun K hK => ?_) AllReadyH.nil
  go_simp
  refine hK.out _ _ hH2 (fun hH3 => ?_)
  clear hK K hH2
  try simp only [Act.put, List.setIfInBounds_toArray, List.set_cons_zero, List.set_cons_succ]
  refine wpAnyH_ready (rs := [8]) (by kernel_rfl) (by simp) ?_
  refine AllReadyH.cons rfl (fun K hK => ?_) AllReadyH.nil
  go_simp
  refine hK.out _ _ hH3 (fun hH4 => ?_)
  clear hK K hH3
  try simp only [Act.put, List.setIfInBounds_toArray, List.set_cons_zero, List.set_cons_succ]
  refine wpAnyH_done (by kernel_rfl) ?_ _
  clear hH4
  go_wp2
  go_ret
  exact ⟨rfl, B2.out⟩
end Go.Proofs.Ytklcfbjaodildaa
