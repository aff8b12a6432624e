/-
  Bytes of a string; the contract of the step that stands in one or two units.
-/
import Derived.Test.YtbmonndpblnjkaaSlots
import Derived.Laws.Strings
import Derived.StillTailTactics
import Derived.Deep.RegionHeld3
namespace Go.Proofs.Ytbmonndpblnjkaa
open Go.ChangeShapes Go.WideShapes Go.ChangeAt Go.RowKit

def byteAt (u : ByteArray) (j : Nat) : Int := ((u.data.toList.getD j 0).toNat : Int)
theorem byteAt_bd (u : ByteArray) (j : Nat) : 0 ≤ byteAt u j ∧ byteAt u j ≤ 255 := by
  unfold byteAt
  have := (u.data.toList.getD j 0).toNat_lt
  omega
theorem index_run (u : ByteArray) (j : Nat) (h : j < u.size) (w : World) : (Instr.index 9 (.string u) (.int .i64 (j : Int))).run Try.prog w = .ok (.int .u8 (byteAt u j)) w := by
  rw [run_index_string w 9 u .i64 j Try.underlying9, dif_pos ⟨by omega, by omega⟩]
  congr 2
  unfold byteAt
  have h' : j < u.data.toList.length := by rw [Array.length_toList]; exact h
  rw [List.getD_eq_getElem?_getD, List.getElem?_eq_getElem h', Option.getD_some, Array.getElem_toList]
  rfl
/-- the step that four or eight bytes hold -/
def yOf (u : ByteArray) : Stp := ⟨byteAt u 0 % 16, byteAt u 0 / 16, byteAt u 1 / 16, byteAt u 1 % 16, if u.size = 8 then byteAt u 3 + 256 * byteAt u 7 else byteAt u 3, byteAt u 2⟩
def Stp.val (x : Stp) : Value := .agg #[.int .i64 x.k, .int .i64 x.o, .int .i64 x.d, .int .i64 x.s, .int .i64 x.i, .int .i64 x.t]

set_option maxHeartbeats 2000000 in
theorem stepFrom4 (u : ByteArray) (w : World) (hu : u.size = 4) :
    Calls Try.prog 39 #[.string u] w fun e w' => e = .returned (.agg #[.int .i64 (byteAt u 0 % 16), .int .i64 (byteAt u 0 / 16), .int .i64 (byteAt u 1 / 16), .int .i64 (byteAt u 1 % 16), .int .i64 (byteAt u 3), .int .i64 (byteAt u 2)]) ∧ Below w.heap.size w w' := by
  have i0 : ∀ w, (Instr.index 9 (.string u) (.int .i64 0)).run Try.prog w = .ok (.int .u8 (byteAt u 0)) w := index_run u 0 (by omega)
  have b0 := byteAt_bd u 0
  generalize byteAt u 0 = c0 at i0 b0 ⊢
  have p0 : IntKind.i64.wrap c0 = c0 := IntWalk.i64_in _ (by omega)
  have i1 : ∀ w, (Instr.index 9 (.string u) (.int .i64 1)).run Try.prog w = .ok (.int .u8 (byteAt u 1)) w := index_run u 1 (by omega)
  have b1 := byteAt_bd u 1
  generalize byteAt u 1 = c1 at i1 b1 ⊢
  have p1 : IntKind.i64.wrap c1 = c1 := IntWalk.i64_in _ (by omega)
  have i2 : ∀ w, (Instr.index 9 (.string u) (.int .i64 2)).run Try.prog w = .ok (.int .u8 (byteAt u 2)) w := index_run u 2 (by omega)
  have b2 := byteAt_bd u 2
  generalize byteAt u 2 = c2 at i2 b2 ⊢
  have p2 : IntKind.i64.wrap c2 = c2 := IntWalk.i64_in _ (by omega)
  have i3 : ∀ w, (Instr.index 9 (.string u) (.int .i64 3)).run Try.prog w = .ok (.int .u8 (byteAt u 3)) w := index_run u 3 (by omega)
  have b3 := byteAt_bd u 3
  generalize byteAt u 3 = c3 at i3 b3 ⊢
  have p3 : IntKind.i64.wrap c3 = c3 := IntWalk.i64_in _ (by omega)
  have m0 : c0.tmod 16 = c0 % 16 := Int.tmod_eq_emod_of_nonneg (by omega)
  have q0 : IntKind.i64.wrap (c0.tdiv 16) = c0 / 16 := by rw [Int.tdiv_eq_ediv_of_nonneg (by omega)]; exact IntWalk.i64_in _ (by omega)
  have m1 : c1.tmod 16 = c1 % 16 := Int.tmod_eq_emod_of_nonneg (by omega)
  have q1 : IntKind.i64.wrap (c1.tdiv 16) = c1 / 16 := by rw [Int.tdiv_eq_ediv_of_nonneg (by omega)]; exact IntWalk.i64_in _ (by omega)
  go_enter Try.func39, Try.ntmps39
  go_wp2_with fail
  refine wp_region_any (by kernel_rfl) ?_
  change wpAny _ _ _ _ _ _ _ (World.drew _)
  refine wpAny_take (i := 0) (v := ?_) rfl (by kernel_rfl) (by kernel_rfl) (by kernel_rfl) (fun _ _ _ h => h) (Or.inl ⟨by rfl, ?_⟩) ?_
  rotate_left
  · intro w
    go_simp
    try with_reducible rfl
  refine wpAny_take (i := 1) (v := ?_) rfl (by kernel_rfl) (by kernel_rfl) (by kernel_rfl) (fun _ _ _ h => h) (Or.inl ⟨by rfl, ?_⟩) ?_
  rotate_left
  · intro w
    go_simp
    try with_reducible rfl
  refine wpAny_take (i := 2) (v := ?_) rfl (by kernel_rfl) (by kernel_rfl) (by kernel_rfl) (fun _ _ _ h => h) (Or.inl ⟨by rfl, ?_⟩) ?_
  rotate_left
  · intro w
    go_simp
    try with_reducible rfl
  refine wpAny_take (i := 3) (v := ?_) rfl (by kernel_rfl) (by kernel_rfl) (by kernel_rfl) (fun _ _ _ h => h) (Or.inl ⟨by rfl, ?_⟩) ?_
  rotate_left
  · intro w
    go_simp
    try with_reducible rfl
  refine wpAny_take (i := 4) (v := ?_) rfl (by kernel_rfl) (by kernel_rfl) (by kernel_rfl) (fun _ _ _ h => h) (Or.inl ⟨by rfl, ?_⟩) ?_
  rotate_left
  · intro w
    go_simp
    try with_reducible rfl
  refine wpAny_take (i := 5) (v := ?_) rfl (by kernel_rfl) (by kernel_rfl) (by kernel_rfl) (fun _ _ _ h => h) (Or.inl ⟨by rfl, ?_⟩) ?_
  rotate_left
  · intro w
    go_simp
    try with_reducible rfl
  refine wpAny_take (i := 6) (v := ?_) rfl (by kernel_rfl) (by kernel_rfl) (by kernel_rfl) (fun _ _ _ h => h) (Or.inl ⟨by rfl, ?_⟩) ?_
  rotate_left
  · intro w
    go_simp
    try with_reducible rfl
  refine wpAny_take (i := 7) (v := ?_) rfl (by kernel_rfl) (by kernel_rfl) (by kernel_rfl) (fun _ _ _ h => h) (Or.inl ⟨by rfl, ?_⟩) ?_
  rotate_left
  · intro w
    go_simp
    try with_reducible rfl
  refine wpAny_take (i := 8) (v := ?_) rfl (by kernel_rfl) (by kernel_rfl) (by kernel_rfl) (fun _ _ _ h => h) (Or.inl ⟨by rfl, ?_⟩) ?_
  rotate_left
  · intro w
    go_simp
    try with_reducible rfl
  refine wpAny_take (i := 9) (v := ?_) rfl (by kernel_rfl) (by kernel_rfl) (by kernel_rfl) (fun _ _ _ h => h) (Or.inl ⟨by rfl, ?_⟩) ?_
  rotate_left
  · intro w
    go_simp
    try with_reducible rfl
  refine wpAny_take (i := 10) (v := ?_) rfl (by kernel_rfl) (by kernel_rfl) (by kernel_rfl) (fun _ _ _ h => h) (Or.inl ⟨by rfl, ?_⟩) ?_
  rotate_left
  · intro w
    go_simp
    try with_reducible rfl
  refine wpAny_take (i := 11) (v := ?_) rfl (by kernel_rfl) (by kernel_rfl) (by kernel_rfl) (fun _ _ _ h => h) (Or.inl ⟨by rfl, ?_⟩) ?_
  rotate_left
  · intro w
    go_simp
    try with_reducible rfl
  refine wpAny_take (i := 12) (v := ?_) rfl (by kernel_rfl) (by kernel_rfl) (by kernel_rfl) (fun _ _ _ h => h) (Or.inl ⟨by rfl, ?_⟩) ?_
  rotate_left
  · intro w
    go_simp
    try with_reducible rfl
  refine wpAny_take (i := 13) (v := ?_) rfl (by kernel_rfl) (by kernel_rfl) (by kernel_rfl) (fun _ _ _ h => h) (Or.inl ⟨by rfl, ?_⟩) ?_
  rotate_left
  · intro w
    go_simp
    try with_reducible rfl
  refine wpAny_take (i := 14) (v := ?_) rfl (by kernel_rfl) (by kernel_rfl) (by kernel_rfl) (fun _ _ _ h => h) (Or.inl ⟨by rfl, ?_⟩) ?_
  rotate_left
  · intro w
    go_simp
    try with_reducible rfl
  refine wpAny_take (i := 15) (v := ?_) rfl (by kernel_rfl) (by kernel_rfl) (by kernel_rfl) (fun _ _ _ h => h) (Or.inl ⟨by rfl, ?_⟩) ?_
  rotate_left
  · intro w
    go_simp
    try with_reducible rfl
  refine wpAny_take (i := 16) (v := ?_) rfl (by kernel_rfl) (by kernel_rfl) (by kernel_rfl) (fun _ _ _ h => h) (Or.inl ⟨by rfl, ?_⟩) ?_
  rotate_left
  · intro w
    go_simp
    try with_reducible rfl
  refine wpAny_take (i := 17) (v := ?_) rfl (by kernel_rfl) (by kernel_rfl) (by kernel_rfl) (fun _ _ _ h => h) (Or.inl ⟨by rfl, ?_⟩) ?_
  rotate_left
  · intro w
    go_simp
    try with_reducible rfl
  refine wpAny_take (i := 18) (v := ?_) rfl (by kernel_rfl) (by kernel_rfl) (by kernel_rfl) (fun _ _ _ h => h) (Or.inl ⟨by rfl, ?_⟩) ?_
  rotate_left
  · intro w
    go_simp
    try with_reducible rfl
  refine wpAny_take (i := 19) (v := ?_) rfl (by kernel_rfl) (by kernel_rfl) (by kernel_rfl) (fun _ _ _ h => h) (Or.inl ⟨by rfl, ?_⟩) ?_
  rotate_left
  · intro w
    go_simp
    try with_reducible rfl
  refine wpAny_take (i := 20) (v := ?_) rfl (by kernel_rfl) (by kernel_rfl) (by kernel_rfl) (fun _ _ _ h => h) (Or.inl ⟨by rfl, ?_⟩) ?_
  rotate_left
  · intro w
    go_simp
    try with_reducible rfl
  refine wpAny_take (i := 21) (v := ?_) rfl (by kernel_rfl) (by kernel_rfl) (by kernel_rfl) (fun _ _ _ h => h) (Or.inl ⟨by rfl, ?_⟩) ?_
  rotate_left
  · intro w
    go_simp
    try with_reducible rfl
  refine wpAny_take (i := 22) (v := ?_) rfl (by kernel_rfl) (by kernel_rfl) (by kernel_rfl) (fun _ _ _ h => h) (Or.inl ⟨by rfl, ?_⟩) ?_
  rotate_left
  · intro w
    go_simp
    try with_reducible rfl
  refine wpAny_ready (rs := [23]) (by kernel_rfl) (by simp) ?_
  refine AllReady.cons rfl (fun K hK => ?_) AllReady.nil
  go_simp
  refine hK _ _ ?_
  clear hK K
  refine wpAny_ready (rs := [24]) (by kernel_rfl) (by simp) ?_
  refine AllReady.cons rfl (fun K hK => ?_) AllReady.nil
  go_simp
  refine hK _ _ ?_
  clear hK K
  refine wpAny_done (by kernel_rfl) ?_ _
  clear p0 p1 p2 p3 m0 m1 q0 q1
  go_wp2
  exact bodyPost_ret (v := .agg #[.int .i64 (c0 % 16), .int .i64 (c0 / 16), .int .i64 (c1 / 16), .int .i64 (c1 % 16), .int .i64 c3, .int .i64 c2]) (by simp [results, Try.results39, go_sem]) rfl ⟨rfl, (below2 w _ _).drew⟩

set_option maxHeartbeats 2000000 in
theorem stepFrom8 (u : ByteArray) (w : World) (hu : u.size = 8) :
    Calls Try.prog 39 #[.string u] w fun e w' => e = .returned (.agg #[.int .i64 (byteAt u 0 % 16), .int .i64 (byteAt u 0 / 16), .int .i64 (byteAt u 1 / 16), .int .i64 (byteAt u 1 % 16), .int .i64 (byteAt u 3 + 256 * byteAt u 7), .int .i64 (byteAt u 2)]) ∧ Below w.heap.size w w' := by
  have i0 : ∀ w, (Instr.index 9 (.string u) (.int .i64 0)).run Try.prog w = .ok (.int .u8 (byteAt u 0)) w := index_run u 0 (by omega)
  have b0 := byteAt_bd u 0
  generalize byteAt u 0 = c0 at i0 b0 ⊢
  have p0 : IntKind.i64.wrap c0 = c0 := IntWalk.i64_in _ (by omega)
  have i1 : ∀ w, (Instr.index 9 (.string u) (.int .i64 1)).run Try.prog w = .ok (.int .u8 (byteAt u 1)) w := index_run u 1 (by omega)
  have b1 := byteAt_bd u 1
  generalize byteAt u 1 = c1 at i1 b1 ⊢
  have p1 : IntKind.i64.wrap c1 = c1 := IntWalk.i64_in _ (by omega)
  have i2 : ∀ w, (Instr.index 9 (.string u) (.int .i64 2)).run Try.prog w = .ok (.int .u8 (byteAt u 2)) w := index_run u 2 (by omega)
  have b2 := byteAt_bd u 2
  generalize byteAt u 2 = c2 at i2 b2 ⊢
  have p2 : IntKind.i64.wrap c2 = c2 := IntWalk.i64_in _ (by omega)
  have i3 : ∀ w, (Instr.index 9 (.string u) (.int .i64 3)).run Try.prog w = .ok (.int .u8 (byteAt u 3)) w := index_run u 3 (by omega)
  have b3 := byteAt_bd u 3
  generalize byteAt u 3 = c3 at i3 b3 ⊢
  have p3 : IntKind.i64.wrap c3 = c3 := IntWalk.i64_in _ (by omega)
  have i7 : ∀ w, (Instr.index 9 (.string u) (.int .i64 7)).run Try.prog w = .ok (.int .u8 (byteAt u 7)) w := index_run u 7 (by omega)
  have b7 := byteAt_bd u 7
  generalize byteAt u 7 = c7 at i7 b7 ⊢
  have p7 : IntKind.i64.wrap c7 = c7 := IntWalk.i64_in _ (by omega)
  have m0 : c0.tmod 16 = c0 % 16 := Int.tmod_eq_emod_of_nonneg (by omega)
  have q0 : IntKind.i64.wrap (c0.tdiv 16) = c0 / 16 := by rw [Int.tdiv_eq_ediv_of_nonneg (by omega)]; exact IntWalk.i64_in _ (by omega)
  have m1 : c1.tmod 16 = c1 % 16 := Int.tmod_eq_emod_of_nonneg (by omega)
  have q1 : IntKind.i64.wrap (c1.tdiv 16) = c1 / 16 := by rw [Int.tdiv_eq_ediv_of_nonneg (by omega)]; exact IntWalk.i64_in _ (by omega)
  go_enter Try.func39, Try.ntmps39
  go_wp2_with fail
  refine wp_region_any (by kernel_rfl) ?_
  change wpAny _ _ _ _ _ _ _ (World.drew _)
  refine wpAny_take (i := 0) (v := ?_) rfl (by kernel_rfl) (by kernel_rfl) (by kernel_rfl) (fun _ _ _ h => h) (Or.inl ⟨by rfl, ?_⟩) ?_
  rotate_left
  · intro w
    go_simp
    try with_reducible rfl
  refine wpAny_take (i := 1) (v := ?_) rfl (by kernel_rfl) (by kernel_rfl) (by kernel_rfl) (fun _ _ _ h => h) (Or.inl ⟨by rfl, ?_⟩) ?_
  rotate_left
  · intro w
    go_simp
    try with_reducible rfl
  refine wpAny_take (i := 2) (v := ?_) rfl (by kernel_rfl) (by kernel_rfl) (by kernel_rfl) (fun _ _ _ h => h) (Or.inl ⟨by rfl, ?_⟩) ?_
  rotate_left
  · intro w
    go_simp
    try with_reducible rfl
  refine wpAny_take (i := 3) (v := ?_) rfl (by kernel_rfl) (by kernel_rfl) (by kernel_rfl) (fun _ _ _ h => h) (Or.inl ⟨by rfl, ?_⟩) ?_
  rotate_left
  · intro w
    go_simp
    try with_reducible rfl
  refine wpAny_take (i := 4) (v := ?_) rfl (by kernel_rfl) (by kernel_rfl) (by kernel_rfl) (fun _ _ _ h => h) (Or.inl ⟨by rfl, ?_⟩) ?_
  rotate_left
  · intro w
    go_simp
    try with_reducible rfl
  refine wpAny_take (i := 5) (v := ?_) rfl (by kernel_rfl) (by kernel_rfl) (by kernel_rfl) (fun _ _ _ h => h) (Or.inl ⟨by rfl, ?_⟩) ?_
  rotate_left
  · intro w
    go_simp
    try with_reducible rfl
  refine wpAny_take (i := 6) (v := ?_) rfl (by kernel_rfl) (by kernel_rfl) (by kernel_rfl) (fun _ _ _ h => h) (Or.inl ⟨by rfl, ?_⟩) ?_
  rotate_left
  · intro w
    go_simp
    try with_reducible rfl
  refine wpAny_take (i := 7) (v := ?_) rfl (by kernel_rfl) (by kernel_rfl) (by kernel_rfl) (fun _ _ _ h => h) (Or.inl ⟨by rfl, ?_⟩) ?_
  rotate_left
  · intro w
    go_simp
    try with_reducible rfl
  refine wpAny_take (i := 8) (v := ?_) rfl (by kernel_rfl) (by kernel_rfl) (by kernel_rfl) (fun _ _ _ h => h) (Or.inl ⟨by rfl, ?_⟩) ?_
  rotate_left
  · intro w
    go_simp
    try with_reducible rfl
  refine wpAny_take (i := 9) (v := ?_) rfl (by kernel_rfl) (by kernel_rfl) (by kernel_rfl) (fun _ _ _ h => h) (Or.inl ⟨by rfl, ?_⟩) ?_
  rotate_left
  · intro w
    go_simp
    try with_reducible rfl
  refine wpAny_take (i := 10) (v := ?_) rfl (by kernel_rfl) (by kernel_rfl) (by kernel_rfl) (fun _ _ _ h => h) (Or.inl ⟨by rfl, ?_⟩) ?_
  rotate_left
  · intro w
    go_simp
    try with_reducible rfl
  refine wpAny_take (i := 11) (v := ?_) rfl (by kernel_rfl) (by kernel_rfl) (by kernel_rfl) (fun _ _ _ h => h) (Or.inl ⟨by rfl, ?_⟩) ?_
  rotate_left
  · intro w
    go_simp
    try with_reducible rfl
  refine wpAny_take (i := 12) (v := ?_) rfl (by kernel_rfl) (by kernel_rfl) (by kernel_rfl) (fun _ _ _ h => h) (Or.inl ⟨by rfl, ?_⟩) ?_
  rotate_left
  · intro w
    go_simp
    try with_reducible rfl
  refine wpAny_take (i := 13) (v := ?_) rfl (by kernel_rfl) (by kernel_rfl) (by kernel_rfl) (fun _ _ _ h => h) (Or.inl ⟨by rfl, ?_⟩) ?_
  rotate_left
  · intro w
    go_simp
    try with_reducible rfl
  refine wpAny_take (i := 14) (v := ?_) rfl (by kernel_rfl) (by kernel_rfl) (by kernel_rfl) (fun _ _ _ h => h) (Or.inl ⟨by rfl, ?_⟩) ?_
  rotate_left
  · intro w
    go_simp
    try with_reducible rfl
  refine wpAny_take (i := 15) (v := ?_) rfl (by kernel_rfl) (by kernel_rfl) (by kernel_rfl) (fun _ _ _ h => h) (Or.inl ⟨by rfl, ?_⟩) ?_
  rotate_left
  · intro w
    go_simp
    try with_reducible rfl
  refine wpAny_take (i := 16) (v := ?_) rfl (by kernel_rfl) (by kernel_rfl) (by kernel_rfl) (fun _ _ _ h => h) (Or.inl ⟨by rfl, ?_⟩) ?_
  rotate_left
  · intro w
    go_simp
    try with_reducible rfl
  refine wpAny_take (i := 17) (v := ?_) rfl (by kernel_rfl) (by kernel_rfl) (by kernel_rfl) (fun _ _ _ h => h) (Or.inl ⟨by rfl, ?_⟩) ?_
  rotate_left
  · intro w
    go_simp
    try with_reducible rfl
  refine wpAny_take (i := 18) (v := ?_) rfl (by kernel_rfl) (by kernel_rfl) (by kernel_rfl) (fun _ _ _ h => h) (Or.inl ⟨by rfl, ?_⟩) ?_
  rotate_left
  · intro w
    go_simp
    try with_reducible rfl
  refine wpAny_take (i := 19) (v := ?_) rfl (by kernel_rfl) (by kernel_rfl) (by kernel_rfl) (fun _ _ _ h => h) (Or.inl ⟨by rfl, ?_⟩) ?_
  rotate_left
  · intro w
    go_simp
    try with_reducible rfl
  refine wpAny_take (i := 20) (v := ?_) rfl (by kernel_rfl) (by kernel_rfl) (by kernel_rfl) (fun _ _ _ h => h) (Or.inl ⟨by rfl, ?_⟩) ?_
  rotate_left
  · intro w
    go_simp
    try with_reducible rfl
  refine wpAny_take (i := 21) (v := ?_) rfl (by kernel_rfl) (by kernel_rfl) (by kernel_rfl) (fun _ _ _ h => h) (Or.inl ⟨by rfl, ?_⟩) ?_
  rotate_left
  · intro w
    go_simp
    try with_reducible rfl
  refine wpAny_take (i := 22) (v := ?_) rfl (by kernel_rfl) (by kernel_rfl) (by kernel_rfl) (fun _ _ _ h => h) (Or.inl ⟨by rfl, ?_⟩) ?_
  rotate_left
  · intro w
    go_simp
    try with_reducible rfl
  refine wpAny_ready (rs := [23]) (by kernel_rfl) (by simp) ?_
  refine AllReady.cons rfl (fun K hK => ?_) AllReady.nil
  go_simp
  refine hK _ _ ?_
  clear hK K
  refine wpAny_ready (rs := [24]) (by kernel_rfl) (by simp) ?_
  refine AllReady.cons rfl (fun K hK => ?_) AllReady.nil
  go_simp
  refine hK _ _ ?_
  clear hK K
  refine wpAny_done (by kernel_rfl) ?_ _
  clear p0 p1 p2 p3 m0 m1 q0 q1
  have r1 : IntKind.i64.wrap (256 * c7) = 256 * c7 := IntWalk.i64_in _ (by omega)
  have r2 : IntKind.i64.wrap (c3 + 256 * c7) = c3 + 256 * c7 := IntWalk.i64_in _ (by omega)
  go_wp2_with fail
  go_region
  all_goals
    clear r1 r2 p7
    go_wp2
    exact bodyPost_ret (v := .agg #[.int .i64 (c0 % 16), .int .i64 (c0 / 16), .int .i64 (c1 / 16), .int .i64 (c1 % 16), .int .i64 (c3 + 256 * c7), .int .i64 c2]) (by simp [results, Try.results39, go_sem]) rfl ⟨rfl, (below2 w _ _).drew.drew⟩

end Go.Proofs.Ytbmonndpblnjkaa
