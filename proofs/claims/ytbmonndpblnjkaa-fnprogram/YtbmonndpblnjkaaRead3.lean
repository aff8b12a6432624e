/-
  The contract of the model's reader.
-/
import Derived.Test.YtbmonndpblnjkaaRead2
import Derived.Laws.DeepStrings4
import Derived.BigRegion
namespace Go.Proofs.Ytbmonndpblnjkaa
open Go.ChangeShapes Go.WideShapes Go.ChangeAt Go.RowKit

theorem slice_run (s : ByteArray) (a z : Nat) (h : a + z ≤ s.size) (w : World) : (Instr.slice 9 (.string s) (some (.int .i64 (a : Int))) (some (.int .i64 ((a : Int) + (z : Int)))) none).run Try.prog w = .ok (.string (s.extract a (a + z))) w := by
  rw [run_slice_string_if w 9 s .i64 .i64 _ _ Try.underlying9, if_pos ⟨by omega, by omega⟩, if_pos ⟨by omega, by omega⟩]
  rw [show ((a : Int) + (z : Int)).toNat = a + z from by omega, Int.toNat_natCast]

set_option maxRecDepth 100000 in
set_option maxHeartbeats 8000000 in
theorem specRead_any (s : ByteArray) (w : World) (l : List Stp) (code : Int) (b : Bool) (hr : Hid (ReadRes s l code b)) (hs : s.size ≤ 1048576) :
    Calls Try.prog 19 #[.string s] w (GaveRead w l code b) := by
  obtain ⟨i0, hi0, hz0, hz1, hz2⟩ := info_parts info_step
  by_cases hbig : 160 < s.size
  · obtain ⟨rfl, rfl, rfl⟩ := hr.out.1 hbig
    have hb' : (160 : Int) < (s.size : Int) := by omega
    go_enter Try.func19, Try.ntmps19
    go_wp2
    go_ret3
    exact read_nil 0 (Below.refl _ _)
  · have HF := Lib.hid (hr.out.2 hbig)
    obtain ⟨R, hR⟩ : ∃ R, rdF s 41 0 [] = R := ⟨_, rfl⟩
    rw [hR] at HF
    have HR := Lib.hid hR
    clear hR
    have hb' : decide ((160 : Int) < (s.size : Int)) = false := by simp; omega
    go_enter Try.func19, Try.ntmps19
    go_wp2_with fail
    go_loopw [5, 6] (fun v at_ wr => ∃ (a : Nat) (ys : List Stp), at_ = .int .i64 a ∧ RdInv w.heap.size s R a ys v wr ∧ Below w.heap.size w wr) (fun _ at_ _ => s.size - (intOf at_).toNat)
    case atStart => exact ⟨0, [], rfl, ⟨Nat.zero_le _, ⟨41, by omega, HR.out⟩, by simp, ⟨none, 0, rfl, World.ownsRow_nil _ _ _ _⟩⟩, Below.refl _ _⟩
    case round =>
      obtain ⟨a, ys, rfl, ⟨ha, ⟨f, hf, hrd⟩, hys, ⟨A2, cc, rfl, hown⟩⟩, hbw⟩ := hrel
      have O2 := Lib.hid hown
      have B2 := Lib.hid hbw
      have RD := Lib.hid hrd
      clear hown hbw hrd
      obtain ⟨S, hS⟩ : ∃ S : Nat, s.size - a = S := ⟨_, rfl⟩
      have HSS := Lib.hid hS
      have hS160 : S ≤ 160 := by omega
      have hSi : (s.size : Int) - (a : Int) = (S : Int) := by omega
      have HSI := Lib.hid hSi
      clear hS hSi
      by_cases hend : a < s.size
      · by_cases h4s : (s.size : Int) - (a : Int) < 4
        · have HC : Hid (R = (1, [])) := RD.out.symm.trans (rd_cut (by omega) hend (by have := szA_or s a; omega))
          obtain ⟨hl0, hc0, hb0⟩ := HF.out.1 (by rw [HC.out]; decide)
          rw [HC.out] at hc0
          subst hl0 hc0 hb0
          go_wp2
          go_ret3
          exact read_nil 1 B2.out
        · by_cases h4 : byteAt s a % 16 = 4
          · have hz : Hid (szA s a = 8) := if_pos h4
            have hyy : yA s a = ⟨byteAt s a % 16, byteAt s a / 16, byteAt s (a + 1) / 16, byteAt s (a + 1) % 16, byteAt s (a + 3) + 256 * byteAt s (a + 7), byteAt s (a + 2)⟩ := by rw [yA, if_pos h4]
            have h4b : (byteAt s a % 16 == 4) = true := by simp [h4]
            clear h4
            have k0 : ∀ w, (Instr.index 9 (.string s) (.int .i64 (a : Int))).run Try.prog w = .ok (.int .u8 (byteAt s (a))) w := fun w => by
              have := index_run s (a) (by have := HSS.out; omega) w
              exact this
            have b0 := byteAt_bd s (a)
            generalize byteAt s (a) = c0 at *
            have p0 : IntKind.i64.wrap c0 = c0 := IntWalk.i64_in _ (by omega)
            have k1 : ∀ w, (Instr.index 9 (.string s) (.int .i64 ((a : Int) + 1))).run Try.prog w = .ok (.int .u8 (byteAt s (a + 1))) w := fun w => by
              have := index_run s (a + 1) (by have := HSS.out; omega) w
              rw [show (((a + 1 : Nat)) : Int) = (a : Int) + 1 from by omega] at this; exact this
            have b1 := byteAt_bd s (a + 1)
            generalize byteAt s (a + 1) = c1 at *
            have p1 : IntKind.i64.wrap c1 = c1 := IntWalk.i64_in _ (by omega)
            have v1 : IntKind.i64.wrap ((a : Int) + 1) = (a : Int) + 1 := IntWalk.i64_in _ (by omega)
            have k2 : ∀ w, (Instr.index 9 (.string s) (.int .i64 ((a : Int) + 2))).run Try.prog w = .ok (.int .u8 (byteAt s (a + 2))) w := fun w => by
              have := index_run s (a + 2) (by have := HSS.out; omega) w
              rw [show (((a + 2 : Nat)) : Int) = (a : Int) + 2 from by omega] at this; exact this
            have b2 := byteAt_bd s (a + 2)
            generalize byteAt s (a + 2) = c2 at *
            have p2 : IntKind.i64.wrap c2 = c2 := IntWalk.i64_in _ (by omega)
            have v2 : IntKind.i64.wrap ((a : Int) + 2) = (a : Int) + 2 := IntWalk.i64_in _ (by omega)
            have k3 : ∀ w, (Instr.index 9 (.string s) (.int .i64 ((a : Int) + 3))).run Try.prog w = .ok (.int .u8 (byteAt s (a + 3))) w := fun w => by
              have := index_run s (a + 3) (by have := HSS.out; omega) w
              rw [show (((a + 3 : Nat)) : Int) = (a : Int) + 3 from by omega] at this; exact this
            have b3 := byteAt_bd s (a + 3)
            generalize byteAt s (a + 3) = c3 at *
            have p3 : IntKind.i64.wrap c3 = c3 := IntWalk.i64_in _ (by omega)
            have v3 : IntKind.i64.wrap ((a : Int) + 3) = (a : Int) + 3 := IntWalk.i64_in _ (by omega)
            have m0 : c0.tmod 16 = c0 % 16 := Int.tmod_eq_emod_of_nonneg (by omega)
            have q0 : IntKind.i64.wrap (c0.tdiv 16) = c0 / 16 := by rw [Int.tdiv_eq_ediv_of_nonneg (by omega)]; exact IntWalk.i64_in _ (by omega)
            have m1 : c1.tmod 16 = c1 % 16 := Int.tmod_eq_emod_of_nonneg (by omega)
            have q1 : IntKind.i64.wrap (c1.tdiv 16) = c1 / 16 := by rw [Int.tdiv_eq_ediv_of_nonneg (by omega)]; exact IntWalk.i64_in _ (by omega)
            go_wp2_with fail
            refine wp_region_any (by kernel_rfl) ?_
            change wpAny _ _ _ _ _ _ _ (World.drew _)
            refine wpAny_take (i := 0) (v := ?_) rfl (by kernel_rfl) (by kernel_rfl) (by kernel_rfl) (fun _ _ _ h => h) (Or.inl ⟨by rfl, ?_⟩) ?_
            rotate_left
            · intro w
              go_simp
              try with_reducible rfl
            refine wpAny_take (i := 1) (v := ?_) rfl (by kernel_rfl) (by kernel_rfl) (by kernel_rfl) (fun _ _ _ h => h) (Or.inl ⟨by rfl, ?_⟩) ?_
            rotate_left
            · intro w
              go_simp
              try with_reducible rfl
            refine wpAny_take (i := 2) (v := ?_) rfl (by kernel_rfl) (by kernel_rfl) (by kernel_rfl) (fun _ _ _ h => h) (Or.inl ⟨by rfl, ?_⟩) ?_
            rotate_left
            · intro w
              go_simp
              try with_reducible rfl
            refine wpAny_take (i := 3) (v := ?_) rfl (by kernel_rfl) (by kernel_rfl) (by kernel_rfl) (fun _ _ _ h => h) (Or.inl ⟨by rfl, ?_⟩) ?_
            rotate_left
            · intro w
              go_simp
              try with_reducible rfl
            refine wpAny_take (i := 4) (v := ?_) rfl (by kernel_rfl) (by kernel_rfl) (by kernel_rfl) (fun _ _ _ h => h) (Or.inl ⟨by rfl, ?_⟩) ?_
            rotate_left
            · intro w
              go_simp
              try with_reducible rfl
            refine wpAny_take (i := 5) (v := ?_) rfl (by kernel_rfl) (by kernel_rfl) (by kernel_rfl) (fun _ _ _ h => h) (Or.inl ⟨by rfl, ?_⟩) ?_
            rotate_left
            · intro w
              go_simp
              try with_reducible rfl
            refine wpAny_take (i := 6) (v := ?_) rfl (by kernel_rfl) (by kernel_rfl) (by kernel_rfl) (fun _ _ _ h => h) (Or.inl ⟨by rfl, ?_⟩) ?_
            rotate_left
            · intro w
              go_simp
              try with_reducible rfl
            refine wpAny_take (i := 7) (v := ?_) rfl (by kernel_rfl) (by kernel_rfl) (by kernel_rfl) (fun _ _ _ h => h) (Or.inl ⟨by rfl, ?_⟩) ?_
            rotate_left
            · intro w
              go_simp
              try with_reducible rfl
            refine wpAny_take (i := 8) (v := ?_) rfl (by kernel_rfl) (by kernel_rfl) (by kernel_rfl) (fun _ _ _ h => h) (Or.inl ⟨by rfl, ?_⟩) ?_
            rotate_left
            · intro w
              go_simp
              try with_reducible rfl
            refine wpAny_take (i := 9) (v := ?_) rfl (by kernel_rfl) (by kernel_rfl) (by kernel_rfl) (fun _ _ _ h => h) (Or.inl ⟨by rfl, ?_⟩) ?_
            rotate_left
            · intro w
              go_simp
              try with_reducible rfl
            refine wpAny_take (i := 10) (v := ?_) rfl (by kernel_rfl) (by kernel_rfl) (by kernel_rfl) (fun _ _ _ h => h) (Or.inl ⟨by rfl, ?_⟩) ?_
            rotate_left
            · intro w
              go_simp
              try with_reducible rfl
            refine wpAny_take (i := 11) (v := ?_) rfl (by kernel_rfl) (by kernel_rfl) (by kernel_rfl) (fun _ _ _ h => h) (Or.inl ⟨by rfl, ?_⟩) ?_
            rotate_left
            · intro w
              go_simp
              try with_reducible rfl
            refine wpAny_take (i := 12) (v := ?_) rfl (by kernel_rfl) (by kernel_rfl) (by kernel_rfl) (fun _ _ _ h => h) (Or.inl ⟨by rfl, ?_⟩) ?_
            rotate_left
            · intro w
              go_simp
              try with_reducible rfl
            refine wpAny_take (i := 13) (v := ?_) rfl (by kernel_rfl) (by kernel_rfl) (by kernel_rfl) (fun _ _ _ h => h) (Or.inl ⟨by rfl, ?_⟩) ?_
            rotate_left
            · intro w
              go_simp
              try with_reducible rfl
            refine wpAny_take (i := 14) (v := ?_) rfl (by kernel_rfl) (by kernel_rfl) (by kernel_rfl) (fun _ _ _ h => h) (Or.inl ⟨by rfl, ?_⟩) ?_
            rotate_left
            · intro w
              go_simp
              try with_reducible rfl
            refine wpAny_take (i := 15) (v := ?_) rfl (by kernel_rfl) (by kernel_rfl) (by kernel_rfl) (fun _ _ _ h => h) (Or.inl ⟨by rfl, ?_⟩) ?_
            rotate_left
            · intro w
              go_simp
              try with_reducible rfl
            refine wpAny_take (i := 16) (v := ?_) rfl (by kernel_rfl) (by kernel_rfl) (by kernel_rfl) (fun _ _ _ h => h) (Or.inl ⟨by rfl, ?_⟩) ?_
            rotate_left
            · intro w
              go_simp
              try with_reducible rfl
            refine wpAny_take (i := 17) (v := ?_) rfl (by kernel_rfl) (by kernel_rfl) (by kernel_rfl) (fun _ _ _ h => h) (Or.inl ⟨by rfl, ?_⟩) ?_
            rotate_left
            · intro w
              go_simp
              try with_reducible rfl
            refine wpAny_take (i := 18) (v := ?_) rfl (by kernel_rfl) (by kernel_rfl) (by kernel_rfl) (fun _ _ _ h => h) (Or.inl ⟨by rfl, ?_⟩) ?_
            rotate_left
            · intro w
              go_simp
              try with_reducible rfl
            refine wpAny_take (i := 19) (v := ?_) rfl (by kernel_rfl) (by kernel_rfl) (by kernel_rfl) (fun _ _ _ h => h) (Or.inl ⟨by rfl, ?_⟩) ?_
            rotate_left
            · intro w
              go_simp
              try with_reducible rfl
            refine wpAny_take (i := 20) (v := ?_) rfl (by kernel_rfl) (by kernel_rfl) (by kernel_rfl) (fun _ _ _ h => h) (Or.inl ⟨by rfl, ?_⟩) ?_
            rotate_left
            · intro w
              go_simp
              try with_reducible rfl
            refine wpAny_take (i := 21) (v := ?_) rfl (by kernel_rfl) (by kernel_rfl) (by kernel_rfl) (fun _ _ _ h => h) (Or.inl ⟨by rfl, ?_⟩) ?_
            rotate_left
            · intro w
              go_simp
              try with_reducible rfl
            refine wpAny_take (i := 22) (v := ?_) rfl (by kernel_rfl) (by kernel_rfl) (by kernel_rfl) (fun _ _ _ h => h) (Or.inl ⟨by rfl, ?_⟩) ?_
            rotate_left
            · intro w
              go_simp
              try with_reducible rfl
            refine wpAny_take (i := 23) (v := ?_) rfl (by kernel_rfl) (by kernel_rfl) (by kernel_rfl) (fun _ _ _ h => h) (Or.inl ⟨by rfl, ?_⟩) ?_
            rotate_left
            · intro w
              go_simp
              try with_reducible rfl
            refine wpAny_take (i := 24) (v := ?_) rfl (by kernel_rfl) (by kernel_rfl) (by kernel_rfl) (fun _ _ _ h => h) (Or.inl ⟨by rfl, ?_⟩) ?_
            rotate_left
            · intro w
              go_simp
              try with_reducible rfl
            refine wpAny_take (i := 25) (v := ?_) rfl (by kernel_rfl) (by kernel_rfl) (by kernel_rfl) (fun _ _ _ h => h) (Or.inl ⟨by rfl, ?_⟩) ?_
            rotate_left
            · intro w
              go_simp
              try with_reducible rfl
            refine wpAny_take (i := 26) (v := ?_) rfl (by kernel_rfl) (by kernel_rfl) (by kernel_rfl) (fun _ _ _ h => h) (Or.inl ⟨by rfl, ?_⟩) ?_
            rotate_left
            · intro w
              go_simp
              try with_reducible rfl
            refine wpAny_take (i := 27) (v := ?_) rfl (by kernel_rfl) (by kernel_rfl) (by kernel_rfl) (fun _ _ _ h => h) (Or.inl ⟨by rfl, ?_⟩) ?_
            rotate_left
            · intro w
              go_simp
              try with_reducible rfl
            refine wpAny_take (i := 28) (v := ?_) rfl (by kernel_rfl) (by kernel_rfl) (by kernel_rfl) (fun _ _ _ h => h) (Or.inl ⟨by rfl, ?_⟩) ?_
            rotate_left
            · intro w
              go_simp
              try with_reducible rfl
            refine wpAny_take (i := 29) (v := ?_) rfl (by kernel_rfl) (by kernel_rfl) (by kernel_rfl) (fun _ _ _ h => h) (Or.inl ⟨by rfl, ?_⟩) ?_
            rotate_left
            · intro w
              go_simp
              try with_reducible rfl
            refine wpAny_take (i := 30) (v := ?_) rfl (by kernel_rfl) (by kernel_rfl) (by kernel_rfl) (fun _ _ _ h => h) (Or.inl ⟨by rfl, ?_⟩) ?_
            rotate_left
            · intro w
              go_simp
              try with_reducible rfl
            refine wpAny_take (i := 31) (v := ?_) rfl (by kernel_rfl) (by kernel_rfl) (by kernel_rfl) (fun _ _ _ h => h) (Or.inl ⟨by rfl, ?_⟩) ?_
            rotate_left
            · intro w
              go_simp
              try with_reducible rfl
            refine wpAny_take (i := 32) (v := ?_) rfl (by kernel_rfl) (by kernel_rfl) (by kernel_rfl) (fun _ _ _ h => h) (Or.inl ⟨by rfl, ?_⟩) ?_
            rotate_left
            · intro w
              go_simp
              try with_reducible rfl
            refine wpAny_ready (rs := [33]) (by kernel_rfl) (by simp) ?_
            refine AllReady.cons rfl (fun K hK => ?_) AllReady.nil
            go_simp
            refine hK _ _ ?_
            clear hK K
            refine wpAny_ready (rs := [34]) (by kernel_rfl) (by simp) ?_
            refine AllReady.cons rfl (fun K hK => ?_) AllReady.nil
            go_simp
            refine hK _ _ ?_
            clear hK K
            refine wpAny_done (by kernel_rfl) ?_ _
            clear p0 p1 p2 p3 m0 m1 q0 q1 v1 v2 v3 k0 k1 k2 k3
            by_cases h8s : (s.size : Int) - (a : Int) < 8
            · have HC : Hid (R = (1, [])) := RD.out.symm.trans (rd_cut (by omega) hend (by have := hz.out; omega))
              obtain ⟨hl0, hc0, hb0⟩ := HF.out.1 (by rw [HC.out]; decide)
              rw [HC.out] at hc0
              subst hl0 hc0 hb0
              clear hyy
              go_wp2
              go_ret3
              exact read_nil 1 (Below.tr B2.out (below1 wr _).drew)
            · have k7 : ∀ w, (Instr.index 9 (.string s) (.int .i64 ((a : Int) + 7))).run Try.prog w = .ok (.int .u8 (byteAt s (a + 7))) w := fun w => by
                have := index_run s (a + 7) (by have := HSS.out; omega) w
                rw [show (((a + 7 : Nat)) : Int) = (a : Int) + 7 from by omega] at this; exact this
              have b7 := byteAt_bd s (a + 7)
              generalize byteAt s (a + 7) = c7 at *
              have p7 : IntKind.i64.wrap c7 = c7 := IntWalk.i64_in _ (by omega)
              have v7 : IntKind.i64.wrap ((a : Int) + 7) = (a : Int) + 7 := IntWalk.i64_in _ (by omega)
              have r1 : IntKind.i64.wrap (256 * c7) = 256 * c7 := IntWalk.i64_in _ (by omega)
              have r2 : IntKind.i64.wrap (c3 + 256 * c7) = c3 + 256 * c7 := IntWalk.i64_in _ (by omega)
              have HY := Lib.hid hyy
              clear hyy
              have HNC : Hid (¬ s.size - a < szA s a) := by have := HSS.out; have := hz.out; show ¬ s.size - a < szA s a; omega
              obtain ⟨u, huu⟩ : ∃ u, cutA s a = u := ⟨_, rfl⟩
              have HU := Lib.hid huu
              have HU' : Hid (s.extract a (a + 8) = u) := by
                show s.extract a (a + 8) = u
                rw [← huu, cutA, hz.out]
              clear huu
              go_wp2_with fail
              refine wp_region_any (by kernel_rfl) ?_
              change wpAny _ _ _ _ _ _ _ (World.drew _)
              refine wpAny_take (i := 0) (v := ?_) rfl (by kernel_rfl) (by kernel_rfl) (by kernel_rfl) (fun _ _ _ h => h) (Or.inl ⟨by rfl, ?_⟩) ?_
              rotate_left
              · intro w
                go_simp
                try with_reducible rfl
              refine wpAny_take (i := 2) (v := ?_) rfl (by kernel_rfl) (by kernel_rfl) (by kernel_rfl) (fun _ _ _ h => h) (Or.inl ⟨by rfl, ?_⟩) ?_
              rotate_left
              · intro w
                go_simp
                try with_reducible rfl
              refine wpAny_take (i := 3) (v := ?_) rfl (by kernel_rfl) (by kernel_rfl) (by kernel_rfl) (fun _ _ _ h => h) (Or.inl ⟨by rfl, ?_⟩) ?_
              rotate_left
              · intro w
                go_simp
                try with_reducible rfl
              refine wpAny_take (i := 4) (v := ?_) rfl (by kernel_rfl) (by kernel_rfl) (by kernel_rfl) (fun _ _ _ h => h) (Or.inl ⟨by rfl, ?_⟩) ?_
              rotate_left
              · intro w
                go_simp
                try with_reducible rfl
              refine wpAny_take (i := 5) (v := ?_) rfl (by kernel_rfl) (by kernel_rfl) (by kernel_rfl) (fun _ _ _ h => h) (Or.inl ⟨by rfl, ?_⟩) ?_
              rotate_left
              · intro w
                go_simp
                try with_reducible rfl
              refine wpAny_take (i := 6) (v := ?_) rfl (by kernel_rfl) (by kernel_rfl) (by kernel_rfl) (fun _ _ _ h => h) (Or.inl ⟨by rfl, ?_⟩) ?_
              rotate_left
              · intro w
                go_simp
                try with_reducible rfl
              refine wpAny_take (i := 7) (v := ?_) rfl (by kernel_rfl) (by kernel_rfl) (by kernel_rfl) (fun _ _ _ h => h) (Or.inl ⟨by rfl, ?_⟩) ?_
              rotate_left
              · intro w
                go_simp
                try with_reducible rfl
              refine wpAny_ready (rs := [1]) (by kernel_rfl) (by simp) ?_
              refine AllReady.cons rfl (fun K hK => ?_) AllReady.nil
              go_simp
              refine hK _ _ ?_
              clear hK K
              refine wpAny_take (i := 8) (v := ?_) rfl (by kernel_rfl) (by kernel_rfl) (by kernel_rfl) (fun _ _ _ h => h) (Or.inl ⟨by rfl, ?_⟩) ?_
              rotate_left
              · intro w
                go_simp
                try with_reducible rfl
              refine wpAny_take (i := 9) (v := ?_) rfl (by kernel_rfl) (by kernel_rfl) (by kernel_rfl) (fun _ _ _ h => h) (Or.inl ⟨by rfl, ?_⟩) ?_
              rotate_left
              · intro w
                go_simp
                try with_reducible rfl
              refine wpAny_ready (rs := [10]) (by kernel_rfl) (by simp) ?_
              refine AllReady.cons rfl (fun K hK => ?_) AllReady.nil
              go_simp
              refine hK _ _ ?_
              clear hK K
              refine wpAny_done (by kernel_rfl) ?_ _
              clear p7 v7 k7 r1 r2
              have HBX := Lib.hid (box_drew (box_drew (box_new wr 36 (c0 % 16) (c0 / 16) (c1 / 16) (c1 % 16) (c3 + 256 * c7) c2)))
              go_wp2_with fail
              cases hok : okB (c0 % 16) (c0 / 16) (c1 / 16) (c1 % 16) (c3 + 256 * c7) c2
              · have HBAD : Hid (okA s a = false) := okA_no HY.out HU.out (Or.inl hok)
                have HC : Hid (R = (2, [])) := RD.out.symm.trans (rd_bad (by omega) hend HNC.out HBAD.out)
                obtain ⟨hl0, hc0, hb0⟩ := HF.out.1 (by rw [HC.out]; decide)
                rw [HC.out] at hc0
                subst hl0 hc0 hb0
                have HOKV := Lib.hid hok
                clear hok
                refine wp_region_any (by kernel_rfl) ?_
                change wpAny _ _ _ _ _ _ _ (World.drew _)
                refine wpAny_ready (rs := [0]) (by kernel_rfl) (by simp) ?_
                refine AllReady.cons rfl (fun K hK => ?_) AllReady.nil
                go_simp
                refine hK _ _ ?_
                clear hK K
                refine wpAny_ready (rs := [1]) (by kernel_rfl) (by simp) ?_
                refine AllReady.cons rfl (fun K hK => ?_) AllReady.nil
                go_simp
                go_at_call 43
                refine (l2Step_any _ _ _ _ _ _ _).mono ?_
                rintro e w3 ⟨rfl, hb3⟩
                have H3 := Lib.hid (box_keep (box_drew HBX.out) hb3)
                obtain ⟨-, z3, d0, d1, d2, d3, d4, d5⟩ := H3.out
                clear hb3
                rw [HOKV.out]
                go_simp
                refine hK _ _ ?_
                clear hK K
                refine wpAny_take (i := 2) (v := ?_) rfl (by kernel_rfl) (by kernel_rfl) (by kernel_rfl) (fun _ _ _ h => h) (Or.inl ⟨by rfl, ?_⟩) ?_
                rotate_left
                · intro w
                  go_simp
                  try with_reducible rfl
                refine wpAny_take (i := 3) (v := ?_) rfl (by kernel_rfl) (by kernel_rfl) (by kernel_rfl) (fun _ _ _ h => h) (Or.inl ⟨by rfl, ?_⟩) ?_
                rotate_left
                · intro w
                  go_simp
                  try with_reducible rfl
                refine wpAny_take (i := 4) (v := undef) rfl (by kernel_rfl) (by kernel_rfl) (by kernel_rfl) (fun _ _ _ h => h) (Or.inr ⟨by kernel_rfl, rfl⟩) ?_
                refine wpAny_take (i := 5) (v := undef) rfl (by kernel_rfl) (by kernel_rfl) (by kernel_rfl) (fun _ _ _ h => h) (Or.inr ⟨by kernel_rfl, rfl⟩) ?_
                refine wpAny_take (i := 6) (v := undef) rfl (by kernel_rfl) (by kernel_rfl) (by kernel_rfl) (fun _ _ _ h => h) (Or.inr ⟨by kernel_rfl, rfl⟩) ?_
                refine wpAny_take (i := 7) (v := undef) rfl (by kernel_rfl) (by kernel_rfl) (by kernel_rfl) (fun _ _ _ h => h) (Or.inr ⟨by kernel_rfl, rfl⟩) ?_
                refine wpAny_take (i := 8) (v := undef) rfl (by kernel_rfl) (by kernel_rfl) (by kernel_rfl) (fun _ _ _ h => h) (Or.inr ⟨by kernel_rfl, rfl⟩) ?_
                refine wpAny_take (i := 9) (v := undef) rfl (by kernel_rfl) (by kernel_rfl) (by kernel_rfl) (fun _ _ _ h => h) (Or.inr ⟨by kernel_rfl, rfl⟩) ?_
                refine wpAny_take (i := 10) (v := undef) rfl (by kernel_rfl) (by kernel_rfl) (by kernel_rfl) (fun _ _ _ h => h) (Or.inr ⟨by kernel_rfl, rfl⟩) ?_
                refine wpAny_take (i := 11) (v := undef) rfl (by kernel_rfl) (by kernel_rfl) (by kernel_rfl) (fun _ _ _ h => h) (Or.inr ⟨by kernel_rfl, rfl⟩) ?_
                refine wpAny_take (i := 12) (v := undef) rfl (by kernel_rfl) (by kernel_rfl) (by kernel_rfl) (fun _ _ _ h => h) (Or.inr ⟨by kernel_rfl, rfl⟩) ?_
                refine wpAny_ready (rs := [13]) (by kernel_rfl) (by simp) ?_
                refine AllReady.cons rfl (fun K hK => ?_) AllReady.nil
                go_simp
                refine hK _ _ ?_
                clear hK K
                refine wpAny_done (by kernel_rfl) ?_ _
                go_wp2
                go_ret3
                exact read_nil 2 (Below.tr B2.out H3.out.1)
              · have HOK : Hid (okP (c0 % 16) (c0 / 16) (c1 / 16) (c1 % 16) (c3 + 256 * c7) c2) := okB_yes hok
                have HOKV := Lib.hid hok
                clear hok
                have hsl := slice_run s a 8 (by have := HSS.out; omega)
                rw [HU'.out] at hsl
                have hsl' : ∀ w, (Instr.slice 9 (.string s) (some (.int .i64 (a : Int))) (some (.int .i64 ((a : Int) + 8))) none).run Try.prog w = .ok (.string u) w := hsl
                clear hsl
                have vzz : IntKind.i64.wrap ((a : Int) + 8) = (a : Int) + 8 := IntWalk.i64_in _ (by omega)
                by_cases henc : encS (c0 % 16) (c0 / 16) (c1 / 16) (c1 % 16) (c3 + 256 * c7) c2 = u
                · have hq : ((encS (c0 % 16) (c0 / 16) (c1 / 16) (c1 % 16) (c3 + 256 * c7) c2).toList == u.toList) = true := by rw [henc]; exact beq_self_eq_true _
                  have HGOOD : Hid (okA s a = true) := okA_yes HY.out HU.out HOKV.out ((sbS_yes HOKV.out).symm.trans henc)
                  have HC : Hid (rdF s (f - 1) (a + 8) (ys ++ [(⟨c0 % 16, c0 / 16, c1 / 16, c1 % 16, (c3 + 256 * c7), c2⟩ : Stp)]) = R) := by
                    have := rd_next (ys := ys) (f := f) (by omega) hend HNC.out HGOOD.out
                    rw [hz.out, HY.out] at this
                    exact this.symm.trans RD.out
                  have HN := Lib.hid (cells_one (⟨c0 % 16, c0 / 16, c1 / 16, c1 % 16, (c3 + 256 * c7), c2⟩ : Stp))
                  clear henc
                  refine wp_region_any (by kernel_rfl) ?_
                  change wpAny _ _ _ _ _ _ _ (World.drew _)
                  refine wpAny_ready (rs := [0]) (by kernel_rfl) (by simp) ?_
                  refine AllReady.cons rfl (fun K hK => ?_) AllReady.nil
                  go_simp
                  refine hK _ _ ?_
                  clear hK K
                  refine wpAny_ready (rs := [1]) (by kernel_rfl) (by simp) ?_
                  refine AllReady.cons rfl (fun K hK => ?_) AllReady.nil
                  go_simp
                  go_at_call 43
                  refine (l2Step_any _ _ _ _ _ _ _).mono ?_
                  rintro e w3 ⟨rfl, hb3⟩
                  have H3 := Lib.hid (box_keep (box_drew HBX.out) hb3)
                  obtain ⟨-, z3, d0, d1, d2, d3, d4, d5⟩ := H3.out
                  clear hb3
                  rw [HOKV.out]
                  go_simp
                  refine hK _ _ ?_
                  clear hK K
                  refine wpAny_take (i := 2) (v := ?_) rfl (by kernel_rfl) (by kernel_rfl) (by kernel_rfl) (fun _ _ _ h => h) (Or.inl ⟨by rfl, ?_⟩) ?_
                  rotate_left
                  · intro w
                    go_simp
                    try with_reducible rfl
                  refine wpAny_take (i := 3) (v := ?_) rfl (by kernel_rfl) (by kernel_rfl) (by kernel_rfl) (fun _ _ _ h => h) (Or.inl ⟨by rfl, ?_⟩) ?_
                  rotate_left
                  · intro w
                    go_simp
                    try with_reducible rfl
                  refine wpAny_take (i := 6) (v := ?_) rfl (by kernel_rfl) (by kernel_rfl) (by kernel_rfl) (fun _ _ _ h => h) (Or.inl ⟨by kernel_rfl, ?_⟩) ?_
                  rotate_left
                  · intro w
                    go_simp
                    try with_reducible rfl
                  refine wpAny_take (i := 7) (v := ?_) rfl (by kernel_rfl) (by kernel_rfl) (by kernel_rfl) (fun _ _ _ h => h) (Or.inl ⟨by kernel_rfl, ?_⟩) ?_
                  rotate_left
                  · intro w
                    go_simp
                    try with_reducible rfl
                  refine wpAny_take (i := 8) (v := ?_) rfl (by kernel_rfl) (by kernel_rfl) (by kernel_rfl) (fun _ _ _ h => h) (Or.inl ⟨by kernel_rfl, ?_⟩) ?_
                  rotate_left
                  · intro w
                    go_simp
                    try with_reducible rfl
                  refine wpAny_take (i := 9) (v := ?_) rfl (by kernel_rfl) (by kernel_rfl) (by kernel_rfl) (fun _ _ _ h => h) (Or.inl ⟨by kernel_rfl, ?_⟩) ?_
                  rotate_left
                  · intro w
                    go_simp
                    try with_reducible rfl
                  refine wpAny_take (i := 10) (v := ?_) rfl (by kernel_rfl) (by kernel_rfl) (by kernel_rfl) (fun _ _ _ h => h) (Or.inl ⟨by kernel_rfl, ?_⟩) ?_
                  rotate_left
                  · intro w
                    go_simp
                    try with_reducible rfl
                  refine wpAny_take (i := 11) (v := ?_) rfl (by kernel_rfl) (by kernel_rfl) (by kernel_rfl) (fun _ _ _ h => h) (Or.inl ⟨by kernel_rfl, ?_⟩) ?_
                  rotate_left
                  · intro w
                    go_simp
                    try with_reducible rfl
                  refine wpAny_ready (rs := [4]) (by kernel_rfl) (by simp) ?_
                  refine BigFrame.allReady_want rfl (by kernel_rfl) (fun K hK => ?_) AllReady.nil
                  go_simp
                  refine hK _ _ ?_
                  clear hK K
                  refine wpAny_ready (rs := [5]) (by kernel_rfl) (by simp) ?_
                  refine BigFrame.allReady_want rfl (by kernel_rfl) (fun K hK => ?_) AllReady.nil
                  go_simp
                  go_at_call 35
                  refine (l2Bytes_any _ _ _ _ _ _ _ HOK.out).mono ?_
                  rintro e w4 ⟨rfl, hb4⟩
                  have H4 := Lib.hid (box_keep H3.out hb4)
                  clear hb4 d0 d1 d2 d3 d4 d5 z3
                  obtain ⟨-, z4, d0, d1, d2, d3, d4, d5⟩ := H4.out
                  go_simp
                  refine hK _ _ ?_
                  clear hK K
                  refine wpAny_take (i := 12) (v := ?_) rfl (by kernel_rfl) (by kernel_rfl) (by kernel_rfl) (fun _ _ _ h => h) (Or.inl ⟨by kernel_rfl, ?_⟩) ?_
                  rotate_left
                  · intro w
                    go_simp
                    try with_reducible rfl
                  refine wpAny_ready (rs := [13]) (by kernel_rfl) (by simp) ?_
                  refine AllReady.cons rfl (fun K hK => ?_) AllReady.nil
                  go_simp
                  refine hK _ _ ?_
                  clear hK K
                  refine wpAny_done (by kernel_rfl) ?_ _
                  have O4 := Lib.hid (own_below O2.out H4.out.1)
                  have B4 := Lib.hid (Below.tr B2.out H4.out.1)
                  clear hq hsl' vzz
                  go_wp2_with (at_builtin; (refine wpList_append_lies _ rfl _ _ 23 rfl w.heap.size 36 i0 _ 6 48 Try.underlying23 hi0 hz0 hz1 hz2 rfl (by omega) _ ys.length _ rfl (O4.out.alloc _) ⟨w4.heap.size, 0, none⟩ 1 1 (⟨c0 % 16, c0 / 16, c1 / 16, c1 % 16, (c3 + 256 * c7), c2⟩ : Stp).cells rfl rfl (by exact World.news_of_block (heap_alloc_new w4 _)) HN.out (by omega) (by unfold maxLen; omega) (by omega) (by have := B4.out.size; first | omega | (simp; omega)) (w4.heap.size + 1) (by first | rfl | simp) ?_; intro g3 cap3 w5 hown3 hg3 hat3 hlt3; have H5 := Lib.hid (gotS_step (y := (⟨c0 % 16, c0 / 16, c1 / 16, c1 % 16, (c3 + 256 * c7), c2⟩ : Stp)) O4.out hown3 hg3 B4.out); clear hown3 hg3 hat3 hlt3))
                  go_roundw
                  case rel => exact ⟨a + 8, ys ++ [(⟨c0 % 16, c0 / 16, c1 / 16, c1 % 16, (c3 + 256 * c7), c2⟩ : Stp)], by go_num, ⟨by have := HSS.out; omega, ⟨f - 1, by have := HSS.out; omega, HC.out⟩, by simp; omega, H5.out.1⟩, H5.out.2⟩
                  case measure => simp [intOf]; omega
                · have hq := str_ne henc
                  have HBAD : Hid (okA s a = false) := okA_no HY.out HU.out (Or.inr (fun e => henc ((sbS_yes HOKV.out).trans e)))
                  have HC : Hid (R = (2, [])) := RD.out.symm.trans (rd_bad (by omega) hend HNC.out HBAD.out)
                  obtain ⟨hl0, hc0, hb0⟩ := HF.out.1 (by rw [HC.out]; decide)
                  rw [HC.out] at hc0
                  subst hl0 hc0 hb0
                  clear henc
                  refine wp_region_any (by kernel_rfl) ?_
                  change wpAny _ _ _ _ _ _ _ (World.drew _)
                  refine wpAny_ready (rs := [0]) (by kernel_rfl) (by simp) ?_
                  refine AllReady.cons rfl (fun K hK => ?_) AllReady.nil
                  go_simp
                  refine hK _ _ ?_
                  clear hK K
                  refine wpAny_ready (rs := [1]) (by kernel_rfl) (by simp) ?_
                  refine AllReady.cons rfl (fun K hK => ?_) AllReady.nil
                  go_simp
                  go_at_call 43
                  refine (l2Step_any _ _ _ _ _ _ _).mono ?_
                  rintro e w3 ⟨rfl, hb3⟩
                  have H3 := Lib.hid (box_keep (box_drew HBX.out) hb3)
                  obtain ⟨-, z3, d0, d1, d2, d3, d4, d5⟩ := H3.out
                  clear hb3
                  rw [HOKV.out]
                  go_simp
                  refine hK _ _ ?_
                  clear hK K
                  refine wpAny_take (i := 2) (v := ?_) rfl (by kernel_rfl) (by kernel_rfl) (by kernel_rfl) (fun _ _ _ h => h) (Or.inl ⟨by rfl, ?_⟩) ?_
                  rotate_left
                  · intro w
                    go_simp
                    try with_reducible rfl
                  refine wpAny_take (i := 3) (v := ?_) rfl (by kernel_rfl) (by kernel_rfl) (by kernel_rfl) (fun _ _ _ h => h) (Or.inl ⟨by rfl, ?_⟩) ?_
                  rotate_left
                  · intro w
                    go_simp
                    try with_reducible rfl
                  refine wpAny_take (i := 6) (v := ?_) rfl (by kernel_rfl) (by kernel_rfl) (by kernel_rfl) (fun _ _ _ h => h) (Or.inl ⟨by kernel_rfl, ?_⟩) ?_
                  rotate_left
                  · intro w
                    go_simp
                    try with_reducible rfl
                  refine wpAny_take (i := 7) (v := ?_) rfl (by kernel_rfl) (by kernel_rfl) (by kernel_rfl) (fun _ _ _ h => h) (Or.inl ⟨by kernel_rfl, ?_⟩) ?_
                  rotate_left
                  · intro w
                    go_simp
                    try with_reducible rfl
                  refine wpAny_take (i := 8) (v := ?_) rfl (by kernel_rfl) (by kernel_rfl) (by kernel_rfl) (fun _ _ _ h => h) (Or.inl ⟨by kernel_rfl, ?_⟩) ?_
                  rotate_left
                  · intro w
                    go_simp
                    try with_reducible rfl
                  refine wpAny_take (i := 9) (v := ?_) rfl (by kernel_rfl) (by kernel_rfl) (by kernel_rfl) (fun _ _ _ h => h) (Or.inl ⟨by kernel_rfl, ?_⟩) ?_
                  rotate_left
                  · intro w
                    go_simp
                    try with_reducible rfl
                  refine wpAny_take (i := 10) (v := ?_) rfl (by kernel_rfl) (by kernel_rfl) (by kernel_rfl) (fun _ _ _ h => h) (Or.inl ⟨by kernel_rfl, ?_⟩) ?_
                  rotate_left
                  · intro w
                    go_simp
                    try with_reducible rfl
                  refine wpAny_take (i := 11) (v := ?_) rfl (by kernel_rfl) (by kernel_rfl) (by kernel_rfl) (fun _ _ _ h => h) (Or.inl ⟨by kernel_rfl, ?_⟩) ?_
                  rotate_left
                  · intro w
                    go_simp
                    try with_reducible rfl
                  refine wpAny_ready (rs := [4]) (by kernel_rfl) (by simp) ?_
                  refine BigFrame.allReady_want rfl (by kernel_rfl) (fun K hK => ?_) AllReady.nil
                  go_simp
                  refine hK _ _ ?_
                  clear hK K
                  refine wpAny_ready (rs := [5]) (by kernel_rfl) (by simp) ?_
                  refine BigFrame.allReady_want rfl (by kernel_rfl) (fun K hK => ?_) AllReady.nil
                  go_simp
                  go_at_call 35
                  refine (l2Bytes_any _ _ _ _ _ _ _ HOK.out).mono ?_
                  rintro e w4 ⟨rfl, hb4⟩
                  have H4 := Lib.hid (box_keep H3.out hb4)
                  clear hb4 d0 d1 d2 d3 d4 d5 z3
                  obtain ⟨-, z4, d0, d1, d2, d3, d4, d5⟩ := H4.out
                  go_simp
                  refine hK _ _ ?_
                  clear hK K
                  refine wpAny_take (i := 12) (v := ?_) rfl (by kernel_rfl) (by kernel_rfl) (by kernel_rfl) (fun _ _ _ h => h) (Or.inl ⟨by kernel_rfl, ?_⟩) ?_
                  rotate_left
                  · intro w
                    go_simp
                    try with_reducible rfl
                  refine wpAny_ready (rs := [13]) (by kernel_rfl) (by simp) ?_
                  refine AllReady.cons rfl (fun K hK => ?_) AllReady.nil
                  go_simp
                  refine hK _ _ ?_
                  clear hK K
                  refine wpAny_done (by kernel_rfl) ?_ _
                  go_wp2
                  go_ret3
                  exact read_nil 2 (Below.tr B2.out H4.out.1)
          · have hz : Hid (szA s a = 4) := if_neg h4
            have hyy : yA s a = ⟨byteAt s a % 16, byteAt s a / 16, byteAt s (a + 1) / 16, byteAt s (a + 1) % 16, byteAt s (a + 3), byteAt s (a + 2)⟩ := by rw [yA, if_neg h4]
            have h4b : (byteAt s a % 16 == 4) = false := by simp [h4]
            clear h4
            have k0 : ∀ w, (Instr.index 9 (.string s) (.int .i64 (a : Int))).run Try.prog w = .ok (.int .u8 (byteAt s (a))) w := fun w => by
              have := index_run s (a) (by have := HSS.out; omega) w
              exact this
            have b0 := byteAt_bd s (a)
            generalize byteAt s (a) = c0 at *
            have p0 : IntKind.i64.wrap c0 = c0 := IntWalk.i64_in _ (by omega)
            have k1 : ∀ w, (Instr.index 9 (.string s) (.int .i64 ((a : Int) + 1))).run Try.prog w = .ok (.int .u8 (byteAt s (a + 1))) w := fun w => by
              have := index_run s (a + 1) (by have := HSS.out; omega) w
              rw [show (((a + 1 : Nat)) : Int) = (a : Int) + 1 from by omega] at this; exact this
            have b1 := byteAt_bd s (a + 1)
            generalize byteAt s (a + 1) = c1 at *
            have p1 : IntKind.i64.wrap c1 = c1 := IntWalk.i64_in _ (by omega)
            have v1 : IntKind.i64.wrap ((a : Int) + 1) = (a : Int) + 1 := IntWalk.i64_in _ (by omega)
            have k2 : ∀ w, (Instr.index 9 (.string s) (.int .i64 ((a : Int) + 2))).run Try.prog w = .ok (.int .u8 (byteAt s (a + 2))) w := fun w => by
              have := index_run s (a + 2) (by have := HSS.out; omega) w
              rw [show (((a + 2 : Nat)) : Int) = (a : Int) + 2 from by omega] at this; exact this
            have b2 := byteAt_bd s (a + 2)
            generalize byteAt s (a + 2) = c2 at *
            have p2 : IntKind.i64.wrap c2 = c2 := IntWalk.i64_in _ (by omega)
            have v2 : IntKind.i64.wrap ((a : Int) + 2) = (a : Int) + 2 := IntWalk.i64_in _ (by omega)
            have k3 : ∀ w, (Instr.index 9 (.string s) (.int .i64 ((a : Int) + 3))).run Try.prog w = .ok (.int .u8 (byteAt s (a + 3))) w := fun w => by
              have := index_run s (a + 3) (by have := HSS.out; omega) w
              rw [show (((a + 3 : Nat)) : Int) = (a : Int) + 3 from by omega] at this; exact this
            have b3 := byteAt_bd s (a + 3)
            generalize byteAt s (a + 3) = c3 at *
            have p3 : IntKind.i64.wrap c3 = c3 := IntWalk.i64_in _ (by omega)
            have v3 : IntKind.i64.wrap ((a : Int) + 3) = (a : Int) + 3 := IntWalk.i64_in _ (by omega)
            have m0 : c0.tmod 16 = c0 % 16 := Int.tmod_eq_emod_of_nonneg (by omega)
            have q0 : IntKind.i64.wrap (c0.tdiv 16) = c0 / 16 := by rw [Int.tdiv_eq_ediv_of_nonneg (by omega)]; exact IntWalk.i64_in _ (by omega)
            have m1 : c1.tmod 16 = c1 % 16 := Int.tmod_eq_emod_of_nonneg (by omega)
            have q1 : IntKind.i64.wrap (c1.tdiv 16) = c1 / 16 := by rw [Int.tdiv_eq_ediv_of_nonneg (by omega)]; exact IntWalk.i64_in _ (by omega)
            have HY := Lib.hid hyy
            clear hyy
            have HNC : Hid (¬ s.size - a < szA s a) := by have := HSS.out; have := hz.out; show ¬ s.size - a < szA s a; omega
            obtain ⟨u, huu⟩ : ∃ u, cutA s a = u := ⟨_, rfl⟩
            have HU := Lib.hid huu
            have HU' : Hid (s.extract a (a + 4) = u) := by
              show s.extract a (a + 4) = u
              rw [← huu, cutA, hz.out]
            clear huu
            go_wp2_with fail
            refine wp_region_any (by kernel_rfl) ?_
            change wpAny _ _ _ _ _ _ _ (World.drew _)
            refine wpAny_take (i := 0) (v := ?_) rfl (by kernel_rfl) (by kernel_rfl) (by kernel_rfl) (fun _ _ _ h => h) (Or.inl ⟨by rfl, ?_⟩) ?_
            rotate_left
            · intro w
              go_simp
              try with_reducible rfl
            refine wpAny_take (i := 1) (v := ?_) rfl (by kernel_rfl) (by kernel_rfl) (by kernel_rfl) (fun _ _ _ h => h) (Or.inl ⟨by rfl, ?_⟩) ?_
            rotate_left
            · intro w
              go_simp
              try with_reducible rfl
            refine wpAny_take (i := 2) (v := ?_) rfl (by kernel_rfl) (by kernel_rfl) (by kernel_rfl) (fun _ _ _ h => h) (Or.inl ⟨by rfl, ?_⟩) ?_
            rotate_left
            · intro w
              go_simp
              try with_reducible rfl
            refine wpAny_take (i := 3) (v := ?_) rfl (by kernel_rfl) (by kernel_rfl) (by kernel_rfl) (fun _ _ _ h => h) (Or.inl ⟨by rfl, ?_⟩) ?_
            rotate_left
            · intro w
              go_simp
              try with_reducible rfl
            refine wpAny_take (i := 4) (v := ?_) rfl (by kernel_rfl) (by kernel_rfl) (by kernel_rfl) (fun _ _ _ h => h) (Or.inl ⟨by rfl, ?_⟩) ?_
            rotate_left
            · intro w
              go_simp
              try with_reducible rfl
            refine wpAny_take (i := 5) (v := ?_) rfl (by kernel_rfl) (by kernel_rfl) (by kernel_rfl) (fun _ _ _ h => h) (Or.inl ⟨by rfl, ?_⟩) ?_
            rotate_left
            · intro w
              go_simp
              try with_reducible rfl
            refine wpAny_take (i := 6) (v := ?_) rfl (by kernel_rfl) (by kernel_rfl) (by kernel_rfl) (fun _ _ _ h => h) (Or.inl ⟨by rfl, ?_⟩) ?_
            rotate_left
            · intro w
              go_simp
              try with_reducible rfl
            refine wpAny_take (i := 7) (v := ?_) rfl (by kernel_rfl) (by kernel_rfl) (by kernel_rfl) (fun _ _ _ h => h) (Or.inl ⟨by rfl, ?_⟩) ?_
            rotate_left
            · intro w
              go_simp
              try with_reducible rfl
            refine wpAny_take (i := 8) (v := ?_) rfl (by kernel_rfl) (by kernel_rfl) (by kernel_rfl) (fun _ _ _ h => h) (Or.inl ⟨by rfl, ?_⟩) ?_
            rotate_left
            · intro w
              go_simp
              try with_reducible rfl
            refine wpAny_take (i := 9) (v := ?_) rfl (by kernel_rfl) (by kernel_rfl) (by kernel_rfl) (fun _ _ _ h => h) (Or.inl ⟨by rfl, ?_⟩) ?_
            rotate_left
            · intro w
              go_simp
              try with_reducible rfl
            refine wpAny_take (i := 10) (v := ?_) rfl (by kernel_rfl) (by kernel_rfl) (by kernel_rfl) (fun _ _ _ h => h) (Or.inl ⟨by rfl, ?_⟩) ?_
            rotate_left
            · intro w
              go_simp
              try with_reducible rfl
            refine wpAny_take (i := 11) (v := ?_) rfl (by kernel_rfl) (by kernel_rfl) (by kernel_rfl) (fun _ _ _ h => h) (Or.inl ⟨by rfl, ?_⟩) ?_
            rotate_left
            · intro w
              go_simp
              try with_reducible rfl
            refine wpAny_take (i := 12) (v := ?_) rfl (by kernel_rfl) (by kernel_rfl) (by kernel_rfl) (fun _ _ _ h => h) (Or.inl ⟨by rfl, ?_⟩) ?_
            rotate_left
            · intro w
              go_simp
              try with_reducible rfl
            refine wpAny_take (i := 13) (v := ?_) rfl (by kernel_rfl) (by kernel_rfl) (by kernel_rfl) (fun _ _ _ h => h) (Or.inl ⟨by rfl, ?_⟩) ?_
            rotate_left
            · intro w
              go_simp
              try with_reducible rfl
            refine wpAny_take (i := 14) (v := ?_) rfl (by kernel_rfl) (by kernel_rfl) (by kernel_rfl) (fun _ _ _ h => h) (Or.inl ⟨by rfl, ?_⟩) ?_
            rotate_left
            · intro w
              go_simp
              try with_reducible rfl
            refine wpAny_take (i := 15) (v := ?_) rfl (by kernel_rfl) (by kernel_rfl) (by kernel_rfl) (fun _ _ _ h => h) (Or.inl ⟨by rfl, ?_⟩) ?_
            rotate_left
            · intro w
              go_simp
              try with_reducible rfl
            refine wpAny_take (i := 16) (v := ?_) rfl (by kernel_rfl) (by kernel_rfl) (by kernel_rfl) (fun _ _ _ h => h) (Or.inl ⟨by rfl, ?_⟩) ?_
            rotate_left
            · intro w
              go_simp
              try with_reducible rfl
            refine wpAny_take (i := 17) (v := ?_) rfl (by kernel_rfl) (by kernel_rfl) (by kernel_rfl) (fun _ _ _ h => h) (Or.inl ⟨by rfl, ?_⟩) ?_
            rotate_left
            · intro w
              go_simp
              try with_reducible rfl
            refine wpAny_take (i := 18) (v := ?_) rfl (by kernel_rfl) (by kernel_rfl) (by kernel_rfl) (fun _ _ _ h => h) (Or.inl ⟨by rfl, ?_⟩) ?_
            rotate_left
            · intro w
              go_simp
              try with_reducible rfl
            refine wpAny_take (i := 19) (v := ?_) rfl (by kernel_rfl) (by kernel_rfl) (by kernel_rfl) (fun _ _ _ h => h) (Or.inl ⟨by rfl, ?_⟩) ?_
            rotate_left
            · intro w
              go_simp
              try with_reducible rfl
            refine wpAny_take (i := 20) (v := ?_) rfl (by kernel_rfl) (by kernel_rfl) (by kernel_rfl) (fun _ _ _ h => h) (Or.inl ⟨by rfl, ?_⟩) ?_
            rotate_left
            · intro w
              go_simp
              try with_reducible rfl
            refine wpAny_take (i := 21) (v := ?_) rfl (by kernel_rfl) (by kernel_rfl) (by kernel_rfl) (fun _ _ _ h => h) (Or.inl ⟨by rfl, ?_⟩) ?_
            rotate_left
            · intro w
              go_simp
              try with_reducible rfl
            refine wpAny_take (i := 22) (v := ?_) rfl (by kernel_rfl) (by kernel_rfl) (by kernel_rfl) (fun _ _ _ h => h) (Or.inl ⟨by rfl, ?_⟩) ?_
            rotate_left
            · intro w
              go_simp
              try with_reducible rfl
            refine wpAny_take (i := 23) (v := ?_) rfl (by kernel_rfl) (by kernel_rfl) (by kernel_rfl) (fun _ _ _ h => h) (Or.inl ⟨by rfl, ?_⟩) ?_
            rotate_left
            · intro w
              go_simp
              try with_reducible rfl
            refine wpAny_take (i := 24) (v := ?_) rfl (by kernel_rfl) (by kernel_rfl) (by kernel_rfl) (fun _ _ _ h => h) (Or.inl ⟨by rfl, ?_⟩) ?_
            rotate_left
            · intro w
              go_simp
              try with_reducible rfl
            refine wpAny_take (i := 25) (v := ?_) rfl (by kernel_rfl) (by kernel_rfl) (by kernel_rfl) (fun _ _ _ h => h) (Or.inl ⟨by rfl, ?_⟩) ?_
            rotate_left
            · intro w
              go_simp
              try with_reducible rfl
            refine wpAny_take (i := 26) (v := ?_) rfl (by kernel_rfl) (by kernel_rfl) (by kernel_rfl) (fun _ _ _ h => h) (Or.inl ⟨by rfl, ?_⟩) ?_
            rotate_left
            · intro w
              go_simp
              try with_reducible rfl
            refine wpAny_take (i := 27) (v := ?_) rfl (by kernel_rfl) (by kernel_rfl) (by kernel_rfl) (fun _ _ _ h => h) (Or.inl ⟨by rfl, ?_⟩) ?_
            rotate_left
            · intro w
              go_simp
              try with_reducible rfl
            refine wpAny_take (i := 28) (v := ?_) rfl (by kernel_rfl) (by kernel_rfl) (by kernel_rfl) (fun _ _ _ h => h) (Or.inl ⟨by rfl, ?_⟩) ?_
            rotate_left
            · intro w
              go_simp
              try with_reducible rfl
            refine wpAny_take (i := 29) (v := ?_) rfl (by kernel_rfl) (by kernel_rfl) (by kernel_rfl) (fun _ _ _ h => h) (Or.inl ⟨by rfl, ?_⟩) ?_
            rotate_left
            · intro w
              go_simp
              try with_reducible rfl
            refine wpAny_take (i := 30) (v := ?_) rfl (by kernel_rfl) (by kernel_rfl) (by kernel_rfl) (fun _ _ _ h => h) (Or.inl ⟨by rfl, ?_⟩) ?_
            rotate_left
            · intro w
              go_simp
              try with_reducible rfl
            refine wpAny_take (i := 31) (v := ?_) rfl (by kernel_rfl) (by kernel_rfl) (by kernel_rfl) (fun _ _ _ h => h) (Or.inl ⟨by rfl, ?_⟩) ?_
            rotate_left
            · intro w
              go_simp
              try with_reducible rfl
            refine wpAny_take (i := 32) (v := ?_) rfl (by kernel_rfl) (by kernel_rfl) (by kernel_rfl) (fun _ _ _ h => h) (Or.inl ⟨by rfl, ?_⟩) ?_
            rotate_left
            · intro w
              go_simp
              try with_reducible rfl
            refine wpAny_ready (rs := [33]) (by kernel_rfl) (by simp) ?_
            refine AllReady.cons rfl (fun K hK => ?_) AllReady.nil
            go_simp
            refine hK _ _ ?_
            clear hK K
            refine wpAny_ready (rs := [34]) (by kernel_rfl) (by simp) ?_
            refine AllReady.cons rfl (fun K hK => ?_) AllReady.nil
            go_simp
            refine hK _ _ ?_
            clear hK K
            refine wpAny_done (by kernel_rfl) ?_ _
            clear p0 p1 p2 p3 m0 m1 q0 q1 v1 v2 v3 k0 k1 k2 k3
            have HBX := Lib.hid (box_drew (box_new wr 36 (c0 % 16) (c0 / 16) (c1 / 16) (c1 % 16) c3 c2))
            go_wp2_with fail
            cases hok : okB (c0 % 16) (c0 / 16) (c1 / 16) (c1 % 16) c3 c2
            · have HBAD : Hid (okA s a = false) := okA_no HY.out HU.out (Or.inl hok)
              have HC : Hid (R = (2, [])) := RD.out.symm.trans (rd_bad (by omega) hend HNC.out HBAD.out)
              obtain ⟨hl0, hc0, hb0⟩ := HF.out.1 (by rw [HC.out]; decide)
              rw [HC.out] at hc0
              subst hl0 hc0 hb0
              have HOKV := Lib.hid hok
              clear hok
              refine wp_region_any (by kernel_rfl) ?_
              change wpAny _ _ _ _ _ _ _ (World.drew _)
              refine wpAny_ready (rs := [0]) (by kernel_rfl) (by simp) ?_
              refine AllReady.cons rfl (fun K hK => ?_) AllReady.nil
              go_simp
              refine hK _ _ ?_
              clear hK K
              refine wpAny_ready (rs := [1]) (by kernel_rfl) (by simp) ?_
              refine AllReady.cons rfl (fun K hK => ?_) AllReady.nil
              go_simp
              go_at_call 43
              refine (l2Step_any _ _ _ _ _ _ _).mono ?_
              rintro e w3 ⟨rfl, hb3⟩
              have H3 := Lib.hid (box_keep (box_drew HBX.out) hb3)
              obtain ⟨-, z3, d0, d1, d2, d3, d4, d5⟩ := H3.out
              clear hb3
              rw [HOKV.out]
              go_simp
              refine hK _ _ ?_
              clear hK K
              refine wpAny_take (i := 2) (v := ?_) rfl (by kernel_rfl) (by kernel_rfl) (by kernel_rfl) (fun _ _ _ h => h) (Or.inl ⟨by rfl, ?_⟩) ?_
              rotate_left
              · intro w
                go_simp
                try with_reducible rfl
              refine wpAny_take (i := 3) (v := ?_) rfl (by kernel_rfl) (by kernel_rfl) (by kernel_rfl) (fun _ _ _ h => h) (Or.inl ⟨by rfl, ?_⟩) ?_
              rotate_left
              · intro w
                go_simp
                try with_reducible rfl
              refine wpAny_take (i := 4) (v := undef) rfl (by kernel_rfl) (by kernel_rfl) (by kernel_rfl) (fun _ _ _ h => h) (Or.inr ⟨by kernel_rfl, rfl⟩) ?_
              refine wpAny_take (i := 5) (v := undef) rfl (by kernel_rfl) (by kernel_rfl) (by kernel_rfl) (fun _ _ _ h => h) (Or.inr ⟨by kernel_rfl, rfl⟩) ?_
              refine wpAny_take (i := 6) (v := undef) rfl (by kernel_rfl) (by kernel_rfl) (by kernel_rfl) (fun _ _ _ h => h) (Or.inr ⟨by kernel_rfl, rfl⟩) ?_
              refine wpAny_take (i := 7) (v := undef) rfl (by kernel_rfl) (by kernel_rfl) (by kernel_rfl) (fun _ _ _ h => h) (Or.inr ⟨by kernel_rfl, rfl⟩) ?_
              refine wpAny_take (i := 8) (v := undef) rfl (by kernel_rfl) (by kernel_rfl) (by kernel_rfl) (fun _ _ _ h => h) (Or.inr ⟨by kernel_rfl, rfl⟩) ?_
              refine wpAny_take (i := 9) (v := undef) rfl (by kernel_rfl) (by kernel_rfl) (by kernel_rfl) (fun _ _ _ h => h) (Or.inr ⟨by kernel_rfl, rfl⟩) ?_
              refine wpAny_take (i := 10) (v := undef) rfl (by kernel_rfl) (by kernel_rfl) (by kernel_rfl) (fun _ _ _ h => h) (Or.inr ⟨by kernel_rfl, rfl⟩) ?_
              refine wpAny_take (i := 11) (v := undef) rfl (by kernel_rfl) (by kernel_rfl) (by kernel_rfl) (fun _ _ _ h => h) (Or.inr ⟨by kernel_rfl, rfl⟩) ?_
              refine wpAny_take (i := 12) (v := undef) rfl (by kernel_rfl) (by kernel_rfl) (by kernel_rfl) (fun _ _ _ h => h) (Or.inr ⟨by kernel_rfl, rfl⟩) ?_
              refine wpAny_ready (rs := [13]) (by kernel_rfl) (by simp) ?_
              refine AllReady.cons rfl (fun K hK => ?_) AllReady.nil
              go_simp
              refine hK _ _ ?_
              clear hK K
              refine wpAny_done (by kernel_rfl) ?_ _
              go_wp2
              go_ret3
              exact read_nil 2 (Below.tr B2.out H3.out.1)
            · have HOK : Hid (okP (c0 % 16) (c0 / 16) (c1 / 16) (c1 % 16) c3 c2) := okB_yes hok
              have HOKV := Lib.hid hok
              clear hok
              have hsl := slice_run s a 4 (by have := HSS.out; omega)
              rw [HU'.out] at hsl
              have hsl' : ∀ w, (Instr.slice 9 (.string s) (some (.int .i64 (a : Int))) (some (.int .i64 ((a : Int) + 4))) none).run Try.prog w = .ok (.string u) w := hsl
              clear hsl
              have vzz : IntKind.i64.wrap ((a : Int) + 4) = (a : Int) + 4 := IntWalk.i64_in _ (by omega)
              by_cases henc : encS (c0 % 16) (c0 / 16) (c1 / 16) (c1 % 16) c3 c2 = u
              · have hq : ((encS (c0 % 16) (c0 / 16) (c1 / 16) (c1 % 16) c3 c2).toList == u.toList) = true := by rw [henc]; exact beq_self_eq_true _
                have HGOOD : Hid (okA s a = true) := okA_yes HY.out HU.out HOKV.out ((sbS_yes HOKV.out).symm.trans henc)
                have HC : Hid (rdF s (f - 1) (a + 4) (ys ++ [(⟨c0 % 16, c0 / 16, c1 / 16, c1 % 16, c3, c2⟩ : Stp)]) = R) := by
                  have := rd_next (ys := ys) (f := f) (by omega) hend HNC.out HGOOD.out
                  rw [hz.out, HY.out] at this
                  exact this.symm.trans RD.out
                have HN := Lib.hid (cells_one (⟨c0 % 16, c0 / 16, c1 / 16, c1 % 16, c3, c2⟩ : Stp))
                clear henc
                refine wp_region_any (by kernel_rfl) ?_
                change wpAny _ _ _ _ _ _ _ (World.drew _)
                refine wpAny_ready (rs := [0]) (by kernel_rfl) (by simp) ?_
                refine AllReady.cons rfl (fun K hK => ?_) AllReady.nil
                go_simp
                refine hK _ _ ?_
                clear hK K
                refine wpAny_ready (rs := [1]) (by kernel_rfl) (by simp) ?_
                refine AllReady.cons rfl (fun K hK => ?_) AllReady.nil
                go_simp
                go_at_call 43
                refine (l2Step_any _ _ _ _ _ _ _).mono ?_
                rintro e w3 ⟨rfl, hb3⟩
                have H3 := Lib.hid (box_keep (box_drew HBX.out) hb3)
                obtain ⟨-, z3, d0, d1, d2, d3, d4, d5⟩ := H3.out
                clear hb3
                rw [HOKV.out]
                go_simp
                refine hK _ _ ?_
                clear hK K
                refine wpAny_take (i := 2) (v := ?_) rfl (by kernel_rfl) (by kernel_rfl) (by kernel_rfl) (fun _ _ _ h => h) (Or.inl ⟨by rfl, ?_⟩) ?_
                rotate_left
                · intro w
                  go_simp
                  try with_reducible rfl
                refine wpAny_take (i := 3) (v := ?_) rfl (by kernel_rfl) (by kernel_rfl) (by kernel_rfl) (fun _ _ _ h => h) (Or.inl ⟨by rfl, ?_⟩) ?_
                rotate_left
                · intro w
                  go_simp
                  try with_reducible rfl
                refine wpAny_take (i := 6) (v := ?_) rfl (by kernel_rfl) (by kernel_rfl) (by kernel_rfl) (fun _ _ _ h => h) (Or.inl ⟨by kernel_rfl, ?_⟩) ?_
                rotate_left
                · intro w
                  go_simp
                  try with_reducible rfl
                refine wpAny_take (i := 7) (v := ?_) rfl (by kernel_rfl) (by kernel_rfl) (by kernel_rfl) (fun _ _ _ h => h) (Or.inl ⟨by kernel_rfl, ?_⟩) ?_
                rotate_left
                · intro w
                  go_simp
                  try with_reducible rfl
                refine wpAny_take (i := 8) (v := ?_) rfl (by kernel_rfl) (by kernel_rfl) (by kernel_rfl) (fun _ _ _ h => h) (Or.inl ⟨by kernel_rfl, ?_⟩) ?_
                rotate_left
                · intro w
                  go_simp
                  try with_reducible rfl
                refine wpAny_take (i := 9) (v := ?_) rfl (by kernel_rfl) (by kernel_rfl) (by kernel_rfl) (fun _ _ _ h => h) (Or.inl ⟨by kernel_rfl, ?_⟩) ?_
                rotate_left
                · intro w
                  go_simp
                  try with_reducible rfl
                refine wpAny_take (i := 10) (v := ?_) rfl (by kernel_rfl) (by kernel_rfl) (by kernel_rfl) (fun _ _ _ h => h) (Or.inl ⟨by kernel_rfl, ?_⟩) ?_
                rotate_left
                · intro w
                  go_simp
                  try with_reducible rfl
                refine wpAny_take (i := 11) (v := ?_) rfl (by kernel_rfl) (by kernel_rfl) (by kernel_rfl) (fun _ _ _ h => h) (Or.inl ⟨by kernel_rfl, ?_⟩) ?_
                rotate_left
                · intro w
                  go_simp
                  try with_reducible rfl
                refine wpAny_ready (rs := [4]) (by kernel_rfl) (by simp) ?_
                refine BigFrame.allReady_want rfl (by kernel_rfl) (fun K hK => ?_) AllReady.nil
                go_simp
                refine hK _ _ ?_
                clear hK K
                refine wpAny_ready (rs := [5]) (by kernel_rfl) (by simp) ?_
                refine BigFrame.allReady_want rfl (by kernel_rfl) (fun K hK => ?_) AllReady.nil
                go_simp
                go_at_call 35
                refine (l2Bytes_any _ _ _ _ _ _ _ HOK.out).mono ?_
                rintro e w4 ⟨rfl, hb4⟩
                have H4 := Lib.hid (box_keep H3.out hb4)
                clear hb4 d0 d1 d2 d3 d4 d5 z3
                obtain ⟨-, z4, d0, d1, d2, d3, d4, d5⟩ := H4.out
                go_simp
                refine hK _ _ ?_
                clear hK K
                refine wpAny_take (i := 12) (v := ?_) rfl (by kernel_rfl) (by kernel_rfl) (by kernel_rfl) (fun _ _ _ h => h) (Or.inl ⟨by kernel_rfl, ?_⟩) ?_
                rotate_left
                · intro w
                  go_simp
                  try with_reducible rfl
                refine wpAny_ready (rs := [13]) (by kernel_rfl) (by simp) ?_
                refine AllReady.cons rfl (fun K hK => ?_) AllReady.nil
                go_simp
                refine hK _ _ ?_
                clear hK K
                refine wpAny_done (by kernel_rfl) ?_ _
                have O4 := Lib.hid (own_below O2.out H4.out.1)
                have B4 := Lib.hid (Below.tr B2.out H4.out.1)
                clear hq hsl' vzz
                go_wp2_with (at_builtin; (refine wpList_append_lies _ rfl _ _ 23 rfl w.heap.size 36 i0 _ 6 48 Try.underlying23 hi0 hz0 hz1 hz2 rfl (by omega) _ ys.length _ rfl (O4.out.alloc _) ⟨w4.heap.size, 0, none⟩ 1 1 (⟨c0 % 16, c0 / 16, c1 / 16, c1 % 16, c3, c2⟩ : Stp).cells rfl rfl (by exact World.news_of_block (heap_alloc_new w4 _)) HN.out (by omega) (by unfold maxLen; omega) (by omega) (by have := B4.out.size; first | omega | (simp; omega)) (w4.heap.size + 1) (by first | rfl | simp) ?_; intro g3 cap3 w5 hown3 hg3 hat3 hlt3; have H5 := Lib.hid (gotS_step (y := (⟨c0 % 16, c0 / 16, c1 / 16, c1 % 16, c3, c2⟩ : Stp)) O4.out hown3 hg3 B4.out); clear hown3 hg3 hat3 hlt3))
                go_roundw
                case rel => exact ⟨a + 4, ys ++ [(⟨c0 % 16, c0 / 16, c1 / 16, c1 % 16, c3, c2⟩ : Stp)], by go_num, ⟨by have := HSS.out; omega, ⟨f - 1, by have := HSS.out; omega, HC.out⟩, by simp; omega, H5.out.1⟩, H5.out.2⟩
                case measure => simp [intOf]; omega
              · have hq := str_ne henc
                have HBAD : Hid (okA s a = false) := okA_no HY.out HU.out (Or.inr (fun e => henc ((sbS_yes HOKV.out).trans e)))
                have HC : Hid (R = (2, [])) := RD.out.symm.trans (rd_bad (by omega) hend HNC.out HBAD.out)
                obtain ⟨hl0, hc0, hb0⟩ := HF.out.1 (by rw [HC.out]; decide)
                rw [HC.out] at hc0
                subst hl0 hc0 hb0
                clear henc
                refine wp_region_any (by kernel_rfl) ?_
                change wpAny _ _ _ _ _ _ _ (World.drew _)
                refine wpAny_ready (rs := [0]) (by kernel_rfl) (by simp) ?_
                refine AllReady.cons rfl (fun K hK => ?_) AllReady.nil
                go_simp
                refine hK _ _ ?_
                clear hK K
                refine wpAny_ready (rs := [1]) (by kernel_rfl) (by simp) ?_
                refine AllReady.cons rfl (fun K hK => ?_) AllReady.nil
                go_simp
                go_at_call 43
                refine (l2Step_any _ _ _ _ _ _ _).mono ?_
                rintro e w3 ⟨rfl, hb3⟩
                have H3 := Lib.hid (box_keep (box_drew HBX.out) hb3)
                obtain ⟨-, z3, d0, d1, d2, d3, d4, d5⟩ := H3.out
                clear hb3
                rw [HOKV.out]
                go_simp
                refine hK _ _ ?_
                clear hK K
                refine wpAny_take (i := 2) (v := ?_) rfl (by kernel_rfl) (by kernel_rfl) (by kernel_rfl) (fun _ _ _ h => h) (Or.inl ⟨by rfl, ?_⟩) ?_
                rotate_left
                · intro w
                  go_simp
                  try with_reducible rfl
                refine wpAny_take (i := 3) (v := ?_) rfl (by kernel_rfl) (by kernel_rfl) (by kernel_rfl) (fun _ _ _ h => h) (Or.inl ⟨by rfl, ?_⟩) ?_
                rotate_left
                · intro w
                  go_simp
                  try with_reducible rfl
                refine wpAny_take (i := 6) (v := ?_) rfl (by kernel_rfl) (by kernel_rfl) (by kernel_rfl) (fun _ _ _ h => h) (Or.inl ⟨by kernel_rfl, ?_⟩) ?_
                rotate_left
                · intro w
                  go_simp
                  try with_reducible rfl
                refine wpAny_take (i := 7) (v := ?_) rfl (by kernel_rfl) (by kernel_rfl) (by kernel_rfl) (fun _ _ _ h => h) (Or.inl ⟨by kernel_rfl, ?_⟩) ?_
                rotate_left
                · intro w
                  go_simp
                  try with_reducible rfl
                refine wpAny_take (i := 8) (v := ?_) rfl (by kernel_rfl) (by kernel_rfl) (by kernel_rfl) (fun _ _ _ h => h) (Or.inl ⟨by kernel_rfl, ?_⟩) ?_
                rotate_left
                · intro w
                  go_simp
                  try with_reducible rfl
                refine wpAny_take (i := 9) (v := ?_) rfl (by kernel_rfl) (by kernel_rfl) (by kernel_rfl) (fun _ _ _ h => h) (Or.inl ⟨by kernel_rfl, ?_⟩) ?_
                rotate_left
                · intro w
                  go_simp
                  try with_reducible rfl
                refine wpAny_take (i := 10) (v := ?_) rfl (by kernel_rfl) (by kernel_rfl) (by kernel_rfl) (fun _ _ _ h => h) (Or.inl ⟨by kernel_rfl, ?_⟩) ?_
                rotate_left
                · intro w
                  go_simp
                  try with_reducible rfl
                refine wpAny_take (i := 11) (v := ?_) rfl (by kernel_rfl) (by kernel_rfl) (by kernel_rfl) (fun _ _ _ h => h) (Or.inl ⟨by kernel_rfl, ?_⟩) ?_
                rotate_left
                · intro w
                  go_simp
                  try with_reducible rfl
                refine wpAny_ready (rs := [4]) (by kernel_rfl) (by simp) ?_
                refine BigFrame.allReady_want rfl (by kernel_rfl) (fun K hK => ?_) AllReady.nil
                go_simp
                refine hK _ _ ?_
                clear hK K
                refine wpAny_ready (rs := [5]) (by kernel_rfl) (by simp) ?_
                refine BigFrame.allReady_want rfl (by kernel_rfl) (fun K hK => ?_) AllReady.nil
                go_simp
                go_at_call 35
                refine (l2Bytes_any _ _ _ _ _ _ _ HOK.out).mono ?_
                rintro e w4 ⟨rfl, hb4⟩
                have H4 := Lib.hid (box_keep H3.out hb4)
                clear hb4 d0 d1 d2 d3 d4 d5 z3
                obtain ⟨-, z4, d0, d1, d2, d3, d4, d5⟩ := H4.out
                go_simp
                refine hK _ _ ?_
                clear hK K
                refine wpAny_take (i := 12) (v := ?_) rfl (by kernel_rfl) (by kernel_rfl) (by kernel_rfl) (fun _ _ _ h => h) (Or.inl ⟨by kernel_rfl, ?_⟩) ?_
                rotate_left
                · intro w
                  go_simp
                  try with_reducible rfl
                refine wpAny_ready (rs := [13]) (by kernel_rfl) (by simp) ?_
                refine AllReady.cons rfl (fun K hK => ?_) AllReady.nil
                go_simp
                refine hK _ _ ?_
                clear hK K
                refine wpAny_done (by kernel_rfl) ?_ _
                go_wp2
                go_ret3
                exact read_nil 2 (Below.tr B2.out H4.out.1)
      · have HC : Hid (R = (0, ys)) := RD.out.symm.trans (rd_end (by omega))
        obtain ⟨gb, hgb⟩ := good_bool ys
        have HG := Lib.hid hgb
        clear hgb
        go_wp2_with fail
        refine (specGood_any _ _ _ ys _ gb HG (own_lies' O2.out) (Lib.hid rfl) (by omega)).mono ?_
        rintro e w3 ⟨rfl, hb3⟩
        have B3 := Lib.hid (Below.tr B2.out hb3)
        have O3 := Lib.hid (own_below O2.out hb3)
        clear hb3
        cases gb
        · obtain ⟨hl0, hc0, hb0⟩ := HF.out.2.2 (by rw [HC.out]) (by rw [HC.out]; intro hg; exact absurd (HG.out.2 hg) (by simp))
          subst hl0 hc0 hb0
          go_wp2
          go_ret3
          exact read_nil 3 B3.out
        · obtain ⟨hl0, hc0, hb0⟩ := HF.out.2.1 (by rw [HC.out]) (by rw [HC.out]; exact HG.out.1 rfl)
          rw [HC.out] at hl0
          subst hl0 hc0 hb0
          go_wp2
          go_ret3
          exact ⟨A2, cc, rfl, O3.out, B3.out⟩
end Go.Proofs.Ytbmonndpblnjkaa
