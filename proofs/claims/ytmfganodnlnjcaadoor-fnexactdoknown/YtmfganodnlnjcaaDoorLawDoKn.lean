/-
  The walk of the law FnExactDoKnown.
-/
import Derived.Test.YtmfganodnlnjcaaDoorKn10
import Derived.Test.YtmfganodnlnjcaaDoorKn12
import Derived.Test.YtmfganodnlnjcaaDoorKnH
namespace Go.Proofs.YtmfganodnlnjcaaDoor.Op
open Go.Proofs.YtmfganodnlnjcaaDoor
open Go.ChangeShapes Go.WideShapes Go.ChangeAt Go.RowKit

set_option maxRecDepth 100000 in
set_option maxHeartbeats 16000000 in
theorem lawDoKn (op al ah bl bh : Int) (w : World) (HT : Hid (PowTab w)) :
    Calls Tryd.prog 5 #[.int .i64 op, .agg #[.int .i64 al, .int .i64 ah], .agg #[.int .i64 bl, .int .i64 bh]] w fun e w' => e = .returned (.bool true) ∧ Below w.heap.size w w' := by
  obtain ⟨Q, hQ⟩ : ∃ q, doA op al ah bl bh = q := ⟨_, rfl⟩
  obtain ⟨⟨x, y⟩, ok⟩ := Q
  have HQ := Lib.hid hQ
  clear hQ
  have hkk : (ok != ok) = false := by simp
  have N0 := two_newKL w al ah bl bh
  go_enter Tryd.func5, Tryd.ntmps5
  go_upto_region 1 with fail
  unfold klO at N0
  generalize ((w.alloc (.cells #[.int .i64 al, .int .i64 ah] 46)).alloc (.cells #[.int .i64 bl, .int .i64 bh] 46)) = v0 at N0 ⊢
  have D0 := Lib.hid (Below.refl v0.heap.size v0)
  have D0z := D0.out.size
  have hz0 : w.heap.size < v0.heap.size := N0.out.1.lt
  go_cut [7, 8] (fun s5 s6 wx => ∃ g, s5 = .pointer (some ⟨g, 0, none⟩) ∧ s6 = .bool ok ∧ KB wx g x y ∧ v0.heap.size ≤ g ∧ Below v0.heap.size v0 wx)
  case first =>
    refine wp_region_held_drew (S := fun W => W.cell? ⟨w.heap.size, 0, none⟩ = some (.int .i64 al) ∧ W.cell? ⟨w.heap.size, 1, none⟩ = some (.int .i64 ah) ∧ W.cell? ⟨w.heap.size + 1, 0, none⟩ = some (.int .i64 bl) ∧ W.cell? ⟨w.heap.size + 1, 1, none⟩ = some (.int .i64 bh)) (by kernel_rfl) ?_ (fun hHeld => ?_)
    · exact ⟨(KL.below N0.out.1 D0.out).c0, (KL.below N0.out.1 D0.out).c1, (KL.below N0.out.2.1 D0.out).c0, (KL.below N0.out.2.1 D0.out).c1⟩
    refine wpAnyH_take (i := 0) (v := ?_) rfl (by kernel_rfl) (by kernel_rfl) (by kernel_rfl) (fun _ _ _ h => h) (Or.inl ⟨by rfl, ?_⟩) (by assumption) ?_
    rotate_left
    · intro W hSw
      try dsimp only at hSw
      go_simp
      try with_reducible rfl
    refine wpAnyH_take (i := 1) (v := ?_) rfl (by kernel_rfl) (by kernel_rfl) (by kernel_rfl) (fun _ _ _ h => h) (Or.inl ⟨by rfl, ?_⟩) (by assumption) ?_
    rotate_left
    · intro W hSw
      try dsimp only at hSw
      go_simp
      try with_reducible rfl
    refine wpAnyH_take (i := 3) (v := ?_) rfl (by kernel_rfl) (by kernel_rfl) (by kernel_rfl) (fun _ _ _ h => h) (Or.inl ⟨by rfl, ?_⟩) (by assumption) ?_
    rotate_left
    · intro W hSw
      try dsimp only at hSw
      go_simp
      try with_reducible rfl
    refine wpAnyH_ready (rs := [2, 9]) (by kernel_rfl) (by simp) ?_
    refine AllReadyH.cons rfl (fun K hK => ?_) (AllReadyH.cons rfl (fun K hK => ?_) AllReadyH.nil)
    · skip
      go_simp
      refine (toKn_any _ _ _).mono ?_
      rintro e y1 ⟨rfl, hb⟩
      have Y1 := Lib.hid (Below.tr (Below.drew D0.out) hb)
      have Y1z := Y1.out.size
      clear hb
      refine hK.out _ _ ⟨(KL.below N0.out.1 Y1.out).c0, (KL.below N0.out.1 Y1.out).c1, (KL.below N0.out.2.1 Y1.out).c0, (KL.below N0.out.2.1 Y1.out).c1⟩ (fun hHeld2 => ?_)
      clear hK K
      refine wpAnyH_ready (rs := [4, 9]) (by kernel_rfl) (by simp) ?_
      refine AllReadyH.cons rfl (fun K hK => ?_) (AllReadyH.cons rfl (fun K hK => ?_) AllReadyH.nil)
      · skip
        go_simp
        refine (toKn_any _ _ _).mono ?_
        rintro e y2 ⟨rfl, hb⟩
        have Y2 := Lib.hid (Below.tr Y1.out hb)
        have Y2z := Y2.out.size
        clear hb
        refine hK.out _ _ ⟨(KL.below N0.out.1 Y2.out).c0, (KL.below N0.out.1 Y2.out).c1, (KL.below N0.out.2.1 Y2.out).c0, (KL.below N0.out.2.1 Y2.out).c1⟩ (fun hHeld2 => ?_)
        clear hK K
        refine wpAnyH_ready (rs := [5, 9]) (by kernel_rfl) (by simp) ?_
        refine AllReadyH.cons rfl (fun K hK => ?_) (AllReadyH.cons rfl (fun K hK => ?_) AllReadyH.nil)
        · skip
          go_simp
          refine (doKM_any _ _ _ _ _ _).mono ?_
          rw [HQ.out]
          rintro e y3 ⟨rfl, hb⟩
          have Y3 := Lib.hid (Below.tr Y2.out hb)
          have Y3z := Y3.out.size
          clear hb
          refine hK.out _ _ ⟨(KL.below N0.out.1 Y3.out).c0, (KL.below N0.out.1 Y3.out).c1, (KL.below N0.out.2.1 Y3.out).c0, (KL.below N0.out.2.1 Y3.out).c1⟩ (fun hHeld2 => ?_)
          clear hK K
          refine wpAnyH_take (i := 6) (v := ?_) rfl (by kernel_rfl) (by kernel_rfl) (by kernel_rfl) (fun _ _ _ h => h) (Or.inl ⟨by rfl, ?_⟩) (by assumption) ?_
          rotate_left
          · intro W hSw
            try dsimp only at hSw
            go_simp
            try with_reducible rfl
          refine wpAnyH_take (i := 7) (v := ?_) rfl (by kernel_rfl) (by kernel_rfl) (by kernel_rfl) (fun _ _ _ h => h) (Or.inl ⟨by rfl, ?_⟩) (by assumption) ?_
          rotate_left
          · intro W hSw
            try dsimp only at hSw
            go_simp
            try with_reducible rfl
          refine wpAnyH_take (i := 8) (v := ?_) rfl (by kernel_rfl) (by kernel_rfl) (by kernel_rfl) (fun _ _ _ h => h) (Or.inl ⟨by rfl, ?_⟩) (by assumption) ?_
          rotate_left
          · intro W hSw
            try dsimp only at hSw
            go_simp
            try with_reducible rfl
          refine wpAnyH_ready (rs := [9]) (by kernel_rfl) (by simp) ?_
          refine AllReadyH.cons rfl (fun K hK => ?_) AllReadyH.nil
          go_simp
          refine hK.out _ _ ⟨(KL.below N0.out.1 (Below.tr Y3.out (below1 _ _))).c0, (KL.below N0.out.1 (Below.tr Y3.out (below1 _ _))).c1, (KL.below N0.out.2.1 (Below.tr Y3.out (below1 _ _))).c0, (KL.below N0.out.2.1 (Below.tr Y3.out (below1 _ _))).c1⟩ (fun hHeld2 => ?_)
          clear hK K
          refine wpAnyH_ready (rs := [10]) (by kernel_rfl) (by simp) ?_
          refine AllReadyH.cons rfl (fun K hK => ?_) AllReadyH.nil
          go_simp
          refine hK.out _ _ ⟨(KL.below N0.out.1 (Below.tr Y3.out (below1 _ _))).c0, (KL.below N0.out.1 (Below.tr Y3.out (below1 _ _))).c1, (KL.below N0.out.2.1 (Below.tr Y3.out (below1 _ _))).c0, (KL.below N0.out.2.1 (Below.tr Y3.out (below1 _ _))).c1⟩ (fun hHeld2 => ?_)
          clear hK K
          refine wpAnyH_ready (rs := [11]) (by kernel_rfl) (by simp) ?_
          refine AllReadyH.cons rfl (fun K hK => ?_) AllReadyH.nil
          go_simp
          refine hK.out _ _ ⟨(KL.below N0.out.1 (Below.tr Y3.out (below1 _ _))).c0, (KL.below N0.out.1 (Below.tr Y3.out (below1 _ _))).c1, (KL.below N0.out.2.1 (Below.tr Y3.out (below1 _ _))).c0, (KL.below N0.out.2.1 (Below.tr Y3.out (below1 _ _))).c1⟩ (fun hHeld2 => ?_)
          clear hK K
          refine wpAnyH_done (by kernel_rfl) ?_ _
          go_wp2_with fail
          go_meet
          exact ⟨_, rfl, rfl, (KB.newAt (by first | rfl | simp)), by omega, (Below.tr Y3.out (below1 _ _))⟩
        · skip
          go_simp
          refine hK.out _ _ ⟨(KL.below N0.out.1 (Below.tr Y2.out (below1 _ _))).c0, (KL.below N0.out.1 (Below.tr Y2.out (below1 _ _))).c1, (KL.below N0.out.2.1 (Below.tr Y2.out (below1 _ _))).c0, (KL.below N0.out.2.1 (Below.tr Y2.out (below1 _ _))).c1⟩ (fun hHeld2 => ?_)
          clear hK K
          refine wpAnyH_ready (rs := [5]) (by kernel_rfl) (by simp) ?_
          refine AllReadyH.cons rfl (fun K hK => ?_) AllReadyH.nil
          go_simp
          refine (doKM_any _ _ _ _ _ _).mono ?_
          rw [HQ.out]
          rintro e y4 ⟨rfl, hb⟩
          have Y4 := Lib.hid (Below.tr (Below.tr Y2.out (below1 _ _)) hb)
          have Y4z := Y4.out.size
          have Y4_w := Lib.hid (KB.below (KB.newAt (by first | rfl | simp)) hb)
          have Y4_wx := Y4_w.out.c0
          have Y4_wy := Y4_w.out.c1
          have Y4_wf := Y4_w.out.f 0
          have Y4_wh := Y4_w.out.f 1
          have Y4_wl := Y4_w.out.lt
          clear hb
          refine hK.out _ _ ⟨(KL.below N0.out.1 Y4.out).c0, (KL.below N0.out.1 Y4.out).c1, (KL.below N0.out.2.1 Y4.out).c0, (KL.below N0.out.2.1 Y4.out).c1⟩ (fun hHeld2 => ?_)
          clear hK K
          refine wpAnyH_take (i := 6) (v := ?_) rfl (by kernel_rfl) (by kernel_rfl) (by kernel_rfl) (fun _ _ _ h => h) (Or.inl ⟨by rfl, ?_⟩) (by assumption) ?_
          rotate_left
          · intro W hSw
            try dsimp only at hSw
            go_simp
            try with_reducible rfl
          refine wpAnyH_take (i := 7) (v := ?_) rfl (by kernel_rfl) (by kernel_rfl) (by kernel_rfl) (fun _ _ _ h => h) (Or.inl ⟨by rfl, ?_⟩) (by assumption) ?_
          rotate_left
          · intro W hSw
            try dsimp only at hSw
            go_simp
            try with_reducible rfl
          refine wpAnyH_take (i := 8) (v := ?_) rfl (by kernel_rfl) (by kernel_rfl) (by kernel_rfl) (fun _ _ _ h => h) (Or.inl ⟨by rfl, ?_⟩) (by assumption) ?_
          rotate_left
          · intro W hSw
            try dsimp only at hSw
            go_simp
            try with_reducible rfl
          refine wpAnyH_ready (rs := [10]) (by kernel_rfl) (by simp) ?_
          refine AllReadyH.cons rfl (fun K hK => ?_) AllReadyH.nil
          go_simp
          refine hK.out _ _ ⟨(KL.below N0.out.1 (belowK2 Y4.out (by omega))).c0, (KL.below N0.out.1 (belowK2 Y4.out (by omega))).c1, (KL.below N0.out.2.1 (belowK2 Y4.out (by omega))).c0, (KL.below N0.out.2.1 (belowK2 Y4.out (by omega))).c1⟩ (fun hHeld2 => ?_)
          clear hK K
          refine wpAnyH_ready (rs := [11]) (by kernel_rfl) (by simp) ?_
          refine AllReadyH.cons rfl (fun K hK => ?_) AllReadyH.nil
          go_simp
          refine hK.out _ _ ⟨(KL.below N0.out.1 (belowK2 Y4.out (by omega))).c0, (KL.below N0.out.1 (belowK2 Y4.out (by omega))).c1, (KL.below N0.out.2.1 (belowK2 Y4.out (by omega))).c0, (KL.below N0.out.2.1 (belowK2 Y4.out (by omega))).c1⟩ (fun hHeld2 => ?_)
          clear hK K
          refine wpAnyH_done (by kernel_rfl) ?_ _
          go_wp2_with fail
          go_meet
          exact ⟨_, rfl, rfl, (KB.set2 Y4_w.out), by omega, (belowK2 Y4.out (by omega))⟩
      · skip
        go_simp
        refine hK.out _ _ ⟨(KL.below N0.out.1 (Below.tr Y1.out (below1 _ _))).c0, (KL.below N0.out.1 (Below.tr Y1.out (below1 _ _))).c1, (KL.below N0.out.2.1 (Below.tr Y1.out (below1 _ _))).c0, (KL.below N0.out.2.1 (Below.tr Y1.out (below1 _ _))).c1⟩ (fun hHeld2 => ?_)
        clear hK K
        refine wpAnyH_ready (rs := [4]) (by kernel_rfl) (by simp) ?_
        refine AllReadyH.cons rfl (fun K hK => ?_) AllReadyH.nil
        go_simp
        refine (toKn_any _ _ _).mono ?_
        rintro e y5 ⟨rfl, hb⟩
        have Y5 := Lib.hid (Below.tr (Below.tr Y1.out (below1 _ _)) hb)
        have Y5z := Y5.out.size
        have Y5_w := Lib.hid (KB.below (KB.newAt (by first | rfl | simp)) hb)
        have Y5_wx := Y5_w.out.c0
        have Y5_wy := Y5_w.out.c1
        have Y5_wf := Y5_w.out.f 0
        have Y5_wh := Y5_w.out.f 1
        have Y5_wl := Y5_w.out.lt
        clear hb
        refine hK.out _ _ ⟨(KL.below N0.out.1 Y5.out).c0, (KL.below N0.out.1 Y5.out).c1, (KL.below N0.out.2.1 Y5.out).c0, (KL.below N0.out.2.1 Y5.out).c1⟩ (fun hHeld2 => ?_)
        clear hK K
        refine wpAnyH_ready (rs := [5]) (by kernel_rfl) (by simp) ?_
        refine AllReadyH.cons rfl (fun K hK => ?_) AllReadyH.nil
        go_simp
        refine (doKM_any _ _ _ _ _ _).mono ?_
        rw [HQ.out]
        rintro e y6 ⟨rfl, hb⟩
        have Y6 := Lib.hid (Below.tr Y5.out hb)
        have Y6z := Y6.out.size
        have Y6_w := Lib.hid (KB.below Y5_w.out hb)
        have Y6_wx := Y6_w.out.c0
        have Y6_wy := Y6_w.out.c1
        have Y6_wf := Y6_w.out.f 0
        have Y6_wh := Y6_w.out.f 1
        have Y6_wl := Y6_w.out.lt
        clear hb
        refine hK.out _ _ ⟨(KL.below N0.out.1 Y6.out).c0, (KL.below N0.out.1 Y6.out).c1, (KL.below N0.out.2.1 Y6.out).c0, (KL.below N0.out.2.1 Y6.out).c1⟩ (fun hHeld2 => ?_)
        clear hK K
        refine wpAnyH_take (i := 6) (v := ?_) rfl (by kernel_rfl) (by kernel_rfl) (by kernel_rfl) (fun _ _ _ h => h) (Or.inl ⟨by rfl, ?_⟩) (by assumption) ?_
        rotate_left
        · intro W hSw
          try dsimp only at hSw
          go_simp
          try with_reducible rfl
        refine wpAnyH_take (i := 7) (v := ?_) rfl (by kernel_rfl) (by kernel_rfl) (by kernel_rfl) (fun _ _ _ h => h) (Or.inl ⟨by rfl, ?_⟩) (by assumption) ?_
        rotate_left
        · intro W hSw
          try dsimp only at hSw
          go_simp
          try with_reducible rfl
        refine wpAnyH_take (i := 8) (v := ?_) rfl (by kernel_rfl) (by kernel_rfl) (by kernel_rfl) (fun _ _ _ h => h) (Or.inl ⟨by rfl, ?_⟩) (by assumption) ?_
        rotate_left
        · intro W hSw
          try dsimp only at hSw
          go_simp
          try with_reducible rfl
        refine wpAnyH_ready (rs := [10]) (by kernel_rfl) (by simp) ?_
        refine AllReadyH.cons rfl (fun K hK => ?_) AllReadyH.nil
        go_simp
        refine hK.out _ _ ⟨(KL.below N0.out.1 (belowK2 Y6.out (by omega))).c0, (KL.below N0.out.1 (belowK2 Y6.out (by omega))).c1, (KL.below N0.out.2.1 (belowK2 Y6.out (by omega))).c0, (KL.below N0.out.2.1 (belowK2 Y6.out (by omega))).c1⟩ (fun hHeld2 => ?_)
        clear hK K
        refine wpAnyH_ready (rs := [11]) (by kernel_rfl) (by simp) ?_
        refine AllReadyH.cons rfl (fun K hK => ?_) AllReadyH.nil
        go_simp
        refine hK.out _ _ ⟨(KL.below N0.out.1 (belowK2 Y6.out (by omega))).c0, (KL.below N0.out.1 (belowK2 Y6.out (by omega))).c1, (KL.below N0.out.2.1 (belowK2 Y6.out (by omega))).c0, (KL.below N0.out.2.1 (belowK2 Y6.out (by omega))).c1⟩ (fun hHeld2 => ?_)
        clear hK K
        refine wpAnyH_done (by kernel_rfl) ?_ _
        go_wp2_with fail
        go_meet
        exact ⟨_, rfl, rfl, (KB.set2 Y6_w.out), by omega, (belowK2 Y6.out (by omega))⟩
    · skip
      go_simp
      refine hK.out _ _ ⟨(KL.below N0.out.1 (Below.tr D0.out (below1 _ _))).c0, (KL.below N0.out.1 (Below.tr D0.out (below1 _ _))).c1, (KL.below N0.out.2.1 (Below.tr D0.out (below1 _ _))).c0, (KL.below N0.out.2.1 (Below.tr D0.out (below1 _ _))).c1⟩ (fun hHeld2 => ?_)
      clear hK K
      refine wpAnyH_ready (rs := [2]) (by kernel_rfl) (by simp) ?_
      refine AllReadyH.cons rfl (fun K hK => ?_) AllReadyH.nil
      go_simp
      refine (toKn_any _ _ _).mono ?_
      rintro e y7 ⟨rfl, hb⟩
      have Y7 := Lib.hid (Below.tr (Below.drew (Below.tr D0.out (below1 _ _))) hb)
      have Y7z := Y7.out.size
      have Y7_w := Lib.hid (KB.below (KB.drewn (KB.newAt (by first | rfl | simp))) hb)
      have Y7_wx := Y7_w.out.c0
      have Y7_wy := Y7_w.out.c1
      have Y7_wf := Y7_w.out.f 0
      have Y7_wh := Y7_w.out.f 1
      have Y7_wl := Y7_w.out.lt
      clear hb
      refine hK.out _ _ ⟨(KL.below N0.out.1 Y7.out).c0, (KL.below N0.out.1 Y7.out).c1, (KL.below N0.out.2.1 Y7.out).c0, (KL.below N0.out.2.1 Y7.out).c1⟩ (fun hHeld2 => ?_)
      clear hK K
      refine wpAnyH_ready (rs := [4]) (by kernel_rfl) (by simp) ?_
      refine AllReadyH.cons rfl (fun K hK => ?_) AllReadyH.nil
      go_simp
      refine (toKn_any _ _ _).mono ?_
      rintro e y8 ⟨rfl, hb⟩
      have Y8 := Lib.hid (Below.tr Y7.out hb)
      have Y8z := Y8.out.size
      have Y8_w := Lib.hid (KB.below Y7_w.out hb)
      have Y8_wx := Y8_w.out.c0
      have Y8_wy := Y8_w.out.c1
      have Y8_wf := Y8_w.out.f 0
      have Y8_wh := Y8_w.out.f 1
      have Y8_wl := Y8_w.out.lt
      clear hb
      refine hK.out _ _ ⟨(KL.below N0.out.1 Y8.out).c0, (KL.below N0.out.1 Y8.out).c1, (KL.below N0.out.2.1 Y8.out).c0, (KL.below N0.out.2.1 Y8.out).c1⟩ (fun hHeld2 => ?_)
      clear hK K
      refine wpAnyH_ready (rs := [5]) (by kernel_rfl) (by simp) ?_
      refine AllReadyH.cons rfl (fun K hK => ?_) AllReadyH.nil
      go_simp
      refine (doKM_any _ _ _ _ _ _).mono ?_
      rw [HQ.out]
      rintro e y9 ⟨rfl, hb⟩
      have Y9 := Lib.hid (Below.tr Y8.out hb)
      have Y9z := Y9.out.size
      have Y9_w := Lib.hid (KB.below Y8_w.out hb)
      have Y9_wx := Y9_w.out.c0
      have Y9_wy := Y9_w.out.c1
      have Y9_wf := Y9_w.out.f 0
      have Y9_wh := Y9_w.out.f 1
      have Y9_wl := Y9_w.out.lt
      clear hb
      refine hK.out _ _ ⟨(KL.below N0.out.1 Y9.out).c0, (KL.below N0.out.1 Y9.out).c1, (KL.below N0.out.2.1 Y9.out).c0, (KL.below N0.out.2.1 Y9.out).c1⟩ (fun hHeld2 => ?_)
      clear hK K
      refine wpAnyH_take (i := 6) (v := ?_) rfl (by kernel_rfl) (by kernel_rfl) (by kernel_rfl) (fun _ _ _ h => h) (Or.inl ⟨by rfl, ?_⟩) (by assumption) ?_
      rotate_left
      · intro W hSw
        try dsimp only at hSw
        go_simp
        try with_reducible rfl
      refine wpAnyH_take (i := 7) (v := ?_) rfl (by kernel_rfl) (by kernel_rfl) (by kernel_rfl) (fun _ _ _ h => h) (Or.inl ⟨by rfl, ?_⟩) (by assumption) ?_
      rotate_left
      · intro W hSw
        try dsimp only at hSw
        go_simp
        try with_reducible rfl
      refine wpAnyH_take (i := 8) (v := ?_) rfl (by kernel_rfl) (by kernel_rfl) (by kernel_rfl) (fun _ _ _ h => h) (Or.inl ⟨by rfl, ?_⟩) (by assumption) ?_
      rotate_left
      · intro W hSw
        try dsimp only at hSw
        go_simp
        try with_reducible rfl
      refine wpAnyH_ready (rs := [10]) (by kernel_rfl) (by simp) ?_
      refine AllReadyH.cons rfl (fun K hK => ?_) AllReadyH.nil
      go_simp
      refine hK.out _ _ ⟨(KL.below N0.out.1 (belowK2 Y9.out (by omega))).c0, (KL.below N0.out.1 (belowK2 Y9.out (by omega))).c1, (KL.below N0.out.2.1 (belowK2 Y9.out (by omega))).c0, (KL.below N0.out.2.1 (belowK2 Y9.out (by omega))).c1⟩ (fun hHeld2 => ?_)
      clear hK K
      refine wpAnyH_ready (rs := [11]) (by kernel_rfl) (by simp) ?_
      refine AllReadyH.cons rfl (fun K hK => ?_) AllReadyH.nil
      go_simp
      refine hK.out _ _ ⟨(KL.below N0.out.1 (belowK2 Y9.out (by omega))).c0, (KL.below N0.out.1 (belowK2 Y9.out (by omega))).c1, (KL.below N0.out.2.1 (belowK2 Y9.out (by omega))).c0, (KL.below N0.out.2.1 (belowK2 Y9.out (by omega))).c1⟩ (fun hHeld2 => ?_)
      clear hK K
      refine wpAnyH_done (by kernel_rfl) ?_ _
      go_wp2_with fail
      go_meet
      exact ⟨_, rfl, rfl, (KB.set2 Y9_w.out), by omega, (belowK2 Y9.out (by omega))⟩
  case rest =>
    obtain ⟨gw, rfl, rfl, hs, hgw, hb⟩ := hcut
    obtain ⟨v1, hv⟩ : ∃ x, x = wc := ⟨_, rfl⟩
    subst hv
    have D1 := Lib.hid hb
    have S1 := Lib.hid hs
    have D1z := D1.out.size
    clear hs hb
    have sx := S1.out.lt
    go_upto_region 2 with fail
    go_cut [9, 10] (fun s7 s8 wx => ∃ g, s7 = .pointer (some ⟨g, 0, none⟩) ∧ s8 = .bool ok ∧ KB wx g x y ∧ KB wx gw x y ∧ Below v0.heap.size v0 wx)
    case first =>
      refine wp_region_held_drew (S := fun W => W.cell? ⟨w.heap.size, 0, none⟩ = some (.int .i64 al) ∧ W.cell? ⟨w.heap.size, 1, none⟩ = some (.int .i64 ah) ∧ W.cell? ⟨w.heap.size + 1, 0, none⟩ = some (.int .i64 bl) ∧ W.cell? ⟨w.heap.size + 1, 1, none⟩ = some (.int .i64 bh)) (by kernel_rfl) ?_ (fun hHeld => ?_)
      · exact ⟨(KL.below N0.out.1 D1.out).c0, (KL.below N0.out.1 D1.out).c1, (KL.below N0.out.2.1 D1.out).c0, (KL.below N0.out.2.1 D1.out).c1⟩
      refine wpAnyH_take (i := 0) (v := ?_) rfl (by kernel_rfl) (by kernel_rfl) (by kernel_rfl) (fun _ _ _ h => h) (Or.inl ⟨by rfl, ?_⟩) (by assumption) ?_
      rotate_left
      · intro W hSw
        try dsimp only at hSw
        go_simp
        try with_reducible rfl
      refine wpAnyH_take (i := 1) (v := ?_) rfl (by kernel_rfl) (by kernel_rfl) (by kernel_rfl) (fun _ _ _ h => h) (Or.inl ⟨by rfl, ?_⟩) (by assumption) ?_
      rotate_left
      · intro W hSw
        try dsimp only at hSw
        go_simp
        try with_reducible rfl
      refine wpAnyH_take (i := 3) (v := ?_) rfl (by kernel_rfl) (by kernel_rfl) (by kernel_rfl) (fun _ _ _ h => h) (Or.inl ⟨by rfl, ?_⟩) (by assumption) ?_
      rotate_left
      · intro W hSw
        try dsimp only at hSw
        go_simp
        try with_reducible rfl
      refine wpAnyH_ready (rs := [2, 9]) (by kernel_rfl) (by simp) ?_
      refine AllReadyH.cons rfl (fun K hK => ?_) (AllReadyH.cons rfl (fun K hK => ?_) AllReadyH.nil)
      · skip
        go_simp
        refine (toKn_any _ _ _).mono ?_
        rintro e y1 ⟨rfl, hb⟩
        have Y1 := Lib.hid (Below.tr (Below.drew D1.out) hb)
        have Y1z := Y1.out.size
        have Y1_w := Lib.hid (KB.below (KB.drewn S1.out) hb)
        have Y1_wx := Y1_w.out.c0
        have Y1_wy := Y1_w.out.c1
        have Y1_wf := Y1_w.out.f 0
        have Y1_wh := Y1_w.out.f 1
        have Y1_wl := Y1_w.out.lt
        clear hb
        refine hK.out _ _ ⟨(KL.below N0.out.1 Y1.out).c0, (KL.below N0.out.1 Y1.out).c1, (KL.below N0.out.2.1 Y1.out).c0, (KL.below N0.out.2.1 Y1.out).c1⟩ (fun hHeld2 => ?_)
        clear hK K
        refine wpAnyH_ready (rs := [4, 9]) (by kernel_rfl) (by simp) ?_
        refine AllReadyH.cons rfl (fun K hK => ?_) (AllReadyH.cons rfl (fun K hK => ?_) AllReadyH.nil)
        · skip
          go_simp
          refine (toKn_any _ _ _).mono ?_
          rintro e y2 ⟨rfl, hb⟩
          have Y2 := Lib.hid (Below.tr Y1.out hb)
          have Y2z := Y2.out.size
          have Y2_w := Lib.hid (KB.below Y1_w.out hb)
          have Y2_wx := Y2_w.out.c0
          have Y2_wy := Y2_w.out.c1
          have Y2_wf := Y2_w.out.f 0
          have Y2_wh := Y2_w.out.f 1
          have Y2_wl := Y2_w.out.lt
          clear hb
          refine hK.out _ _ ⟨(KL.below N0.out.1 Y2.out).c0, (KL.below N0.out.1 Y2.out).c1, (KL.below N0.out.2.1 Y2.out).c0, (KL.below N0.out.2.1 Y2.out).c1⟩ (fun hHeld2 => ?_)
          clear hK K
          refine wpAnyH_ready (rs := [5, 9]) (by kernel_rfl) (by simp) ?_
          refine AllReadyH.cons rfl (fun K hK => ?_) (AllReadyH.cons rfl (fun K hK => ?_) AllReadyH.nil)
          · skip
            go_simp
            refine (doKI_any _ _ _ _ _ _ (Lib.hid (HT.out.bel (Below.tr N0.out.2.2 Y2.out)))).mono ?_
            rw [HQ.out]
            rintro e y3 ⟨rfl, hb⟩
            have Y3 := Lib.hid (Below.tr Y2.out hb)
            have Y3z := Y3.out.size
            have Y3_w := Lib.hid (KB.below Y2_w.out hb)
            have Y3_wx := Y3_w.out.c0
            have Y3_wy := Y3_w.out.c1
            have Y3_wf := Y3_w.out.f 0
            have Y3_wh := Y3_w.out.f 1
            have Y3_wl := Y3_w.out.lt
            clear hb
            refine hK.out _ _ ⟨(KL.below N0.out.1 Y3.out).c0, (KL.below N0.out.1 Y3.out).c1, (KL.below N0.out.2.1 Y3.out).c0, (KL.below N0.out.2.1 Y3.out).c1⟩ (fun hHeld2 => ?_)
            clear hK K
            refine wpAnyH_take (i := 6) (v := ?_) rfl (by kernel_rfl) (by kernel_rfl) (by kernel_rfl) (fun _ _ _ h => h) (Or.inl ⟨by rfl, ?_⟩) (by assumption) ?_
            rotate_left
            · intro W hSw
              try dsimp only at hSw
              go_simp
              try with_reducible rfl
            refine wpAnyH_take (i := 7) (v := ?_) rfl (by kernel_rfl) (by kernel_rfl) (by kernel_rfl) (fun _ _ _ h => h) (Or.inl ⟨by rfl, ?_⟩) (by assumption) ?_
            rotate_left
            · intro W hSw
              try dsimp only at hSw
              go_simp
              try with_reducible rfl
            refine wpAnyH_take (i := 8) (v := ?_) rfl (by kernel_rfl) (by kernel_rfl) (by kernel_rfl) (fun _ _ _ h => h) (Or.inl ⟨by rfl, ?_⟩) (by assumption) ?_
            rotate_left
            · intro W hSw
              try dsimp only at hSw
              go_simp
              try with_reducible rfl
            refine wpAnyH_ready (rs := [9]) (by kernel_rfl) (by simp) ?_
            refine AllReadyH.cons rfl (fun K hK => ?_) AllReadyH.nil
            go_simp
            refine hK.out _ _ ⟨(KL.below N0.out.1 (Below.tr Y3.out (below1 _ _))).c0, (KL.below N0.out.1 (Below.tr Y3.out (below1 _ _))).c1, (KL.below N0.out.2.1 (Below.tr Y3.out (below1 _ _))).c0, (KL.below N0.out.2.1 (Below.tr Y3.out (below1 _ _))).c1⟩ (fun hHeld2 => ?_)
            clear hK K
            refine wpAnyH_ready (rs := [10]) (by kernel_rfl) (by simp) ?_
            refine AllReadyH.cons rfl (fun K hK => ?_) AllReadyH.nil
            go_simp
            refine hK.out _ _ ⟨(KL.below N0.out.1 (Below.tr Y3.out (below1 _ _))).c0, (KL.below N0.out.1 (Below.tr Y3.out (below1 _ _))).c1, (KL.below N0.out.2.1 (Below.tr Y3.out (below1 _ _))).c0, (KL.below N0.out.2.1 (Below.tr Y3.out (below1 _ _))).c1⟩ (fun hHeld2 => ?_)
            clear hK K
            refine wpAnyH_ready (rs := [11]) (by kernel_rfl) (by simp) ?_
            refine AllReadyH.cons rfl (fun K hK => ?_) AllReadyH.nil
            go_simp
            refine hK.out _ _ ⟨(KL.below N0.out.1 (Below.tr Y3.out (below1 _ _))).c0, (KL.below N0.out.1 (Below.tr Y3.out (below1 _ _))).c1, (KL.below N0.out.2.1 (Below.tr Y3.out (below1 _ _))).c0, (KL.below N0.out.2.1 (Below.tr Y3.out (below1 _ _))).c1⟩ (fun hHeld2 => ?_)
            clear hK K
            refine wpAnyH_done (by kernel_rfl) ?_ _
            go_wp2_with fail
            go_meet
            exact ⟨_, rfl, rfl, (KB.newAt (by first | rfl | simp)), (KB.below Y3_w.out (below1 _ _)), (Below.tr Y3.out (below1 _ _))⟩
          · skip
            go_simp
            refine hK.out _ _ ⟨(KL.below N0.out.1 (Below.tr Y2.out (below1 _ _))).c0, (KL.below N0.out.1 (Below.tr Y2.out (below1 _ _))).c1, (KL.below N0.out.2.1 (Below.tr Y2.out (below1 _ _))).c0, (KL.below N0.out.2.1 (Below.tr Y2.out (below1 _ _))).c1⟩ (fun hHeld2 => ?_)
            clear hK K
            refine wpAnyH_ready (rs := [5]) (by kernel_rfl) (by simp) ?_
            refine AllReadyH.cons rfl (fun K hK => ?_) AllReadyH.nil
            go_simp
            refine (doKI_any _ _ _ _ _ _ (Lib.hid (HT.out.bel (Below.tr N0.out.2.2 (Below.tr Y2.out (below1 _ _)))))).mono ?_
            rw [HQ.out]
            rintro e y4 ⟨rfl, hb⟩
            have Y4 := Lib.hid (Below.tr (Below.tr Y2.out (below1 _ _)) hb)
            have Y4z := Y4.out.size
            have Y4_w := Lib.hid (KB.below (KB.below Y2_w.out (below1 _ _)) hb)
            have Y4_wx := Y4_w.out.c0
            have Y4_wy := Y4_w.out.c1
            have Y4_wf := Y4_w.out.f 0
            have Y4_wh := Y4_w.out.f 1
            have Y4_wl := Y4_w.out.lt
            have Y4_g := Lib.hid (KB.below (KB.newAt (by first | rfl | simp)) hb)
            have Y4_gx := Y4_g.out.c0
            have Y4_gy := Y4_g.out.c1
            have Y4_gf := Y4_g.out.f 0
            have Y4_gh := Y4_g.out.f 1
            have Y4_gl := Y4_g.out.lt
            have Y4ne01 : gw ≠ y2.heap.size := by omega
            have Y4ne10 : y2.heap.size ≠ gw := by omega
            clear hb
            refine hK.out _ _ ⟨(KL.below N0.out.1 Y4.out).c0, (KL.below N0.out.1 Y4.out).c1, (KL.below N0.out.2.1 Y4.out).c0, (KL.below N0.out.2.1 Y4.out).c1⟩ (fun hHeld2 => ?_)
            clear hK K
            refine wpAnyH_take (i := 6) (v := ?_) rfl (by kernel_rfl) (by kernel_rfl) (by kernel_rfl) (fun _ _ _ h => h) (Or.inl ⟨by rfl, ?_⟩) (by assumption) ?_
            rotate_left
            · intro W hSw
              try dsimp only at hSw
              go_simp
              try with_reducible rfl
            refine wpAnyH_take (i := 7) (v := ?_) rfl (by kernel_rfl) (by kernel_rfl) (by kernel_rfl) (fun _ _ _ h => h) (Or.inl ⟨by rfl, ?_⟩) (by assumption) ?_
            rotate_left
            · intro W hSw
              try dsimp only at hSw
              go_simp
              try with_reducible rfl
            refine wpAnyH_take (i := 8) (v := ?_) rfl (by kernel_rfl) (by kernel_rfl) (by kernel_rfl) (fun _ _ _ h => h) (Or.inl ⟨by rfl, ?_⟩) (by assumption) ?_
            rotate_left
            · intro W hSw
              try dsimp only at hSw
              go_simp
              try with_reducible rfl
            refine wpAnyH_ready (rs := [10]) (by kernel_rfl) (by simp) ?_
            refine AllReadyH.cons rfl (fun K hK => ?_) AllReadyH.nil
            go_simp
            refine hK.out _ _ ⟨(KL.below N0.out.1 (belowK2 Y4.out (by omega))).c0, (KL.below N0.out.1 (belowK2 Y4.out (by omega))).c1, (KL.below N0.out.2.1 (belowK2 Y4.out (by omega))).c0, (KL.below N0.out.2.1 (belowK2 Y4.out (by omega))).c1⟩ (fun hHeld2 => ?_)
            clear hK K
            refine wpAnyH_ready (rs := [11]) (by kernel_rfl) (by simp) ?_
            refine AllReadyH.cons rfl (fun K hK => ?_) AllReadyH.nil
            go_simp
            refine hK.out _ _ ⟨(KL.below N0.out.1 (belowK2 Y4.out (by omega))).c0, (KL.below N0.out.1 (belowK2 Y4.out (by omega))).c1, (KL.below N0.out.2.1 (belowK2 Y4.out (by omega))).c0, (KL.below N0.out.2.1 (belowK2 Y4.out (by omega))).c1⟩ (fun hHeld2 => ?_)
            clear hK K
            refine wpAnyH_done (by kernel_rfl) ?_ _
            go_wp2_with fail
            go_meet
            exact ⟨_, rfl, rfl, (KB.set2 Y4_g.out), (KB.far2 Y4_w.out (by omega)), (belowK2 Y4.out (by omega))⟩
        · skip
          go_simp
          refine hK.out _ _ ⟨(KL.below N0.out.1 (Below.tr Y1.out (below1 _ _))).c0, (KL.below N0.out.1 (Below.tr Y1.out (below1 _ _))).c1, (KL.below N0.out.2.1 (Below.tr Y1.out (below1 _ _))).c0, (KL.below N0.out.2.1 (Below.tr Y1.out (below1 _ _))).c1⟩ (fun hHeld2 => ?_)
          clear hK K
          refine wpAnyH_ready (rs := [4]) (by kernel_rfl) (by simp) ?_
          refine AllReadyH.cons rfl (fun K hK => ?_) AllReadyH.nil
          go_simp
          refine (toKn_any _ _ _).mono ?_
          rintro e y5 ⟨rfl, hb⟩
          have Y5 := Lib.hid (Below.tr (Below.tr Y1.out (below1 _ _)) hb)
          have Y5z := Y5.out.size
          have Y5_w := Lib.hid (KB.below (KB.below Y1_w.out (below1 _ _)) hb)
          have Y5_wx := Y5_w.out.c0
          have Y5_wy := Y5_w.out.c1
          have Y5_wf := Y5_w.out.f 0
          have Y5_wh := Y5_w.out.f 1
          have Y5_wl := Y5_w.out.lt
          have Y5_g := Lib.hid (KB.below (KB.newAt (by first | rfl | simp)) hb)
          have Y5_gx := Y5_g.out.c0
          have Y5_gy := Y5_g.out.c1
          have Y5_gf := Y5_g.out.f 0
          have Y5_gh := Y5_g.out.f 1
          have Y5_gl := Y5_g.out.lt
          have Y5ne01 : gw ≠ y1.heap.size := by omega
          have Y5ne10 : y1.heap.size ≠ gw := by omega
          clear hb
          refine hK.out _ _ ⟨(KL.below N0.out.1 Y5.out).c0, (KL.below N0.out.1 Y5.out).c1, (KL.below N0.out.2.1 Y5.out).c0, (KL.below N0.out.2.1 Y5.out).c1⟩ (fun hHeld2 => ?_)
          clear hK K
          refine wpAnyH_ready (rs := [5]) (by kernel_rfl) (by simp) ?_
          refine AllReadyH.cons rfl (fun K hK => ?_) AllReadyH.nil
          go_simp
          refine (doKI_any _ _ _ _ _ _ (Lib.hid (HT.out.bel (Below.tr N0.out.2.2 Y5.out)))).mono ?_
          rw [HQ.out]
          rintro e y6 ⟨rfl, hb⟩
          have Y6 := Lib.hid (Below.tr Y5.out hb)
          have Y6z := Y6.out.size
          have Y6_w := Lib.hid (KB.below Y5_w.out hb)
          have Y6_wx := Y6_w.out.c0
          have Y6_wy := Y6_w.out.c1
          have Y6_wf := Y6_w.out.f 0
          have Y6_wh := Y6_w.out.f 1
          have Y6_wl := Y6_w.out.lt
          have Y6_g := Lib.hid (KB.below Y5_g.out hb)
          have Y6_gx := Y6_g.out.c0
          have Y6_gy := Y6_g.out.c1
          have Y6_gf := Y6_g.out.f 0
          have Y6_gh := Y6_g.out.f 1
          have Y6_gl := Y6_g.out.lt
          have Y6ne01 : gw ≠ y1.heap.size := by omega
          have Y6ne10 : y1.heap.size ≠ gw := by omega
          clear hb
          refine hK.out _ _ ⟨(KL.below N0.out.1 Y6.out).c0, (KL.below N0.out.1 Y6.out).c1, (KL.below N0.out.2.1 Y6.out).c0, (KL.below N0.out.2.1 Y6.out).c1⟩ (fun hHeld2 => ?_)
          clear hK K
          refine wpAnyH_take (i := 6) (v := ?_) rfl (by kernel_rfl) (by kernel_rfl) (by kernel_rfl) (fun _ _ _ h => h) (Or.inl ⟨by rfl, ?_⟩) (by assumption) ?_
          rotate_left
          · intro W hSw
            try dsimp only at hSw
            go_simp
            try with_reducible rfl
          refine wpAnyH_take (i := 7) (v := ?_) rfl (by kernel_rfl) (by kernel_rfl) (by kernel_rfl) (fun _ _ _ h => h) (Or.inl ⟨by rfl, ?_⟩) (by assumption) ?_
          rotate_left
          · intro W hSw
            try dsimp only at hSw
            go_simp
            try with_reducible rfl
          refine wpAnyH_take (i := 8) (v := ?_) rfl (by kernel_rfl) (by kernel_rfl) (by kernel_rfl) (fun _ _ _ h => h) (Or.inl ⟨by rfl, ?_⟩) (by assumption) ?_
          rotate_left
          · intro W hSw
            try dsimp only at hSw
            go_simp
            try with_reducible rfl
          refine wpAnyH_ready (rs := [10]) (by kernel_rfl) (by simp) ?_
          refine AllReadyH.cons rfl (fun K hK => ?_) AllReadyH.nil
          go_simp
          refine hK.out _ _ ⟨(KL.below N0.out.1 (belowK2 Y6.out (by omega))).c0, (KL.below N0.out.1 (belowK2 Y6.out (by omega))).c1, (KL.below N0.out.2.1 (belowK2 Y6.out (by omega))).c0, (KL.below N0.out.2.1 (belowK2 Y6.out (by omega))).c1⟩ (fun hHeld2 => ?_)
          clear hK K
          refine wpAnyH_ready (rs := [11]) (by kernel_rfl) (by simp) ?_
          refine AllReadyH.cons rfl (fun K hK => ?_) AllReadyH.nil
          go_simp
          refine hK.out _ _ ⟨(KL.below N0.out.1 (belowK2 Y6.out (by omega))).c0, (KL.below N0.out.1 (belowK2 Y6.out (by omega))).c1, (KL.below N0.out.2.1 (belowK2 Y6.out (by omega))).c0, (KL.below N0.out.2.1 (belowK2 Y6.out (by omega))).c1⟩ (fun hHeld2 => ?_)
          clear hK K
          refine wpAnyH_done (by kernel_rfl) ?_ _
          go_wp2_with fail
          go_meet
          exact ⟨_, rfl, rfl, (KB.set2 Y6_g.out), (KB.far2 Y6_w.out (by omega)), (belowK2 Y6.out (by omega))⟩
      · skip
        go_simp
        refine hK.out _ _ ⟨(KL.below N0.out.1 (Below.tr D1.out (below1 _ _))).c0, (KL.below N0.out.1 (Below.tr D1.out (below1 _ _))).c1, (KL.below N0.out.2.1 (Below.tr D1.out (below1 _ _))).c0, (KL.below N0.out.2.1 (Below.tr D1.out (below1 _ _))).c1⟩ (fun hHeld2 => ?_)
        clear hK K
        refine wpAnyH_ready (rs := [2]) (by kernel_rfl) (by simp) ?_
        refine AllReadyH.cons rfl (fun K hK => ?_) AllReadyH.nil
        go_simp
        refine (toKn_any _ _ _).mono ?_
        rintro e y7 ⟨rfl, hb⟩
        have Y7 := Lib.hid (Below.tr (Below.drew (Below.tr D1.out (below1 _ _))) hb)
        have Y7z := Y7.out.size
        have Y7_w := Lib.hid (KB.below (KB.drewn (KB.below S1.out (below1 _ _))) hb)
        have Y7_wx := Y7_w.out.c0
        have Y7_wy := Y7_w.out.c1
        have Y7_wf := Y7_w.out.f 0
        have Y7_wh := Y7_w.out.f 1
        have Y7_wl := Y7_w.out.lt
        have Y7_g := Lib.hid (KB.below (KB.drewn (KB.newAt (by first | rfl | simp))) hb)
        have Y7_gx := Y7_g.out.c0
        have Y7_gy := Y7_g.out.c1
        have Y7_gf := Y7_g.out.f 0
        have Y7_gh := Y7_g.out.f 1
        have Y7_gl := Y7_g.out.lt
        have Y7ne01 : gw ≠ v1.heap.size := by omega
        have Y7ne10 : v1.heap.size ≠ gw := by omega
        clear hb
        refine hK.out _ _ ⟨(KL.below N0.out.1 Y7.out).c0, (KL.below N0.out.1 Y7.out).c1, (KL.below N0.out.2.1 Y7.out).c0, (KL.below N0.out.2.1 Y7.out).c1⟩ (fun hHeld2 => ?_)
        clear hK K
        refine wpAnyH_ready (rs := [4]) (by kernel_rfl) (by simp) ?_
        refine AllReadyH.cons rfl (fun K hK => ?_) AllReadyH.nil
        go_simp
        refine (toKn_any _ _ _).mono ?_
        rintro e y8 ⟨rfl, hb⟩
        have Y8 := Lib.hid (Below.tr Y7.out hb)
        have Y8z := Y8.out.size
        have Y8_w := Lib.hid (KB.below Y7_w.out hb)
        have Y8_wx := Y8_w.out.c0
        have Y8_wy := Y8_w.out.c1
        have Y8_wf := Y8_w.out.f 0
        have Y8_wh := Y8_w.out.f 1
        have Y8_wl := Y8_w.out.lt
        have Y8_g := Lib.hid (KB.below Y7_g.out hb)
        have Y8_gx := Y8_g.out.c0
        have Y8_gy := Y8_g.out.c1
        have Y8_gf := Y8_g.out.f 0
        have Y8_gh := Y8_g.out.f 1
        have Y8_gl := Y8_g.out.lt
        have Y8ne01 : gw ≠ v1.heap.size := by omega
        have Y8ne10 : v1.heap.size ≠ gw := by omega
        clear hb
        refine hK.out _ _ ⟨(KL.below N0.out.1 Y8.out).c0, (KL.below N0.out.1 Y8.out).c1, (KL.below N0.out.2.1 Y8.out).c0, (KL.below N0.out.2.1 Y8.out).c1⟩ (fun hHeld2 => ?_)
        clear hK K
        refine wpAnyH_ready (rs := [5]) (by kernel_rfl) (by simp) ?_
        refine AllReadyH.cons rfl (fun K hK => ?_) AllReadyH.nil
        go_simp
        refine (doKI_any _ _ _ _ _ _ (Lib.hid (HT.out.bel (Below.tr N0.out.2.2 Y8.out)))).mono ?_
        rw [HQ.out]
        rintro e y9 ⟨rfl, hb⟩
        have Y9 := Lib.hid (Below.tr Y8.out hb)
        have Y9z := Y9.out.size
        have Y9_w := Lib.hid (KB.below Y8_w.out hb)
        have Y9_wx := Y9_w.out.c0
        have Y9_wy := Y9_w.out.c1
        have Y9_wf := Y9_w.out.f 0
        have Y9_wh := Y9_w.out.f 1
        have Y9_wl := Y9_w.out.lt
        have Y9_g := Lib.hid (KB.below Y8_g.out hb)
        have Y9_gx := Y9_g.out.c0
        have Y9_gy := Y9_g.out.c1
        have Y9_gf := Y9_g.out.f 0
        have Y9_gh := Y9_g.out.f 1
        have Y9_gl := Y9_g.out.lt
        have Y9ne01 : gw ≠ v1.heap.size := by omega
        have Y9ne10 : v1.heap.size ≠ gw := by omega
        clear hb
        refine hK.out _ _ ⟨(KL.below N0.out.1 Y9.out).c0, (KL.below N0.out.1 Y9.out).c1, (KL.below N0.out.2.1 Y9.out).c0, (KL.below N0.out.2.1 Y9.out).c1⟩ (fun hHeld2 => ?_)
        clear hK K
        refine wpAnyH_take (i := 6) (v := ?_) rfl (by kernel_rfl) (by kernel_rfl) (by kernel_rfl) (fun _ _ _ h => h) (Or.inl ⟨by rfl, ?_⟩) (by assumption) ?_
        rotate_left
        · intro W hSw
          try dsimp only at hSw
          go_simp
          try with_reducible rfl
        refine wpAnyH_take (i := 7) (v := ?_) rfl (by kernel_rfl) (by kernel_rfl) (by kernel_rfl) (fun _ _ _ h => h) (Or.inl ⟨by rfl, ?_⟩) (by assumption) ?_
        rotate_left
        · intro W hSw
          try dsimp only at hSw
          go_simp
          try with_reducible rfl
        refine wpAnyH_take (i := 8) (v := ?_) rfl (by kernel_rfl) (by kernel_rfl) (by kernel_rfl) (fun _ _ _ h => h) (Or.inl ⟨by rfl, ?_⟩) (by assumption) ?_
        rotate_left
        · intro W hSw
          try dsimp only at hSw
          go_simp
          try with_reducible rfl
        refine wpAnyH_ready (rs := [10]) (by kernel_rfl) (by simp) ?_
        refine AllReadyH.cons rfl (fun K hK => ?_) AllReadyH.nil
        go_simp
        refine hK.out _ _ ⟨(KL.below N0.out.1 (belowK2 Y9.out (by omega))).c0, (KL.below N0.out.1 (belowK2 Y9.out (by omega))).c1, (KL.below N0.out.2.1 (belowK2 Y9.out (by omega))).c0, (KL.below N0.out.2.1 (belowK2 Y9.out (by omega))).c1⟩ (fun hHeld2 => ?_)
        clear hK K
        refine wpAnyH_ready (rs := [11]) (by kernel_rfl) (by simp) ?_
        refine AllReadyH.cons rfl (fun K hK => ?_) AllReadyH.nil
        go_simp
        refine hK.out _ _ ⟨(KL.below N0.out.1 (belowK2 Y9.out (by omega))).c0, (KL.below N0.out.1 (belowK2 Y9.out (by omega))).c1, (KL.below N0.out.2.1 (belowK2 Y9.out (by omega))).c0, (KL.below N0.out.2.1 (belowK2 Y9.out (by omega))).c1⟩ (fun hHeld2 => ?_)
        clear hK K
        refine wpAnyH_done (by kernel_rfl) ?_ _
        go_wp2_with fail
        go_meet
        exact ⟨_, rfl, rfl, (KB.set2 Y9_g.out), (KB.far2 Y9_w.out (by omega)), (belowK2 Y9.out (by omega))⟩
    case rest =>
      obtain ⟨gg, rfl, rfl, hs, hs2, hb⟩ := hcut
      have x0 := hs.c0
      have x1 := hs.c1
      have x2 := hs2.c0
      have x3 := hs2.c1
      have D2 := Lib.hid hb
      clear hs hs2 hb
      go_wp2_with fail
      refine (eqKn_any _ _ _).mono ?_
      rintro e w9 ⟨rfl, hb⟩
      have D3 := Lib.hid (Below.tr (Below.tr N0.out.2.2 D2.out) hb)
      clear hb
      go_wp2
      go_ret
      exact ⟨rfl, D3.out⟩
end Go.Proofs.YtmfganodnlnjcaaDoor.Op
