/-
  The walk of the law of DoStep.
-/
import Derived.Test.YtfcfnpdomjpibaaDoorStepD
import Derived.Test.YtfcfnpdomjpibaaDoorLawTrace
namespace Go.Proofs.YtfcfnpdomjpibaaDoor
open Go.ChangeShapes Go.WideShapes Go.ChangeAt Go.RowKit

theorem ld_S {W : World} {b n1 n2 n3 c1 c2 c3 : Nat} {a : Int} {A1 A2 A3 : Option Addr} (h : Blk W b 53 [.int .i64 a, .slice A1 n1 c1, .slice A2 n2 c2, .slice A3 n3 c3]) : W.cell? ⟨b, 0, none⟩ = some (.int .i64 a) ∧ W.cell? ⟨b, 1, none⟩ = some (.slice A1 n1 c1) ∧ W.cell? ⟨b, 2, none⟩ = some (.slice A2 n2 c2) ∧ W.cell? ⟨b, 3, none⟩ = some (.slice A3 n3 c3) :=
  ⟨h.there rfl, h.there rfl, h.there rfl, h.there rfl⟩
theorem RowsM.base {w : World} {base base' l1 l2 l3 k1 k2 k3 : Nat} {U1 U2 U3 : Option Addr} {m : Mch} (h : RowsM w base U1 U2 U3 l1 l2 l3 k1 k2 k3 m) (hb : base' ≤ base) : RowsM w base' U1 U2 U3 l1 l2 l3 k1 k2 k3 m :=
  ⟨own_base h.r hb, own_base h.c hb, own_base h.s hb, h.n12, h.n13, h.n23⟩
theorem stepD_lens (g : Bool) (xs : List Stp) (ctx : List Int) (m : Mch) : (stepD g xs ctx m).1.r.length ≤ 16 ∧ (stepD g xs ctx m).1.c.length ≤ 16 ∧ (stepD g xs ctx m).1.s.length ≤ 16 := by
  unfold stepD
  split
  · rename_i h
    simp only [Bool.and_eq_true, decide_eq_true_eq] at h
    have GM := (goodM_iff m).1 h.1.2
    split
    · simp [zeroM]
    · split
      · have := doM_lens GM.r GM.c GM.s (by assumption) ctx
        simp only
        omega
      · simp [zeroM]
  · simp [zeroM]
theorem box_set {W : World} {b : Nat} {v0 v1 v2 v3 : Value} (h : Blk W b 32 [v0, v1, v2, v3]) (u0 u1 u2 u3 : Value) : Blk ((((W.setCell ⟨b, 0, none⟩ u0).setCell ⟨b, 1, none⟩ u1).setCell ⟨b, 2, none⟩ u2).setCell ⟨b, 3, none⟩ u3) b 32 [u0, u1, u2, u3] :=
  (((h.set 0 u0).set 1 u1).set 2 u2).set 3 u3
theorem kept_set4 (W : World) (b : Nat) (u0 u1 u2 u3 : Value) : Kept W ((((W.setCell ⟨b, 0, none⟩ u0).setCell ⟨b, 1, none⟩ u1).setCell ⟨b, 2, none⟩ u2).setCell ⟨b, 3, none⟩ u3) (fun g => g = b) :=
  ((Kept.set.trans Kept.set).trans Kept.set).trans Kept.set
set_option maxRecDepth 100000 in
set_option maxHeartbeats 64000000 in
theorem lawDoStep (A : Option Addr) (cap : Nat) (xs : List Stp) (D : Option Addr) (dcap : Nat) (ctx : List Int) (A1 A2 A3 : Option Addr) (c1 c2 c3 : Nat) (m : Mch) (w : World) (hm : xs.length ≤ 9223372036854775807) (hl : Lies w A xs) (hm2 : ctx.length ≤ 9223372036854775807) (hl2 : ILies w D ctx)
    (hm3 : m.r.length ≤ 9223372036854775807 ∧ m.c.length ≤ 9223372036854775807 ∧ m.s.length ≤ 9223372036854775807) (hl3 : MLies w A1 A2 A3 m) (ht : Op.PowTab w) :
    Calls Tryd.prog 5 #[.slice A xs.length cap, .slice D ctx.length dcap, .agg #[.int .i64 m.a, .slice A1 m.r.length c1, .slice A2 m.c.length c2, .slice A3 m.s.length c3]] w fun e w' => e = .returned (.bool true) ∧ Below w.heap.size w w' := by
  obtain ⟨n, hxn⟩ : ∃ n, xs.length = n := ⟨_, rfl⟩
  rw [hxn] at hm ⊢
  have HX := Lib.hid hxn
  obtain ⟨cn, hcn⟩ : ∃ n, ctx.length = n := ⟨_, rfl⟩
  rw [hcn] at hm2 ⊢
  have HCX := Lib.hid hcn
  obtain ⟨a, ha⟩ : ∃ a, m.a = a := ⟨_, rfl⟩
  obtain ⟨n1, hn1⟩ : ∃ n, m.r.length = n := ⟨_, rfl⟩
  obtain ⟨n2, hn2⟩ : ∃ n, m.c.length = n := ⟨_, rfl⟩
  obtain ⟨n3, hn3⟩ : ∃ n, m.s.length = n := ⟨_, rfl⟩
  rw [hn1, hn2, hn3] at hm3
  rw [ha, hn1, hn2, hn3]
  have LE : Hid (Lens m n1 n2 n3) := Lib.hid ⟨hn1, hn2, hn3⟩
  have HA := Lib.hid ha
  obtain ⟨m1, m2, m3⟩ := hm3
  clear hxn hcn ha hn1 hn2 hn3
  obtain ⟨g, hg⟩ := good_bool xs
  have HG := Lib.hid hg
  have HL := Lib.hid hl
  have HD := Lib.hid hl2
  have HM := Lib.hid hl3
  have HT := Lib.hid ht
  clear hg hl hl2 hl3 ht
  obtain ⟨R, hR⟩ : ∃ R, stepD g xs ctx m = R := ⟨_, rfl⟩
  have HR := Lib.hid hR
  have RL : Hid (R.1.r.length ≤ 16 ∧ R.1.c.length ≤ 16 ∧ R.1.s.length ≤ 16) := Lib.hid (by rw [← hR]; exact stepD_lens g xs ctx m)
  clear hR
  obtain ⟨M, f, en, ok⟩ := R
  obtain ⟨da, hda⟩ : ∃ q, M.a = q := ⟨_, rfl⟩
  obtain ⟨l1, hl1⟩ : ∃ q, M.r.length = q := ⟨_, rfl⟩
  obtain ⟨l2, hl2⟩ : ∃ q, M.c.length = q := ⟨_, rfl⟩
  obtain ⟨l3, hl3⟩ : ∃ q, M.s.length = q := ⟨_, rfl⟩
  have ML : Hid (Lens M l1 l2 l3) := Lib.hid ⟨hl1, hl2, hl3⟩
  have L1 : l1 ≤ 16 ∧ l2 ≤ 16 ∧ l3 ≤ 16 := by have h := RL.out; simp only at h; rw [hl1, hl2, hl3] at h; exact h
  have GD : Hid (∀ (w : World) e w', GaveD w (M, f, en, ok) e w' → ∃ U1 U2 U3 k1 k2 k3, e = .returned (.tuple #[.agg #[.int .i64 da, .slice U1 l1 k1, .slice U2 l2 k2, .slice U3 l3 k3], .int .i64 f, .bool en, .bool ok]) ∧ RowsM w' w.heap.size U1 U2 U3 l1 l2 l3 k1 k2 k3 M ∧ Below w.heap.size w w') := Lib.hid (by
    rintro w e w' ⟨U1, U2, U3, k1, k2, k3, rfl, hr, hb⟩
    simp only [hda, hl1, hl2, hl3] at hr ⊢
    exact ⟨U1, U2, U3, k1, k2, k3, rfl, hr, hb⟩)
  clear hda hl1 hl2 hl3 RL
  have B0 := Lib.hid (below1 w (.cells #[.int .i64 a, .slice A1 n1 c1, .slice A2 n2 c2, .slice A3 n3 c3] 53))
  have KA0 : Hid (Blk (w.alloc (.cells #[.int .i64 a, .slice A1 n1 c1, .slice A2 n2 c2, .slice A3 n3 c3] 53)) w.heap.size 53 [.int .i64 a, .slice A1 n1 c1, .slice A2 n2 c2, .slice A3 n3 c3]) := Lib.hid (heap_alloc_new w _)
  by_cases hbig2 : 1048576 < cn
  · have hq : (1048576 : Int) < (cn : Int) := by omega
    go_enter Tryd.func5, Tryd.ntmps5
    go_wp2
    go_ret
    exact ⟨rfl, B0.out⟩
  have hc20 : cn ≤ 1048576 := by omega
  have hq : decide ((1048576 : Int) < (cn : Int)) = false := by simp; omega
  by_cases hbig : 1048576 < n
  · have hs : szF 1048576 n = -1 := szF_big hbig
    go_enter Tryd.func5, Tryd.ntmps5
    go_wp2_with (go_at_call 26; refine (szStepS_any _ _ _ _ _ hm (by omega) (by omega)).mono ?_; rintro e w' ⟨rfl, rfl⟩)
    go_ret
    exact ⟨rfl, B0.out⟩
  · have hs := szF_small hbig
    have hsl : szF 1048576 n ≤ 1048576 := by unfold szF; split <;> omega
    have hn : n ≤ 1048576 := by omega
    go_enter Tryd.func5, Tryd.ntmps5
    go_wp2_with fail
    generalize w.alloc (.cells #[.int .i64 a, .slice A1 n1 c1, .slice A2 n2 c2, .slice A3 n3 c3] 53) = w0 at B0 KA0 ⊢
    refine (szStepS_any _ _ _ _ _ hm (by omega) (by omega)).mono ?_
    rintro e w' ⟨rfl, rfl⟩
    generalize szF 1048576 n = sz at hs hsl ⊢
    have x0 : w0.cell? ⟨w.heap.size, 0, none⟩ = some (.int .i64 a) := KA0.out.there rfl
    have x1 : w0.cell? ⟨w.heap.size, 1, none⟩ = some (.slice A1 n1 c1) := KA0.out.there rfl
    have x2 : w0.cell? ⟨w.heap.size, 2, none⟩ = some (.slice A2 n2 c2) := KA0.out.there rfl
    have x3 : w0.cell? ⟨w.heap.size, 3, none⟩ = some (.slice A3 n3 c3) := KA0.out.there rfl
    go_wp2_with fail
    refine (szMachine_any a _ _ _ _ _ _ _ _ _ _ sz (by omega) (by omega) m1 m2 m3).mono ?_
    rintro e w1 ⟨⟨q, rfl, hq2⟩, hb⟩
    have B1 := Lib.hid (Below.tr B0.out hb)
    have KA1 := Lib.hid (KA0.out.below hb)
    clear hb B0 KA0 x0 x1 x2 x3
    by_cases hneg : q < 0
    · clear hq2
      go_wp2
      go_ret
      exact ⟨rfl, B1.out⟩
    have h1 : n1 ≤ 1048576 := by omega
    have h2 : n2 ≤ 1048576 := by omega
    have h3 : n3 ≤ 1048576 := by omega
    clear hq2
    go_wp2_with fail
    rename_i K1 hK1
    suffices key : ∀ (V : World) (b : Nat) (U1 U2 U3 : Option Addr) (k1 k2 k3 : Nat) (x39 x41 x43 x45 x46 x47 : Value), Hid (Blk V w.heap.size 53 [.int .i64 a, .slice A1 n1 c1, .slice A2 n2 c2, .slice A3 n3 c3]) → Hid (Blk V b 32 [.int .i64 da, .slice U1 l1 k1, .slice U2 l2 k2, .slice U3 l3 k3]) → Hid (RowsM V w.heap.size U1 U2 U3 l1 l2 l3 k1 k2 k3 M) → Hid (w.heap.size < b) → Hid (Below w.heap.size w V) →
        K1 { tmps := #[Value.slice A n cap, Value.slice D cn dcap, Value.agg #[Value.int IntKind.i64 a, Value.slice A1 n1 c1, Value.slice A2 n2 c2, Value.slice A3 n3 c3], undef, undef, Value.pointer (some { block := w.heap.size, off := 0 }), Value.bool false, Value.int IntKind.i64 q, .pointer (some ⟨b, 0, none⟩), Value.int IntKind.i64 f, Value.bool en, Value.bool ok, undef, undef, undef, undef, undef, undef, undef, undef, undef, undef, undef, undef, undef, undef, Value.slice D cn dcap, Value.int IntKind.i64 ↑cn, Value.bool false, Value.slice A n cap, Value.int IntKind.i64 1048576, Value.int IntKind.i64 sz, Value.int IntKind.i64 sz, Value.bool (decide (sz < 0)), Value.agg #[Value.int IntKind.i64 a, Value.slice A1 n1 c1, Value.slice A2 n2 c2, Value.slice A3 n3 c3], Value.int IntKind.i64 sz, Value.int IntKind.i64 q, Value.int IntKind.i64 q, Value.bool (decide (q < 0)), x39, Value.slice A n cap, x41, Value.slice D cn dcap, x43, Value.agg #[Value.int IntKind.i64 a, Value.slice A1 n1 c1, Value.slice A2 n2 c2, Value.slice A3 n3 c3], x45, x46, x47, Value.int IntKind.i64 f, Value.bool en, Value.bool ok, undef, undef, undef, undef, undef, undef, undef, undef, undef, undef, undef, undef, undef, undef, undef, undef, undef, undef, undef, undef, undef, undef, undef, undef, undef, undef, undef, undef, undef, undef, undef, undef, undef, undef, undef, undef, undef, undef, undef, undef, undef, undef, undef, undef, undef, undef, undef, undef, undef, undef, undef, undef, undef, undef, undef, undef, undef, undef, undef, undef, undef, undef, undef, undef, undef, undef, undef, undef, undef, undef, undef, undef, undef, undef, undef, undef, undef, undef, undef, undef, undef, undef, undef, undef, undef, undef, undef, undef, undef, undef, undef, undef, undef, undef, undef, undef, undef, undef, undef, undef, undef, undef, undef, undef, undef, undef, undef, undef, undef, undef, undef, undef, undef, undef, undef, undef, undef, undef, undef, undef, undef, undef, undef, undef, undef, undef, undef, undef, undef, undef, undef], defers := [] } V by
      refine wp_region_held_drew (S := fun W => W.cell? ⟨w.heap.size, 0, none⟩ = some (.int .i64 a) ∧ W.cell? ⟨w.heap.size, 1, none⟩ = some (.slice A1 n1 c1) ∧ W.cell? ⟨w.heap.size, 2, none⟩ = some (.slice A2 n2 c2) ∧ W.cell? ⟨w.heap.size, 3, none⟩ = some (.slice A3 n3 c3)) (by kernel_rfl) ?_ (fun hHeld => ?_)
      · exact ld_S KA1.out
      have KAs0 : Hid (Blk (World.drew w1) w.heap.size 53 [.int .i64 a, .slice A1 n1 c1, .slice A2 n2 c2, .slice A3 n3 c3]) := KA1
      have Bs0 : Hid (Below w.heap.size w (World.drew w1)) := Lib.hid B1.out.drew
      have BRsz : Hid (Below w1.heap.size w1 (World.drew w1)) := Lib.hid (Below.refl _ _).drew
      clear KA1 B1
      generalize World.drew w1 = Vs0 at KAs0 Bs0 BRsz hHeld ⊢
      have BRs0 : Hid (Below Vs0.heap.size Vs0 Vs0) := Lib.hid (Below.refl _ _)
      refine wpAnyH_take (i := 0) (v := ?_) rfl (by kernel_rfl) (by kernel_rfl) (by kernel_rfl) (fun _ _ _ h => h) (Or.inl ⟨by rfl, ?_⟩) (by assumption) ?_
      rotate_left
      · intro W hSw
        try dsimp only at hSw
        go_simp
        try with_reducible rfl
      try simp only [Act.put, List.setIfInBounds_toArray]
      refine wpAnyH_take (i := 2) (v := ?_) rfl (by kernel_rfl) (by kernel_rfl) (by kernel_rfl) (fun _ _ _ h => h) (Or.inl ⟨by rfl, ?_⟩) (by assumption) ?_
      rotate_left
      · intro W hSw
        try dsimp only at hSw
        go_simp
        try with_reducible rfl
      try simp only [Act.put]
      refine wpAnyH_take (i := 4) (v := ?_) rfl (by kernel_rfl) (by kernel_rfl) (by kernel_rfl) (fun _ _ _ h => h) (Or.inl ⟨by rfl, ?_⟩) (by assumption) ?_
      rotate_left
      · intro W hSw
        try dsimp only at hSw
        go_simp
        try with_reducible rfl
      try simp only [Act.put]
      refine wpAnyH_ready (rs := [1, 12]) (by kernel_rfl) (by simp) ?_
      refine AllReadyH.cons rfl (fun K hK => ?_) (AllReadyH.cons rfl (fun K hK => ?_) AllReadyH.nil)
      · go_simp
        refine (toStepS_n _ _ _ xs _ (Lib.hid (HL.out.below Bs0.out)) HX hn).mono ?_
        rintro e Vs1 ⟨rfl, hk, hb⟩
        have P1s1 := Lib.hid hk
        clear hk
        have Bs1 := Lib.hid (Below.tr Bs0.out hb)
        have BRs1 := Lib.hid (Below.tr BRs0.out hb)
        have KAs1 := Lib.hid (KAs0.out.below hb)
        clear hb
        refine hK.out _ _ ?_ (fun hS1 => ?_)
        · exact ld_S KAs1.out
        clear hK K
        try simp only [Act.put, List.setIfInBounds_toArray, List.set_cons_zero, List.set_cons_succ]
        refine wpAnyH_ready (rs := [3, 12]) (by kernel_rfl) (by simp) ?_
        refine AllReadyH.cons rfl (fun K hK => ?_) (AllReadyH.cons rfl (fun K hK => ?_) AllReadyH.nil)
        · go_simp
          refine (toIntS_any _ _ _ ctx _ (Lib.hid (HD.out.below Bs1.out)) HCX hc20).mono ?_
          rintro e Vs2 ⟨rfl, hk, hb⟩
          have P2s2 := Lib.hid hk
          clear hk
          have Bs2 := Lib.hid (Below.tr Bs1.out hb)
          have BRs2 := Lib.hid (Below.tr BRs1.out hb)
          have KAs2 := Lib.hid (KAs1.out.below hb)
          have P1s2 := Lib.hid (P1s1.out.below hb)
          clear hb
          refine hK.out _ _ ?_ (fun hS2 => ?_)
          · exact ld_S KAs2.out
          clear hK K
          try simp only [Act.put, List.setIfInBounds_toArray, List.set_cons_zero, List.set_cons_succ]
          refine wpAnyH_ready (rs := [5, 12]) (by kernel_rfl) (by simp) ?_
          refine AllReadyH.cons rfl (fun K hK => ?_) (AllReadyH.cons rfl (fun K hK => ?_) AllReadyH.nil)
          · go_simp
            refine (toMachine_any a _ _ _ _ _ _ _ _ _ m _ (Lib.hid (HM.out.below Bs2.out)) LE h1 h2 h3).mono ?_
            rintro e Vs3 ⟨y1s, y2s, y3s, rfl, hk, -, hb⟩
            have P3s3 := Lib.hid hk
            clear hk
            have Bs3 := Lib.hid (Below.tr Bs2.out hb)
            have BRs3 := Lib.hid (Below.tr BRs2.out hb)
            have KAs3 := Lib.hid (KAs2.out.below hb)
            have P1s3 := Lib.hid (P1s2.out.below hb)
            have P2s3 := Lib.hid (P2s2.out.below hb)
            clear hb
            refine hK.out _ _ ?_ (fun hS3 => ?_)
            · exact ld_S KAs3.out
            clear hK K
            try simp only [Act.put, List.setIfInBounds_toArray, List.set_cons_zero, List.set_cons_succ]
            refine wpAnyH_ready (rs := [6, 12]) (by kernel_rfl) (by simp) ?_
            refine AllReadyH.cons rfl (fun K hK => ?_) (AllReadyH.cons rfl (fun K hK => ?_) AllReadyH.nil)
            · go_simp
              refine (specD_any _ _ _ xs _ _ _ ctx a _ _ _ n1 n2 n3 _ _ _ m g _ HG (Lib.hid P1s3.out.lies) HX hn (Lib.hid P2s3.out.ilies) HCX hc20 HA (Lib.hid P3s3.out.lies) LE h1 h2 h3).mono ?_
              rw [HR.out]
              intro e Vs4 hgd
              obtain ⟨U1s, U2s, U3s, k1s, k2s, k3s, rfl, hk, hb⟩ := GD.out _ _ _ hgd
              clear hgd
              have P4s4 := Lib.hid (hk.base Bs3.out.size)
              clear hk
              have Bs4 := Lib.hid (Below.tr Bs3.out hb)
              have BRs4 := Lib.hid (Below.tr BRs3.out hb)
              have KAs4 := Lib.hid (KAs3.out.below hb)
              have P1s4 := Lib.hid (P1s3.out.below hb)
              have P2s4 := Lib.hid (P2s3.out.below hb)
              have P3s4 := Lib.hid (P3s3.out.below hb)
              clear hb
              refine hK.out _ _ ?_ (fun hS4 => ?_)
              · exact ld_S KAs4.out
              clear hK K
              try simp only [Act.put, List.setIfInBounds_toArray, List.set_cons_zero, List.set_cons_succ]
              refine wpAnyH_take (i := 7) (v := ?_) rfl (by kernel_rfl) (by kernel_rfl) (by kernel_rfl) (fun _ _ _ h => h) (Or.inl ⟨by rfl, ?_⟩) (by assumption) ?_
              rotate_left
              · intro W hSw
                try dsimp only at hSw
                go_simp
                try with_reducible rfl
              try simp only [Act.put, List.setIfInBounds_toArray]
              refine wpAnyH_take (i := 8) (v := ?_) rfl (by kernel_rfl) (by kernel_rfl) (by kernel_rfl) (fun _ _ _ h => h) (Or.inl ⟨by rfl, ?_⟩) (by assumption) ?_
              rotate_left
              · intro W hSw
                try dsimp only at hSw
                go_simp
                try with_reducible rfl
              try simp only [Act.put]
              refine wpAnyH_take (i := 9) (v := ?_) rfl (by kernel_rfl) (by kernel_rfl) (by kernel_rfl) (fun _ _ _ h => h) (Or.inl ⟨by rfl, ?_⟩) (by assumption) ?_
              rotate_left
              · intro W hSw
                try dsimp only at hSw
                go_simp
                try with_reducible rfl
              try simp only [Act.put]
              refine wpAnyH_take (i := 10) (v := ?_) rfl (by kernel_rfl) (by kernel_rfl) (by kernel_rfl) (fun _ _ _ h => h) (Or.inl ⟨by rfl, ?_⟩) (by assumption) ?_
              rotate_left
              · intro W hSw
                try dsimp only at hSw
                go_simp
                try with_reducible rfl
              try simp only [Act.put]
              refine wpAnyH_take (i := 11) (v := ?_) rfl (by kernel_rfl) (by kernel_rfl) (by kernel_rfl) (fun _ _ _ h => h) (Or.inl ⟨by rfl, ?_⟩) (by assumption) ?_
              rotate_left
              · intro W hSw
                try dsimp only at hSw
                go_simp
                try with_reducible rfl
              try simp only [Act.put]
              refine wpAnyH_ready (rs := [12]) (by kernel_rfl) (by simp) ?_
              refine AllReadyH.cons rfl (fun K hK => ?_) AllReadyH.nil
              · go_simp
                have hb := below1 Vs4 (.cells #[.int .i64 0, .slice none 0 0, .slice none 0 0, .slice none 0 0] 32)
                have KWs5 : Hid (Blk (Vs4.alloc (.cells #[.int .i64 0, .slice none 0 0, .slice none 0 0, .slice none 0 0] 32)) Vs4.heap.size 32 [.int .i64 0, .slice none 0 0, .slice none 0 0, .slice none 0 0]) := Lib.hid (heap_alloc_new Vs4 _)
                have Bs5 := Lib.hid (Below.tr Bs4.out hb)
                have BRs5 := Lib.hid (Below.tr BRs4.out hb)
                have KAs5 := Lib.hid (KAs4.out.below hb)
                have P1s5 := Lib.hid (P1s4.out.below hb)
                have P2s5 := Lib.hid (P2s4.out.below hb)
                have P3s5 := Lib.hid (P3s4.out.below hb)
                have P4s5 := Lib.hid (P4s4.out.below hb)
                have BBs5 : Hid (w.heap.size < Vs4.heap.size) := Lib.hid KAs4.out.lt
                have NXs5 : Hid (∀ g, MB U1s U2s U3s l1 l2 l3 k1s k2s k3s g → g ≠ Vs4.heap.size) := Lib.hid (fun g hg => by have := (P4s4.out.ge hg).2; omega)
                clear hb
                obtain ⟨bs, hbs⟩ : ∃ q, Vs4.heap.size = q := ⟨_, rfl⟩
                have GEs5 : Hid (Vs0.heap.size ≤ bs) := Lib.hid (by have := BRs4.out.size; omega)
                rw [hbs] at KWs5 BBs5 NXs5 ⊢
                generalize Vs4.alloc (.cells #[.int .i64 0, .slice none 0 0, .slice none 0 0, .slice none 0 0] 32) = Vs5 at KWs5 Bs5 BRs5 KAs5 P1s5 P2s5 P3s5 P4s5 ⊢
                clear hbs
                refine hK.out _ _ ?_ (fun hS5 => ?_)
                · exact ld_S KAs5.out
                clear hK K
                try simp only [Act.put, List.setIfInBounds_toArray, List.set_cons_zero, List.set_cons_succ]
                have v0 : Vs5.cell? ⟨bs, 0, none⟩ = some (.int .i64 0) := KWs5.out.there rfl
                have z0 := KWs5.out.frozen 0
                have v1 : Vs5.cell? ⟨bs, 1, none⟩ = some (.slice none 0 0) := KWs5.out.there rfl
                have z1 := KWs5.out.frozen 1
                have v2 : Vs5.cell? ⟨bs, 2, none⟩ = some (.slice none 0 0) := KWs5.out.there rfl
                have z2 := KWs5.out.frozen 2
                have v3 : Vs5.cell? ⟨bs, 3, none⟩ = some (.slice none 0 0) := KWs5.out.there rfl
                have z3 := KWs5.out.frozen 3
                refine wpAnyH_ready (rs := [13]) (by kernel_rfl) (by simp) ?_
                refine AllReadyH.cons rfl (fun K hK => ?_) AllReadyH.nil
                go_simp
                refine hK.out _ _ ?_ (fun hS2 => ?_)
                · exact ld_S ((((KAs5.out.far (by have := BBs5.out; omega) _).far (by have := BBs5.out; omega) _).far (by have := BBs5.out; omega) _).far (by have := BBs5.out; omega) _)
                clear hK K
                refine wpAnyH_take (i := 14) (v := ?_) rfl (by kernel_rfl) (by kernel_rfl) (by kernel_rfl) (fun _ _ _ h => h) (Or.inl ⟨by rfl, ?_⟩) (by assumption) ?_
                rotate_left
                · intro W hSw
                  try dsimp only at hSw
                  go_simp
                  try with_reducible rfl
                try simp only [Act.put, List.setIfInBounds_toArray]
                refine wpAnyH_take (i := 15) (v := ?_) rfl (by kernel_rfl) (by kernel_rfl) (by kernel_rfl) (fun _ _ _ h => h) (Or.inl ⟨by rfl, ?_⟩) (by assumption) ?_
                rotate_left
                · intro W hSw
                  try dsimp only at hSw
                  go_simp
                  try with_reducible rfl
                try simp only [Act.put]
                refine wpAnyH_take (i := 16) (v := ?_) rfl (by kernel_rfl) (by kernel_rfl) (by kernel_rfl) (fun _ _ _ h => h) (Or.inl ⟨by rfl, ?_⟩) (by assumption) ?_
                rotate_left
                · intro W hSw
                  try dsimp only at hSw
                  go_simp
                  try with_reducible rfl
                try simp only [Act.put]
                refine wpAnyH_done (by kernel_rfl) ?_ _
                clear hK1
                go_simp
                exact key _ bs U1s U2s U3s k1s k2s k3s _ _ _ _ _ _ (Lib.hid ((((KAs5.out.far (by have := BBs5.out; omega) _).far (by have := BBs5.out; omega) _).far (by have := BBs5.out; omega) _).far (by have := BBs5.out; omega) _)) (Lib.hid (box_set KWs5.out (.int .i64 da) (.slice U1s l1 k1s) (.slice U2s l2 k2s) (.slice U3s l3 k3s))) (Lib.hid (P4s5.out.kept (kept_set4 Vs5 bs (.int .i64 da) (.slice U1s l1 k1s) (.slice U2s l2 k2s) (.slice U3s l3 k3s)) (fun g hg q => NXs5.out g hg q))) BBs5 (Lib.hid ((((Bs5.out.setCell (p := ⟨bs, 0, none⟩) (Nat.le_of_lt BBs5.out) _).setCell (p := ⟨bs, 1, none⟩) (Nat.le_of_lt BBs5.out) _).setCell (p := ⟨bs, 2, none⟩) (Nat.le_of_lt BBs5.out) _).setCell (p := ⟨bs, 3, none⟩) (Nat.le_of_lt BBs5.out) _))
            · go_simp
              have hb := below1 Vs3 (.cells #[.int .i64 0, .slice none 0 0, .slice none 0 0, .slice none 0 0] 32)
              have KWs4 : Hid (Blk (Vs3.alloc (.cells #[.int .i64 0, .slice none 0 0, .slice none 0 0, .slice none 0 0] 32)) Vs3.heap.size 32 [.int .i64 0, .slice none 0 0, .slice none 0 0, .slice none 0 0]) := Lib.hid (heap_alloc_new Vs3 _)
              have Bs4 := Lib.hid (Below.tr Bs3.out hb)
              have BRs4 := Lib.hid (Below.tr BRs3.out hb)
              have KAs4 := Lib.hid (KAs3.out.below hb)
              have P1s4 := Lib.hid (P1s3.out.below hb)
              have P2s4 := Lib.hid (P2s3.out.below hb)
              have P3s4 := Lib.hid (P3s3.out.below hb)
              have BBs4 : Hid (w.heap.size < Vs3.heap.size) := Lib.hid KAs3.out.lt
              clear hb
              obtain ⟨bs, hbs⟩ : ∃ q, Vs3.heap.size = q := ⟨_, rfl⟩
              have GEs4 : Hid (Vs0.heap.size ≤ bs) := Lib.hid (by have := BRs3.out.size; omega)
              rw [hbs] at KWs4 BBs4 ⊢
              generalize Vs3.alloc (.cells #[.int .i64 0, .slice none 0 0, .slice none 0 0, .slice none 0 0] 32) = Vs4 at KWs4 Bs4 BRs4 KAs4 P1s4 P2s4 P3s4 ⊢
              clear hbs
              refine hK.out _ _ ?_ (fun hS4 => ?_)
              · exact ld_S KAs4.out
              clear hK K
              try simp only [Act.put, List.setIfInBounds_toArray, List.set_cons_zero, List.set_cons_succ]
              refine wpAnyH_ready (rs := [6]) (by kernel_rfl) (by simp) ?_
              refine AllReadyH.cons rfl (fun K hK => ?_) AllReadyH.nil
              · go_simp
                refine (specD_any _ _ _ xs _ _ _ ctx a _ _ _ n1 n2 n3 _ _ _ m g _ HG (Lib.hid P1s4.out.lies) HX hn (Lib.hid P2s4.out.ilies) HCX hc20 HA (Lib.hid P3s4.out.lies) LE h1 h2 h3).mono ?_
                rw [HR.out]
                intro e Vs5 hgd
                obtain ⟨U1s, U2s, U3s, k1s, k2s, k3s, rfl, hk, hb⟩ := GD.out _ _ _ hgd
                clear hgd
                have P4s5 := Lib.hid (hk.base Bs4.out.size)
                have NXs5 : Hid (∀ g, MB U1s U2s U3s l1 l2 l3 k1s k2s k3s g → g ≠ bs) := Lib.hid (fun g hg => by have := (hk.ge hg).1; have := KWs4.out.lt; omega)
                clear hk
                have Bs5 := Lib.hid (Below.tr Bs4.out hb)
                have BRs5 := Lib.hid (Below.tr BRs4.out hb)
                have KAs5 := Lib.hid (KAs4.out.below hb)
                have P1s5 := Lib.hid (P1s4.out.below hb)
                have P2s5 := Lib.hid (P2s4.out.below hb)
                have P3s5 := Lib.hid (P3s4.out.below hb)
                have KWs5 := Lib.hid (KWs4.out.below hb)
                have BBs5 := BBs4
                have GEs5 := GEs4
                clear hb
                refine hK.out _ _ ?_ (fun hS5 => ?_)
                · exact ld_S KAs5.out
                clear hK K
                try simp only [Act.put, List.setIfInBounds_toArray, List.set_cons_zero, List.set_cons_succ]
                refine wpAnyH_take (i := 7) (v := ?_) rfl (by kernel_rfl) (by kernel_rfl) (by kernel_rfl) (fun _ _ _ h => h) (Or.inl ⟨by rfl, ?_⟩) (by assumption) ?_
                rotate_left
                · intro W hSw
                  try dsimp only at hSw
                  go_simp
                  try with_reducible rfl
                try simp only [Act.put, List.setIfInBounds_toArray]
                refine wpAnyH_take (i := 8) (v := ?_) rfl (by kernel_rfl) (by kernel_rfl) (by kernel_rfl) (fun _ _ _ h => h) (Or.inl ⟨by rfl, ?_⟩) (by assumption) ?_
                rotate_left
                · intro W hSw
                  try dsimp only at hSw
                  go_simp
                  try with_reducible rfl
                try simp only [Act.put]
                refine wpAnyH_take (i := 9) (v := ?_) rfl (by kernel_rfl) (by kernel_rfl) (by kernel_rfl) (fun _ _ _ h => h) (Or.inl ⟨by rfl, ?_⟩) (by assumption) ?_
                rotate_left
                · intro W hSw
                  try dsimp only at hSw
                  go_simp
                  try with_reducible rfl
                try simp only [Act.put]
                refine wpAnyH_take (i := 10) (v := ?_) rfl (by kernel_rfl) (by kernel_rfl) (by kernel_rfl) (fun _ _ _ h => h) (Or.inl ⟨by rfl, ?_⟩) (by assumption) ?_
                rotate_left
                · intro W hSw
                  try dsimp only at hSw
                  go_simp
                  try with_reducible rfl
                try simp only [Act.put]
                refine wpAnyH_take (i := 11) (v := ?_) rfl (by kernel_rfl) (by kernel_rfl) (by kernel_rfl) (fun _ _ _ h => h) (Or.inl ⟨by rfl, ?_⟩) (by assumption) ?_
                rotate_left
                · intro W hSw
                  try dsimp only at hSw
                  go_simp
                  try with_reducible rfl
                try simp only [Act.put]
                have v0 : Vs5.cell? ⟨bs, 0, none⟩ = some (.int .i64 0) := KWs5.out.there rfl
                have z0 := KWs5.out.frozen 0
                have v1 : Vs5.cell? ⟨bs, 1, none⟩ = some (.slice none 0 0) := KWs5.out.there rfl
                have z1 := KWs5.out.frozen 1
                have v2 : Vs5.cell? ⟨bs, 2, none⟩ = some (.slice none 0 0) := KWs5.out.there rfl
                have z2 := KWs5.out.frozen 2
                have v3 : Vs5.cell? ⟨bs, 3, none⟩ = some (.slice none 0 0) := KWs5.out.there rfl
                have z3 := KWs5.out.frozen 3
                refine wpAnyH_ready (rs := [13]) (by kernel_rfl) (by simp) ?_
                refine AllReadyH.cons rfl (fun K hK => ?_) AllReadyH.nil
                go_simp
                refine hK.out _ _ ?_ (fun hS2 => ?_)
                · exact ld_S ((((KAs5.out.far (by have := BBs5.out; omega) _).far (by have := BBs5.out; omega) _).far (by have := BBs5.out; omega) _).far (by have := BBs5.out; omega) _)
                clear hK K
                refine wpAnyH_take (i := 14) (v := ?_) rfl (by kernel_rfl) (by kernel_rfl) (by kernel_rfl) (fun _ _ _ h => h) (Or.inl ⟨by rfl, ?_⟩) (by assumption) ?_
                rotate_left
                · intro W hSw
                  try dsimp only at hSw
                  go_simp
                  try with_reducible rfl
                try simp only [Act.put, List.setIfInBounds_toArray]
                refine wpAnyH_take (i := 15) (v := ?_) rfl (by kernel_rfl) (by kernel_rfl) (by kernel_rfl) (fun _ _ _ h => h) (Or.inl ⟨by rfl, ?_⟩) (by assumption) ?_
                rotate_left
                · intro W hSw
                  try dsimp only at hSw
                  go_simp
                  try with_reducible rfl
                try simp only [Act.put]
                refine wpAnyH_take (i := 16) (v := ?_) rfl (by kernel_rfl) (by kernel_rfl) (by kernel_rfl) (fun _ _ _ h => h) (Or.inl ⟨by rfl, ?_⟩) (by assumption) ?_
                rotate_left
                · intro W hSw
                  try dsimp only at hSw
                  go_simp
                  try with_reducible rfl
                try simp only [Act.put]
                refine wpAnyH_done (by kernel_rfl) ?_ _
                clear hK1
                go_simp
                exact key _ bs U1s U2s U3s k1s k2s k3s _ _ _ _ _ _ (Lib.hid ((((KAs5.out.far (by have := BBs5.out; omega) _).far (by have := BBs5.out; omega) _).far (by have := BBs5.out; omega) _).far (by have := BBs5.out; omega) _)) (Lib.hid (box_set KWs5.out (.int .i64 da) (.slice U1s l1 k1s) (.slice U2s l2 k2s) (.slice U3s l3 k3s))) (Lib.hid (P4s5.out.kept (kept_set4 Vs5 bs (.int .i64 da) (.slice U1s l1 k1s) (.slice U2s l2 k2s) (.slice U3s l3 k3s)) (fun g hg q => NXs5.out g hg q))) BBs5 (Lib.hid ((((Bs5.out.setCell (p := ⟨bs, 0, none⟩) (Nat.le_of_lt BBs5.out) _).setCell (p := ⟨bs, 1, none⟩) (Nat.le_of_lt BBs5.out) _).setCell (p := ⟨bs, 2, none⟩) (Nat.le_of_lt BBs5.out) _).setCell (p := ⟨bs, 3, none⟩) (Nat.le_of_lt BBs5.out) _))
          · go_simp
            have hb := below1 Vs2 (.cells #[.int .i64 0, .slice none 0 0, .slice none 0 0, .slice none 0 0] 32)
            have KWs3 : Hid (Blk (Vs2.alloc (.cells #[.int .i64 0, .slice none 0 0, .slice none 0 0, .slice none 0 0] 32)) Vs2.heap.size 32 [.int .i64 0, .slice none 0 0, .slice none 0 0, .slice none 0 0]) := Lib.hid (heap_alloc_new Vs2 _)
            have Bs3 := Lib.hid (Below.tr Bs2.out hb)
            have BRs3 := Lib.hid (Below.tr BRs2.out hb)
            have KAs3 := Lib.hid (KAs2.out.below hb)
            have P1s3 := Lib.hid (P1s2.out.below hb)
            have P2s3 := Lib.hid (P2s2.out.below hb)
            have BBs3 : Hid (w.heap.size < Vs2.heap.size) := Lib.hid KAs2.out.lt
            clear hb
            obtain ⟨bs, hbs⟩ : ∃ q, Vs2.heap.size = q := ⟨_, rfl⟩
            have GEs3 : Hid (Vs0.heap.size ≤ bs) := Lib.hid (by have := BRs2.out.size; omega)
            rw [hbs] at KWs3 BBs3 ⊢
            generalize Vs2.alloc (.cells #[.int .i64 0, .slice none 0 0, .slice none 0 0, .slice none 0 0] 32) = Vs3 at KWs3 Bs3 BRs3 KAs3 P1s3 P2s3 ⊢
            clear hbs
            refine hK.out _ _ ?_ (fun hS3 => ?_)
            · exact ld_S KAs3.out
            clear hK K
            try simp only [Act.put, List.setIfInBounds_toArray, List.set_cons_zero, List.set_cons_succ]
            refine wpAnyH_ready (rs := [5]) (by kernel_rfl) (by simp) ?_
            refine AllReadyH.cons rfl (fun K hK => ?_) AllReadyH.nil
            · go_simp
              refine (toMachine_any a _ _ _ _ _ _ _ _ _ m _ (Lib.hid (HM.out.below Bs3.out)) LE h1 h2 h3).mono ?_
              rintro e Vs4 ⟨y1s, y2s, y3s, rfl, hk, -, hb⟩
              have P3s4 := Lib.hid hk
              clear hk
              have Bs4 := Lib.hid (Below.tr Bs3.out hb)
              have BRs4 := Lib.hid (Below.tr BRs3.out hb)
              have KAs4 := Lib.hid (KAs3.out.below hb)
              have P1s4 := Lib.hid (P1s3.out.below hb)
              have P2s4 := Lib.hid (P2s3.out.below hb)
              have KWs4 := Lib.hid (KWs3.out.below hb)
              have BBs4 := BBs3
              have GEs4 := GEs3
              clear hb
              refine hK.out _ _ ?_ (fun hS4 => ?_)
              · exact ld_S KAs4.out
              clear hK K
              try simp only [Act.put, List.setIfInBounds_toArray, List.set_cons_zero, List.set_cons_succ]
              refine wpAnyH_ready (rs := [6]) (by kernel_rfl) (by simp) ?_
              refine AllReadyH.cons rfl (fun K hK => ?_) AllReadyH.nil
              · go_simp
                refine (specD_any _ _ _ xs _ _ _ ctx a _ _ _ n1 n2 n3 _ _ _ m g _ HG (Lib.hid P1s4.out.lies) HX hn (Lib.hid P2s4.out.ilies) HCX hc20 HA (Lib.hid P3s4.out.lies) LE h1 h2 h3).mono ?_
                rw [HR.out]
                intro e Vs5 hgd
                obtain ⟨U1s, U2s, U3s, k1s, k2s, k3s, rfl, hk, hb⟩ := GD.out _ _ _ hgd
                clear hgd
                have P4s5 := Lib.hid (hk.base Bs4.out.size)
                have NXs5 : Hid (∀ g, MB U1s U2s U3s l1 l2 l3 k1s k2s k3s g → g ≠ bs) := Lib.hid (fun g hg => by have := (hk.ge hg).1; have := KWs4.out.lt; omega)
                clear hk
                have Bs5 := Lib.hid (Below.tr Bs4.out hb)
                have BRs5 := Lib.hid (Below.tr BRs4.out hb)
                have KAs5 := Lib.hid (KAs4.out.below hb)
                have P1s5 := Lib.hid (P1s4.out.below hb)
                have P2s5 := Lib.hid (P2s4.out.below hb)
                have P3s5 := Lib.hid (P3s4.out.below hb)
                have KWs5 := Lib.hid (KWs4.out.below hb)
                have BBs5 := BBs4
                have GEs5 := GEs4
                clear hb
                refine hK.out _ _ ?_ (fun hS5 => ?_)
                · exact ld_S KAs5.out
                clear hK K
                try simp only [Act.put, List.setIfInBounds_toArray, List.set_cons_zero, List.set_cons_succ]
                refine wpAnyH_take (i := 7) (v := ?_) rfl (by kernel_rfl) (by kernel_rfl) (by kernel_rfl) (fun _ _ _ h => h) (Or.inl ⟨by rfl, ?_⟩) (by assumption) ?_
                rotate_left
                · intro W hSw
                  try dsimp only at hSw
                  go_simp
                  try with_reducible rfl
                try simp only [Act.put, List.setIfInBounds_toArray]
                refine wpAnyH_take (i := 8) (v := ?_) rfl (by kernel_rfl) (by kernel_rfl) (by kernel_rfl) (fun _ _ _ h => h) (Or.inl ⟨by rfl, ?_⟩) (by assumption) ?_
                rotate_left
                · intro W hSw
                  try dsimp only at hSw
                  go_simp
                  try with_reducible rfl
                try simp only [Act.put]
                refine wpAnyH_take (i := 9) (v := ?_) rfl (by kernel_rfl) (by kernel_rfl) (by kernel_rfl) (fun _ _ _ h => h) (Or.inl ⟨by rfl, ?_⟩) (by assumption) ?_
                rotate_left
                · intro W hSw
                  try dsimp only at hSw
                  go_simp
                  try with_reducible rfl
                try simp only [Act.put]
                refine wpAnyH_take (i := 10) (v := ?_) rfl (by kernel_rfl) (by kernel_rfl) (by kernel_rfl) (fun _ _ _ h => h) (Or.inl ⟨by rfl, ?_⟩) (by assumption) ?_
                rotate_left
                · intro W hSw
                  try dsimp only at hSw
                  go_simp
                  try with_reducible rfl
                try simp only [Act.put]
                refine wpAnyH_take (i := 11) (v := ?_) rfl (by kernel_rfl) (by kernel_rfl) (by kernel_rfl) (fun _ _ _ h => h) (Or.inl ⟨by rfl, ?_⟩) (by assumption) ?_
                rotate_left
                · intro W hSw
                  try dsimp only at hSw
                  go_simp
                  try with_reducible rfl
                try simp only [Act.put]
                have v0 : Vs5.cell? ⟨bs, 0, none⟩ = some (.int .i64 0) := KWs5.out.there rfl
                have z0 := KWs5.out.frozen 0
                have v1 : Vs5.cell? ⟨bs, 1, none⟩ = some (.slice none 0 0) := KWs5.out.there rfl
                have z1 := KWs5.out.frozen 1
                have v2 : Vs5.cell? ⟨bs, 2, none⟩ = some (.slice none 0 0) := KWs5.out.there rfl
                have z2 := KWs5.out.frozen 2
                have v3 : Vs5.cell? ⟨bs, 3, none⟩ = some (.slice none 0 0) := KWs5.out.there rfl
                have z3 := KWs5.out.frozen 3
                refine wpAnyH_ready (rs := [13]) (by kernel_rfl) (by simp) ?_
                refine AllReadyH.cons rfl (fun K hK => ?_) AllReadyH.nil
                go_simp
                refine hK.out _ _ ?_ (fun hS2 => ?_)
                · exact ld_S ((((KAs5.out.far (by have := BBs5.out; omega) _).far (by have := BBs5.out; omega) _).far (by have := BBs5.out; omega) _).far (by have := BBs5.out; omega) _)
                clear hK K
                refine wpAnyH_take (i := 14) (v := ?_) rfl (by kernel_rfl) (by kernel_rfl) (by kernel_rfl) (fun _ _ _ h => h) (Or.inl ⟨by rfl, ?_⟩) (by assumption) ?_
                rotate_left
                · intro W hSw
                  try dsimp only at hSw
                  go_simp
                  try with_reducible rfl
                try simp only [Act.put, List.setIfInBounds_toArray]
                refine wpAnyH_take (i := 15) (v := ?_) rfl (by kernel_rfl) (by kernel_rfl) (by kernel_rfl) (fun _ _ _ h => h) (Or.inl ⟨by rfl, ?_⟩) (by assumption) ?_
                rotate_left
                · intro W hSw
                  try dsimp only at hSw
                  go_simp
                  try with_reducible rfl
                try simp only [Act.put]
                refine wpAnyH_take (i := 16) (v := ?_) rfl (by kernel_rfl) (by kernel_rfl) (by kernel_rfl) (fun _ _ _ h => h) (Or.inl ⟨by rfl, ?_⟩) (by assumption) ?_
                rotate_left
                · intro W hSw
                  try dsimp only at hSw
                  go_simp
                  try with_reducible rfl
                try simp only [Act.put]
                refine wpAnyH_done (by kernel_rfl) ?_ _
                clear hK1
                go_simp
                exact key _ bs U1s U2s U3s k1s k2s k3s _ _ _ _ _ _ (Lib.hid ((((KAs5.out.far (by have := BBs5.out; omega) _).far (by have := BBs5.out; omega) _).far (by have := BBs5.out; omega) _).far (by have := BBs5.out; omega) _)) (Lib.hid (box_set KWs5.out (.int .i64 da) (.slice U1s l1 k1s) (.slice U2s l2 k2s) (.slice U3s l3 k3s))) (Lib.hid (P4s5.out.kept (kept_set4 Vs5 bs (.int .i64 da) (.slice U1s l1 k1s) (.slice U2s l2 k2s) (.slice U3s l3 k3s)) (fun g hg q => NXs5.out g hg q))) BBs5 (Lib.hid ((((Bs5.out.setCell (p := ⟨bs, 0, none⟩) (Nat.le_of_lt BBs5.out) _).setCell (p := ⟨bs, 1, none⟩) (Nat.le_of_lt BBs5.out) _).setCell (p := ⟨bs, 2, none⟩) (Nat.le_of_lt BBs5.out) _).setCell (p := ⟨bs, 3, none⟩) (Nat.le_of_lt BBs5.out) _))
        · go_simp
          have hb := below1 Vs1 (.cells #[.int .i64 0, .slice none 0 0, .slice none 0 0, .slice none 0 0] 32)
          have KWs2 : Hid (Blk (Vs1.alloc (.cells #[.int .i64 0, .slice none 0 0, .slice none 0 0, .slice none 0 0] 32)) Vs1.heap.size 32 [.int .i64 0, .slice none 0 0, .slice none 0 0, .slice none 0 0]) := Lib.hid (heap_alloc_new Vs1 _)
          have Bs2 := Lib.hid (Below.tr Bs1.out hb)
          have BRs2 := Lib.hid (Below.tr BRs1.out hb)
          have KAs2 := Lib.hid (KAs1.out.below hb)
          have P1s2 := Lib.hid (P1s1.out.below hb)
          have BBs2 : Hid (w.heap.size < Vs1.heap.size) := Lib.hid KAs1.out.lt
          clear hb
          obtain ⟨bs, hbs⟩ : ∃ q, Vs1.heap.size = q := ⟨_, rfl⟩
          have GEs2 : Hid (Vs0.heap.size ≤ bs) := Lib.hid (by have := BRs1.out.size; omega)
          rw [hbs] at KWs2 BBs2 ⊢
          generalize Vs1.alloc (.cells #[.int .i64 0, .slice none 0 0, .slice none 0 0, .slice none 0 0] 32) = Vs2 at KWs2 Bs2 BRs2 KAs2 P1s2 ⊢
          clear hbs
          refine hK.out _ _ ?_ (fun hS2 => ?_)
          · exact ld_S KAs2.out
          clear hK K
          try simp only [Act.put, List.setIfInBounds_toArray, List.set_cons_zero, List.set_cons_succ]
          refine wpAnyH_ready (rs := [3]) (by kernel_rfl) (by simp) ?_
          refine AllReadyH.cons rfl (fun K hK => ?_) AllReadyH.nil
          · go_simp
            refine (toIntS_any _ _ _ ctx _ (Lib.hid (HD.out.below Bs2.out)) HCX hc20).mono ?_
            rintro e Vs3 ⟨rfl, hk, hb⟩
            have P2s3 := Lib.hid hk
            clear hk
            have Bs3 := Lib.hid (Below.tr Bs2.out hb)
            have BRs3 := Lib.hid (Below.tr BRs2.out hb)
            have KAs3 := Lib.hid (KAs2.out.below hb)
            have P1s3 := Lib.hid (P1s2.out.below hb)
            have KWs3 := Lib.hid (KWs2.out.below hb)
            have BBs3 := BBs2
            have GEs3 := GEs2
            clear hb
            refine hK.out _ _ ?_ (fun hS3 => ?_)
            · exact ld_S KAs3.out
            clear hK K
            try simp only [Act.put, List.setIfInBounds_toArray, List.set_cons_zero, List.set_cons_succ]
            refine wpAnyH_ready (rs := [5]) (by kernel_rfl) (by simp) ?_
            refine AllReadyH.cons rfl (fun K hK => ?_) AllReadyH.nil
            · go_simp
              refine (toMachine_any a _ _ _ _ _ _ _ _ _ m _ (Lib.hid (HM.out.below Bs3.out)) LE h1 h2 h3).mono ?_
              rintro e Vs4 ⟨y1s, y2s, y3s, rfl, hk, -, hb⟩
              have P3s4 := Lib.hid hk
              clear hk
              have Bs4 := Lib.hid (Below.tr Bs3.out hb)
              have BRs4 := Lib.hid (Below.tr BRs3.out hb)
              have KAs4 := Lib.hid (KAs3.out.below hb)
              have P1s4 := Lib.hid (P1s3.out.below hb)
              have P2s4 := Lib.hid (P2s3.out.below hb)
              have KWs4 := Lib.hid (KWs3.out.below hb)
              have BBs4 := BBs3
              have GEs4 := GEs3
              clear hb
              refine hK.out _ _ ?_ (fun hS4 => ?_)
              · exact ld_S KAs4.out
              clear hK K
              try simp only [Act.put, List.setIfInBounds_toArray, List.set_cons_zero, List.set_cons_succ]
              refine wpAnyH_ready (rs := [6]) (by kernel_rfl) (by simp) ?_
              refine AllReadyH.cons rfl (fun K hK => ?_) AllReadyH.nil
              · go_simp
                refine (specD_any _ _ _ xs _ _ _ ctx a _ _ _ n1 n2 n3 _ _ _ m g _ HG (Lib.hid P1s4.out.lies) HX hn (Lib.hid P2s4.out.ilies) HCX hc20 HA (Lib.hid P3s4.out.lies) LE h1 h2 h3).mono ?_
                rw [HR.out]
                intro e Vs5 hgd
                obtain ⟨U1s, U2s, U3s, k1s, k2s, k3s, rfl, hk, hb⟩ := GD.out _ _ _ hgd
                clear hgd
                have P4s5 := Lib.hid (hk.base Bs4.out.size)
                have NXs5 : Hid (∀ g, MB U1s U2s U3s l1 l2 l3 k1s k2s k3s g → g ≠ bs) := Lib.hid (fun g hg => by have := (hk.ge hg).1; have := KWs4.out.lt; omega)
                clear hk
                have Bs5 := Lib.hid (Below.tr Bs4.out hb)
                have BRs5 := Lib.hid (Below.tr BRs4.out hb)
                have KAs5 := Lib.hid (KAs4.out.below hb)
                have P1s5 := Lib.hid (P1s4.out.below hb)
                have P2s5 := Lib.hid (P2s4.out.below hb)
                have P3s5 := Lib.hid (P3s4.out.below hb)
                have KWs5 := Lib.hid (KWs4.out.below hb)
                have BBs5 := BBs4
                have GEs5 := GEs4
                clear hb
                refine hK.out _ _ ?_ (fun hS5 => ?_)
                · exact ld_S KAs5.out
                clear hK K
                try simp only [Act.put, List.setIfInBounds_toArray, List.set_cons_zero, List.set_cons_succ]
                refine wpAnyH_take (i := 7) (v := ?_) rfl (by kernel_rfl) (by kernel_rfl) (by kernel_rfl) (fun _ _ _ h => h) (Or.inl ⟨by rfl, ?_⟩) (by assumption) ?_
                rotate_left
                · intro W hSw
                  try dsimp only at hSw
                  go_simp
                  try with_reducible rfl
                try simp only [Act.put, List.setIfInBounds_toArray]
                refine wpAnyH_take (i := 8) (v := ?_) rfl (by kernel_rfl) (by kernel_rfl) (by kernel_rfl) (fun _ _ _ h => h) (Or.inl ⟨by rfl, ?_⟩) (by assumption) ?_
                rotate_left
                · intro W hSw
                  try dsimp only at hSw
                  go_simp
                  try with_reducible rfl
                try simp only [Act.put]
                refine wpAnyH_take (i := 9) (v := ?_) rfl (by kernel_rfl) (by kernel_rfl) (by kernel_rfl) (fun _ _ _ h => h) (Or.inl ⟨by rfl, ?_⟩) (by assumption) ?_
                rotate_left
                · intro W hSw
                  try dsimp only at hSw
                  go_simp
                  try with_reducible rfl
                try simp only [Act.put]
                refine wpAnyH_take (i := 10) (v := ?_) rfl (by kernel_rfl) (by kernel_rfl) (by kernel_rfl) (fun _ _ _ h => h) (Or.inl ⟨by rfl, ?_⟩) (by assumption) ?_
                rotate_left
                · intro W hSw
                  try dsimp only at hSw
                  go_simp
                  try with_reducible rfl
                try simp only [Act.put]
                refine wpAnyH_take (i := 11) (v := ?_) rfl (by kernel_rfl) (by kernel_rfl) (by kernel_rfl) (fun _ _ _ h => h) (Or.inl ⟨by rfl, ?_⟩) (by assumption) ?_
                rotate_left
                · intro W hSw
                  try dsimp only at hSw
                  go_simp
                  try with_reducible rfl
                try simp only [Act.put]
                have v0 : Vs5.cell? ⟨bs, 0, none⟩ = some (.int .i64 0) := KWs5.out.there rfl
                have z0 := KWs5.out.frozen 0
                have v1 : Vs5.cell? ⟨bs, 1, none⟩ = some (.slice none 0 0) := KWs5.out.there rfl
                have z1 := KWs5.out.frozen 1
                have v2 : Vs5.cell? ⟨bs, 2, none⟩ = some (.slice none 0 0) := KWs5.out.there rfl
                have z2 := KWs5.out.frozen 2
                have v3 : Vs5.cell? ⟨bs, 3, none⟩ = some (.slice none 0 0) := KWs5.out.there rfl
                have z3 := KWs5.out.frozen 3
                refine wpAnyH_ready (rs := [13]) (by kernel_rfl) (by simp) ?_
                refine AllReadyH.cons rfl (fun K hK => ?_) AllReadyH.nil
                go_simp
                refine hK.out _ _ ?_ (fun hS2 => ?_)
                · exact ld_S ((((KAs5.out.far (by have := BBs5.out; omega) _).far (by have := BBs5.out; omega) _).far (by have := BBs5.out; omega) _).far (by have := BBs5.out; omega) _)
                clear hK K
                refine wpAnyH_take (i := 14) (v := ?_) rfl (by kernel_rfl) (by kernel_rfl) (by kernel_rfl) (fun _ _ _ h => h) (Or.inl ⟨by rfl, ?_⟩) (by assumption) ?_
                rotate_left
                · intro W hSw
                  try dsimp only at hSw
                  go_simp
                  try with_reducible rfl
                try simp only [Act.put, List.setIfInBounds_toArray]
                refine wpAnyH_take (i := 15) (v := ?_) rfl (by kernel_rfl) (by kernel_rfl) (by kernel_rfl) (fun _ _ _ h => h) (Or.inl ⟨by rfl, ?_⟩) (by assumption) ?_
                rotate_left
                · intro W hSw
                  try dsimp only at hSw
                  go_simp
                  try with_reducible rfl
                try simp only [Act.put]
                refine wpAnyH_take (i := 16) (v := ?_) rfl (by kernel_rfl) (by kernel_rfl) (by kernel_rfl) (fun _ _ _ h => h) (Or.inl ⟨by rfl, ?_⟩) (by assumption) ?_
                rotate_left
                · intro W hSw
                  try dsimp only at hSw
                  go_simp
                  try with_reducible rfl
                try simp only [Act.put]
                refine wpAnyH_done (by kernel_rfl) ?_ _
                clear hK1
                go_simp
                exact key _ bs U1s U2s U3s k1s k2s k3s _ _ _ _ _ _ (Lib.hid ((((KAs5.out.far (by have := BBs5.out; omega) _).far (by have := BBs5.out; omega) _).far (by have := BBs5.out; omega) _).far (by have := BBs5.out; omega) _)) (Lib.hid (box_set KWs5.out (.int .i64 da) (.slice U1s l1 k1s) (.slice U2s l2 k2s) (.slice U3s l3 k3s))) (Lib.hid (P4s5.out.kept (kept_set4 Vs5 bs (.int .i64 da) (.slice U1s l1 k1s) (.slice U2s l2 k2s) (.slice U3s l3 k3s)) (fun g hg q => NXs5.out g hg q))) BBs5 (Lib.hid ((((Bs5.out.setCell (p := ⟨bs, 0, none⟩) (Nat.le_of_lt BBs5.out) _).setCell (p := ⟨bs, 1, none⟩) (Nat.le_of_lt BBs5.out) _).setCell (p := ⟨bs, 2, none⟩) (Nat.le_of_lt BBs5.out) _).setCell (p := ⟨bs, 3, none⟩) (Nat.le_of_lt BBs5.out) _))
      · go_simp
        have hb := below1 Vs0 (.cells #[.int .i64 0, .slice none 0 0, .slice none 0 0, .slice none 0 0] 32)
        have KWs1 : Hid (Blk (Vs0.alloc (.cells #[.int .i64 0, .slice none 0 0, .slice none 0 0, .slice none 0 0] 32)) Vs0.heap.size 32 [.int .i64 0, .slice none 0 0, .slice none 0 0, .slice none 0 0]) := Lib.hid (heap_alloc_new Vs0 _)
        have Bs1 := Lib.hid (Below.tr Bs0.out hb)
        have BRs1 := Lib.hid (Below.tr BRs0.out hb)
        have KAs1 := Lib.hid (KAs0.out.below hb)
        have BBs1 : Hid (w.heap.size < Vs0.heap.size) := Lib.hid KAs0.out.lt
        clear hb
        obtain ⟨bs, hbs⟩ : ∃ q, Vs0.heap.size = q := ⟨_, rfl⟩
        have GEs1 : Hid (Vs0.heap.size ≤ bs) := Lib.hid (by have := BRs0.out.size; omega)
        rw [hbs] at KWs1 BBs1 ⊢
        generalize Vs0.alloc (.cells #[.int .i64 0, .slice none 0 0, .slice none 0 0, .slice none 0 0] 32) = Vs1 at KWs1 Bs1 BRs1 KAs1 ⊢
        clear hbs
        refine hK.out _ _ ?_ (fun hS1 => ?_)
        · exact ld_S KAs1.out
        clear hK K
        try simp only [Act.put, List.setIfInBounds_toArray, List.set_cons_zero, List.set_cons_succ]
        refine wpAnyH_ready (rs := [1]) (by kernel_rfl) (by simp) ?_
        refine AllReadyH.cons rfl (fun K hK => ?_) AllReadyH.nil
        · go_simp
          refine (toStepS_n _ _ _ xs _ (Lib.hid (HL.out.below Bs1.out)) HX hn).mono ?_
          rintro e Vs2 ⟨rfl, hk, hb⟩
          have P1s2 := Lib.hid hk
          clear hk
          have Bs2 := Lib.hid (Below.tr Bs1.out hb)
          have BRs2 := Lib.hid (Below.tr BRs1.out hb)
          have KAs2 := Lib.hid (KAs1.out.below hb)
          have KWs2 := Lib.hid (KWs1.out.below hb)
          have BBs2 := BBs1
          have GEs2 := GEs1
          clear hb
          refine hK.out _ _ ?_ (fun hS2 => ?_)
          · exact ld_S KAs2.out
          clear hK K
          try simp only [Act.put, List.setIfInBounds_toArray, List.set_cons_zero, List.set_cons_succ]
          refine wpAnyH_ready (rs := [3]) (by kernel_rfl) (by simp) ?_
          refine AllReadyH.cons rfl (fun K hK => ?_) AllReadyH.nil
          · go_simp
            refine (toIntS_any _ _ _ ctx _ (Lib.hid (HD.out.below Bs2.out)) HCX hc20).mono ?_
            rintro e Vs3 ⟨rfl, hk, hb⟩
            have P2s3 := Lib.hid hk
            clear hk
            have Bs3 := Lib.hid (Below.tr Bs2.out hb)
            have BRs3 := Lib.hid (Below.tr BRs2.out hb)
            have KAs3 := Lib.hid (KAs2.out.below hb)
            have P1s3 := Lib.hid (P1s2.out.below hb)
            have KWs3 := Lib.hid (KWs2.out.below hb)
            have BBs3 := BBs2
            have GEs3 := GEs2
            clear hb
            refine hK.out _ _ ?_ (fun hS3 => ?_)
            · exact ld_S KAs3.out
            clear hK K
            try simp only [Act.put, List.setIfInBounds_toArray, List.set_cons_zero, List.set_cons_succ]
            refine wpAnyH_ready (rs := [5]) (by kernel_rfl) (by simp) ?_
            refine AllReadyH.cons rfl (fun K hK => ?_) AllReadyH.nil
            · go_simp
              refine (toMachine_any a _ _ _ _ _ _ _ _ _ m _ (Lib.hid (HM.out.below Bs3.out)) LE h1 h2 h3).mono ?_
              rintro e Vs4 ⟨y1s, y2s, y3s, rfl, hk, -, hb⟩
              have P3s4 := Lib.hid hk
              clear hk
              have Bs4 := Lib.hid (Below.tr Bs3.out hb)
              have BRs4 := Lib.hid (Below.tr BRs3.out hb)
              have KAs4 := Lib.hid (KAs3.out.below hb)
              have P1s4 := Lib.hid (P1s3.out.below hb)
              have P2s4 := Lib.hid (P2s3.out.below hb)
              have KWs4 := Lib.hid (KWs3.out.below hb)
              have BBs4 := BBs3
              have GEs4 := GEs3
              clear hb
              refine hK.out _ _ ?_ (fun hS4 => ?_)
              · exact ld_S KAs4.out
              clear hK K
              try simp only [Act.put, List.setIfInBounds_toArray, List.set_cons_zero, List.set_cons_succ]
              refine wpAnyH_ready (rs := [6]) (by kernel_rfl) (by simp) ?_
              refine AllReadyH.cons rfl (fun K hK => ?_) AllReadyH.nil
              · go_simp
                refine (specD_any _ _ _ xs _ _ _ ctx a _ _ _ n1 n2 n3 _ _ _ m g _ HG (Lib.hid P1s4.out.lies) HX hn (Lib.hid P2s4.out.ilies) HCX hc20 HA (Lib.hid P3s4.out.lies) LE h1 h2 h3).mono ?_
                rw [HR.out]
                intro e Vs5 hgd
                obtain ⟨U1s, U2s, U3s, k1s, k2s, k3s, rfl, hk, hb⟩ := GD.out _ _ _ hgd
                clear hgd
                have P4s5 := Lib.hid (hk.base Bs4.out.size)
                have NXs5 : Hid (∀ g, MB U1s U2s U3s l1 l2 l3 k1s k2s k3s g → g ≠ bs) := Lib.hid (fun g hg => by have := (hk.ge hg).1; have := KWs4.out.lt; omega)
                clear hk
                have Bs5 := Lib.hid (Below.tr Bs4.out hb)
                have BRs5 := Lib.hid (Below.tr BRs4.out hb)
                have KAs5 := Lib.hid (KAs4.out.below hb)
                have P1s5 := Lib.hid (P1s4.out.below hb)
                have P2s5 := Lib.hid (P2s4.out.below hb)
                have P3s5 := Lib.hid (P3s4.out.below hb)
                have KWs5 := Lib.hid (KWs4.out.below hb)
                have BBs5 := BBs4
                have GEs5 := GEs4
                clear hb
                refine hK.out _ _ ?_ (fun hS5 => ?_)
                · exact ld_S KAs5.out
                clear hK K
                try simp only [Act.put, List.setIfInBounds_toArray, List.set_cons_zero, List.set_cons_succ]
                refine wpAnyH_take (i := 7) (v := ?_) rfl (by kernel_rfl) (by kernel_rfl) (by kernel_rfl) (fun _ _ _ h => h) (Or.inl ⟨by rfl, ?_⟩) (by assumption) ?_
                rotate_left
                · intro W hSw
                  try dsimp only at hSw
                  go_simp
                  try with_reducible rfl
                try simp only [Act.put, List.setIfInBounds_toArray]
                refine wpAnyH_take (i := 8) (v := ?_) rfl (by kernel_rfl) (by kernel_rfl) (by kernel_rfl) (fun _ _ _ h => h) (Or.inl ⟨by rfl, ?_⟩) (by assumption) ?_
                rotate_left
                · intro W hSw
                  try dsimp only at hSw
                  go_simp
                  try with_reducible rfl
                try simp only [Act.put]
                refine wpAnyH_take (i := 9) (v := ?_) rfl (by kernel_rfl) (by kernel_rfl) (by kernel_rfl) (fun _ _ _ h => h) (Or.inl ⟨by rfl, ?_⟩) (by assumption) ?_
                rotate_left
                · intro W hSw
                  try dsimp only at hSw
                  go_simp
                  try with_reducible rfl
                try simp only [Act.put]
                refine wpAnyH_take (i := 10) (v := ?_) rfl (by kernel_rfl) (by kernel_rfl) (by kernel_rfl) (fun _ _ _ h => h) (Or.inl ⟨by rfl, ?_⟩) (by assumption) ?_
                rotate_left
                · intro W hSw
                  try dsimp only at hSw
                  go_simp
                  try with_reducible rfl
                try simp only [Act.put]
                refine wpAnyH_take (i := 11) (v := ?_) rfl (by kernel_rfl) (by kernel_rfl) (by kernel_rfl) (fun _ _ _ h => h) (Or.inl ⟨by rfl, ?_⟩) (by assumption) ?_
                rotate_left
                · intro W hSw
                  try dsimp only at hSw
                  go_simp
                  try with_reducible rfl
                try simp only [Act.put]
                have v0 : Vs5.cell? ⟨bs, 0, none⟩ = some (.int .i64 0) := KWs5.out.there rfl
                have z0 := KWs5.out.frozen 0
                have v1 : Vs5.cell? ⟨bs, 1, none⟩ = some (.slice none 0 0) := KWs5.out.there rfl
                have z1 := KWs5.out.frozen 1
                have v2 : Vs5.cell? ⟨bs, 2, none⟩ = some (.slice none 0 0) := KWs5.out.there rfl
                have z2 := KWs5.out.frozen 2
                have v3 : Vs5.cell? ⟨bs, 3, none⟩ = some (.slice none 0 0) := KWs5.out.there rfl
                have z3 := KWs5.out.frozen 3
                refine wpAnyH_ready (rs := [13]) (by kernel_rfl) (by simp) ?_
                refine AllReadyH.cons rfl (fun K hK => ?_) AllReadyH.nil
                go_simp
                refine hK.out _ _ ?_ (fun hS2 => ?_)
                · exact ld_S ((((KAs5.out.far (by have := BBs5.out; omega) _).far (by have := BBs5.out; omega) _).far (by have := BBs5.out; omega) _).far (by have := BBs5.out; omega) _)
                clear hK K
                refine wpAnyH_take (i := 14) (v := ?_) rfl (by kernel_rfl) (by kernel_rfl) (by kernel_rfl) (fun _ _ _ h => h) (Or.inl ⟨by rfl, ?_⟩) (by assumption) ?_
                rotate_left
                · intro W hSw
                  try dsimp only at hSw
                  go_simp
                  try with_reducible rfl
                try simp only [Act.put, List.setIfInBounds_toArray]
                refine wpAnyH_take (i := 15) (v := ?_) rfl (by kernel_rfl) (by kernel_rfl) (by kernel_rfl) (fun _ _ _ h => h) (Or.inl ⟨by rfl, ?_⟩) (by assumption) ?_
                rotate_left
                · intro W hSw
                  try dsimp only at hSw
                  go_simp
                  try with_reducible rfl
                try simp only [Act.put]
                refine wpAnyH_take (i := 16) (v := ?_) rfl (by kernel_rfl) (by kernel_rfl) (by kernel_rfl) (fun _ _ _ h => h) (Or.inl ⟨by rfl, ?_⟩) (by assumption) ?_
                rotate_left
                · intro W hSw
                  try dsimp only at hSw
                  go_simp
                  try with_reducible rfl
                try simp only [Act.put]
                refine wpAnyH_done (by kernel_rfl) ?_ _
                clear hK1
                go_simp
                exact key _ bs U1s U2s U3s k1s k2s k3s _ _ _ _ _ _ (Lib.hid ((((KAs5.out.far (by have := BBs5.out; omega) _).far (by have := BBs5.out; omega) _).far (by have := BBs5.out; omega) _).far (by have := BBs5.out; omega) _)) (Lib.hid (box_set KWs5.out (.int .i64 da) (.slice U1s l1 k1s) (.slice U2s l2 k2s) (.slice U3s l3 k3s))) (Lib.hid (P4s5.out.kept (kept_set4 Vs5 bs (.int .i64 da) (.slice U1s l1 k1s) (.slice U2s l2 k2s) (.slice U3s l3 k3s)) (fun g hg q => NXs5.out g hg q))) BBs5 (Lib.hid ((((Bs5.out.setCell (p := ⟨bs, 0, none⟩) (Nat.le_of_lt BBs5.out) _).setCell (p := ⟨bs, 1, none⟩) (Nat.le_of_lt BBs5.out) _).setCell (p := ⟨bs, 2, none⟩) (Nat.le_of_lt BBs5.out) _).setCell (p := ⟨bs, 3, none⟩) (Nat.le_of_lt BBs5.out) _))
    clear KA1 B1
    intro V b U1 U2 U3 k1 k2 k3 x39 x41 x43 x45 x46 x47 KA0 KW0 P40 BB B0
    refine hK1 _ _ ?_
    clear hK1
    have F0 : Hid (∀ g, MB U1 U2 U3 l1 l2 l3 k1 k2 k3 g → g < V.heap.size) := Lib.hid (fun g hg => (P40.out.ge hg).2)
    have Fb : b < V.heap.size := KW0.out.lt
    have Fw : w.heap.size < V.heap.size := KA0.out.lt
    go_wp2_with fail
    refine (toStepS_n _ _ _ xs _ (Lib.hid (HL.out.below B0.out)) HX hn).mono ?_
    rintro e v1 ⟨rfl, hk, hb⟩
    have X01 := Lib.hid hk
    clear hk
    have KA1 := Lib.hid (KA0.out.below hb)
    have KW1 := Lib.hid (KW0.out.below hb)
    have P41 := Lib.hid (P40.out.below hb)
    have B1 := Lib.hid (Below.tr B0.out hb)
    clear KA0 KW0 P40 B0
    clear hb
    obtain ⟨s0, hs0⟩ : ∃ q, V.heap.size = q := ⟨_, rfl⟩
    rw [hs0] at X01 F0 Fb Fw ⊢
    clear hs0
    have F1 : s0 < v1.heap.size := X01.out.lt
    go_wp2_with fail
    refine (toIntS_any _ _ _ ctx _ (Lib.hid (HD.out.below B1.out)) HCX hc20).mono ?_
    rintro e v2 ⟨rfl, hk, hb⟩
    have X12 := Lib.hid hk
    clear hk
    have KA2 := Lib.hid (KA1.out.below hb)
    have KW2 := Lib.hid (KW1.out.below hb)
    have P42 := Lib.hid (P41.out.below hb)
    have B2 := Lib.hid (Below.tr B1.out hb)
    have X02 := Lib.hid (X01.out.below hb)
    clear KA1 KW1 P41 B1 X01
    clear hb
    obtain ⟨s1, hs1⟩ : ∃ q, v1.heap.size = q := ⟨_, rfl⟩
    rw [hs1] at X12 F1 ⊢
    clear hs1
    have x0 : v2.cell? ⟨w.heap.size, 0, none⟩ = some (.int .i64 a) := KA2.out.there rfl
    have x1 : v2.cell? ⟨w.heap.size, 1, none⟩ = some (.slice A1 n1 c1) := KA2.out.there rfl
    have x2 : v2.cell? ⟨w.heap.size, 2, none⟩ = some (.slice A2 n2 c2) := KA2.out.there rfl
    have x3 : v2.cell? ⟨w.heap.size, 3, none⟩ = some (.slice A3 n3 c3) := KA2.out.there rfl
    go_wp2_with fail
    refine (toMachine_any a _ _ _ _ _ _ _ _ _ m _ (Lib.hid (HM.out.below B2.out)) LE h1 h2 h3).mono ?_
    rintro e v3 ⟨y1, y2, y3, rfl, hm, hge, hb⟩
    have MY3 := Lib.hid hm
    have FY : s1 < y1 ∧ s1 < y2 ∧ s1 < y3 := by have := X12.out.lt; omega
    clear hm hge x0 x1 x2 x3
    have KA3 := Lib.hid (KA2.out.below hb)
    have KW3 := Lib.hid (KW2.out.below hb)
    have P43 := Lib.hid (P42.out.below hb)
    have B3 := Lib.hid (Below.tr B2.out hb)
    have X03 := Lib.hid (X02.out.below hb)
    have X13 := Lib.hid (X12.out.below hb)
    clear KA2 KW2 P42 B2 X02 X12
    clear hb
    have FY2 : y1 < v3.heap.size ∧ y2 < v3.heap.size ∧ y3 < v3.heap.size := ⟨MY3.out.1.lt, MY3.out.2.1.lt, MY3.out.2.2.1.lt⟩
    go_wp2_with fail
    have hb := below1 v3 (.cells #[.int .i64 a, .slice (some ⟨y1, 0, none⟩) n1 n1, .slice (some ⟨y2, 0, none⟩) n2 n2, .slice (some ⟨y3, 0, none⟩) n3 n3] 32)
    have KX4 : Hid (Blk (v3.alloc (.cells #[.int .i64 a, .slice (some ⟨y1, 0, none⟩) n1 n1, .slice (some ⟨y2, 0, none⟩) n2 n2, .slice (some ⟨y3, 0, none⟩) n3 n3] 32)) v3.heap.size 32 [.int .i64 a, .slice (some ⟨y1, 0, none⟩) n1 n1, .slice (some ⟨y2, 0, none⟩) n2 n2, .slice (some ⟨y3, 0, none⟩) n3 n3]) := Lib.hid (heap_alloc_new v3 _)
    have KA4 := Lib.hid (KA3.out.below hb)
    have KW4 := Lib.hid (KW3.out.below hb)
    have P44 := Lib.hid (P43.out.below hb)
    have B4 := Lib.hid (Below.tr B3.out hb)
    have X04 := Lib.hid (X03.out.below hb)
    have X14 := Lib.hid (X13.out.below hb)
    have MY4 := Lib.hid (MY3.out.below hb)
    clear KA3 KW3 P43 B3 X03 X13 MY3
    clear hb
    generalize v3.alloc (.cells #[.int .i64 a, .slice (some ⟨y1, 0, none⟩) n1 n1, .slice (some ⟨y2, 0, none⟩) n2 n2, .slice (some ⟨y3, 0, none⟩) n3 n3] 32) = v4 at KA4 KW4 P44 B4 X04 X14 MY4 KX4 ⊢
    obtain ⟨s2, hs2⟩ : ∃ q, v3.heap.size = q := ⟨_, rfl⟩
    rw [hs2] at KX4 FY2 ⊢
    clear hs2
    refine (implD_any _ _ _ xs _ _ _ ctx a _ _ _ n1 n2 n3 _ _ _ m g _ HG (Lib.hid X04.out.lies) HX hn (Lib.hid X14.out.ilies) HCX hc20 HA (Lib.hid MY4.out.lies) LE h1 h2 h3 (Lib.hid (powTab_below HT.out B4.out))).mono ?_
    rw [HR.out]
    intro e v5 hgd
    obtain ⟨V1, V2, V3, j1, j2, j3, rfl, hk, hb⟩ := GD.out _ _ _ hgd
    clear hgd
    have G5 := Lib.hid hk
    have FG : Hid (∀ g, MB V1 V2 V3 l1 l2 l3 j1 j2 j3 g → s2 < g ∧ g < v5.heap.size) := Lib.hid (fun g hg => by have := hk.ge hg; have := KX4.out.lt; omega)
    clear hk
    have KA5 := Lib.hid (KA4.out.below hb)
    have KW5 := Lib.hid (KW4.out.below hb)
    have P45 := Lib.hid (P44.out.below hb)
    have B5 := Lib.hid (Below.tr B4.out hb)
    have X05 := Lib.hid (X04.out.below hb)
    have X15 := Lib.hid (X14.out.below hb)
    have MY5 := Lib.hid (MY4.out.below hb)
    have KX5 := Lib.hid (KX4.out.below hb)
    clear KA4 KW4 P44 B4 X04 X14 MY4 KX4
    clear hb
    have e1 : (f != f) = false := by simp
    have e2 : (en != en) = false := by simp
    have e3 : (ok != ok) = false := by simp
    have q0 : v5.cell? ⟨b, 0, none⟩ = some (.int .i64 da) := KW5.out.there rfl
    have q1 : v5.cell? ⟨b, 1, none⟩ = some (.slice U1 l1 k1) := KW5.out.there rfl
    have q2 : v5.cell? ⟨b, 2, none⟩ = some (.slice U2 l2 k2) := KW5.out.there rfl
    have q3 : v5.cell? ⟨b, 3, none⟩ = some (.slice U3 l3 k3) := KW5.out.there rfl
    have hbl : b < v5.heap.size := KW5.out.lt
    have F5 : s2 < v5.heap.size := KX5.out.lt
    go_wp2_with fail
    have hb := below1 v5 (.cells #[.int .i64 da, .slice V1 l1 j1, .slice V2 l2 j2, .slice V3 l3 j3] 32)
    have KG6 : Hid (Blk (v5.alloc (.cells #[.int .i64 da, .slice V1 l1 j1, .slice V2 l2 j2, .slice V3 l3 j3] 32)) v5.heap.size 32 [.int .i64 da, .slice V1 l1 j1, .slice V2 l2 j2, .slice V3 l3 j3]) := Lib.hid (heap_alloc_new v5 _)
    have KA6 := Lib.hid (KA5.out.below hb)
    have KW6 := Lib.hid (KW5.out.below hb)
    have P46 := Lib.hid (P45.out.below hb)
    have B6 := Lib.hid (Below.tr B5.out hb)
    have X06 := Lib.hid (X05.out.below hb)
    have X16 := Lib.hid (X15.out.below hb)
    have MY6 := Lib.hid (MY5.out.below hb)
    have KX6 := Lib.hid (KX5.out.below hb)
    have G6 := Lib.hid (G5.out.below hb)
    clear KA5 KW5 P45 B5 X05 X15 MY5 KX5 G5
    clear hb q0 q1 q2 q3
    generalize v5.alloc (.cells #[.int .i64 da, .slice V1 l1 j1, .slice V2 l2 j2, .slice V3 l3 j3] 32) = v6 at KA6 KW6 P46 B6 X06 X16 MY6 KX6 G6 KG6 ⊢
    obtain ⟨s3, hs3⟩ : ∃ q, v5.heap.size = q := ⟨_, rfl⟩
    rw [hs3] at KG6 FG hbl F5 ⊢
    clear hs3
    refine (eqMachine_same da _ _ _ _ _ _ _ _ _ _ _ _ _ _ _ M _ (Lib.hid G6.out.lies) (Lib.hid P46.out.lies) ML (by omega) (by omega) (by omega)).mono ?_
    rintro e v7 ⟨rfl, hb⟩
    have KA7 := Lib.hid (KA6.out.below hb)
    have KW7 := Lib.hid (KW6.out.below hb)
    have P47 := Lib.hid (P46.out.below hb)
    have B7 := Lib.hid (Below.tr B6.out hb)
    have X07 := Lib.hid (X06.out.below hb)
    have X17 := Lib.hid (X16.out.below hb)
    have MY7 := Lib.hid (MY6.out.below hb)
    have KX7 := Lib.hid (KX6.out.below hb)
    have G7 := Lib.hid (G6.out.below hb)
    have KG7 := Lib.hid (KG6.out.below hb)
    clear KA6 KW6 P46 B6 X06 X16 MY6 KX6 G6 KG6
    clear hb
    go_wp2_with fail
    refine (toStepS_n _ _ _ xs _ (Lib.hid (HL.out.below B7.out)) HX hn).mono ?_
    rintro e v8 ⟨rfl, hk, hb⟩
    have T8 := Lib.hid hk
    clear hk
    have KA8 := Lib.hid (KA7.out.below hb)
    have KW8 := Lib.hid (KW7.out.below hb)
    have P48 := Lib.hid (P47.out.below hb)
    have B8 := Lib.hid (Below.tr B7.out hb)
    have X08 := Lib.hid (X07.out.below hb)
    have X18 := Lib.hid (X17.out.below hb)
    have MY8 := Lib.hid (MY7.out.below hb)
    have KX8 := Lib.hid (KX7.out.below hb)
    have G8 := Lib.hid (G7.out.below hb)
    have KG8 := Lib.hid (KG7.out.below hb)
    clear KA7 KW7 P47 B7 X07 X17 MY7 KX7 G7 KG7
    clear hb
    go_wp2_with fail
    refine (eqStepS_same _ _ _ _ _ xs _ (Lib.hid X08.out.lies) (Lib.hid T8.out.lies) HX hn).mono ?_
    rintro e v9 ⟨rfl, hb⟩
    have KA9 := Lib.hid (KA8.out.below hb)
    have KW9 := Lib.hid (KW8.out.below hb)
    have P49 := Lib.hid (P48.out.below hb)
    have B9 := Lib.hid (Below.tr B8.out hb)
    have X09 := Lib.hid (X08.out.below hb)
    have X19 := Lib.hid (X18.out.below hb)
    have MY9 := Lib.hid (MY8.out.below hb)
    have KX9 := Lib.hid (KX8.out.below hb)
    have G9 := Lib.hid (G8.out.below hb)
    have KG9 := Lib.hid (KG8.out.below hb)
    clear KA8 KW8 P48 B8 X08 X18 MY8 KX8 G8 KG8
    clear hb
    clear T8
    go_wp2_with fail
    refine (toIntS_any _ _ _ ctx _ (Lib.hid (HD.out.below B9.out)) HCX hc20).mono ?_
    rintro e v10 ⟨rfl, hk, hb⟩
    have T10 := Lib.hid hk
    clear hk
    have KA10 := Lib.hid (KA9.out.below hb)
    have KW10 := Lib.hid (KW9.out.below hb)
    have P410 := Lib.hid (P49.out.below hb)
    have B10 := Lib.hid (Below.tr B9.out hb)
    have X010 := Lib.hid (X09.out.below hb)
    have X110 := Lib.hid (X19.out.below hb)
    have MY10 := Lib.hid (MY9.out.below hb)
    have KX10 := Lib.hid (KX9.out.below hb)
    have G10 := Lib.hid (G9.out.below hb)
    have KG10 := Lib.hid (KG9.out.below hb)
    clear KA9 KW9 P49 B9 X09 X19 MY9 KX9 G9 KG9
    clear hb
    go_wp2_with fail
    refine (eqIntS_same _ _ _ _ _ ctx _ (Lib.hid X110.out.ilies) (Lib.hid T10.out.ilies) HCX (by omega)).mono ?_
    rintro e v11 ⟨rfl, hb⟩
    have KA11 := Lib.hid (KA10.out.below hb)
    have KW11 := Lib.hid (KW10.out.below hb)
    have P411 := Lib.hid (P410.out.below hb)
    have B11 := Lib.hid (Below.tr B10.out hb)
    have X011 := Lib.hid (X010.out.below hb)
    have X111 := Lib.hid (X110.out.below hb)
    have MY11 := Lib.hid (MY10.out.below hb)
    have KX11 := Lib.hid (KX10.out.below hb)
    have G11 := Lib.hid (G10.out.below hb)
    have KG11 := Lib.hid (KG10.out.below hb)
    clear KA10 KW10 P410 B10 X010 X110 MY10 KX10 G10 KG10
    clear hb
    clear T10
    go_wp2_with fail
    have hb : Below v11.heap.size v11 (World.drew v11) := (Below.refl _ _).drew
    have KA12 := Lib.hid (KA11.out.below hb)
    have KW12 := Lib.hid (KW11.out.below hb)
    have P412 := Lib.hid (P411.out.below hb)
    have B12 := Lib.hid (Below.tr B11.out hb)
    have X012 := Lib.hid (X011.out.below hb)
    have X112 := Lib.hid (X111.out.below hb)
    have MY12 := Lib.hid (MY11.out.below hb)
    have KX12 := Lib.hid (KX11.out.below hb)
    have G12 := Lib.hid (G11.out.below hb)
    have KG12 := Lib.hid (KG11.out.below hb)
    clear KA11 KW11 P411 B11 X011 X111 MY11 KX11 G11 KG11
    clear hb
    refine wp_region_held_drew (S := fun W => W.cell? ⟨w.heap.size, 0, none⟩ = some (.int .i64 a) ∧ W.cell? ⟨w.heap.size, 1, none⟩ = some (.slice A1 n1 c1) ∧ W.cell? ⟨w.heap.size, 2, none⟩ = some (.slice A2 n2 c2) ∧ W.cell? ⟨w.heap.size, 3, none⟩ = some (.slice A3 n3 c3) ∧ W.cell? ⟨s2, 0, none⟩ = some (.int .i64 a) ∧ W.cell? ⟨s2, 1, none⟩ = some (.slice (some ⟨y1, 0, none⟩) n1 n1) ∧ W.cell? ⟨s2, 2, none⟩ = some (.slice (some ⟨y2, 0, none⟩) n2 n2) ∧ W.cell? ⟨s2, 3, none⟩ = some (.slice (some ⟨y3, 0, none⟩) n3 n3)) (by kernel_rfl) ?_ (fun hHeld => ?_)
    · exact ⟨(ld_S KA12.out).1, (ld_S KA12.out).2.1, (ld_S KA12.out).2.2.1, (ld_S KA12.out).2.2.2, KX12.out.there rfl, KX12.out.there rfl, KX12.out.there rfl, KX12.out.there rfl⟩
    generalize World.drew v11 = v12 at KA12 KW12 P412 B12 X012 X112 MY12 KX12 G12 KG12 hHeld ⊢
    refine wpAnyH_take (i := 0) (v := ?_) rfl (by kernel_rfl) (by kernel_rfl) (by kernel_rfl) (fun _ _ _ h => h) (Or.inl ⟨by rfl, ?_⟩) (by assumption) ?_
    rotate_left
    · intro W hSw
      try dsimp only at hSw
      go_simp
      try with_reducible rfl
    try simp only [Act.put, List.setIfInBounds_toArray]
    refine wpAnyH_take (i := 1) (v := ?_) rfl (by kernel_rfl) (by kernel_rfl) (by kernel_rfl) (fun _ _ _ h => h) (Or.inl ⟨by rfl, ?_⟩) (by assumption) ?_
    rotate_left
    · intro W hSw
      try dsimp only at hSw
      go_simp
      try with_reducible rfl
    try simp only [Act.put]
    refine wpAnyH_ready (rs := [2]) (by kernel_rfl) (by simp) ?_
    refine AllReadyH.cons rfl (fun K hK => ?_) AllReadyH.nil
    go_simp
    refine (toMachine_any a _ _ _ _ _ _ _ _ _ m _ (Lib.hid (HM.out.below B12.out)) LE h1 h2 h3).mono ?_
    rintro e v13 ⟨z1, z2, z3, rfl, hm, -, hb⟩
    have T13 := Lib.hid hm
    clear hm
    have KA13 := Lib.hid (KA12.out.below hb)
    have KW13 := Lib.hid (KW12.out.below hb)
    have P413 := Lib.hid (P412.out.below hb)
    have B13 := Lib.hid (Below.tr B12.out hb)
    have X013 := Lib.hid (X012.out.below hb)
    have X113 := Lib.hid (X112.out.below hb)
    have MY13 := Lib.hid (MY12.out.below hb)
    have KX13 := Lib.hid (KX12.out.below hb)
    have G13 := Lib.hid (G12.out.below hb)
    have KG13 := Lib.hid (KG12.out.below hb)
    clear KA12 KW12 P412 B12 X012 X112 MY12 KX12 G12 KG12
    clear hb
    refine hK.out _ _ ⟨(ld_S KA13.out).1, (ld_S KA13.out).2.1, (ld_S KA13.out).2.2.1, (ld_S KA13.out).2.2.2, KX13.out.there rfl, KX13.out.there rfl, KX13.out.there rfl, KX13.out.there rfl⟩ (fun hHeld2 => ?_)
    clear hK K
    try simp only [Act.put, List.setIfInBounds_toArray, List.set_cons_zero, List.set_cons_succ]
    refine wpAnyH_ready (rs := [3]) (by kernel_rfl) (by simp) ?_
    refine AllReadyH.cons rfl (fun K hK => ?_) AllReadyH.nil
    go_simp
    refine (eqMachine_same a _ _ _ _ _ _ _ _ _ _ _ _ _ _ _ m _ (Lib.hid MY13.out.lies) (Lib.hid T13.out.lies) LE h1 h2 h3).mono ?_
    rintro e v14 ⟨rfl, hb⟩
    have KA14 := Lib.hid (KA13.out.below hb)
    have KW14 := Lib.hid (KW13.out.below hb)
    have P414 := Lib.hid (P413.out.below hb)
    have B14 := Lib.hid (Below.tr B13.out hb)
    have X014 := Lib.hid (X013.out.below hb)
    have X114 := Lib.hid (X113.out.below hb)
    have MY14 := Lib.hid (MY13.out.below hb)
    have KX14 := Lib.hid (KX13.out.below hb)
    have G14 := Lib.hid (G13.out.below hb)
    have KG14 := Lib.hid (KG13.out.below hb)
    clear KA13 KW13 P413 B13 X013 X113 MY13 KX13 G13 KG13
    clear hb
    refine hK.out _ _ ⟨(ld_S KA14.out).1, (ld_S KA14.out).2.1, (ld_S KA14.out).2.2.1, (ld_S KA14.out).2.2.2, KX14.out.there rfl, KX14.out.there rfl, KX14.out.there rfl, KX14.out.there rfl⟩ (fun hHeld3 => ?_)
    clear hK K T13
    try simp only [Act.put, List.setIfInBounds_toArray, List.set_cons_zero, List.set_cons_succ]
    refine wpAnyH_take (i := 4) (v := ?_) rfl (by kernel_rfl) (by kernel_rfl) (by kernel_rfl) (fun _ _ _ h => h) (Or.inl ⟨by rfl, ?_⟩) (by assumption) ?_
    rotate_left
    · intro W hSw
      try dsimp only at hSw
      go_simp
      try with_reducible rfl
    try simp only [Act.put, List.setIfInBounds_toArray]
    refine wpAnyH_done (by kernel_rfl) ?_ _
    clear hHeld hHeld2 hHeld3
    go_wp2_with fail
    refine (markStepS_any _ _ _ _ _ _ _ (own_of_blk X014.out HX.out hn) (by omega) (by omega)).mono ?_
    rintro e v15 ⟨rfl, -, hg⟩
    have hk := Kept.of_grown (S := fun i => i = s0) hg (fun g e => (Option.some.inj e).symm)
    clear hg
    have KA15 := Lib.hid (hk.blk KA14.out (by omega))
    have KW15 := Lib.hid (hk.blk KW14.out (by omega))
    have P415 := Lib.hid (P414.out.kept hk (fun g hg q => by have := F0.out g hg; omega))
    have B15 := Lib.hid (hk.below B14.out B14.out.size (fun i e => by omega))
    have X115 := Lib.hid (hk.blk X114.out (by omega))
    have MY15 := Lib.hid (hk.mblk MY14.out (by omega) (by omega) (by omega))
    have KX15 := Lib.hid (hk.blk KX14.out (by omega))
    have G15 := Lib.hid (G14.out.kept hk (fun g hg q => by have := FG.out g hg; omega))
    have KG15 := Lib.hid (hk.blk KG14.out (by omega))
    clear KA14 KW14 P414 B14 X114 MY14 KX14 G14 KG14
    clear hk X014
    go_wp2_with fail
    refine (markIntS_any _ _ _ _ ctx _ _ (own_of_vblk X115.out (by simpa using HCX.out) hc20) (by omega) (by omega)).mono ?_
    rintro e v16 ⟨rfl, -, hg⟩
    have hk := Kept.of_grown (S := fun i => i = s1) hg (fun g e => by simp [Value.ownBlock] at e; exact e.symm)
    clear hg
    have KA16 := Lib.hid (hk.blk KA15.out (by omega))
    have KW16 := Lib.hid (hk.blk KW15.out (by omega))
    have P416 := Lib.hid (P415.out.kept hk (fun g hg q => by have := F0.out g hg; omega))
    have B16 := Lib.hid (hk.below B15.out B15.out.size (fun i e => by omega))
    have MY16 := Lib.hid (hk.mblk MY15.out (by omega) (by omega) (by omega))
    have KX16 := Lib.hid (hk.blk KX15.out (by omega))
    have G16 := Lib.hid (G15.out.kept hk (fun g hg q => by have := FG.out g hg; omega))
    have KG16 := Lib.hid (hk.blk KG15.out (by omega))
    clear KA15 KW15 P415 B15 MY15 KX15 G15 KG15
    clear hk X115
    have q0 : v16.cell? ⟨s2, 0, none⟩ = some (.int .i64 a) := KX16.out.there rfl
    have q1 : v16.cell? ⟨s2, 1, none⟩ = some (.slice (some ⟨y1, 0, none⟩) n1 n1) := KX16.out.there rfl
    have q2 : v16.cell? ⟨s2, 2, none⟩ = some (.slice (some ⟨y2, 0, none⟩) n2 n2) := KX16.out.there rfl
    have q3 : v16.cell? ⟨s2, 3, none⟩ = some (.slice (some ⟨y3, 0, none⟩) n3 n3) := KX16.out.there rfl
    go_wp2_with fail
    refine (markMachine_any a _ y1 y2 y3 n1 n2 n3 m _ MY16 LE h1 h2 h3 (by omega) (by omega)).mono ?_
    rintro e v17 ⟨rfl, -, hk⟩
    clear q0 q1 q2 q3
    have KA17 := Lib.hid (hk.blk KA16.out (by unfold three; omega))
    have KW17 := Lib.hid (hk.blk KW16.out (by unfold three; omega))
    have P417 := Lib.hid (P416.out.kept hk (fun g hg q => by have := F0.out g hg; unfold three at q; omega))
    have B17 := Lib.hid (hk.below B16.out B16.out.size (fun i e => by unfold three at e; omega))
    have G17 := Lib.hid (G16.out.kept hk (fun g hg q => by have := FG.out g hg; unfold three at q; omega))
    have KG17 := Lib.hid (hk.blk KG16.out (by unfold three; omega))
    clear KA16 KW16 P416 B16 G16 KG16
    clear hk MY16 KX16
    have hneg : decide ((1 : Int) + (n : Int) * 6 + (cn : Int) + (n1 : Int) + (n2 : Int) + (n3 : Int) < 0) = false := by simp; omega
    have q0 : v17.cell? ⟨s3, 0, none⟩ = some (.int .i64 da) := KG17.out.there rfl
    have q1 : v17.cell? ⟨s3, 1, none⟩ = some (.slice V1 l1 j1) := KG17.out.there rfl
    have q2 : v17.cell? ⟨s3, 2, none⟩ = some (.slice V2 l2 j2) := KG17.out.there rfl
    have q3 : v17.cell? ⟨s3, 3, none⟩ = some (.slice V3 l3 j3) := KG17.out.there rfl
    have r0 : v17.cell? ⟨b, 0, none⟩ = some (.int .i64 da) := KW17.out.there rfl
    have r1 : v17.cell? ⟨b, 1, none⟩ = some (.slice U1 l1 k1) := KW17.out.there rfl
    have r2 : v17.cell? ⟨b, 2, none⟩ = some (.slice U2 l2 k2) := KW17.out.there rfl
    have r3 : v17.cell? ⟨b, 3, none⟩ = some (.slice U3 l3 k3) := KW17.out.there rfl
    go_wp2_with fail
    refine (eqMachine_same da _ _ _ _ _ _ _ _ _ _ _ _ _ _ _ M _ (Lib.hid G17.out.lies) (Lib.hid P417.out.lies) ML (by omega) (by omega) (by omega)).mono ?_
    rintro e v18 ⟨rfl, hb⟩
    have KA18 := Lib.hid (KA17.out.below hb)
    have KW18 := Lib.hid (KW17.out.below hb)
    have P418 := Lib.hid (P417.out.below hb)
    have B18 := Lib.hid (Below.tr B17.out hb)
    have G18 := Lib.hid (G17.out.below hb)
    have KG18 := Lib.hid (KG17.out.below hb)
    clear KA17 KW17 P417 B17 G17 KG17
    clear hb
    clear q0 q1 q2 q3 r0 r1 r2 r3
    have q0 : v18.cell? ⟨s3, 0, none⟩ = some (.int .i64 da) := KG18.out.there rfl
    have q1 : v18.cell? ⟨s3, 1, none⟩ = some (.slice V1 l1 j1) := KG18.out.there rfl
    have q2 : v18.cell? ⟨s3, 2, none⟩ = some (.slice V2 l2 j2) := KG18.out.there rfl
    have q3 : v18.cell? ⟨s3, 3, none⟩ = some (.slice V3 l3 j3) := KG18.out.there rfl
    go_wp2_with fail
    refine (markMachine_gen da 1 _ V1 V2 V3 l1 l2 l3 j1 j2 j3 M _ G18 (by omega) (by omega) (by omega) (by omega) (by omega)).mono ?_
    rintro e v19 ⟨rfl, hG, hk⟩
    have GM19 := Lib.hid hG
    clear hG q0 q1 q2 q3
    have KA19 := Lib.hid (hk.blk KA18.out (fun q => by have := FG.out _ q; omega))
    have KW19 := Lib.hid (hk.blk KW18.out (fun q => by have := FG.out _ q; omega))
    have P419 := Lib.hid (P418.out.kept hk (fun g hg q => by have := F0.out g hg; have := FG.out g q; omega))
    have B19 := Lib.hid (hk.below B18.out B18.out.size (fun i e => by have := FG.out i e; omega))
    have KG19 := Lib.hid (hk.blk KG18.out (fun q => by have := FG.out _ q; omega))
    clear KA18 KW18 P418 B18 KG18
    clear hk G18
    have hneg2 : decide ((1 : Int) + (l1 : Int) + (l2 : Int) + (l3 : Int) < 0) = false := by simp; omega
    have heq2 : (((1 : Int) + (l1 : Int) + (l2 : Int) + (l3 : Int)) != ((1 : Int) + (l1 : Int) + (l2 : Int) + (l3 : Int))) = false := by simp
    have q0 : v19.cell? ⟨s3, 0, none⟩ = some (.int .i64 da) := KG19.out.there rfl
    have q1 : v19.cell? ⟨s3, 1, none⟩ = some (.slice V1 l1 j1) := KG19.out.there rfl
    have q2 : v19.cell? ⟨s3, 2, none⟩ = some (.slice V2 l2 j2) := KG19.out.there rfl
    have q3 : v19.cell? ⟨s3, 3, none⟩ = some (.slice V3 l3 j3) := KG19.out.there rfl
    go_wp2_with fail
    refine (heldMachine_any da 1 _ _ _ l1 l2 l3 _ _ _ _ (Lib.hid GM19.out.lies) (by omega) (by omega) (by omega) (by omega) (by omega)).mono ?_
    rintro e v20 ⟨rfl, hb⟩
    have KA20 := Lib.hid (KA19.out.below hb)
    have KW20 := Lib.hid (KW19.out.below hb)
    have P420 := Lib.hid (P419.out.below hb)
    have B20 := Lib.hid (Below.tr B19.out hb)
    have KG20 := Lib.hid (KG19.out.below hb)
    have GM20 := Lib.hid (GM19.out.below hb)
    clear KA19 KW19 P419 B19 KG19 GM19
    clear hb
    clear q0 q1 q2 q3
    go_wp2_with fail
    rename_i K2 hK2
    have key2 : ∀ (Z : World) (c : Nat) (H1 H2 H3 : Option Addr) (i1 i2 i3 : Nat) (x97 x143 x145 x147 x149 x150 x151 : Value), Hid (Blk Z c 32 [.int .i64 da, .slice H1 l1 i1, .slice H2 l2 i2, .slice H3 l3 i3]) → Hid (RowsM Z w.heap.size H1 H2 H3 l1 l2 l3 i1 i2 i3 M) → Hid (Below v20.heap.size v20 Z) →
        K2 { tmps := #[Value.slice A n cap, Value.slice D cn dcap, Value.agg #[Value.int IntKind.i64 a, Value.slice A1 n1 c1, Value.slice A2 n2 c2, Value.slice A3 n3 c3], undef, undef, Value.pointer (some { block := w.heap.size, off := 0 }), Value.bool false, Value.int IntKind.i64 q, Value.pointer (some { block := b, off := 0 }), Value.int IntKind.i64 f, Value.bool en, Value.bool ok, Value.slice (some { block := s0, off := 0 }) n n, Value.slice (some { block := s1, off := 0 }) cn cn, Value.pointer (some { block := s2, off := 0 }), Value.pointer (some { block := s3, off := 0 }), Value.int IntKind.i64 f, Value.bool en, Value.bool ok, Value.int IntKind.i64 (1 + ↑n * 6 + ↑cn + ↑n1 + ↑n2 + ↑n3), Value.int IntKind.i64 (1 + ↑l1 + ↑l2 + ↑l3), Value.int IntKind.i64 (1 + ↑l1 + ↑l2 + ↑l3), .pointer (some ⟨c, 0, none⟩), Value.int IntKind.i64 f, Value.bool en, Value.bool ok, Value.slice D cn dcap, Value.int IntKind.i64 ↑cn, Value.bool false, Value.slice A n cap, Value.int IntKind.i64 1048576, Value.int IntKind.i64 sz, Value.int IntKind.i64 sz, Value.bool (decide (sz < 0)), Value.agg #[Value.int IntKind.i64 a, Value.slice A1 n1 c1, Value.slice A2 n2 c2, Value.slice A3 n3 c3], Value.int IntKind.i64 sz, Value.int IntKind.i64 q, Value.int IntKind.i64 q, Value.bool (decide (q < 0)), x39, Value.slice A n cap, x41, Value.slice D cn dcap, x43, Value.agg #[Value.int IntKind.i64 a, Value.slice A1 n1 c1, Value.slice A2 n2 c2, Value.slice A3 n3 c3], x45, x46, x47, Value.int IntKind.i64 f, Value.bool en, Value.bool ok, Value.slice A n cap, Value.slice (some { block := s0, off := 0 }) n n, Value.slice D cn dcap, Value.slice (some { block := s1, off := 0 }) cn cn, Value.agg #[Value.int IntKind.i64 a, Value.slice A1 n1 c1, Value.slice A2 n2 c2, Value.slice A3 n3 c3], Value.agg #[Value.int IntKind.i64 a, Value.slice (some { block := y1, off := 0 }) n1 n1, Value.slice (some { block := y2, off := 0 }) n2 n2, Value.slice (some { block := y3, off := 0 }) n3 n3], Value.tuple #[Value.agg #[Value.int IntKind.i64 da, Value.slice V1 l1 j1, Value.slice V2 l2 j2, Value.slice V3 l3 j3], Value.int IntKind.i64 f, Value.bool en, Value.bool ok], Value.slice (some { block := s0, off := 0 }) n n, Value.slice (some { block := s1, off := 0 }) cn cn, Value.agg #[Value.int IntKind.i64 a, Value.slice (some { block := y1, off := 0 }) n1 n1, Value.slice (some { block := y2, off := 0 }) n2 n2, Value.slice (some { block := y3, off := 0 }) n3 n3], Value.tuple #[Value.agg #[Value.int IntKind.i64 da, Value.slice V1 l1 j1, Value.slice V2 l2 j2, Value.slice V3 l3 j3], Value.int IntKind.i64 f, Value.bool en, Value.bool ok], Value.agg #[Value.int IntKind.i64 da, Value.slice V1 l1 j1, Value.slice V2 l2 j2, Value.slice V3 l3 j3], Value.int IntKind.i64 f, Value.bool en, Value.bool ok, Value.agg #[Value.int IntKind.i64 da, Value.slice V1 l1 j1, Value.slice V2 l2 j2, Value.slice V3 l3 j3], Value.agg #[Value.int IntKind.i64 da, Value.slice U1 l1 k1, Value.slice U2 l2 k2, Value.slice U3 l3 k3], Value.bool true, Value.bool false, Value.bool false, Value.int IntKind.i64 f, Value.int IntKind.i64 f, Value.bool false, Value.bool false, Value.bool false, Value.bool en, Value.bool en, Value.bool false, Value.bool false, Value.bool false, Value.bool ok, Value.bool ok, Value.bool false, Value.bool false, Value.slice (some { block := s0, off := 0 }) n n, Value.slice A n cap, Value.slice (some { block := v7.heap.size, off := 0 }) n n, Value.bool true, Value.bool false, Value.slice (some { block := s1, off := 0 }) cn cn, Value.slice D cn dcap, Value.slice (some { block := v9.heap.size, off := 0 }) cn cn, Value.bool true, Value.bool false, Value.agg #[Value.int IntKind.i64 a, Value.slice (some { block := y1, off := 0 }) n1 n1, Value.slice (some { block := y2, off := 0 }) n2 n2, Value.slice (some { block := y3, off := 0 }) n3 n3], Value.agg #[Value.int IntKind.i64 a, Value.slice A1 n1 c1, Value.slice A2 n2 c2, Value.slice A3 n3 c3], x97, Value.bool true, Value.bool false, Value.slice (some { block := s0, off := 0 }) n n, Value.int IntKind.i64 1, Value.int IntKind.i64 (1 + ↑n * 6), Value.slice (some { block := s1, off := 0 }) cn cn, Value.int IntKind.i64 (1 + ↑n * 6), Value.int IntKind.i64 (1 + ↑n * 6 + ↑cn), Value.agg #[Value.int IntKind.i64 a, Value.slice (some { block := y1, off := 0 }) n1 n1, Value.slice (some { block := y2, off := 0 }) n2 n2, Value.slice (some { block := y3, off := 0 }) n3 n3], Value.int IntKind.i64 (1 + ↑n * 6 + ↑cn), Value.int IntKind.i64 (1 + ↑n * 6 + ↑cn + ↑n1 + ↑n2 + ↑n3), Value.int IntKind.i64 (1 + ↑n * 6 + ↑cn + ↑n1 + ↑n2 + ↑n3), Value.bool false, Value.bool false, Value.agg #[Value.int IntKind.i64 da, Value.slice V1 l1 j1, Value.slice V2 l2 j2, Value.slice V3 l3 j3], Value.agg #[Value.int IntKind.i64 da, Value.slice U1 l1 k1, Value.slice U2 l2 k2, Value.slice U3 l3 k3], Value.bool true, Value.bool false, Value.bool false, Value.bool false, Value.int IntKind.i64 f, Value.int IntKind.i64 f, Value.bool false, Value.bool false, Value.bool false, Value.bool en, Value.bool en, Value.bool false, Value.bool false, Value.bool false, Value.bool ok, Value.bool ok, Value.bool false, Value.bool false, Value.agg #[Value.int IntKind.i64 da, Value.slice V1 l1 j1, Value.slice V2 l2 j2, Value.slice V3 l3 j3], Value.int IntKind.i64 1, Value.int IntKind.i64 (1 + ↑l1 + ↑l2 + ↑l3), Value.agg #[Value.int IntKind.i64 da, Value.slice V1 l1 j1, Value.slice V2 l2 j2, Value.slice V3 l3 j3], Value.int IntKind.i64 1, Value.int IntKind.i64 (1 + ↑l1 + ↑l2 + ↑l3), Value.int IntKind.i64 (1 + ↑l1 + ↑l2 + ↑l3), Value.bool false, Value.int IntKind.i64 (1 + ↑l1 + ↑l2 + ↑l3), Value.int IntKind.i64 (1 + ↑l1 + ↑l2 + ↑l3), Value.bool false, x143, Value.slice A n cap, x145, Value.slice D cn dcap, x147, Value.agg #[Value.int IntKind.i64 a, Value.slice A1 n1 c1, Value.slice A2 n2 c2, Value.slice A3 n3 c3], x149, x150, x151, Value.int IntKind.i64 f, Value.bool en, Value.bool ok, undef, undef, undef, undef, undef, undef, undef, undef, undef, undef, undef, undef, undef, undef, undef, undef, undef, undef, undef, undef, undef, undef, undef, undef, undef, undef, undef], defers := [] } Z := by
      intro Z c H1 H2 H3 i1 i2 i3 x97 x143 x145 x147 x149 x150 x151 KH0 PH0 BQ0
      refine hK2 _ _ ?_
      clear hK2
      have KW21 := Lib.hid (KW20.out.below BQ0.out)
      have P421 := Lib.hid (P420.out.below BQ0.out)
      have KG21 := Lib.hid (KG20.out.below BQ0.out)
      have GM21 := Lib.hid (GM20.out.below BQ0.out)
      have B21 := Lib.hid (Below.tr B20.out BQ0.out)
      clear KW20 P420 KG20 GM20 B20 KA20
      have q0 : Z.cell? ⟨c, 0, none⟩ = some (.int .i64 da) := KH0.out.there rfl
      have q1 : Z.cell? ⟨c, 1, none⟩ = some (.slice H1 l1 i1) := KH0.out.there rfl
      have q2 : Z.cell? ⟨c, 2, none⟩ = some (.slice H2 l2 i2) := KH0.out.there rfl
      have q3 : Z.cell? ⟨c, 3, none⟩ = some (.slice H3 l3 i3) := KH0.out.there rfl
      have r0 : Z.cell? ⟨b, 0, none⟩ = some (.int .i64 da) := KW21.out.there rfl
      have r1 : Z.cell? ⟨b, 1, none⟩ = some (.slice U1 l1 k1) := KW21.out.there rfl
      have r2 : Z.cell? ⟨b, 2, none⟩ = some (.slice U2 l2 k2) := KW21.out.there rfl
      have r3 : Z.cell? ⟨b, 3, none⟩ = some (.slice U3 l3 k3) := KW21.out.there rfl
      go_wp2_with fail
      refine (eqMachine_same da _ _ _ _ _ _ _ _ _ _ _ _ _ _ _ M _ (Lib.hid PH0.out.lies) (Lib.hid P421.out.lies) ML (by omega) (by omega) (by omega)).mono ?_
      rintro e v22 ⟨rfl, hb⟩
      have KG22 := Lib.hid (KG21.out.below hb)
      have GM22 := Lib.hid (GM21.out.below hb)
      have B22 := Lib.hid (Below.tr B21.out hb)
      clear hb q0 q1 q2 q3 r0 r1 r2 r3
      have q0 : v22.cell? ⟨s3, 0, none⟩ = some (.int .i64 da) := KG22.out.there rfl
      have q1 : v22.cell? ⟨s3, 1, none⟩ = some (.slice V1 l1 j1) := KG22.out.there rfl
      have q2 : v22.cell? ⟨s3, 2, none⟩ = some (.slice V2 l2 j2) := KG22.out.there rfl
      have q3 : v22.cell? ⟨s3, 3, none⟩ = some (.slice V3 l3 j3) := KG22.out.there rfl
      go_wp2_with fail
      refine (heldMachine_any da 1 _ _ _ l1 l2 l3 _ _ _ _ (Lib.hid GM22.out.lies) (by omega) (by omega) (by omega) (by omega) (by omega)).mono ?_
      rintro e v23 ⟨rfl, hb⟩
      have B23 := Lib.hid (Below.tr B22.out hb)
      clear hb
      go_wp2
      go_ret
      exact ⟨rfl, B23.out⟩
    refine wp_region_held_drew (S := fun W => W.cell? ⟨w.heap.size, 0, none⟩ = some (.int .i64 a) ∧ W.cell? ⟨w.heap.size, 1, none⟩ = some (.slice A1 n1 c1) ∧ W.cell? ⟨w.heap.size, 2, none⟩ = some (.slice A2 n2 c2) ∧ W.cell? ⟨w.heap.size, 3, none⟩ = some (.slice A3 n3 c3)) (by kernel_rfl) ?_ (fun hHeld => ?_)
    · exact ld_S KA20.out
    have KAh0 : Hid (Blk (World.drew v20) w.heap.size 53 [.int .i64 a, .slice A1 n1 c1, .slice A2 n2 c2, .slice A3 n3 c3]) := KA20
    have Bh0 : Hid (Below w.heap.size w (World.drew v20)) := Lib.hid B20.out.drew
    have BRhz : Hid (Below v20.heap.size v20 (World.drew v20)) := Lib.hid (Below.refl _ _).drew
    clear KA20 B20
    generalize World.drew v20 = Vh0 at KAh0 Bh0 BRhz hHeld ⊢
    have BRh0 : Hid (Below Vh0.heap.size Vh0 Vh0) := Lib.hid (Below.refl _ _)
    refine wpAnyH_take (i := 0) (v := ?_) rfl (by kernel_rfl) (by kernel_rfl) (by kernel_rfl) (fun _ _ _ h => h) (Or.inl ⟨by rfl, ?_⟩) (by assumption) ?_
    rotate_left
    · intro W hSw
      try dsimp only at hSw
      go_simp
      try with_reducible rfl
    try simp only [Act.put, List.setIfInBounds_toArray]
    refine wpAnyH_take (i := 2) (v := ?_) rfl (by kernel_rfl) (by kernel_rfl) (by kernel_rfl) (fun _ _ _ h => h) (Or.inl ⟨by rfl, ?_⟩) (by assumption) ?_
    rotate_left
    · intro W hSw
      try dsimp only at hSw
      go_simp
      try with_reducible rfl
    try simp only [Act.put]
    refine wpAnyH_take (i := 4) (v := ?_) rfl (by kernel_rfl) (by kernel_rfl) (by kernel_rfl) (fun _ _ _ h => h) (Or.inl ⟨by rfl, ?_⟩) (by assumption) ?_
    rotate_left
    · intro W hSw
      try dsimp only at hSw
      go_simp
      try with_reducible rfl
    try simp only [Act.put]
    refine wpAnyH_ready (rs := [1, 12]) (by kernel_rfl) (by simp) ?_
    refine AllReadyH.cons rfl (fun K hK => ?_) (AllReadyH.cons rfl (fun K hK => ?_) AllReadyH.nil)
    · go_simp
      refine (toStepS_n _ _ _ xs _ (Lib.hid (HL.out.below Bh0.out)) HX hn).mono ?_
      rintro e Vh1 ⟨rfl, hk, hb⟩
      have P1h1 := Lib.hid hk
      clear hk
      have Bh1 := Lib.hid (Below.tr Bh0.out hb)
      have BRh1 := Lib.hid (Below.tr BRh0.out hb)
      have KAh1 := Lib.hid (KAh0.out.below hb)
      clear hb
      refine hK.out _ _ ?_ (fun hS1 => ?_)
      · exact ld_S KAh1.out
      clear hK K
      try simp only [Act.put, List.setIfInBounds_toArray, List.set_cons_zero, List.set_cons_succ]
      refine wpAnyH_ready (rs := [3, 12]) (by kernel_rfl) (by simp) ?_
      refine AllReadyH.cons rfl (fun K hK => ?_) (AllReadyH.cons rfl (fun K hK => ?_) AllReadyH.nil)
      · go_simp
        refine (toIntS_any _ _ _ ctx _ (Lib.hid (HD.out.below Bh1.out)) HCX hc20).mono ?_
        rintro e Vh2 ⟨rfl, hk, hb⟩
        have P2h2 := Lib.hid hk
        clear hk
        have Bh2 := Lib.hid (Below.tr Bh1.out hb)
        have BRh2 := Lib.hid (Below.tr BRh1.out hb)
        have KAh2 := Lib.hid (KAh1.out.below hb)
        have P1h2 := Lib.hid (P1h1.out.below hb)
        clear hb
        refine hK.out _ _ ?_ (fun hS2 => ?_)
        · exact ld_S KAh2.out
        clear hK K
        try simp only [Act.put, List.setIfInBounds_toArray, List.set_cons_zero, List.set_cons_succ]
        refine wpAnyH_ready (rs := [5, 12]) (by kernel_rfl) (by simp) ?_
        refine AllReadyH.cons rfl (fun K hK => ?_) (AllReadyH.cons rfl (fun K hK => ?_) AllReadyH.nil)
        · go_simp
          refine (toMachine_any a _ _ _ _ _ _ _ _ _ m _ (Lib.hid (HM.out.below Bh2.out)) LE h1 h2 h3).mono ?_
          rintro e Vh3 ⟨y1h, y2h, y3h, rfl, hk, -, hb⟩
          have P3h3 := Lib.hid hk
          clear hk
          have Bh3 := Lib.hid (Below.tr Bh2.out hb)
          have BRh3 := Lib.hid (Below.tr BRh2.out hb)
          have KAh3 := Lib.hid (KAh2.out.below hb)
          have P1h3 := Lib.hid (P1h2.out.below hb)
          have P2h3 := Lib.hid (P2h2.out.below hb)
          clear hb
          refine hK.out _ _ ?_ (fun hS3 => ?_)
          · exact ld_S KAh3.out
          clear hK K
          try simp only [Act.put, List.setIfInBounds_toArray, List.set_cons_zero, List.set_cons_succ]
          refine wpAnyH_ready (rs := [6, 12]) (by kernel_rfl) (by simp) ?_
          refine AllReadyH.cons rfl (fun K hK => ?_) (AllReadyH.cons rfl (fun K hK => ?_) AllReadyH.nil)
          · go_simp
            refine (implD_any _ _ _ xs _ _ _ ctx a _ _ _ n1 n2 n3 _ _ _ m g _ HG (Lib.hid P1h3.out.lies) HX hn (Lib.hid P2h3.out.ilies) HCX hc20 HA (Lib.hid P3h3.out.lies) LE h1 h2 h3 (Lib.hid (powTab_below HT.out Bh3.out))).mono ?_
            rw [HR.out]
            intro e Vh4 hgd
            obtain ⟨U1h, U2h, U3h, k1h, k2h, k3h, rfl, hk, hb⟩ := GD.out _ _ _ hgd
            clear hgd
            have P4h4 := Lib.hid (hk.base Bh3.out.size)
            clear hk
            have Bh4 := Lib.hid (Below.tr Bh3.out hb)
            have BRh4 := Lib.hid (Below.tr BRh3.out hb)
            have KAh4 := Lib.hid (KAh3.out.below hb)
            have P1h4 := Lib.hid (P1h3.out.below hb)
            have P2h4 := Lib.hid (P2h3.out.below hb)
            have P3h4 := Lib.hid (P3h3.out.below hb)
            clear hb
            refine hK.out _ _ ?_ (fun hS4 => ?_)
            · exact ld_S KAh4.out
            clear hK K
            try simp only [Act.put, List.setIfInBounds_toArray, List.set_cons_zero, List.set_cons_succ]
            refine wpAnyH_take (i := 7) (v := ?_) rfl (by kernel_rfl) (by kernel_rfl) (by kernel_rfl) (fun _ _ _ h => h) (Or.inl ⟨by rfl, ?_⟩) (by assumption) ?_
            rotate_left
            · intro W hSw
              try dsimp only at hSw
              go_simp
              try with_reducible rfl
            try simp only [Act.put, List.setIfInBounds_toArray]
            refine wpAnyH_take (i := 8) (v := ?_) rfl (by kernel_rfl) (by kernel_rfl) (by kernel_rfl) (fun _ _ _ h => h) (Or.inl ⟨by rfl, ?_⟩) (by assumption) ?_
            rotate_left
            · intro W hSw
              try dsimp only at hSw
              go_simp
              try with_reducible rfl
            try simp only [Act.put]
            refine wpAnyH_take (i := 9) (v := ?_) rfl (by kernel_rfl) (by kernel_rfl) (by kernel_rfl) (fun _ _ _ h => h) (Or.inl ⟨by rfl, ?_⟩) (by assumption) ?_
            rotate_left
            · intro W hSw
              try dsimp only at hSw
              go_simp
              try with_reducible rfl
            try simp only [Act.put]
            refine wpAnyH_take (i := 10) (v := ?_) rfl (by kernel_rfl) (by kernel_rfl) (by kernel_rfl) (fun _ _ _ h => h) (Or.inl ⟨by rfl, ?_⟩) (by assumption) ?_
            rotate_left
            · intro W hSw
              try dsimp only at hSw
              go_simp
              try with_reducible rfl
            try simp only [Act.put]
            refine wpAnyH_take (i := 11) (v := ?_) rfl (by kernel_rfl) (by kernel_rfl) (by kernel_rfl) (fun _ _ _ h => h) (Or.inl ⟨by rfl, ?_⟩) (by assumption) ?_
            rotate_left
            · intro W hSw
              try dsimp only at hSw
              go_simp
              try with_reducible rfl
            try simp only [Act.put]
            refine wpAnyH_ready (rs := [12]) (by kernel_rfl) (by simp) ?_
            refine AllReadyH.cons rfl (fun K hK => ?_) AllReadyH.nil
            · go_simp
              have hb := below1 Vh4 (.cells #[.int .i64 0, .slice none 0 0, .slice none 0 0, .slice none 0 0] 32)
              have KWh5 : Hid (Blk (Vh4.alloc (.cells #[.int .i64 0, .slice none 0 0, .slice none 0 0, .slice none 0 0] 32)) Vh4.heap.size 32 [.int .i64 0, .slice none 0 0, .slice none 0 0, .slice none 0 0]) := Lib.hid (heap_alloc_new Vh4 _)
              have Bh5 := Lib.hid (Below.tr Bh4.out hb)
              have BRh5 := Lib.hid (Below.tr BRh4.out hb)
              have KAh5 := Lib.hid (KAh4.out.below hb)
              have P1h5 := Lib.hid (P1h4.out.below hb)
              have P2h5 := Lib.hid (P2h4.out.below hb)
              have P3h5 := Lib.hid (P3h4.out.below hb)
              have P4h5 := Lib.hid (P4h4.out.below hb)
              have BBh5 : Hid (w.heap.size < Vh4.heap.size) := Lib.hid KAh4.out.lt
              have NXh5 : Hid (∀ g, MB U1h U2h U3h l1 l2 l3 k1h k2h k3h g → g ≠ Vh4.heap.size) := Lib.hid (fun g hg => by have := (P4h4.out.ge hg).2; omega)
              clear hb
              obtain ⟨bh, hbh⟩ : ∃ q, Vh4.heap.size = q := ⟨_, rfl⟩
              have GEh5 : Hid (Vh0.heap.size ≤ bh) := Lib.hid (by have := BRh4.out.size; omega)
              rw [hbh] at KWh5 BBh5 NXh5 ⊢
              generalize Vh4.alloc (.cells #[.int .i64 0, .slice none 0 0, .slice none 0 0, .slice none 0 0] 32) = Vh5 at KWh5 Bh5 BRh5 KAh5 P1h5 P2h5 P3h5 P4h5 ⊢
              clear hbh
              refine hK.out _ _ ?_ (fun hS5 => ?_)
              · exact ld_S KAh5.out
              clear hK K
              try simp only [Act.put, List.setIfInBounds_toArray, List.set_cons_zero, List.set_cons_succ]
              have v0 : Vh5.cell? ⟨bh, 0, none⟩ = some (.int .i64 0) := KWh5.out.there rfl
              have z0 := KWh5.out.frozen 0
              have v1 : Vh5.cell? ⟨bh, 1, none⟩ = some (.slice none 0 0) := KWh5.out.there rfl
              have z1 := KWh5.out.frozen 1
              have v2 : Vh5.cell? ⟨bh, 2, none⟩ = some (.slice none 0 0) := KWh5.out.there rfl
              have z2 := KWh5.out.frozen 2
              have v3 : Vh5.cell? ⟨bh, 3, none⟩ = some (.slice none 0 0) := KWh5.out.there rfl
              have z3 := KWh5.out.frozen 3
              refine wpAnyH_ready (rs := [13]) (by kernel_rfl) (by simp) ?_
              refine AllReadyH.cons rfl (fun K hK => ?_) AllReadyH.nil
              go_simp
              refine hK.out _ _ ?_ (fun hS2 => ?_)
              · exact ld_S ((((KAh5.out.far (by have := BBh5.out; omega) _).far (by have := BBh5.out; omega) _).far (by have := BBh5.out; omega) _).far (by have := BBh5.out; omega) _)
              clear hK K
              refine wpAnyH_take (i := 14) (v := ?_) rfl (by kernel_rfl) (by kernel_rfl) (by kernel_rfl) (fun _ _ _ h => h) (Or.inl ⟨by rfl, ?_⟩) (by assumption) ?_
              rotate_left
              · intro W hSw
                try dsimp only at hSw
                go_simp
                try with_reducible rfl
              try simp only [Act.put, List.setIfInBounds_toArray]
              refine wpAnyH_take (i := 15) (v := ?_) rfl (by kernel_rfl) (by kernel_rfl) (by kernel_rfl) (fun _ _ _ h => h) (Or.inl ⟨by rfl, ?_⟩) (by assumption) ?_
              rotate_left
              · intro W hSw
                try dsimp only at hSw
                go_simp
                try with_reducible rfl
              try simp only [Act.put]
              refine wpAnyH_take (i := 16) (v := ?_) rfl (by kernel_rfl) (by kernel_rfl) (by kernel_rfl) (fun _ _ _ h => h) (Or.inl ⟨by rfl, ?_⟩) (by assumption) ?_
              rotate_left
              · intro W hSw
                try dsimp only at hSw
                go_simp
                try with_reducible rfl
              try simp only [Act.put]
              refine wpAnyH_done (by kernel_rfl) ?_ _
              clear hK2
              go_simp
              exact key2 _ bh U1h U2h U3h k1h k2h k3h _ _ _ _ _ _ _ (Lib.hid (box_set KWh5.out (.int .i64 da) (.slice U1h l1 k1h) (.slice U2h l2 k2h) (.slice U3h l3 k3h))) (Lib.hid (P4h5.out.kept (kept_set4 Vh5 bh (.int .i64 da) (.slice U1h l1 k1h) (.slice U2h l2 k2h) (.slice U3h l3 k3h)) (fun g hg q => NXh5.out g hg q))) (Lib.hid (Below.tr BRhz.out ((((BRh5.out.setCell (p := ⟨bh, 0, none⟩) GEh5.out _).setCell (p := ⟨bh, 1, none⟩) GEh5.out _).setCell (p := ⟨bh, 2, none⟩) GEh5.out _).setCell (p := ⟨bh, 3, none⟩) GEh5.out _)))
          · go_simp
            have hb := below1 Vh3 (.cells #[.int .i64 0, .slice none 0 0, .slice none 0 0, .slice none 0 0] 32)
            have KWh4 : Hid (Blk (Vh3.alloc (.cells #[.int .i64 0, .slice none 0 0, .slice none 0 0, .slice none 0 0] 32)) Vh3.heap.size 32 [.int .i64 0, .slice none 0 0, .slice none 0 0, .slice none 0 0]) := Lib.hid (heap_alloc_new Vh3 _)
            have Bh4 := Lib.hid (Below.tr Bh3.out hb)
            have BRh4 := Lib.hid (Below.tr BRh3.out hb)
            have KAh4 := Lib.hid (KAh3.out.below hb)
            have P1h4 := Lib.hid (P1h3.out.below hb)
            have P2h4 := Lib.hid (P2h3.out.below hb)
            have P3h4 := Lib.hid (P3h3.out.below hb)
            have BBh4 : Hid (w.heap.size < Vh3.heap.size) := Lib.hid KAh3.out.lt
            clear hb
            obtain ⟨bh, hbh⟩ : ∃ q, Vh3.heap.size = q := ⟨_, rfl⟩
            have GEh4 : Hid (Vh0.heap.size ≤ bh) := Lib.hid (by have := BRh3.out.size; omega)
            rw [hbh] at KWh4 BBh4 ⊢
            generalize Vh3.alloc (.cells #[.int .i64 0, .slice none 0 0, .slice none 0 0, .slice none 0 0] 32) = Vh4 at KWh4 Bh4 BRh4 KAh4 P1h4 P2h4 P3h4 ⊢
            clear hbh
            refine hK.out _ _ ?_ (fun hS4 => ?_)
            · exact ld_S KAh4.out
            clear hK K
            try simp only [Act.put, List.setIfInBounds_toArray, List.set_cons_zero, List.set_cons_succ]
            refine wpAnyH_ready (rs := [6]) (by kernel_rfl) (by simp) ?_
            refine AllReadyH.cons rfl (fun K hK => ?_) AllReadyH.nil
            · go_simp
              refine (implD_any _ _ _ xs _ _ _ ctx a _ _ _ n1 n2 n3 _ _ _ m g _ HG (Lib.hid P1h4.out.lies) HX hn (Lib.hid P2h4.out.ilies) HCX hc20 HA (Lib.hid P3h4.out.lies) LE h1 h2 h3 (Lib.hid (powTab_below HT.out Bh4.out))).mono ?_
              rw [HR.out]
              intro e Vh5 hgd
              obtain ⟨U1h, U2h, U3h, k1h, k2h, k3h, rfl, hk, hb⟩ := GD.out _ _ _ hgd
              clear hgd
              have P4h5 := Lib.hid (hk.base Bh4.out.size)
              have NXh5 : Hid (∀ g, MB U1h U2h U3h l1 l2 l3 k1h k2h k3h g → g ≠ bh) := Lib.hid (fun g hg => by have := (hk.ge hg).1; have := KWh4.out.lt; omega)
              clear hk
              have Bh5 := Lib.hid (Below.tr Bh4.out hb)
              have BRh5 := Lib.hid (Below.tr BRh4.out hb)
              have KAh5 := Lib.hid (KAh4.out.below hb)
              have P1h5 := Lib.hid (P1h4.out.below hb)
              have P2h5 := Lib.hid (P2h4.out.below hb)
              have P3h5 := Lib.hid (P3h4.out.below hb)
              have KWh5 := Lib.hid (KWh4.out.below hb)
              have BBh5 := BBh4
              have GEh5 := GEh4
              clear hb
              refine hK.out _ _ ?_ (fun hS5 => ?_)
              · exact ld_S KAh5.out
              clear hK K
              try simp only [Act.put, List.setIfInBounds_toArray, List.set_cons_zero, List.set_cons_succ]
              refine wpAnyH_take (i := 7) (v := ?_) rfl (by kernel_rfl) (by kernel_rfl) (by kernel_rfl) (fun _ _ _ h => h) (Or.inl ⟨by rfl, ?_⟩) (by assumption) ?_
              rotate_left
              · intro W hSw
                try dsimp only at hSw
                go_simp
                try with_reducible rfl
              try simp only [Act.put, List.setIfInBounds_toArray]
              refine wpAnyH_take (i := 8) (v := ?_) rfl (by kernel_rfl) (by kernel_rfl) (by kernel_rfl) (fun _ _ _ h => h) (Or.inl ⟨by rfl, ?_⟩) (by assumption) ?_
              rotate_left
              · intro W hSw
                try dsimp only at hSw
                go_simp
                try with_reducible rfl
              try simp only [Act.put]
              refine wpAnyH_take (i := 9) (v := ?_) rfl (by kernel_rfl) (by kernel_rfl) (by kernel_rfl) (fun _ _ _ h => h) (Or.inl ⟨by rfl, ?_⟩) (by assumption) ?_
              rotate_left
              · intro W hSw
                try dsimp only at hSw
                go_simp
                try with_reducible rfl
              try simp only [Act.put]
              refine wpAnyH_take (i := 10) (v := ?_) rfl (by kernel_rfl) (by kernel_rfl) (by kernel_rfl) (fun _ _ _ h => h) (Or.inl ⟨by rfl, ?_⟩) (by assumption) ?_
              rotate_left
              · intro W hSw
                try dsimp only at hSw
                go_simp
                try with_reducible rfl
              try simp only [Act.put]
              refine wpAnyH_take (i := 11) (v := ?_) rfl (by kernel_rfl) (by kernel_rfl) (by kernel_rfl) (fun _ _ _ h => h) (Or.inl ⟨by rfl, ?_⟩) (by assumption) ?_
              rotate_left
              · intro W hSw
                try dsimp only at hSw
                go_simp
                try with_reducible rfl
              try simp only [Act.put]
              have v0 : Vh5.cell? ⟨bh, 0, none⟩ = some (.int .i64 0) := KWh5.out.there rfl
              have z0 := KWh5.out.frozen 0
              have v1 : Vh5.cell? ⟨bh, 1, none⟩ = some (.slice none 0 0) := KWh5.out.there rfl
              have z1 := KWh5.out.frozen 1
              have v2 : Vh5.cell? ⟨bh, 2, none⟩ = some (.slice none 0 0) := KWh5.out.there rfl
              have z2 := KWh5.out.frozen 2
              have v3 : Vh5.cell? ⟨bh, 3, none⟩ = some (.slice none 0 0) := KWh5.out.there rfl
              have z3 := KWh5.out.frozen 3
              refine wpAnyH_ready (rs := [13]) (by kernel_rfl) (by simp) ?_
              refine AllReadyH.cons rfl (fun K hK => ?_) AllReadyH.nil
              go_simp
              refine hK.out _ _ ?_ (fun hS2 => ?_)
              · exact ld_S ((((KAh5.out.far (by have := BBh5.out; omega) _).far (by have := BBh5.out; omega) _).far (by have := BBh5.out; omega) _).far (by have := BBh5.out; omega) _)
              clear hK K
              refine wpAnyH_take (i := 14) (v := ?_) rfl (by kernel_rfl) (by kernel_rfl) (by kernel_rfl) (fun _ _ _ h => h) (Or.inl ⟨by rfl, ?_⟩) (by assumption) ?_
              rotate_left
              · intro W hSw
                try dsimp only at hSw
                go_simp
                try with_reducible rfl
              try simp only [Act.put, List.setIfInBounds_toArray]
              refine wpAnyH_take (i := 15) (v := ?_) rfl (by kernel_rfl) (by kernel_rfl) (by kernel_rfl) (fun _ _ _ h => h) (Or.inl ⟨by rfl, ?_⟩) (by assumption) ?_
              rotate_left
              · intro W hSw
                try dsimp only at hSw
                go_simp
                try with_reducible rfl
              try simp only [Act.put]
              refine wpAnyH_take (i := 16) (v := ?_) rfl (by kernel_rfl) (by kernel_rfl) (by kernel_rfl) (fun _ _ _ h => h) (Or.inl ⟨by rfl, ?_⟩) (by assumption) ?_
              rotate_left
              · intro W hSw
                try dsimp only at hSw
                go_simp
                try with_reducible rfl
              try simp only [Act.put]
              refine wpAnyH_done (by kernel_rfl) ?_ _
              clear hK2
              go_simp
              exact key2 _ bh U1h U2h U3h k1h k2h k3h _ _ _ _ _ _ _ (Lib.hid (box_set KWh5.out (.int .i64 da) (.slice U1h l1 k1h) (.slice U2h l2 k2h) (.slice U3h l3 k3h))) (Lib.hid (P4h5.out.kept (kept_set4 Vh5 bh (.int .i64 da) (.slice U1h l1 k1h) (.slice U2h l2 k2h) (.slice U3h l3 k3h)) (fun g hg q => NXh5.out g hg q))) (Lib.hid (Below.tr BRhz.out ((((BRh5.out.setCell (p := ⟨bh, 0, none⟩) GEh5.out _).setCell (p := ⟨bh, 1, none⟩) GEh5.out _).setCell (p := ⟨bh, 2, none⟩) GEh5.out _).setCell (p := ⟨bh, 3, none⟩) GEh5.out _)))
        · go_simp
          have hb := below1 Vh2 (.cells #[.int .i64 0, .slice none 0 0, .slice none 0 0, .slice none 0 0] 32)
          have KWh3 : Hid (Blk (Vh2.alloc (.cells #[.int .i64 0, .slice none 0 0, .slice none 0 0, .slice none 0 0] 32)) Vh2.heap.size 32 [.int .i64 0, .slice none 0 0, .slice none 0 0, .slice none 0 0]) := Lib.hid (heap_alloc_new Vh2 _)
          have Bh3 := Lib.hid (Below.tr Bh2.out hb)
          have BRh3 := Lib.hid (Below.tr BRh2.out hb)
          have KAh3 := Lib.hid (KAh2.out.below hb)
          have P1h3 := Lib.hid (P1h2.out.below hb)
          have P2h3 := Lib.hid (P2h2.out.below hb)
          have BBh3 : Hid (w.heap.size < Vh2.heap.size) := Lib.hid KAh2.out.lt
          clear hb
          obtain ⟨bh, hbh⟩ : ∃ q, Vh2.heap.size = q := ⟨_, rfl⟩
          have GEh3 : Hid (Vh0.heap.size ≤ bh) := Lib.hid (by have := BRh2.out.size; omega)
          rw [hbh] at KWh3 BBh3 ⊢
          generalize Vh2.alloc (.cells #[.int .i64 0, .slice none 0 0, .slice none 0 0, .slice none 0 0] 32) = Vh3 at KWh3 Bh3 BRh3 KAh3 P1h3 P2h3 ⊢
          clear hbh
          refine hK.out _ _ ?_ (fun hS3 => ?_)
          · exact ld_S KAh3.out
          clear hK K
          try simp only [Act.put, List.setIfInBounds_toArray, List.set_cons_zero, List.set_cons_succ]
          refine wpAnyH_ready (rs := [5]) (by kernel_rfl) (by simp) ?_
          refine AllReadyH.cons rfl (fun K hK => ?_) AllReadyH.nil
          · go_simp
            refine (toMachine_any a _ _ _ _ _ _ _ _ _ m _ (Lib.hid (HM.out.below Bh3.out)) LE h1 h2 h3).mono ?_
            rintro e Vh4 ⟨y1h, y2h, y3h, rfl, hk, -, hb⟩
            have P3h4 := Lib.hid hk
            clear hk
            have Bh4 := Lib.hid (Below.tr Bh3.out hb)
            have BRh4 := Lib.hid (Below.tr BRh3.out hb)
            have KAh4 := Lib.hid (KAh3.out.below hb)
            have P1h4 := Lib.hid (P1h3.out.below hb)
            have P2h4 := Lib.hid (P2h3.out.below hb)
            have KWh4 := Lib.hid (KWh3.out.below hb)
            have BBh4 := BBh3
            have GEh4 := GEh3
            clear hb
            refine hK.out _ _ ?_ (fun hS4 => ?_)
            · exact ld_S KAh4.out
            clear hK K
            try simp only [Act.put, List.setIfInBounds_toArray, List.set_cons_zero, List.set_cons_succ]
            refine wpAnyH_ready (rs := [6]) (by kernel_rfl) (by simp) ?_
            refine AllReadyH.cons rfl (fun K hK => ?_) AllReadyH.nil
            · go_simp
              refine (implD_any _ _ _ xs _ _ _ ctx a _ _ _ n1 n2 n3 _ _ _ m g _ HG (Lib.hid P1h4.out.lies) HX hn (Lib.hid P2h4.out.ilies) HCX hc20 HA (Lib.hid P3h4.out.lies) LE h1 h2 h3 (Lib.hid (powTab_below HT.out Bh4.out))).mono ?_
              rw [HR.out]
              intro e Vh5 hgd
              obtain ⟨U1h, U2h, U3h, k1h, k2h, k3h, rfl, hk, hb⟩ := GD.out _ _ _ hgd
              clear hgd
              have P4h5 := Lib.hid (hk.base Bh4.out.size)
              have NXh5 : Hid (∀ g, MB U1h U2h U3h l1 l2 l3 k1h k2h k3h g → g ≠ bh) := Lib.hid (fun g hg => by have := (hk.ge hg).1; have := KWh4.out.lt; omega)
              clear hk
              have Bh5 := Lib.hid (Below.tr Bh4.out hb)
              have BRh5 := Lib.hid (Below.tr BRh4.out hb)
              have KAh5 := Lib.hid (KAh4.out.below hb)
              have P1h5 := Lib.hid (P1h4.out.below hb)
              have P2h5 := Lib.hid (P2h4.out.below hb)
              have P3h5 := Lib.hid (P3h4.out.below hb)
              have KWh5 := Lib.hid (KWh4.out.below hb)
              have BBh5 := BBh4
              have GEh5 := GEh4
              clear hb
              refine hK.out _ _ ?_ (fun hS5 => ?_)
              · exact ld_S KAh5.out
              clear hK K
              try simp only [Act.put, List.setIfInBounds_toArray, List.set_cons_zero, List.set_cons_succ]
              refine wpAnyH_take (i := 7) (v := ?_) rfl (by kernel_rfl) (by kernel_rfl) (by kernel_rfl) (fun _ _ _ h => h) (Or.inl ⟨by rfl, ?_⟩) (by assumption) ?_
              rotate_left
              · intro W hSw
                try dsimp only at hSw
                go_simp
                try with_reducible rfl
              try simp only [Act.put, List.setIfInBounds_toArray]
              refine wpAnyH_take (i := 8) (v := ?_) rfl (by kernel_rfl) (by kernel_rfl) (by kernel_rfl) (fun _ _ _ h => h) (Or.inl ⟨by rfl, ?_⟩) (by assumption) ?_
              rotate_left
              · intro W hSw
                try dsimp only at hSw
                go_simp
                try with_reducible rfl
              try simp only [Act.put]
              refine wpAnyH_take (i := 9) (v := ?_) rfl (by kernel_rfl) (by kernel_rfl) (by kernel_rfl) (fun _ _ _ h => h) (Or.inl ⟨by rfl, ?_⟩) (by assumption) ?_
              rotate_left
              · intro W hSw
                try dsimp only at hSw
                go_simp
                try with_reducible rfl
              try simp only [Act.put]
              refine wpAnyH_take (i := 10) (v := ?_) rfl (by kernel_rfl) (by kernel_rfl) (by kernel_rfl) (fun _ _ _ h => h) (Or.inl ⟨by rfl, ?_⟩) (by assumption) ?_
              rotate_left
              · intro W hSw
                try dsimp only at hSw
                go_simp
                try with_reducible rfl
              try simp only [Act.put]
              refine wpAnyH_take (i := 11) (v := ?_) rfl (by kernel_rfl) (by kernel_rfl) (by kernel_rfl) (fun _ _ _ h => h) (Or.inl ⟨by rfl, ?_⟩) (by assumption) ?_
              rotate_left
              · intro W hSw
                try dsimp only at hSw
                go_simp
                try with_reducible rfl
              try simp only [Act.put]
              have v0 : Vh5.cell? ⟨bh, 0, none⟩ = some (.int .i64 0) := KWh5.out.there rfl
              have z0 := KWh5.out.frozen 0
              have v1 : Vh5.cell? ⟨bh, 1, none⟩ = some (.slice none 0 0) := KWh5.out.there rfl
              have z1 := KWh5.out.frozen 1
              have v2 : Vh5.cell? ⟨bh, 2, none⟩ = some (.slice none 0 0) := KWh5.out.there rfl
              have z2 := KWh5.out.frozen 2
              have v3 : Vh5.cell? ⟨bh, 3, none⟩ = some (.slice none 0 0) := KWh5.out.there rfl
              have z3 := KWh5.out.frozen 3
              refine wpAnyH_ready (rs := [13]) (by kernel_rfl) (by simp) ?_
              refine AllReadyH.cons rfl (fun K hK => ?_) AllReadyH.nil
              go_simp
              refine hK.out _ _ ?_ (fun hS2 => ?_)
              · exact ld_S ((((KAh5.out.far (by have := BBh5.out; omega) _).far (by have := BBh5.out; omega) _).far (by have := BBh5.out; omega) _).far (by have := BBh5.out; omega) _)
              clear hK K
              refine wpAnyH_take (i := 14) (v := ?_) rfl (by kernel_rfl) (by kernel_rfl) (by kernel_rfl) (fun _ _ _ h => h) (Or.inl ⟨by rfl, ?_⟩) (by assumption) ?_
              rotate_left
              · intro W hSw
                try dsimp only at hSw
                go_simp
                try with_reducible rfl
              try simp only [Act.put, List.setIfInBounds_toArray]
              refine wpAnyH_take (i := 15) (v := ?_) rfl (by kernel_rfl) (by kernel_rfl) (by kernel_rfl) (fun _ _ _ h => h) (Or.inl ⟨by rfl, ?_⟩) (by assumption) ?_
              rotate_left
              · intro W hSw
                try dsimp only at hSw
                go_simp
                try with_reducible rfl
              try simp only [Act.put]
              refine wpAnyH_take (i := 16) (v := ?_) rfl (by kernel_rfl) (by kernel_rfl) (by kernel_rfl) (fun _ _ _ h => h) (Or.inl ⟨by rfl, ?_⟩) (by assumption) ?_
              rotate_left
              · intro W hSw
                try dsimp only at hSw
                go_simp
                try with_reducible rfl
              try simp only [Act.put]
              refine wpAnyH_done (by kernel_rfl) ?_ _
              clear hK2
              go_simp
              exact key2 _ bh U1h U2h U3h k1h k2h k3h _ _ _ _ _ _ _ (Lib.hid (box_set KWh5.out (.int .i64 da) (.slice U1h l1 k1h) (.slice U2h l2 k2h) (.slice U3h l3 k3h))) (Lib.hid (P4h5.out.kept (kept_set4 Vh5 bh (.int .i64 da) (.slice U1h l1 k1h) (.slice U2h l2 k2h) (.slice U3h l3 k3h)) (fun g hg q => NXh5.out g hg q))) (Lib.hid (Below.tr BRhz.out ((((BRh5.out.setCell (p := ⟨bh, 0, none⟩) GEh5.out _).setCell (p := ⟨bh, 1, none⟩) GEh5.out _).setCell (p := ⟨bh, 2, none⟩) GEh5.out _).setCell (p := ⟨bh, 3, none⟩) GEh5.out _)))
      · go_simp
        have hb := below1 Vh1 (.cells #[.int .i64 0, .slice none 0 0, .slice none 0 0, .slice none 0 0] 32)
        have KWh2 : Hid (Blk (Vh1.alloc (.cells #[.int .i64 0, .slice none 0 0, .slice none 0 0, .slice none 0 0] 32)) Vh1.heap.size 32 [.int .i64 0, .slice none 0 0, .slice none 0 0, .slice none 0 0]) := Lib.hid (heap_alloc_new Vh1 _)
        have Bh2 := Lib.hid (Below.tr Bh1.out hb)
        have BRh2 := Lib.hid (Below.tr BRh1.out hb)
        have KAh2 := Lib.hid (KAh1.out.below hb)
        have P1h2 := Lib.hid (P1h1.out.below hb)
        have BBh2 : Hid (w.heap.size < Vh1.heap.size) := Lib.hid KAh1.out.lt
        clear hb
        obtain ⟨bh, hbh⟩ : ∃ q, Vh1.heap.size = q := ⟨_, rfl⟩
        have GEh2 : Hid (Vh0.heap.size ≤ bh) := Lib.hid (by have := BRh1.out.size; omega)
        rw [hbh] at KWh2 BBh2 ⊢
        generalize Vh1.alloc (.cells #[.int .i64 0, .slice none 0 0, .slice none 0 0, .slice none 0 0] 32) = Vh2 at KWh2 Bh2 BRh2 KAh2 P1h2 ⊢
        clear hbh
        refine hK.out _ _ ?_ (fun hS2 => ?_)
        · exact ld_S KAh2.out
        clear hK K
        try simp only [Act.put, List.setIfInBounds_toArray, List.set_cons_zero, List.set_cons_succ]
        refine wpAnyH_ready (rs := [3]) (by kernel_rfl) (by simp) ?_
        refine AllReadyH.cons rfl (fun K hK => ?_) AllReadyH.nil
        · go_simp
          refine (toIntS_any _ _ _ ctx _ (Lib.hid (HD.out.below Bh2.out)) HCX hc20).mono ?_
          rintro e Vh3 ⟨rfl, hk, hb⟩
          have P2h3 := Lib.hid hk
          clear hk
          have Bh3 := Lib.hid (Below.tr Bh2.out hb)
          have BRh3 := Lib.hid (Below.tr BRh2.out hb)
          have KAh3 := Lib.hid (KAh2.out.below hb)
          have P1h3 := Lib.hid (P1h2.out.below hb)
          have KWh3 := Lib.hid (KWh2.out.below hb)
          have BBh3 := BBh2
          have GEh3 := GEh2
          clear hb
          refine hK.out _ _ ?_ (fun hS3 => ?_)
          · exact ld_S KAh3.out
          clear hK K
          try simp only [Act.put, List.setIfInBounds_toArray, List.set_cons_zero, List.set_cons_succ]
          refine wpAnyH_ready (rs := [5]) (by kernel_rfl) (by simp) ?_
          refine AllReadyH.cons rfl (fun K hK => ?_) AllReadyH.nil
          · go_simp
            refine (toMachine_any a _ _ _ _ _ _ _ _ _ m _ (Lib.hid (HM.out.below Bh3.out)) LE h1 h2 h3).mono ?_
            rintro e Vh4 ⟨y1h, y2h, y3h, rfl, hk, -, hb⟩
            have P3h4 := Lib.hid hk
            clear hk
            have Bh4 := Lib.hid (Below.tr Bh3.out hb)
            have BRh4 := Lib.hid (Below.tr BRh3.out hb)
            have KAh4 := Lib.hid (KAh3.out.below hb)
            have P1h4 := Lib.hid (P1h3.out.below hb)
            have P2h4 := Lib.hid (P2h3.out.below hb)
            have KWh4 := Lib.hid (KWh3.out.below hb)
            have BBh4 := BBh3
            have GEh4 := GEh3
            clear hb
            refine hK.out _ _ ?_ (fun hS4 => ?_)
            · exact ld_S KAh4.out
            clear hK K
            try simp only [Act.put, List.setIfInBounds_toArray, List.set_cons_zero, List.set_cons_succ]
            refine wpAnyH_ready (rs := [6]) (by kernel_rfl) (by simp) ?_
            refine AllReadyH.cons rfl (fun K hK => ?_) AllReadyH.nil
            · go_simp
              refine (implD_any _ _ _ xs _ _ _ ctx a _ _ _ n1 n2 n3 _ _ _ m g _ HG (Lib.hid P1h4.out.lies) HX hn (Lib.hid P2h4.out.ilies) HCX hc20 HA (Lib.hid P3h4.out.lies) LE h1 h2 h3 (Lib.hid (powTab_below HT.out Bh4.out))).mono ?_
              rw [HR.out]
              intro e Vh5 hgd
              obtain ⟨U1h, U2h, U3h, k1h, k2h, k3h, rfl, hk, hb⟩ := GD.out _ _ _ hgd
              clear hgd
              have P4h5 := Lib.hid (hk.base Bh4.out.size)
              have NXh5 : Hid (∀ g, MB U1h U2h U3h l1 l2 l3 k1h k2h k3h g → g ≠ bh) := Lib.hid (fun g hg => by have := (hk.ge hg).1; have := KWh4.out.lt; omega)
              clear hk
              have Bh5 := Lib.hid (Below.tr Bh4.out hb)
              have BRh5 := Lib.hid (Below.tr BRh4.out hb)
              have KAh5 := Lib.hid (KAh4.out.below hb)
              have P1h5 := Lib.hid (P1h4.out.below hb)
              have P2h5 := Lib.hid (P2h4.out.below hb)
              have P3h5 := Lib.hid (P3h4.out.below hb)
              have KWh5 := Lib.hid (KWh4.out.below hb)
              have BBh5 := BBh4
              have GEh5 := GEh4
              clear hb
              refine hK.out _ _ ?_ (fun hS5 => ?_)
              · exact ld_S KAh5.out
              clear hK K
              try simp only [Act.put, List.setIfInBounds_toArray, List.set_cons_zero, List.set_cons_succ]
              refine wpAnyH_take (i := 7) (v := ?_) rfl (by kernel_rfl) (by kernel_rfl) (by kernel_rfl) (fun _ _ _ h => h) (Or.inl ⟨by rfl, ?_⟩) (by assumption) ?_
              rotate_left
              · intro W hSw
                try dsimp only at hSw
                go_simp
                try with_reducible rfl
              try simp only [Act.put, List.setIfInBounds_toArray]
              refine wpAnyH_take (i := 8) (v := ?_) rfl (by kernel_rfl) (by kernel_rfl) (by kernel_rfl) (fun _ _ _ h => h) (Or.inl ⟨by rfl, ?_⟩) (by assumption) ?_
              rotate_left
              · intro W hSw
                try dsimp only at hSw
                go_simp
                try with_reducible rfl
              try simp only [Act.put]
              refine wpAnyH_take (i := 9) (v := ?_) rfl (by kernel_rfl) (by kernel_rfl) (by kernel_rfl) (fun _ _ _ h => h) (Or.inl ⟨by rfl, ?_⟩) (by assumption) ?_
              rotate_left
              · intro W hSw
                try dsimp only at hSw
                go_simp
                try with_reducible rfl
              try simp only [Act.put]
              refine wpAnyH_take (i := 10) (v := ?_) rfl (by kernel_rfl) (by kernel_rfl) (by kernel_rfl) (fun _ _ _ h => h) (Or.inl ⟨by rfl, ?_⟩) (by assumption) ?_
              rotate_left
              · intro W hSw
                try dsimp only at hSw
                go_simp
                try with_reducible rfl
              try simp only [Act.put]
              refine wpAnyH_take (i := 11) (v := ?_) rfl (by kernel_rfl) (by kernel_rfl) (by kernel_rfl) (fun _ _ _ h => h) (Or.inl ⟨by rfl, ?_⟩) (by assumption) ?_
              rotate_left
              · intro W hSw
                try dsimp only at hSw
                go_simp
                try with_reducible rfl
              try simp only [Act.put]
              have v0 : Vh5.cell? ⟨bh, 0, none⟩ = some (.int .i64 0) := KWh5.out.there rfl
              have z0 := KWh5.out.frozen 0
              have v1 : Vh5.cell? ⟨bh, 1, none⟩ = some (.slice none 0 0) := KWh5.out.there rfl
              have z1 := KWh5.out.frozen 1
              have v2 : Vh5.cell? ⟨bh, 2, none⟩ = some (.slice none 0 0) := KWh5.out.there rfl
              have z2 := KWh5.out.frozen 2
              have v3 : Vh5.cell? ⟨bh, 3, none⟩ = some (.slice none 0 0) := KWh5.out.there rfl
              have z3 := KWh5.out.frozen 3
              refine wpAnyH_ready (rs := [13]) (by kernel_rfl) (by simp) ?_
              refine AllReadyH.cons rfl (fun K hK => ?_) AllReadyH.nil
              go_simp
              refine hK.out _ _ ?_ (fun hS2 => ?_)
              · exact ld_S ((((KAh5.out.far (by have := BBh5.out; omega) _).far (by have := BBh5.out; omega) _).far (by have := BBh5.out; omega) _).far (by have := BBh5.out; omega) _)
              clear hK K
              refine wpAnyH_take (i := 14) (v := ?_) rfl (by kernel_rfl) (by kernel_rfl) (by kernel_rfl) (fun _ _ _ h => h) (Or.inl ⟨by rfl, ?_⟩) (by assumption) ?_
              rotate_left
              · intro W hSw
                try dsimp only at hSw
                go_simp
                try with_reducible rfl
              try simp only [Act.put, List.setIfInBounds_toArray]
              refine wpAnyH_take (i := 15) (v := ?_) rfl (by kernel_rfl) (by kernel_rfl) (by kernel_rfl) (fun _ _ _ h => h) (Or.inl ⟨by rfl, ?_⟩) (by assumption) ?_
              rotate_left
              · intro W hSw
                try dsimp only at hSw
                go_simp
                try with_reducible rfl
              try simp only [Act.put]
              refine wpAnyH_take (i := 16) (v := ?_) rfl (by kernel_rfl) (by kernel_rfl) (by kernel_rfl) (fun _ _ _ h => h) (Or.inl ⟨by rfl, ?_⟩) (by assumption) ?_
              rotate_left
              · intro W hSw
                try dsimp only at hSw
                go_simp
                try with_reducible rfl
              try simp only [Act.put]
              refine wpAnyH_done (by kernel_rfl) ?_ _
              clear hK2
              go_simp
              exact key2 _ bh U1h U2h U3h k1h k2h k3h _ _ _ _ _ _ _ (Lib.hid (box_set KWh5.out (.int .i64 da) (.slice U1h l1 k1h) (.slice U2h l2 k2h) (.slice U3h l3 k3h))) (Lib.hid (P4h5.out.kept (kept_set4 Vh5 bh (.int .i64 da) (.slice U1h l1 k1h) (.slice U2h l2 k2h) (.slice U3h l3 k3h)) (fun g hg q => NXh5.out g hg q))) (Lib.hid (Below.tr BRhz.out ((((BRh5.out.setCell (p := ⟨bh, 0, none⟩) GEh5.out _).setCell (p := ⟨bh, 1, none⟩) GEh5.out _).setCell (p := ⟨bh, 2, none⟩) GEh5.out _).setCell (p := ⟨bh, 3, none⟩) GEh5.out _)))
    · go_simp
      have hb := below1 Vh0 (.cells #[.int .i64 0, .slice none 0 0, .slice none 0 0, .slice none 0 0] 32)
      have KWh1 : Hid (Blk (Vh0.alloc (.cells #[.int .i64 0, .slice none 0 0, .slice none 0 0, .slice none 0 0] 32)) Vh0.heap.size 32 [.int .i64 0, .slice none 0 0, .slice none 0 0, .slice none 0 0]) := Lib.hid (heap_alloc_new Vh0 _)
      have Bh1 := Lib.hid (Below.tr Bh0.out hb)
      have BRh1 := Lib.hid (Below.tr BRh0.out hb)
      have KAh1 := Lib.hid (KAh0.out.below hb)
      have BBh1 : Hid (w.heap.size < Vh0.heap.size) := Lib.hid KAh0.out.lt
      clear hb
      obtain ⟨bh, hbh⟩ : ∃ q, Vh0.heap.size = q := ⟨_, rfl⟩
      have GEh1 : Hid (Vh0.heap.size ≤ bh) := Lib.hid (by have := BRh0.out.size; omega)
      rw [hbh] at KWh1 BBh1 ⊢
      generalize Vh0.alloc (.cells #[.int .i64 0, .slice none 0 0, .slice none 0 0, .slice none 0 0] 32) = Vh1 at KWh1 Bh1 BRh1 KAh1 ⊢
      clear hbh
      refine hK.out _ _ ?_ (fun hS1 => ?_)
      · exact ld_S KAh1.out
      clear hK K
      try simp only [Act.put, List.setIfInBounds_toArray, List.set_cons_zero, List.set_cons_succ]
      refine wpAnyH_ready (rs := [1]) (by kernel_rfl) (by simp) ?_
      refine AllReadyH.cons rfl (fun K hK => ?_) AllReadyH.nil
      · go_simp
        refine (toStepS_n _ _ _ xs _ (Lib.hid (HL.out.below Bh1.out)) HX hn).mono ?_
        rintro e Vh2 ⟨rfl, hk, hb⟩
        have P1h2 := Lib.hid hk
        clear hk
        have Bh2 := Lib.hid (Below.tr Bh1.out hb)
        have BRh2 := Lib.hid (Below.tr BRh1.out hb)
        have KAh2 := Lib.hid (KAh1.out.below hb)
        have KWh2 := Lib.hid (KWh1.out.below hb)
        have BBh2 := BBh1
        have GEh2 := GEh1
        clear hb
        refine hK.out _ _ ?_ (fun hS2 => ?_)
        · exact ld_S KAh2.out
        clear hK K
        try simp only [Act.put, List.setIfInBounds_toArray, List.set_cons_zero, List.set_cons_succ]
        refine wpAnyH_ready (rs := [3]) (by kernel_rfl) (by simp) ?_
        refine AllReadyH.cons rfl (fun K hK => ?_) AllReadyH.nil
        · go_simp
          refine (toIntS_any _ _ _ ctx _ (Lib.hid (HD.out.below Bh2.out)) HCX hc20).mono ?_
          rintro e Vh3 ⟨rfl, hk, hb⟩
          have P2h3 := Lib.hid hk
          clear hk
          have Bh3 := Lib.hid (Below.tr Bh2.out hb)
          have BRh3 := Lib.hid (Below.tr BRh2.out hb)
          have KAh3 := Lib.hid (KAh2.out.below hb)
          have P1h3 := Lib.hid (P1h2.out.below hb)
          have KWh3 := Lib.hid (KWh2.out.below hb)
          have BBh3 := BBh2
          have GEh3 := GEh2
          clear hb
          refine hK.out _ _ ?_ (fun hS3 => ?_)
          · exact ld_S KAh3.out
          clear hK K
          try simp only [Act.put, List.setIfInBounds_toArray, List.set_cons_zero, List.set_cons_succ]
          refine wpAnyH_ready (rs := [5]) (by kernel_rfl) (by simp) ?_
          refine AllReadyH.cons rfl (fun K hK => ?_) AllReadyH.nil
          · go_simp
            refine (toMachine_any a _ _ _ _ _ _ _ _ _ m _ (Lib.hid (HM.out.below Bh3.out)) LE h1 h2 h3).mono ?_
            rintro e Vh4 ⟨y1h, y2h, y3h, rfl, hk, -, hb⟩
            have P3h4 := Lib.hid hk
            clear hk
            have Bh4 := Lib.hid (Below.tr Bh3.out hb)
            have BRh4 := Lib.hid (Below.tr BRh3.out hb)
            have KAh4 := Lib.hid (KAh3.out.below hb)
            have P1h4 := Lib.hid (P1h3.out.below hb)
            have P2h4 := Lib.hid (P2h3.out.below hb)
            have KWh4 := Lib.hid (KWh3.out.below hb)
            have BBh4 := BBh3
            have GEh4 := GEh3
            clear hb
            refine hK.out _ _ ?_ (fun hS4 => ?_)
            · exact ld_S KAh4.out
            clear hK K
            try simp only [Act.put, List.setIfInBounds_toArray, List.set_cons_zero, List.set_cons_succ]
            refine wpAnyH_ready (rs := [6]) (by kernel_rfl) (by simp) ?_
            refine AllReadyH.cons rfl (fun K hK => ?_) AllReadyH.nil
            · go_simp
              refine (implD_any _ _ _ xs _ _ _ ctx a _ _ _ n1 n2 n3 _ _ _ m g _ HG (Lib.hid P1h4.out.lies) HX hn (Lib.hid P2h4.out.ilies) HCX hc20 HA (Lib.hid P3h4.out.lies) LE h1 h2 h3 (Lib.hid (powTab_below HT.out Bh4.out))).mono ?_
              rw [HR.out]
              intro e Vh5 hgd
              obtain ⟨U1h, U2h, U3h, k1h, k2h, k3h, rfl, hk, hb⟩ := GD.out _ _ _ hgd
              clear hgd
              have P4h5 := Lib.hid (hk.base Bh4.out.size)
              have NXh5 : Hid (∀ g, MB U1h U2h U3h l1 l2 l3 k1h k2h k3h g → g ≠ bh) := Lib.hid (fun g hg => by have := (hk.ge hg).1; have := KWh4.out.lt; omega)
              clear hk
              have Bh5 := Lib.hid (Below.tr Bh4.out hb)
              have BRh5 := Lib.hid (Below.tr BRh4.out hb)
              have KAh5 := Lib.hid (KAh4.out.below hb)
              have P1h5 := Lib.hid (P1h4.out.below hb)
              have P2h5 := Lib.hid (P2h4.out.below hb)
              have P3h5 := Lib.hid (P3h4.out.below hb)
              have KWh5 := Lib.hid (KWh4.out.below hb)
              have BBh5 := BBh4
              have GEh5 := GEh4
              clear hb
              refine hK.out _ _ ?_ (fun hS5 => ?_)
              · exact ld_S KAh5.out
              clear hK K
              try simp only [Act.put, List.setIfInBounds_toArray, List.set_cons_zero, List.set_cons_succ]
              refine wpAnyH_take (i := 7) (v := ?_) rfl (by kernel_rfl) (by kernel_rfl) (by kernel_rfl) (fun _ _ _ h => h) (Or.inl ⟨by rfl, ?_⟩) (by assumption) ?_
              rotate_left
              · intro W hSw
                try dsimp only at hSw
                go_simp
                try with_reducible rfl
              try simp only [Act.put, List.setIfInBounds_toArray]
              refine wpAnyH_take (i := 8) (v := ?_) rfl (by kernel_rfl) (by kernel_rfl) (by kernel_rfl) (fun _ _ _ h => h) (Or.inl ⟨by rfl, ?_⟩) (by assumption) ?_
              rotate_left
              · intro W hSw
                try dsimp only at hSw
                go_simp
                try with_reducible rfl
              try simp only [Act.put]
              refine wpAnyH_take (i := 9) (v := ?_) rfl (by kernel_rfl) (by kernel_rfl) (by kernel_rfl) (fun _ _ _ h => h) (Or.inl ⟨by rfl, ?_⟩) (by assumption) ?_
              rotate_left
              · intro W hSw
                try dsimp only at hSw
                go_simp
                try with_reducible rfl
              try simp only [Act.put]
              refine wpAnyH_take (i := 10) (v := ?_) rfl (by kernel_rfl) (by kernel_rfl) (by kernel_rfl) (fun _ _ _ h => h) (Or.inl ⟨by rfl, ?_⟩) (by assumption) ?_
              rotate_left
              · intro W hSw
                try dsimp only at hSw
                go_simp
                try with_reducible rfl
              try simp only [Act.put]
              refine wpAnyH_take (i := 11) (v := ?_) rfl (by kernel_rfl) (by kernel_rfl) (by kernel_rfl) (fun _ _ _ h => h) (Or.inl ⟨by rfl, ?_⟩) (by assumption) ?_
              rotate_left
              · intro W hSw
                try dsimp only at hSw
                go_simp
                try with_reducible rfl
              try simp only [Act.put]
              have v0 : Vh5.cell? ⟨bh, 0, none⟩ = some (.int .i64 0) := KWh5.out.there rfl
              have z0 := KWh5.out.frozen 0
              have v1 : Vh5.cell? ⟨bh, 1, none⟩ = some (.slice none 0 0) := KWh5.out.there rfl
              have z1 := KWh5.out.frozen 1
              have v2 : Vh5.cell? ⟨bh, 2, none⟩ = some (.slice none 0 0) := KWh5.out.there rfl
              have z2 := KWh5.out.frozen 2
              have v3 : Vh5.cell? ⟨bh, 3, none⟩ = some (.slice none 0 0) := KWh5.out.there rfl
              have z3 := KWh5.out.frozen 3
              refine wpAnyH_ready (rs := [13]) (by kernel_rfl) (by simp) ?_
              refine AllReadyH.cons rfl (fun K hK => ?_) AllReadyH.nil
              go_simp
              refine hK.out _ _ ?_ (fun hS2 => ?_)
              · exact ld_S ((((KAh5.out.far (by have := BBh5.out; omega) _).far (by have := BBh5.out; omega) _).far (by have := BBh5.out; omega) _).far (by have := BBh5.out; omega) _)
              clear hK K
              refine wpAnyH_take (i := 14) (v := ?_) rfl (by kernel_rfl) (by kernel_rfl) (by kernel_rfl) (fun _ _ _ h => h) (Or.inl ⟨by rfl, ?_⟩) (by assumption) ?_
              rotate_left
              · intro W hSw
                try dsimp only at hSw
                go_simp
                try with_reducible rfl
              try simp only [Act.put, List.setIfInBounds_toArray]
              refine wpAnyH_take (i := 15) (v := ?_) rfl (by kernel_rfl) (by kernel_rfl) (by kernel_rfl) (fun _ _ _ h => h) (Or.inl ⟨by rfl, ?_⟩) (by assumption) ?_
              rotate_left
              · intro W hSw
                try dsimp only at hSw
                go_simp
                try with_reducible rfl
              try simp only [Act.put]
              refine wpAnyH_take (i := 16) (v := ?_) rfl (by kernel_rfl) (by kernel_rfl) (by kernel_rfl) (fun _ _ _ h => h) (Or.inl ⟨by rfl, ?_⟩) (by assumption) ?_
              rotate_left
              · intro W hSw
                try dsimp only at hSw
                go_simp
                try with_reducible rfl
              try simp only [Act.put]
              refine wpAnyH_done (by kernel_rfl) ?_ _
              clear hK2
              go_simp
              exact key2 _ bh U1h U2h U3h k1h k2h k3h _ _ _ _ _ _ _ (Lib.hid (box_set KWh5.out (.int .i64 da) (.slice U1h l1 k1h) (.slice U2h l2 k2h) (.slice U3h l3 k3h))) (Lib.hid (P4h5.out.kept (kept_set4 Vh5 bh (.int .i64 da) (.slice U1h l1 k1h) (.slice U2h l2 k2h) (.slice U3h l3 k3h)) (fun g hg q => NXh5.out g hg q))) (Lib.hid (Below.tr BRhz.out ((((BRh5.out.setCell (p := ⟨bh, 0, none⟩) GEh5.out _).setCell (p := ⟨bh, 1, none⟩) GEh5.out _).setCell (p := ⟨bh, 2, none⟩) GEh5.out _).setCell (p := ⟨bh, 3, none⟩) GEh5.out _)))
end Go.Proofs.YtfcfnpdomjpibaaDoor
