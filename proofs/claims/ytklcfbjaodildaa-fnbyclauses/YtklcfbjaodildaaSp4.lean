/-
  The model's values, tables, validity of diagrams.
-/
import Derived.Test.YtklcfbjaodildaaSp3
namespace Go.Proofs.Ytklcfbjaodildaa
open Go.ChangeShapes Go.WideShapes Go.ChangeAt Go.RowKit Go.Maps

set_option maxRecDepth 100000 in
set_option maxHeartbeats 4000000 in
theorem l7Eval_any (a r : Int) (A B : Option Addr) (n c m c2 : Nat) (ns : List Nd) (M : List Bool) (w : World) (hl : Hid (NLies w A ns)) (HX : Hid (ns.length = n)) (hn : n ≤ 1048576) (HF : Hid (Fol a ns r)) (hl2 : Hid (BLies w B M)) (HY : Hid (M.length = m)) (hma : (m : Int) = a) (ha6 : m ≤ 6) :
    Calls Try.prog 161 #[.agg #[.int .i64 a, .slice A n c, .int .i64 r], .slice B m c2] w fun e w' => e = .returned (.bool (ev ns r (idxM M))) ∧ Below w.heap.size w w' := by
  subst hma
  go_enter Try.func161, Try.ntmps161
  go_wp2_with fail
  go_loopw [5] (fun i wr => ∃ k : Int, 0 ≤ k ∧ k < n + 2 ∧ i = .int .i64 k ∧ ev ns k (idxM M) = ev ns r (idxM M) ∧ Below w.heap.size w wr ∧ Blk wr w.heap.size 28 [.int .i64 m, .slice A n c, .int .i64 r]) (fun i _ => (intOf i).toNat)
  case atStart => exact ⟨r, HF.out.2.1, by have := HF.out.2.2; rw [HX.out] at this; exact this, rfl, rfl, below1 _ _, heap_alloc_new w _⟩
  case round =>
    obtain ⟨k, hk0, hk1, rfl, hev, hb, hbk⟩ := hrel
    have V1 := Lib.hid hev
    have B1 := Lib.hid hb
    have K1 := Lib.hid hbk
    obtain ⟨t0, t1, t2, _, _, _, hwl⟩ := blk_cells hbk
    clear hev hb hbk
    by_cases hlt : 1 < k
    · obtain ⟨j, hj⟩ : ∃ j : Nat, k = j + 2 := ⟨(k - 2).toNat, by omega⟩
      subst hj
      have hjn : j < n := by omega
      obtain ⟨x, hx⟩ : ∃ x, ns[j]? = some x := ⟨_, List.getElem?_eq_getElem (by have := HX.out; omega)⟩
      obtain ⟨a1, a2, a3, a4, a5, a6⟩ := HF.out.1 j x hx
      obtain ⟨p, hp⟩ : ∃ p : Nat, x.v = p + 1 := ⟨(x.v - 1).toNat, by omega⟩
      have hpm : p < m := by omega
      have hst := ev_step HF.out.ahead (k := (j : Int) + 2) (x := x) (by omega) (by rw [show ((j : Int) + 2 - 2).toNat = j by omega]; exact hx) (idxM M)
      rw [show (x.v - 1).toNat = p by omega] at hst
      obtain ⟨y, hy⟩ : ∃ y, M[p]? = some y := ⟨_, List.getElem?_eq_getElem (by rw [HY.out]; exact hpm)⟩
      rw [idxM_bit hy] at hst
      obtain ⟨b, off, hA, hbl, ha⟩ := (hl.out.below B1.out) j x hx
      obtain ⟨e0, e1, e2⟩ := ha
      obtain ⟨b2, off2, hB, hbl2, hc2⟩ := (hl2.out.below B1.out) p y hy
      rw [hp] at e0
      subst hA hB
      clear hx hy hp
      cases y
      · simp only [Bool.false_eq_true, if_false] at hst
        have ST := Lib.hid hst
        clear hst
        go_wp2
        go_roundw
        case rel => exact ⟨x.l, a3, by omega, rfl, by rw [← ST.out]; exact V1.out, Below.tr B1.out (below1 _ _), K1.out.below (below1 _ _)⟩
        case measure => simp [intOf]; omega
      · simp only [if_true] at hst
        have ST := Lib.hid hst
        clear hst
        go_wp2
        go_roundw
        case rel => exact ⟨x.h, a5, by omega, rfl, by rw [← ST.out]; exact V1.out, Below.tr B1.out (below1 _ _), K1.out.below (below1 _ _)⟩
        case measure => simp [intOf]; omega
    · have E : Hid (ev ns r (idxM M) = (k == 1)) := Lib.hid (by rw [← V1.out, ev_low ns (by omega)])
      go_wp2
      go_ret
      exact ⟨ret_bool E.out.symm, B1.out⟩

theorem inB_ah (a : Int) (k : Nat) : inB 0 ((k : Int) + 1) a = ahB a k := by
  unfold inB ahB
  rw [Bool.eq_iff_iff]
  simp
  omega
/-- what the model's table of a diagram answers -/
def rT (a : Int) (ns : List Nd) (r : Int) (T : List Bool) (ok : Bool) : Prop := ok = (deepB a && decide (ns.length ≤ 64) && folB a ns r) ∧ T = if ok then tabL a.toNat ns r else []
theorem rT_no {a : Int} {ns : List Nd} {r : Int} {T : List Bool} {ok : Bool} (h : rT a ns r T ok) (hn : (deepB a && decide (ns.length ≤ 64) && folB a ns r) = false) : T = [] ∧ ok = false := by
  obtain ⟨h1, h2⟩ := h
  rw [hn] at h1
  rw [h1] at h2
  exact ⟨h2, h1⟩
theorem take_tabL {n : Nat} {ns : List Nd} {r : Int} {k : Nat} (h : k < 2 ^ n) : (tabL n ns r).take (k + 1) = (tabL n ns r).take k ++ [ev ns r k] := by
  rw [List.take_add_one, tabL_at h]
  rfl
set_option maxRecDepth 100000 in
set_option maxHeartbeats 8000000 in
theorem l7Table_any (a r : Int) (A : Option Addr) (n c : Nat) (ns : List Nd) (w : World) (T : List Bool) (ok : Bool) (HR : Hid (rT a ns r T ok)) (hl : Hid (NLies w A ns)) (HX : Hid (ns.length = n)) (hn : n ≤ 1048576) :
    Calls Try.prog 137 #[.agg #[.int .i64 a, .slice A n c, .int .i64 r]] w fun e w' => ∃ A2 c2, e = .returned (.tuple #[.slice A2 T.length c2, .bool ok]) ∧ w'.ownsRow w.heap.size 4 1 (.slice A2 T.length c2) T.length (T.map Value.bool) ∧ Below w.heap.size w w' := by
  obtain ⟨i0, hi0, hz0, hz1, hz2⟩ := info_parts info_bool
  have DE : inB 0 6 a = deepB a := by simp [inB, deepB]
  cases hd : deepB a
  · obtain ⟨rfl, rfl⟩ := rT_no HR.out (by rw [hd]; rfl)
    rw [hd] at DE
    go_enter Try.func137, Try.ntmps137
    go_wp2_with (go_at_call 94; refine (l1In_any _ _ _ _).mono ?_; rintro e w' ⟨rfl, rfl⟩; rw [DE])
    go_ret2
    exact ⟨none, 0, rfl, World.ownsRow_nil _ _ _ _, below1 _ _⟩
  rw [hd] at DE
  by_cases h64 : 64 < n
  · obtain ⟨rfl, rfl⟩ := rT_no HR.out (by rw [HX.out, decide_eq_false (by omega)]; simp)
    go_enter Try.func137, Try.ntmps137
    go_wp2_with (go_at_call 94; refine (l1In_any _ _ _ _).mono ?_; rintro e w' ⟨rfl, rfl⟩; rw [DE])
    go_ret2
    exact ⟨none, 0, rfl, World.ownsRow_nil _ _ _ _, below1 _ _⟩
  have RE := inB_ah r n
  cases hr : ahB r n
  · obtain ⟨rfl, rfl⟩ := rT_no HR.out (by
      have : folB a ns r = false := folB_false (fun hf => by have := hf.2; rw [HX.out] at this; simp [ahB] at hr; omega)
      rw [this]; simp)
    rw [hr] at RE
    go_enter Try.func137, Try.ntmps137
    go_wp2_with (go_at_call 94; refine (l1In_any _ _ _ _).mono ?_; rintro e w' ⟨rfl, rfl⟩; first | rw [DE] | rw [RE])
    go_ret2
    exact ⟨none, 0, rfl, World.ownsRow_nil _ _ _ _, below1 _ _⟩
  rw [hr] at RE
  have ha0 : 0 ≤ a ∧ a ≤ 6 := by simp [deepB] at hd; omega
  go_enter Try.func137, Try.ntmps137
  go_wp2_with (go_at_call 94; refine (l1In_any _ _ _ _).mono ?_; rintro e w' ⟨rfl, rfl⟩; first | rw [DE] | rw [RE])
  go_loopw [31] (fun i wr => ∃ k : Nat, k ≤ n ∧ i = .int .i64 k ∧ FolK a ns k ∧ Below w.heap.size w wr ∧ Blk wr w.heap.size 28 [.int .i64 a, .slice A n c, .int .i64 r]) (fun i _ => n - (intOf i).toNat)
  case atStart => exact ⟨0, Nat.zero_le _, rfl, fun i x hi => absurd hi (Nat.not_lt_zero _), below1 _ _, heap_alloc_new w _⟩
  case round =>
    obtain ⟨k, hk, rfl, hf, hb, hbk⟩ := hrel
    have F1 := Lib.hid hf
    have B1 := Lib.hid hb
    have K1 := Lib.hid hbk
    obtain ⟨t0, t1, t2, _, _, _, hwl⟩ := blk_cells hbk
    clear hf hb hbk
    by_cases hlt : k < n
    · obtain ⟨x, hx⟩ : ∃ x, ns[k]? = some x := ⟨_, List.getElem?_eq_getElem (by have := HX.out; omega)⟩
      obtain ⟨b, off, rfl, hbl, ha⟩ := (hl.out.below B1.out) k x hx
      have HXK := Lib.hid hx
      clear hx
      obtain ⟨e0, e1, e2⟩ := ha
      have X1 := inB_ah x.l k
      have X2 := inB_ah x.h k
      cases h1 : inB 1 a x.v
      · have E := Lib.hid (rT_no HR.out (by rw [fol_not (n := a) (r := r) HXK.out (by simp [inB] at h1; omega)]; simp))
        go_wp2_with (go_at_call 94; refine (l1In_any _ _ _ _).mono ?_; rintro e w' ⟨rfl, rfl⟩; rw [h1])
        go_ret2
        obtain ⟨rfl, rfl⟩ := E.out
        exact ⟨none, 0, rfl, World.ownsRow_nil _ _ _ _, Below.tr B1.out (below1 _ _)⟩
      cases h3 : ahB x.l k
      · have E := Lib.hid (rT_no HR.out (by rw [fol_not (n := a) (r := r) HXK.out (.inr (.inr (.inl h3)))]; simp))
        rw [h3] at X1
        go_wp2_with (go_at_call 94; refine (l1In_any _ _ _ _).mono ?_; rintro e w' ⟨rfl, rfl⟩; first | rw [h1] | rw [X1])
        go_ret2
        obtain ⟨rfl, rfl⟩ := E.out
        exact ⟨none, 0, rfl, World.ownsRow_nil _ _ _ _, Below.tr B1.out (below1 _ _)⟩
      rw [h3] at X1
      cases h4 : ahB x.h k
      · have E := Lib.hid (rT_no HR.out (by rw [fol_not (n := a) (r := r) HXK.out (.inr (.inr (.inr h4)))]; simp))
        rw [h4] at X2
        go_wp2_with (go_at_call 94; refine (l1In_any _ _ _ _).mono ?_; rintro e w' ⟨rfl, rfl⟩; first | rw [h1] | rw [X1] | rw [X2])
        go_ret2
        obtain ⟨rfl, rfl⟩ := E.out
        exact ⟨none, 0, rfl, World.ownsRow_nil _ _ _ _, Below.tr B1.out (below1 _ _)⟩
      rw [h4] at X2
      have F2 := Lib.hid (F1.out.succ HXK.out (by simp [inB] at h1; omega) (by simp [inB] at h1; omega) h3 h4)
      go_wp2_with (go_at_call 94; refine (l1In_any _ _ _ _).mono ?_; rintro e w' ⟨rfl, rfl⟩; first | rw [h1] | rw [X1] | rw [X2])
      go_roundw
      case rel => exact ⟨k + 1, by omega, by go_num, F2.out, Below.tr B1.out (below1 _ _), K1.out.below (below1 _ _)⟩
      case measure => simp [intOf]; omega
    · obtain rfl : k = n := by omega
      have hfb : folB a ns r = true := by have h := F1.out; rw [← HX.out] at h; rw [fol_end h, HX.out]; exact hr
      have HF := Lib.hid (folB_true.1 hfb)
      obtain ⟨p, hp⟩ : ∃ p : Nat, a = p := ⟨a.toNat, by omega⟩
      subst hp
      have hp6 : p ≤ 6 := by omega
      obtain ⟨q, hq⟩ : ∃ q, 2 ^ p = q := ⟨_, rfl⟩
      have HQ := Lib.hid hq
      have hq64 : q ≤ 64 := by rw [← hq]; exact pow_le6 hp6
      have hsh2 : IntKind.i64.wrap (2 ^ p) = (q : Int) := by
        have := shl_one p (by omega)
        rw [hq] at this
        rw [← this, Int.one_mul]
      have hsh3 : wrap64 (2 ^ p) = (q : Int) := by
        have e : (2 : Int) ^ p = (q : Int) := by rw [← hq]; push_cast; rfl
        rw [e]
        unfold wrap64
        omega
      have E : Hid (T = tabL p ns r ∧ ok = true) := Lib.hid (by
        obtain ⟨h1, h2⟩ := HR.out
        rw [hd, HX.out, decide_eq_true (by omega), hfb] at h1
        rw [h1] at h2
        exact ⟨by simpa using h2, h1⟩)
      have TL : Hid ((tabL p ns r).length = q) := Lib.hid (by rw [tabL_len, hq])
      clear hfb hq
      go_wp2_with fail
      obtain ⟨wo, hwo⟩ : ∃ x, x = wr := ⟨_, rfl⟩
      subst hwo
      go_loopw [6, 7] (fun u i wr => ∃ j : Nat, j ≤ q ∧ i = .int .i64 j ∧ (∃ A3 c3, u = .slice A3 j c3 ∧ wr.ownsRow (w.heap.size + 1) 4 1 (.slice A3 j c3) j (((tabL p ns r).take j).map Value.bool)) ∧ Below w.heap.size w wr ∧ Blk wr w.heap.size 28 [.int .i64 p, .slice A k c, .int .i64 r]) (fun _ i _ => q - (intOf i).toNat)
      case atStart => exact ⟨0, Nat.zero_le _, rfl, ⟨none, 0, rfl, World.ownsRow_nil _ _ _ _⟩, B1.out, K1.out⟩
      case round =>
        obtain ⟨j, hj, rfl, ⟨A3, c3, rfl, hown⟩, hb, hbk⟩ := hrel
        have O3 := Lib.hid hown
        have B2 := Lib.hid hb
        have K2 := Lib.hid hbk
        obtain ⟨v0, v1, v2, _, _, _, hwl2⟩ := blk_cells hbk
        clear hown hb hbk t0 t1 t2
        by_cases hlt2 : j < q
        · have HTK := Lib.hid (take_tabL (n := p) (ns := ns) (r := r) (k := j) (by rw [HQ.out]; exact hlt2))
          have HMI := Lib.hid (idxM_model p j (by rw [HQ.out]; exact hlt2))
          go_wp2_with fail
          -- REGION13
          refine wp_region_held_drew (S := fun W => W.cell? ⟨w.heap.size, 0, none⟩ = some (.int .i64 p) ∧ W.cell? ⟨w.heap.size, 1, none⟩ = some (.slice A k c) ∧ W.cell? ⟨w.heap.size, 2, none⟩ = some (.int .i64 r)) (by kernel_rfl) ?_ (fun hHeld => ?_)
          · exact ⟨v0, v1, v2⟩
          obtain ⟨w3, hw3⟩ : ∃ wd, wd = wr.drew := ⟨_, rfl⟩
          have BD : Hid (Below w.heap.size w w3) := Lib.hid (by rw [hw3]; exact B2.out.drew)
          have OD : Hid (w3.ownsRow (w.heap.size + 1) 4 1 (.slice A3 j c3) j (((tabL p ns r).take j).map Value.bool)) := Lib.hid (by rw [hw3]; exact own_below O3.out (Below.refl wr.heap.size wr).drew)
          have KD : Hid (Blk w3 w.heap.size 28 [.int .i64 p, .slice A k c, .int .i64 r]) := Lib.hid (by rw [hw3]; exact K2.out.below (Below.refl wr.heap.size wr).drew)
          rw [← hw3] at hHeld ⊢
          clear hw3 v0 v1 v2 O3 B2 K2
          refine wpAnyH_take (i := 0) (v := ?_) rfl (by kernel_rfl) (by kernel_rfl) (by kernel_rfl) (fun _ _ _ h => h) (Or.inl ⟨by rfl, ?_⟩) (by assumption) ?_
          rotate_left
          · intro W hSw
            try dsimp only at hSw
            go_simp
            try with_reducible rfl
          simp only [Act.put, List.setIfInBounds_toArray]
          refine wpAnyH_take (i := 1) (v := ?_) rfl (by kernel_rfl) (by kernel_rfl) (by kernel_rfl) (fun _ _ _ h => h) (Or.inl ⟨by rfl, ?_⟩) (by assumption) ?_
          rotate_left
          · intro W hSw
            try dsimp only at hSw
            go_simp
            try with_reducible rfl
          simp only [Act.put]
          refine wpAnyH_take (i := 2) (v := ?_) rfl (by kernel_rfl) (by kernel_rfl) (by kernel_rfl) (fun _ _ _ h => h) (Or.inl ⟨by rfl, ?_⟩) (by assumption) ?_
          rotate_left
          · intro W hSw
            try dsimp only at hSw
            go_simp
            try with_reducible rfl
          simp only [Act.put]
          refine wpAnyH_take (i := 3) (v := ?_) rfl (by kernel_rfl) (by kernel_rfl) (by kernel_rfl) (fun _ _ _ h => h) (Or.inl ⟨by rfl, ?_⟩) (by assumption) ?_
          rotate_left
          · intro W hSw
            try dsimp only at hSw
            go_simp
            try with_reducible rfl
          simp only [Act.put]
          refine wpAnyH_take (i := 4) (v := ?_) rfl (by kernel_rfl) (by kernel_rfl) (by kernel_rfl) (fun _ _ _ h => h) (Or.inl ⟨by rfl, ?_⟩) (by assumption) ?_
          rotate_left
          · intro W hSw
            try dsimp only at hSw
            go_simp
            try with_reducible rfl
          simp only [Act.put]
          refine wpAnyH_ready (rs := [5]) (by kernel_rfl) (by simp) ?_
          refine AllReadyH.cons rfl (fun K hK => ?_) AllReadyH.nil
          go_simp
          refine (l4Model_any p j _ (by omega) (by omega)).mono ?_
          rintro e w4 ⟨rfl, hk4, hb4⟩
          have M4 := Lib.hid hk4.blies
          have B4 := Lib.hid (Below.tr BD.out hb4)
          have O4 := Lib.hid (own_below OD.out hb4)
          have K4 := Lib.hid (KD.out.below hb4)
          obtain ⟨v0, v1, v2, _, _, _, hwl4⟩ := blk_cells K4.out
          clear hk4 hb4
          refine hK.out _ _ ⟨v0, v1, v2⟩ (fun hH4 => ?_)
          clear hK K hHeld
          try simp only [Act.put, List.setIfInBounds_toArray, List.set_cons_zero, List.set_cons_succ]
          refine wpAnyH_ready (rs := [6]) (by kernel_rfl) (by simp) ?_
          refine AllReadyH.cons rfl (fun K hK => ?_) AllReadyH.nil
          go_simp
          refine (l7Eval_any p r A _ k c p p ns (modelN p j) _ (Lib.hid (hl.out.below B4.out)) HX hn HF M4 (Lib.hid (modelN_len p j)) rfl hp6).mono ?_
          rw [HMI.out]
          rintro e w5 ⟨rfl, hb5⟩
          have B5 := Lib.hid (Below.tr B4.out hb5)
          have O5 := Lib.hid (own_below O4.out hb5)
          have K5 := Lib.hid (K4.out.below hb5)
          clear v0 v1 v2 hwl4
          obtain ⟨v0, v1, v2, _, _, _, hwl5⟩ := blk_cells K5.out
          clear hb5
          refine hK.out _ _ ⟨v0, v1, v2⟩ (fun hH5 => ?_)
          clear hK K hH4
          try simp only [Act.put, List.setIfInBounds_toArray, List.set_cons_zero, List.set_cons_succ]
          refine wpAnyH_ready (rs := [7]) (by kernel_rfl) (by simp) ?_
          refine AllReadyH.cons rfl (fun K hK => ?_) AllReadyH.nil
          go_simp
          obtain ⟨W6, hW6⟩ : ∃ W, W = w5.alloc (.cells #[.bool (ev ns r j)] 4) := ⟨_, rfl⟩
          have hb6 : Below w5.heap.size w5 W6 := by rw [hW6]; exact below1 _ _
          have hnw : ∀ i u, [Value.bool (ev ns r j)][i]? = some u → W6.cell? ((⟨w5.heap.size, 0, none⟩ : Addr).add i) = some u := by rw [hW6]; exact one_new1 w5 _ _
          have hszW : W6.heap.size = w5.heap.size + 1 := by rw [hW6]; simp
          rw [← hW6]
          have HW6 := Lib.hid hW6
          clear hW6
          have K6 := K5.out.below hb6
          have O6 := own_below O5.out hb6
          clear v0 v1 v2
          obtain ⟨v0, v1, v2, _, _, _, hwl6⟩ := blk_cells K6
          refine hK.out _ _ ⟨v0, v1, v2⟩ (fun hH6 => ?_)
          clear hK K hH5
          try simp only [Act.put, List.setIfInBounds_toArray, List.set_cons_zero, List.set_cons_succ]
          refine wpAnyH_ready (rs := [8]) (by kernel_rfl) (by simp) ?_
          refine AllReadyH.cons rfl (fun K hK => ?_) AllReadyH.nil
          refine step_append_lies _ rfl _ _ 49 rfl (w.heap.size + 1) 4 i0 (.bool false) 1 1 Try.underlying49 hi0 hz0 hz1 hz2 rfl (by omega) _ j _ rfl O6 ⟨w5.heap.size, 0, none⟩ 1 1 [.bool (ev ns r j)] rfl rfl hnw (by intro u hu; rw [List.mem_singleton.1 hu]; rfl) (by omega) (by unfold maxLen; omega) (by omega) (by omega) _ rfl ?_
          intro g6 cap6 w6 hown6 hg6 hat6 hlt6
          have H6 := Lib.hid (appB O5.out hown6 (by rw [HW6.out] at hg6; exact hg6) B5.out (Nat.le_succ _))
          have K7 := (Kept.of_grown (S := fun i => (Value.slice A3 j c3).ownBlock = some i) hg6 (fun g e => e)).blk K6 (fun e => by have := O6.lt _ e; omega)
          clear hown6 hg6 hat6 hlt6 v0 v1 v2
          obtain ⟨v0, v1, v2, _, _, _, hwl7⟩ := blk_cells K7
          refine hK.out _ _ ⟨v0, v1, v2⟩ (fun hH7 => ?_)
          clear hK K hH6
          try simp only [Act.put, List.setIfInBounds_toArray]
          refine wpAnyH_ready (rs := [9]) (by kernel_rfl) (by simp) ?_
          refine AllReadyH.cons rfl (fun K hK => ?_) AllReadyH.nil
          go_simp
          refine hK.out _ _ ⟨v0, v1, v2⟩ (fun hH8 => ?_)
          clear hK K hH7
          try simp only [Act.put, List.setIfInBounds_toArray, List.set_cons_zero, List.set_cons_succ]
          refine wpAnyH_done (by kernel_rfl) ?_ _
          have K8 := Lib.hid K7
          clear K7 K6 O6 hnw hb6 hszW HW6 hH8
          go_wp2
          go_roundw
          case rel => exact ⟨j + 1, by omega, by go_num, ⟨_, _, rfl, by rw [HTK.out]; exact H6.out.1⟩, H6.out.2, K8.out⟩
          case measure => simp [intOf]; omega
        · obtain rfl : j = q := by omega
          go_wp2
          go_ret2
          obtain ⟨rfl, rfl⟩ := E.out
          exact ⟨A3, c3, by rw [TL.out]; rfl, by have h := O3.out; rw [List.take_of_length_le (by rw [TL.out]; exact Nat.le_refl _)] at h; rw [TL.out]; exact own_baseN h (Nat.le_succ _), B2.out⟩
end Go.Proofs.Ytklcfbjaodildaa
