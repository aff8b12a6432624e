/-
  isJump and LeadersOf of the program.
-/
import Derived.Test.YtilnegmjnbffhaaRfWay
namespace Go.Proofs.Ytilnegmjnbffhaa
open Go.ChangeShapes Go.WideShapes Go.ChangeAt Go.RowKit
attribute [local go_sem] Oper.semAt_some

def leadR (xs : List Stp) : List Int := castL (leadL (ktOf xs))
theorem lead_len (l : KT) : (castL (leadL l)).length ≤ l.length := by
  rw [castL_len]
  unfold leadL leadQ
  have := List.length_filter_le (fun i : Nat => decide (i = 0) || (reachL (edg l) l.length 0).any (fun k => decide (ttA l k ≠ 0) && (decide ((i : Int) = (k : Int) + ttA l k + 1) || (decide (i = k + 1) && rb (edg l) 0 i)))) (List.range l.length)
  rw [List.length_range] at this
  exact this
def jmpB (k : Int) : Bool := k == 8 || k == 9 || k == 10
theorem isJump_any (k o d s i t : Int) (w : World) : Calls Try.prog 47 #[.agg #[.int .i64 k, .int .i64 o, .int .i64 d, .int .i64 s, .int .i64 i, .int .i64 t]] w fun e w' => e = .returned (.bool (jmpB k)) ∧ Below w.heap.size w w' := by
  unfold jmpB
  cases q1 : (k == 8)
  · cases q2 : (k == 9)
    · cases q3 : (k == 10)
      · go_enter Try.func47, Try.ntmps47
        go_wp2
        go_ret
        exact ⟨rfl, below1 _ _⟩
      · go_enter Try.func47, Try.ntmps47
        go_wp2
        go_ret
        exact ⟨rfl, below1 _ _⟩
    · go_enter Try.func47, Try.ntmps47
      go_wp2
      go_ret
      exact ⟨rfl, below1 _ _⟩
  · go_enter Try.func47, Try.ntmps47
    go_wp2
    go_ret
    exact ⟨rfl, below1 _ _⟩
theorem lead_row (l : KT) (n : Nat) : ((madeCells #[Value.bool false] n).setIfInBounds 0 (Value.bool true)) = (bitsV n (ldF l []).1).toArray := by
  rw [made_rep, bitsV_zero, List.setIfInBounds_toArray, bitsV_set]
  refine congrArg List.toArray (bitsV_ext (fun j _ => ?_))
  simp [ldF]
theorem ttA_at {xs : List Stp} {a : Nat} {x : Stp} (h : xs[a]? = some x) : ttA (ktOf xs) a = x.t := by unfold ttA; rw [ktOf_at h]
theorem jmp_iff (k : Int) : jmpB k = true ↔ k = 8 ∨ k = 9 ∨ k = 10 := by unfold jmpB; simp [or_assoc]
theorem jmp_no {xs : List Stp} (g : Good xs) {a : Nat} {x : Stp} (h : xs[a]? = some x) : (jmpB x.k = false → x.t = 0) ∧ 0 ≤ x.t := by
  have q := (good_kt g a _ (ktOf_at h)).1
  simp only at q
  refine ⟨fun hj => ?_, q.1⟩
  rcases Int.lt_trichotomy x.t 0 with r | r | r
  · omega
  · exact r
  · have := (jmp_iff x.k).2 (q.2.1 (by omega)); rw [hj] at this; cases this
theorem jmp_yes {xs : List Stp} (g : Good xs) {a : Nat} {x : Stp} (h : xs[a]? = some x) (hj : jmpB x.k = true) : ∃ t : Nat, x.t = (t : Int) ∧ 1 ≤ t ∧ a + t + 1 < xs.length := by
  have q := (good_kt g a _ (ktOf_at h)).1
  simp only at q
  obtain ⟨t, ht⟩ := Int.eq_ofNat_of_zero_le q.1
  have hk := (jmp_iff x.k).1 hj
  have hne := q.2.2 hk
  refine ⟨t, ht, by omega, ?_⟩
  have hne' : ttA (ktOf xs) a ≠ 0 := by rw [ttA_at h]; exact hne
  obtain ⟨b, hb, hbn, _⟩ := jump_to (good_kt g) hne'
  rw [ttA_at h] at hb
  rw [ktOf_len] at hbn
  omega
theorem four_rows (w : World) (cs : List Value) (t0 : TypeId) (v1 : Value) (t1 : TypeId) (v2 : Value) (t2 : TypeId) (v3 : Value) (t3 : TypeId) (v4 : Value) (t4 : TypeId) {V : World} (h : ((((w.alloc (.cells cs.toArray t0)).alloc (.cells #[v1] t1)).alloc (.cells #[v2] t2)).alloc (.cells #[v3] t3)).alloc (.cells #[v4] t4) = V) :
    Blk V w.heap.size t0 cs ∧ Blk V (w.heap.size + 1) t1 [v1] ∧ Blk V (w.heap.size + 1 + 1) t2 [v2] ∧ Blk V (w.heap.size + 1 + 1 + 1) t3 [v3] ∧ Blk V (w.heap.size + 1 + 1 + 1 + 1) t4 [v4] ∧ V.heap.size = w.heap.size + 5 ∧ Below w.heap.size w V := by
  subst h
  obtain ⟨U, hU⟩ : ∃ U, ((w.alloc (.cells cs.toArray t0)).alloc (.cells #[v1] t1)).alloc (.cells #[v2] t2) = U := ⟨_, rfl⟩
  obtain ⟨q0, q1, q2, sz, hb⟩ := row_boxes w cs t0 v1 t1 v2 t2 hU
  rw [hU]
  obtain ⟨q3, q4⟩ := two_boxes U v3 t3 v4 t4
  rw [sz] at q3 q4
  have k := below2 U (.cells #[v3] t3) (.cells #[v4] t4)
  exact ⟨q0.below k, q1.below k, q2.below k, q3, q4, by simp [sz], Below.tr hb k⟩
set_option maxRecDepth 100000 in
set_option maxHeartbeats 8000000 in
theorem implLead_any (A : Option Addr) (n cap : Nat) (xs : List Stp) (w : World) (b : Bool) (l : List Int) (hr : Hid (TwoRes (Good xs) (leadR xs) b l)) (hl : Hid (Lies w A xs)) (hx : Hid (xs.length = n)) (hn : n ≤ 1048576) :
    Calls Try.prog 20 #[.slice A n cap] w (GaveTwo w l b) := by
  obtain ⟨i0, hi0, hz0, hz1, hz2⟩ := info_parts info_int
  refine (callsIn_wide (n := 0)).1 ?_
  refine callsIn_of_wp_marks Try.func20 rfl trivial ?_ rfl
  simp only [Try.ntmps20, List.size_toArray, List.length_cons, List.length_nil, Nat.reduceAdd, Nat.reduceSub, Array.replicate_succ, Array.replicate_zero, List.push_toArray, List.append_toArray, List.nil_append, List.cons_append]
  gi_wp2_with fail
  refine ⟨trivial, rfl, ?_⟩
  refine (callsIn_wide.2 (flowOf_any _ _ _ xs _ b (Lib.hid hr.out.1) (Lib.hid (hl.out.below (below1 _ _))) hx hn)).mono ?_
  rintro e w1 ⟨h1, h2⟩
  have P1 : Hid (Blk (w.alloc (.cells #[.slice A n cap] 23)) w.heap.size 23 [.slice A n cap]) := Lib.hid (heap_alloc_new w _)
  cases b
  · obtain ⟨rfl, hb1⟩ := h2 rfl
    have B1 := Lib.hid (Below.tr (below1 _ _) hb1)
    clear hb1 h1 h2 P1
    obtain rfl := hr.out.2.1 rfl
    gi_wp2
    exact ⟨_, results_tmp2 rfl _ _ _, none, 0, rfl, World.ownsRow_nil _ _ _ _, B1.out⟩
  · obtain ⟨A1, c1, rfl, hl1, hb1⟩ := h1 rfl
    have B1 := Lib.hid (Below.tr (below1 _ _) hb1)
    have P2 := Lib.hid (P1.out.below hb1)
    have L1 := Lib.hid hl1
    have HGX := Lib.hid (hr.out.1.1 rfl)
    have hle := hr.out.2.2 rfl
    subst hle
    obtain ⟨hn0, hn20⟩ := good_20 HGX.out hx.out
    clear hb1 hl1 h1 h2 P1
    have hwz : w.heap.size < w1.heap.size := P2.out.lt
    have c0 := P2.out.cell 0
    simp only [List.getElem?_cons_zero] at c0
    have hmk := fun w : World => run_make_row' (P := Try.prog) 58 4 (.bool false) 1 Try.underlying58 info_bool rfl .i64 .i64 n (by omega) (by omega) w
    have hm0 : (madeCells #[Value.bool false] n)[0]? = some (.bool false) := by rw [made_rep]; simp [hn0]
    gi_wp2_with fail
    refine ⟨trivial, rfl, ?_⟩
    refine (callsIn_wide.2 (stepsFrom_any _ _ _ _ _)).mono ?_
    rintro e w' ⟨rfl, rfl⟩
    gi_wp2_with fail
    rw [lead_row (ktOf xs) n]
    obtain ⟨V, hV⟩ : ∃ V, ((((w1.alloc (.cells (bitsV n (ldF (ktOf xs) []).1).toArray 4)).alloc (.cells #[.slice (some ⟨w1.heap.size, 0, none⟩) n n] 58)).alloc (.cells #[.slice none 0 0] 28)).alloc (.cells #[.slice A1 n c1] 45)).alloc (.cells #[.int .i64 0] 3) = V := ⟨_, rfl⟩
    obtain ⟨x0, x1, x2, x3, x4, sz, BV⟩ := four_rows w1 _ _ _ _ _ _ _ _ _ _ hV
    rw [hV]
    clear hV hm0
    have X3 := Lib.hid x3
    have X4 := Lib.hid (show Blk V (w1.heap.size + 1 + 1 + 1 + 1) 3 [.int .i64 ((0 : Nat) : Int)] from x4)
    have hT : ∀ i, (i < w1.heap.size ∨ i = w1.heap.size + 1 + 1 + 1 ∨ i = w1.heap.size + 1 + 1 + 1 + 1) → i < V.heap.size := fun i h => by omega
    refine rangeR (n := 0) (gf := 64) (lb := #[.pointer (some ⟨w1.heap.size + 1 + 1 + 1, 0, none⟩), .pointer (some ⟨w1.heap.size + 1 + 1 + 1 + 1, 0, none⟩)]) rfl (enters_of Try.func64 (by kernel_rfl) rfl)
      (steps_seq (ktOf xs) (good_kt HGX.out) n 0 c1 (w1.heap.size + 1 + 1 + 1) A1 V w1 _ (Lib.hid (by rw [ktOf_len]; exact hx.out)) hn20 hn0 L1 (Lib.hid BV) X3 X4 (fun i h => .inl h) (.inr (.inl rfl)) (.inr (.inr rfl)) hT)
      (fun _ => rfl) hT
      (fun pre W => Blk W w1.heap.size 4 (bitsV n (ldF (ktOf xs) pre).1) ∧ Blk W (w1.heap.size + 1) 58 [.slice (some ⟨w1.heap.size, 0, none⟩) n n] ∧ CB W (w1.heap.size + 1 + 1) (V.heap.size + (2 + 1)) (ldF (ktOf xs) pre).2 ∧ Below w1.heap.size w1 W) ?_ ?_
      (fun x => { tmps := #[.slice A n cap, .pointer (some ⟨w.heap.size, 0, none⟩), .slice none 0 0, .bool false, .slice A1 n c1, .bool true, .pointer (some ⟨w1.heap.size + 1, 0, none⟩), .pointer (some ⟨w1.heap.size + 1 + 1, 0, none⟩), .int .i64 x, .tuple #[.slice A1 n c1, .bool true], .slice A n cap, .tuple #[.slice A1 n c1, .bool true], .slice A1 n c1, .bool true, .bool true, .bool false, .slice A n cap, .int .i64 n, .slice (some ⟨w1.heap.size, 0, none⟩) n n, .slice (some ⟨w1.heap.size, 0, none⟩) n n, .pointer (some ⟨w1.heap.size, 0, none⟩), .slice A1 n c1, .func (.func 64) #[] #[.pointer (some ⟨w1.heap.size + 1 + 1 + 1, 0, none⟩), .pointer (some ⟨w1.heap.size + 1 + 1 + 1 + 1, 0, none⟩)], .int .i64 x, undef, undef, undef, undef, undef, undef, undef, undef, undef, undef, undef, undef, undef, undef, undef, undef, undef, undef, undef, undef, undef, undef, undef, undef, undef, undef, undef, undef], defers := [] })
      ?assign ?body ?done
    · rintro s X Y ⟨q1, q2, q3, q4⟩ hk
      exact ⟨hk.blk q1 (fun q => by unfold Prv at q; omega), hk.blk q2 (fun q => by unfold Prv at q; omega), q3.kept hk (fun q => by unfold Prv at q; omega) (fun g q => by unfold Prv at q; omega), hk.below q4 q4.size (fun i q => by unfold Prv at q; omega)⟩
    · exact ⟨x0, x1, ⟨none, 0, x2, World.ownsRow_nil _ _ _ _⟩, BV⟩
    case assign =>
      intro l m x W K hK
      gi_wp2
      exact hK
    case body =>
      rintro l2 m2 pre a rest W hxs ⟨q1, q2, ⟨A2, c2, q3, q4⟩, q5⟩ hsz
      obtain ⟨a, rfl, han⟩ : ∃ k : Nat, (k : Int) = a ∧ k < n := by
        have hm : a ∈ castL (reachL (edg (ktOf xs)) n 0) := by rw [hxs]; simp
        obtain ⟨k, hk, e⟩ := castL_mem.1 hm
        exact ⟨k, e, (mem_reach.1 hk).1⟩
      have Q1 := Lib.hid q1
      have Q2 := Lib.hid q2
      have Q3 := Lib.hid q3
      have Q4 := Lib.hid q4
      have Q5 := Lib.hid q5
      have hpl : pre.length ≤ 20 := by have h1 := congrArg List.length hxs; have h2 := reach_len (edg (ktOf xs)) n 0; simp at h1; omega
      have hfl : (ldF (ktOf xs) pre).2.length ≤ 20 := Nat.le_trans (ld_len _ _) hpl
      clear hxs q1 q2 q3 q4 q5
      obtain ⟨x, hx'⟩ : ∃ x, xs[a]? = some x := ⟨_, List.getElem?_eq_getElem (by have := hx.out; omega)⟩
      have HXA := Lib.hid hx'
      clear hx'
      have PB := Lib.hid (P2.out.below Q5.out)
      have d0 := PB.out.cell 0
      have d2 := Q2.out.cell 0
      have d3 := Q3.out.cell 0
      simp only [List.getElem?_cons_zero] at d0 d2 d3
      have d1 := (Q1.out.cell a).trans (bitsV_at _ han)
      have hlt3 := Q3.out.lt
      obtain ⟨b4, off4, rfl, hb4, ha4⟩ := hl.out a x HXA.out
      have BW := Lib.hid (Below.tr B1.out Q5.out)
      obtain ⟨e0, e1, e2, e3, e4, e5⟩ := ha4.below BW.out hb4
      have ha' : (a : Int) < (n : Int) := by omega
      have AT := Lib.hid ha4
      clear ha4
      have SN := Lib.hid (ldF_snoc (ktOf xs) pre a)
      obtain ⟨mk, hmk2⟩ : ∃ mk, (ldF (ktOf xs) pre).1 = mk := ⟨_, rfl⟩
      obtain ⟨fl, hfle⟩ : ∃ fl, (ldF (ktOf xs) pre).2 = fl := ⟨_, rfl⟩
      rw [hfle] at Q3 Q4 d3 hfl SN
      rw [hmk2] at Q1 d1 SN
      clear hfle hmk2
      cases hk : mk a
      · rw [hk] at d1
        have HK := Lib.hid hk
        clear hk
        gi_wp2_with fail
        have F1 := Q1
        have F2 := Q2
        have F3 : Hid (CB W (w1.heap.size + 1 + 1) (V.heap.size + (2 + 1)) fl) := Lib.hid ⟨A2, c2, Q3.out, Q4.out⟩
        have FK : Hid (Kept W W (fun i => i = w1.heap.size + 1 + 1 ∨ V.heap.size + (2 + 1) ≤ i)) := Lib.hid (Kept.refl _ _)
        refine ⟨trivial, (fun h => absurd h (by decide)), ?_⟩
        refine (CallsIn.inRound l2 (callsIn_wide.2 (isJump_any _ _ _ _ _ _ _))).mono ?_
        rintro e v2 ⟨rfl, hb2⟩
        have G1 := Lib.hid (F1.out.below hb2)
        have G2 := Lib.hid (F2.out.below hb2)
        have G3 := Lib.hid (F3.out.kept (Kept.of_below (S := fun _ => False) hb2) (fun h => h) (fun _ h => h.elim))
        have GK := Lib.hid (FK.out.trans (Kept.of_below hb2))
        have G5 := Lib.hid (GK.out.below Q5.out Q5.out.size (fun i q => by omega))
        have g0 := (P2.out.below G5.out).cell 0
        have g2 := G2.out.cell 0
        simp only [List.getElem?_cons_zero] at g0 g2
        obtain ⟨e0, e1, e2, e3, e4, e5⟩ := AT.out.below (Below.tr B1.out G5.out) hb4
        clear hb2 F1 F2 F3 FK
        cases hj : jmpB x.k
        · have ht0 : Hid (ttA (ktOf xs) a = 0) := Lib.hid ((ttA_at HXA.out).trans ((jmp_no HGX.out HXA.out).1 hj))
          gi_wp2
          refine ⟨GK.out.mono (fun i q => ⟨fun t => ?_, fun p => ?_⟩), ?_, G2.out, ?_, G5.out⟩
          · rcases t with t | t | t <;> omega
          · unfold Prv at p; omega
          · rw [SN.out]
            rw [bitsV_ext (q := mk) (fun j _ => by simp [ht0.out])]
            exact G1.out
          · rw [SN.out]
            simp only [Int.toNat_natCast, HK.out]
            exact G3.out
        · obtain ⟨t, ht, ht1, ht2⟩ := jmp_yes HGX.out HXA.out hj
          rw [hx.out] at ht2
          have ht0 : Hid (ttA (ktOf xs) a = t) := Lib.hid ((ttA_at HXA.out).trans ht)
          have HT := Lib.hid ht
          have u1 := (G1.out.cell (a + 1)).trans (bitsV_at _ (by omega))
          have f1 := G1.out.frozen (a + 1)
          have h1n : (a : Int) + 1 < (n : Int) := by omega
          have h2n : (a : Int) + (t : Int) + 1 < (n : Int) := by omega
          obtain ⟨v3, hv3⟩ : ∃ X, v2.setCell ⟨w1.heap.size, a + 1, none⟩ (.bool true) = X := ⟨_, rfl⟩
          have k3 : Kept v2 v3 (fun i => i = w1.heap.size) := by rw [← hv3]; exact Kept.set
          have s1 := G1.out.set (a + 1) (.bool true)
          rw [hv3, bitsV_set] at s1
          have S1 := Lib.hid s1
          have S2 := Lib.hid (k3.blk G2.out (by omega))
          have S3 := Lib.hid (G3.out.kept k3 (by omega) (fun g q => by omega))
          have S5 := Lib.hid (k3.below G5.out G5.out.size (fun i q => by omega))
          have SK := Lib.hid k3
          clear ht hj k3 s1
          gi_wp2
          clear hv3
          have g0 := (P2.out.below S5.out).cell 0
          have g2 := S2.out.cell 0
          simp only [List.getElem?_cons_zero] at g0 g2
          obtain ⟨e0, e1, e2, e3, e4, e5⟩ := AT.out.below (Below.tr B1.out S5.out) hb4
          rw [HT.out] at e5
          have u2 := (S1.out.cell (a + t + 1)).trans (bitsV_at _ (by omega))
          have f2 := S1.out.frozen (a + t + 1)
          refine still_round 9 (by rintro ⟨_, _, h⟩; exact h) (by kernel_rfl) (by kernel_rfl) (by kernel_rfl) ?_
          simp only [List.take_succ_cons, List.take_zero, List.drop_succ_cons, List.drop_zero]
          repeat still_step
          refine wpStill_nil ?_
          go_wp2
          have kz : Kept v3 (v3.setCell ⟨w1.heap.size, a + t + 1, none⟩ (.bool true)) (fun i => i = w1.heap.size) := Kept.set
          have kd : Kept (v3.setCell ⟨w1.heap.size, a + t + 1, none⟩ (.bool true)) (v3.setCell ⟨w1.heap.size, a + t + 1, none⟩ (.bool true)).drew (fun i => i = w1.heap.size) := ⟨rfl, rfl, rfl, Nat.le_refl _, fun _ _ _ => rfl⟩
          have z1 := S1.out.set (a + t + 1) (.bool true)
          rw [bitsV_set] at z1
          have ka := (GK.out.mono (fun i q => show i = w1.heap.size + 1 + 1 ∨ V.heap.size + (2 + 1) ≤ i ∨ i = w1.heap.size from by omega)).trans ((SK.out.trans (kz.trans kd)).mono (fun i q => show i = w1.heap.size + 1 + 1 ∨ V.heap.size + (2 + 1) ≤ i ∨ i = w1.heap.size from .inr (.inr q)))
          refine ⟨ka.mono (fun i q => ⟨fun tt => ?_, fun p => ?_⟩), ?_, ?_, ?_, ?_⟩
          · rcases tt with tt | tt | tt <;> omega
          · unfold Prv at p; omega
          · rw [SN.out]
            rw [bitsV_ext (q := fun j => (mk j || decide (j = a + 1)) || decide (j = a + t + 1)) (fun j _ => by
              simp only [Int.toNat_natCast, ht0.out]
              have q0 : decide ((t : Int) ≠ 0) = true := decide_eq_true (by omega)
              have q1 : decide ((j : Int) = (a : Int) + 1) = decide (j = a + 1) := decide_eq_decide.2 (by omega)
              have q2 : decide ((j : Int) = (a : Int) + (t : Int) + 1) = decide (j = a + t + 1) := decide_eq_decide.2 (by omega)
              rw [q0, q1, q2, Bool.true_and, Bool.or_assoc])]
            exact z1
          · exact S2.out.far (by omega) _
          · rw [SN.out]
            simp only [Int.toNat_natCast, HK.out]
            exact S3.out.kept (kz.trans kd) (by omega) (fun g q => by omega)
          · exact Below.drew (S5.out.setCell (Nat.le_refl _) _)
      · rw [hk] at d1
        have HK := Lib.hid hk
        clear hk
        gi_wp2_with (gi_at_builtin; refine wpListIn_append_own _ rfl _ _ 28 rfl (V.heap.size + (2 + 1)) 3 i0 (.int .i64 0) 1 8 Try.underlying28 hi0 hz0 hz1 hz2 rfl (by decide) _ _ _ rfl (own_below Q4.out (below1 _ _)) ⟨(W).heap.size, 0, none⟩ 1 1 [.int .i64 (a)] rfl rfl (one_new1 _ _ _) (by simp [Value.oneCell']) (by unfold maxLen; omega) (by omega) (by simp; omega) ?_; intro v3 w3 hown3 hg3 _; obtain ⟨g3, cap3, rfl⟩ := ownsRow_succ hown3; obtain ⟨hb3, hcb, hkp⟩ := CB.app (by omega) Q3.out Q4.out hown3 hg3; have hc3 := hb3.cell 0; have hf3 := hb3.frozen 0; simp only [List.getElem?_cons_zero] at hc3; have CBX := Lib.hid hcb; have KPX := Lib.hid hkp; have KG := Lib.hid ((Kept.of_below (S := fun i => V.heap.size + (2 + 1) ≤ i) (below1 W _)).trans (Kept.of_grown hg3 (fun g e => (Q4.out.lt g e).1))); have k0 := (KG.out.blk PB.out (by omega)).cell 0; simp only [List.getElem?_cons_zero] at k0; obtain ⟨e0, e1, e2, e3, e4, e5⟩ := AT.out.below (KG.out.below BW.out BW.out.size (fun i q => by omega)) hb4; clear hcb hkp hown3 hg3)
        have F1 := Lib.hid (KPX.out.blk Q1.out (by omega))
        have F2 := Lib.hid (KPX.out.blk Q2.out (by omega))
        have F3 := CBX
        have FK := KPX
        refine ⟨trivial, (fun h => absurd h (by decide)), ?_⟩
        refine (CallsIn.inRound l2 (callsIn_wide.2 (isJump_any _ _ _ _ _ _ _))).mono ?_
        rintro e v2 ⟨rfl, hb2⟩
        have G1 := Lib.hid (F1.out.below hb2)
        have G2 := Lib.hid (F2.out.below hb2)
        have G3 := Lib.hid (F3.out.kept (Kept.of_below (S := fun _ => False) hb2) (fun h => h) (fun _ h => h.elim))
        have GK := Lib.hid (FK.out.trans (Kept.of_below hb2))
        have G5 := Lib.hid (GK.out.below Q5.out Q5.out.size (fun i q => by omega))
        have g0 := (P2.out.below G5.out).cell 0
        have g2 := G2.out.cell 0
        simp only [List.getElem?_cons_zero] at g0 g2
        obtain ⟨e0, e1, e2, e3, e4, e5⟩ := AT.out.below (Below.tr B1.out G5.out) hb4
        clear hb2 F1 F2 F3 FK
        cases hj : jmpB x.k
        · have ht0 : Hid (ttA (ktOf xs) a = 0) := Lib.hid ((ttA_at HXA.out).trans ((jmp_no HGX.out HXA.out).1 hj))
          gi_wp2
          refine ⟨GK.out.mono (fun i q => ⟨fun t => ?_, fun p => ?_⟩), ?_, G2.out, ?_, G5.out⟩
          · rcases t with t | t | t <;> omega
          · unfold Prv at p; omega
          · rw [SN.out]
            rw [bitsV_ext (q := mk) (fun j _ => by simp [ht0.out])]
            exact G1.out
          · rw [SN.out]
            simp only [Int.toNat_natCast, HK.out]
            exact G3.out
        · obtain ⟨t, ht, ht1, ht2⟩ := jmp_yes HGX.out HXA.out hj
          rw [hx.out] at ht2
          have ht0 : Hid (ttA (ktOf xs) a = t) := Lib.hid ((ttA_at HXA.out).trans ht)
          have HT := Lib.hid ht
          have u1 := (G1.out.cell (a + 1)).trans (bitsV_at _ (by omega))
          have f1 := G1.out.frozen (a + 1)
          have h1n : (a : Int) + 1 < (n : Int) := by omega
          have h2n : (a : Int) + (t : Int) + 1 < (n : Int) := by omega
          obtain ⟨v3, hv3⟩ : ∃ X, v2.setCell ⟨w1.heap.size, a + 1, none⟩ (.bool true) = X := ⟨_, rfl⟩
          have k3 : Kept v2 v3 (fun i => i = w1.heap.size) := by rw [← hv3]; exact Kept.set
          have s1 := G1.out.set (a + 1) (.bool true)
          rw [hv3, bitsV_set] at s1
          have S1 := Lib.hid s1
          have S2 := Lib.hid (k3.blk G2.out (by omega))
          have S3 := Lib.hid (G3.out.kept k3 (by omega) (fun g q => by omega))
          have S5 := Lib.hid (k3.below G5.out G5.out.size (fun i q => by omega))
          have SK := Lib.hid k3
          clear ht hj k3 s1
          gi_wp2
          clear hv3
          have g0 := (P2.out.below S5.out).cell 0
          have g2 := S2.out.cell 0
          simp only [List.getElem?_cons_zero] at g0 g2
          obtain ⟨e0, e1, e2, e3, e4, e5⟩ := AT.out.below (Below.tr B1.out S5.out) hb4
          rw [HT.out] at e5
          have u2 := (S1.out.cell (a + t + 1)).trans (bitsV_at _ (by omega))
          have f2 := S1.out.frozen (a + t + 1)
          refine still_round 9 (by rintro ⟨_, _, h⟩; exact h) (by kernel_rfl) (by kernel_rfl) (by kernel_rfl) ?_
          simp only [List.take_succ_cons, List.take_zero, List.drop_succ_cons, List.drop_zero]
          repeat still_step
          refine wpStill_nil ?_
          go_wp2
          have kz : Kept v3 (v3.setCell ⟨w1.heap.size, a + t + 1, none⟩ (.bool true)) (fun i => i = w1.heap.size) := Kept.set
          have kd : Kept (v3.setCell ⟨w1.heap.size, a + t + 1, none⟩ (.bool true)) (v3.setCell ⟨w1.heap.size, a + t + 1, none⟩ (.bool true)).drew (fun i => i = w1.heap.size) := ⟨rfl, rfl, rfl, Nat.le_refl _, fun _ _ _ => rfl⟩
          have z1 := S1.out.set (a + t + 1) (.bool true)
          rw [bitsV_set] at z1
          have ka := (GK.out.mono (fun i q => show i = w1.heap.size + 1 + 1 ∨ V.heap.size + (2 + 1) ≤ i ∨ i = w1.heap.size from by omega)).trans ((SK.out.trans (kz.trans kd)).mono (fun i q => show i = w1.heap.size + 1 + 1 ∨ V.heap.size + (2 + 1) ≤ i ∨ i = w1.heap.size from .inr (.inr q)))
          refine ⟨ka.mono (fun i q => ⟨fun tt => ?_, fun p => ?_⟩), ?_, ?_, ?_, ?_⟩
          · rcases tt with tt | tt | tt <;> omega
          · unfold Prv at p; omega
          · rw [SN.out]
            rw [bitsV_ext (q := fun j => (mk j || decide (j = a + 1)) || decide (j = a + t + 1)) (fun j _ => by
              simp only [Int.toNat_natCast, ht0.out]
              have q0 : decide ((t : Int) ≠ 0) = true := decide_eq_true (by omega)
              have q1 : decide ((j : Int) = (a : Int) + 1) = decide (j = a + 1) := decide_eq_decide.2 (by omega)
              have q2 : decide ((j : Int) = (a : Int) + (t : Int) + 1) = decide (j = a + t + 1) := decide_eq_decide.2 (by omega)
              rw [q0, q1, q2, Bool.true_and, Bool.or_assoc])]
            exact z1
          · exact S2.out.far (by omega) _
          · rw [SN.out]
            simp only [Int.toNat_natCast, HK.out]
            exact S3.out.kept (kz.trans kd) (by omega) (fun g q => by omega)
          · exact Below.drew (S5.out.setCell (Nat.le_refl _) _)
    case done =>
      rintro D W rfl ⟨-, -, ⟨A2, c2, q1, q2⟩, q3⟩ hK
      have el : (ldF (ktOf xs) (castL (reachL (edg (ktOf xs)) n 0))).2 = leadR xs := by
        have := ld_end (good_kt HGX.out)
        rw [ktOf_len, hx.out] at this
        exact this
      rw [el] at q1 q2
      have hc := q1.cell 0
      simp only [List.getElem?_cons_zero] at hc
      gi_wp2
      refine ⟨by simp, .inl ⟨_, _, rfl, run_takeDeferred hK, ?_⟩⟩
      have hz1 := B1.out.size
      exact ⟨_, results_tmp2 rfl _ _ _, A2, c2, rfl, own_base (ownsRow_putObj q2 _ hK rfl) (by omega), (Kept.put W _ _).below (Below.tr B1.out q3) (by have := q3.size; omega) (fun i q => by omega)⟩
end Go.Proofs.Ytilnegmjnbffhaa
