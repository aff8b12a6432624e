/-
  Solve and SolveWith, the program's and the model's; FollowsFrom.
-/
import Derived.Test.YtkkoeeoalkjhoaaSolveS
namespace Go.Proofs.Ytkkoeeoalkjhoaa
open Go.ChangeShapes Go.WideShapes Go.ChangeAt Go.RowKit

theorem good_tot {v : Int} {L : List (List Int)} (h : goodB v L = true) : tot L ≤ 720 := by
  have h1 := tot_few (R := L) (fun c hc => clauseB_len (goodB_cl h c hc))
  have h2 := goodB_len h
  unfold tot
  omega
set_option maxRecDepth 100000 in
set_option maxHeartbeats 2000000 in
theorem specSolve_any (v : Int) (A : Option Addr) (n cap : Nat) (L : List (List Int)) (w : World) (s : Bool) (M : List Bool) (R : List (List Int)) (ok : Bool) (hr : Hid (SolR v L s M R ok)) (hl : Hid (LLies w A L)) (hl2 : Hid (LNil w A L)) (HX : Hid (L.length = n)) (hn : n ≤ 9223372036854775807) :
    Calls Try.prog 57 #[.int .i64 v, .slice A n cap] w (GaveSol w s M R ok) := by
  cases q1 : goodB v L
  · have E := Lib.hid (hr.out.no q1)
    go_enter Try.func57, Try.ntmps57
    go_wp2_with (go_at_call 63; refine (specGoodC_any _ _ _ _ L _ hl HX hn).mono ?_; rintro e w' ⟨rfl, rfl⟩; rw [q1])
    (try simp only [Exit.inBlock, Exit.then]); refine bodyPost_ret (results_tmp4 rfl _ _ _) rfl ?_
    obtain ⟨rfl, rfl, rfl, rfl⟩ := E.out
    exact sol_no (Below.refl _ _)
  have hv := goodB_v q1
  obtain ⟨V, rfl⟩ : ∃ V : Nat, v = V := ⟨v.toNat, by omega⟩
  have hv2 : V ≤ 12 := by omega
  have hn60 : n ≤ 60 := by have := goodB_len q1; have := HX.out; omega
  have HC := Lib.hid (goodB_cl q1)
  have HT : Hid (tot L ≤ 1048576) := Lib.hid (by have := good_tot q1; omega)
  have ST : Hid (SInv V L (if ok then some (s, M, R) else none) [] []) := Lib.hid (by have := hr.out.start q1; simpa using this)
  have HOK := Lib.hid hr.out.2
  clear hv
  go_enter Try.func57, Try.ntmps57
  go_wp2_with (go_at_call 63; refine (specGoodC_any _ _ _ _ L _ hl HX hn).mono ?_; rintro e w' ⟨rfl, rfl⟩; rw [q1])
  refine (l5Solve_any V _ _ _ L _ s M R ok ST HOK hl hl2 HX hv2 hn60 HC HT).mono ?_
  rintro e w3 ⟨A3, c3, B3, d3, vs3, rfl, h1, h2, h3, h4⟩
  have G := Lib.hid (And.intro h1 (And.intro h2 (And.intro h3 h4)))
  clear h1 h2 h3 h4
  go_wp2
  (try simp only [Exit.inBlock, Exit.then]); refine bodyPost_ret (results_tmp4 rfl _ _ _) rfl ?_
  exact ⟨A3, c3, B3, d3, vs3, rfl, G.out.1, G.out.2.1, G.out.2.2.1, G.out.2.2.2⟩

/-- each as a clause of its own -/
def sing (l : List Int) : List (List Int) := l.map fun x => [x]
theorem sing_len (l : List Int) : (sing l).length = l.length := by simp [sing]
theorem sing_at {l : List Int} {k : Nat} {x : Int} (h : l[k]? = some x) : sing (l.take (k + 1)) = sing (l.take k) ++ [[x]] := by
  unfold sing
  rw [take_snoc h, List.map_append]
  rfl
theorem sing_tot (l : List Int) : tot (sing l) = l.length := by
  induction l with
  | nil => rfl
  | cons x t ih => simp [sing, tot] at ih ⊢; omega
theorem good_sing {v : Int} {L : List (List Int)} {g : List Int} (h1 : goodB v L = true) (h2 : clauseB v g = true) : goodB v (L ++ sing g) = decide (L.length + g.length ≤ 60) := by
  have hv := goodB_v h1
  have hall : (L ++ sing g).all (clauseB v) = true := by
    rw [List.all_eq_true]
    intro c hc
    rcases List.mem_append.1 hc with q | q
    · exact goodB_cl h1 c q
    · obtain ⟨x, hx, rfl⟩ := List.mem_map.1 q
      have := clauseB_lits h2 x hx
      simp [clauseB, clOk, this]
  unfold goodB
  rw [hall, List.length_append, sing_len]
  simp [hv.1, hv.2]
/-- what SolveWith answers -/
def WithR (v : Int) (L : List (List Int)) (g : List Int) (s : Bool) (M : List Bool) (R : List (List Int)) (ok : Bool) : Prop :=
  if (goodB v L && clauseB v g) = true then SolR v (L ++ sing g) s M R ok else s = false ∧ M = [] ∧ R = [] ∧ ok = false
theorem withR_any (v : Int) (L : List (List Int)) (g : List Int) : ∃ s M R ok, WithR v L g s M R ok := by
  unfold WithR
  split
  · exact solR_any _ _
  · exact ⟨_, _, _, _, rfl, rfl, rfl, rfl⟩
theorem WithR.small {v : Int} {L : List (List Int)} {g : List Int} {s : Bool} {M : List Bool} {R : List (List Int)} {ok : Bool} (h : WithR v L g s M R ok) : M.length ≤ 12 ∧ R.length ≤ 300 ∧ tot R ≤ 3600 := by
  unfold WithR at h
  split at h
  · have := h.small; exact ⟨this.1, this.2.1, this.2.2.1⟩
  · obtain ⟨_, rfl, rfl, _⟩ := h; simp [tot]
theorem WithR.no {v : Int} {L : List (List Int)} {g : List Int} {s : Bool} {M : List Bool} {R : List (List Int)} {ok : Bool} (h : WithR v L g s M R ok) (hn : (goodB v L && clauseB v g) = false) : s = false ∧ M = [] ∧ R = [] ∧ ok = false := by
  unfold WithR at h
  rw [hn] at h
  simpa using h
theorem WithR.yes {v : Int} {L : List (List Int)} {g : List Int} {s : Bool} {M : List Bool} {R : List (List Int)} {ok : Bool} (h : WithR v L g s M R ok) (h1 : goodB v L = true) (h2 : clauseB v g = true) : SolR v (L ++ sing g) s M R ok := by
  unfold WithR at h
  rw [h1, h2] at h
  simpa using h

/-- a list of lists of one's own, its inner lists anyone's -/
structure CR (w : World) (base : Nat) (v : Value) (vs : List Value) (L : List (List Int)) : Prop where
  outer : w.ownsRow base 40 1 v L.length vs
  rows : Rows0 w (fun g => g < w.heap.size ∧ v.ownBlock ≠ some g) vs L
theorem CR.lies {w : World} {base n c : Nat} {A : Option Addr} {vs : List Value} {L : List (List Int)} (h : CR w base (.slice A n c) vs L) : LLies w A L := by
  intro i l hl
  have hlt : i < L.length := (List.getElem?_eq_some_iff.1 hl).1
  obtain ⟨a, cc, h1, h2, h3, h4, _⟩ := h.rows.2 i l hl
  obtain ⟨g, cap, hv, _, hg⟩ := h.outer.form (by omega)
  have hA : A = some ⟨g, 0, none⟩ := by injection hv
  subst hA
  refine ⟨g, 0, a, cc, rfl, hg, ?_, h2, h3, h4⟩
  have := h.outer.cells (g := g) rfl i _ h1
  rw [add_plain] at this
  exact this
theorem CR.grow {wr wj w3 : World} {base : Nat} {A2 : Option Addr} {n c2 g3 cap3 : Nat} {vs : List Value} {R : List (List Int)} {o : List Int} {A3 : Option Addr} {c3 : Nat}
    (h : CR wr base (.slice A2 n c2) vs R) (hn : R.length = n) (BJ : Below wr.heap.size wr wj)
    (ho : wj.ownsRow wr.heap.size 3 1 (.slice A3 o.length c3) o.length (o.map (Value.int .i64)))
    (hown3 : w3.ownsRow base 40 1 (.slice (some ⟨g3, 0, none⟩) (n + 1) cap3) (n + 1) (vs ++ [.slice A3 o.length c3]))
    (hg3 : (wj.alloc (.cells #[.slice A3 o.length c3] 40)).grownBy w3 (Value.slice A2 n c2).ownBlock)
    (hat : (Value.slice A2 n c2).ownBlock = some g3 ∨ g3 = wj.heap.size + 1) :
    CR w3 base (.slice (some ⟨g3, 0, none⟩) (n + 1) cap3) (vs ++ [.slice A3 o.length c3]) (R ++ [o]) := by
  have hk := kept_app hg3
  have hsz := BJ.size
  have hs3 := hk.size
  have hold : ∀ g, (Value.slice A2 n c2).ownBlock = some g → g < wr.heap.size := fun g e => (h.outer.lt g e).2
  have own3 : ∀ g, (Value.slice (some ⟨g3, 0, none⟩) (n + 1) cap3).ownBlock = some g → g = g3 := fun g e => by simp [Value.ownBlock] at e; exact e.symm
  have hlen := h.rows.1
  refine ⟨by rw [List.length_append, hn]; exact hown3, by simp [hlen], fun i l hl => ?_⟩
  by_cases hi : i < R.length
  · rw [List.getElem?_append_left hi] at hl
    obtain ⟨a, c, h1, h2, h3, h4, h5⟩ := h.rows.2 i l hl
    refine ⟨a, c, by rw [List.getElem?_append_left (by omega)]; exact h1, h2, h3, (h4.below BJ).kept hk (fun ad e p q => (h5 ad e p).2 q), fun ad e p => ?_⟩
    have h6 := h5 ad e p
    refine ⟨by omega, fun q => ?_⟩
    have q' := own3 _ q
    rcases hat with r | r
    · exact h6.2 (by rw [q']; exact r)
    · omega
  · rw [List.getElem?_append_right (by omega)] at hl
    have : i - R.length < 1 := by have := (List.getElem?_eq_some_iff.1 hl).1; simpa using this
    obtain rfl : i = R.length := by omega
    simp at hl
    subst hl
    refine ⟨A3, c3, by rw [← hlen]; simp, own_cap ho, own_maxlen ho, (own_ilies ho).kept hk (fun ad e _ q => ?_), fun ad e _ => ?_⟩
    · have := ho.lt ad.block (by rw [e]; rfl)
      have := hold _ q
      omega
    · have h1 := ho.lt ad.block (by rw [e]; rfl)
      refine ⟨by omega, fun q => ?_⟩
      have q' := own3 _ q
      rcases hat with r | r
      · have := hold _ r; omega
      · omega
theorem sing_own (w : World) (x : Int) : (w.alloc (.cells #[.int .i64 x] 3)).ownsRow w.heap.size 3 1 (.slice (some ⟨w.heap.size, 0, none⟩) [x].length 1) [x].length ([x].map (Value.int .i64)) :=
  own_row w [x] w.heap.size (Nat.le_refl _) (by unfold maxLen; simp)
set_option maxRecDepth 100000 in
set_option maxHeartbeats 4000000 in
theorem implWith_any (v : Int) (A B : Option Addr) (n m cap c2 : Nat) (L : List (List Int)) (given : List Int) (w : World) (s : Bool) (M : List Bool) (R : List (List Int)) (ok : Bool) (hr : Hid (WithR v L given s M R ok)) (hl : Hid (LLies w A L)) (hl2 : Hid (ILies w B given)) (HX : Hid (L.length = n)) (HY : Hid (given.length = m)) (HN : Hid (A = none → n = 0 ∧ cap = 0)) (hn : n ≤ 9223372036854775807) (hm : m ≤ 9223372036854775807) :
    Calls Try.prog 67 #[.int .i64 v, .slice A n cap, .slice B m c2] w (GaveSol w s M R ok) := by
  obtain ⟨iS, hiS, hs0, hs1, hs2⟩ := info_parts info_ints
  cases q1 : goodB v L
  · have E := Lib.hid (hr.out.no (by rw [q1]; rfl))
    go_enter Try.func67, Try.ntmps67
    go_wp2_with (go_at_call 51; refine (implGoodC_any _ _ _ _ L _ hl HX hn).mono ?_; rintro e w' ⟨rfl, rfl⟩; rw [q1])
    (try simp only [Exit.inBlock, Exit.then]); refine bodyPost_ret (results_tmp4 rfl _ _ _) rfl ?_
    obtain ⟨rfl, rfl, rfl, rfl⟩ := E.out
    exact sol_no (Below.refl _ _)
  have hv := goodB_v q1
  have hv1 : 0 ≤ v := hv.1
  have hv2 : v ≤ 12 := hv.2
  clear hv
  cases q2 : clauseB v given
  · have E := Lib.hid (hr.out.no (by rw [q1, q2]; rfl))
    go_enter Try.func67, Try.ntmps67
    go_wp2_with (first
      | (go_at_call 51; refine (implGoodC_any _ _ _ _ L _ hl HX hn).mono ?_; rintro e w' ⟨rfl, rfl⟩; rw [q1])
      | (go_at_call 61; refine (isClause_any _ _ _ _ given _ hl2 HY hm hv1 hv2).mono ?_; rintro e w' ⟨rfl, rfl⟩; rw [q2]))
    (try simp only [Exit.inBlock, Exit.then]); refine bodyPost_ret (results_tmp4 rfl _ _ _) rfl ?_
    obtain ⟨rfl, rfl, rfl, rfl⟩ := E.out
    exact sol_no (Below.refl _ _)
  have SR := Lib.hid (hr.out.yes q1 q2)
  have hm12 : m ≤ 12 := by have := clauseB_len q2; have := HY.out; omega
  have hn60 : n ≤ 60 := by have := goodB_len q1; have := HX.out; omega
  go_enter Try.func67, Try.ntmps67
  go_wp2_with (first
    | (go_at_call 51; refine (implGoodC_any _ _ _ _ L _ hl HX hn).mono ?_; rintro e w' ⟨rfl, rfl⟩; rw [q1])
    | (go_at_call 61; refine (isClause_any _ _ _ _ given _ hl2 HY hm hv1 hv2).mono ?_; rintro e w' ⟨rfl, rfl⟩; rw [q2]))
  clear q1 q2
  refine (clone_any _ _ _ L _ hl HX HN (by omega)).mono ?_
  rintro e w1 ⟨A2, d2, vs, rfl, ho1, hr1, hb1⟩
  have C1 : Hid (CR w1 w.heap.size (.slice A2 n d2) vs L) := Lib.hid ⟨by rw [HX.out]; exact ho1, hr1.1, fun i l hl => by
    obtain ⟨a, c, h1, h2, h3, h4, h5⟩ := hr1.2 i l hl
    exact ⟨a, c, h1, h2, h3, h4, fun ad e p => ⟨by have := h5 ad e p; have := hb1.size; omega, fun q => by have := h5 ad e p; have := (ho1.lt _ q).1; omega⟩⟩⟩
  have B1 := Lib.hid hb1
  clear ho1 hr1 hb1
  go_wp2_with fail
  go_loopw [10, 27] (fun u i wr => ∃ (k : Nat), k ≤ m ∧ i = .int .i64 k ∧ (∃ A2 c2 vs, u = .slice A2 (n + k) c2 ∧ CR wr w.heap.size (.slice A2 (n + k) c2) vs (L ++ sing (given.take k))) ∧ Below w.heap.size w wr) (fun _ i _ => m - (intOf i).toNat)
  case atStart => exact ⟨0, Nat.zero_le _, rfl, ⟨A2, d2, vs, rfl, by simpa [sing] using C1.out⟩, B1.out⟩
  case round =>
    clear C1 B1
    obtain ⟨k, hk, rfl, ⟨A3, d3, ws, rfl, hcr⟩, hbw⟩ := hrel
    have CW := Lib.hid hcr
    have BW := Lib.hid hbw
    have hbsz := hbw.size
    have LK : Hid ((L ++ sing (given.take k)).length = n + k) := Lib.hid (by rw [List.length_append, sing_len, List.length_take, HX.out, HY.out]; omega)
    clear hcr hbw
    by_cases hlt : k < m
    · obtain ⟨x, hx⟩ : ∃ x, given[k]? = some x := ⟨_, List.getElem?_eq_getElem (by have := HY.out; omega)⟩
      obtain ⟨b, off, rfl, hbl, ha⟩ := (hl2.out.below BW.out) k x hx
      have HSA := Lib.hid (sing_at hx)
      clear hx
      have OU : Hid (wr.ownsRow w.heap.size 40 1 (.slice A3 (n + k) d3) (n + k) ws) := Lib.hid (by have := CW.out.outer; rw [LK.out] at this; exact this)
      have OU2 := Lib.hid (own_below OU.out (below1 wr (.cells #[.int .i64 x] 3)))
      go_wp2_with (at_builtin; (refine wpList_append_lies _ rfl _ _ 23 rfl w.heap.size 40 iS (.slice none 0 0) 1 24 Try.underlying23 hiS hs0 hs1 hs2 rfl (by omega) _ (n + k) _ rfl (OU2.out.alloc _) ⟨wr.heap.size + 1, 0, none⟩ 1 1 [.slice (some ⟨wr.heap.size, 0, none⟩) 1 1] rfl rfl (one_new_at (wr.alloc (.cells #[.int .i64 x] 3)) _ _ _ (by simp)) (by intro u hu; rw [List.mem_singleton.1 hu]; rfl) (by omega) (by unfold maxLen; omega) (by omega) (by first | omega | (simp; omega)) (wr.heap.size + 1 + 1) (by first | rfl | simp) ?_; intro g4 cap4 w4 hown4 hg4 hat4 hlt4; have H4 := Lib.hid (CR.grow (o := [x]) (A3 := some ⟨wr.heap.size, 0, none⟩) (c3 := 1) CW.out LK.out (below1 wr (.cells #[.int .i64 x] 3)) (sing_own wr x) hown4 hg4 (hat4.elim .inl (fun e => .inr (by simp; omega)))); have B4 := Lib.hid ((kept_app hg4).below (Below.tr BW.out (below1 wr (.cells #[.int .i64 x] 3))) (by simp; omega) (fun i e => (OU.out.lt i e).1)); clear hown4 hg4 hat4 hlt4))
      go_roundw
      case rel => exact ⟨k + 1, by omega, by go_num, ⟨some ⟨g4, 0, none⟩, cap4, _, rfl, by rw [HSA.out, ← List.append_assoc]; exact H4.out⟩, B4.out⟩
      case measure => simp [intOf]; omega
    · obtain rfl : k = m := by omega
      have TK : Hid (given.take k = given) := Lib.hid (List.take_of_length_le (by have := HY.out; omega))
      have LI : Hid (LLies wr A3 (L ++ sing given)) := Lib.hid (by have := CW.out.lies; rw [TK.out] at this; exact this)
      have LN : Hid ((L ++ sing given).length = n + k) := Lib.hid (by have := LK.out; rw [TK.out] at this; exact this)
      have NI : Hid (A3 = none → n + k = 0 ∧ d3 = 0) := Lib.hid (fun e => by have := CW.out.outer; rw [LK.out] at this; exact own_nilA this e)
      go_wp2_with fail
      refine (implSolve_any v _ _ _ (L ++ sing given) _ s M R ok SR LI LN NI (by omega)).mono ?_
      rintro e w5 ⟨A5, c5, B5, d5, vs5, rfl, h1, h2, h3, h4⟩
      have G := Lib.hid (And.intro h1 (And.intro h2 (And.intro h3 h4)))
      clear h1 h2 h3 h4
      go_wp2
      (try simp only [Exit.inBlock, Exit.then]); refine bodyPost_ret (results_tmp4 rfl _ _ _) rfl ?_
      obtain ⟨h1, h2, h3, h4⟩ := G.out
      exact ⟨A5, c5, B5, d5, vs5, rfl, own_base h1 hbsz, ⟨own_base h2.outer hbsz, h2.inner.base hbsz, h2.off⟩, h3, Below.tr BW.out h4⟩
/-- what FollowsFrom answers -/
def FolR (v : Int) (L : List (List Int)) (c : List Int) (f ok : Bool) : Prop := ∃ s M R, WithR v L (negL c) s M R ok ∧ f = (ok && !s)
theorem folR_any (v : Int) (L : List (List Int)) (c : List Int) : ∃ f ok, FolR v L c f ok := by
  obtain ⟨s, M, R, ok, h⟩ := withR_any v L (negL c)
  exact ⟨_, ok, s, M, R, h, rfl⟩
theorem FolR.no {v : Int} {L : List (List Int)} {c : List Int} {f ok : Bool} (h : FolR v L c f ok) (hn : (goodB v L && clauseB v c) = false) : f = false ∧ ok = false := by
  obtain ⟨s, M, R, h1, h2⟩ := h
  obtain ⟨_, _, _, rfl⟩ := h1.no (by rw [clauseB_neg']; exact hn)
  exact ⟨h2, rfl⟩
set_option maxRecDepth 100000 in
set_option maxHeartbeats 4000000 in
theorem implFollows_any (v : Int) (A B : Option Addr) (n m cap c2 : Nat) (L : List (List Int)) (c : List Int) (w : World) (f ok : Bool) (hr : Hid (FolR v L c f ok)) (hl : Hid (LLies w A L)) (hl2 : Hid (ILies w B c)) (HX : Hid (L.length = n)) (HY : Hid (c.length = m)) (HN : Hid (A = none → n = 0 ∧ cap = 0)) (hn : n ≤ 9223372036854775807) (hm : m ≤ 9223372036854775807) :
    Calls Try.prog 34 #[.int .i64 v, .slice A n cap, .slice B m c2] w fun e w' => e = .returned (.tuple #[.bool f, .bool ok]) ∧ Below w.heap.size w w' := by
  cases q1 : clauseB 12 c
  · have E : Hid (f = false ∧ ok = false) := Lib.hid (hr.out.no (by
      cases g : goodB v L
      · rfl
      · have hv := goodB_v g
        cases q : clauseB v c
        · rfl
        · rw [clauseB_mono hv.2 q] at q1; simp at q1))
    have LR : Hid (LearnR c [] false) := Lib.hid ⟨q1.symm, rfl⟩
    go_enter Try.func34, Try.ntmps34
    go_wp2_with fail
    refine (implLearn_any _ _ _ c _ [] false LR hl2 HY hm).mono ?_
    rintro e w1 ⟨A1, c1, rfl, ho1, hb1⟩
    have B1 := Lib.hid hb1
    clear ho1 hb1
    go_wp2
    go_ret2
    exact ⟨ret_bb E.out.1.symm E.out.2.symm, B1.out⟩
  · obtain ⟨s, M, R, h1, h2⟩ := hr.out
    have WR := Lib.hid h1
    have FE := Lib.hid h2
    have LR : Hid (LearnR c (negL c) true) := Lib.hid ⟨q1.symm, rfl⟩
    have hm12 : m ≤ 12 := by have := clauseB_len q1; have := HY.out; omega
    clear h1 h2 q1
    go_enter Try.func34, Try.ntmps34
    go_wp2_with fail
    refine (implLearn_any _ _ _ c _ (negL c) true LR hl2 HY hm).mono ?_
    rintro e w1 ⟨A1, c1, rfl, ho1, hb1⟩
    have B1 := Lib.hid hb1
    have O1 := Lib.hid (own_ilies ho1)
    have L1 := Lib.hid (hl.out.below hb1)
    clear ho1 hb1
    obtain ⟨z, hz⟩ : ∃ z, (negL c).length = z := ⟨_, rfl⟩
    have hz12 : z ≤ 12 := by rw [← hz, negL_len, HY.out]; exact hm12
    rw [hz]
    have HZ := Lib.hid hz
    clear hz
    go_wp2_with fail
    refine (implWith_any v _ _ _ _ _ _ L (negL c) _ s M R ok WR L1 O1 HX HZ HN hn (by omega)).mono ?_
    rintro e w2 ⟨A2, d2, B2, e2, vs2, rfl, h1, h2, h3, h4⟩
    have BZ := Lib.hid (Below.tr B1.out h4)
    clear h1 h2 h3 h4
    cases ok
    · go_wp2
      go_ret2
      exact ⟨ret_bb FE.out.symm rfl, BZ.out⟩
    · cases s
      all_goals
        go_wp2
        go_ret2
        exact ⟨ret_bb FE.out.symm rfl, BZ.out⟩
end Go.Proofs.Ytkkoeeoalkjhoaa
