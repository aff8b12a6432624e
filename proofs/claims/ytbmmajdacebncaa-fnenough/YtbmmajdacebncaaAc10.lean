/-
  BackArcs, ReachWithin, EnoughFor of the model.
-/
import Derived.Test.YtbmmajdacebncaaAc9
namespace Go.Proofs.Ytbmmajdacebncaa
open Go.ChangeShapes Go.WideShapes Go.ChangeAt Go.RowKit

theorem rwL_zero {E : Nat → Nat → Bool} {n f : Nat} (hf : f < n) : castL (rwL E n f 0) = [(f : Int)] := by
  apply sorted_ext (castL_sorted (filter_sorted _ _)) (by simp)
  intro y
  rw [castL_mem, List.mem_singleton]
  constructor
  · rintro ⟨k, hk, rfl⟩
    have := (mem_rw.1 hk).2
    simp [rw_] at this
    rw [this]
  · rintro rfl
    exact ⟨f, mem_rw.2 ⟨hf, by simp [rw_]⟩, rfl⟩
theorem rqL_len (n f k : Nat) (l Q : AL) : (castL (rqL n f k l Q)).length ≤ n := by
  rw [castL_len]
  unfold rqL
  have := List.length_filter_le (fun j => rw_ (arcE l) n f k j || Q.any (fun p => rw_ (arcE l) n f k p.1.toNat && decide (p.2 = (j : Int)))) (List.range n)
  simpa using this
set_option maxRecDepth 100000 in
set_option maxHeartbeats 4000000 in
theorem l12Reach_any (n f t : Nat) (A : Option Addr) (m cap : Nat) (l : AL) (w : World) (g : Hid (GoodA n l)) (hf : f < n) (ht : t ≤ 100) (hl : Hid (ALies w A l)) (HX : Hid (l.length = m)) :
    Calls Try.prog 57 #[.slice A m cap, .int .i64 f, .int .i64 t] w (GaveRow w.heap.size w (castL (rwL (arcE l) n f t))) := by
  have hn6 := g.out.hi
  have hm30 : m ≤ 30 := by rw [← HX.out]; exact g.out.len
  go_enter Try.func57, Try.ntmps57
  go_wp2
  go_loopw [2, 7] (fun tv ov wr => ∃ (k r z : Nat) (A2 : Option Addr) (c2 : Nat), k + r = t ∧ tv = .int .i64 r ∧ ov = .slice A2 z c2 ∧ (castL (rwL (arcE l) n f k)).length = z ∧ wr.ownsRow w.heap.size 3 1 (.slice A2 z c2) z ((castL (rwL (arcE l) n f k)).map (Value.int .i64)) ∧ Below w.heap.size w wr) (fun tv _ _ => (intOf tv).toNat)
  case atStart =>
    refine ⟨0, t, 1, some ⟨w.heap.size, 0, none⟩, 1, by omega, rfl, rfl, by rw [rwL_zero hf]; rfl, ?_, below1 _ _⟩
    rw [rwL_zero hf]
    exact own_row w [(f : Int)] _ (Nat.le_refl _) (by simp [maxLen])
  case round =>
    obtain ⟨k, r, z, A2, c2, hkr, rfl, rfl, hz, hown, hb⟩ := hrel
    have hz6 : z ≤ 6 := by rw [← hz]; exact Nat.le_trans (by rw [castL_len]; exact rw_most) hn6
    have O1 := Lib.hid hown
    have B1 := Lib.hid hb
    have Z1 := Lib.hid hz
    have KR := Lib.hid hkr
    clear hown hb hz hkr
    by_cases hr : 0 < r
    · go_wp2_with fail
      go_loopw [8, 20] (fun nv iv wq => ∃ (j y : Nat) (A3 : Option Addr) (c3 : Nat), j ≤ m ∧ iv = .int .i64 j ∧ nv = .slice A3 y c3 ∧ (castL (rqL n f k l (l.take j))).length = y ∧ wq.ownsRow w.heap.size 3 1 (.slice A3 y c3) y ((castL (rqL n f k l (l.take j))).map (Value.int .i64)) ∧ wq.ownsRow w.heap.size 3 1 (.slice A2 z c2) z ((castL (rwL (arcE l) n f k)).map (Value.int .i64)) ∧ Below w.heap.size w wq) (fun _ iv _ => m - (intOf iv).toNat)
      case atStart => exact ⟨0, z, A2, c2, Nat.zero_le _, rfl, rfl, by rw [List.take_zero, rq_start]; exact Z1.out, by rw [List.take_zero, rq_start]; exact O1.out, O1.out, B1.out⟩
      case round =>
        obtain ⟨j, y, A3, c3, hj, rfl, rfl, hy, hown3, hown2, hb3⟩ := hrel
        have hy6 : y ≤ 6 := by rw [← hy]; exact Nat.le_trans (rqL_len _ _ _ _ _) hn6
        have O3 := Lib.hid hown3
        have O2 := Lib.hid hown2
        have B3 := Lib.hid hb3
        have Y3 := Lib.hid hy
        clear hown3 hown2 hb3 hy O1 B1
        by_cases hlt : j < m
        · obtain ⟨x, hx⟩ : ∃ x, l[j]? = some x := ⟨_, List.getElem?_eq_getElem (by have := HX.out; omega)⟩
          obtain ⟨bb, off, rfl, hbl, e0, e1⟩ := (hl.out.below B3.out) j x hx
          have hrg := g.out.rng x (List.mem_of_getElem? hx)
          have HT := Lib.hid (take_snocA hx)
          have HRG := Lib.hid hrg
          clear hx hrg
          cases q : rw_ (arcE l) n f k x.1.toNat with
          | false =>
            have HD : Hid (decide (x.1 ∈ castL (rwL (arcE l) n f k)) = false) := Lib.hid (by rw [decide_eq_false_iff_not]; intro h; rw [(rq_has HRG.out.1).1 h] at q; cases q)
            have HS := Lib.hid (rq_skip (n := n) (Q := l.take j) q)
            go_wp2_with fail
            refine (l1Has_any _ _ _ _ _ _ (Lib.hid (own_ilies (O2.out.alloc _))) Z1 (by omega)).mono ?_
            rintro e w' ⟨rfl, rfl⟩
            rw [HD.out]
            go_wp2
            go_roundw
            case rel => exact ⟨j + 1, y, A3, c3, by omega, by go_num, rfl, by rw [HT.out, HS.out]; exact Y3.out, by rw [HT.out, HS.out]; exact O3.out.alloc _, O2.out.alloc _, B3.out.alloc B3.out.size _⟩
            case measure => simp [intOf]; omega
          | true =>
            have HD : Hid (decide (x.1 ∈ castL (rwL (arcE l) n f k)) = true) := Lib.hid (by rw [decide_eq_true_eq]; exact (rq_has HRG.out.1).2 q)
            have HP := Lib.hid (rq_put (Q := l.take j) HRG.out.2 q)
            go_wp2_with fail
            refine (l1Has_any _ _ _ _ _ _ (Lib.hid (own_ilies (O2.out.alloc _))) Z1 (by omega)).mono ?_
            rintro e w' ⟨rfl, rfl⟩
            rw [HD.out]
            go_wp2_with fail
            refine (l1Put_any w.heap.size _ _ _ (castL (rqL n f k l (l.take j))) x.2 _ (Lib.hid (O3.out.alloc _)) Y3 (by omega) (B3.out.alloc B3.out.size _).size).mono ?_
            rw [HP.out]
            rintro e w6 ⟨A6, c6, rfl, hown6, hb6⟩
            have O6 := Lib.hid hown6
            have B6 := Lib.hid (Below.tr (B3.out.alloc B3.out.size _) hb6)
            have O7 := Lib.hid (own_below (O2.out.alloc _) hb6)
            clear hown6 hb6
            go_wp2
            go_roundw
            case rel => exact ⟨j + 1, _, A6, c6, by omega, by go_num, rfl, by rw [HT.out], by rw [HT.out]; exact O6.out, O7.out, B6.out⟩
            case measure => simp [intOf]; omega
        · obtain rfl : j = m := by omega
          have e : castL (rqL n f k l (l.take j)) = castL (rwL (arcE l) n f (k + 1)) := by rw [List.take_of_length_le (by rw [HX.out]; exact Nat.le_refl _), rq_end g.out]
          rw [e] at Y3 O3
          obtain ⟨q, hq⟩ : ∃ q, r = q + 1 := ⟨r - 1, by omega⟩
          have hqi : (r : Int) - 1 = (q : Int) := by omega
          have hqw : IntKind.i64.wrap (q : Int) = (q : Int) := by have := KR.out; rw [IntKind.wrap_i64]; omega
          have hqr : q < r := by omega
          have KQ : Hid (k + 1 + q = t) := Lib.hid (by have := KR.out; omega)
          clear hq
          go_wp2
          go_roundw
          case rel => exact ⟨k + 1, q, y, A3, c3, KQ.out, rfl, rfl, Y3.out, O3.out, B3.out⟩
          case measure => simp [intOf]; omega
    · have hkt : k = t := by have := KR.out; omega
      have HKT := Lib.hid hkt
      clear hkt
      go_wp2
      go_ret
      rw [← HKT.out]
      exact ⟨A2, c2, by rw [Z1.out]; rfl, by rw [Z1.out]; exact O1.out, B1.out⟩
set_option maxRecDepth 100000 in
set_option maxHeartbeats 8000000 in
theorem specBack_any (s : Int) (A : Option Addr) (n cap : Nat) (l : AL) (w : World) (r0 : List Int) (r1 : Bool) (HR : Hid (rBack s l = (r0, r1))) (hl : Hid (ALies w A l)) (HX : Hid (l.length = n)) (hn : n ≤ 1048576) :
    Calls Try.prog 24 #[.int .i64 s, .slice A n cap] w (GaveTwo w r0 r1) := by
  obtain ⟨g, hg⟩ : ∃ g, goodAB s l = g := ⟨_, rfl⟩
  have HG := Lib.hid hg
  clear hg
  cases g with
  | false =>
    have E := Lib.hid (Prod.mk.inj (HR.out.symm.trans (rBack_no HG.out)))
    go_enter Try.func24, Try.ntmps24
    go_wp2_with fail
    refine (specGoodA_any s _ _ _ l _ _ HG hl HX hn).mono ?_
    rintro e w2 ⟨rfl, hb⟩
    go_wp2
    go_ret2
    rw [E.out.1, E.out.2]
    exact two_nil _ _ hb
  | true =>
    have hss := (good_s HG.out).1
    have hgA := (good_s HG.out).2.2
    obtain ⟨N, hN⟩ : ∃ N : Nat, s = (N : Int) := ⟨s.toNat, by omega⟩
    have hNs : s.toNat = N := by omega
    rw [hNs] at hgA
    have E := Lib.hid (Prod.mk.inj (HR.out.symm.trans (rBack_yes HG.out)))
    have E1 : Hid (r0 = castL (backL N l n)) := Lib.hid (by rw [E.out.1, hNs, HX.out])
    have GA := Lib.hid hgA
    have hn30 : n ≤ 30 := by rw [← HX.out]; exact hgA.len
    have hN6 := hgA.hi
    have hN1 := hgA.lo
    rw [hN] at HG ⊢
    clear hgA hNs hN hss
    go_enter Try.func24, Try.ntmps24
    go_wp2_with fail
    refine (specGoodA_any N _ _ _ l _ _ HG hl HX hn).mono ?_
    rintro e w2 ⟨rfl, hb⟩
    have B2 := Lib.hid hb
    clear hb
    go_wp2_with fail
    go_loopw [6, 15] (fun ov iv wr => ∃ (j z : Nat) (A2 : Option Addr) (c2 : Nat), j ≤ n ∧ iv = .int .i64 j ∧ ov = .slice A2 z c2 ∧ (castL (backL N l j)).length = z ∧ wr.ownsRow w.heap.size 3 1 (.slice A2 z c2) z ((castL (backL N l j)).map (Value.int .i64)) ∧ Below w.heap.size w wr) (fun _ i _ => n - (intOf i).toNat)
    case atStart => exact ⟨0, 0, none, 0, Nat.zero_le _, rfl, rfl, rfl, World.ownsRow_nil _ _ _ _, B2.out⟩
    case round =>
      obtain ⟨j, z, A2, c2, hj, rfl, rfl, hz, hown, hb⟩ := hrel
      have O1 := Lib.hid hown
      have B1 := Lib.hid hb
      have hz30 : z ≤ 30 := by rw [← hz]; exact Nat.le_trans (by rw [castL_len]; exact back_len N l j) (by omega)
      have Z1 := Lib.hid hz
      clear hown hb hz
      by_cases hlt : j < n
      · obtain ⟨x, hx⟩ : ∃ x, l[j]? = some x := ⟨_, List.getElem?_eq_getElem (by have := HX.out; omega)⟩
        obtain ⟨a, b, rfl, ha, hb, _⟩ := GA.out.nat (List.mem_of_getElem? hx)
        obtain ⟨bb, off, rfl, hbl, e0, e1⟩ := (hl.out.below B1.out) j _ hx
        simp only at e0 e1
        have HON := Lib.hid (onC_at (n := N) hx)
        clear hx
        go_upto_region 7 with fail
        obtain ⟨w3, hw3⟩ : ∃ W, W = wr.alloc (.cells #[.int .i64 (a : Int), .int .i64 (b : Int)] 36) := ⟨_, rfl⟩
        have hbb : Below wr.heap.size wr w3 := by rw [hw3]; exact below1 _ _
        have hnb : Blk w3 wr.heap.size 36 [.int .i64 (a : Int), .int .i64 (b : Int)] := by rw [hw3]; exact heap_alloc_new _ _
        rw [← hw3]
        clear hw3 e0 e1 hbl
        obtain ⟨bx, hbx⟩ : ∃ bx, wr.heap.size = bx := ⟨_, rfl⟩
        have B3 := Lib.hid (Below.tr B1.out hbb)
        have O3 := Lib.hid (own_below O1.out hbb)
        rw [hbx] at hnb ⊢
        have N3 := Lib.hid hnb
        have n0 : w3.cell? ⟨bx, 0, none⟩ = some (.int .i64 (a : Int)) := hnb.cell 0
        have n1 : w3.cell? ⟨bx, 1, none⟩ = some (.int .i64 (b : Int)) := hnb.cell 1
        clear hbx hbb hnb B1 O1
        refine wp_region_held_drew (S := fun W => W.cell? ⟨bx, 0, none⟩ = some (.int .i64 (a : Int)) ∧ W.cell? ⟨bx, 1, none⟩ = some (.int .i64 (b : Int))) (by kernel_rfl) ⟨n0, n1⟩ (fun hHeld => ?_)
        obtain ⟨w4, hw4⟩ : ∃ W, W = w3.drew := ⟨_, rfl⟩
        have hbd : Below w3.heap.size w3 w4 := by rw [hw4]; exact (Below.refl _ _).drew
        rw [← hw4] at hHeld ⊢
        clear hw4
        have B4 := Lib.hid (Below.tr B3.out hbd)
        have O4 := Lib.hid (own_below O3.out hbd)
        have N4 := Lib.hid (N3.out.below hbd)
        have L4 := Lib.hid (hl.out.below B4.out)
        clear hbd B3 O3 N3 n0 n1
        refine wpAnyH_take (i := 0) (v := ?_) rfl (by kernel_rfl) (by kernel_rfl) (by kernel_rfl) (fun _ _ _ h => h) (Or.inl ⟨by rfl, ?_⟩) (by assumption) ?_
        rotate_left
        · intro W hSw
          try dsimp only at hSw
          go_simp
          try with_reducible rfl
        refine wpAnyH_take (i := 1) (v := ?_) rfl (by kernel_rfl) (by kernel_rfl) (by kernel_rfl) (fun _ _ _ h => h) (Or.inl ⟨by rfl, ?_⟩) (by assumption) ?_
        rotate_left
        · intro W hSw
          try dsimp only at hSw
          go_simp
          try with_reducible rfl
        refine wpAnyH_take (i := 2) (v := ?_) rfl (by kernel_rfl) (by kernel_rfl) (by kernel_rfl) (fun _ _ _ h => h) (Or.inl ⟨by rfl, ?_⟩) (by assumption) ?_
        rotate_left
        · intro W hSw
          try dsimp only at hSw
          go_simp
          try with_reducible rfl
        refine wpAnyH_take (i := 3) (v := ?_) rfl (by kernel_rfl) (by kernel_rfl) (by kernel_rfl) (fun _ _ _ h => h) (Or.inl ⟨by rfl, ?_⟩) (by assumption) ?_
        rotate_left
        · intro W hSw
          try dsimp only at hSw
          go_simp
          try with_reducible rfl
        refine wpAnyH_take (i := 5) (v := ?_) rfl (by kernel_rfl) (by kernel_rfl) (by kernel_rfl) (fun _ _ _ h => h) (Or.inl ⟨by rfl, ?_⟩) (by assumption) ?_
        rotate_left
        · intro W hSw
          try dsimp only at hSw
          go_simp
          try with_reducible rfl
        refine wpAnyH_take (i := 6) (v := ?_) rfl (by kernel_rfl) (by kernel_rfl) (by kernel_rfl) (fun _ _ _ h => h) (Or.inl ⟨by rfl, ?_⟩) (by assumption) ?_
        rotate_left
        · intro W hSw
          try dsimp only at hSw
          go_simp
          try with_reducible rfl
        refine wpAnyH_ready (rs := [4]) (by kernel_rfl) (by simp) ?_
        refine AllReadyH.cons rfl (fun K hK => ?_) AllReadyH.nil
        go_simp
        refine (l12Reach_any N b N _ n _ l _ GA hb (by omega) L4 HX).mono ?_
        rintro e w5 ⟨A5, c5, rfl, ho5, hb5⟩
        have B5 := Lib.hid (Below.tr B4.out hb5)
        have O5 := Lib.hid (own_below O4.out hb5)
        have I5 := Lib.hid (own_ilies ho5)
        have N5 := N4.out.below hb5
        have m0 : w5.cell? ⟨bx, 0, none⟩ = some (.int .i64 (a : Int)) := N5.cell 0
        have m1 : w5.cell? ⟨bx, 1, none⟩ = some (.int .i64 (b : Int)) := N5.cell 1
        obtain ⟨y, hy⟩ : ∃ y, (castL (rwL (arcE l) N b N)).length = y := ⟨_, rfl⟩
        have hy6 : y ≤ 6 := by rw [← hy]; exact Nat.le_trans (by rw [castL_len]; exact rw_most) hN6
        rw [hy]
        have HY := Lib.hid hy
        clear hb5 ho5 B4 O4 N4 N5 L4 hy
        refine hK.out _ _ ⟨m0, m1⟩ (fun hH2 => ?_)
        clear hK K hHeld
        refine wpAnyH_ready (rs := [7]) (by kernel_rfl) (by simp) ?_
        refine AllReadyH.cons rfl (fun K hK => ?_) AllReadyH.nil
        go_simp
        refine (l1Has_any _ _ _ _ _ _ I5 HY (by omega)).mono ?_
        rintro e w6 ⟨rfl, rfl⟩
        have HD : Hid (decide ((a : Int) ∈ castL (rwL (arcE l) N b N)) = onC N l j) := Lib.hid (by rw [HON.out, Bool.eq_iff_iff, decide_eq_true_eq, castL_mem', mem_rw]; simp only [Int.toNat_natCast]; exact ⟨fun h => h.2, fun h => ⟨ha, h⟩⟩)
        rw [HD.out]
        refine hK.out _ _ ⟨m0, m1⟩ (fun hH3 => ?_)
        clear hK K hH2
        refine wpAnyH_done (by kernel_rfl) ?_ _
        clear hH3 m0 m1
        cases q : onC N l j with
        | false =>
          go_wp2
          go_roundw
          case rel => exact ⟨j + 1, z, A2, c2, by omega, by go_num, rfl, by rw [back_no q]; exact Z1.out, by rw [back_no q]; exact O5.out, B5.out⟩
          case measure => simp [intOf]; omega
        | true =>
          have hye : Hid (castL (backL N l (j + 1)) = castL (backL N l j) ++ [(j : Int)]) := Lib.hid (by rw [back_yes q]; simp [castL])
          go_wp2_with (at_builtin; (refine append_one (x := (j : Int)) (l := castL (backL N l j)) _ _ rfl rfl rfl rfl O5.out B5.out (Nat.le_refl _) B5.out.size (by omega) ?_; intro g6 c6 w6 ho6 hb6; have O6 := Lib.hid ho6; have B6 := Lib.hid hb6; clear ho6 hb6))
          go_roundw
          case rel => exact ⟨j + 1, z + 1, _, _, by omega, by go_num, rfl, by rw [hye.out, List.length_append, Z1.out]; rfl, by rw [hye.out]; exact O6.out, B6.out⟩
          case measure => simp [intOf]; omega
      · obtain rfl : j = n := by omega
        go_wp2
        go_ret2
        rw [E.out.2, E1.out]
        exact two_of Z1.out O1.out B1.out
set_option maxRecDepth 100000 in
set_option maxHeartbeats 8000000 in
theorem specReach_any (s f t : Int) (A : Option Addr) (n cap : Nat) (l : AL) (w : World) (r0 : List Int) (r1 : Bool) (HR : Hid (rReach s l f t = (r0, r1))) (hl : Hid (ALies w A l)) (HX : Hid (l.length = n)) (hn : n ≤ 1048576) :
    Calls Try.prog 35 #[.int .i64 s, .slice A n cap, .int .i64 f, .int .i64 t] w (GaveTwo w r0 r1) := by
  obtain ⟨g, hg⟩ : ∃ g, goodAB s l = g := ⟨_, rfl⟩
  have HG := Lib.hid hg
  clear hg
  obtain ⟨p, hp⟩ : ∃ p, ixB f s = p := ⟨_, rfl⟩
  have HP := Lib.hid hp
  clear hp
  obtain ⟨q, hq⟩ : ∃ q, inB 0 8 t = q := ⟨_, rfl⟩
  have HQ := Lib.hid hq
  clear hq
  cases g with
  | false =>
    have E := Lib.hid (Prod.mk.inj (HR.out.symm.trans (rReach_1 HG.out)))
    go_enter Try.func35, Try.ntmps35
    go_wp2_with fail
    refine (specGoodA_any s _ _ _ l _ _ HG hl HX hn).mono ?_
    rintro e w2 ⟨rfl, hb⟩
    go_wp2
    go_ret2
    rw [E.out.1, E.out.2]
    exact two_nil _ _ hb
  | true =>
    cases p with
    | false =>
      have E := Lib.hid (Prod.mk.inj (HR.out.symm.trans (rReach_2 HP.out)))
      have hss := (good_s HG.out).1
      go_enter Try.func35, Try.ntmps35
      go_wp2_with fail
      refine (specGoodA_any s _ _ _ l _ _ HG hl HX hn).mono ?_
      rintro e w2 ⟨rfl, hb⟩
      go_wp2_with ((go_at_call 54; refine (l1In_any _ _ _ _).mono ?_; rintro e w' ⟨rfl, rfl⟩; first | rw [inB_ixA, HP.out] | rw [HQ.out]))
      go_ret2
      rw [E.out.1, E.out.2]
      exact two_nil _ _ hb
    | true =>
      cases q with
      | false =>
        have E := Lib.hid (Prod.mk.inj (HR.out.symm.trans (rReach_3 HQ.out)))
        have hss := (good_s HG.out).1
        go_enter Try.func35, Try.ntmps35
        go_wp2_with fail
        refine (specGoodA_any s _ _ _ l _ _ HG hl HX hn).mono ?_
        rintro e w2 ⟨rfl, hb⟩
        go_wp2_with ((go_at_call 54; refine (l1In_any _ _ _ _).mono ?_; rintro e w' ⟨rfl, rfl⟩; first | rw [inB_ixA, HP.out] | rw [HQ.out]))
        go_ret2
        rw [E.out.1, E.out.2]
        exact two_nil _ _ hb
      | true =>
        have hss := (good_s HG.out).1
        have hgA := (good_s HG.out).2.2
        obtain ⟨N, hN⟩ : ∃ N : Nat, s = (N : Int) := ⟨s.toNat, by omega⟩
        have hNs : s.toNat = N := by omega
        rw [hNs] at hgA
        have hif := ixB_iff.1 HP.out
        obtain ⟨F, hF⟩ : ∃ F : Nat, f = (F : Int) := ⟨f.toNat, by omega⟩
        have hFs : f.toNat = F := by omega
        have hFN : F < N := by omega
        have E := Lib.hid (Prod.mk.inj (HR.out.symm.trans (rReach_yes HG.out HP.out HQ.out)))
        have hit := inB_yes HQ.out
        obtain ⟨T, hT⟩ : ∃ T : Nat, t = (T : Int) := ⟨t.toNat, by omega⟩
        have hTs : t.toNat = T := by omega
        have hT8 : T ≤ 8 := by omega
        have E1 : Hid (r0 = castL (rwL (arcE l) N F T)) := Lib.hid (by rw [E.out.1, hNs, hFs, hTs])
        have GA := Lib.hid hgA
        have hN6 := hgA.hi
        have hN1 := hgA.lo
        rw [hN] at HG HP ⊢
        rw [hF] at HP ⊢
        rw [hT] at HQ ⊢
        clear hgA hNs hss hif hit hFs hTs hN hF hT
        go_enter Try.func35, Try.ntmps35
        go_wp2_with fail
        refine (specGoodA_any N _ _ _ l _ _ HG hl HX hn).mono ?_
        rintro e w2 ⟨rfl, hb⟩
        have B2 := Lib.hid hb
        have L2 := Lib.hid (hl.out.below hb)
        clear hb
        go_wp2_with ((go_at_call 54; refine (l1In_any _ _ _ _).mono ?_; rintro e w' ⟨rfl, rfl⟩; first | rw [inB_ixA, HP.out] | rw [HQ.out]))
        have O2 : Hid ((w2.alloc (.cells #[] 3)).ownsRow w2.heap.size 3 1 (.slice (some ⟨w2.heap.size, 0, none⟩) 0 0) 0 (([] : List Int).map (Value.int .i64))) := Lib.hid (World.ownsRow_lit w2 #[] 0 (Nat.le_refl _) (by unfold maxLen; omega) rfl)
        refine (l12Reach_any N F T _ n _ l _ GA hFN (by omega) (Lib.hid (L2.out.below (below1 _ _))) HX).mono ?_
        rintro e w5 ⟨A5, c5, rfl, ho5, hb5⟩
        obtain ⟨y, hy⟩ : ∃ y, (castL (rwL (arcE l) N F T)).length = y := ⟨_, rfl⟩
        have hy6 : y ≤ 6 := by rw [← hy]; exact Nat.le_trans (by rw [castL_len]; exact rw_most) hN6
        rw [hy] at ho5 ⊢
        have HY := Lib.hid hy
        have I5 := Lib.hid (own_ilies ho5)
        have NN := Lib.hid (own_nilA' ho5)
        have O5 := Lib.hid (own_below O2.out hb5)
        have B5 := Lib.hid (Below.tr (Below.tr B2.out (below1 _ _)) hb5)
        have S5 : Hid (w2.heap.size ≤ w5.heap.size) := Lib.hid (by have := hb5.size; simp at this; omega)
        clear hb5 ho5 hy L2 O2
        go_wp2_with (at_builtin; (refine append_ints (w1 := w5) (base := w2.heap.size) (xs := []) (l := castL (rwL (arcE l) N F T)) _ _ rfl rfl rfl rfl O5.out I5.out HY.out NN.out S5.out (by omega) (by omega) ?_; intro g6 c6 w6 ho6 hg6 hat6; have O6 := Lib.hid ho6; have B6 := Lib.hid (B5.out.grown hg6 B5.out.size (fun g e => by cases e; exact B2.out.size)); clear ho6 hg6 hat6))
        go_ret2
        rw [E.out.2, E1.out]
        have h6 := O6.out
        rw [Nat.zero_add, List.nil_append] at h6
        exact two_of HY.out (own_base h6 B2.out.size) B6.out
set_option maxRecDepth 100000 in
set_option maxHeartbeats 8000000 in
theorem specEno_any (s f : Int) (A : Option Addr) (n cap : Nat) (l : AL) (w : World) (r0 : Int) (r1 : Bool) (HR : Hid (rEno s l f = (r0, r1))) (hl : Hid (ALies w A l)) (HX : Hid (l.length = n)) (hn : n ≤ 1048576) :
    Calls Try.prog 29 #[.int .i64 s, .slice A n cap, .int .i64 f] w (fun e w' => e = .returned (.tuple #[.int .i64 r0, .bool r1]) ∧ Below w.heap.size w w') := by
  obtain ⟨g, hg⟩ : ∃ g, goodAB s l = g := ⟨_, rfl⟩
  have HG := Lib.hid hg
  clear hg
  obtain ⟨p, hp⟩ : ∃ p, ixB f s = p := ⟨_, rfl⟩
  have HP := Lib.hid hp
  clear hp
  cases g with
  | false =>
    have E := Lib.hid (Prod.mk.inj (HR.out.symm.trans (rEno_1 HG.out)))
    go_enter Try.func29, Try.ntmps29
    go_wp2_with fail
    refine (specGoodA_any s _ _ _ l _ _ HG hl HX hn).mono ?_
    rintro e w2 ⟨rfl, hb⟩
    go_wp2
    go_ret2
    exact ⟨ret_ib E.out.1.symm E.out.2.symm, hb⟩
  | true =>
    cases p with
    | false =>
      have E := Lib.hid (Prod.mk.inj (HR.out.symm.trans (rEno_2 HP.out)))
      have hss := (good_s HG.out).1
      go_enter Try.func29, Try.ntmps29
      go_wp2_with fail
      refine (specGoodA_any s _ _ _ l _ _ HG hl HX hn).mono ?_
      rintro e w2 ⟨rfl, hb⟩
      go_wp2_with ((go_at_call 54; refine (l1In_any _ _ _ _).mono ?_; rintro e w' ⟨rfl, rfl⟩; rw [inB_ixA, HP.out]))
      go_ret2
      exact ⟨ret_ib E.out.1.symm E.out.2.symm, hb⟩
    | true =>
      have hss := (good_s HG.out).1
      have hgA := (good_s HG.out).2.2
      obtain ⟨N, hN⟩ : ∃ N : Nat, s = (N : Int) := ⟨s.toNat, by omega⟩
      have hNs : s.toNat = N := by omega
      rw [hNs] at hgA
      have hif := ixB_iff.1 HP.out
      obtain ⟨F, hF⟩ : ∃ F : Nat, f = (F : Int) := ⟨f.toNat, by omega⟩
      have hFs : f.toNat = F := by omega
      have hFN : F < N := by omega
      have E := Lib.hid (Prod.mk.inj (HR.out.symm.trans (rEno_yes HG.out HP.out)))
      have E1 : Hid (r0 = (enK (arcE l) N F : Int)) := Lib.hid (by rw [E.out.1, hNs, hFs])
      have GA := Lib.hid hgA
      have hN6 := hgA.hi
      have hN1 := hgA.lo
      rw [hN] at HG HP ⊢
      rw [hF] at HP ⊢
      clear hgA hNs hss hif hFs hN hF
      go_enter Try.func29, Try.ntmps29
      go_wp2_with fail
      refine (specGoodA_any N _ _ _ l _ _ HG hl HX hn).mono ?_
      rintro e w2 ⟨rfl, hb⟩
      have B2 := Lib.hid hb
      clear hb
      go_wp2_with ((go_at_call 54; refine (l1In_any _ _ _ _).mono ?_; rintro e w' ⟨rfl, rfl⟩; rw [inB_ixA, HP.out]))
      go_loopw [8] (fun iv wr => ∃ k : Nat, k ≤ N ∧ iv = .int .i64 k ∧ (∀ j, j < k → (rwL (arcE l) N F j).length < (rwL (arcE l) N F (j + 1)).length) ∧ Below w.heap.size w wr) (fun iv _ => N - (intOf iv).toNat)
      case atStart => exact ⟨0, Nat.zero_le _, rfl, fun j h => by omega, B2.out⟩
      case round =>
        obtain ⟨k, hk, rfl, hall, hb⟩ := hrel
        have G1 := Lib.hid hall
        have B1 := Lib.hid hb
        have L1 := Lib.hid (hl.out.below hb)
        have hkN : k < N := by have h1 := rw_grow hFN k hall; have h2 := rw_most (E := arcE l) (n := N) (f := F) (k := k); omega
        clear hall hb
        obtain ⟨z1, hz1⟩ : ∃ z, (castL (rwL (arcE l) N F (k + 1))).length = z := ⟨_, rfl⟩
        obtain ⟨z0, hz0⟩ : ∃ z, (castL (rwL (arcE l) N F k)).length = z := ⟨_, rfl⟩
        have Z1 : Hid ((rwL (arcE l) N F (k + 1)).length = z1) := Lib.hid (by rw [← hz1, castL_len])
        have Z0 : Hid ((rwL (arcE l) N F k).length = z0) := Lib.hid (by rw [← hz0, castL_len])
        have HZ1 := Lib.hid hz1
        have HZ0 := Lib.hid hz0
        clear hz1 hz0
        go_wp2_with fail
        refine ((l12Reach_any N F (k + 1) _ n _ l _ GA hFN (by omega) L1 HX : Calls Try.prog 57 #[.slice A n cap, .int .i64 F, .int .i64 ((k : Int) + 1)] wr (GaveRow wr.heap.size wr (castL (rwL (arcE l) N F (k + 1)))))).mono ?_
        rintro e w5 ⟨A5, c5, rfl, ho5, hb5⟩
        rw [HZ1.out]
        have B5 := Lib.hid (Below.tr B1.out hb5)
        have L5 := Lib.hid (hl.out.below B5.out)
        clear ho5 hb5
        go_wp2_with fail
        refine (l12Reach_any N F k _ n _ l _ GA hFN (by omega) L5 HX).mono ?_
        rintro e w6 ⟨A6, c6, rfl, ho6, hb6⟩
        rw [HZ0.out]
        have B6 := Lib.hid (Below.tr B5.out hb6)
        clear ho6 hb6
        by_cases hlt : z0 < z1
        · have G2 : Hid (∀ j, j < k + 1 → (rwL (arcE l) N F j).length < (rwL (arcE l) N F (j + 1)).length) := Lib.hid (fun j h => by
      rcases Nat.lt_or_ge j k with q | q
      · exact G1.out j q
      · have : j = k := by omega
        subst this
        rw [Z1.out, Z0.out]; exact hlt)
          go_wp2
          go_roundw
          case rel => exact ⟨k + 1, by omega, by go_num, G2.out, B6.out⟩
          case measure => simp [intOf]; omega
        · have EK : Hid (enK (arcE l) N F = k) := Lib.hid (enK_eq hFN ⟨by have := (rw_len (E := arcE l) (n := N) (f := F) (k := k)).1; rw [Z1.out, Z0.out] at *; omega, G1.out⟩)
          go_wp2
          go_ret2
          exact ⟨ret_ib (by rw [E1.out, EK.out]) E.out.2.symm, B6.out⟩
end Go.Proofs.Ytbmmajdacebncaa
