/-
  BackArcs, ReachWithin, EnoughFor, WalksOf of the program.
-/
import Derived.Test.YtbmmajdacebncaaAc8
import Derived.Test.YtbmmajdacebncaaPutD
namespace Go.Proofs.Ytbmmajdacebncaa
open Go.ChangeShapes Go.WideShapes Go.ChangeAt Go.RowKit

/-- the answers -/
noncomputable def rBack (s : Int) (l : AL) : List Int × Bool := if goodAB s l then (castL (backL s.toNat l l.length), true) else ([], false)
theorem rBack_no {s : Int} {l : AL} (h : goodAB s l = false) : rBack s l = ([], false) := by unfold rBack; rw [h]; rfl
theorem rBack_yes {s : Int} {l : AL} (h : goodAB s l = true) : rBack s l = (castL (backL s.toNat l l.length), true) := by unfold rBack; rw [h]; rfl
theorem rBack_len {s : Int} {l : AL} {r0 : List Int} {r1 : Bool} (h : rBack s l = (r0, r1)) : r0.length ≤ 1000 := by
  cases q : goodAB s l with
  | false => rw [rBack_no q] at h; cases h; simp
  | true => rw [rBack_yes q] at h; cases h; rw [castL_len]; have h1 := back_len s.toNat l l.length; have := (good_s q).2.1; omega
noncomputable def rReach (s : Int) (l : AL) (f t : Int) : List Int × Bool := if goodAB s l && (ixB f s && inB 0 8 t) then (castL (rwL (arcE l) s.toNat f.toNat t.toNat), true) else ([], false)
theorem rReach_1 {s f t : Int} {l : AL} (h : goodAB s l = false) : rReach s l f t = ([], false) := by unfold rReach; rw [h]; rfl
theorem rReach_2 {s f t : Int} {l : AL} (h : ixB f s = false) : rReach s l f t = ([], false) := by unfold rReach; rw [h]; simp
theorem rReach_3 {s f t : Int} {l : AL} (h : inB 0 8 t = false) : rReach s l f t = ([], false) := by unfold rReach; rw [h]; simp
theorem rReach_yes {s f t : Int} {l : AL} (h : goodAB s l = true) (h2 : ixB f s = true) (h3 : inB 0 8 t = true) : rReach s l f t = (castL (rwL (arcE l) s.toNat f.toNat t.toNat), true) := by unfold rReach; rw [h, h2, h3]; rfl
theorem rwL_len (E : Nat → Nat → Bool) (n f k : Nat) : (castL (rwL E n f k)).length ≤ n := by rw [castL_len]; exact rw_most
theorem rReach_len {s f t : Int} {l : AL} {r0 : List Int} {r1 : Bool} (h : rReach s l f t = (r0, r1)) : r0.length ≤ 1000 := by
  cases q : goodAB s l with
  | false => rw [rReach_1 q] at h; cases h; simp
  | true =>
    cases q2 : ixB f s with
    | false => rw [rReach_2 q2] at h; cases h; simp
    | true =>
      cases q3 : inB 0 8 t with
      | false => rw [rReach_3 q3] at h; cases h; simp
      | true => rw [rReach_yes q q2 q3] at h; cases h; have h1 := rwL_len (arcE l) s.toNat f.toNat t.toNat; have := (good_s q).1; omega
noncomputable def rEno (s : Int) (l : AL) (f : Int) : Int × Bool := if goodAB s l && ixB f s then ((enK (arcE l) s.toNat f.toNat : Int), true) else (0, false)
theorem rEno_1 {s f : Int} {l : AL} (h : goodAB s l = false) : rEno s l f = (0, false) := by unfold rEno; rw [h]; rfl
theorem rEno_2 {s f : Int} {l : AL} (h : ixB f s = false) : rEno s l f = (0, false) := by unfold rEno; rw [h]; simp
theorem rEno_yes {s f : Int} {l : AL} (h : goodAB s l = true) (h2 : ixB f s = true) : rEno s l f = ((enK (arcE l) s.toNat f.toNat : Int), true) := by unfold rEno; rw [h, h2]; rfl
noncomputable def rWlk (s : Int) (l : AL) (f t c : Int) : Int × Bool := if goodAB s l && (ixB f s && (ixB t s && inB 1 8 c)) then ((wk (arcE l) s.toNat f.toNat (c - 1).toNat t.toNat : Int), true) else (0, false)
theorem rWlk_1 {s f t c : Int} {l : AL} (h : goodAB s l = false) : rWlk s l f t c = (0, false) := by unfold rWlk; rw [h]; rfl
theorem rWlk_2 {s f t c : Int} {l : AL} (h : ixB f s = false) : rWlk s l f t c = (0, false) := by unfold rWlk; rw [h]; simp
theorem rWlk_3 {s f t c : Int} {l : AL} (h : ixB t s = false) : rWlk s l f t c = (0, false) := by unfold rWlk; rw [h]; simp
theorem rWlk_4 {s f t c : Int} {l : AL} (h : inB 1 8 c = false) : rWlk s l f t c = (0, false) := by unfold rWlk; rw [h]; simp
theorem rWlk_yes {s f t c : Int} {l : AL} (h : goodAB s l = true) (h2 : ixB f s = true) (h3 : ixB t s = true) (h4 : inB 1 8 c = true) : rWlk s l f t c = ((wk (arcE l) s.toNat f.toNat (c - 1).toNat t.toNat : Int), true) := by unfold rWlk; rw [h, h2, h3, h4]; rfl
theorem ret_ib {a c : Int} {b d : Bool} (h : a = c) (h2 : b = d) : Ending.returned (.tuple #[.int .i64 a, .bool b]) = .returned (.tuple #[.int .i64 c, .bool d]) := by rw [h, h2]
theorem cast_filter_snoc {p : Nat → Bool} {k : Nat} : castL ((List.range (k + 1)).filter p) = if p k = true then castL ((List.range k).filter p) ++ [(k : Int)] else castL ((List.range k).filter p) := by
  rw [List.range_succ, List.filter_append]
  cases h : p k <;> simp [h, castL]
theorem cast_filter_len (p : Nat → Bool) (k : Nat) : (castL ((List.range k).filter p)).length ≤ k := by
  rw [castL_len]
  have := List.length_filter_le p (List.range k)
  simpa using this
set_option maxRecDepth 100000 in
set_option maxHeartbeats 8000000 in
theorem implBack_any (s : Int) (A : Option Addr) (n cap : Nat) (l : AL) (w : World) (r0 : List Int) (r1 : Bool) (HR : Hid (rBack s l = (r0, r1))) (hl : Hid (ALies w A l)) (HX : Hid (l.length = n)) (hn : n ≤ 1048576) :
    Calls Try.prog 23 #[.int .i64 s, .slice A n cap] w (GaveTwo w r0 r1) := by
  obtain ⟨i0, hi0, hz0, hz1, hz2⟩ := info_parts info_int
  obtain ⟨g, hg⟩ : ∃ g, goodAB s l = g := ⟨_, rfl⟩
  have HG := Lib.hid hg
  clear hg
  cases g with
  | false =>
    have E := Lib.hid (Prod.mk.inj (HR.out.symm.trans (rBack_no HG.out)))
    go_enter Try.func23, Try.ntmps23
    go_wp2_with fail
    refine (implGoodA_any s _ _ _ l _ _ HG hl HX hn).mono ?_
    rintro e w2 ⟨rfl, hb⟩
    go_wp2
    go_ret2
    rw [E.out.1, E.out.2]
    exact two_nil _ _ hb
  | true =>
    have hss := (good_s HG.out).1
    have hgA := (good_s HG.out).2.2
    obtain ⟨N, hN⟩ : ∃ N : Nat, s = (N : Int) := ⟨s.toNat, by omega⟩
    have hNs : s.toNat = N := by omega
    rw [hNs] at hgA
    have E := Lib.hid (Prod.mk.inj (HR.out.symm.trans (rBack_yes HG.out)))
    have E1 : Hid (r0 = castL (backL N l n)) := Lib.hid (by rw [E.out.1, hNs, HX.out])
    have GA := Lib.hid hgA
    have hn30 : n ≤ 30 := by rw [← HX.out]; exact hgA.len
    have hN6 := hgA.hi
    have hN1 := hgA.lo
    rw [hN] at HG ⊢
    clear hgA hNs hN hss
    go_enter Try.func23, Try.ntmps23
    go_wp2_with fail
    refine (implGoodA_any N _ _ _ l _ _ HG hl HX hn).mono ?_
    rintro e w2 ⟨rfl, hb⟩
    have B2 := Lib.hid hb
    clear hb
    go_wp2_with fail
    go_loopw [6, 15] (fun ov iv wr => ∃ (j z : Nat) (A2 : Option Addr) (c2 : Nat), j ≤ n ∧ iv = .int .i64 j ∧ ov = .slice A2 z c2 ∧ (castL (backL N l j)).length = z ∧ wr.ownsRow w.heap.size 3 1 (.slice A2 z c2) z ((castL (backL N l j)).map (Value.int .i64)) ∧ Below w.heap.size w wr) (fun _ i _ => n - (intOf i).toNat)
    case atStart => exact ⟨0, 0, none, 0, Nat.zero_le _, rfl, rfl, rfl, World.ownsRow_nil _ _ _ _, B2.out⟩
    case round =>
      obtain ⟨j, z, A2, c2, hj, rfl, rfl, hz, hown, hb⟩ := hrel
      have O1 := Lib.hid hown
      have B1 := Lib.hid hb
      have hz30 : z ≤ 30 := by rw [← hz]; exact Nat.le_trans (by rw [castL_len]; exact back_len N l j) (by omega)
      have Z1 := Lib.hid hz
      clear hown hb hz
      by_cases hlt : j < n
      · obtain ⟨x, hx⟩ : ∃ x, l[j]? = some x := ⟨_, List.getElem?_eq_getElem (by have := HX.out; omega)⟩
        obtain ⟨a, b, rfl, ha, hb, _⟩ := GA.out.nat (List.mem_of_getElem? hx)
        obtain ⟨bb, off, rfl, hbl, e0, e1⟩ := (hl.out.below B1.out) j _ hx
        simp only at e0 e1
        have HON := Lib.hid (onC_at (n := N) hx)
        clear hx
        go_upto_region 7 with fail
        obtain ⟨w3, hw3⟩ : ∃ W, W = wr.alloc (.cells #[.int .i64 (a : Int), .int .i64 (b : Int)] 36) := ⟨_, rfl⟩
        have hbb : Below wr.heap.size wr w3 := by rw [hw3]; exact below1 _ _
        have hnb : Blk w3 wr.heap.size 36 [.int .i64 (a : Int), .int .i64 (b : Int)] := by rw [hw3]; exact heap_alloc_new _ _
        rw [← hw3]
        clear hw3 e0 e1 hbl
        obtain ⟨bx, hbx⟩ : ∃ bx, wr.heap.size = bx := ⟨_, rfl⟩
        have B3 := Lib.hid (Below.tr B1.out hbb)
        have O3 := Lib.hid (own_below O1.out hbb)
        rw [hbx] at hnb ⊢
        have N3 := Lib.hid hnb
        have n0 : w3.cell? ⟨bx, 0, none⟩ = some (.int .i64 (a : Int)) := hnb.cell 0
        have n1 : w3.cell? ⟨bx, 1, none⟩ = some (.int .i64 (b : Int)) := hnb.cell 1
        clear hbx hbb hnb B1 O1
        refine wp_region_held_drew (S := fun W => W.cell? ⟨bx, 0, none⟩ = some (.int .i64 (a : Int)) ∧ W.cell? ⟨bx, 1, none⟩ = some (.int .i64 (b : Int))) (by kernel_rfl) ⟨n0, n1⟩ (fun hHeld => ?_)
        obtain ⟨w4, hw4⟩ : ∃ W, W = w3.drew := ⟨_, rfl⟩
        have hbd : Below w3.heap.size w3 w4 := by rw [hw4]; exact (Below.refl _ _).drew
        rw [← hw4] at hHeld ⊢
        clear hw4
        have B4 := Lib.hid (Below.tr B3.out hbd)
        have O4 := Lib.hid (own_below O3.out hbd)
        have N4 := Lib.hid (N3.out.below hbd)
        have L4 := Lib.hid (hl.out.below B4.out)
        clear hbd B3 O3 N3 n0 n1
        refine wpAnyH_take (i := 0) (v := ?_) rfl (by kernel_rfl) (by kernel_rfl) (by kernel_rfl) (fun _ _ _ h => h) (Or.inl ⟨by rfl, ?_⟩) (by assumption) ?_
        rotate_left
        · intro W hSw
          try dsimp only at hSw
          go_simp
          try with_reducible rfl
        refine wpAnyH_take (i := 1) (v := ?_) rfl (by kernel_rfl) (by kernel_rfl) (by kernel_rfl) (fun _ _ _ h => h) (Or.inl ⟨by rfl, ?_⟩) (by assumption) ?_
        rotate_left
        · intro W hSw
          try dsimp only at hSw
          go_simp
          try with_reducible rfl
        refine wpAnyH_take (i := 2) (v := ?_) rfl (by kernel_rfl) (by kernel_rfl) (by kernel_rfl) (fun _ _ _ h => h) (Or.inl ⟨by rfl, ?_⟩) (by assumption) ?_
        rotate_left
        · intro W hSw
          try dsimp only at hSw
          go_simp
          try with_reducible rfl
        refine wpAnyH_take (i := 3) (v := ?_) rfl (by kernel_rfl) (by kernel_rfl) (by kernel_rfl) (fun _ _ _ h => h) (Or.inl ⟨by rfl, ?_⟩) (by assumption) ?_
        rotate_left
        · intro W hSw
          try dsimp only at hSw
          go_simp
          try with_reducible rfl
        refine wpAnyH_take (i := 5) (v := ?_) rfl (by kernel_rfl) (by kernel_rfl) (by kernel_rfl) (fun _ _ _ h => h) (Or.inl ⟨by rfl, ?_⟩) (by assumption) ?_
        rotate_left
        · intro W hSw
          try dsimp only at hSw
          go_simp
          try with_reducible rfl
        refine wpAnyH_take (i := 6) (v := ?_) rfl (by kernel_rfl) (by kernel_rfl) (by kernel_rfl) (fun _ _ _ h => h) (Or.inl ⟨by rfl, ?_⟩) (by assumption) ?_
        rotate_left
        · intro W hSw
          try dsimp only at hSw
          go_simp
          try with_reducible rfl
        refine wpAnyH_ready (rs := [4]) (by kernel_rfl) (by simp) ?_
        refine AllReadyH.cons rfl (fun K hK => ?_) AllReadyH.nil
        go_simp
        refine (needed_any N b _ n _ l _ GA hb L4 HX).mono ?_
        rintro e w5 ⟨⟨g5, hg5, rfl, hk5⟩, hb5⟩
        have B5 := Lib.hid (Below.tr B4.out hb5)
        have O5 := Lib.hid (own_below O4.out hb5)
        have K5 := Lib.hid hk5
        have N5 := N4.out.below hb5
        have m0 : w5.cell? ⟨bx, 0, none⟩ = some (.int .i64 (a : Int)) := N5.cell 0
        have m1 : w5.cell? ⟨bx, 1, none⟩ = some (.int .i64 (b : Int)) := N5.cell 1
        clear hb5 hk5 B4 O4 N4 N5 L4
        refine hK.out _ _ ⟨m0, m1⟩ (fun hH2 => ?_)
        clear hK K hHeld
        obtain ⟨v, hv⟩ : ∃ v, need (arcE l) N b N a = v := ⟨_, rfl⟩
        have haN : (a : Int) < (N : Int) := by omega
        have d0 : w5.cell? ⟨g5, a, none⟩ = some (.int .i64 v) := by rw [K5.out.cell, List.getElem?_map, needL_at ha, ← hv]; rfl
        have HV := Lib.hid hv
        clear hv
        cases q : (v != -1) with
        | false =>
          refine wpAnyH_take (i := 7) (v := ?_) rfl (by kernel_rfl) (by kernel_rfl) (by kernel_rfl) (fun _ _ _ h => h) (Or.inl ⟨by rfl, ?_⟩) (by assumption) ?_
          rotate_left
          · intro W hSw
            try dsimp only at hSw
            go_simp
            try with_reducible rfl
          refine wpAnyH_ready (rs := [8]) (by kernel_rfl) (by simp) ?_
          refine AllReadyH.cons rfl (fun K hK => ?_) AllReadyH.nil
          go_simp
          refine hK.out _ _ ⟨m0, m1⟩ (fun hH3 => ?_)
          clear hK K hH2
          refine wpAnyH_ready (rs := [9]) (by kernel_rfl) (by simp) ?_
          refine AllReadyH.cons rfl (fun K hK => ?_) AllReadyH.nil
          go_simp
          refine hK.out _ _ ⟨m0, m1⟩ (fun hH4 => ?_)
          clear hK K hH3
          refine wpAnyH_done (by kernel_rfl) ?_ _
          clear hH4 m0 m1 d0
          have hno : Hid (onC N l j = false) := Lib.hid (by rw [HON.out]; simp only [Int.toNat_natCast]; cases c : rw_ (arcE l) N b N a with | false => rfl | true => exact absurd ((need_ne hb ha).2 c) (by rw [HV.out]; simpa using q))
          go_wp2
          go_roundw
          case rel => exact ⟨j + 1, z, A2, c2, by omega, by go_num, rfl, by rw [back_no hno.out]; exact Z1.out, by rw [back_no hno.out]; exact O5.out, B5.out⟩
          case measure => simp [intOf]; omega
        | true =>
          refine wpAnyH_take (i := 7) (v := ?_) rfl (by kernel_rfl) (by kernel_rfl) (by kernel_rfl) (fun _ _ _ h => h) (Or.inl ⟨by rfl, ?_⟩) (by assumption) ?_
          rotate_left
          · intro W hSw
            try dsimp only at hSw
            go_simp
            try with_reducible rfl
          refine wpAnyH_ready (rs := [8]) (by kernel_rfl) (by simp) ?_
          refine AllReadyH.cons rfl (fun K hK => ?_) AllReadyH.nil
          go_simp
          refine hK.out _ _ ⟨m0, m1⟩ (fun hH3 => ?_)
          clear hK K hH2
          refine wpAnyH_ready (rs := [9]) (by kernel_rfl) (by simp) ?_
          refine AllReadyH.cons rfl (fun K hK => ?_) AllReadyH.nil
          go_simp
          refine hK.out _ _ ⟨m0, m1⟩ (fun hH4 => ?_)
          clear hK K hH3
          refine wpAnyH_done (by kernel_rfl) ?_ _
          clear hH4 m0 m1 d0
          have hye : Hid (castL (backL N l (j + 1)) = castL (backL N l j) ++ [(j : Int)]) := Lib.hid (by rw [back_yes (by rw [HON.out]; simp only [Int.toNat_natCast]; exact (need_ne hb ha).1 (by rw [HV.out]; simpa using q))]; simp [castL])
          go_wp2_with (at_builtin; (refine append_one (x := (j : Int)) (l := castL (backL N l j)) _ _ rfl rfl rfl rfl O5.out B5.out (Nat.le_refl _) B5.out.size (by omega) ?_; intro g6 c6 w6 ho6 hb6; have O6 := Lib.hid ho6; have B6 := Lib.hid hb6; clear ho6 hb6))
          go_roundw
          case rel => exact ⟨j + 1, z + 1, _, _, by omega, by go_num, rfl, by rw [hye.out, List.length_append, Z1.out]; rfl, by rw [hye.out]; exact O6.out, B6.out⟩
          case measure => simp [intOf]; omega
      · obtain rfl : j = n := by omega
        go_wp2
        go_ret2
        rw [E.out.2, E1.out]
        exact two_of Z1.out O1.out B1.out
set_option maxRecDepth 100000 in
set_option maxHeartbeats 8000000 in
theorem implReach_any (s f t : Int) (A : Option Addr) (n cap : Nat) (l : AL) (w : World) (r0 : List Int) (r1 : Bool) (HR : Hid (rReach s l f t = (r0, r1))) (hl : Hid (ALies w A l)) (HX : Hid (l.length = n)) (hn : n ≤ 1048576) :
    Calls Try.prog 30 #[.int .i64 s, .slice A n cap, .int .i64 f, .int .i64 t] w (GaveTwo w r0 r1) := by
  obtain ⟨g, hg⟩ : ∃ g, goodAB s l = g := ⟨_, rfl⟩
  have HG := Lib.hid hg
  clear hg
  obtain ⟨p, hp⟩ : ∃ p, ixB f s = p := ⟨_, rfl⟩
  have HP := Lib.hid hp
  clear hp
  cases g with
  | false =>
    have E := Lib.hid (Prod.mk.inj (HR.out.symm.trans (rReach_1 HG.out)))
    go_enter Try.func30, Try.ntmps30
    go_wp2_with fail
    refine (implGoodA_any s _ _ _ l _ _ HG hl HX hn).mono ?_
    rintro e w2 ⟨rfl, hb⟩
    go_wp2
    go_ret2
    rw [E.out.1, E.out.2]
    exact two_nil _ _ hb
  | true =>
    cases p with
    | false =>
      have E := Lib.hid (Prod.mk.inj (HR.out.symm.trans (rReach_2 HP.out)))
      have hss := (good_s HG.out).1
      go_enter Try.func30, Try.ntmps30
      go_wp2_with fail
      refine (implGoodA_any s _ _ _ l _ _ HG hl HX hn).mono ?_
      rintro e w2 ⟨rfl, hb⟩
      go_wp2_with ((go_at_call 59; refine (isIx_any _ _ _).mono ?_; rintro e w' ⟨rfl, rfl⟩; rw [HP.out]))
      go_ret2
      rw [E.out.1, E.out.2]
      exact two_nil _ _ hb
    | true =>
      have hss := (good_s HG.out).1
      by_cases ht0 : t < 0
      · have E := Lib.hid (Prod.mk.inj (HR.out.symm.trans (rReach_3 (t := t) (by unfold inB; rw [decide_eq_false_iff_not]; omega))))
        go_enter Try.func30, Try.ntmps30
        go_wp2_with fail
        refine (implGoodA_any s _ _ _ l _ _ HG hl HX hn).mono ?_
        rintro e w2 ⟨rfl, hb⟩
        go_wp2_with (go_at_call 59; refine (isIx_any _ _ _).mono ?_; rintro e w' ⟨rfl, rfl⟩; rw [HP.out])
        go_ret2
        rw [E.out.1, E.out.2]
        exact two_nil _ _ hb
      by_cases ht8 : 8 < t
      · have E := Lib.hid (Prod.mk.inj (HR.out.symm.trans (rReach_3 (t := t) (by unfold inB; rw [decide_eq_false_iff_not]; omega))))
        go_enter Try.func30, Try.ntmps30
        go_wp2_with fail
        refine (implGoodA_any s _ _ _ l _ _ HG hl HX hn).mono ?_
        rintro e w2 ⟨rfl, hb⟩
        go_wp2_with (go_at_call 59; refine (isIx_any _ _ _).mono ?_; rintro e w' ⟨rfl, rfl⟩; rw [HP.out])
        go_ret2
        rw [E.out.1, E.out.2]
        exact two_nil _ _ hb
      have E := Lib.hid (Prod.mk.inj (HR.out.symm.trans (rReach_yes HG.out HP.out (by unfold inB; rw [decide_eq_true_eq]; omega))))
      have hgA := (good_s HG.out).2.2
      obtain ⟨N, hN⟩ : ∃ N : Nat, s = (N : Int) := ⟨s.toNat, by omega⟩
      have hNs : s.toNat = N := by omega
      rw [hNs] at hgA
      have hif := ixB_iff.1 HP.out
      obtain ⟨F, hF⟩ : ∃ F : Nat, f = (F : Int) := ⟨f.toNat, by omega⟩
      have hFs : f.toNat = F := by omega
      have hFN : F < N := by omega
      obtain ⟨T, hT⟩ : ∃ T : Nat, t = (T : Int) := ⟨t.toNat, by omega⟩
      have hTs : t.toNat = T := by omega
      have E1 : Hid (r0 = castL (rwL (arcE l) N F T)) := Lib.hid (by rw [E.out.1, hNs, hFs, hTs])
      have GA := Lib.hid hgA
      have hN6 := hgA.hi
      have hT8 : T ≤ 8 := by omega
      rw [hN] at HG HP ⊢
      rw [hF] at HP ⊢
      rw [hT] at ht0 ht8 ⊢
      clear hgA hNs hss hif hFs hTs hN hF hT
      go_enter Try.func30, Try.ntmps30
      go_wp2_with fail
      refine (implGoodA_any N _ _ _ l _ _ HG hl HX hn).mono ?_
      rintro e w2 ⟨rfl, hb⟩
      have B2 := Lib.hid hb
      have L2 := Lib.hid (hl.out.below hb)
      clear hb
      go_wp2_with (go_at_call 59; refine (isIx_any _ _ _).mono ?_; rintro e w' ⟨rfl, rfl⟩; rw [HP.out])
      refine (needed_any N F _ n _ l _ GA hFN L2 HX).mono ?_
      rintro e w5 ⟨⟨g5, hg5, rfl, hk5⟩, hb5⟩
      have B5 := Lib.hid (Below.tr B2.out hb5)
      have K5 := Lib.hid hk5
      clear hb5 hk5 B2 L2
      go_wp2_with fail
      go_loopw [10, 36] (fun ov iv wr => ∃ (j z : Nat) (A2 : Option Addr) (c2 : Nat), j ≤ N ∧ iv = .int .i64 j ∧ ov = .slice A2 z c2 ∧ (castL ((List.range j).filter (rw_ (arcE l) N F T))).length = z ∧ wr.ownsRow w5.heap.size 3 1 (.slice A2 z c2) z ((castL ((List.range j).filter (rw_ (arcE l) N F T))).map (Value.int .i64)) ∧ Blk wr g5 3 ((needL (arcE l) N F N).map (Value.int .i64)) ∧ Below w.heap.size w wr ∧ Below w5.heap.size w5 wr) (fun _ i _ => N - (intOf i).toNat)
      case atStart => exact ⟨0, 0, none, 0, Nat.zero_le _, rfl, rfl, rfl, World.ownsRow_nil _ _ _ _, K5.out, B5.out, Below.refl _ _⟩
      case round =>
        obtain ⟨j, z, A2, c2, hj, rfl, rfl, hz, hown, hkk, hb, hb5⟩ := hrel
        have O1 := Lib.hid hown
        have K1 := Lib.hid hkk
        have B1 := Lib.hid hb
        have D1 := Lib.hid hb5
        have hz6 : z ≤ 6 := by rw [← hz]; exact Nat.le_trans (cast_filter_len _ j) (by omega)
        have Z1 := Lib.hid hz
        clear hown hkk hb hb5 hz
        by_cases hlt : j < N
        · obtain ⟨v, hv⟩ : ∃ v, need (arcE l) N F N j = v := ⟨_, rfl⟩
          have d0 : wr.cell? ⟨g5, j, none⟩ = some (.int .i64 v) := by rw [K1.out.cell, List.getElem?_map, needL_at hlt, ← hv]; rfl
          have HV := Lib.hid hv
          have hjN : (j : Int) < (N : Int) := by omega
          clear hv
          have HSN := Lib.hid (cast_filter_snoc (p := rw_ (arcE l) N F T) (k := j))
          have HNL := Lib.hid (need_le (E := arcE l) (n := N) (f := F) (i := j) (m := T) hFN hlt)
          cases q : (v != -1) with
          | false =>
            have HSK : Hid (castL ((List.range (j + 1)).filter (rw_ (arcE l) N F T)) = castL ((List.range j).filter (rw_ (arcE l) N F T))) := Lib.hid (by rw [HSN.out, if_neg (fun h => by have := (HNL.out.2 h).1; rw [HV.out] at this; simp at q; exact this q)])
            go_wp2
            go_roundw
            case rel => exact ⟨j + 1, z, A2, c2, by omega, by go_num, rfl, by rw [HSK.out]; exact Z1.out, by rw [HSK.out]; exact O1.out, K1.out, B1.out, D1.out⟩
            case measure => simp [intOf]; omega
          | true =>
            cases q2 : decide (v ≤ (T : Int)) with
            | false =>
              have HSK : Hid (castL ((List.range (j + 1)).filter (rw_ (arcE l) N F T)) = castL ((List.range j).filter (rw_ (arcE l) N F T))) := Lib.hid (by rw [HSN.out, if_neg (fun h => by have := (HNL.out.2 h).2; rw [HV.out] at this; simp only [decide_eq_false_iff_not] at q2; exact q2 this)])
              go_wp2
              go_roundw
              case rel => exact ⟨j + 1, z, A2, c2, by omega, by go_num, rfl, by rw [HSK.out]; exact Z1.out, by rw [HSK.out]; exact O1.out, K1.out, B1.out, D1.out⟩
              case measure => simp [intOf]; omega
            | true =>
              have HSK : Hid (castL ((List.range (j + 1)).filter (rw_ (arcE l) N F T)) = castL ((List.range j).filter (rw_ (arcE l) N F T)) ++ [(j : Int)]) := Lib.hid (by rw [HSN.out, if_pos (HNL.out.1 ⟨by rw [HV.out]; simpa using q, by rw [HV.out]; simpa using q2⟩)])
              go_wp2_with (at_builtin; (refine append_one (w := w5) (x := (j : Int)) (l := castL ((List.range j).filter (rw_ (arcE l) N F T))) _ _ rfl rfl rfl rfl O1.out D1.out (Nat.le_refl _) D1.out.size (by omega) ?_; intro g6 c6 w6 ho6 hb6; have O6 := Lib.hid ho6; have D6 := Lib.hid hb6; clear ho6 hb6))
              have B6 := Lib.hid (Below.tr B5.out D6.out)
              have K6 := Lib.hid (K5.out.below D6.out)
              go_roundw
              case rel => exact ⟨j + 1, z + 1, _, _, by omega, by go_num, rfl, by rw [HSK.out, List.length_append, Z1.out]; rfl, by rw [HSK.out]; exact O6.out, K6.out, B6.out, D6.out⟩
              case measure => simp [intOf]; omega
        · obtain rfl : j = N := by omega
          go_wp2
          go_ret2
          rw [E.out.2, E1.out]
          exact two_of Z1.out (own_base O1.out B5.out.size) B1.out
set_option maxRecDepth 100000 in
set_option maxHeartbeats 8000000 in
theorem implEno_any (s f : Int) (A : Option Addr) (n cap : Nat) (l : AL) (w : World) (r0 : Int) (r1 : Bool) (HR : Hid (rEno s l f = (r0, r1))) (hl : Hid (ALies w A l)) (HX : Hid (l.length = n)) (hn : n ≤ 1048576) :
    Calls Try.prog 28 #[.int .i64 s, .slice A n cap, .int .i64 f] w (fun e w' => e = .returned (.tuple #[.int .i64 r0, .bool r1]) ∧ Below w.heap.size w w') := by
  obtain ⟨g, hg⟩ : ∃ g, goodAB s l = g := ⟨_, rfl⟩
  have HG := Lib.hid hg
  clear hg
  obtain ⟨p, hp⟩ : ∃ p, ixB f s = p := ⟨_, rfl⟩
  have HP := Lib.hid hp
  clear hp
  cases g with
  | false =>
    have E := Lib.hid (Prod.mk.inj (HR.out.symm.trans (rEno_1 HG.out)))
    go_enter Try.func28, Try.ntmps28
    go_wp2_with fail
    refine (implGoodA_any s _ _ _ l _ _ HG hl HX hn).mono ?_
    rintro e w2 ⟨rfl, hb⟩
    go_wp2
    go_ret2
    exact ⟨ret_ib E.out.1.symm E.out.2.symm, hb⟩
  | true =>
    cases p with
    | false =>
      have E := Lib.hid (Prod.mk.inj (HR.out.symm.trans (rEno_2 HP.out)))
      have hss := (good_s HG.out).1
      go_enter Try.func28, Try.ntmps28
      go_wp2_with fail
      refine (implGoodA_any s _ _ _ l _ _ HG hl HX hn).mono ?_
      rintro e w2 ⟨rfl, hb⟩
      go_wp2_with ((go_at_call 59; refine (isIx_any _ _ _).mono ?_; rintro e w' ⟨rfl, rfl⟩; rw [HP.out]))
      go_ret2
      exact ⟨ret_ib E.out.1.symm E.out.2.symm, hb⟩
    | true =>
      have hss := (good_s HG.out).1
      have E := Lib.hid (Prod.mk.inj (HR.out.symm.trans (rEno_yes HG.out HP.out)))
      have hgA := (good_s HG.out).2.2
      obtain ⟨N, hN⟩ : ∃ N : Nat, s = (N : Int) := ⟨s.toNat, by omega⟩
      have hNs : s.toNat = N := by omega
      rw [hNs] at hgA
      have hif := ixB_iff.1 HP.out
      obtain ⟨F, hF⟩ : ∃ F : Nat, f = (F : Int) := ⟨f.toNat, by omega⟩
      have hFs : f.toNat = F := by omega
      have hFN : F < N := by omega
      have E1 : Hid (r0 = (enK (arcE l) N F : Int)) := Lib.hid (by rw [E.out.1, hNs, hFs])
      have GA := Lib.hid hgA
      have hN6 := hgA.hi
      rw [hN] at HG HP ⊢
      rw [hF] at HP ⊢
      clear hgA hNs hss hif hFs hN hF
      go_enter Try.func28, Try.ntmps28
      go_wp2_with fail
      refine (implGoodA_any N _ _ _ l _ _ HG hl HX hn).mono ?_
      rintro e w2 ⟨rfl, hb⟩
      have B2 := Lib.hid hb
      have L2 := Lib.hid (hl.out.below hb)
      clear hb
      go_wp2_with (go_at_call 59; refine (isIx_any _ _ _).mono ?_; rintro e w' ⟨rfl, rfl⟩; rw [HP.out])
      refine (needed_any N F _ n _ l _ GA hFN L2 HX).mono ?_
      rintro e w5 ⟨⟨g5, hg5, rfl, hk5⟩, hb5⟩
      have B5 := Lib.hid (Below.tr B2.out hb5)
      have K5 := Lib.hid (Blk.ilies hk5)
      clear hb5 hk5 B2 L2
      go_wp2_with fail
      refine (maxS_any (need (arcE l) N F N) _ N (N - 1) N _ K5 (by omega) (by omega)).mono ?_
      rintro e w6 ⟨rfl, rfl⟩
      have EM := Lib.hid (need_maxK (E := arcE l) hFN)
      rw [EM.out]
      go_wp2
      go_ret2
      exact ⟨ret_ib E1.out.symm E.out.2.symm, B5.out⟩
set_option maxRecDepth 100000 in
set_option maxHeartbeats 8000000 in
theorem implWlk_any (s f t c : Int) (A : Option Addr) (n cap : Nat) (l : AL) (w : World) (r0 : Int) (r1 : Bool) (HR : Hid (rWlk s l f t c = (r0, r1))) (hl : Hid (ALies w A l)) (HX : Hid (l.length = n)) (hn : n ≤ 1048576) :
    Calls Try.prog 32 #[.int .i64 s, .slice A n cap, .int .i64 f, .int .i64 t, .int .i64 c] w (fun e w' => e = .returned (.tuple #[.int .i64 r0, .bool r1]) ∧ Below w.heap.size w w') := by
  obtain ⟨g, hg⟩ : ∃ g, goodAB s l = g := ⟨_, rfl⟩
  have HG := Lib.hid hg
  clear hg
  obtain ⟨p, hp⟩ : ∃ p, ixB f s = p := ⟨_, rfl⟩
  have HP := Lib.hid hp
  clear hp
  obtain ⟨q, hq⟩ : ∃ q, ixB t s = q := ⟨_, rfl⟩
  have HQ := Lib.hid hq
  clear hq
  obtain ⟨k, hk⟩ : ∃ k, inB 1 8 c = k := ⟨_, rfl⟩
  have HK := Lib.hid hk
  clear hk
  cases g with
  | false =>
    have E := Lib.hid (Prod.mk.inj (HR.out.symm.trans (rWlk_1 HG.out)))
    go_enter Try.func32, Try.ntmps32
    go_wp2_with fail
    refine (implGoodA_any s _ _ _ l _ _ HG hl HX hn).mono ?_
    rintro e w2 ⟨rfl, hb⟩
    go_wp2
    go_ret2
    exact ⟨ret_ib E.out.1.symm E.out.2.symm, hb⟩
  | true =>
    cases p with
    | false =>
      have E := Lib.hid (Prod.mk.inj (HR.out.symm.trans (rWlk_2 HP.out)))
      have hss := (good_s HG.out).1
      go_enter Try.func32, Try.ntmps32
      go_wp2_with fail
      refine (implGoodA_any s _ _ _ l _ _ HG hl HX hn).mono ?_
      rintro e w2 ⟨rfl, hb⟩
      go_wp2_with (first | (go_at_call 59; refine (isIx_any _ _ _).mono ?_; rintro e w' ⟨rfl, rfl⟩; first | rw [HP.out] | rw [HQ.out]) | (go_at_call 52; refine (isLayer_any _ _).mono ?_; rintro e w' ⟨rfl, rfl⟩; rw [HK.out]))
      go_ret2
      exact ⟨ret_ib E.out.1.symm E.out.2.symm, hb⟩
    | true =>
      cases q with
      | false =>
        have E := Lib.hid (Prod.mk.inj (HR.out.symm.trans (rWlk_3 HQ.out)))
        have hss := (good_s HG.out).1
        go_enter Try.func32, Try.ntmps32
        go_wp2_with fail
        refine (implGoodA_any s _ _ _ l _ _ HG hl HX hn).mono ?_
        rintro e w2 ⟨rfl, hb⟩
        go_wp2_with (first | (go_at_call 59; refine (isIx_any _ _ _).mono ?_; rintro e w' ⟨rfl, rfl⟩; first | rw [HP.out] | rw [HQ.out]) | (go_at_call 52; refine (isLayer_any _ _).mono ?_; rintro e w' ⟨rfl, rfl⟩; rw [HK.out]))
        go_ret2
        exact ⟨ret_ib E.out.1.symm E.out.2.symm, hb⟩
      | true =>
        cases k with
        | false =>
          have E := Lib.hid (Prod.mk.inj (HR.out.symm.trans (rWlk_4 HK.out)))
          have hss := (good_s HG.out).1
          go_enter Try.func32, Try.ntmps32
          go_wp2_with fail
          refine (implGoodA_any s _ _ _ l _ _ HG hl HX hn).mono ?_
          rintro e w2 ⟨rfl, hb⟩
          go_wp2_with (first | (go_at_call 59; refine (isIx_any _ _ _).mono ?_; rintro e w' ⟨rfl, rfl⟩; first | rw [HP.out] | rw [HQ.out]) | (go_at_call 52; refine (isLayer_any _ _).mono ?_; rintro e w' ⟨rfl, rfl⟩; rw [HK.out]))
          go_ret2
          exact ⟨ret_ib E.out.1.symm E.out.2.symm, hb⟩
        | true =>
          have hss := (good_s HG.out).1
          have E := Lib.hid (Prod.mk.inj (HR.out.symm.trans (rWlk_yes HG.out HP.out HQ.out HK.out)))
          have hgA := (good_s HG.out).2.2
          obtain ⟨N, hN⟩ : ∃ N : Nat, s = (N : Int) := ⟨s.toNat, by omega⟩
          have hNs : s.toNat = N := by omega
          rw [hNs] at hgA
          have hif := ixB_iff.1 HP.out
          obtain ⟨F, hF⟩ : ∃ F : Nat, f = (F : Int) := ⟨f.toNat, by omega⟩
          have hFs : f.toNat = F := by omega
          have hFN : F < N := by omega
          have hit := ixB_iff.1 HQ.out
          obtain ⟨T, hT⟩ : ∃ T : Nat, t = (T : Int) := ⟨t.toNat, by omega⟩
          have hTs : t.toNat = T := by omega
          have hTN : T < N := by omega
          have hic := inB_yes HK.out
          obtain ⟨C, hC⟩ : ∃ C : Nat, c = (C : Int) := ⟨c.toNat, by omega⟩
          have hCs : (c - 1).toNat = C - 1 := by omega
          have E1 : Hid (r0 = (wk (arcE l) N F (C - 1) T : Int)) := Lib.hid (by rw [E.out.1, hNs, hFs, hTs, hCs])
          have GA := Lib.hid hgA
          have hN6 := hgA.hi
          have hC1 : 1 ≤ C ∧ C ≤ 8 := by omega
          rw [hN] at HG HP HQ ⊢
          rw [hF] at HP ⊢
          rw [hT] at HQ ⊢
          rw [hC] at HK ⊢
          clear hgA hNs hss hif hFs hTs hCs hit hic hN hF hT hC
          go_enter Try.func32, Try.ntmps32
          go_wp2_with fail
          refine (implGoodA_any N _ _ _ l _ _ HG hl HX hn).mono ?_
          rintro e w2 ⟨rfl, hb⟩
          have B2 := Lib.hid hb
          have L2 := Lib.hid (hl.out.below hb)
          clear hb
          go_wp2_with (first | (go_at_call 59; refine (isIx_any _ _ _).mono ?_; rintro e w' ⟨rfl, rfl⟩; first | rw [HP.out] | rw [HQ.out]) | (go_at_call 52; refine (isLayer_any _ _).mono ?_; rintro e w' ⟨rfl, rfl⟩; rw [HK.out]))
          refine (layers_any N F C _ n _ l _ GA hFN hC1 L2 HX).mono ?_
          rintro e w5 ⟨⟨A5, c5, rfl, ho5⟩, hb5⟩
          obtain ⟨g5, cap5, hv5, hg5, _⟩ := ho5.form (by omega)
          have hA5 : A5 = some ⟨g5, 0, none⟩ := by injection hv5
          subst hA5
          obtain ⟨D, hD⟩ : ∃ D, C = D + 1 := ⟨C - 1, by omega⟩
          have y0 := lyc_cell ho5 (show D < C by omega) (show T < 6 by omega)
          have hDe : C - 1 = D := by omega
          rw [hDe] at E1
          have B5 := Lib.hid (Below.tr B2.out hb5)
          have hDi : (C : Int) - 1 = (D : Int) := by omega
          have hDw : IntKind.i64.wrap (D : Int) = (D : Int) := by rw [IntKind.wrap_i64]; omega
          have hDC : (D : Int) < (C : Int) := by omega
          have hT6 : (T : Int) < 6 := by omega
          clear hb5 ho5 hv5 hg5 B2 L2 hD hDe
          go_wp2
          go_ret2
          exact ⟨ret_ib E1.out.symm E.out.2.symm, B5.out⟩
end Go.Proofs.Ytbmmajdacebncaa
