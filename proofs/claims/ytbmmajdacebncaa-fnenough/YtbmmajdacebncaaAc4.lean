/-
  IsWalk, LaidWalk: both sides.
-/
import Derived.Test.YtbmmajdacebncaaAc2
import Derived.Test.YtbmmajdacebncaaAc3
namespace Go.Proofs.Ytbmmajdacebncaa
open Go.ChangeShapes Go.WideShapes Go.ChangeAt Go.RowKit

noncomputable def rIsW (s : Int) (l : AL) (k : List Int) : Bool × Bool := if goodAB s l && spotsB s k then (walkB l k (k.length - 1), true) else (false, false)
theorem rIsW_no1 {s : Int} {l : AL} {k : List Int} (h : goodAB s l = false) : rIsW s l k = (false, false) := by unfold rIsW; rw [h]; rfl
theorem rIsW_no2 {s : Int} {l : AL} {k : List Int} (h : spotsB s k = false) : rIsW s l k = (false, false) := by unfold rIsW; rw [h]; simp
theorem rIsW_yes {s : Int} {l : AL} {k : List Int} (h : goodAB s l = true) (h2 : spotsB s k = true) : rIsW s l k = (walkB l k (k.length - 1), true) := by unfold rIsW; rw [h, h2]; rfl
theorem getD_at {l : List Int} {i : Nat} {x : Int} (h : l[i]? = some x) : l.getD i 0 = x := by rw [List.getD, h]; rfl
theorem walk_go {l : AL} {k : List Int} {j : Nat} {a c : Int} (h1 : k[j]? = some a) (h2 : k[j + 1]? = some c) (hw : walkB l k j = true) (hm : decide ((a, c) ∈ l) = true) : walkB l k (j + 1) = true := by
  rw [walk_succ, hw, getD_at h1, getD_at h2, hm]; rfl
theorem walk_stop {l : AL} {k : List Int} {j m : Nat} {a c : Int} (h1 : k[j]? = some a) (h2 : k[j + 1]? = some c) (hj : j < m) (hm : decide ((a, c) ∈ l) = false) : walkB l k m = false :=
  walk_no hj (by rw [getD_at h1, getD_at h2]; simpa using hm)
theorem ret_bb {a b c d : Bool} (h : a = c) (h2 : b = d) : Ending.returned (.tuple #[.bool a, .bool b]) = .returned (.tuple #[.bool c, .bool d]) := by rw [h, h2]
theorem spots_len {s : Int} {k : List Int} (h : spotsB s k = true) : 1 ≤ k.length ∧ k.length ≤ 8 := (spotsB_iff.1 h).2.1
set_option maxRecDepth 100000 in
set_option maxHeartbeats 4000000 in
theorem implIsW_any (s : Int) (A B : Option Addr) (n cap m cp : Nat) (l : AL) (k : List Int) (w : World) (r0 r1 : Bool) (HR : Hid (rIsW s l k = (r0, r1))) (hl : Hid (ALies w A l)) (HX : Hid (l.length = n)) (hn : n ≤ 1048576) (hk : Hid (ILies w B k)) (HY : Hid (k.length = m)) (hm : m ≤ 1048576) (hcp : m ≤ cp) :
    Calls Try.prog 14 #[.int .i64 s, .slice A n cap, .slice B m cp] w fun e w' => e = .returned (.tuple #[.bool r0, .bool r1]) ∧ Below w.heap.size w w' := by
  obtain ⟨g, hg⟩ : ∃ g, goodAB s l = g := ⟨_, rfl⟩
  obtain ⟨p, hp⟩ : ∃ p, spotsB s k = p := ⟨_, rfl⟩
  have HG := Lib.hid hg
  have HP := Lib.hid hp
  clear hg hp
  cases g with
  | false =>
    have E := Lib.hid (Prod.mk.inj (HR.out.symm.trans (rIsW_no1 HG.out)))
    go_enter Try.func14, Try.ntmps14
    go_wp2_with fail
    refine (implGoodA_any s _ _ _ l _ _ HG hl HX hn).mono ?_
    rintro e w2 ⟨rfl, hb⟩
    go_wp2
    go_ret2
    exact ⟨ret_bb E.out.1.symm E.out.2.symm, hb⟩
  | true =>
    cases p with
    | false =>
      have E := Lib.hid (Prod.mk.inj (HR.out.symm.trans (rIsW_no2 HP.out)))
      go_enter Try.func14, Try.ntmps14
      go_wp2_with fail
      refine (implGoodA_any s _ _ _ l _ _ HG hl HX hn).mono ?_
      rintro e w2 ⟨rfl, hb⟩
      have B2 := Lib.hid hb
      have K2 := Lib.hid (hk.out.below hb)
      clear hb
      go_wp2_with (go_at_call 48; refine (areSpots_any s _ _ _ k _ _ HP K2 HY hm).mono ?_; rintro e w' ⟨rfl, rfl⟩)
      go_ret2
      exact ⟨ret_bb E.out.1.symm E.out.2.symm, B2.out⟩
    | true =>
      have E := Lib.hid (Prod.mk.inj (HR.out.symm.trans (rIsW_yes HG.out HP.out)))
      have hml := spots_len HP.out
      rw [HY.out] at hml
      obtain ⟨hm1, hm8⟩ := hml
      obtain ⟨y0, hy0⟩ : ∃ y, k[0]? = some y := ⟨_, List.getElem?_eq_getElem (by have := HY.out; omega)⟩
      obtain ⟨b0, o0, rfl, _, _⟩ := hk.out 0 y0 hy0
      clear hy0
      have h1m : (1 : Int) ≤ (m : Int) := by omega
      have hmc : (m : Int) ≤ (cp : Int) := by omega
      have h1c : (1 : Int) ≤ (cp : Int) := by omega
      go_enter Try.func14, Try.ntmps14
      go_wp2_with fail
      refine (implGoodA_any s _ _ _ l _ _ HG hl HX hn).mono ?_
      rintro e w2 ⟨rfl, hb⟩
      have B2 := Lib.hid hb
      have K2 := Lib.hid (hk.out.below hb)
      clear hb
      by_cases hc1 : cp = 1
      · subst hc1
        have hm1' : m = 1 := by omega
        subst hm1'
        have E1 : Hid (r0 = true) := Lib.hid (by rw [E.out.1, HY.out]; rfl)
        go_wp2_with (go_at_call 48; refine (areSpots_any s _ _ _ k _ _ HP K2 HY hm).mono ?_; rintro e w' ⟨rfl, rfl⟩)
        go_loop [23] (fun i => i = .int .i64 0) (fun _ => 0)
        case atStart => rfl
        case round =>
          subst hrel
          go_wp2
          go_ret2
          exact ⟨ret_bb E1.out.symm E.out.2.symm, B2.out⟩
      · obtain ⟨q, hq⟩ : ∃ q, m = q + 1 := ⟨m - 1, by omega⟩
        have HQ := Lib.hid hq
        have hqi : (m : Int) - 1 = (q : Int) := by omega
        have hqn : m - 1 = q := by omega
        clear hq
        go_wp2_with (go_at_call 48; refine (areSpots_any s _ _ _ k _ _ HP K2 HY hm).mono ?_; rintro e w' ⟨rfl, rfl⟩)
        have E1 : Hid (r0 = walkB l k q) := Lib.hid (by rw [E.out.1, HY.out, HQ.out]; rfl)
        go_loopw [23] (fun i wr => ∃ j : Nat, j ≤ q ∧ i = .int .i64 j ∧ walkB l k j = true ∧ Below w.heap.size w wr) (fun i _ => q - (intOf i).toNat)
        case atStart => exact ⟨0, Nat.zero_le _, rfl, rfl, B2.out⟩
        case round =>
          obtain ⟨j, hj, rfl, hw, hb⟩ := hrel
          have W1 := Lib.hid hw
          have B3 := Lib.hid hb
          clear hw hb
          by_cases hlt : j < q
          · obtain ⟨x, hx⟩ : ∃ x, k[j]? = some x := ⟨_, List.getElem?_eq_getElem (by have := HY.out; omega)⟩
            obtain ⟨y, hy⟩ : ∃ y, k[j + 1]? = some y := ⟨_, List.getElem?_eq_getElem (by have := HY.out; have := HQ.out; omega)⟩
            obtain ⟨b3, o3, hA3, _, c3⟩ := (hk.out.below B3.out) j x hx
            obtain ⟨b4, o4, hA4, _, c4⟩ := (hk.out.below B3.out) (j + 1) y hy
            simp only [Option.some.injEq, Addr.mk.injEq, and_true] at hA3 hA4
            obtain ⟨rfl, rfl⟩ := hA3
            obtain ⟨rfl, rfl⟩ := hA4
            have c5 : wr.cell? ⟨b0, o0 + 1 + j, none⟩ = some (.int .i64 y) := by rw [← c4]; congr 2; omega
            have HXJ := Lib.hid hx
            have HYJ := Lib.hid hy
            clear hx hy c4
            have hjm : (j : Int) < (m : Int) := by omega
            have L3 := Lib.hid (hl.out.below B3.out)
            obtain ⟨d, hd⟩ : ∃ d, decide ((x, y) ∈ l) = d := ⟨_, rfl⟩
            have HD := Lib.hid hd
            clear hd
            go_wp2_with fail
            refine (containsA_any _ _ _ l x y _ d HD L3 HX hn).mono ?_
            rintro e w5 ⟨rfl, hb5⟩
            have B5 := Lib.hid (Below.tr B3.out hb5)
            clear hb5
            cases d with
            | false =>
              have E2 : Hid (r0 = false) := Lib.hid (by rw [E1.out]; exact walk_stop HXJ.out HYJ.out hlt HD.out)
              go_wp2
              go_ret2
              exact ⟨ret_bb E2.out.symm E.out.2.symm, B5.out⟩
            | true =>
              have W2 := Lib.hid (walk_go HXJ.out HYJ.out W1.out HD.out)
              go_wp2
              go_roundw
              case rel => exact ⟨j + 1, by omega, by go_num, W2.out, B5.out⟩
              case measure => simp [intOf]; omega
          · obtain rfl : j = q := by omega
            have E2 : Hid (r0 = true) := Lib.hid (by rw [E1.out]; exact W1.out)
            go_wp2
            go_ret2
            exact ⟨ret_bb E2.out.symm E.out.2.symm, B3.out⟩
set_option maxRecDepth 100000 in
set_option maxHeartbeats 4000000 in
theorem specIsW_any (s : Int) (A B : Option Addr) (n cap m cp : Nat) (l : AL) (k : List Int) (w : World) (r0 r1 : Bool) (HR : Hid (rIsW s l k = (r0, r1))) (hl : Hid (ALies w A l)) (HX : Hid (l.length = n)) (hn : n ≤ 1048576) (hk : Hid (ILies w B k)) (HY : Hid (k.length = m)) (hm : m ≤ 1048576) :
    Calls Try.prog 15 #[.int .i64 s, .slice A n cap, .slice B m cp] w fun e w' => e = .returned (.tuple #[.bool r0, .bool r1]) ∧ Below w.heap.size w w' := by
  obtain ⟨g, hg⟩ : ∃ g, goodAB s l = g := ⟨_, rfl⟩
  obtain ⟨p, hp⟩ : ∃ p, spotsB s k = p := ⟨_, rfl⟩
  have HG := Lib.hid hg
  have HP := Lib.hid hp
  clear hg hp
  cases g with
  | false =>
    have E := Lib.hid (Prod.mk.inj (HR.out.symm.trans (rIsW_no1 HG.out)))
    go_enter Try.func15, Try.ntmps15
    go_wp2_with fail
    refine (specGoodA_any s _ _ _ l _ _ HG hl HX hn).mono ?_
    rintro e w2 ⟨rfl, hb⟩
    go_wp2
    go_ret2
    exact ⟨ret_bb E.out.1.symm E.out.2.symm, hb⟩
  | true =>
    cases p with
    | false =>
      have E := Lib.hid (Prod.mk.inj (HR.out.symm.trans (rIsW_no2 HP.out)))
      go_enter Try.func15, Try.ntmps15
      go_wp2_with fail
      refine (specGoodA_any s _ _ _ l _ _ HG hl HX hn).mono ?_
      rintro e w2 ⟨rfl, hb⟩
      have B2 := Lib.hid hb
      have K2 := Lib.hid (hk.out.below hb)
      clear hb
      go_wp2_with (go_at_call 50; refine (l12Walk_any s _ _ _ k _ _ HP K2 HY hm).mono ?_; rintro e w' ⟨rfl, rfl⟩)
      go_ret2
      exact ⟨ret_bb E.out.1.symm E.out.2.symm, B2.out⟩
    | true =>
      have E := Lib.hid (Prod.mk.inj (HR.out.symm.trans (rIsW_yes HG.out HP.out)))
      have hml := spots_len HP.out
      rw [HY.out] at hml
      obtain ⟨hm1, hm8⟩ := hml
      go_enter Try.func15, Try.ntmps15
      go_wp2_with fail
      refine (specGoodA_any s _ _ _ l _ _ HG hl HX hn).mono ?_
      rintro e w2 ⟨rfl, hb⟩
      have B2 := Lib.hid hb
      have K2 := Lib.hid (hk.out.below hb)
      clear hb
      go_wp2_with (go_at_call 50; refine (l12Walk_any s _ _ _ k _ _ HP K2 HY hm).mono ?_; rintro e w' ⟨rfl, rfl⟩)
      go_loopw [8] (fun i wr => ∃ j : Nat, 1 ≤ j ∧ j ≤ m ∧ i = .int .i64 j ∧ walkB l k (j - 1) = true ∧ Below w.heap.size w wr) (fun i _ => m - (intOf i).toNat)
      case atStart => exact ⟨1, Nat.le_refl _, hm1, rfl, rfl, B2.out⟩
      case round =>
        obtain ⟨i, hi1, him, rfl, hw, hb⟩ := hrel
        have W1 := Lib.hid hw
        have B3 := Lib.hid hb
        clear hw hb
        by_cases hlt : i < m
        · obtain ⟨j, hj⟩ : ∃ j, i = j + 1 := ⟨i - 1, by omega⟩
          have HJ := Lib.hid hj
          obtain ⟨x, hx⟩ : ∃ x, k[j]? = some x := ⟨_, List.getElem?_eq_getElem (by have := HY.out; omega)⟩
          obtain ⟨y, hy⟩ : ∃ y, k[i]? = some y := ⟨_, List.getElem?_eq_getElem (by have := HY.out; omega)⟩
          obtain ⟨b3, o3, rfl, hbl3, c3⟩ := (hk.out.below B3.out) j x hx
          obtain ⟨b4, o4, hA4, _, c4⟩ := (hk.out.below B3.out) i y hy
          simp only [Option.some.injEq, Addr.mk.injEq, and_true] at hA4
          obtain ⟨rfl, rfl⟩ := hA4
          have hji : (i : Int) - 1 = (j : Int) := by omega
          have hwj : IntKind.i64.wrap (j : Int) = (j : Int) := by rw [IntKind.wrap_i64]; omega
          have HXJ := Lib.hid hx
          have HYJ : Hid (k[j + 1]? = some y) := Lib.hid (by rw [← hj]; exact hy)
          have W2 : Hid (walkB l k j = true) := Lib.hid (by have := W1.out; rw [hj] at this; simpa using this)
          have hlm : j < m - 1 := by omega
          have hjm : j < m := by omega
          clear hx hy hj W1
          have L3 := Lib.hid (hl.out.below B3.out)
          obtain ⟨d, hd⟩ : ∃ d, decide ((x, y) ∈ l) = d := ⟨_, rfl⟩
          have HD := Lib.hid hd
          have HLM := Lib.hid hlm
          clear hd hlm
          go_wp2_with fail
          go_still_tail 10, (by kernel_rfl)
          change wpList _ _ _ _ _ wr.drew
          have B4 : Hid (Below w.heap.size w wr.drew) := B3.out.drew
          have L4 : Hid (ALies wr.drew A l) := Lib.hid (hl.out.below B4.out)
          generalize wr.drew = w4 at B4 L4 ⊢
          clear c3 c4
          go_wp2_with fail
          refine (l12Arc_any _ _ _ l x y _ d HD L4 HX hn).mono ?_
          rintro e w5 ⟨rfl, hb5⟩
          have B5 := Lib.hid (Below.tr B4.out hb5)
          clear hb5
          cases d with
          | false =>
            have E2 : Hid (r0 = false) := Lib.hid (by rw [E.out.1, HY.out]; exact walk_stop HXJ.out HYJ.out HLM.out HD.out)
            go_wp2
            go_ret2
            exact ⟨ret_bb E2.out.symm E.out.2.symm, B5.out⟩
          | true =>
            have W3 : Hid (walkB l k (i + 1 - 1) = true) := Lib.hid (by rw [HJ.out]; exact walk_go HXJ.out HYJ.out W2.out HD.out)
            go_wp2
            go_roundw
            case rel => exact ⟨i + 1, by omega, by omega, by go_num, W3.out, B5.out⟩
            case measure => simp [intOf]; omega
        · obtain rfl : i = m := by omega
          have E2 : Hid (r0 = true) := Lib.hid (by rw [E.out.1, HY.out]; exact W1.out)
          go_wp2
          go_ret2
          exact ⟨ret_bb E2.out.symm E.out.2.symm, B3.out⟩
end Go.Proofs.Ytbmmajdacebncaa
