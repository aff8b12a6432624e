/-
  Contracts of chapter 10: the program's MeetKnown, KnownOf.
-/
import Derived.Test.YtmfganodnlnjcaaDoorKn3
namespace Go.Proofs.YtmfganodnlnjcaaDoor.Op
open Go.Proofs.YtmfganodnlnjcaaDoor
open Go.ChangeShapes Go.WideShapes Go.ChangeAt Go.RowKit

theorem meetA_yes {a b c d x y : Nat} {p q : Bool} (g : goodK ⟨a, b⟩ = true) (g' : goodK ⟨c, d⟩ = true) (e : meetK ⟨a, b⟩ ⟨c, d⟩ = ⟨x, y⟩) (h1 : mayK ⟨a, b⟩ x = p) (h2 : mayK ⟨c, d⟩ x = q) :
    meetA a b c d = if p && q then (⟨x, y⟩, true) else (⟨0, 0⟩, false) := by
  have hx : x = a ||| c := by have := congrArg Kn.v e; exact this.symm
  have hm := met_least g g'
  simp only at hm
  rw [← hx, h1, h2] at hm
  unfold meetA
  rw [kn_nat, kn_nat, gK_nat, gK_nat, g, g', ← hm, e]
  rfl
theorem meetA_no1 {a b c d : Int} (h : gK a b = false) : meetA a b c d = (⟨0, 0⟩, false) := by unfold meetA; rw [h]; rfl
theorem meetA_no2 {a b c d : Int} (h : gK c d = false) : meetA a b c d = (⟨0, 0⟩, false) := by unfold meetA; rw [h]; simp
theorem ofA_no {l : List Int} (h : l.all isW = false) : ofA l = (⟨0, 0⟩, false) := by unfold ofA; rw [h]; simp
theorem ofA_len {l : List Int} (h : ¬ (1 ≤ l.length ∧ l.length ≤ 40)) : ofA l = (⟨0, 0⟩, false) := by unfold ofA; rw [decide_eq_false h]; rfl
theorem nats_cast {l : List Int} (h : l.all isW = true) : (natsOf l).map (fun n : Nat => (n : Int)) = l ∧ ∀ n ∈ natsOf l, n < 65536 := by
  rw [List.all_eq_true] at h
  unfold natsOf
  constructor
  · rw [List.map_map]
    conv => rhs; rw [← List.map_id l]
    apply List.map_congr_left
    intro x hx
    have := isW_yes (h x hx)
    simp; omega
  · intro n hn
    obtain ⟨x, hx, rfl⟩ := List.mem_map.1 hn
    have := isW_yes (h x hx)
    omega
theorem ofA_yes {l : List Int} (h : l.all isW = true) (h1 : 1 ≤ l.length) (h2 : l.length ≤ 40) : ofA l = (ofK (natsOf l), true) ∧ ofI l = (((ofK (natsOf l)).v : Int), ((ofK (natsOf l)).m : Int)) := by
  have hc := nats_cast h
  constructor
  · unfold ofA
    rw [decide_eq_true (show 1 ≤ l.length ∧ l.length ≤ 40 from ⟨h1, h2⟩), h]
    simp only [Bool.and_self, if_true, Prod.mk.injEq, and_true]
    symm
    apply ofK_join hc.2
    cases l with
    | nil => simp at h1
    | cons x l => exact List.mem_cons_self
  · have := ofI_nat (natsOf l) hc.2
    rw [hc.1] at this
    exact this
theorem all_take {l : List Int} {k : Nat} {y : Int} (h : (l.take k).all isW = true) (hy : l[k]? = some y) (hw : isW y = true) : (l.take (k + 1)).all isW = true := by
  rw [take_next l k y hy, List.all_append, h]; simp [hw]
theorem all_not {l : List Int} {k : Nat} {y : Int} (hy : l[k]? = some y) (hw : isW y = false) : l.all isW = false := by
  rw [List.all_eq_false]
  exact ⟨y, List.mem_of_getElem? hy, by simp [hw]⟩

set_option maxRecDepth 100000 in
set_option maxHeartbeats 4000000 in
theorem meetI_any (al ah bl bh : Int) (w : World) :
    Calls Tryd.prog 24 #[.agg #[.int .i64 al, .int .i64 ah], .agg #[.int .i64 bl, .int .i64 bh]] w fun e w' => e = .returned (.tuple #[.agg #[.int .i64 (meetA al ah bl bh).1.v, .int .i64 (meetA al ah bl bh).1.m], .bool (meetA al ah bl bh).2]) ∧ Below w.heap.size w w' := by
  cases h1 : gK al ah
  · have RA := Lib.hid (ruleA_no1 (f := meetK) (bl := bl) (bh := bh) h1)
    have E := Lib.hid (meetA_no1 (c := bl) (d := bh) h1)
    clear h1
    have N0 := three_newk w (al) (ah) (bl) (bh) (0) (0)
    go_enter Tryd.func24, Tryd.ntmps24
    go_wp2_with fail
    unfold kO at N0
    generalize (((w.alloc (.cells #[.int .i64 al, .int .i64 ah] 24)).alloc (.cells #[.int .i64 bl, .int .i64 bh] 24)).alloc (.cells #[.int .i64 0, .int .i64 0] 24)) = v0 at N0 ⊢
    have D0 := Lib.hid (Below.refl v0.heap.size v0)
    have lr := N0.out.2.2.1.lt
    refine (byRule_meet _ _ _ _ _).mono ?_
    rw [RA.out]
    rintro e v1 ⟨rfl, hb⟩
    have D1 := Lib.hid (Below.tr D0.out hb)
    clear hb
    have k0 := (KB.below N0.out.1 D1.out).c0
    have m0 := (KB.below N0.out.1 D1.out).c1
    have l0 := (KB.below N0.out.1 D1.out).lt
    have k1 := (KB.below N0.out.2.1 D1.out).c0
    have m1 := (KB.below N0.out.2.1 D1.out).c1
    have l1 := (KB.below N0.out.2.1 D1.out).lt
    have k2 := (KB.below N0.out.2.2.1 D1.out).c0
    have m2 := (KB.below N0.out.2.2.1 D1.out).c1
    have f2 := (KB.below N0.out.2.2.1 D1.out).f 0
    have j2 := (KB.below N0.out.2.2.1 D1.out).f 1
    have l2 := (KB.below N0.out.2.2.1 D1.out).lt
    have z1 := D1.out.size
    go_wp2
    refine kshut1 (ok := false) (((KB.below N0.out.2.2.1 D1.out).set2).below (below1 _ _)) (Below.tr (belowK2 (Below.tr N0.out.2.2.2 D1.out) (by omega)) (below1 _ _)) ?_ ?_
    · intro c0 c1; simp [results, Tryd.results24, go_sem, c0, c1]
    · rw [E.out]; rfl
  · cases h2 : gK bl bh
    · have RA := Lib.hid (ruleA_no2 (f := meetK) (al := al) (ah := ah) h2)
      have E := Lib.hid (meetA_no2 (a := al) (b := ah) h2)
      clear h1 h2
      have N0 := three_newk w (al) (ah) (bl) (bh) (0) (0)
      go_enter Tryd.func24, Tryd.ntmps24
      go_wp2_with fail
      unfold kO at N0
      generalize (((w.alloc (.cells #[.int .i64 al, .int .i64 ah] 24)).alloc (.cells #[.int .i64 bl, .int .i64 bh] 24)).alloc (.cells #[.int .i64 0, .int .i64 0] 24)) = v0 at N0 ⊢
      have D0 := Lib.hid (Below.refl v0.heap.size v0)
      have lr := N0.out.2.2.1.lt
      refine (byRule_meet _ _ _ _ _).mono ?_
      rw [RA.out]
      rintro e v1 ⟨rfl, hb⟩
      have D1 := Lib.hid (Below.tr D0.out hb)
      clear hb
      have k0 := (KB.below N0.out.1 D1.out).c0
      have m0 := (KB.below N0.out.1 D1.out).c1
      have l0 := (KB.below N0.out.1 D1.out).lt
      have k1 := (KB.below N0.out.2.1 D1.out).c0
      have m1 := (KB.below N0.out.2.1 D1.out).c1
      have l1 := (KB.below N0.out.2.1 D1.out).lt
      have k2 := (KB.below N0.out.2.2.1 D1.out).c0
      have m2 := (KB.below N0.out.2.2.1 D1.out).c1
      have f2 := (KB.below N0.out.2.2.1 D1.out).f 0
      have j2 := (KB.below N0.out.2.2.1 D1.out).f 1
      have l2 := (KB.below N0.out.2.2.1 D1.out).lt
      have z1 := D1.out.size
      go_wp2
      refine kshut1 (ok := false) (((KB.below N0.out.2.2.1 D1.out).set2).below (below1 _ _)) (Below.tr (belowK2 (Below.tr N0.out.2.2.2 D1.out) (by omega)) (below1 _ _)) ?_ ?_
      · intro c0 c1; simp [results, Tryd.results24, go_sem, c0, c1]
      · rw [E.out]; rfl
    · obtain ⟨a, b, rfl, rfl, ga⟩ := gK_open h1
      obtain ⟨c, d, rfl, rfl, gb⟩ := gK_open h2
      obtain ⟨⟨x, y⟩, he⟩ : ∃ k, meetK ⟨a, b⟩ ⟨c, d⟩ = k := ⟨_, rfl⟩
      have bx : x < 65536 := by have := congrArg Kn.v he; simp only [meetK] at this; rw [← this]; exact or_lt16 (goodK_yes ga).1 (goodK_yes gb).1
      have RA := Lib.hid (ruleA_yes (f := meetK) ga gb)
      rw [he] at RA
      obtain ⟨p, hp⟩ : ∃ p, mayK ⟨a, b⟩ x = p := ⟨_, rfl⟩
      obtain ⟨q, hq⟩ : ∃ q, mayK ⟨c, d⟩ x = q := ⟨_, rfl⟩
      have E := Lib.hid (meetA_yes ga gb he hp hq)
      have M1 := Lib.hid ((may_int (v := a) (goodK_yes ga).2.1 bx).trans hp)
      have M2 := Lib.hid ((may_int (v := c) (goodK_yes gb).2.1 bx).trans hq)
      clear h1 h2 ga gb he hp hq bx
      have N0 := three_newk w (a) (b) (c) (d) (0) (0)
      go_enter Tryd.func24, Tryd.ntmps24
      go_wp2_with fail
      unfold kO at N0
      generalize (((w.alloc (.cells #[.int .i64 a, .int .i64 b] 24)).alloc (.cells #[.int .i64 c, .int .i64 d] 24)).alloc (.cells #[.int .i64 0, .int .i64 0] 24)) = v0 at N0 ⊢
      have D0 := Lib.hid (Below.refl v0.heap.size v0)
      have lr := N0.out.2.2.1.lt
      refine (byRule_meet _ _ _ _ _).mono ?_
      rw [RA.out]
      rintro e v1 ⟨rfl, hb⟩
      have D1 := Lib.hid (Below.tr D0.out hb)
      clear hb
      have k0 := (KB.below N0.out.1 D1.out).c0
      have m0 := (KB.below N0.out.1 D1.out).c1
      have l0 := (KB.below N0.out.1 D1.out).lt
      have k1 := (KB.below N0.out.2.1 D1.out).c0
      have m1 := (KB.below N0.out.2.1 D1.out).c1
      have l1 := (KB.below N0.out.2.1 D1.out).lt
      have k2 := (KB.below N0.out.2.2.1 D1.out).c0
      have m2 := (KB.below N0.out.2.2.1 D1.out).c1
      have f2 := (KB.below N0.out.2.2.1 D1.out).f 0
      have j2 := (KB.below N0.out.2.2.1 D1.out).f 1
      have l2 := (KB.below N0.out.2.2.1 D1.out).lt
      go_wp2_with fail
      have NB := one_newk v1 x y
      unfold kO at NB
      have D1a := Lib.hid (Below.tr D1.out NB.out.2)
      have FM := Lib.hid NB.out.1
      have z1 := D1.out.size
      obtain ⟨gm, hgm⟩ : ∃ q, v1.heap.size = q := ⟨_, rfl⟩
      rw [hgm] at FM ⊢
      have hgm2 : w.heap.size + 1 + 1 < gm := by omega
      clear NB
      generalize (v1.alloc (.cells #[.int .i64 x, .int .i64 y] 24)) = u1 at FM D1a ⊢
      refine (matches_any _ _ _ _ _ M1.out).mono ?_
      rintro e u2 ⟨rfl, hb⟩
      have D2a := Lib.hid (Below.tr D1a.out hb)
      have FM := Lib.hid (KB.below FM.out hb)
      clear hb
      have k0 := (KB.below N0.out.1 D2a.out).c0
      have m0 := (KB.below N0.out.1 D2a.out).c1
      have k1 := (KB.below N0.out.2.1 D2a.out).c0
      have m1 := (KB.below N0.out.2.1 D2a.out).c1
      have k2 := (KB.below N0.out.2.2.1 D2a.out).c0
      have m2 := (KB.below N0.out.2.2.1 D2a.out).c1
      have f2 := (KB.below N0.out.2.2.1 D2a.out).f 0
      have j2 := (KB.below N0.out.2.2.1 D2a.out).f 1
      have m8 := FM.out.c0
      have m9 := FM.out.c1
      cases p
      · skip
        go_wp2
        refine kshut1 (ok := false) ((KB.below N0.out.2.2.1 D2a.out).set2) (belowK2 (Below.tr N0.out.2.2.2 D2a.out) (by omega)) ?_ ?_
        · intro c0 c1; simp [results, Tryd.results24, go_sem, c0, c1]
        · rw [E.out]; rfl
      · go_wp2_with fail
        refine (matches_any _ _ _ _ _ M2.out).mono ?_
        rintro e u3 ⟨rfl, hb⟩
        have D3a := Lib.hid (Below.tr D2a.out hb)
        have FM := Lib.hid (KB.below FM.out hb)
        clear hb
        have k0 := (KB.below N0.out.1 D3a.out).c0
        have m0 := (KB.below N0.out.1 D3a.out).c1
        have k1 := (KB.below N0.out.2.1 D3a.out).c0
        have m1 := (KB.below N0.out.2.1 D3a.out).c1
        have k2 := (KB.below N0.out.2.2.1 D3a.out).c0
        have m2 := (KB.below N0.out.2.2.1 D3a.out).c1
        have f2 := (KB.below N0.out.2.2.1 D3a.out).f 0
        have j2 := (KB.below N0.out.2.2.1 D3a.out).f 1
        have m8 := FM.out.c0
        have m9 := FM.out.c1
        cases q
        · skip
          go_wp2
          refine kshut1 (ok := false) ((KB.below N0.out.2.2.1 D3a.out).set2) (belowK2 (Below.tr N0.out.2.2.2 D3a.out) (by omega)) ?_ ?_
          · intro c0 c1; simp [results, Tryd.results24, go_sem, c0, c1]
          · rw [E.out]; rfl
        · skip
          go_wp2
          refine kshut1 (ok := true) ((KB.below N0.out.2.2.1 D3a.out).set2) (belowK2 (Below.tr N0.out.2.2.2 D3a.out) (by omega)) ?_ ?_
          · intro c0 c1; simp [results, Tryd.results24, go_sem, c0, c1]
          · rw [E.out]; rfl

set_option maxRecDepth 100000 in
set_option maxHeartbeats 4000000 in
theorem ofI_any (A : Option Addr) (n cap : Nat) (l : List Int) (w : World) (hl : Hid (ILies w A l)) (HX : Hid (l.length = n)) (hn : n ≤ 9223372036854775807) :
    Calls Tryd.prog 29 #[.slice A n cap] w fun e w' => e = .returned (.tuple #[.agg #[.int .i64 (ofA l).1.v, .int .i64 (ofA l).1.m], .bool (ofA l).2]) ∧ Below w.heap.size w w' := by
  by_cases h0 : 1 ≤ n ∧ n ≤ 40
  · obtain ⟨h1, h2⟩ := h0
    have N0 := one_newk w 0 0
    go_enter Tryd.func29, Tryd.ntmps29
    go_wp2_with fail
    unfold kO at N0
    have L0 : Hid (ILies (w.alloc (.cells #[.int .i64 0, .int .i64 0] 24)) A l) := Lib.hid (hl.out.below (below1 _ _))
    have lr := N0.out.1.lt
    have k0 := N0.out.1.c0
    have m0 := N0.out.1.c1
    have f0 := N0.out.1.f 0
    have j0 := N0.out.1.f 1
    generalize (w.alloc (.cells #[.int .i64 0, .int .i64 0] 24)) = v0 at N0 L0 lr k0 m0 f0 j0 ⊢
    go_loop [5, 17] (fun x i => ∃ k : Nat, k ≤ n ∧ i = .int .i64 k ∧ (l.take k).all isW = true ∧ (x = x ∧ True)) (fun _ i => n - (intOf i).toNat)
    case atStart => exact ⟨0, Nat.zero_le _, rfl, by simp, by simp⟩
    case round =>
      obtain ⟨k, hk, rfl, hall, -⟩ := hrel
      have HA := Lib.hid hall
      clear hall
      by_cases hlt : k < n
      · obtain ⟨y, hy⟩ : ∃ y, l[k]? = some y := ⟨_, List.getElem?_eq_getElem (by have := HX.out; omega)⟩
        obtain ⟨b, off, rfl, hbl, hc⟩ := L0.out k y hy
        have HY := Lib.hid hy
        clear hy
        cases hw : isW y
        · have HW := Lib.hid hw
          have E := Lib.hid (ofA_no (all_not HY.out hw))
          clear hw
          go_wp2_with (go_at_call 40; refine (isWord_any _ _ false HW.out).mono ?_; rintro e w' ⟨rfl, rfl⟩)
          refine kshut1 (ok := false) (KB.set2 N0.out.1) (belowK2 N0.out.2 (by omega)) ?_ (by rw [E.out]; rfl)
          intro c0 c1; simp [results, Tryd.results29, go_sem, c0, c1]
        · have HW := Lib.hid hw
          have HN := Lib.hid (all_take HA.out HY.out hw)
          clear hw
          go_wp2_with (go_at_call 40; refine (isWord_any _ _ true HW.out).mono ?_; rintro e w' ⟨rfl, rfl⟩)
          go_round
          case rel => exact ⟨k + 1, by omega, by go_num, HN.out, by simp⟩
          case measure => simp [intOf]; omega
      · obtain rfl : k = n := by omega
        have hall : l.all isW = true := by
          have := HA.out
          rwa [List.take_of_length_le (by have := HX.out; omega)] at this
        obtain ⟨e1, e2⟩ := ofA_yes hall (by rw [HX.out]; omega) (by rw [HX.out]; omega)
        have E1 := Lib.hid e1
        have E2 := Lib.hid e2
        clear e1 e2 hall
        go_wp2_with fail
        refine (knownOf_any A k cap l _ L0 HX (by omega)).mono ?_
        rintro e v1 ⟨rfl, hb⟩
        have k0 := (KB.below N0.out.1 hb).c0
        have m0 := (KB.below N0.out.1 hb).c1
        have f0 := (KB.below N0.out.1 hb).f 0
        have j0 := (KB.below N0.out.1 hb).f 1
        have D1 := Lib.hid hb
        clear hb
        go_wp2
        refine kshut1 (ok := true) (KB.set2 (KB.below N0.out.1 D1.out)) (belowK2 (Below.tr N0.out.2 D1.out) (by omega)) ?_ (by rw [E1.out, E2.out])
        intro c0 c1; simp [results, Tryd.results29, go_sem, c0, c1]
  · have E := Lib.hid (ofA_len (l := l) (by rw [HX.out]; exact h0))
    have h0' : n < 1 ∨ 40 < n := by omega
    clear h0
    have N1 := one_newk w 0 0
    unfold kO at N1
    rcases h0' with h1 | h1
    all_goals
      go_enter Tryd.func29, Tryd.ntmps29
      go_wp2
      refine kshut1 (ok := false) N1.out.1 N1.out.2 ?_ (by rw [E.out]; rfl)
      intro c0 c1; simp [results, Tryd.results29, go_sem, c0, c1]

end Go.Proofs.YtmfganodnlnjcaaDoor.Op
