/-
  Contracts of chapter 10: the model's joins, meets and KnownOf.
-/
import Derived.Test.YtmfganodnlnjcaaDoorKn4
namespace Go.Proofs.YtmfganodnlnjcaaDoor.Op
open Go.Proofs.YtmfganodnlnjcaaDoor
open Go.ChangeShapes Go.WideShapes Go.ChangeAt Go.RowKit

theorem sjoin_int {a b c d : Nat} (ha : a < 65536) (hb : b < 65536) (hc : c < 65536) (hd : d < 65536) :
    bits .or .i64 (bits .or .i64 (b : Int) (d : Int)) (bits .xor .i64 (a : Int) (c : Int)) = ((joinK ⟨a, b⟩ ⟨c, d⟩).m : Int) ∧ bits .andNot .i64 (a : Int) (((joinK ⟨a, b⟩ ⟨c, d⟩).m : Nat) : Int) = ((joinK ⟨a, b⟩ ⟨c, d⟩).v : Int) := by
  rw [or_int hb hd, xor_int ha hc, or_int (or_lt16 hb hd) (xor_lt16 ha hc)]
  refine ⟨rfl, ?_⟩
  rw [show (joinK ⟨a, b⟩ ⟨c, d⟩).m = (b ||| d) ||| (a ^^^ c) from rfl, not_int ha (or_lt16 (or_lt16 hb hd) (xor_lt16 ha hc))]
  rfl
theorem joinK_lt {a b c d : Nat} (ha : a < 65536) (hb : b < 65536) (hc : c < 65536) (hd : d < 65536) : (joinK ⟨a, b⟩ ⟨c, d⟩).v < 65536 ∧ (joinK ⟨a, b⟩ ⟨c, d⟩).m < 65536 :=
  ⟨xor_lt16 ha (and_lt16 ha), or_lt16 (or_lt16 hb hd) (xor_lt16 ha hc)⟩
theorem met_int {a b c d : Nat} (g : goodK ⟨a, b⟩ = true) (g' : goodK ⟨c, d⟩ = true) :
    (bits .andNot .i64 (bits .xor .i64 (a : Int) (c : Int)) (bits .or .i64 (b : Int) (d : Int)) != 0) = !metK ⟨a, b⟩ ⟨c, d⟩ := by
  have h1 := goodK_yes g; have h2 := goodK_yes g'
  simp only at h1 h2
  rw [xor_int h1.1 h2.1, or_int h1.2.1 h2.2.1, not_int (xor_lt16 h1.1 h2.1) (or_lt16 h1.2.1 h2.2.1)]
  unfold metK
  rw [bne, Bool.not_inj_iff, Bool.eq_iff_iff, beq_iff_eq, decide_eq_true_eq]
  simp only
  omega
def metA2 (a b : Kn) : Kn × Bool := if metK a b then (meetK a b, true) else (⟨0, 0⟩, false)
def allIn (lo hi : Int) (l : List Int) : Bool := l.all (fun x => decide (lo ≤ x ∧ x ≤ hi))
theorem allIn_words (l : List Int) : allIn 0 65535 l = l.all isW := by
  unfold allIn
  congr 1
  funext x
  unfold isW
  rw [decide_eq_decide]; omega
set_option maxRecDepth 100000 in
set_option maxHeartbeats 1000000 in
theorem l1AllK_any (A : Option Addr) (n cap : Nat) (l : List Int) (lo hi : Int) (w : World) (hl : Hid (ILies w A l)) (HX : Hid (l.length = n)) (hn : n ≤ 1000000) (b : Bool) (hb : Hid (allIn lo hi l = b)) :
    Calls Tryd.prog 60 #[.slice A n cap, .int .i64 lo, .int .i64 hi] w fun e w' => e = .returned (.bool b) ∧ w = w' := by
  go_enter Tryd.func60, Tryd.ntmps60
  go_wp2_with fail
  go_loop [8, 11] (fun x i => ∃ k : Nat, k ≤ n ∧ i = .int .i64 k ∧ allIn lo hi (l.take k) = true ∧ (x = x ∧ True)) (fun _ i => n - (intOf i).toNat)
  case atStart => exact ⟨0, Nat.zero_le _, rfl, by simp [allIn], by simp⟩
  case round =>
    obtain ⟨k, hk, rfl, hall, -⟩ := hrel
    have HA := Lib.hid hall
    clear hall
    by_cases hlt : k < n
    · obtain ⟨y, hy⟩ : ∃ y, l[k]? = some y := ⟨_, List.getElem?_eq_getElem (by have := HX.out; omega)⟩
      obtain ⟨bb, off, rfl, hbl, hc⟩ := hl.out k y hy
      have HY := Lib.hid hy
      clear hy
      cases hw : decide (lo ≤ y ∧ y ≤ hi)
      · have HW := Lib.hid hw
        have E : Hid (b = false) := Lib.hid (by
          rw [← hb.out]; unfold allIn
          rw [List.all_eq_false]
          exact ⟨y, List.mem_of_getElem? HY.out, by rw [hw]; decide⟩)
        clear hw
        go_wp2_with (go_at_call 38; refine (l1In_any _ _ _ _ false HW.out).mono ?_; rintro e w' ⟨rfl, rfl⟩)
        go_ret
        exact ⟨ret_bool E.out.symm, rfl⟩
      · have HW := Lib.hid hw
        have HN : Hid (allIn lo hi (l.take (k + 1)) = true) := Lib.hid (by
          have := HA.out
          unfold allIn at this ⊢
          rw [take_next l k y HY.out, List.all_append, this]
          simp only [List.all_cons, List.all_nil, Bool.and_true, Bool.true_and]
          exact hw)
        clear hw
        go_wp2_with (go_at_call 38; refine (l1In_any _ _ _ _ true HW.out).mono ?_; rintro e w' ⟨rfl, rfl⟩)
        go_round
        case rel => exact ⟨k + 1, by omega, by go_num, HN.out, by simp⟩
        case measure => simp [intOf]; omega
    · obtain rfl : k = n := by omega
      have E : Hid (b = true) := Lib.hid (by
        rw [← hb.out]
        have := HA.out
        rwa [List.take_of_length_le (by have := HX.out; omega)] at this)
      go_wp2
      go_ret
      exact ⟨ret_bool E.out.symm, rfl⟩

set_option maxRecDepth 100000 in
set_option maxHeartbeats 2000000 in
theorem l10Join_any (al ah bl bh : Nat) (w : World) (h1 : al < 65536) (h2 : ah < 65536) (h3 : bl < 65536) (h4 : bh < 65536) :
    Calls Tryd.prog 58 #[.agg #[.int .i64 al, .int .i64 ah], .agg #[.int .i64 bl, .int .i64 bh]] w fun e w' => e = .returned (.agg #[.int .i64 (joinK ⟨al, ah⟩ ⟨bl, bh⟩).v, .int .i64 (joinK ⟨al, ah⟩ ⟨bl, bh⟩).m]) ∧ Below w.heap.size w w' := by
  obtain ⟨e1, e2⟩ := sjoin_int h1 h2 h3 h4
  have E1 := Lib.hid e1
  have E2 := Lib.hid e2
  clear e1 e2 h1 h2 h3 h4
  obtain ⟨m, hm⟩ : ∃ m, bits .or .i64 (bits .or .i64 (ah : Int) (bh : Int)) (bits .xor .i64 (al : Int) (bl : Int)) = m := ⟨_, rfl⟩
  have HM := Lib.hid hm
  clear hm
  go_enter Tryd.func58, Tryd.ntmps58
  go_wp2
  rw [HM.out]
  have N1 := three_newk w al ah bl bh (bits .andNot .i64 (al : Int) m) (m)
  unfold kO at N1
  refine kshut0 N1.out.2.2.1 N1.out.2.2.2 ?_ (by rw [← HM.out, E1.out, E2.out])
  intro c0 c1; simp [results, Tryd.results58, go_sem, c0, c1]

set_option maxRecDepth 100000 in
set_option maxHeartbeats 4000000 in
theorem joinM_any (al ah bl bh : Int) (w : World) :
    Calls Tryd.prog 26 #[.agg #[.int .i64 al, .int .i64 ah], .agg #[.int .i64 bl, .int .i64 bh]] w fun e w' => e = .returned (.tuple #[.agg #[.int .i64 (joinA al ah bl bh).1.v, .int .i64 (joinA al ah bl bh).1.m], .bool (joinA al ah bl bh).2]) ∧ Below w.heap.size w w' := by
  cases h1 : gK al ah
  · have E : Hid (joinA al ah bl bh = (⟨0, 0⟩, false)) := Lib.hid (ruleA_no1 (f := joinK) h1)
    have G1 := Lib.hid h1
    clear h1
    have N0 := three_newk w (al) (ah) (bl) (bh) (0) (0)
    go_enter Tryd.func26, Tryd.ntmps26
    go_wp2_with fail
    unfold kO at N0
    generalize (((w.alloc (.cells #[.int .i64 al, .int .i64 ah] 24)).alloc (.cells #[.int .i64 bl, .int .i64 bh] 24)).alloc (.cells #[.int .i64 0, .int .i64 0] 24)) = v0 at N0 ⊢
    have D0 := Lib.hid (Below.refl v0.heap.size v0)
    have lr := N0.out.2.2.1.lt
    refine (goodKM_any _ _ _).mono ?_
    rw [G1.out]
    rintro e v1 ⟨rfl, hb⟩
    have D1 := Lib.hid (Below.tr D0.out hb)
    clear hb
    have k0 := (KB.below N0.out.1 D1.out).c0
    have m0 := (KB.below N0.out.1 D1.out).c1
    have k1 := (KB.below N0.out.2.1 D1.out).c0
    have m1 := (KB.below N0.out.2.1 D1.out).c1
    have k2 := (KB.below N0.out.2.2.1 D1.out).c0
    have m2 := (KB.below N0.out.2.2.1 D1.out).c1
    have f2 := (KB.below N0.out.2.2.1 D1.out).f 0
    have j2 := (KB.below N0.out.2.2.1 D1.out).f 1
    go_wp2
    refine kshut1 (ok := false) ((KB.below N0.out.2.2.1 D1.out).set2) (belowK2 (Below.tr N0.out.2.2.2 D1.out) (by omega)) ?_ ?_
    · intro c0 c1; simp [results, Tryd.results26, go_sem, c0, c1]
    · rw [E.out]; rfl
  · cases h2 : gK bl bh
    · have E : Hid (joinA al ah bl bh = (⟨0, 0⟩, false)) := Lib.hid (ruleA_no2 (f := joinK) h2)
      have G1 := Lib.hid h1
      have G2 := Lib.hid h2
      clear h1 h2
      have N0 := three_newk w (al) (ah) (bl) (bh) (0) (0)
      go_enter Tryd.func26, Tryd.ntmps26
      go_wp2_with fail
      unfold kO at N0
      generalize (((w.alloc (.cells #[.int .i64 al, .int .i64 ah] 24)).alloc (.cells #[.int .i64 bl, .int .i64 bh] 24)).alloc (.cells #[.int .i64 0, .int .i64 0] 24)) = v0 at N0 ⊢
      have D0 := Lib.hid (Below.refl v0.heap.size v0)
      have lr := N0.out.2.2.1.lt
      refine (goodKM_any _ _ _).mono ?_
      rw [G1.out]
      rintro e v1 ⟨rfl, hb⟩
      have D1 := Lib.hid (Below.tr D0.out hb)
      clear hb
      have k0 := (KB.below N0.out.1 D1.out).c0
      have m0 := (KB.below N0.out.1 D1.out).c1
      have k1 := (KB.below N0.out.2.1 D1.out).c0
      have m1 := (KB.below N0.out.2.1 D1.out).c1
      have k2 := (KB.below N0.out.2.2.1 D1.out).c0
      have m2 := (KB.below N0.out.2.2.1 D1.out).c1
      have f2 := (KB.below N0.out.2.2.1 D1.out).f 0
      have j2 := (KB.below N0.out.2.2.1 D1.out).f 1
      go_wp2_with fail
      refine (goodKM_any _ _ _).mono ?_
      rw [G2.out]
      rintro e v2 ⟨rfl, hb⟩
      have D2 := Lib.hid (Below.tr D1.out hb)
      clear hb
      have k0 := (KB.below N0.out.1 D2.out).c0
      have m0 := (KB.below N0.out.1 D2.out).c1
      have k1 := (KB.below N0.out.2.1 D2.out).c0
      have m1 := (KB.below N0.out.2.1 D2.out).c1
      have k2 := (KB.below N0.out.2.2.1 D2.out).c0
      have m2 := (KB.below N0.out.2.2.1 D2.out).c1
      have f2 := (KB.below N0.out.2.2.1 D2.out).f 0
      have j2 := (KB.below N0.out.2.2.1 D2.out).f 1
      go_wp2
      refine kshut1 (ok := false) ((KB.below N0.out.2.2.1 D2.out).set2) (belowK2 (Below.tr N0.out.2.2.2 D2.out) (by omega)) ?_ ?_
      · intro c0 c1; simp [results, Tryd.results26, go_sem, c0, c1]
      · rw [E.out]; rfl
    · obtain ⟨a, b, rfl, rfl, ga⟩ := gK_open h1
      obtain ⟨c, d, rfl, rfl, gb⟩ := gK_open h2
      have G1 := Lib.hid h1
      have G2 := Lib.hid h2
      have GA := Lib.hid ga
      have GB := Lib.hid gb
      clear h1 h2 ga gb
      have E : Hid (joinA a b c d = (joinK ⟨a, b⟩ ⟨c, d⟩, true)) := Lib.hid (ruleA_yes (f := joinK) GA.out GB.out)
      have N0 := three_newk w (a) (b) (c) (d) (0) (0)
      go_enter Tryd.func26, Tryd.ntmps26
      go_wp2_with fail
      unfold kO at N0
      generalize (((w.alloc (.cells #[.int .i64 a, .int .i64 b] 24)).alloc (.cells #[.int .i64 c, .int .i64 d] 24)).alloc (.cells #[.int .i64 0, .int .i64 0] 24)) = v0 at N0 ⊢
      have D0 := Lib.hid (Below.refl v0.heap.size v0)
      have lr := N0.out.2.2.1.lt
      refine (goodKM_any _ _ _).mono ?_
      rw [G1.out]
      rintro e v1 ⟨rfl, hb⟩
      have D1 := Lib.hid (Below.tr D0.out hb)
      clear hb
      have k0 := (KB.below N0.out.1 D1.out).c0
      have m0 := (KB.below N0.out.1 D1.out).c1
      have k1 := (KB.below N0.out.2.1 D1.out).c0
      have m1 := (KB.below N0.out.2.1 D1.out).c1
      have k2 := (KB.below N0.out.2.2.1 D1.out).c0
      have m2 := (KB.below N0.out.2.2.1 D1.out).c1
      have f2 := (KB.below N0.out.2.2.1 D1.out).f 0
      have j2 := (KB.below N0.out.2.2.1 D1.out).f 1
      go_wp2_with fail
      refine (goodKM_any _ _ _).mono ?_
      rw [G2.out]
      rintro e v2 ⟨rfl, hb⟩
      have D2 := Lib.hid (Below.tr D1.out hb)
      clear hb
      have k0 := (KB.below N0.out.1 D2.out).c0
      have m0 := (KB.below N0.out.1 D2.out).c1
      have k1 := (KB.below N0.out.2.1 D2.out).c0
      have m1 := (KB.below N0.out.2.1 D2.out).c1
      have k2 := (KB.below N0.out.2.2.1 D2.out).c0
      have m2 := (KB.below N0.out.2.2.1 D2.out).c1
      have f2 := (KB.below N0.out.2.2.1 D2.out).f 0
      have j2 := (KB.below N0.out.2.2.1 D2.out).f 1
      go_wp2_with fail
      refine (l10Join_any _ _ _ _ _ (goodK_yes GA.out).1 (goodK_yes GA.out).2.1 (goodK_yes GB.out).1 (goodK_yes GB.out).2.1).mono ?_
      rintro e v3 ⟨rfl, hb⟩
      have D3 := Lib.hid (Below.tr D2.out hb)
      clear hb
      have k2 := (KB.below N0.out.2.2.1 D3.out).c0
      have m2 := (KB.below N0.out.2.2.1 D3.out).c1
      have f2 := (KB.below N0.out.2.2.1 D3.out).f 0
      have j2 := (KB.below N0.out.2.2.1 D3.out).f 1
      go_wp2
      refine kshut1 (ok := true) ((KB.below N0.out.2.2.1 D3.out).set2) (belowK2 (Below.tr N0.out.2.2.2 D3.out) (by omega)) ?_ ?_
      · intro c0 c1; simp [results, Tryd.results26, go_sem, c0, c1]
      · rw [E.out]

set_option maxRecDepth 100000 in
set_option maxHeartbeats 4000000 in
theorem l10Meet_any (al ah bl bh : Nat) (w : World) (ga : Hid (goodK ⟨al, ah⟩ = true)) (gb : Hid (goodK ⟨bl, bh⟩ = true)) :
    Calls Tryd.prog 57 #[.agg #[.int .i64 al, .int .i64 ah], .agg #[.int .i64 bl, .int .i64 bh]] w fun e w' => e = .returned (.tuple #[.agg #[.int .i64 (metA2 ⟨al, ah⟩ ⟨bl, bh⟩).1.v, .int .i64 (metA2 ⟨al, ah⟩ ⟨bl, bh⟩).1.m], .bool (metA2 ⟨al, ah⟩ ⟨bl, bh⟩).2]) ∧ Below w.heap.size w w' := by
  cases hm : metK ⟨al, ah⟩ ⟨bl, bh⟩
  · have HM := met_int ga.out gb.out
    rw [hm] at HM
    simp only [Bool.not_false] at HM
    have E : Hid (metA2 ⟨al, ah⟩ ⟨bl, bh⟩ = (⟨0, 0⟩, false)) := Lib.hid (by unfold metA2; rw [hm]; rfl)
    clear hm
    go_enter Tryd.func57, Tryd.ntmps57
    go_wp2
    have N1 := three_newk w al ah bl bh (0) (0)
    unfold kO at N1
    refine kshut1 (ok := false) N1.out.2.2.1 N1.out.2.2.2 ?_ (by rw [E.out]; rfl)
    intro c0 c1; simp [results, Tryd.results57, go_sem, c0, c1]
  · have HM := met_int ga.out gb.out
    rw [hm] at HM
    simp only [Bool.not_true] at HM
    have E : Hid (metA2 ⟨al, ah⟩ ⟨bl, bh⟩ = (meetK ⟨al, ah⟩ ⟨bl, bh⟩, true)) := Lib.hid (by unfold metA2; rw [hm]; rfl)
    clear hm
    obtain ⟨e1, e2⟩ := Prod.mk.inj (meet_int ga.out gb.out)
    have E1 := Lib.hid e1
    have E2 := Lib.hid e2
    clear e1 e2
    go_enter Tryd.func57, Tryd.ntmps57
    go_wp2
    have N1 := three_newk w al ah bl bh (bits .or .i64 (al : Int) (bl : Int)) (bits .and .i64 (ah : Int) (bh : Int))
    unfold kO at N1
    refine kshut1 (ok := true) N1.out.2.2.1 N1.out.2.2.2 ?_ (by rw [E.out, E1.out, E2.out])
    intro c0 c1; simp [results, Tryd.results57, go_sem, c0, c1]

set_option maxRecDepth 100000 in
set_option maxHeartbeats 4000000 in
theorem meetM_any (al ah bl bh : Int) (w : World) :
    Calls Tryd.prog 25 #[.agg #[.int .i64 al, .int .i64 ah], .agg #[.int .i64 bl, .int .i64 bh]] w fun e w' => e = .returned (.tuple #[.agg #[.int .i64 (meetA al ah bl bh).1.v, .int .i64 (meetA al ah bl bh).1.m], .bool (meetA al ah bl bh).2]) ∧ Below w.heap.size w w' := by
  cases h1 : gK al ah
  · have E : Hid (meetA al ah bl bh = (⟨0, 0⟩, false)) := Lib.hid (by unfold meetA; rw [h1]; rfl)
    have G1 := Lib.hid h1
    clear h1
    have N0 := three_newk w (al) (ah) (bl) (bh) (0) (0)
    go_enter Tryd.func25, Tryd.ntmps25
    go_wp2_with fail
    unfold kO at N0
    generalize (((w.alloc (.cells #[.int .i64 al, .int .i64 ah] 24)).alloc (.cells #[.int .i64 bl, .int .i64 bh] 24)).alloc (.cells #[.int .i64 0, .int .i64 0] 24)) = v0 at N0 ⊢
    have D0 := Lib.hid (Below.refl v0.heap.size v0)
    have lr := N0.out.2.2.1.lt
    refine (goodKM_any _ _ _).mono ?_
    rw [G1.out]
    rintro e v1 ⟨rfl, hb⟩
    have D1 := Lib.hid (Below.tr D0.out hb)
    clear hb
    have k0 := (KB.below N0.out.1 D1.out).c0
    have m0 := (KB.below N0.out.1 D1.out).c1
    have k1 := (KB.below N0.out.2.1 D1.out).c0
    have m1 := (KB.below N0.out.2.1 D1.out).c1
    have k2 := (KB.below N0.out.2.2.1 D1.out).c0
    have m2 := (KB.below N0.out.2.2.1 D1.out).c1
    have f2 := (KB.below N0.out.2.2.1 D1.out).f 0
    have j2 := (KB.below N0.out.2.2.1 D1.out).f 1
    go_wp2
    refine kshut1 (ok := false) ((KB.below N0.out.2.2.1 D1.out).set2) (belowK2 (Below.tr N0.out.2.2.2 D1.out) (by omega)) ?_ ?_
    · intro c0 c1; simp [results, Tryd.results25, go_sem, c0, c1]
    · rw [E.out]; rfl
  · cases h2 : gK bl bh
    · have E : Hid (meetA al ah bl bh = (⟨0, 0⟩, false)) := Lib.hid (by unfold meetA; rw [h2]; simp)
      have G1 := Lib.hid h1
      have G2 := Lib.hid h2
      clear h1 h2
      have N0 := three_newk w (al) (ah) (bl) (bh) (0) (0)
      go_enter Tryd.func25, Tryd.ntmps25
      go_wp2_with fail
      unfold kO at N0
      generalize (((w.alloc (.cells #[.int .i64 al, .int .i64 ah] 24)).alloc (.cells #[.int .i64 bl, .int .i64 bh] 24)).alloc (.cells #[.int .i64 0, .int .i64 0] 24)) = v0 at N0 ⊢
      have D0 := Lib.hid (Below.refl v0.heap.size v0)
      have lr := N0.out.2.2.1.lt
      refine (goodKM_any _ _ _).mono ?_
      rw [G1.out]
      rintro e v1 ⟨rfl, hb⟩
      have D1 := Lib.hid (Below.tr D0.out hb)
      clear hb
      have k0 := (KB.below N0.out.1 D1.out).c0
      have m0 := (KB.below N0.out.1 D1.out).c1
      have k1 := (KB.below N0.out.2.1 D1.out).c0
      have m1 := (KB.below N0.out.2.1 D1.out).c1
      have k2 := (KB.below N0.out.2.2.1 D1.out).c0
      have m2 := (KB.below N0.out.2.2.1 D1.out).c1
      have f2 := (KB.below N0.out.2.2.1 D1.out).f 0
      have j2 := (KB.below N0.out.2.2.1 D1.out).f 1
      go_wp2_with fail
      refine (goodKM_any _ _ _).mono ?_
      rw [G2.out]
      rintro e v2 ⟨rfl, hb⟩
      have D2 := Lib.hid (Below.tr D1.out hb)
      clear hb
      have k0 := (KB.below N0.out.1 D2.out).c0
      have m0 := (KB.below N0.out.1 D2.out).c1
      have k1 := (KB.below N0.out.2.1 D2.out).c0
      have m1 := (KB.below N0.out.2.1 D2.out).c1
      have k2 := (KB.below N0.out.2.2.1 D2.out).c0
      have m2 := (KB.below N0.out.2.2.1 D2.out).c1
      have f2 := (KB.below N0.out.2.2.1 D2.out).f 0
      have j2 := (KB.below N0.out.2.2.1 D2.out).f 1
      go_wp2
      refine kshut1 (ok := false) ((KB.below N0.out.2.2.1 D2.out).set2) (belowK2 (Below.tr N0.out.2.2.2 D2.out) (by omega)) ?_ ?_
      · intro c0 c1; simp [results, Tryd.results25, go_sem, c0, c1]
      · rw [E.out]; rfl
    · obtain ⟨a, b, rfl, rfl, ga⟩ := gK_open h1
      obtain ⟨c, d, rfl, rfl, gb⟩ := gK_open h2
      have G1 := Lib.hid h1
      have G2 := Lib.hid h2
      have GA := Lib.hid ga
      have GB := Lib.hid gb
      clear h1 h2 ga gb
      obtain ⟨Q, hQ⟩ : ∃ q, metA2 ⟨a, b⟩ ⟨c, d⟩ = q := ⟨_, rfl⟩
      obtain ⟨⟨x, y⟩, ok⟩ := Q
      have HQ := Lib.hid hQ
      have E : Hid (meetA a b c d = (⟨x, y⟩, ok)) := Lib.hid (by rw [← hQ]; unfold meetA metA2; rw [gK_nat, gK_nat, GA.out, GB.out, kn_nat, kn_nat]; rfl)
      clear hQ
      have N0 := three_newk w (a) (b) (c) (d) (0) (0)
      go_enter Tryd.func25, Tryd.ntmps25
      go_wp2_with fail
      unfold kO at N0
      generalize (((w.alloc (.cells #[.int .i64 a, .int .i64 b] 24)).alloc (.cells #[.int .i64 c, .int .i64 d] 24)).alloc (.cells #[.int .i64 0, .int .i64 0] 24)) = v0 at N0 ⊢
      have D0 := Lib.hid (Below.refl v0.heap.size v0)
      have lr := N0.out.2.2.1.lt
      refine (goodKM_any _ _ _).mono ?_
      rw [G1.out]
      rintro e v1 ⟨rfl, hb⟩
      have D1 := Lib.hid (Below.tr D0.out hb)
      clear hb
      have k0 := (KB.below N0.out.1 D1.out).c0
      have m0 := (KB.below N0.out.1 D1.out).c1
      have k1 := (KB.below N0.out.2.1 D1.out).c0
      have m1 := (KB.below N0.out.2.1 D1.out).c1
      have k2 := (KB.below N0.out.2.2.1 D1.out).c0
      have m2 := (KB.below N0.out.2.2.1 D1.out).c1
      have f2 := (KB.below N0.out.2.2.1 D1.out).f 0
      have j2 := (KB.below N0.out.2.2.1 D1.out).f 1
      go_wp2_with fail
      refine (goodKM_any _ _ _).mono ?_
      rw [G2.out]
      rintro e v2 ⟨rfl, hb⟩
      have D2 := Lib.hid (Below.tr D1.out hb)
      clear hb
      have k0 := (KB.below N0.out.1 D2.out).c0
      have m0 := (KB.below N0.out.1 D2.out).c1
      have k1 := (KB.below N0.out.2.1 D2.out).c0
      have m1 := (KB.below N0.out.2.1 D2.out).c1
      have k2 := (KB.below N0.out.2.2.1 D2.out).c0
      have m2 := (KB.below N0.out.2.2.1 D2.out).c1
      have f2 := (KB.below N0.out.2.2.1 D2.out).f 0
      have j2 := (KB.below N0.out.2.2.1 D2.out).f 1
      go_wp2_with fail
      refine (l10Meet_any _ _ _ _ _ GA GB).mono ?_
      rw [HQ.out]
      rintro e v3 ⟨rfl, hb⟩
      have D3 := Lib.hid (Below.tr D2.out hb)
      clear hb
      have k2 := (KB.below N0.out.2.2.1 D3.out).c0
      have m2 := (KB.below N0.out.2.2.1 D3.out).c1
      have f2 := (KB.below N0.out.2.2.1 D3.out).f 0
      have j2 := (KB.below N0.out.2.2.1 D3.out).f 1
      go_wp2
      refine kshut1 (ok := ok) ((KB.below N0.out.2.2.1 D3.out).set2) (belowK2 (Below.tr N0.out.2.2.2 D3.out) (by omega)) ?_ ?_
      · intro c0 c1; simp [results, Tryd.results25, go_sem, c0, c1]
      · rw [E.out]

end Go.Proofs.YtmfganodnlnjcaaDoor.Op
