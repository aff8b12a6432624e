/-
  Contracts of chapter 10: the rules by operation, DoKnown of the program.
-/
import Derived.Test.YtmfganodnlnjcaaDoorKn9
namespace Go.Proofs.YtmfganodnlnjcaaDoor.Op
open Go.Proofs.YtmfganodnlnjcaaDoor
open Go.ChangeShapes Go.WideShapes Go.ChangeAt Go.RowKit

set_option maxRecDepth 100000 in
set_option maxHeartbeats 4000000 in
theorem byRule_plus (al ah bl bh : Int) (w : World) :
    Calls Tryd.prog 36 #[.func (.func 61) #[] #[], .agg #[.int .i64 al, .int .i64 ah], .agg #[.int .i64 bl, .int .i64 bh]] w fun e w' => e = .returned (.tuple #[.agg #[.int .i64 (ruleA sumK al ah bl bh).1.v, .int .i64 (ruleA sumK al ah bl bh).1.m], .bool (ruleA sumK al ah bl bh).2]) ∧ Below w.heap.size w w' := by
  have qn := fun W => eql_nilF (.func 61) #[] #[] W
  cases h1 : gK al ah
  · have RA := Lib.hid (ruleA_no1 (f := sumK) (bl := bl) (bh := bh) h1)
    have G1 := Lib.hid h1
    clear h1
    have N0 := three_newk w (al) (ah) (bl) (bh) (0) (0)
    go_enter Tryd.func36, Tryd.ntmps36
    go_wp2_with fail
    unfold kO at N0
    generalize (((w.alloc (.cells #[.int .i64 al, .int .i64 ah] 24)).alloc (.cells #[.int .i64 bl, .int .i64 bh] 24)).alloc (.cells #[.int .i64 0, .int .i64 0] 24)) = v0 at N0 ⊢
    have D0 := Lib.hid (Below.refl v0.heap.size v0)
    have lr := N0.out.2.2.1.lt
    refine (goodKI_any _ _ _).mono ?_
    rw [G1.out]
    rintro e v1 ⟨rfl, hb⟩
    have D1 := Lib.hid (Below.tr D0.out hb)
    clear hb
    have k0 := (KB.below N0.out.1 D1.out).c0
    have m0 := (KB.below N0.out.1 D1.out).c1
    have k1 := (KB.below N0.out.2.1 D1.out).c0
    have m1 := (KB.below N0.out.2.1 D1.out).c1
    have k2 := (KB.below N0.out.2.2.1 D1.out).c0
    have m2 := (KB.below N0.out.2.2.1 D1.out).c1
    have f2 := (KB.below N0.out.2.2.1 D1.out).f 0
    have j2 := (KB.below N0.out.2.2.1 D1.out).f 1
    go_wp2
    refine kshut1 (ok := false) ((KB.below N0.out.2.2.1 D1.out).set2) (belowK2 (Below.tr N0.out.2.2.2 D1.out) (by omega)) ?_ ?_
    · intro c0 c1; simp [results, Tryd.results36, go_sem, c0, c1]
    · rw [RA.out]; rfl
  · cases h2 : gK bl bh
    · have RA := Lib.hid (ruleA_no2 (f := sumK) (al := al) (ah := ah) h2)
      have G1 := Lib.hid h1
      have G2 := Lib.hid h2
      clear h1 h2
      have N0 := three_newk w (al) (ah) (bl) (bh) (0) (0)
      go_enter Tryd.func36, Tryd.ntmps36
      go_wp2_with fail
      unfold kO at N0
      generalize (((w.alloc (.cells #[.int .i64 al, .int .i64 ah] 24)).alloc (.cells #[.int .i64 bl, .int .i64 bh] 24)).alloc (.cells #[.int .i64 0, .int .i64 0] 24)) = v0 at N0 ⊢
      have D0 := Lib.hid (Below.refl v0.heap.size v0)
      have lr := N0.out.2.2.1.lt
      refine (goodKI_any _ _ _).mono ?_
      rw [G1.out]
      rintro e v1 ⟨rfl, hb⟩
      have D1 := Lib.hid (Below.tr D0.out hb)
      clear hb
      have k0 := (KB.below N0.out.1 D1.out).c0
      have m0 := (KB.below N0.out.1 D1.out).c1
      have k1 := (KB.below N0.out.2.1 D1.out).c0
      have m1 := (KB.below N0.out.2.1 D1.out).c1
      have k2 := (KB.below N0.out.2.2.1 D1.out).c0
      have m2 := (KB.below N0.out.2.2.1 D1.out).c1
      have f2 := (KB.below N0.out.2.2.1 D1.out).f 0
      have j2 := (KB.below N0.out.2.2.1 D1.out).f 1
      go_wp2_with fail
      refine (goodKI_any _ _ _).mono ?_
      rw [G2.out]
      rintro e v2 ⟨rfl, hb⟩
      have D2 := Lib.hid (Below.tr D1.out hb)
      clear hb
      have k0 := (KB.below N0.out.1 D2.out).c0
      have m0 := (KB.below N0.out.1 D2.out).c1
      have k1 := (KB.below N0.out.2.1 D2.out).c0
      have m1 := (KB.below N0.out.2.1 D2.out).c1
      have k2 := (KB.below N0.out.2.2.1 D2.out).c0
      have m2 := (KB.below N0.out.2.2.1 D2.out).c1
      have f2 := (KB.below N0.out.2.2.1 D2.out).f 0
      have j2 := (KB.below N0.out.2.2.1 D2.out).f 1
      go_wp2
      refine kshut1 (ok := false) ((KB.below N0.out.2.2.1 D2.out).set2) (belowK2 (Below.tr N0.out.2.2.2 D2.out) (by omega)) ?_ ?_
      · intro c0 c1; simp [results, Tryd.results36, go_sem, c0, c1]
      · rw [RA.out]; rfl
    · obtain ⟨a, b, rfl, rfl, ga⟩ := gK_open h1
      obtain ⟨c, d, rfl, rfl, gb⟩ := gK_open h2
      have RA := Lib.hid (ruleA_yes (f := sumK) ga gb)
      have G1 := Lib.hid h1
      have G2 := Lib.hid h2
      have GA := Lib.hid ga
      have GB := Lib.hid gb
      clear h1 h2 ga gb
      have N0 := three_newk w (a) (b) (c) (d) (0) (0)
      go_enter Tryd.func36, Tryd.ntmps36
      go_wp2_with fail
      unfold kO at N0
      generalize (((w.alloc (.cells #[.int .i64 a, .int .i64 b] 24)).alloc (.cells #[.int .i64 c, .int .i64 d] 24)).alloc (.cells #[.int .i64 0, .int .i64 0] 24)) = v0 at N0 ⊢
      have D0 := Lib.hid (Below.refl v0.heap.size v0)
      have lr := N0.out.2.2.1.lt
      refine (goodKI_any _ _ _).mono ?_
      rw [G1.out]
      rintro e v1 ⟨rfl, hb⟩
      have D1 := Lib.hid (Below.tr D0.out hb)
      clear hb
      have k0 := (KB.below N0.out.1 D1.out).c0
      have m0 := (KB.below N0.out.1 D1.out).c1
      have k1 := (KB.below N0.out.2.1 D1.out).c0
      have m1 := (KB.below N0.out.2.1 D1.out).c1
      have k2 := (KB.below N0.out.2.2.1 D1.out).c0
      have m2 := (KB.below N0.out.2.2.1 D1.out).c1
      have f2 := (KB.below N0.out.2.2.1 D1.out).f 0
      have j2 := (KB.below N0.out.2.2.1 D1.out).f 1
      go_wp2_with fail
      refine (goodKI_any _ _ _).mono ?_
      rw [G2.out]
      rintro e v2 ⟨rfl, hb⟩
      have D2 := Lib.hid (Below.tr D1.out hb)
      clear hb
      have k0 := (KB.below N0.out.1 D2.out).c0
      have m0 := (KB.below N0.out.1 D2.out).c1
      have k1 := (KB.below N0.out.2.1 D2.out).c0
      have m1 := (KB.below N0.out.2.1 D2.out).c1
      have k2 := (KB.below N0.out.2.2.1 D2.out).c0
      have m2 := (KB.below N0.out.2.2.1 D2.out).c1
      have f2 := (KB.below N0.out.2.2.1 D2.out).f 0
      have j2 := (KB.below N0.out.2.2.1 D2.out).f 1
      go_wp2_with fail
      refine (plus_any _ _ _ _ _ GA GB).mono ?_
      rintro e v3 ⟨rfl, hb⟩
      have D3 := Lib.hid (Below.tr D2.out hb)
      clear hb
      have k2 := (KB.below N0.out.2.2.1 D3.out).c0
      have m2 := (KB.below N0.out.2.2.1 D3.out).c1
      have f2 := (KB.below N0.out.2.2.1 D3.out).f 0
      have j2 := (KB.below N0.out.2.2.1 D3.out).f 1
      go_wp2
      refine kshut1 (ok := true) ((KB.below N0.out.2.2.1 D3.out).set2) (belowK2 (Below.tr N0.out.2.2.2 D3.out) (by omega)) ?_ ?_
      · intro c0 c1; simp [results, Tryd.results36, go_sem, c0, c1]
      · rw [RA.out]

set_option maxRecDepth 100000 in
set_option maxHeartbeats 4000000 in
theorem byRule_minus (al ah bl bh : Int) (w : World) :
    Calls Tryd.prog 36 #[.func (.func 62) #[] #[], .agg #[.int .i64 al, .int .i64 ah], .agg #[.int .i64 bl, .int .i64 bh]] w fun e w' => e = .returned (.tuple #[.agg #[.int .i64 (ruleA difK al ah bl bh).1.v, .int .i64 (ruleA difK al ah bl bh).1.m], .bool (ruleA difK al ah bl bh).2]) ∧ Below w.heap.size w w' := by
  have qn := fun W => eql_nilF (.func 62) #[] #[] W
  cases h1 : gK al ah
  · have RA := Lib.hid (ruleA_no1 (f := difK) (bl := bl) (bh := bh) h1)
    have G1 := Lib.hid h1
    clear h1
    have N0 := three_newk w (al) (ah) (bl) (bh) (0) (0)
    go_enter Tryd.func36, Tryd.ntmps36
    go_wp2_with fail
    unfold kO at N0
    generalize (((w.alloc (.cells #[.int .i64 al, .int .i64 ah] 24)).alloc (.cells #[.int .i64 bl, .int .i64 bh] 24)).alloc (.cells #[.int .i64 0, .int .i64 0] 24)) = v0 at N0 ⊢
    have D0 := Lib.hid (Below.refl v0.heap.size v0)
    have lr := N0.out.2.2.1.lt
    refine (goodKI_any _ _ _).mono ?_
    rw [G1.out]
    rintro e v1 ⟨rfl, hb⟩
    have D1 := Lib.hid (Below.tr D0.out hb)
    clear hb
    have k0 := (KB.below N0.out.1 D1.out).c0
    have m0 := (KB.below N0.out.1 D1.out).c1
    have k1 := (KB.below N0.out.2.1 D1.out).c0
    have m1 := (KB.below N0.out.2.1 D1.out).c1
    have k2 := (KB.below N0.out.2.2.1 D1.out).c0
    have m2 := (KB.below N0.out.2.2.1 D1.out).c1
    have f2 := (KB.below N0.out.2.2.1 D1.out).f 0
    have j2 := (KB.below N0.out.2.2.1 D1.out).f 1
    go_wp2
    refine kshut1 (ok := false) ((KB.below N0.out.2.2.1 D1.out).set2) (belowK2 (Below.tr N0.out.2.2.2 D1.out) (by omega)) ?_ ?_
    · intro c0 c1; simp [results, Tryd.results36, go_sem, c0, c1]
    · rw [RA.out]; rfl
  · cases h2 : gK bl bh
    · have RA := Lib.hid (ruleA_no2 (f := difK) (al := al) (ah := ah) h2)
      have G1 := Lib.hid h1
      have G2 := Lib.hid h2
      clear h1 h2
      have N0 := three_newk w (al) (ah) (bl) (bh) (0) (0)
      go_enter Tryd.func36, Tryd.ntmps36
      go_wp2_with fail
      unfold kO at N0
      generalize (((w.alloc (.cells #[.int .i64 al, .int .i64 ah] 24)).alloc (.cells #[.int .i64 bl, .int .i64 bh] 24)).alloc (.cells #[.int .i64 0, .int .i64 0] 24)) = v0 at N0 ⊢
      have D0 := Lib.hid (Below.refl v0.heap.size v0)
      have lr := N0.out.2.2.1.lt
      refine (goodKI_any _ _ _).mono ?_
      rw [G1.out]
      rintro e v1 ⟨rfl, hb⟩
      have D1 := Lib.hid (Below.tr D0.out hb)
      clear hb
      have k0 := (KB.below N0.out.1 D1.out).c0
      have m0 := (KB.below N0.out.1 D1.out).c1
      have k1 := (KB.below N0.out.2.1 D1.out).c0
      have m1 := (KB.below N0.out.2.1 D1.out).c1
      have k2 := (KB.below N0.out.2.2.1 D1.out).c0
      have m2 := (KB.below N0.out.2.2.1 D1.out).c1
      have f2 := (KB.below N0.out.2.2.1 D1.out).f 0
      have j2 := (KB.below N0.out.2.2.1 D1.out).f 1
      go_wp2_with fail
      refine (goodKI_any _ _ _).mono ?_
      rw [G2.out]
      rintro e v2 ⟨rfl, hb⟩
      have D2 := Lib.hid (Below.tr D1.out hb)
      clear hb
      have k0 := (KB.below N0.out.1 D2.out).c0
      have m0 := (KB.below N0.out.1 D2.out).c1
      have k1 := (KB.below N0.out.2.1 D2.out).c0
      have m1 := (KB.below N0.out.2.1 D2.out).c1
      have k2 := (KB.below N0.out.2.2.1 D2.out).c0
      have m2 := (KB.below N0.out.2.2.1 D2.out).c1
      have f2 := (KB.below N0.out.2.2.1 D2.out).f 0
      have j2 := (KB.below N0.out.2.2.1 D2.out).f 1
      go_wp2
      refine kshut1 (ok := false) ((KB.below N0.out.2.2.1 D2.out).set2) (belowK2 (Below.tr N0.out.2.2.2 D2.out) (by omega)) ?_ ?_
      · intro c0 c1; simp [results, Tryd.results36, go_sem, c0, c1]
      · rw [RA.out]; rfl
    · obtain ⟨a, b, rfl, rfl, ga⟩ := gK_open h1
      obtain ⟨c, d, rfl, rfl, gb⟩ := gK_open h2
      have RA := Lib.hid (ruleA_yes (f := difK) ga gb)
      have G1 := Lib.hid h1
      have G2 := Lib.hid h2
      have GA := Lib.hid ga
      have GB := Lib.hid gb
      clear h1 h2 ga gb
      have N0 := three_newk w (a) (b) (c) (d) (0) (0)
      go_enter Tryd.func36, Tryd.ntmps36
      go_wp2_with fail
      unfold kO at N0
      generalize (((w.alloc (.cells #[.int .i64 a, .int .i64 b] 24)).alloc (.cells #[.int .i64 c, .int .i64 d] 24)).alloc (.cells #[.int .i64 0, .int .i64 0] 24)) = v0 at N0 ⊢
      have D0 := Lib.hid (Below.refl v0.heap.size v0)
      have lr := N0.out.2.2.1.lt
      refine (goodKI_any _ _ _).mono ?_
      rw [G1.out]
      rintro e v1 ⟨rfl, hb⟩
      have D1 := Lib.hid (Below.tr D0.out hb)
      clear hb
      have k0 := (KB.below N0.out.1 D1.out).c0
      have m0 := (KB.below N0.out.1 D1.out).c1
      have k1 := (KB.below N0.out.2.1 D1.out).c0
      have m1 := (KB.below N0.out.2.1 D1.out).c1
      have k2 := (KB.below N0.out.2.2.1 D1.out).c0
      have m2 := (KB.below N0.out.2.2.1 D1.out).c1
      have f2 := (KB.below N0.out.2.2.1 D1.out).f 0
      have j2 := (KB.below N0.out.2.2.1 D1.out).f 1
      go_wp2_with fail
      refine (goodKI_any _ _ _).mono ?_
      rw [G2.out]
      rintro e v2 ⟨rfl, hb⟩
      have D2 := Lib.hid (Below.tr D1.out hb)
      clear hb
      have k0 := (KB.below N0.out.1 D2.out).c0
      have m0 := (KB.below N0.out.1 D2.out).c1
      have k1 := (KB.below N0.out.2.1 D2.out).c0
      have m1 := (KB.below N0.out.2.1 D2.out).c1
      have k2 := (KB.below N0.out.2.2.1 D2.out).c0
      have m2 := (KB.below N0.out.2.2.1 D2.out).c1
      have f2 := (KB.below N0.out.2.2.1 D2.out).f 0
      have j2 := (KB.below N0.out.2.2.1 D2.out).f 1
      go_wp2_with fail
      refine (minus_any _ _ _ _ _ GA GB).mono ?_
      rintro e v3 ⟨rfl, hb⟩
      have D3 := Lib.hid (Below.tr D2.out hb)
      clear hb
      have k2 := (KB.below N0.out.2.2.1 D3.out).c0
      have m2 := (KB.below N0.out.2.2.1 D3.out).c1
      have f2 := (KB.below N0.out.2.2.1 D3.out).f 0
      have j2 := (KB.below N0.out.2.2.1 D3.out).f 1
      go_wp2
      refine kshut1 (ok := true) ((KB.below N0.out.2.2.1 D3.out).set2) (belowK2 (Below.tr N0.out.2.2.2 D3.out) (by omega)) ?_ ?_
      · intro c0 c1; simp [results, Tryd.results36, go_sem, c0, c1]
      · rw [RA.out]

set_option maxRecDepth 100000 in
set_option maxHeartbeats 4000000 in
theorem byRule_onWords (op : Int) (al ah bl bh : Int) (w : World) (HT : Hid (PowTab w)) (ho : Hid (op = 3 ∨ op = 4 ∨ op = 5)) :
    Calls Tryd.prog 36 #[.func (.func 63) #[.int .i64 op] #[], .agg #[.int .i64 al, .int .i64 ah], .agg #[.int .i64 bl, .int .i64 bh]] w fun e w' => e = .returned (.tuple #[.agg #[.int .i64 (ruleA (doK op) al ah bl bh).1.v, .int .i64 (ruleA (doK op) al ah bl bh).1.m], .bool (ruleA (doK op) al ah bl bh).2]) ∧ Below w.heap.size w w' := by
  have qn := fun W => eql_nilF (.func 63) #[.int .i64 op] #[] W
  cases h1 : gK al ah
  · have RA := Lib.hid (ruleA_no1 (f := (doK op)) (bl := bl) (bh := bh) h1)
    have G1 := Lib.hid h1
    clear h1
    have N0 := three_newk w (al) (ah) (bl) (bh) (0) (0)
    go_enter Tryd.func36, Tryd.ntmps36
    go_wp2_with fail
    unfold kO at N0
    generalize (((w.alloc (.cells #[.int .i64 al, .int .i64 ah] 24)).alloc (.cells #[.int .i64 bl, .int .i64 bh] 24)).alloc (.cells #[.int .i64 0, .int .i64 0] 24)) = v0 at N0 ⊢
    have D0 := Lib.hid (Below.refl v0.heap.size v0)
    have lr := N0.out.2.2.1.lt
    refine (goodKI_any _ _ _).mono ?_
    rw [G1.out]
    rintro e v1 ⟨rfl, hb⟩
    have D1 := Lib.hid (Below.tr D0.out hb)
    clear hb
    have k0 := (KB.below N0.out.1 D1.out).c0
    have m0 := (KB.below N0.out.1 D1.out).c1
    have k1 := (KB.below N0.out.2.1 D1.out).c0
    have m1 := (KB.below N0.out.2.1 D1.out).c1
    have k2 := (KB.below N0.out.2.2.1 D1.out).c0
    have m2 := (KB.below N0.out.2.2.1 D1.out).c1
    have f2 := (KB.below N0.out.2.2.1 D1.out).f 0
    have j2 := (KB.below N0.out.2.2.1 D1.out).f 1
    go_wp2
    refine kshut1 (ok := false) ((KB.below N0.out.2.2.1 D1.out).set2) (belowK2 (Below.tr N0.out.2.2.2 D1.out) (by omega)) ?_ ?_
    · intro c0 c1; simp [results, Tryd.results36, go_sem, c0, c1]
    · rw [RA.out]; rfl
  · cases h2 : gK bl bh
    · have RA := Lib.hid (ruleA_no2 (f := (doK op)) (al := al) (ah := ah) h2)
      have G1 := Lib.hid h1
      have G2 := Lib.hid h2
      clear h1 h2
      have N0 := three_newk w (al) (ah) (bl) (bh) (0) (0)
      go_enter Tryd.func36, Tryd.ntmps36
      go_wp2_with fail
      unfold kO at N0
      generalize (((w.alloc (.cells #[.int .i64 al, .int .i64 ah] 24)).alloc (.cells #[.int .i64 bl, .int .i64 bh] 24)).alloc (.cells #[.int .i64 0, .int .i64 0] 24)) = v0 at N0 ⊢
      have D0 := Lib.hid (Below.refl v0.heap.size v0)
      have lr := N0.out.2.2.1.lt
      refine (goodKI_any _ _ _).mono ?_
      rw [G1.out]
      rintro e v1 ⟨rfl, hb⟩
      have D1 := Lib.hid (Below.tr D0.out hb)
      clear hb
      have k0 := (KB.below N0.out.1 D1.out).c0
      have m0 := (KB.below N0.out.1 D1.out).c1
      have k1 := (KB.below N0.out.2.1 D1.out).c0
      have m1 := (KB.below N0.out.2.1 D1.out).c1
      have k2 := (KB.below N0.out.2.2.1 D1.out).c0
      have m2 := (KB.below N0.out.2.2.1 D1.out).c1
      have f2 := (KB.below N0.out.2.2.1 D1.out).f 0
      have j2 := (KB.below N0.out.2.2.1 D1.out).f 1
      go_wp2_with fail
      refine (goodKI_any _ _ _).mono ?_
      rw [G2.out]
      rintro e v2 ⟨rfl, hb⟩
      have D2 := Lib.hid (Below.tr D1.out hb)
      clear hb
      have k0 := (KB.below N0.out.1 D2.out).c0
      have m0 := (KB.below N0.out.1 D2.out).c1
      have k1 := (KB.below N0.out.2.1 D2.out).c0
      have m1 := (KB.below N0.out.2.1 D2.out).c1
      have k2 := (KB.below N0.out.2.2.1 D2.out).c0
      have m2 := (KB.below N0.out.2.2.1 D2.out).c1
      have f2 := (KB.below N0.out.2.2.1 D2.out).f 0
      have j2 := (KB.below N0.out.2.2.1 D2.out).f 1
      go_wp2
      refine kshut1 (ok := false) ((KB.below N0.out.2.2.1 D2.out).set2) (belowK2 (Below.tr N0.out.2.2.2 D2.out) (by omega)) ?_ ?_
      · intro c0 c1; simp [results, Tryd.results36, go_sem, c0, c1]
      · rw [RA.out]; rfl
    · obtain ⟨a, b, rfl, rfl, ga⟩ := gK_open h1
      obtain ⟨c, d, rfl, rfl, gb⟩ := gK_open h2
      have RA := Lib.hid (ruleA_yes (f := (doK op)) ga gb)
      have G1 := Lib.hid h1
      have G2 := Lib.hid h2
      have GA := Lib.hid ga
      have GB := Lib.hid gb
      clear h1 h2 ga gb
      have N0 := three_newk w (a) (b) (c) (d) (0) (0)
      go_enter Tryd.func36, Tryd.ntmps36
      go_wp2_with fail
      unfold kO at N0
      generalize (((w.alloc (.cells #[.int .i64 a, .int .i64 b] 24)).alloc (.cells #[.int .i64 c, .int .i64 d] 24)).alloc (.cells #[.int .i64 0, .int .i64 0] 24)) = v0 at N0 ⊢
      have D0 := Lib.hid (Below.refl v0.heap.size v0)
      have lr := N0.out.2.2.1.lt
      refine (goodKI_any _ _ _).mono ?_
      rw [G1.out]
      rintro e v1 ⟨rfl, hb⟩
      have D1 := Lib.hid (Below.tr D0.out hb)
      clear hb
      have k0 := (KB.below N0.out.1 D1.out).c0
      have m0 := (KB.below N0.out.1 D1.out).c1
      have k1 := (KB.below N0.out.2.1 D1.out).c0
      have m1 := (KB.below N0.out.2.1 D1.out).c1
      have k2 := (KB.below N0.out.2.2.1 D1.out).c0
      have m2 := (KB.below N0.out.2.2.1 D1.out).c1
      have f2 := (KB.below N0.out.2.2.1 D1.out).f 0
      have j2 := (KB.below N0.out.2.2.1 D1.out).f 1
      go_wp2_with fail
      refine (goodKI_any _ _ _).mono ?_
      rw [G2.out]
      rintro e v2 ⟨rfl, hb⟩
      have D2 := Lib.hid (Below.tr D1.out hb)
      clear hb
      have k0 := (KB.below N0.out.1 D2.out).c0
      have m0 := (KB.below N0.out.1 D2.out).c1
      have k1 := (KB.below N0.out.2.1 D2.out).c0
      have m1 := (KB.below N0.out.2.1 D2.out).c1
      have k2 := (KB.below N0.out.2.2.1 D2.out).c0
      have m2 := (KB.below N0.out.2.2.1 D2.out).c1
      have f2 := (KB.below N0.out.2.2.1 D2.out).f 0
      have j2 := (KB.below N0.out.2.2.1 D2.out).f 1
      go_wp2_with fail
      refine (onWords_any _ _ _ _ _ _ GA GB (Lib.hid (HT.out.bel (Below.tr N0.out.2.2.2 D2.out))) ho).mono ?_
      rintro e v3 ⟨rfl, hb⟩
      have D3 := Lib.hid (Below.tr D2.out hb)
      clear hb
      have k2 := (KB.below N0.out.2.2.1 D3.out).c0
      have m2 := (KB.below N0.out.2.2.1 D3.out).c1
      have f2 := (KB.below N0.out.2.2.1 D3.out).f 0
      have j2 := (KB.below N0.out.2.2.1 D3.out).f 1
      go_wp2
      refine kshut1 (ok := true) ((KB.below N0.out.2.2.1 D3.out).set2) (belowK2 (Below.tr N0.out.2.2.2 D3.out) (by omega)) ?_ ?_
      · intro c0 c1; simp [results, Tryd.results36, go_sem, c0, c1]
      · rw [RA.out]

set_option maxRecDepth 100000 in
set_option maxHeartbeats 4000000 in
theorem byRule_bitByBit (op : Int) (al ah bl bh : Int) (w : World) (HT : Hid (PowTab w)) (ho : Hid (op = 6 ∨ op = 7 ∨ op = 8)) :
    Calls Tryd.prog 36 #[.func (.func 64) #[.int .i64 op] #[], .agg #[.int .i64 al, .int .i64 ah], .agg #[.int .i64 bl, .int .i64 bh]] w fun e w' => e = .returned (.tuple #[.agg #[.int .i64 (ruleA (doK op) al ah bl bh).1.v, .int .i64 (ruleA (doK op) al ah bl bh).1.m], .bool (ruleA (doK op) al ah bl bh).2]) ∧ Below w.heap.size w w' := by
  have qn := fun W => eql_nilF (.func 64) #[.int .i64 op] #[] W
  cases h1 : gK al ah
  · have RA := Lib.hid (ruleA_no1 (f := (doK op)) (bl := bl) (bh := bh) h1)
    have G1 := Lib.hid h1
    clear h1
    have N0 := three_newk w (al) (ah) (bl) (bh) (0) (0)
    go_enter Tryd.func36, Tryd.ntmps36
    go_wp2_with fail
    unfold kO at N0
    generalize (((w.alloc (.cells #[.int .i64 al, .int .i64 ah] 24)).alloc (.cells #[.int .i64 bl, .int .i64 bh] 24)).alloc (.cells #[.int .i64 0, .int .i64 0] 24)) = v0 at N0 ⊢
    have D0 := Lib.hid (Below.refl v0.heap.size v0)
    have lr := N0.out.2.2.1.lt
    refine (goodKI_any _ _ _).mono ?_
    rw [G1.out]
    rintro e v1 ⟨rfl, hb⟩
    have D1 := Lib.hid (Below.tr D0.out hb)
    clear hb
    have k0 := (KB.below N0.out.1 D1.out).c0
    have m0 := (KB.below N0.out.1 D1.out).c1
    have k1 := (KB.below N0.out.2.1 D1.out).c0
    have m1 := (KB.below N0.out.2.1 D1.out).c1
    have k2 := (KB.below N0.out.2.2.1 D1.out).c0
    have m2 := (KB.below N0.out.2.2.1 D1.out).c1
    have f2 := (KB.below N0.out.2.2.1 D1.out).f 0
    have j2 := (KB.below N0.out.2.2.1 D1.out).f 1
    go_wp2
    refine kshut1 (ok := false) ((KB.below N0.out.2.2.1 D1.out).set2) (belowK2 (Below.tr N0.out.2.2.2 D1.out) (by omega)) ?_ ?_
    · intro c0 c1; simp [results, Tryd.results36, go_sem, c0, c1]
    · rw [RA.out]; rfl
  · cases h2 : gK bl bh
    · have RA := Lib.hid (ruleA_no2 (f := (doK op)) (al := al) (ah := ah) h2)
      have G1 := Lib.hid h1
      have G2 := Lib.hid h2
      clear h1 h2
      have N0 := three_newk w (al) (ah) (bl) (bh) (0) (0)
      go_enter Tryd.func36, Tryd.ntmps36
      go_wp2_with fail
      unfold kO at N0
      generalize (((w.alloc (.cells #[.int .i64 al, .int .i64 ah] 24)).alloc (.cells #[.int .i64 bl, .int .i64 bh] 24)).alloc (.cells #[.int .i64 0, .int .i64 0] 24)) = v0 at N0 ⊢
      have D0 := Lib.hid (Below.refl v0.heap.size v0)
      have lr := N0.out.2.2.1.lt
      refine (goodKI_any _ _ _).mono ?_
      rw [G1.out]
      rintro e v1 ⟨rfl, hb⟩
      have D1 := Lib.hid (Below.tr D0.out hb)
      clear hb
      have k0 := (KB.below N0.out.1 D1.out).c0
      have m0 := (KB.below N0.out.1 D1.out).c1
      have k1 := (KB.below N0.out.2.1 D1.out).c0
      have m1 := (KB.below N0.out.2.1 D1.out).c1
      have k2 := (KB.below N0.out.2.2.1 D1.out).c0
      have m2 := (KB.below N0.out.2.2.1 D1.out).c1
      have f2 := (KB.below N0.out.2.2.1 D1.out).f 0
      have j2 := (KB.below N0.out.2.2.1 D1.out).f 1
      go_wp2_with fail
      refine (goodKI_any _ _ _).mono ?_
      rw [G2.out]
      rintro e v2 ⟨rfl, hb⟩
      have D2 := Lib.hid (Below.tr D1.out hb)
      clear hb
      have k0 := (KB.below N0.out.1 D2.out).c0
      have m0 := (KB.below N0.out.1 D2.out).c1
      have k1 := (KB.below N0.out.2.1 D2.out).c0
      have m1 := (KB.below N0.out.2.1 D2.out).c1
      have k2 := (KB.below N0.out.2.2.1 D2.out).c0
      have m2 := (KB.below N0.out.2.2.1 D2.out).c1
      have f2 := (KB.below N0.out.2.2.1 D2.out).f 0
      have j2 := (KB.below N0.out.2.2.1 D2.out).f 1
      go_wp2
      refine kshut1 (ok := false) ((KB.below N0.out.2.2.1 D2.out).set2) (belowK2 (Below.tr N0.out.2.2.2 D2.out) (by omega)) ?_ ?_
      · intro c0 c1; simp [results, Tryd.results36, go_sem, c0, c1]
      · rw [RA.out]; rfl
    · obtain ⟨a, b, rfl, rfl, ga⟩ := gK_open h1
      obtain ⟨c, d, rfl, rfl, gb⟩ := gK_open h2
      have RA := Lib.hid (ruleA_yes (f := (doK op)) ga gb)
      have G1 := Lib.hid h1
      have G2 := Lib.hid h2
      have GA := Lib.hid ga
      have GB := Lib.hid gb
      clear h1 h2 ga gb
      have N0 := three_newk w (a) (b) (c) (d) (0) (0)
      go_enter Tryd.func36, Tryd.ntmps36
      go_wp2_with fail
      unfold kO at N0
      generalize (((w.alloc (.cells #[.int .i64 a, .int .i64 b] 24)).alloc (.cells #[.int .i64 c, .int .i64 d] 24)).alloc (.cells #[.int .i64 0, .int .i64 0] 24)) = v0 at N0 ⊢
      have D0 := Lib.hid (Below.refl v0.heap.size v0)
      have lr := N0.out.2.2.1.lt
      refine (goodKI_any _ _ _).mono ?_
      rw [G1.out]
      rintro e v1 ⟨rfl, hb⟩
      have D1 := Lib.hid (Below.tr D0.out hb)
      clear hb
      have k0 := (KB.below N0.out.1 D1.out).c0
      have m0 := (KB.below N0.out.1 D1.out).c1
      have k1 := (KB.below N0.out.2.1 D1.out).c0
      have m1 := (KB.below N0.out.2.1 D1.out).c1
      have k2 := (KB.below N0.out.2.2.1 D1.out).c0
      have m2 := (KB.below N0.out.2.2.1 D1.out).c1
      have f2 := (KB.below N0.out.2.2.1 D1.out).f 0
      have j2 := (KB.below N0.out.2.2.1 D1.out).f 1
      go_wp2_with fail
      refine (goodKI_any _ _ _).mono ?_
      rw [G2.out]
      rintro e v2 ⟨rfl, hb⟩
      have D2 := Lib.hid (Below.tr D1.out hb)
      clear hb
      have k0 := (KB.below N0.out.1 D2.out).c0
      have m0 := (KB.below N0.out.1 D2.out).c1
      have k1 := (KB.below N0.out.2.1 D2.out).c0
      have m1 := (KB.below N0.out.2.1 D2.out).c1
      have k2 := (KB.below N0.out.2.2.1 D2.out).c0
      have m2 := (KB.below N0.out.2.2.1 D2.out).c1
      have f2 := (KB.below N0.out.2.2.1 D2.out).f 0
      have j2 := (KB.below N0.out.2.2.1 D2.out).f 1
      go_wp2_with fail
      refine (bitByBit_any _ _ _ _ _ _ GA GB (Lib.hid (HT.out.bel (Below.tr N0.out.2.2.2 D2.out))) ho).mono ?_
      rintro e v3 ⟨rfl, hb⟩
      have D3 := Lib.hid (Below.tr D2.out hb)
      clear hb
      have k2 := (KB.below N0.out.2.2.1 D3.out).c0
      have m2 := (KB.below N0.out.2.2.1 D3.out).c1
      have f2 := (KB.below N0.out.2.2.1 D3.out).f 0
      have j2 := (KB.below N0.out.2.2.1 D3.out).f 1
      go_wp2
      refine kshut1 (ok := true) ((KB.below N0.out.2.2.1 D3.out).set2) (belowK2 (Below.tr N0.out.2.2.2 D3.out) (by omega)) ?_ ?_
      · intro c0 c1; simp [results, Tryd.results36, go_sem, c0, c1]
      · rw [RA.out]

set_option maxRecDepth 100000 in
set_option maxHeartbeats 4000000 in
theorem byRule_shifted (op : Int) (al ah bl bh : Int) (w : World) (HT : Hid (PowTab w)) (ho : Hid (op = 9 ∨ op = 10)) :
    Calls Tryd.prog 36 #[.func (.func 65) #[.int .i64 op] #[], .agg #[.int .i64 al, .int .i64 ah], .agg #[.int .i64 bl, .int .i64 bh]] w fun e w' => e = .returned (.tuple #[.agg #[.int .i64 (ruleA (doK op) al ah bl bh).1.v, .int .i64 (ruleA (doK op) al ah bl bh).1.m], .bool (ruleA (doK op) al ah bl bh).2]) ∧ Below w.heap.size w w' := by
  have qn := fun W => eql_nilF (.func 65) #[.int .i64 op] #[] W
  cases h1 : gK al ah
  · have RA := Lib.hid (ruleA_no1 (f := (doK op)) (bl := bl) (bh := bh) h1)
    have G1 := Lib.hid h1
    clear h1
    have N0 := three_newk w (al) (ah) (bl) (bh) (0) (0)
    go_enter Tryd.func36, Tryd.ntmps36
    go_wp2_with fail
    unfold kO at N0
    generalize (((w.alloc (.cells #[.int .i64 al, .int .i64 ah] 24)).alloc (.cells #[.int .i64 bl, .int .i64 bh] 24)).alloc (.cells #[.int .i64 0, .int .i64 0] 24)) = v0 at N0 ⊢
    have D0 := Lib.hid (Below.refl v0.heap.size v0)
    have lr := N0.out.2.2.1.lt
    refine (goodKI_any _ _ _).mono ?_
    rw [G1.out]
    rintro e v1 ⟨rfl, hb⟩
    have D1 := Lib.hid (Below.tr D0.out hb)
    clear hb
    have k0 := (KB.below N0.out.1 D1.out).c0
    have m0 := (KB.below N0.out.1 D1.out).c1
    have k1 := (KB.below N0.out.2.1 D1.out).c0
    have m1 := (KB.below N0.out.2.1 D1.out).c1
    have k2 := (KB.below N0.out.2.2.1 D1.out).c0
    have m2 := (KB.below N0.out.2.2.1 D1.out).c1
    have f2 := (KB.below N0.out.2.2.1 D1.out).f 0
    have j2 := (KB.below N0.out.2.2.1 D1.out).f 1
    go_wp2
    refine kshut1 (ok := false) ((KB.below N0.out.2.2.1 D1.out).set2) (belowK2 (Below.tr N0.out.2.2.2 D1.out) (by omega)) ?_ ?_
    · intro c0 c1; simp [results, Tryd.results36, go_sem, c0, c1]
    · rw [RA.out]; rfl
  · cases h2 : gK bl bh
    · have RA := Lib.hid (ruleA_no2 (f := (doK op)) (al := al) (ah := ah) h2)
      have G1 := Lib.hid h1
      have G2 := Lib.hid h2
      clear h1 h2
      have N0 := three_newk w (al) (ah) (bl) (bh) (0) (0)
      go_enter Tryd.func36, Tryd.ntmps36
      go_wp2_with fail
      unfold kO at N0
      generalize (((w.alloc (.cells #[.int .i64 al, .int .i64 ah] 24)).alloc (.cells #[.int .i64 bl, .int .i64 bh] 24)).alloc (.cells #[.int .i64 0, .int .i64 0] 24)) = v0 at N0 ⊢
      have D0 := Lib.hid (Below.refl v0.heap.size v0)
      have lr := N0.out.2.2.1.lt
      refine (goodKI_any _ _ _).mono ?_
      rw [G1.out]
      rintro e v1 ⟨rfl, hb⟩
      have D1 := Lib.hid (Below.tr D0.out hb)
      clear hb
      have k0 := (KB.below N0.out.1 D1.out).c0
      have m0 := (KB.below N0.out.1 D1.out).c1
      have k1 := (KB.below N0.out.2.1 D1.out).c0
      have m1 := (KB.below N0.out.2.1 D1.out).c1
      have k2 := (KB.below N0.out.2.2.1 D1.out).c0
      have m2 := (KB.below N0.out.2.2.1 D1.out).c1
      have f2 := (KB.below N0.out.2.2.1 D1.out).f 0
      have j2 := (KB.below N0.out.2.2.1 D1.out).f 1
      go_wp2_with fail
      refine (goodKI_any _ _ _).mono ?_
      rw [G2.out]
      rintro e v2 ⟨rfl, hb⟩
      have D2 := Lib.hid (Below.tr D1.out hb)
      clear hb
      have k0 := (KB.below N0.out.1 D2.out).c0
      have m0 := (KB.below N0.out.1 D2.out).c1
      have k1 := (KB.below N0.out.2.1 D2.out).c0
      have m1 := (KB.below N0.out.2.1 D2.out).c1
      have k2 := (KB.below N0.out.2.2.1 D2.out).c0
      have m2 := (KB.below N0.out.2.2.1 D2.out).c1
      have f2 := (KB.below N0.out.2.2.1 D2.out).f 0
      have j2 := (KB.below N0.out.2.2.1 D2.out).f 1
      go_wp2
      refine kshut1 (ok := false) ((KB.below N0.out.2.2.1 D2.out).set2) (belowK2 (Below.tr N0.out.2.2.2 D2.out) (by omega)) ?_ ?_
      · intro c0 c1; simp [results, Tryd.results36, go_sem, c0, c1]
      · rw [RA.out]; rfl
    · obtain ⟨a, b, rfl, rfl, ga⟩ := gK_open h1
      obtain ⟨c, d, rfl, rfl, gb⟩ := gK_open h2
      have RA := Lib.hid (ruleA_yes (f := (doK op)) ga gb)
      have G1 := Lib.hid h1
      have G2 := Lib.hid h2
      have GA := Lib.hid ga
      have GB := Lib.hid gb
      clear h1 h2 ga gb
      have N0 := three_newk w (a) (b) (c) (d) (0) (0)
      go_enter Tryd.func36, Tryd.ntmps36
      go_wp2_with fail
      unfold kO at N0
      generalize (((w.alloc (.cells #[.int .i64 a, .int .i64 b] 24)).alloc (.cells #[.int .i64 c, .int .i64 d] 24)).alloc (.cells #[.int .i64 0, .int .i64 0] 24)) = v0 at N0 ⊢
      have D0 := Lib.hid (Below.refl v0.heap.size v0)
      have lr := N0.out.2.2.1.lt
      refine (goodKI_any _ _ _).mono ?_
      rw [G1.out]
      rintro e v1 ⟨rfl, hb⟩
      have D1 := Lib.hid (Below.tr D0.out hb)
      clear hb
      have k0 := (KB.below N0.out.1 D1.out).c0
      have m0 := (KB.below N0.out.1 D1.out).c1
      have k1 := (KB.below N0.out.2.1 D1.out).c0
      have m1 := (KB.below N0.out.2.1 D1.out).c1
      have k2 := (KB.below N0.out.2.2.1 D1.out).c0
      have m2 := (KB.below N0.out.2.2.1 D1.out).c1
      have f2 := (KB.below N0.out.2.2.1 D1.out).f 0
      have j2 := (KB.below N0.out.2.2.1 D1.out).f 1
      go_wp2_with fail
      refine (goodKI_any _ _ _).mono ?_
      rw [G2.out]
      rintro e v2 ⟨rfl, hb⟩
      have D2 := Lib.hid (Below.tr D1.out hb)
      clear hb
      have k0 := (KB.below N0.out.1 D2.out).c0
      have m0 := (KB.below N0.out.1 D2.out).c1
      have k1 := (KB.below N0.out.2.1 D2.out).c0
      have m1 := (KB.below N0.out.2.1 D2.out).c1
      have k2 := (KB.below N0.out.2.2.1 D2.out).c0
      have m2 := (KB.below N0.out.2.2.1 D2.out).c1
      have f2 := (KB.below N0.out.2.2.1 D2.out).f 0
      have j2 := (KB.below N0.out.2.2.1 D2.out).f 1
      go_wp2_with fail
      refine (shifted_any _ _ _ _ _ _ GA GB (Lib.hid (HT.out.bel (Below.tr N0.out.2.2.2 D2.out))) ho).mono ?_
      rintro e v3 ⟨rfl, hb⟩
      have D3 := Lib.hid (Below.tr D2.out hb)
      clear hb
      have k2 := (KB.below N0.out.2.2.1 D3.out).c0
      have m2 := (KB.below N0.out.2.2.1 D3.out).c1
      have f2 := (KB.below N0.out.2.2.1 D3.out).f 0
      have j2 := (KB.below N0.out.2.2.1 D3.out).f 1
      go_wp2
      refine kshut1 (ok := true) ((KB.below N0.out.2.2.1 D3.out).set2) (belowK2 (Below.tr N0.out.2.2.2 D3.out) (by omega)) ?_ ?_
      · intro c0 c1; simp [results, Tryd.results36, go_sem, c0, c1]
      · rw [RA.out]

set_option maxRecDepth 100000 in
set_option maxHeartbeats 2000000 in
theorem byRule_nil (al ah bl bh : Int) (w : World) :
    Calls Tryd.prog 36 #[.nilFunc, .agg #[.int .i64 al, .int .i64 ah], .agg #[.int .i64 bl, .int .i64 bh]] w fun e w' => e = .returned (.tuple #[.agg #[.int .i64 0, .int .i64 0], .bool false]) ∧ Below w.heap.size w w' := by
  have qn := fun W => eql_nilF0 W
  have N0 := three_newk w al ah bl bh 0 0
  unfold kO at N0
  go_enter Tryd.func36, Tryd.ntmps36
  go_wp2
  refine kshut1 (ok := false) N0.out.2.2.1 N0.out.2.2.2 ?_ rfl
  intro c0 c1; simp [results, Tryd.results36, go_sem, c0, c1]

set_option maxRecDepth 100000 in
set_option maxHeartbeats 1000000 in
theorem rule_1 (w : World) : Calls Tryd.prog 37 #[.int .i64 1] w fun e w' => e = .returned (.func (.func 61) #[] #[]) ∧ w = w' := by
  go_enter Tryd.func37, Tryd.ntmps37
  go_wp2
  go_ret
  exact ⟨rfl, rfl⟩

set_option maxRecDepth 100000 in
set_option maxHeartbeats 1000000 in
theorem rule_2 (w : World) : Calls Tryd.prog 37 #[.int .i64 2] w fun e w' => e = .returned (.func (.func 62) #[] #[]) ∧ w = w' := by
  go_enter Tryd.func37, Tryd.ntmps37
  go_wp2
  go_ret
  exact ⟨rfl, rfl⟩

set_option maxRecDepth 100000 in
set_option maxHeartbeats 1000000 in
theorem rule_3 (w : World) : Calls Tryd.prog 37 #[.int .i64 3] w fun e w' => e = .returned (.func (.func 63) #[.int .i64 3] #[]) ∧ w = w' := by
  go_enter Tryd.func37, Tryd.ntmps37
  go_wp2
  go_ret
  exact ⟨rfl, rfl⟩

set_option maxRecDepth 100000 in
set_option maxHeartbeats 1000000 in
theorem rule_4 (w : World) : Calls Tryd.prog 37 #[.int .i64 4] w fun e w' => e = .returned (.func (.func 63) #[.int .i64 4] #[]) ∧ w = w' := by
  go_enter Tryd.func37, Tryd.ntmps37
  go_wp2
  go_ret
  exact ⟨rfl, rfl⟩

set_option maxRecDepth 100000 in
set_option maxHeartbeats 1000000 in
theorem rule_5 (w : World) : Calls Tryd.prog 37 #[.int .i64 5] w fun e w' => e = .returned (.func (.func 63) #[.int .i64 5] #[]) ∧ w = w' := by
  go_enter Tryd.func37, Tryd.ntmps37
  go_wp2
  go_ret
  exact ⟨rfl, rfl⟩

set_option maxRecDepth 100000 in
set_option maxHeartbeats 1000000 in
theorem rule_6 (w : World) : Calls Tryd.prog 37 #[.int .i64 6] w fun e w' => e = .returned (.func (.func 64) #[.int .i64 6] #[]) ∧ w = w' := by
  go_enter Tryd.func37, Tryd.ntmps37
  go_wp2
  go_ret
  exact ⟨rfl, rfl⟩

set_option maxRecDepth 100000 in
set_option maxHeartbeats 1000000 in
theorem rule_7 (w : World) : Calls Tryd.prog 37 #[.int .i64 7] w fun e w' => e = .returned (.func (.func 64) #[.int .i64 7] #[]) ∧ w = w' := by
  go_enter Tryd.func37, Tryd.ntmps37
  go_wp2
  go_ret
  exact ⟨rfl, rfl⟩

set_option maxRecDepth 100000 in
set_option maxHeartbeats 1000000 in
theorem rule_8 (w : World) : Calls Tryd.prog 37 #[.int .i64 8] w fun e w' => e = .returned (.func (.func 64) #[.int .i64 8] #[]) ∧ w = w' := by
  go_enter Tryd.func37, Tryd.ntmps37
  go_wp2
  go_ret
  exact ⟨rfl, rfl⟩

set_option maxRecDepth 100000 in
set_option maxHeartbeats 1000000 in
theorem rule_9 (w : World) : Calls Tryd.prog 37 #[.int .i64 9] w fun e w' => e = .returned (.func (.func 65) #[.int .i64 9] #[]) ∧ w = w' := by
  go_enter Tryd.func37, Tryd.ntmps37
  go_wp2
  go_ret
  exact ⟨rfl, rfl⟩

set_option maxRecDepth 100000 in
set_option maxHeartbeats 1000000 in
theorem rule_10 (w : World) : Calls Tryd.prog 37 #[.int .i64 10] w fun e w' => e = .returned (.func (.func 65) #[.int .i64 10] #[]) ∧ w = w' := by
  go_enter Tryd.func37, Tryd.ntmps37
  go_wp2
  go_ret
  exact ⟨rfl, rfl⟩

set_option maxRecDepth 100000 in
set_option maxHeartbeats 1000000 in
theorem rule_none (op : Int) (w : World) (ho : isOp op = false) : Calls Tryd.prog 37 #[.int .i64 op] w fun e w' => e = .returned .nilFunc ∧ w = w' := by
  have ho' : ¬ (1 ≤ op ∧ op ≤ 10) := by simpa [isOp] using ho
  clear ho
  have o1 : (op == 1) = false := beq_eq_false_iff_ne.2 (by omega)
  have o2 : (op == 2) = false := beq_eq_false_iff_ne.2 (by omega)
  have o3 : (op == 3) = false := beq_eq_false_iff_ne.2 (by omega)
  have o4 : (op == 4) = false := beq_eq_false_iff_ne.2 (by omega)
  have o5 : (op == 5) = false := beq_eq_false_iff_ne.2 (by omega)
  have o6 : (op == 6) = false := beq_eq_false_iff_ne.2 (by omega)
  have o7 : (op == 7) = false := beq_eq_false_iff_ne.2 (by omega)
  have o8 : (op == 8) = false := beq_eq_false_iff_ne.2 (by omega)
  have o9 : (op == 9) = false := beq_eq_false_iff_ne.2 (by omega)
  have o10 : (op == 10) = false := beq_eq_false_iff_ne.2 (by omega)
  clear ho'
  go_enter Tryd.func37, Tryd.ntmps37
  go_wp2
  go_ret
  exact ⟨rfl, rfl⟩

set_option maxRecDepth 100000 in
set_option maxHeartbeats 4000000 in
theorem doI_1 (al ah bl bh : Int) (w : World) :
    Calls Tryd.prog 9 #[.int .i64 1, .agg #[.int .i64 al, .int .i64 ah], .agg #[.int .i64 bl, .int .i64 bh]] w fun e w' => e = .returned (.tuple #[.agg #[.int .i64 (doA 1 al ah bl bh).1.v, .int .i64 (doA 1 al ah bl bh).1.m], .bool (doA 1 al ah bl bh).2]) ∧ Below w.heap.size w w' := by
  have E : Hid (doA 1 al ah bl bh = ruleA sumK al ah bl bh) := Lib.hid (doA_rule (op := 1) rfl)
  have N0 := three_newk w (al) (ah) (bl) (bh) (0) (0)
  go_enter Tryd.func9, Tryd.ntmps9
  go_wp2_with fail
  unfold kO at N0
  generalize (((w.alloc (.cells #[.int .i64 al, .int .i64 ah] 24)).alloc (.cells #[.int .i64 bl, .int .i64 bh] 24)).alloc (.cells #[.int .i64 0, .int .i64 0] 24)) = v0 at N0 ⊢
  have D0 := Lib.hid (Below.refl v0.heap.size v0)
  have lr := N0.out.2.2.1.lt
  refine wp_region_held_drew (S := fun W => W.cell? ⟨w.heap.size, 0, none⟩ = some (.int .i64 al) ∧ W.cell? ⟨w.heap.size, 1, none⟩ = some (.int .i64 ah) ∧ W.cell? ⟨w.heap.size + 1, 0, none⟩ = some (.int .i64 bl) ∧ W.cell? ⟨w.heap.size + 1, 1, none⟩ = some (.int .i64 bh)) (by kernel_rfl) ?_ (fun hHeld => ?_)
  · exact ⟨(KB.below N0.out.1 D0.out).c0, (KB.below N0.out.1 D0.out).c1, (KB.below N0.out.2.1 D0.out).c0, (KB.below N0.out.2.1 D0.out).c1⟩
  refine wpAnyH_take (i := 0) (v := ?_) rfl (by kernel_rfl) (by kernel_rfl) (by kernel_rfl) (fun _ _ _ h => h) (Or.inl ⟨by rfl, ?_⟩) (by assumption) ?_
  rotate_left
  · intro W hSw
    try dsimp only at hSw
    go_simp
    try with_reducible rfl
  refine wpAnyH_take (i := 2) (v := ?_) rfl (by kernel_rfl) (by kernel_rfl) (by kernel_rfl) (fun _ _ _ h => h) (Or.inl ⟨by rfl, ?_⟩) (by assumption) ?_
  rotate_left
  · intro W hSw
    try dsimp only at hSw
    go_simp
    try with_reducible rfl
  refine wpAnyH_take (i := 3) (v := ?_) rfl (by kernel_rfl) (by kernel_rfl) (by kernel_rfl) (fun _ _ _ h => h) (Or.inl ⟨by rfl, ?_⟩) (by assumption) ?_
  rotate_left
  · intro W hSw
    try dsimp only at hSw
    go_simp
    try with_reducible rfl
  refine wpAnyH_ready (rs := [1]) (by kernel_rfl) (by simp) ?_
  refine AllReadyH.cons rfl (fun K hK => ?_) AllReadyH.nil
  go_simp
  refine (rule_1 _).mono ?_
  rintro e v9 ⟨rfl, rfl⟩
  refine hK.out _ _ (by assumption) (fun hHeld2 => ?_)
  clear hK K
  refine wpAnyH_ready (rs := [4]) (by kernel_rfl) (by simp) ?_
  refine AllReadyH.cons rfl (fun K hK => ?_) AllReadyH.nil
  go_simp
  refine (byRule_plus _ _ _ _ _).mono ?_
  rintro e y1 ⟨rfl, hb⟩
  have Y1 := Lib.hid (Below.tr (Below.drew D0.out) hb)
  have Y1z := Y1.out.size
  have Y1_r := Lib.hid (KB.below (KB.drewn N0.out.2.2.1) hb)
  have Y1_rx := Y1_r.out.c0
  have Y1_ry := Y1_r.out.c1
  have Y1_rf := Y1_r.out.f 0
  have Y1_rh := Y1_r.out.f 1
  have Y1_rl := Y1_r.out.lt
  clear hb
  refine hK.out _ _ ⟨(KB.below N0.out.1 Y1.out).c0, (KB.below N0.out.1 Y1.out).c1, (KB.below N0.out.2.1 Y1.out).c0, (KB.below N0.out.2.1 Y1.out).c1⟩ (fun hHeld2 => ?_)
  clear hK K
  refine wpAnyH_take (i := 5) (v := ?_) rfl (by kernel_rfl) (by kernel_rfl) (by kernel_rfl) (fun _ _ _ h => h) (Or.inl ⟨by rfl, ?_⟩) (by assumption) ?_
  rotate_left
  · intro W hSw
    try dsimp only at hSw
    go_simp
    try with_reducible rfl
  refine wpAnyH_take (i := 6) (v := ?_) rfl (by kernel_rfl) (by kernel_rfl) (by kernel_rfl) (fun _ _ _ h => h) (Or.inl ⟨by rfl, ?_⟩) (by assumption) ?_
  rotate_left
  · intro W hSw
    try dsimp only at hSw
    go_simp
    try with_reducible rfl
  refine wpAnyH_ready (rs := [7]) (by kernel_rfl) (by simp) ?_
  refine AllReadyH.cons rfl (fun K hK => ?_) AllReadyH.nil
  go_simp
  refine hK.out _ _ ⟨(KB.far2 (KB.below N0.out.1 Y1.out) (by omega)).c0, (KB.far2 (KB.below N0.out.1 Y1.out) (by omega)).c1, (KB.far2 (KB.below N0.out.2.1 Y1.out) (by omega)).c0, (KB.far2 (KB.below N0.out.2.1 Y1.out) (by omega)).c1⟩ (fun hHeld2 => ?_)
  clear hK K
  refine wpAnyH_ready (rs := [8]) (by kernel_rfl) (by simp) ?_
  refine AllReadyH.cons rfl (fun K hK => ?_) AllReadyH.nil
  go_simp
  refine hK.out _ _ ⟨(KB.far2 (KB.below N0.out.1 Y1.out) (by omega)).c0, (KB.far2 (KB.below N0.out.1 Y1.out) (by omega)).c1, (KB.far2 (KB.below N0.out.2.1 Y1.out) (by omega)).c0, (KB.far2 (KB.below N0.out.2.1 Y1.out) (by omega)).c1⟩ (fun hHeld2 => ?_)
  clear hK K
  refine wpAnyH_done (by kernel_rfl) ?_ _
  go_wp2
  refine kshut1 (ok := (ruleA sumK al ah bl bh).2) ((KB.below N0.out.2.2.1 Y1.out).set2) (belowK2 (Below.tr N0.out.2.2.2 Y1.out) (by omega)) ?_ (by rw [E.out])
  intro c0 c1; simp [results, Tryd.results9, go_sem, c0, c1]

set_option maxRecDepth 100000 in
set_option maxHeartbeats 4000000 in
theorem doI_2 (al ah bl bh : Int) (w : World) :
    Calls Tryd.prog 9 #[.int .i64 2, .agg #[.int .i64 al, .int .i64 ah], .agg #[.int .i64 bl, .int .i64 bh]] w fun e w' => e = .returned (.tuple #[.agg #[.int .i64 (doA 2 al ah bl bh).1.v, .int .i64 (doA 2 al ah bl bh).1.m], .bool (doA 2 al ah bl bh).2]) ∧ Below w.heap.size w w' := by
  have E : Hid (doA 2 al ah bl bh = ruleA difK al ah bl bh) := Lib.hid (doA_rule (op := 2) rfl)
  have N0 := three_newk w (al) (ah) (bl) (bh) (0) (0)
  go_enter Tryd.func9, Tryd.ntmps9
  go_wp2_with fail
  unfold kO at N0
  generalize (((w.alloc (.cells #[.int .i64 al, .int .i64 ah] 24)).alloc (.cells #[.int .i64 bl, .int .i64 bh] 24)).alloc (.cells #[.int .i64 0, .int .i64 0] 24)) = v0 at N0 ⊢
  have D0 := Lib.hid (Below.refl v0.heap.size v0)
  have lr := N0.out.2.2.1.lt
  refine wp_region_held_drew (S := fun W => W.cell? ⟨w.heap.size, 0, none⟩ = some (.int .i64 al) ∧ W.cell? ⟨w.heap.size, 1, none⟩ = some (.int .i64 ah) ∧ W.cell? ⟨w.heap.size + 1, 0, none⟩ = some (.int .i64 bl) ∧ W.cell? ⟨w.heap.size + 1, 1, none⟩ = some (.int .i64 bh)) (by kernel_rfl) ?_ (fun hHeld => ?_)
  · exact ⟨(KB.below N0.out.1 D0.out).c0, (KB.below N0.out.1 D0.out).c1, (KB.below N0.out.2.1 D0.out).c0, (KB.below N0.out.2.1 D0.out).c1⟩
  refine wpAnyH_take (i := 0) (v := ?_) rfl (by kernel_rfl) (by kernel_rfl) (by kernel_rfl) (fun _ _ _ h => h) (Or.inl ⟨by rfl, ?_⟩) (by assumption) ?_
  rotate_left
  · intro W hSw
    try dsimp only at hSw
    go_simp
    try with_reducible rfl
  refine wpAnyH_take (i := 2) (v := ?_) rfl (by kernel_rfl) (by kernel_rfl) (by kernel_rfl) (fun _ _ _ h => h) (Or.inl ⟨by rfl, ?_⟩) (by assumption) ?_
  rotate_left
  · intro W hSw
    try dsimp only at hSw
    go_simp
    try with_reducible rfl
  refine wpAnyH_take (i := 3) (v := ?_) rfl (by kernel_rfl) (by kernel_rfl) (by kernel_rfl) (fun _ _ _ h => h) (Or.inl ⟨by rfl, ?_⟩) (by assumption) ?_
  rotate_left
  · intro W hSw
    try dsimp only at hSw
    go_simp
    try with_reducible rfl
  refine wpAnyH_ready (rs := [1]) (by kernel_rfl) (by simp) ?_
  refine AllReadyH.cons rfl (fun K hK => ?_) AllReadyH.nil
  go_simp
  refine (rule_2 _).mono ?_
  rintro e v9 ⟨rfl, rfl⟩
  refine hK.out _ _ (by assumption) (fun hHeld2 => ?_)
  clear hK K
  refine wpAnyH_ready (rs := [4]) (by kernel_rfl) (by simp) ?_
  refine AllReadyH.cons rfl (fun K hK => ?_) AllReadyH.nil
  go_simp
  refine (byRule_minus _ _ _ _ _).mono ?_
  rintro e y1 ⟨rfl, hb⟩
  have Y1 := Lib.hid (Below.tr (Below.drew D0.out) hb)
  have Y1z := Y1.out.size
  have Y1_r := Lib.hid (KB.below (KB.drewn N0.out.2.2.1) hb)
  have Y1_rx := Y1_r.out.c0
  have Y1_ry := Y1_r.out.c1
  have Y1_rf := Y1_r.out.f 0
  have Y1_rh := Y1_r.out.f 1
  have Y1_rl := Y1_r.out.lt
  clear hb
  refine hK.out _ _ ⟨(KB.below N0.out.1 Y1.out).c0, (KB.below N0.out.1 Y1.out).c1, (KB.below N0.out.2.1 Y1.out).c0, (KB.below N0.out.2.1 Y1.out).c1⟩ (fun hHeld2 => ?_)
  clear hK K
  refine wpAnyH_take (i := 5) (v := ?_) rfl (by kernel_rfl) (by kernel_rfl) (by kernel_rfl) (fun _ _ _ h => h) (Or.inl ⟨by rfl, ?_⟩) (by assumption) ?_
  rotate_left
  · intro W hSw
    try dsimp only at hSw
    go_simp
    try with_reducible rfl
  refine wpAnyH_take (i := 6) (v := ?_) rfl (by kernel_rfl) (by kernel_rfl) (by kernel_rfl) (fun _ _ _ h => h) (Or.inl ⟨by rfl, ?_⟩) (by assumption) ?_
  rotate_left
  · intro W hSw
    try dsimp only at hSw
    go_simp
    try with_reducible rfl
  refine wpAnyH_ready (rs := [7]) (by kernel_rfl) (by simp) ?_
  refine AllReadyH.cons rfl (fun K hK => ?_) AllReadyH.nil
  go_simp
  refine hK.out _ _ ⟨(KB.far2 (KB.below N0.out.1 Y1.out) (by omega)).c0, (KB.far2 (KB.below N0.out.1 Y1.out) (by omega)).c1, (KB.far2 (KB.below N0.out.2.1 Y1.out) (by omega)).c0, (KB.far2 (KB.below N0.out.2.1 Y1.out) (by omega)).c1⟩ (fun hHeld2 => ?_)
  clear hK K
  refine wpAnyH_ready (rs := [8]) (by kernel_rfl) (by simp) ?_
  refine AllReadyH.cons rfl (fun K hK => ?_) AllReadyH.nil
  go_simp
  refine hK.out _ _ ⟨(KB.far2 (KB.below N0.out.1 Y1.out) (by omega)).c0, (KB.far2 (KB.below N0.out.1 Y1.out) (by omega)).c1, (KB.far2 (KB.below N0.out.2.1 Y1.out) (by omega)).c0, (KB.far2 (KB.below N0.out.2.1 Y1.out) (by omega)).c1⟩ (fun hHeld2 => ?_)
  clear hK K
  refine wpAnyH_done (by kernel_rfl) ?_ _
  go_wp2
  refine kshut1 (ok := (ruleA difK al ah bl bh).2) ((KB.below N0.out.2.2.1 Y1.out).set2) (belowK2 (Below.tr N0.out.2.2.2 Y1.out) (by omega)) ?_ (by rw [E.out])
  intro c0 c1; simp [results, Tryd.results9, go_sem, c0, c1]

set_option maxRecDepth 100000 in
set_option maxHeartbeats 4000000 in
theorem doI_3 (al ah bl bh : Int) (w : World) (HT : Hid (PowTab w)) :
    Calls Tryd.prog 9 #[.int .i64 3, .agg #[.int .i64 al, .int .i64 ah], .agg #[.int .i64 bl, .int .i64 bh]] w fun e w' => e = .returned (.tuple #[.agg #[.int .i64 (doA 3 al ah bl bh).1.v, .int .i64 (doA 3 al ah bl bh).1.m], .bool (doA 3 al ah bl bh).2]) ∧ Below w.heap.size w w' := by
  have E : Hid (doA 3 al ah bl bh = ruleA (doK 3) al ah bl bh) := Lib.hid (doA_rule (op := 3) rfl)
  have N0 := three_newk w (al) (ah) (bl) (bh) (0) (0)
  go_enter Tryd.func9, Tryd.ntmps9
  go_wp2_with fail
  unfold kO at N0
  generalize (((w.alloc (.cells #[.int .i64 al, .int .i64 ah] 24)).alloc (.cells #[.int .i64 bl, .int .i64 bh] 24)).alloc (.cells #[.int .i64 0, .int .i64 0] 24)) = v0 at N0 ⊢
  have D0 := Lib.hid (Below.refl v0.heap.size v0)
  have lr := N0.out.2.2.1.lt
  refine wp_region_held_drew (S := fun W => W.cell? ⟨w.heap.size, 0, none⟩ = some (.int .i64 al) ∧ W.cell? ⟨w.heap.size, 1, none⟩ = some (.int .i64 ah) ∧ W.cell? ⟨w.heap.size + 1, 0, none⟩ = some (.int .i64 bl) ∧ W.cell? ⟨w.heap.size + 1, 1, none⟩ = some (.int .i64 bh)) (by kernel_rfl) ?_ (fun hHeld => ?_)
  · exact ⟨(KB.below N0.out.1 D0.out).c0, (KB.below N0.out.1 D0.out).c1, (KB.below N0.out.2.1 D0.out).c0, (KB.below N0.out.2.1 D0.out).c1⟩
  refine wpAnyH_take (i := 0) (v := ?_) rfl (by kernel_rfl) (by kernel_rfl) (by kernel_rfl) (fun _ _ _ h => h) (Or.inl ⟨by rfl, ?_⟩) (by assumption) ?_
  rotate_left
  · intro W hSw
    try dsimp only at hSw
    go_simp
    try with_reducible rfl
  refine wpAnyH_take (i := 2) (v := ?_) rfl (by kernel_rfl) (by kernel_rfl) (by kernel_rfl) (fun _ _ _ h => h) (Or.inl ⟨by rfl, ?_⟩) (by assumption) ?_
  rotate_left
  · intro W hSw
    try dsimp only at hSw
    go_simp
    try with_reducible rfl
  refine wpAnyH_take (i := 3) (v := ?_) rfl (by kernel_rfl) (by kernel_rfl) (by kernel_rfl) (fun _ _ _ h => h) (Or.inl ⟨by rfl, ?_⟩) (by assumption) ?_
  rotate_left
  · intro W hSw
    try dsimp only at hSw
    go_simp
    try with_reducible rfl
  refine wpAnyH_ready (rs := [1]) (by kernel_rfl) (by simp) ?_
  refine AllReadyH.cons rfl (fun K hK => ?_) AllReadyH.nil
  go_simp
  refine (rule_3 _).mono ?_
  rintro e v9 ⟨rfl, rfl⟩
  refine hK.out _ _ (by assumption) (fun hHeld2 => ?_)
  clear hK K
  refine wpAnyH_ready (rs := [4]) (by kernel_rfl) (by simp) ?_
  refine AllReadyH.cons rfl (fun K hK => ?_) AllReadyH.nil
  go_simp
  refine (byRule_onWords 3 _ _ _ _ _ (Lib.hid (HT.out.bel (Below.tr N0.out.2.2.2 (Below.drew D0.out)))) (Lib.hid (by omega))).mono ?_
  rintro e y1 ⟨rfl, hb⟩
  have Y1 := Lib.hid (Below.tr (Below.drew D0.out) hb)
  have Y1z := Y1.out.size
  have Y1_r := Lib.hid (KB.below (KB.drewn N0.out.2.2.1) hb)
  have Y1_rx := Y1_r.out.c0
  have Y1_ry := Y1_r.out.c1
  have Y1_rf := Y1_r.out.f 0
  have Y1_rh := Y1_r.out.f 1
  have Y1_rl := Y1_r.out.lt
  clear hb
  refine hK.out _ _ ⟨(KB.below N0.out.1 Y1.out).c0, (KB.below N0.out.1 Y1.out).c1, (KB.below N0.out.2.1 Y1.out).c0, (KB.below N0.out.2.1 Y1.out).c1⟩ (fun hHeld2 => ?_)
  clear hK K
  refine wpAnyH_take (i := 5) (v := ?_) rfl (by kernel_rfl) (by kernel_rfl) (by kernel_rfl) (fun _ _ _ h => h) (Or.inl ⟨by rfl, ?_⟩) (by assumption) ?_
  rotate_left
  · intro W hSw
    try dsimp only at hSw
    go_simp
    try with_reducible rfl
  refine wpAnyH_take (i := 6) (v := ?_) rfl (by kernel_rfl) (by kernel_rfl) (by kernel_rfl) (fun _ _ _ h => h) (Or.inl ⟨by rfl, ?_⟩) (by assumption) ?_
  rotate_left
  · intro W hSw
    try dsimp only at hSw
    go_simp
    try with_reducible rfl
  refine wpAnyH_ready (rs := [7]) (by kernel_rfl) (by simp) ?_
  refine AllReadyH.cons rfl (fun K hK => ?_) AllReadyH.nil
  go_simp
  refine hK.out _ _ ⟨(KB.far2 (KB.below N0.out.1 Y1.out) (by omega)).c0, (KB.far2 (KB.below N0.out.1 Y1.out) (by omega)).c1, (KB.far2 (KB.below N0.out.2.1 Y1.out) (by omega)).c0, (KB.far2 (KB.below N0.out.2.1 Y1.out) (by omega)).c1⟩ (fun hHeld2 => ?_)
  clear hK K
  refine wpAnyH_ready (rs := [8]) (by kernel_rfl) (by simp) ?_
  refine AllReadyH.cons rfl (fun K hK => ?_) AllReadyH.nil
  go_simp
  refine hK.out _ _ ⟨(KB.far2 (KB.below N0.out.1 Y1.out) (by omega)).c0, (KB.far2 (KB.below N0.out.1 Y1.out) (by omega)).c1, (KB.far2 (KB.below N0.out.2.1 Y1.out) (by omega)).c0, (KB.far2 (KB.below N0.out.2.1 Y1.out) (by omega)).c1⟩ (fun hHeld2 => ?_)
  clear hK K
  refine wpAnyH_done (by kernel_rfl) ?_ _
  go_wp2
  refine kshut1 (ok := (ruleA (doK 3) al ah bl bh).2) ((KB.below N0.out.2.2.1 Y1.out).set2) (belowK2 (Below.tr N0.out.2.2.2 Y1.out) (by omega)) ?_ (by rw [E.out])
  intro c0 c1; simp [results, Tryd.results9, go_sem, c0, c1]

set_option maxRecDepth 100000 in
set_option maxHeartbeats 4000000 in
theorem doI_4 (al ah bl bh : Int) (w : World) (HT : Hid (PowTab w)) :
    Calls Tryd.prog 9 #[.int .i64 4, .agg #[.int .i64 al, .int .i64 ah], .agg #[.int .i64 bl, .int .i64 bh]] w fun e w' => e = .returned (.tuple #[.agg #[.int .i64 (doA 4 al ah bl bh).1.v, .int .i64 (doA 4 al ah bl bh).1.m], .bool (doA 4 al ah bl bh).2]) ∧ Below w.heap.size w w' := by
  have E : Hid (doA 4 al ah bl bh = ruleA (doK 4) al ah bl bh) := Lib.hid (doA_rule (op := 4) rfl)
  have N0 := three_newk w (al) (ah) (bl) (bh) (0) (0)
  go_enter Tryd.func9, Tryd.ntmps9
  go_wp2_with fail
  unfold kO at N0
  generalize (((w.alloc (.cells #[.int .i64 al, .int .i64 ah] 24)).alloc (.cells #[.int .i64 bl, .int .i64 bh] 24)).alloc (.cells #[.int .i64 0, .int .i64 0] 24)) = v0 at N0 ⊢
  have D0 := Lib.hid (Below.refl v0.heap.size v0)
  have lr := N0.out.2.2.1.lt
  refine wp_region_held_drew (S := fun W => W.cell? ⟨w.heap.size, 0, none⟩ = some (.int .i64 al) ∧ W.cell? ⟨w.heap.size, 1, none⟩ = some (.int .i64 ah) ∧ W.cell? ⟨w.heap.size + 1, 0, none⟩ = some (.int .i64 bl) ∧ W.cell? ⟨w.heap.size + 1, 1, none⟩ = some (.int .i64 bh)) (by kernel_rfl) ?_ (fun hHeld => ?_)
  · exact ⟨(KB.below N0.out.1 D0.out).c0, (KB.below N0.out.1 D0.out).c1, (KB.below N0.out.2.1 D0.out).c0, (KB.below N0.out.2.1 D0.out).c1⟩
  refine wpAnyH_take (i := 0) (v := ?_) rfl (by kernel_rfl) (by kernel_rfl) (by kernel_rfl) (fun _ _ _ h => h) (Or.inl ⟨by rfl, ?_⟩) (by assumption) ?_
  rotate_left
  · intro W hSw
    try dsimp only at hSw
    go_simp
    try with_reducible rfl
  refine wpAnyH_take (i := 2) (v := ?_) rfl (by kernel_rfl) (by kernel_rfl) (by kernel_rfl) (fun _ _ _ h => h) (Or.inl ⟨by rfl, ?_⟩) (by assumption) ?_
  rotate_left
  · intro W hSw
    try dsimp only at hSw
    go_simp
    try with_reducible rfl
  refine wpAnyH_take (i := 3) (v := ?_) rfl (by kernel_rfl) (by kernel_rfl) (by kernel_rfl) (fun _ _ _ h => h) (Or.inl ⟨by rfl, ?_⟩) (by assumption) ?_
  rotate_left
  · intro W hSw
    try dsimp only at hSw
    go_simp
    try with_reducible rfl
  refine wpAnyH_ready (rs := [1]) (by kernel_rfl) (by simp) ?_
  refine AllReadyH.cons rfl (fun K hK => ?_) AllReadyH.nil
  go_simp
  refine (rule_4 _).mono ?_
  rintro e v9 ⟨rfl, rfl⟩
  refine hK.out _ _ (by assumption) (fun hHeld2 => ?_)
  clear hK K
  refine wpAnyH_ready (rs := [4]) (by kernel_rfl) (by simp) ?_
  refine AllReadyH.cons rfl (fun K hK => ?_) AllReadyH.nil
  go_simp
  refine (byRule_onWords 4 _ _ _ _ _ (Lib.hid (HT.out.bel (Below.tr N0.out.2.2.2 (Below.drew D0.out)))) (Lib.hid (by omega))).mono ?_
  rintro e y1 ⟨rfl, hb⟩
  have Y1 := Lib.hid (Below.tr (Below.drew D0.out) hb)
  have Y1z := Y1.out.size
  have Y1_r := Lib.hid (KB.below (KB.drewn N0.out.2.2.1) hb)
  have Y1_rx := Y1_r.out.c0
  have Y1_ry := Y1_r.out.c1
  have Y1_rf := Y1_r.out.f 0
  have Y1_rh := Y1_r.out.f 1
  have Y1_rl := Y1_r.out.lt
  clear hb
  refine hK.out _ _ ⟨(KB.below N0.out.1 Y1.out).c0, (KB.below N0.out.1 Y1.out).c1, (KB.below N0.out.2.1 Y1.out).c0, (KB.below N0.out.2.1 Y1.out).c1⟩ (fun hHeld2 => ?_)
  clear hK K
  refine wpAnyH_take (i := 5) (v := ?_) rfl (by kernel_rfl) (by kernel_rfl) (by kernel_rfl) (fun _ _ _ h => h) (Or.inl ⟨by rfl, ?_⟩) (by assumption) ?_
  rotate_left
  · intro W hSw
    try dsimp only at hSw
    go_simp
    try with_reducible rfl
  refine wpAnyH_take (i := 6) (v := ?_) rfl (by kernel_rfl) (by kernel_rfl) (by kernel_rfl) (fun _ _ _ h => h) (Or.inl ⟨by rfl, ?_⟩) (by assumption) ?_
  rotate_left
  · intro W hSw
    try dsimp only at hSw
    go_simp
    try with_reducible rfl
  refine wpAnyH_ready (rs := [7]) (by kernel_rfl) (by simp) ?_
  refine AllReadyH.cons rfl (fun K hK => ?_) AllReadyH.nil
  go_simp
  refine hK.out _ _ ⟨(KB.far2 (KB.below N0.out.1 Y1.out) (by omega)).c0, (KB.far2 (KB.below N0.out.1 Y1.out) (by omega)).c1, (KB.far2 (KB.below N0.out.2.1 Y1.out) (by omega)).c0, (KB.far2 (KB.below N0.out.2.1 Y1.out) (by omega)).c1⟩ (fun hHeld2 => ?_)
  clear hK K
  refine wpAnyH_ready (rs := [8]) (by kernel_rfl) (by simp) ?_
  refine AllReadyH.cons rfl (fun K hK => ?_) AllReadyH.nil
  go_simp
  refine hK.out _ _ ⟨(KB.far2 (KB.below N0.out.1 Y1.out) (by omega)).c0, (KB.far2 (KB.below N0.out.1 Y1.out) (by omega)).c1, (KB.far2 (KB.below N0.out.2.1 Y1.out) (by omega)).c0, (KB.far2 (KB.below N0.out.2.1 Y1.out) (by omega)).c1⟩ (fun hHeld2 => ?_)
  clear hK K
  refine wpAnyH_done (by kernel_rfl) ?_ _
  go_wp2
  refine kshut1 (ok := (ruleA (doK 4) al ah bl bh).2) ((KB.below N0.out.2.2.1 Y1.out).set2) (belowK2 (Below.tr N0.out.2.2.2 Y1.out) (by omega)) ?_ (by rw [E.out])
  intro c0 c1; simp [results, Tryd.results9, go_sem, c0, c1]

set_option maxRecDepth 100000 in
set_option maxHeartbeats 4000000 in
theorem doI_5 (al ah bl bh : Int) (w : World) (HT : Hid (PowTab w)) :
    Calls Tryd.prog 9 #[.int .i64 5, .agg #[.int .i64 al, .int .i64 ah], .agg #[.int .i64 bl, .int .i64 bh]] w fun e w' => e = .returned (.tuple #[.agg #[.int .i64 (doA 5 al ah bl bh).1.v, .int .i64 (doA 5 al ah bl bh).1.m], .bool (doA 5 al ah bl bh).2]) ∧ Below w.heap.size w w' := by
  have E : Hid (doA 5 al ah bl bh = ruleA (doK 5) al ah bl bh) := Lib.hid (doA_rule (op := 5) rfl)
  have N0 := three_newk w (al) (ah) (bl) (bh) (0) (0)
  go_enter Tryd.func9, Tryd.ntmps9
  go_wp2_with fail
  unfold kO at N0
  generalize (((w.alloc (.cells #[.int .i64 al, .int .i64 ah] 24)).alloc (.cells #[.int .i64 bl, .int .i64 bh] 24)).alloc (.cells #[.int .i64 0, .int .i64 0] 24)) = v0 at N0 ⊢
  have D0 := Lib.hid (Below.refl v0.heap.size v0)
  have lr := N0.out.2.2.1.lt
  refine wp_region_held_drew (S := fun W => W.cell? ⟨w.heap.size, 0, none⟩ = some (.int .i64 al) ∧ W.cell? ⟨w.heap.size, 1, none⟩ = some (.int .i64 ah) ∧ W.cell? ⟨w.heap.size + 1, 0, none⟩ = some (.int .i64 bl) ∧ W.cell? ⟨w.heap.size + 1, 1, none⟩ = some (.int .i64 bh)) (by kernel_rfl) ?_ (fun hHeld => ?_)
  · exact ⟨(KB.below N0.out.1 D0.out).c0, (KB.below N0.out.1 D0.out).c1, (KB.below N0.out.2.1 D0.out).c0, (KB.below N0.out.2.1 D0.out).c1⟩
  refine wpAnyH_take (i := 0) (v := ?_) rfl (by kernel_rfl) (by kernel_rfl) (by kernel_rfl) (fun _ _ _ h => h) (Or.inl ⟨by rfl, ?_⟩) (by assumption) ?_
  rotate_left
  · intro W hSw
    try dsimp only at hSw
    go_simp
    try with_reducible rfl
  refine wpAnyH_take (i := 2) (v := ?_) rfl (by kernel_rfl) (by kernel_rfl) (by kernel_rfl) (fun _ _ _ h => h) (Or.inl ⟨by rfl, ?_⟩) (by assumption) ?_
  rotate_left
  · intro W hSw
    try dsimp only at hSw
    go_simp
    try with_reducible rfl
  refine wpAnyH_take (i := 3) (v := ?_) rfl (by kernel_rfl) (by kernel_rfl) (by kernel_rfl) (fun _ _ _ h => h) (Or.inl ⟨by rfl, ?_⟩) (by assumption) ?_
  rotate_left
  · intro W hSw
    try dsimp only at hSw
    go_simp
    try with_reducible rfl
  refine wpAnyH_ready (rs := [1]) (by kernel_rfl) (by simp) ?_
  refine AllReadyH.cons rfl (fun K hK => ?_) AllReadyH.nil
  go_simp
  refine (rule_5 _).mono ?_
  rintro e v9 ⟨rfl, rfl⟩
  refine hK.out _ _ (by assumption) (fun hHeld2 => ?_)
  clear hK K
  refine wpAnyH_ready (rs := [4]) (by kernel_rfl) (by simp) ?_
  refine AllReadyH.cons rfl (fun K hK => ?_) AllReadyH.nil
  go_simp
  refine (byRule_onWords 5 _ _ _ _ _ (Lib.hid (HT.out.bel (Below.tr N0.out.2.2.2 (Below.drew D0.out)))) (Lib.hid (by omega))).mono ?_
  rintro e y1 ⟨rfl, hb⟩
  have Y1 := Lib.hid (Below.tr (Below.drew D0.out) hb)
  have Y1z := Y1.out.size
  have Y1_r := Lib.hid (KB.below (KB.drewn N0.out.2.2.1) hb)
  have Y1_rx := Y1_r.out.c0
  have Y1_ry := Y1_r.out.c1
  have Y1_rf := Y1_r.out.f 0
  have Y1_rh := Y1_r.out.f 1
  have Y1_rl := Y1_r.out.lt
  clear hb
  refine hK.out _ _ ⟨(KB.below N0.out.1 Y1.out).c0, (KB.below N0.out.1 Y1.out).c1, (KB.below N0.out.2.1 Y1.out).c0, (KB.below N0.out.2.1 Y1.out).c1⟩ (fun hHeld2 => ?_)
  clear hK K
  refine wpAnyH_take (i := 5) (v := ?_) rfl (by kernel_rfl) (by kernel_rfl) (by kernel_rfl) (fun _ _ _ h => h) (Or.inl ⟨by rfl, ?_⟩) (by assumption) ?_
  rotate_left
  · intro W hSw
    try dsimp only at hSw
    go_simp
    try with_reducible rfl
  refine wpAnyH_take (i := 6) (v := ?_) rfl (by kernel_rfl) (by kernel_rfl) (by kernel_rfl) (fun _ _ _ h => h) (Or.inl ⟨by rfl, ?_⟩) (by assumption) ?_
  rotate_left
  · intro W hSw
    try dsimp only at hSw
    go_simp
    try with_reducible rfl
  refine wpAnyH_ready (rs := [7]) (by kernel_rfl) (by simp) ?_
  refine AllReadyH.cons rfl (fun K hK => ?_) AllReadyH.nil
  go_simp
  refine hK.out _ _ ⟨(KB.far2 (KB.below N0.out.1 Y1.out) (by omega)).c0, (KB.far2 (KB.below N0.out.1 Y1.out) (by omega)).c1, (KB.far2 (KB.below N0.out.2.1 Y1.out) (by omega)).c0, (KB.far2 (KB.below N0.out.2.1 Y1.out) (by omega)).c1⟩ (fun hHeld2 => ?_)
  clear hK K
  refine wpAnyH_ready (rs := [8]) (by kernel_rfl) (by simp) ?_
  refine AllReadyH.cons rfl (fun K hK => ?_) AllReadyH.nil
  go_simp
  refine hK.out _ _ ⟨(KB.far2 (KB.below N0.out.1 Y1.out) (by omega)).c0, (KB.far2 (KB.below N0.out.1 Y1.out) (by omega)).c1, (KB.far2 (KB.below N0.out.2.1 Y1.out) (by omega)).c0, (KB.far2 (KB.below N0.out.2.1 Y1.out) (by omega)).c1⟩ (fun hHeld2 => ?_)
  clear hK K
  refine wpAnyH_done (by kernel_rfl) ?_ _
  go_wp2
  refine kshut1 (ok := (ruleA (doK 5) al ah bl bh).2) ((KB.below N0.out.2.2.1 Y1.out).set2) (belowK2 (Below.tr N0.out.2.2.2 Y1.out) (by omega)) ?_ (by rw [E.out])
  intro c0 c1; simp [results, Tryd.results9, go_sem, c0, c1]

set_option maxRecDepth 100000 in
set_option maxHeartbeats 4000000 in
theorem doI_6 (al ah bl bh : Int) (w : World) (HT : Hid (PowTab w)) :
    Calls Tryd.prog 9 #[.int .i64 6, .agg #[.int .i64 al, .int .i64 ah], .agg #[.int .i64 bl, .int .i64 bh]] w fun e w' => e = .returned (.tuple #[.agg #[.int .i64 (doA 6 al ah bl bh).1.v, .int .i64 (doA 6 al ah bl bh).1.m], .bool (doA 6 al ah bl bh).2]) ∧ Below w.heap.size w w' := by
  have E : Hid (doA 6 al ah bl bh = ruleA (doK 6) al ah bl bh) := Lib.hid (doA_rule (op := 6) rfl)
  have N0 := three_newk w (al) (ah) (bl) (bh) (0) (0)
  go_enter Tryd.func9, Tryd.ntmps9
  go_wp2_with fail
  unfold kO at N0
  generalize (((w.alloc (.cells #[.int .i64 al, .int .i64 ah] 24)).alloc (.cells #[.int .i64 bl, .int .i64 bh] 24)).alloc (.cells #[.int .i64 0, .int .i64 0] 24)) = v0 at N0 ⊢
  have D0 := Lib.hid (Below.refl v0.heap.size v0)
  have lr := N0.out.2.2.1.lt
  refine wp_region_held_drew (S := fun W => W.cell? ⟨w.heap.size, 0, none⟩ = some (.int .i64 al) ∧ W.cell? ⟨w.heap.size, 1, none⟩ = some (.int .i64 ah) ∧ W.cell? ⟨w.heap.size + 1, 0, none⟩ = some (.int .i64 bl) ∧ W.cell? ⟨w.heap.size + 1, 1, none⟩ = some (.int .i64 bh)) (by kernel_rfl) ?_ (fun hHeld => ?_)
  · exact ⟨(KB.below N0.out.1 D0.out).c0, (KB.below N0.out.1 D0.out).c1, (KB.below N0.out.2.1 D0.out).c0, (KB.below N0.out.2.1 D0.out).c1⟩
  refine wpAnyH_take (i := 0) (v := ?_) rfl (by kernel_rfl) (by kernel_rfl) (by kernel_rfl) (fun _ _ _ h => h) (Or.inl ⟨by rfl, ?_⟩) (by assumption) ?_
  rotate_left
  · intro W hSw
    try dsimp only at hSw
    go_simp
    try with_reducible rfl
  refine wpAnyH_take (i := 2) (v := ?_) rfl (by kernel_rfl) (by kernel_rfl) (by kernel_rfl) (fun _ _ _ h => h) (Or.inl ⟨by rfl, ?_⟩) (by assumption) ?_
  rotate_left
  · intro W hSw
    try dsimp only at hSw
    go_simp
    try with_reducible rfl
  refine wpAnyH_take (i := 3) (v := ?_) rfl (by kernel_rfl) (by kernel_rfl) (by kernel_rfl) (fun _ _ _ h => h) (Or.inl ⟨by rfl, ?_⟩) (by assumption) ?_
  rotate_left
  · intro W hSw
    try dsimp only at hSw
    go_simp
    try with_reducible rfl
  refine wpAnyH_ready (rs := [1]) (by kernel_rfl) (by simp) ?_
  refine AllReadyH.cons rfl (fun K hK => ?_) AllReadyH.nil
  go_simp
  refine (rule_6 _).mono ?_
  rintro e v9 ⟨rfl, rfl⟩
  refine hK.out _ _ (by assumption) (fun hHeld2 => ?_)
  clear hK K
  refine wpAnyH_ready (rs := [4]) (by kernel_rfl) (by simp) ?_
  refine AllReadyH.cons rfl (fun K hK => ?_) AllReadyH.nil
  go_simp
  refine (byRule_bitByBit 6 _ _ _ _ _ (Lib.hid (HT.out.bel (Below.tr N0.out.2.2.2 (Below.drew D0.out)))) (Lib.hid (by omega))).mono ?_
  rintro e y1 ⟨rfl, hb⟩
  have Y1 := Lib.hid (Below.tr (Below.drew D0.out) hb)
  have Y1z := Y1.out.size
  have Y1_r := Lib.hid (KB.below (KB.drewn N0.out.2.2.1) hb)
  have Y1_rx := Y1_r.out.c0
  have Y1_ry := Y1_r.out.c1
  have Y1_rf := Y1_r.out.f 0
  have Y1_rh := Y1_r.out.f 1
  have Y1_rl := Y1_r.out.lt
  clear hb
  refine hK.out _ _ ⟨(KB.below N0.out.1 Y1.out).c0, (KB.below N0.out.1 Y1.out).c1, (KB.below N0.out.2.1 Y1.out).c0, (KB.below N0.out.2.1 Y1.out).c1⟩ (fun hHeld2 => ?_)
  clear hK K
  refine wpAnyH_take (i := 5) (v := ?_) rfl (by kernel_rfl) (by kernel_rfl) (by kernel_rfl) (fun _ _ _ h => h) (Or.inl ⟨by rfl, ?_⟩) (by assumption) ?_
  rotate_left
  · intro W hSw
    try dsimp only at hSw
    go_simp
    try with_reducible rfl
  refine wpAnyH_take (i := 6) (v := ?_) rfl (by kernel_rfl) (by kernel_rfl) (by kernel_rfl) (fun _ _ _ h => h) (Or.inl ⟨by rfl, ?_⟩) (by assumption) ?_
  rotate_left
  · intro W hSw
    try dsimp only at hSw
    go_simp
    try with_reducible rfl
  refine wpAnyH_ready (rs := [7]) (by kernel_rfl) (by simp) ?_
  refine AllReadyH.cons rfl (fun K hK => ?_) AllReadyH.nil
  go_simp
  refine hK.out _ _ ⟨(KB.far2 (KB.below N0.out.1 Y1.out) (by omega)).c0, (KB.far2 (KB.below N0.out.1 Y1.out) (by omega)).c1, (KB.far2 (KB.below N0.out.2.1 Y1.out) (by omega)).c0, (KB.far2 (KB.below N0.out.2.1 Y1.out) (by omega)).c1⟩ (fun hHeld2 => ?_)
  clear hK K
  refine wpAnyH_ready (rs := [8]) (by kernel_rfl) (by simp) ?_
  refine AllReadyH.cons rfl (fun K hK => ?_) AllReadyH.nil
  go_simp
  refine hK.out _ _ ⟨(KB.far2 (KB.below N0.out.1 Y1.out) (by omega)).c0, (KB.far2 (KB.below N0.out.1 Y1.out) (by omega)).c1, (KB.far2 (KB.below N0.out.2.1 Y1.out) (by omega)).c0, (KB.far2 (KB.below N0.out.2.1 Y1.out) (by omega)).c1⟩ (fun hHeld2 => ?_)
  clear hK K
  refine wpAnyH_done (by kernel_rfl) ?_ _
  go_wp2
  refine kshut1 (ok := (ruleA (doK 6) al ah bl bh).2) ((KB.below N0.out.2.2.1 Y1.out).set2) (belowK2 (Below.tr N0.out.2.2.2 Y1.out) (by omega)) ?_ (by rw [E.out])
  intro c0 c1; simp [results, Tryd.results9, go_sem, c0, c1]

set_option maxRecDepth 100000 in
set_option maxHeartbeats 4000000 in
theorem doI_7 (al ah bl bh : Int) (w : World) (HT : Hid (PowTab w)) :
    Calls Tryd.prog 9 #[.int .i64 7, .agg #[.int .i64 al, .int .i64 ah], .agg #[.int .i64 bl, .int .i64 bh]] w fun e w' => e = .returned (.tuple #[.agg #[.int .i64 (doA 7 al ah bl bh).1.v, .int .i64 (doA 7 al ah bl bh).1.m], .bool (doA 7 al ah bl bh).2]) ∧ Below w.heap.size w w' := by
  have E : Hid (doA 7 al ah bl bh = ruleA (doK 7) al ah bl bh) := Lib.hid (doA_rule (op := 7) rfl)
  have N0 := three_newk w (al) (ah) (bl) (bh) (0) (0)
  go_enter Tryd.func9, Tryd.ntmps9
  go_wp2_with fail
  unfold kO at N0
  generalize (((w.alloc (.cells #[.int .i64 al, .int .i64 ah] 24)).alloc (.cells #[.int .i64 bl, .int .i64 bh] 24)).alloc (.cells #[.int .i64 0, .int .i64 0] 24)) = v0 at N0 ⊢
  have D0 := Lib.hid (Below.refl v0.heap.size v0)
  have lr := N0.out.2.2.1.lt
  refine wp_region_held_drew (S := fun W => W.cell? ⟨w.heap.size, 0, none⟩ = some (.int .i64 al) ∧ W.cell? ⟨w.heap.size, 1, none⟩ = some (.int .i64 ah) ∧ W.cell? ⟨w.heap.size + 1, 0, none⟩ = some (.int .i64 bl) ∧ W.cell? ⟨w.heap.size + 1, 1, none⟩ = some (.int .i64 bh)) (by kernel_rfl) ?_ (fun hHeld => ?_)
  · exact ⟨(KB.below N0.out.1 D0.out).c0, (KB.below N0.out.1 D0.out).c1, (KB.below N0.out.2.1 D0.out).c0, (KB.below N0.out.2.1 D0.out).c1⟩
  refine wpAnyH_take (i := 0) (v := ?_) rfl (by kernel_rfl) (by kernel_rfl) (by kernel_rfl) (fun _ _ _ h => h) (Or.inl ⟨by rfl, ?_⟩) (by assumption) ?_
  rotate_left
  · intro W hSw
    try dsimp only at hSw
    go_simp
    try with_reducible rfl
  refine wpAnyH_take (i := 2) (v := ?_) rfl (by kernel_rfl) (by kernel_rfl) (by kernel_rfl) (fun _ _ _ h => h) (Or.inl ⟨by rfl, ?_⟩) (by assumption) ?_
  rotate_left
  · intro W hSw
    try dsimp only at hSw
    go_simp
    try with_reducible rfl
  refine wpAnyH_take (i := 3) (v := ?_) rfl (by kernel_rfl) (by kernel_rfl) (by kernel_rfl) (fun _ _ _ h => h) (Or.inl ⟨by rfl, ?_⟩) (by assumption) ?_
  rotate_left
  · intro W hSw
    try dsimp only at hSw
    go_simp
    try with_reducible rfl
  refine wpAnyH_ready (rs := [1]) (by kernel_rfl) (by simp) ?_
  refine AllReadyH.cons rfl (fun K hK => ?_) AllReadyH.nil
  go_simp
  refine (rule_7 _).mono ?_
  rintro e v9 ⟨rfl, rfl⟩
  refine hK.out _ _ (by assumption) (fun hHeld2 => ?_)
  clear hK K
  refine wpAnyH_ready (rs := [4]) (by kernel_rfl) (by simp) ?_
  refine AllReadyH.cons rfl (fun K hK => ?_) AllReadyH.nil
  go_simp
  refine (byRule_bitByBit 7 _ _ _ _ _ (Lib.hid (HT.out.bel (Below.tr N0.out.2.2.2 (Below.drew D0.out)))) (Lib.hid (by omega))).mono ?_
  rintro e y1 ⟨rfl, hb⟩
  have Y1 := Lib.hid (Below.tr (Below.drew D0.out) hb)
  have Y1z := Y1.out.size
  have Y1_r := Lib.hid (KB.below (KB.drewn N0.out.2.2.1) hb)
  have Y1_rx := Y1_r.out.c0
  have Y1_ry := Y1_r.out.c1
  have Y1_rf := Y1_r.out.f 0
  have Y1_rh := Y1_r.out.f 1
  have Y1_rl := Y1_r.out.lt
  clear hb
  refine hK.out _ _ ⟨(KB.below N0.out.1 Y1.out).c0, (KB.below N0.out.1 Y1.out).c1, (KB.below N0.out.2.1 Y1.out).c0, (KB.below N0.out.2.1 Y1.out).c1⟩ (fun hHeld2 => ?_)
  clear hK K
  refine wpAnyH_take (i := 5) (v := ?_) rfl (by kernel_rfl) (by kernel_rfl) (by kernel_rfl) (fun _ _ _ h => h) (Or.inl ⟨by rfl, ?_⟩) (by assumption) ?_
  rotate_left
  · intro W hSw
    try dsimp only at hSw
    go_simp
    try with_reducible rfl
  refine wpAnyH_take (i := 6) (v := ?_) rfl (by kernel_rfl) (by kernel_rfl) (by kernel_rfl) (fun _ _ _ h => h) (Or.inl ⟨by rfl, ?_⟩) (by assumption) ?_
  rotate_left
  · intro W hSw
    try dsimp only at hSw
    go_simp
    try with_reducible rfl
  refine wpAnyH_ready (rs := [7]) (by kernel_rfl) (by simp) ?_
  refine AllReadyH.cons rfl (fun K hK => ?_) AllReadyH.nil
  go_simp
  refine hK.out _ _ ⟨(KB.far2 (KB.below N0.out.1 Y1.out) (by omega)).c0, (KB.far2 (KB.below N0.out.1 Y1.out) (by omega)).c1, (KB.far2 (KB.below N0.out.2.1 Y1.out) (by omega)).c0, (KB.far2 (KB.below N0.out.2.1 Y1.out) (by omega)).c1⟩ (fun hHeld2 => ?_)
  clear hK K
  refine wpAnyH_ready (rs := [8]) (by kernel_rfl) (by simp) ?_
  refine AllReadyH.cons rfl (fun K hK => ?_) AllReadyH.nil
  go_simp
  refine hK.out _ _ ⟨(KB.far2 (KB.below N0.out.1 Y1.out) (by omega)).c0, (KB.far2 (KB.below N0.out.1 Y1.out) (by omega)).c1, (KB.far2 (KB.below N0.out.2.1 Y1.out) (by omega)).c0, (KB.far2 (KB.below N0.out.2.1 Y1.out) (by omega)).c1⟩ (fun hHeld2 => ?_)
  clear hK K
  refine wpAnyH_done (by kernel_rfl) ?_ _
  go_wp2
  refine kshut1 (ok := (ruleA (doK 7) al ah bl bh).2) ((KB.below N0.out.2.2.1 Y1.out).set2) (belowK2 (Below.tr N0.out.2.2.2 Y1.out) (by omega)) ?_ (by rw [E.out])
  intro c0 c1; simp [results, Tryd.results9, go_sem, c0, c1]

set_option maxRecDepth 100000 in
set_option maxHeartbeats 4000000 in
theorem doI_8 (al ah bl bh : Int) (w : World) (HT : Hid (PowTab w)) :
    Calls Tryd.prog 9 #[.int .i64 8, .agg #[.int .i64 al, .int .i64 ah], .agg #[.int .i64 bl, .int .i64 bh]] w fun e w' => e = .returned (.tuple #[.agg #[.int .i64 (doA 8 al ah bl bh).1.v, .int .i64 (doA 8 al ah bl bh).1.m], .bool (doA 8 al ah bl bh).2]) ∧ Below w.heap.size w w' := by
  have E : Hid (doA 8 al ah bl bh = ruleA (doK 8) al ah bl bh) := Lib.hid (doA_rule (op := 8) rfl)
  have N0 := three_newk w (al) (ah) (bl) (bh) (0) (0)
  go_enter Tryd.func9, Tryd.ntmps9
  go_wp2_with fail
  unfold kO at N0
  generalize (((w.alloc (.cells #[.int .i64 al, .int .i64 ah] 24)).alloc (.cells #[.int .i64 bl, .int .i64 bh] 24)).alloc (.cells #[.int .i64 0, .int .i64 0] 24)) = v0 at N0 ⊢
  have D0 := Lib.hid (Below.refl v0.heap.size v0)
  have lr := N0.out.2.2.1.lt
  refine wp_region_held_drew (S := fun W => W.cell? ⟨w.heap.size, 0, none⟩ = some (.int .i64 al) ∧ W.cell? ⟨w.heap.size, 1, none⟩ = some (.int .i64 ah) ∧ W.cell? ⟨w.heap.size + 1, 0, none⟩ = some (.int .i64 bl) ∧ W.cell? ⟨w.heap.size + 1, 1, none⟩ = some (.int .i64 bh)) (by kernel_rfl) ?_ (fun hHeld => ?_)
  · exact ⟨(KB.below N0.out.1 D0.out).c0, (KB.below N0.out.1 D0.out).c1, (KB.below N0.out.2.1 D0.out).c0, (KB.below N0.out.2.1 D0.out).c1⟩
  refine wpAnyH_take (i := 0) (v := ?_) rfl (by kernel_rfl) (by kernel_rfl) (by kernel_rfl) (fun _ _ _ h => h) (Or.inl ⟨by rfl, ?_⟩) (by assumption) ?_
  rotate_left
  · intro W hSw
    try dsimp only at hSw
    go_simp
    try with_reducible rfl
  refine wpAnyH_take (i := 2) (v := ?_) rfl (by kernel_rfl) (by kernel_rfl) (by kernel_rfl) (fun _ _ _ h => h) (Or.inl ⟨by rfl, ?_⟩) (by assumption) ?_
  rotate_left
  · intro W hSw
    try dsimp only at hSw
    go_simp
    try with_reducible rfl
  refine wpAnyH_take (i := 3) (v := ?_) rfl (by kernel_rfl) (by kernel_rfl) (by kernel_rfl) (fun _ _ _ h => h) (Or.inl ⟨by rfl, ?_⟩) (by assumption) ?_
  rotate_left
  · intro W hSw
    try dsimp only at hSw
    go_simp
    try with_reducible rfl
  refine wpAnyH_ready (rs := [1]) (by kernel_rfl) (by simp) ?_
  refine AllReadyH.cons rfl (fun K hK => ?_) AllReadyH.nil
  go_simp
  refine (rule_8 _).mono ?_
  rintro e v9 ⟨rfl, rfl⟩
  refine hK.out _ _ (by assumption) (fun hHeld2 => ?_)
  clear hK K
  refine wpAnyH_ready (rs := [4]) (by kernel_rfl) (by simp) ?_
  refine AllReadyH.cons rfl (fun K hK => ?_) AllReadyH.nil
  go_simp
  refine (byRule_bitByBit 8 _ _ _ _ _ (Lib.hid (HT.out.bel (Below.tr N0.out.2.2.2 (Below.drew D0.out)))) (Lib.hid (by omega))).mono ?_
  rintro e y1 ⟨rfl, hb⟩
  have Y1 := Lib.hid (Below.tr (Below.drew D0.out) hb)
  have Y1z := Y1.out.size
  have Y1_r := Lib.hid (KB.below (KB.drewn N0.out.2.2.1) hb)
  have Y1_rx := Y1_r.out.c0
  have Y1_ry := Y1_r.out.c1
  have Y1_rf := Y1_r.out.f 0
  have Y1_rh := Y1_r.out.f 1
  have Y1_rl := Y1_r.out.lt
  clear hb
  refine hK.out _ _ ⟨(KB.below N0.out.1 Y1.out).c0, (KB.below N0.out.1 Y1.out).c1, (KB.below N0.out.2.1 Y1.out).c0, (KB.below N0.out.2.1 Y1.out).c1⟩ (fun hHeld2 => ?_)
  clear hK K
  refine wpAnyH_take (i := 5) (v := ?_) rfl (by kernel_rfl) (by kernel_rfl) (by kernel_rfl) (fun _ _ _ h => h) (Or.inl ⟨by rfl, ?_⟩) (by assumption) ?_
  rotate_left
  · intro W hSw
    try dsimp only at hSw
    go_simp
    try with_reducible rfl
  refine wpAnyH_take (i := 6) (v := ?_) rfl (by kernel_rfl) (by kernel_rfl) (by kernel_rfl) (fun _ _ _ h => h) (Or.inl ⟨by rfl, ?_⟩) (by assumption) ?_
  rotate_left
  · intro W hSw
    try dsimp only at hSw
    go_simp
    try with_reducible rfl
  refine wpAnyH_ready (rs := [7]) (by kernel_rfl) (by simp) ?_
  refine AllReadyH.cons rfl (fun K hK => ?_) AllReadyH.nil
  go_simp
  refine hK.out _ _ ⟨(KB.far2 (KB.below N0.out.1 Y1.out) (by omega)).c0, (KB.far2 (KB.below N0.out.1 Y1.out) (by omega)).c1, (KB.far2 (KB.below N0.out.2.1 Y1.out) (by omega)).c0, (KB.far2 (KB.below N0.out.2.1 Y1.out) (by omega)).c1⟩ (fun hHeld2 => ?_)
  clear hK K
  refine wpAnyH_ready (rs := [8]) (by kernel_rfl) (by simp) ?_
  refine AllReadyH.cons rfl (fun K hK => ?_) AllReadyH.nil
  go_simp
  refine hK.out _ _ ⟨(KB.far2 (KB.below N0.out.1 Y1.out) (by omega)).c0, (KB.far2 (KB.below N0.out.1 Y1.out) (by omega)).c1, (KB.far2 (KB.below N0.out.2.1 Y1.out) (by omega)).c0, (KB.far2 (KB.below N0.out.2.1 Y1.out) (by omega)).c1⟩ (fun hHeld2 => ?_)
  clear hK K
  refine wpAnyH_done (by kernel_rfl) ?_ _
  go_wp2
  refine kshut1 (ok := (ruleA (doK 8) al ah bl bh).2) ((KB.below N0.out.2.2.1 Y1.out).set2) (belowK2 (Below.tr N0.out.2.2.2 Y1.out) (by omega)) ?_ (by rw [E.out])
  intro c0 c1; simp [results, Tryd.results9, go_sem, c0, c1]

set_option maxRecDepth 100000 in
set_option maxHeartbeats 4000000 in
theorem doI_9 (al ah bl bh : Int) (w : World) (HT : Hid (PowTab w)) :
    Calls Tryd.prog 9 #[.int .i64 9, .agg #[.int .i64 al, .int .i64 ah], .agg #[.int .i64 bl, .int .i64 bh]] w fun e w' => e = .returned (.tuple #[.agg #[.int .i64 (doA 9 al ah bl bh).1.v, .int .i64 (doA 9 al ah bl bh).1.m], .bool (doA 9 al ah bl bh).2]) ∧ Below w.heap.size w w' := by
  have E : Hid (doA 9 al ah bl bh = ruleA (doK 9) al ah bl bh) := Lib.hid (doA_rule (op := 9) rfl)
  have N0 := three_newk w (al) (ah) (bl) (bh) (0) (0)
  go_enter Tryd.func9, Tryd.ntmps9
  go_wp2_with fail
  unfold kO at N0
  generalize (((w.alloc (.cells #[.int .i64 al, .int .i64 ah] 24)).alloc (.cells #[.int .i64 bl, .int .i64 bh] 24)).alloc (.cells #[.int .i64 0, .int .i64 0] 24)) = v0 at N0 ⊢
  have D0 := Lib.hid (Below.refl v0.heap.size v0)
  have lr := N0.out.2.2.1.lt
  refine wp_region_held_drew (S := fun W => W.cell? ⟨w.heap.size, 0, none⟩ = some (.int .i64 al) ∧ W.cell? ⟨w.heap.size, 1, none⟩ = some (.int .i64 ah) ∧ W.cell? ⟨w.heap.size + 1, 0, none⟩ = some (.int .i64 bl) ∧ W.cell? ⟨w.heap.size + 1, 1, none⟩ = some (.int .i64 bh)) (by kernel_rfl) ?_ (fun hHeld => ?_)
  · exact ⟨(KB.below N0.out.1 D0.out).c0, (KB.below N0.out.1 D0.out).c1, (KB.below N0.out.2.1 D0.out).c0, (KB.below N0.out.2.1 D0.out).c1⟩
  refine wpAnyH_take (i := 0) (v := ?_) rfl (by kernel_rfl) (by kernel_rfl) (by kernel_rfl) (fun _ _ _ h => h) (Or.inl ⟨by rfl, ?_⟩) (by assumption) ?_
  rotate_left
  · intro W hSw
    try dsimp only at hSw
    go_simp
    try with_reducible rfl
  refine wpAnyH_take (i := 2) (v := ?_) rfl (by kernel_rfl) (by kernel_rfl) (by kernel_rfl) (fun _ _ _ h => h) (Or.inl ⟨by rfl, ?_⟩) (by assumption) ?_
  rotate_left
  · intro W hSw
    try dsimp only at hSw
    go_simp
    try with_reducible rfl
  refine wpAnyH_take (i := 3) (v := ?_) rfl (by kernel_rfl) (by kernel_rfl) (by kernel_rfl) (fun _ _ _ h => h) (Or.inl ⟨by rfl, ?_⟩) (by assumption) ?_
  rotate_left
  · intro W hSw
    try dsimp only at hSw
    go_simp
    try with_reducible rfl
  refine wpAnyH_ready (rs := [1]) (by kernel_rfl) (by simp) ?_
  refine AllReadyH.cons rfl (fun K hK => ?_) AllReadyH.nil
  go_simp
  refine (rule_9 _).mono ?_
  rintro e v9 ⟨rfl, rfl⟩
  refine hK.out _ _ (by assumption) (fun hHeld2 => ?_)
  clear hK K
  refine wpAnyH_ready (rs := [4]) (by kernel_rfl) (by simp) ?_
  refine AllReadyH.cons rfl (fun K hK => ?_) AllReadyH.nil
  go_simp
  refine (byRule_shifted 9 _ _ _ _ _ (Lib.hid (HT.out.bel (Below.tr N0.out.2.2.2 (Below.drew D0.out)))) (Lib.hid (by omega))).mono ?_
  rintro e y1 ⟨rfl, hb⟩
  have Y1 := Lib.hid (Below.tr (Below.drew D0.out) hb)
  have Y1z := Y1.out.size
  have Y1_r := Lib.hid (KB.below (KB.drewn N0.out.2.2.1) hb)
  have Y1_rx := Y1_r.out.c0
  have Y1_ry := Y1_r.out.c1
  have Y1_rf := Y1_r.out.f 0
  have Y1_rh := Y1_r.out.f 1
  have Y1_rl := Y1_r.out.lt
  clear hb
  refine hK.out _ _ ⟨(KB.below N0.out.1 Y1.out).c0, (KB.below N0.out.1 Y1.out).c1, (KB.below N0.out.2.1 Y1.out).c0, (KB.below N0.out.2.1 Y1.out).c1⟩ (fun hHeld2 => ?_)
  clear hK K
  refine wpAnyH_take (i := 5) (v := ?_) rfl (by kernel_rfl) (by kernel_rfl) (by kernel_rfl) (fun _ _ _ h => h) (Or.inl ⟨by rfl, ?_⟩) (by assumption) ?_
  rotate_left
  · intro W hSw
    try dsimp only at hSw
    go_simp
    try with_reducible rfl
  refine wpAnyH_take (i := 6) (v := ?_) rfl (by kernel_rfl) (by kernel_rfl) (by kernel_rfl) (fun _ _ _ h => h) (Or.inl ⟨by rfl, ?_⟩) (by assumption) ?_
  rotate_left
  · intro W hSw
    try dsimp only at hSw
    go_simp
    try with_reducible rfl
  refine wpAnyH_ready (rs := [7]) (by kernel_rfl) (by simp) ?_
  refine AllReadyH.cons rfl (fun K hK => ?_) AllReadyH.nil
  go_simp
  refine hK.out _ _ ⟨(KB.far2 (KB.below N0.out.1 Y1.out) (by omega)).c0, (KB.far2 (KB.below N0.out.1 Y1.out) (by omega)).c1, (KB.far2 (KB.below N0.out.2.1 Y1.out) (by omega)).c0, (KB.far2 (KB.below N0.out.2.1 Y1.out) (by omega)).c1⟩ (fun hHeld2 => ?_)
  clear hK K
  refine wpAnyH_ready (rs := [8]) (by kernel_rfl) (by simp) ?_
  refine AllReadyH.cons rfl (fun K hK => ?_) AllReadyH.nil
  go_simp
  refine hK.out _ _ ⟨(KB.far2 (KB.below N0.out.1 Y1.out) (by omega)).c0, (KB.far2 (KB.below N0.out.1 Y1.out) (by omega)).c1, (KB.far2 (KB.below N0.out.2.1 Y1.out) (by omega)).c0, (KB.far2 (KB.below N0.out.2.1 Y1.out) (by omega)).c1⟩ (fun hHeld2 => ?_)
  clear hK K
  refine wpAnyH_done (by kernel_rfl) ?_ _
  go_wp2
  refine kshut1 (ok := (ruleA (doK 9) al ah bl bh).2) ((KB.below N0.out.2.2.1 Y1.out).set2) (belowK2 (Below.tr N0.out.2.2.2 Y1.out) (by omega)) ?_ (by rw [E.out])
  intro c0 c1; simp [results, Tryd.results9, go_sem, c0, c1]

set_option maxRecDepth 100000 in
set_option maxHeartbeats 4000000 in
theorem doI_10 (al ah bl bh : Int) (w : World) (HT : Hid (PowTab w)) :
    Calls Tryd.prog 9 #[.int .i64 10, .agg #[.int .i64 al, .int .i64 ah], .agg #[.int .i64 bl, .int .i64 bh]] w fun e w' => e = .returned (.tuple #[.agg #[.int .i64 (doA 10 al ah bl bh).1.v, .int .i64 (doA 10 al ah bl bh).1.m], .bool (doA 10 al ah bl bh).2]) ∧ Below w.heap.size w w' := by
  have E : Hid (doA 10 al ah bl bh = ruleA (doK 10) al ah bl bh) := Lib.hid (doA_rule (op := 10) rfl)
  have N0 := three_newk w (al) (ah) (bl) (bh) (0) (0)
  go_enter Tryd.func9, Tryd.ntmps9
  go_wp2_with fail
  unfold kO at N0
  generalize (((w.alloc (.cells #[.int .i64 al, .int .i64 ah] 24)).alloc (.cells #[.int .i64 bl, .int .i64 bh] 24)).alloc (.cells #[.int .i64 0, .int .i64 0] 24)) = v0 at N0 ⊢
  have D0 := Lib.hid (Below.refl v0.heap.size v0)
  have lr := N0.out.2.2.1.lt
  refine wp_region_held_drew (S := fun W => W.cell? ⟨w.heap.size, 0, none⟩ = some (.int .i64 al) ∧ W.cell? ⟨w.heap.size, 1, none⟩ = some (.int .i64 ah) ∧ W.cell? ⟨w.heap.size + 1, 0, none⟩ = some (.int .i64 bl) ∧ W.cell? ⟨w.heap.size + 1, 1, none⟩ = some (.int .i64 bh)) (by kernel_rfl) ?_ (fun hHeld => ?_)
  · exact ⟨(KB.below N0.out.1 D0.out).c0, (KB.below N0.out.1 D0.out).c1, (KB.below N0.out.2.1 D0.out).c0, (KB.below N0.out.2.1 D0.out).c1⟩
  refine wpAnyH_take (i := 0) (v := ?_) rfl (by kernel_rfl) (by kernel_rfl) (by kernel_rfl) (fun _ _ _ h => h) (Or.inl ⟨by rfl, ?_⟩) (by assumption) ?_
  rotate_left
  · intro W hSw
    try dsimp only at hSw
    go_simp
    try with_reducible rfl
  refine wpAnyH_take (i := 2) (v := ?_) rfl (by kernel_rfl) (by kernel_rfl) (by kernel_rfl) (fun _ _ _ h => h) (Or.inl ⟨by rfl, ?_⟩) (by assumption) ?_
  rotate_left
  · intro W hSw
    try dsimp only at hSw
    go_simp
    try with_reducible rfl
  refine wpAnyH_take (i := 3) (v := ?_) rfl (by kernel_rfl) (by kernel_rfl) (by kernel_rfl) (fun _ _ _ h => h) (Or.inl ⟨by rfl, ?_⟩) (by assumption) ?_
  rotate_left
  · intro W hSw
    try dsimp only at hSw
    go_simp
    try with_reducible rfl
  refine wpAnyH_ready (rs := [1]) (by kernel_rfl) (by simp) ?_
  refine AllReadyH.cons rfl (fun K hK => ?_) AllReadyH.nil
  go_simp
  refine (rule_10 _).mono ?_
  rintro e v9 ⟨rfl, rfl⟩
  refine hK.out _ _ (by assumption) (fun hHeld2 => ?_)
  clear hK K
  refine wpAnyH_ready (rs := [4]) (by kernel_rfl) (by simp) ?_
  refine AllReadyH.cons rfl (fun K hK => ?_) AllReadyH.nil
  go_simp
  refine (byRule_shifted 10 _ _ _ _ _ (Lib.hid (HT.out.bel (Below.tr N0.out.2.2.2 (Below.drew D0.out)))) (Lib.hid (by omega))).mono ?_
  rintro e y1 ⟨rfl, hb⟩
  have Y1 := Lib.hid (Below.tr (Below.drew D0.out) hb)
  have Y1z := Y1.out.size
  have Y1_r := Lib.hid (KB.below (KB.drewn N0.out.2.2.1) hb)
  have Y1_rx := Y1_r.out.c0
  have Y1_ry := Y1_r.out.c1
  have Y1_rf := Y1_r.out.f 0
  have Y1_rh := Y1_r.out.f 1
  have Y1_rl := Y1_r.out.lt
  clear hb
  refine hK.out _ _ ⟨(KB.below N0.out.1 Y1.out).c0, (KB.below N0.out.1 Y1.out).c1, (KB.below N0.out.2.1 Y1.out).c0, (KB.below N0.out.2.1 Y1.out).c1⟩ (fun hHeld2 => ?_)
  clear hK K
  refine wpAnyH_take (i := 5) (v := ?_) rfl (by kernel_rfl) (by kernel_rfl) (by kernel_rfl) (fun _ _ _ h => h) (Or.inl ⟨by rfl, ?_⟩) (by assumption) ?_
  rotate_left
  · intro W hSw
    try dsimp only at hSw
    go_simp
    try with_reducible rfl
  refine wpAnyH_take (i := 6) (v := ?_) rfl (by kernel_rfl) (by kernel_rfl) (by kernel_rfl) (fun _ _ _ h => h) (Or.inl ⟨by rfl, ?_⟩) (by assumption) ?_
  rotate_left
  · intro W hSw
    try dsimp only at hSw
    go_simp
    try with_reducible rfl
  refine wpAnyH_ready (rs := [7]) (by kernel_rfl) (by simp) ?_
  refine AllReadyH.cons rfl (fun K hK => ?_) AllReadyH.nil
  go_simp
  refine hK.out _ _ ⟨(KB.far2 (KB.below N0.out.1 Y1.out) (by omega)).c0, (KB.far2 (KB.below N0.out.1 Y1.out) (by omega)).c1, (KB.far2 (KB.below N0.out.2.1 Y1.out) (by omega)).c0, (KB.far2 (KB.below N0.out.2.1 Y1.out) (by omega)).c1⟩ (fun hHeld2 => ?_)
  clear hK K
  refine wpAnyH_ready (rs := [8]) (by kernel_rfl) (by simp) ?_
  refine AllReadyH.cons rfl (fun K hK => ?_) AllReadyH.nil
  go_simp
  refine hK.out _ _ ⟨(KB.far2 (KB.below N0.out.1 Y1.out) (by omega)).c0, (KB.far2 (KB.below N0.out.1 Y1.out) (by omega)).c1, (KB.far2 (KB.below N0.out.2.1 Y1.out) (by omega)).c0, (KB.far2 (KB.below N0.out.2.1 Y1.out) (by omega)).c1⟩ (fun hHeld2 => ?_)
  clear hK K
  refine wpAnyH_done (by kernel_rfl) ?_ _
  go_wp2
  refine kshut1 (ok := (ruleA (doK 10) al ah bl bh).2) ((KB.below N0.out.2.2.1 Y1.out).set2) (belowK2 (Below.tr N0.out.2.2.2 Y1.out) (by omega)) ?_ (by rw [E.out])
  intro c0 c1; simp [results, Tryd.results9, go_sem, c0, c1]

set_option maxRecDepth 100000 in
set_option maxHeartbeats 4000000 in
theorem doI_none (op al ah bl bh : Int) (w : World) (H : Hid (isOp op = false)) :
    Calls Tryd.prog 9 #[.int .i64 op, .agg #[.int .i64 al, .int .i64 ah], .agg #[.int .i64 bl, .int .i64 bh]] w fun e w' => e = .returned (.tuple #[.agg #[.int .i64 (doA op al ah bl bh).1.v, .int .i64 (doA op al ah bl bh).1.m], .bool (doA op al ah bl bh).2]) ∧ Below w.heap.size w w' := by
  have E : Hid (doA op al ah bl bh = (⟨0, 0⟩, false)) := Lib.hid (doA_none H.out)
  have N0 := three_newk w (al) (ah) (bl) (bh) (0) (0)
  go_enter Tryd.func9, Tryd.ntmps9
  go_wp2_with fail
  unfold kO at N0
  generalize (((w.alloc (.cells #[.int .i64 al, .int .i64 ah] 24)).alloc (.cells #[.int .i64 bl, .int .i64 bh] 24)).alloc (.cells #[.int .i64 0, .int .i64 0] 24)) = v0 at N0 ⊢
  have D0 := Lib.hid (Below.refl v0.heap.size v0)
  have lr := N0.out.2.2.1.lt
  refine wp_region_held_drew (S := fun W => W.cell? ⟨w.heap.size, 0, none⟩ = some (.int .i64 al) ∧ W.cell? ⟨w.heap.size, 1, none⟩ = some (.int .i64 ah) ∧ W.cell? ⟨w.heap.size + 1, 0, none⟩ = some (.int .i64 bl) ∧ W.cell? ⟨w.heap.size + 1, 1, none⟩ = some (.int .i64 bh)) (by kernel_rfl) ?_ (fun hHeld => ?_)
  · exact ⟨(KB.below N0.out.1 D0.out).c0, (KB.below N0.out.1 D0.out).c1, (KB.below N0.out.2.1 D0.out).c0, (KB.below N0.out.2.1 D0.out).c1⟩
  refine wpAnyH_take (i := 0) (v := ?_) rfl (by kernel_rfl) (by kernel_rfl) (by kernel_rfl) (fun _ _ _ h => h) (Or.inl ⟨by rfl, ?_⟩) (by assumption) ?_
  rotate_left
  · intro W hSw
    try dsimp only at hSw
    go_simp
    try with_reducible rfl
  refine wpAnyH_take (i := 2) (v := ?_) rfl (by kernel_rfl) (by kernel_rfl) (by kernel_rfl) (fun _ _ _ h => h) (Or.inl ⟨by rfl, ?_⟩) (by assumption) ?_
  rotate_left
  · intro W hSw
    try dsimp only at hSw
    go_simp
    try with_reducible rfl
  refine wpAnyH_take (i := 3) (v := ?_) rfl (by kernel_rfl) (by kernel_rfl) (by kernel_rfl) (fun _ _ _ h => h) (Or.inl ⟨by rfl, ?_⟩) (by assumption) ?_
  rotate_left
  · intro W hSw
    try dsimp only at hSw
    go_simp
    try with_reducible rfl
  refine wpAnyH_ready (rs := [1]) (by kernel_rfl) (by simp) ?_
  refine AllReadyH.cons rfl (fun K hK => ?_) AllReadyH.nil
  go_simp
  refine (rule_none _ _ H.out).mono ?_
  rintro e v9 ⟨rfl, rfl⟩
  refine hK.out _ _ (by assumption) (fun hHeld2 => ?_)
  clear hK K
  refine wpAnyH_ready (rs := [4]) (by kernel_rfl) (by simp) ?_
  refine AllReadyH.cons rfl (fun K hK => ?_) AllReadyH.nil
  go_simp
  refine (byRule_nil _ _ _ _ _).mono ?_
  rintro e y1 ⟨rfl, hb⟩
  have Y1 := Lib.hid (Below.tr (Below.drew D0.out) hb)
  have Y1z := Y1.out.size
  have Y1_r := Lib.hid (KB.below (KB.drewn N0.out.2.2.1) hb)
  have Y1_rx := Y1_r.out.c0
  have Y1_ry := Y1_r.out.c1
  have Y1_rf := Y1_r.out.f 0
  have Y1_rh := Y1_r.out.f 1
  have Y1_rl := Y1_r.out.lt
  clear hb
  refine hK.out _ _ ⟨(KB.below N0.out.1 Y1.out).c0, (KB.below N0.out.1 Y1.out).c1, (KB.below N0.out.2.1 Y1.out).c0, (KB.below N0.out.2.1 Y1.out).c1⟩ (fun hHeld2 => ?_)
  clear hK K
  refine wpAnyH_take (i := 5) (v := ?_) rfl (by kernel_rfl) (by kernel_rfl) (by kernel_rfl) (fun _ _ _ h => h) (Or.inl ⟨by rfl, ?_⟩) (by assumption) ?_
  rotate_left
  · intro W hSw
    try dsimp only at hSw
    go_simp
    try with_reducible rfl
  refine wpAnyH_take (i := 6) (v := ?_) rfl (by kernel_rfl) (by kernel_rfl) (by kernel_rfl) (fun _ _ _ h => h) (Or.inl ⟨by rfl, ?_⟩) (by assumption) ?_
  rotate_left
  · intro W hSw
    try dsimp only at hSw
    go_simp
    try with_reducible rfl
  refine wpAnyH_ready (rs := [7]) (by kernel_rfl) (by simp) ?_
  refine AllReadyH.cons rfl (fun K hK => ?_) AllReadyH.nil
  go_simp
  refine hK.out _ _ ⟨(KB.far2 (KB.below N0.out.1 Y1.out) (by omega)).c0, (KB.far2 (KB.below N0.out.1 Y1.out) (by omega)).c1, (KB.far2 (KB.below N0.out.2.1 Y1.out) (by omega)).c0, (KB.far2 (KB.below N0.out.2.1 Y1.out) (by omega)).c1⟩ (fun hHeld2 => ?_)
  clear hK K
  refine wpAnyH_ready (rs := [8]) (by kernel_rfl) (by simp) ?_
  refine AllReadyH.cons rfl (fun K hK => ?_) AllReadyH.nil
  go_simp
  refine hK.out _ _ ⟨(KB.far2 (KB.below N0.out.1 Y1.out) (by omega)).c0, (KB.far2 (KB.below N0.out.1 Y1.out) (by omega)).c1, (KB.far2 (KB.below N0.out.2.1 Y1.out) (by omega)).c0, (KB.far2 (KB.below N0.out.2.1 Y1.out) (by omega)).c1⟩ (fun hHeld2 => ?_)
  clear hK K
  refine wpAnyH_done (by kernel_rfl) ?_ _
  go_wp2
  refine kshut1 (ok := (((⟨0, 0⟩ : Kn), false)).2) ((KB.below N0.out.2.2.1 Y1.out).set2) (belowK2 (Below.tr N0.out.2.2.2 Y1.out) (by omega)) ?_ (by rw [E.out]; rfl)
  intro c0 c1; simp [results, Tryd.results9, go_sem, c0, c1]

theorem doKI_any (op al ah bl bh : Int) (w : World) (HT : Hid (PowTab w)) :
    Calls Tryd.prog 9 #[.int .i64 op, .agg #[.int .i64 al, .int .i64 ah], .agg #[.int .i64 bl, .int .i64 bh]] w fun e w' => e = .returned (.tuple #[.agg #[.int .i64 (doA op al ah bl bh).1.v, .int .i64 (doA op al ah bl bh).1.m], .bool (doA op al ah bl bh).2]) ∧ Below w.heap.size w w' := by
  cases ho : isOp op
  · exact doI_none op al ah bl bh w ho
  · have ho' : 1 ≤ op ∧ op ≤ 10 := by simpa [isOp] using ho
    rcases (by omega : op = 1 ∨ op = 2 ∨ op = 3 ∨ op = 4 ∨ op = 5 ∨ op = 6 ∨ op = 7 ∨ op = 8 ∨ op = 9 ∨ op = 10) with rfl | rfl | rfl | rfl | rfl | rfl | rfl | rfl | rfl | rfl
    · exact doI_1 al ah bl bh w
    · exact doI_2 al ah bl bh w
    · exact doI_3 al ah bl bh w HT
    · exact doI_4 al ah bl bh w HT
    · exact doI_5 al ah bl bh w HT
    · exact doI_6 al ah bl bh w HT
    · exact doI_7 al ah bl bh w HT
    · exact doI_8 al ah bl bh w HT
    · exact doI_9 al ah bl bh w HT
    · exact doI_10 al ah bl bh w HT

end Go.Proofs.YtmfganodnlnjcaaDoor.Op
