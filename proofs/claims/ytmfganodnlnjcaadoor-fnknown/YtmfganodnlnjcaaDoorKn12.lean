/-
  Contracts of chapter 10: DoKnown of the model, whole.
-/
import Derived.Test.YtmfganodnlnjcaaDoorKn11
namespace Go.Proofs.YtmfganodnlnjcaaDoor.Op
open Go.Proofs.YtmfganodnlnjcaaDoor
open Go.ChangeShapes Go.WideShapes Go.ChangeAt Go.RowKit

theorem doA_no1 {op al ah bl bh : Int} (h : gK al ah = false) : doA op al ah bl bh = (⟨0, 0⟩, false) := by unfold doA; rw [h]; simp
theorem doA_no2 {op al ah bl bh : Int} (h : gK bl bh = false) : doA op al ah bl bh = (⟨0, 0⟩, false) := by unfold doA; rw [h]; simp
theorem doA_yes {op : Int} {a b c d : Nat} (ho : isOp op = true) (g : goodK ⟨a, b⟩ = true) (g' : goodK ⟨c, d⟩ = true) : doA op a b c d = (doK op ⟨a, b⟩ ⟨c, d⟩, true) := by
  unfold doA; rw [ho, gK_nat, gK_nat, g, g']; rfl
theorem isOp_in (op : Int) : decide ((1 : Int) ≤ op ∧ op ≤ 10) = isOp op := rfl
theorem l10Do_any (op : Int) (al ah bl bh : Nat) (w : World) (ho : isOp op = true) (ga : Hid (goodK ⟨al, ah⟩ = true)) (gb : Hid (goodK ⟨bl, bh⟩ = true)) :
    Calls Tryd.prog 39 #[.int .i64 op, .agg #[.int .i64 al, .int .i64 ah], .agg #[.int .i64 bl, .int .i64 bh]] w fun e w' => e = .returned (.agg #[.int .i64 (doK op ⟨al, ah⟩ ⟨bl, bh⟩).v, .int .i64 (doK op ⟨al, ah⟩ ⟨bl, bh⟩).m]) ∧ Below w.heap.size w w' := by
  have ho' : 1 ≤ op ∧ op ≤ 10 := by simpa [isOp] using ho
  rcases (by omega : op = 1 ∨ op = 2 ∨ op = 3 ∨ op = 4 ∨ op = 5 ∨ op = 6 ∨ op = 7 ∨ op = 8 ∨ op = 9 ∨ op = 10) with rfl | rfl | rfl | rfl | rfl | rfl | rfl | rfl | rfl | rfl
  · exact l10Do_1 al ah bl bh w ga gb
  · exact l10Do_2 al ah bl bh w ga gb
  · exact l10Do_3 al ah bl bh w ga gb
  · exact l10Do_4 al ah bl bh w ga gb
  · exact l10Do_5 al ah bl bh w ga gb
  · exact l10Do_6 al ah bl bh w ga gb
  · exact l10Do_7 al ah bl bh w ga gb
  · exact l10Do_8 al ah bl bh w ga gb
  · exact l10Do_9 al ah bl bh w ga gb
  · exact l10Do_10 al ah bl bh w ga gb

set_option maxRecDepth 100000 in
set_option maxHeartbeats 4000000 in
theorem doKM_any (op al ah bl bh : Int) (w : World) :
    Calls Tryd.prog 10 #[.int .i64 op, .agg #[.int .i64 al, .int .i64 ah], .agg #[.int .i64 bl, .int .i64 bh]] w fun e w' => e = .returned (.tuple #[.agg #[.int .i64 (doA op al ah bl bh).1.v, .int .i64 (doA op al ah bl bh).1.m], .bool (doA op al ah bl bh).2]) ∧ Below w.heap.size w w' := by
  cases ho : isOp op
  · have E := Lib.hid (doA_none (al := al) (ah := ah) (bl := bl) (bh := bh) ho)
    have HO := Lib.hid ((isOp_in op).trans ho)
    clear ho
    have N0 := three_newk w (al) (ah) (bl) (bh) (0) (0)
    go_enter Tryd.func10, Tryd.ntmps10
    go_wp2_with fail
    unfold kO at N0
    generalize (((w.alloc (.cells #[.int .i64 al, .int .i64 ah] 24)).alloc (.cells #[.int .i64 bl, .int .i64 bh] 24)).alloc (.cells #[.int .i64 0, .int .i64 0] 24)) = v0 at N0 ⊢
    have D0 := Lib.hid (Below.refl v0.heap.size v0)
    have lr := N0.out.2.2.1.lt
    have k0 := (KB.below N0.out.1 D0.out).c0
    have m0 := (KB.below N0.out.1 D0.out).c1
    have k1 := (KB.below N0.out.2.1 D0.out).c0
    have m1 := (KB.below N0.out.2.1 D0.out).c1
    have k2 := (KB.below N0.out.2.2.1 D0.out).c0
    have m2 := (KB.below N0.out.2.2.1 D0.out).c1
    have f2 := (KB.below N0.out.2.2.1 D0.out).f 0
    have j2 := (KB.below N0.out.2.2.1 D0.out).f 1
    refine (l1In_any _ _ _ _ false HO.out).mono ?_
    rintro e v9 ⟨rfl, rfl⟩
    go_wp2
    refine kshut1 (ok := false) ((KB.below N0.out.2.2.1 D0.out).set2) (belowK2 (Below.tr N0.out.2.2.2 D0.out) (by omega)) ?_ ?_
    · intro c0 c1; simp [results, Tryd.results10, go_sem, c0, c1]
    · rw [E.out]; rfl
  · cases h1 : gK al ah
    · have E := Lib.hid (doA_no1 (op := op) (bl := bl) (bh := bh) h1)
      have HO := Lib.hid ((isOp_in op).trans ho)
      have G1 := Lib.hid h1
      clear ho h1
      have N0 := three_newk w (al) (ah) (bl) (bh) (0) (0)
      go_enter Tryd.func10, Tryd.ntmps10
      go_wp2_with fail
      unfold kO at N0
      generalize (((w.alloc (.cells #[.int .i64 al, .int .i64 ah] 24)).alloc (.cells #[.int .i64 bl, .int .i64 bh] 24)).alloc (.cells #[.int .i64 0, .int .i64 0] 24)) = v0 at N0 ⊢
      have D0 := Lib.hid (Below.refl v0.heap.size v0)
      have lr := N0.out.2.2.1.lt
      have k0 := (KB.below N0.out.1 D0.out).c0
      have m0 := (KB.below N0.out.1 D0.out).c1
      have k1 := (KB.below N0.out.2.1 D0.out).c0
      have m1 := (KB.below N0.out.2.1 D0.out).c1
      have k2 := (KB.below N0.out.2.2.1 D0.out).c0
      have m2 := (KB.below N0.out.2.2.1 D0.out).c1
      have f2 := (KB.below N0.out.2.2.1 D0.out).f 0
      have j2 := (KB.below N0.out.2.2.1 D0.out).f 1
      refine (l1In_any _ _ _ _ true HO.out).mono ?_
      rintro e v9 ⟨rfl, rfl⟩
      go_wp2_with fail
      refine (goodKM_any _ _ _).mono ?_
      rw [G1.out]
      rintro e v1 ⟨rfl, hb⟩
      have D1 := Lib.hid (Below.tr D0.out hb)
      clear hb
      have k0 := (KB.below N0.out.1 D1.out).c0
      have m0 := (KB.below N0.out.1 D1.out).c1
      have k1 := (KB.below N0.out.2.1 D1.out).c0
      have m1 := (KB.below N0.out.2.1 D1.out).c1
      have k2 := (KB.below N0.out.2.2.1 D1.out).c0
      have m2 := (KB.below N0.out.2.2.1 D1.out).c1
      have f2 := (KB.below N0.out.2.2.1 D1.out).f 0
      have j2 := (KB.below N0.out.2.2.1 D1.out).f 1
      go_wp2
      refine kshut1 (ok := false) ((KB.below N0.out.2.2.1 D1.out).set2) (belowK2 (Below.tr N0.out.2.2.2 D1.out) (by omega)) ?_ ?_
      · intro c0 c1; simp [results, Tryd.results10, go_sem, c0, c1]
      · rw [E.out]; rfl
    · cases h2 : gK bl bh
      · have E := Lib.hid (doA_no2 (op := op) (al := al) (ah := ah) h2)
        have HO := Lib.hid ((isOp_in op).trans ho)
        have G1 := Lib.hid h1
        have G2 := Lib.hid h2
        clear ho h1 h2
        have N0 := three_newk w (al) (ah) (bl) (bh) (0) (0)
        go_enter Tryd.func10, Tryd.ntmps10
        go_wp2_with fail
        unfold kO at N0
        generalize (((w.alloc (.cells #[.int .i64 al, .int .i64 ah] 24)).alloc (.cells #[.int .i64 bl, .int .i64 bh] 24)).alloc (.cells #[.int .i64 0, .int .i64 0] 24)) = v0 at N0 ⊢
        have D0 := Lib.hid (Below.refl v0.heap.size v0)
        have lr := N0.out.2.2.1.lt
        have k0 := (KB.below N0.out.1 D0.out).c0
        have m0 := (KB.below N0.out.1 D0.out).c1
        have k1 := (KB.below N0.out.2.1 D0.out).c0
        have m1 := (KB.below N0.out.2.1 D0.out).c1
        have k2 := (KB.below N0.out.2.2.1 D0.out).c0
        have m2 := (KB.below N0.out.2.2.1 D0.out).c1
        have f2 := (KB.below N0.out.2.2.1 D0.out).f 0
        have j2 := (KB.below N0.out.2.2.1 D0.out).f 1
        refine (l1In_any _ _ _ _ true HO.out).mono ?_
        rintro e v9 ⟨rfl, rfl⟩
        go_wp2_with fail
        refine (goodKM_any _ _ _).mono ?_
        rw [G1.out]
        rintro e v1 ⟨rfl, hb⟩
        have D1 := Lib.hid (Below.tr D0.out hb)
        clear hb
        have k0 := (KB.below N0.out.1 D1.out).c0
        have m0 := (KB.below N0.out.1 D1.out).c1
        have k1 := (KB.below N0.out.2.1 D1.out).c0
        have m1 := (KB.below N0.out.2.1 D1.out).c1
        have k2 := (KB.below N0.out.2.2.1 D1.out).c0
        have m2 := (KB.below N0.out.2.2.1 D1.out).c1
        have f2 := (KB.below N0.out.2.2.1 D1.out).f 0
        have j2 := (KB.below N0.out.2.2.1 D1.out).f 1
        go_wp2_with fail
        refine (goodKM_any _ _ _).mono ?_
        rw [G2.out]
        rintro e v2 ⟨rfl, hb⟩
        have D2 := Lib.hid (Below.tr D1.out hb)
        clear hb
        have k0 := (KB.below N0.out.1 D2.out).c0
        have m0 := (KB.below N0.out.1 D2.out).c1
        have k1 := (KB.below N0.out.2.1 D2.out).c0
        have m1 := (KB.below N0.out.2.1 D2.out).c1
        have k2 := (KB.below N0.out.2.2.1 D2.out).c0
        have m2 := (KB.below N0.out.2.2.1 D2.out).c1
        have f2 := (KB.below N0.out.2.2.1 D2.out).f 0
        have j2 := (KB.below N0.out.2.2.1 D2.out).f 1
        go_wp2
        refine kshut1 (ok := false) ((KB.below N0.out.2.2.1 D2.out).set2) (belowK2 (Below.tr N0.out.2.2.2 D2.out) (by omega)) ?_ ?_
        · intro c0 c1; simp [results, Tryd.results10, go_sem, c0, c1]
        · rw [E.out]; rfl
      · obtain ⟨a, b, rfl, rfl, ga⟩ := gK_open h1
        obtain ⟨c, d, rfl, rfl, gb⟩ := gK_open h2
        have E := Lib.hid (doA_yes ho ga gb)
        have HO := Lib.hid ((isOp_in op).trans ho)
        have HO2 := Lib.hid ho
        have G1 := Lib.hid h1
        have G2 := Lib.hid h2
        have GA := Lib.hid ga
        have GB := Lib.hid gb
        clear ho h1 h2 ga gb
        have N0 := three_newk w (a) (b) (c) (d) (0) (0)
        go_enter Tryd.func10, Tryd.ntmps10
        go_wp2_with fail
        unfold kO at N0
        generalize (((w.alloc (.cells #[.int .i64 a, .int .i64 b] 24)).alloc (.cells #[.int .i64 c, .int .i64 d] 24)).alloc (.cells #[.int .i64 0, .int .i64 0] 24)) = v0 at N0 ⊢
        have D0 := Lib.hid (Below.refl v0.heap.size v0)
        have lr := N0.out.2.2.1.lt
        have k0 := (KB.below N0.out.1 D0.out).c0
        have m0 := (KB.below N0.out.1 D0.out).c1
        have k1 := (KB.below N0.out.2.1 D0.out).c0
        have m1 := (KB.below N0.out.2.1 D0.out).c1
        have k2 := (KB.below N0.out.2.2.1 D0.out).c0
        have m2 := (KB.below N0.out.2.2.1 D0.out).c1
        have f2 := (KB.below N0.out.2.2.1 D0.out).f 0
        have j2 := (KB.below N0.out.2.2.1 D0.out).f 1
        refine (l1In_any _ _ _ _ true HO.out).mono ?_
        rintro e v9 ⟨rfl, rfl⟩
        go_wp2_with fail
        refine (goodKM_any _ _ _).mono ?_
        rw [G1.out]
        rintro e v1 ⟨rfl, hb⟩
        have D1 := Lib.hid (Below.tr D0.out hb)
        clear hb
        have k0 := (KB.below N0.out.1 D1.out).c0
        have m0 := (KB.below N0.out.1 D1.out).c1
        have k1 := (KB.below N0.out.2.1 D1.out).c0
        have m1 := (KB.below N0.out.2.1 D1.out).c1
        have k2 := (KB.below N0.out.2.2.1 D1.out).c0
        have m2 := (KB.below N0.out.2.2.1 D1.out).c1
        have f2 := (KB.below N0.out.2.2.1 D1.out).f 0
        have j2 := (KB.below N0.out.2.2.1 D1.out).f 1
        go_wp2_with fail
        refine (goodKM_any _ _ _).mono ?_
        rw [G2.out]
        rintro e v2 ⟨rfl, hb⟩
        have D2 := Lib.hid (Below.tr D1.out hb)
        clear hb
        have k0 := (KB.below N0.out.1 D2.out).c0
        have m0 := (KB.below N0.out.1 D2.out).c1
        have k1 := (KB.below N0.out.2.1 D2.out).c0
        have m1 := (KB.below N0.out.2.1 D2.out).c1
        have k2 := (KB.below N0.out.2.2.1 D2.out).c0
        have m2 := (KB.below N0.out.2.2.1 D2.out).c1
        have f2 := (KB.below N0.out.2.2.1 D2.out).f 0
        have j2 := (KB.below N0.out.2.2.1 D2.out).f 1
        go_wp2_with fail
        refine (l10Do_any _ _ _ _ _ _ HO2.out GA GB).mono ?_
        rintro e v3 ⟨rfl, hb⟩
        have D3 := Lib.hid (Below.tr D2.out hb)
        clear hb
        have k2 := (KB.below N0.out.2.2.1 D3.out).c0
        have m2 := (KB.below N0.out.2.2.1 D3.out).c1
        have f2 := (KB.below N0.out.2.2.1 D3.out).f 0
        have j2 := (KB.below N0.out.2.2.1 D3.out).f 1
        go_wp2
        refine kshut1 (ok := true) ((KB.below N0.out.2.2.1 D3.out).set2) (belowK2 (Below.tr N0.out.2.2.2 D3.out) (by omega)) ?_ ?_
        · intro c0 c1; simp [results, Tryd.results10, go_sem, c0, c1]
        · rw [E.out]

end Go.Proofs.YtmfganodnlnjcaaDoor.Op
