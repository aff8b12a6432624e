/-
  Contracts of chapter 10: DoKnown of the model.
-/
import Derived.Test.YtmfganodnlnjcaaDoorKn9
namespace Go.Proofs.YtmfganodnlnjcaaDoor.Op
open Go.Proofs.YtmfganodnlnjcaaDoor
open Go.ChangeShapes Go.WideShapes Go.ChangeAt Go.RowKit

theorem and_ints {a b c d : Nat} (ha : a < 65536) (hb : b < 65536) (hc : c < 65536) (hd : d < 65536) : bits .and .i64 (a : Int) (c : Int) = ((andK ⟨a, b⟩ ⟨c, d⟩).v : Int) ∧
    bits .andNot .i64 (bits .and .i64 (bits .or .i64 (a : Int) (b : Int)) (bits .or .i64 (c : Int) (d : Int))) (((andK ⟨a, b⟩ ⟨c, d⟩).v : Nat) : Int) = ((andK ⟨a, b⟩ ⟨c, d⟩).m : Int) := by
  rw [and_int ha hc, or_int ha hb, or_int hc hd, and_int (or_lt16 ha hb) (or_lt16 hc hd), show (andK ⟨a, b⟩ ⟨c, d⟩).v = a &&& c from rfl, not_int (and_lt16 (or_lt16 ha hb)) (and_lt16 ha)]
  exact ⟨rfl, rfl⟩
theorem or_ints {a b c d : Nat} (ha : a < 65536) (hb : b < 65536) (hc : c < 65536) (hd : d < 65536) : bits .or .i64 (a : Int) (c : Int) = ((orK ⟨a, b⟩ ⟨c, d⟩).v : Int) ∧
    bits .andNot .i64 (bits .or .i64 (b : Int) (d : Int)) (((orK ⟨a, b⟩ ⟨c, d⟩).v : Nat) : Int) = ((orK ⟨a, b⟩ ⟨c, d⟩).m : Int) := by
  rw [or_int ha hc, or_int hb hd, show (orK ⟨a, b⟩ ⟨c, d⟩).v = a ||| c from rfl, not_int (or_lt16 hb hd) (or_lt16 ha hc)]
  exact ⟨rfl, rfl⟩
theorem xor_ints {a b c d : Nat} (ha : a < 65536) (hb : b < 65536) (hc : c < 65536) (hd : d < 65536) : bits .or .i64 (b : Int) (d : Int) = ((xorK ⟨a, b⟩ ⟨c, d⟩).m : Int) ∧
    bits .andNot .i64 (bits .xor .i64 (a : Int) (c : Int)) (((xorK ⟨a, b⟩ ⟨c, d⟩).m : Nat) : Int) = ((xorK ⟨a, b⟩ ⟨c, d⟩).v : Int) := by
  rw [or_int hb hd, xor_int ha hc, show (xorK ⟨a, b⟩ ⟨c, d⟩).m = b ||| d from rfl, not_int (xor_lt16 ha hc) (or_lt16 hb hd)]
  exact ⟨rfl, rfl⟩
theorem opv_n {op : Int} {x y : Nat} (hx : x < 65536) (hy : y < 65536) : opv op (x : Int) (y : Int) = ((opN op x y : Nat) : Int) := opv_nat hx hy
theorem l1DoN_any (op : Int) (x y : Nat) (z : Nat) (w : World) (ho : isOp op = true) (hx : x < 65536) (hy : y < 65536) (hz : Hid (opN op x y = z)) :
    Calls Tryd.prog 68 #[.int .i64 op, .int .i64 x, .int .i64 y] w fun e w' => e = .returned (.int .i64 z) ∧ w = w' := by
  refine (l1Do_any op x y w ho (by omega) (by omega) (by omega) (by omega)).mono ?_
  rw [opv_n hx hy, hz.out]
  exact fun e w' h => h

set_option maxRecDepth 100000 in
set_option maxHeartbeats 4000000 in
theorem l10Bits_6 (al ah bl bh : Nat) (w : World) (h1 : al < 65536) (h2 : ah < 65536) (h3 : bl < 65536) (h4 : bh < 65536) :
    Calls Tryd.prog 66 #[.int .i64 6, .agg #[.int .i64 al, .int .i64 ah], .agg #[.int .i64 bl, .int .i64 bh]] w fun e w' => e = .returned (.agg #[.int .i64 (andK ⟨al, ah⟩ ⟨bl, bh⟩).v, .int .i64 (andK ⟨al, ah⟩ ⟨bl, bh⟩).m]) ∧ Below w.heap.size w w' := by
  obtain ⟨e1, e2⟩ := and_ints h1 h2 h3 h4
  rw [← e1] at e2
  have E1 := Lib.hid e1
  have E2 := Lib.hid e2
  clear e1 e2
  go_enter Tryd.func66, Tryd.ntmps66
  go_wp2
  have N1 := three_newk w al ah bl bh (bits .and .i64 (al : Int) (bl : Int)) (bits .andNot .i64 (bits .and .i64 (bits .or .i64 (al : Int) (ah : Int)) (bits .or .i64 (bl : Int) (bh : Int))) (bits .and .i64 (al : Int) (bl : Int)))
  unfold kO at N1
  refine kshut0 N1.out.2.2.1 N1.out.2.2.2 ?_ (by rw [E2.out, E1.out])
  intro c0 c1; simp [results, Tryd.results66, go_sem, c0, c1]

set_option maxRecDepth 100000 in
set_option maxHeartbeats 4000000 in
theorem l10Bits_7 (al ah bl bh : Nat) (w : World) (h1 : al < 65536) (h2 : ah < 65536) (h3 : bl < 65536) (h4 : bh < 65536) :
    Calls Tryd.prog 66 #[.int .i64 7, .agg #[.int .i64 al, .int .i64 ah], .agg #[.int .i64 bl, .int .i64 bh]] w fun e w' => e = .returned (.agg #[.int .i64 (orK ⟨al, ah⟩ ⟨bl, bh⟩).v, .int .i64 (orK ⟨al, ah⟩ ⟨bl, bh⟩).m]) ∧ Below w.heap.size w w' := by
  obtain ⟨e1, e2⟩ := or_ints h1 h2 h3 h4
  rw [← e1] at e2
  have E1 := Lib.hid e1
  have E2 := Lib.hid e2
  clear e1 e2
  go_enter Tryd.func66, Tryd.ntmps66
  go_wp2
  have N1 := three_newk w al ah bl bh (bits .or .i64 (al : Int) (bl : Int)) (bits .andNot .i64 (bits .or .i64 (ah : Int) (bh : Int)) (bits .or .i64 (al : Int) (bl : Int)))
  unfold kO at N1
  refine kshut0 N1.out.2.2.1 N1.out.2.2.2 ?_ (by rw [E2.out, E1.out])
  intro c0 c1; simp [results, Tryd.results66, go_sem, c0, c1]

set_option maxRecDepth 100000 in
set_option maxHeartbeats 4000000 in
theorem l10Bits_8 (al ah bl bh : Nat) (w : World) (h1 : al < 65536) (h2 : ah < 65536) (h3 : bl < 65536) (h4 : bh < 65536) :
    Calls Tryd.prog 66 #[.int .i64 8, .agg #[.int .i64 al, .int .i64 ah], .agg #[.int .i64 bl, .int .i64 bh]] w fun e w' => e = .returned (.agg #[.int .i64 (xorK ⟨al, ah⟩ ⟨bl, bh⟩).v, .int .i64 (xorK ⟨al, ah⟩ ⟨bl, bh⟩).m]) ∧ Below w.heap.size w w' := by
  obtain ⟨e1, e2⟩ := xor_ints h1 h2 h3 h4
  rw [← e1] at e2
  have E1 := Lib.hid e1
  have E2 := Lib.hid e2
  clear e1 e2
  have N0 := three_newk w (al) (ah) (bl) (bh) (0) (0)
  go_enter Tryd.func66, Tryd.ntmps66
  go_wp2_with fail
  unfold kO at N0
  generalize (((w.alloc (.cells #[.int .i64 al, .int .i64 ah] 24)).alloc (.cells #[.int .i64 bl, .int .i64 bh] 24)).alloc (.cells #[.int .i64 0, .int .i64 0] 24)) = v0 at N0 ⊢
  have D0 := Lib.hid (Below.refl v0.heap.size v0)
  have lr := N0.out.2.2.1.lt
  refine (l10Not_any _ _ _).mono ?_
  rintro e v1 ⟨rfl, hb⟩
  have D1 := Lib.hid (Below.tr D0.out hb)
  clear hb
  have k2 := (KB.below N0.out.2.2.1 D1.out).c0
  have m2 := (KB.below N0.out.2.2.1 D1.out).c1
  have f2 := (KB.below N0.out.2.2.1 D1.out).f 0
  have j2 := (KB.below N0.out.2.2.1 D1.out).f 1
  go_wp2
  refine kshut0 ((KB.below N0.out.2.2.1 D1.out).set2) (belowK2 (Below.tr N0.out.2.2.2 D1.out) (by omega)) ?_ ?_
  · intro c0 c1; simp [results, Tryd.results66, go_sem, c0, c1]
  · rw [E2.out, E1.out]

set_option maxRecDepth 100000 in
set_option maxHeartbeats 8000000 in
theorem l10Do_6 (al ah bl bh : Nat) (w : World) (ga : Hid (goodK ⟨al, ah⟩ = true)) (gb : Hid (goodK ⟨bl, bh⟩ = true)) :
    Calls Tryd.prog 39 #[.int .i64 6, .agg #[.int .i64 al, .int .i64 ah], .agg #[.int .i64 bl, .int .i64 bh]] w fun e w' => e = .returned (.agg #[.int .i64 (doK 6 ⟨al, ah⟩ ⟨bl, bh⟩).v, .int .i64 (doK 6 ⟨al, ah⟩ ⟨bl, bh⟩).m]) ∧ Below w.heap.size w w' := by
  obtain ⟨h1, h2, -⟩ := goodK_yes ga.out
  obtain ⟨h3, h4, -⟩ := goodK_yes gb.out
  simp only at h1 h2 h3 h4
  have N0 := three_newk w (al) (ah) (bl) (bh) (0) (0)
  go_enter Tryd.func39, Tryd.ntmps39
  go_wp2_with fail
  unfold kO at N0
  generalize (((w.alloc (.cells #[.int .i64 al, .int .i64 ah] 24)).alloc (.cells #[.int .i64 bl, .int .i64 bh] 24)).alloc (.cells #[.int .i64 0, .int .i64 0] 24)) = v0 at N0 ⊢
  have D0 := Lib.hid (Below.refl v0.heap.size v0)
  have lr := N0.out.2.2.1.lt
  refine (l10Bits_6 _ _ _ _ _ h1 h2 h3 h4).mono ?_
  rintro e v1 ⟨rfl, hb⟩
  have D1 := Lib.hid (Below.tr D0.out hb)
  clear hb
  have k2 := (KB.below N0.out.2.2.1 D1.out).c0
  have m2 := (KB.below N0.out.2.2.1 D1.out).c1
  have f2 := (KB.below N0.out.2.2.1 D1.out).f 0
  have j2 := (KB.below N0.out.2.2.1 D1.out).f 1
  go_wp2
  refine kshut0 ((KB.below N0.out.2.2.1 D1.out).set2) (belowK2 (Below.tr N0.out.2.2.2 D1.out) (by omega)) ?_ ?_
  · intro c0 c1; simp [results, Tryd.results39, go_sem, c0, c1]
  · rfl

set_option maxRecDepth 100000 in
set_option maxHeartbeats 8000000 in
theorem l10Do_7 (al ah bl bh : Nat) (w : World) (ga : Hid (goodK ⟨al, ah⟩ = true)) (gb : Hid (goodK ⟨bl, bh⟩ = true)) :
    Calls Tryd.prog 39 #[.int .i64 7, .agg #[.int .i64 al, .int .i64 ah], .agg #[.int .i64 bl, .int .i64 bh]] w fun e w' => e = .returned (.agg #[.int .i64 (doK 7 ⟨al, ah⟩ ⟨bl, bh⟩).v, .int .i64 (doK 7 ⟨al, ah⟩ ⟨bl, bh⟩).m]) ∧ Below w.heap.size w w' := by
  obtain ⟨h1, h2, -⟩ := goodK_yes ga.out
  obtain ⟨h3, h4, -⟩ := goodK_yes gb.out
  simp only at h1 h2 h3 h4
  have N0 := three_newk w (al) (ah) (bl) (bh) (0) (0)
  go_enter Tryd.func39, Tryd.ntmps39
  go_wp2_with fail
  unfold kO at N0
  generalize (((w.alloc (.cells #[.int .i64 al, .int .i64 ah] 24)).alloc (.cells #[.int .i64 bl, .int .i64 bh] 24)).alloc (.cells #[.int .i64 0, .int .i64 0] 24)) = v0 at N0 ⊢
  have D0 := Lib.hid (Below.refl v0.heap.size v0)
  have lr := N0.out.2.2.1.lt
  refine (l10Bits_7 _ _ _ _ _ h1 h2 h3 h4).mono ?_
  rintro e v1 ⟨rfl, hb⟩
  have D1 := Lib.hid (Below.tr D0.out hb)
  clear hb
  have k2 := (KB.below N0.out.2.2.1 D1.out).c0
  have m2 := (KB.below N0.out.2.2.1 D1.out).c1
  have f2 := (KB.below N0.out.2.2.1 D1.out).f 0
  have j2 := (KB.below N0.out.2.2.1 D1.out).f 1
  go_wp2
  refine kshut0 ((KB.below N0.out.2.2.1 D1.out).set2) (belowK2 (Below.tr N0.out.2.2.2 D1.out) (by omega)) ?_ ?_
  · intro c0 c1; simp [results, Tryd.results39, go_sem, c0, c1]
  · rfl

set_option maxRecDepth 100000 in
set_option maxHeartbeats 8000000 in
theorem l10Do_8 (al ah bl bh : Nat) (w : World) (ga : Hid (goodK ⟨al, ah⟩ = true)) (gb : Hid (goodK ⟨bl, bh⟩ = true)) :
    Calls Tryd.prog 39 #[.int .i64 8, .agg #[.int .i64 al, .int .i64 ah], .agg #[.int .i64 bl, .int .i64 bh]] w fun e w' => e = .returned (.agg #[.int .i64 (doK 8 ⟨al, ah⟩ ⟨bl, bh⟩).v, .int .i64 (doK 8 ⟨al, ah⟩ ⟨bl, bh⟩).m]) ∧ Below w.heap.size w w' := by
  obtain ⟨h1, h2, -⟩ := goodK_yes ga.out
  obtain ⟨h3, h4, -⟩ := goodK_yes gb.out
  simp only at h1 h2 h3 h4
  have N0 := three_newk w (al) (ah) (bl) (bh) (0) (0)
  go_enter Tryd.func39, Tryd.ntmps39
  go_wp2_with fail
  unfold kO at N0
  generalize (((w.alloc (.cells #[.int .i64 al, .int .i64 ah] 24)).alloc (.cells #[.int .i64 bl, .int .i64 bh] 24)).alloc (.cells #[.int .i64 0, .int .i64 0] 24)) = v0 at N0 ⊢
  have D0 := Lib.hid (Below.refl v0.heap.size v0)
  have lr := N0.out.2.2.1.lt
  refine (l10Bits_8 _ _ _ _ _ h1 h2 h3 h4).mono ?_
  rintro e v1 ⟨rfl, hb⟩
  have D1 := Lib.hid (Below.tr D0.out hb)
  clear hb
  have k2 := (KB.below N0.out.2.2.1 D1.out).c0
  have m2 := (KB.below N0.out.2.2.1 D1.out).c1
  have f2 := (KB.below N0.out.2.2.1 D1.out).f 0
  have j2 := (KB.below N0.out.2.2.1 D1.out).f 1
  go_wp2
  refine kshut0 ((KB.below N0.out.2.2.1 D1.out).set2) (belowK2 (Below.tr N0.out.2.2.2 D1.out) (by omega)) ?_ ?_
  · intro c0 c1; simp [results, Tryd.results39, go_sem, c0, c1]
  · rfl

set_option maxRecDepth 100000 in
set_option maxHeartbeats 8000000 in
theorem l10Do_1 (al ah bl bh : Nat) (w : World) (ga : Hid (goodK ⟨al, ah⟩ = true)) (gb : Hid (goodK ⟨bl, bh⟩ = true)) :
    Calls Tryd.prog 39 #[.int .i64 1, .agg #[.int .i64 al, .int .i64 ah], .agg #[.int .i64 bl, .int .i64 bh]] w fun e w' => e = .returned (.agg #[.int .i64 (doK 1 ⟨al, ah⟩ ⟨bl, bh⟩).v, .int .i64 (doK 1 ⟨al, ah⟩ ⟨bl, bh⟩).m]) ∧ Below w.heap.size w w' := by
  obtain ⟨h1, h2, -⟩ := goodK_yes ga.out
  obtain ⟨h3, h4, -⟩ := goodK_yes gb.out
  simp only at h1 h2 h3 h4
  have ep := add_or ga.out
  have eq := add_or gb.out
  simp only at ep eq
  obtain ⟨s, hs⟩ : ∃ s, addN al bl = s := ⟨_, rfl⟩
  obtain ⟨t, ht⟩ : ∃ t, addN (addN al ah) (addN bl bh) = t := ⟨_, rfl⟩
  have S1 := Lib.hid ((wd_add al bl).trans (congrArg _ hs))
  have T1 : Hid (wd ((al : Int) + (ah : Int) + (bl : Int) + (bh : Int)) = (t : Int)) := Lib.hid (by rw [← ht]; unfold wd addN; omega)
  have bs : s < 65536 := by rw [← hs]; exact addN_lt _ _
  have bt : t < 65536 := by rw [← ht]; exact addN_lt _ _
  have E : Hid (doK 1 ⟨al, ah⟩ ⟨bl, bh⟩ = notK s (ah ||| bh ||| (s ^^^ t))) := Lib.hid (by show sumK _ _ = _; unfold sumK; simp only; rw [ht, hs])
  obtain ⟨m, hm⟩ : ∃ m, ah ||| bh ||| (s ^^^ t) = m := ⟨_, rfl⟩
  have M := Lib.hid ((mask_int h2 h4 bs bt).trans (congrArg _ hm))
  have bm : m < 65536 := by rw [← hm]; exact or_lt16 (or_lt16 h2 h4) (xor_lt16 bs bt)
  rw [hm] at E
  obtain ⟨n1, n2⟩ := notK_int bs bm
  have N1 := Lib.hid n1
  clear hs ht hm ep eq n1 n2 ga gb
  have N0 := three_newk w (al) (ah) (bl) (bh) (0) (0)
  go_enter Tryd.func39, Tryd.ntmps39
  go_wp2_with (first | (go_at_call 67; refine (l1Wrap_any _ _).mono ?_; (first | rw [S1.out] | rw [T1.out]); rintro e w' ⟨rfl, rfl⟩) | fail)
  unfold kO at N0
  generalize (((w.alloc (.cells #[.int .i64 al, .int .i64 ah] 24)).alloc (.cells #[.int .i64 bl, .int .i64 bh] 24)).alloc (.cells #[.int .i64 0, .int .i64 0] 24)) = v0 at N0 ⊢
  have D0 := Lib.hid (Below.refl v0.heap.size v0)
  have lr := N0.out.2.2.1.lt
  try rw [M.out]
  refine (l10Not_any _ _ _).mono ?_
  rw [N1.out]
  rintro e v1 ⟨rfl, hb⟩
  have D1 := Lib.hid (Below.tr D0.out hb)
  clear hb
  have k2 := (KB.below N0.out.2.2.1 D1.out).c0
  have m2 := (KB.below N0.out.2.2.1 D1.out).c1
  have f2 := (KB.below N0.out.2.2.1 D1.out).f 0
  have j2 := (KB.below N0.out.2.2.1 D1.out).f 1
  go_wp2
  refine kshut0 ((KB.below N0.out.2.2.1 D1.out).set2) (belowK2 (Below.tr N0.out.2.2.2 D1.out) (by omega)) ?_ ?_
  · intro c0 c1; simp [results, Tryd.results39, go_sem, c0, c1]
  · rw [E.out]; rfl

set_option maxRecDepth 100000 in
set_option maxHeartbeats 8000000 in
theorem l10Do_2 (al ah bl bh : Nat) (w : World) (ga : Hid (goodK ⟨al, ah⟩ = true)) (gb : Hid (goodK ⟨bl, bh⟩ = true)) :
    Calls Tryd.prog 39 #[.int .i64 2, .agg #[.int .i64 al, .int .i64 ah], .agg #[.int .i64 bl, .int .i64 bh]] w fun e w' => e = .returned (.agg #[.int .i64 (doK 2 ⟨al, ah⟩ ⟨bl, bh⟩).v, .int .i64 (doK 2 ⟨al, ah⟩ ⟨bl, bh⟩).m]) ∧ Below w.heap.size w w' := by
  obtain ⟨h1, h2, -⟩ := goodK_yes ga.out
  obtain ⟨h3, h4, -⟩ := goodK_yes gb.out
  simp only at h1 h2 h3 h4
  obtain ⟨s, hs⟩ : ∃ x, subN al bl = x := ⟨_, rfl⟩
  have bs : s < 65536 := by rw [← hs]; exact subN_lt _ _
  have S1 := Lib.hid ((wd_sub h1 h3).trans (congrArg _ hs))
  obtain ⟨u, hu⟩ : ∃ x, addN s ah = x := ⟨_, rfl⟩
  have bu : u < 65536 := by rw [← hu]; exact addN_lt _ _
  have U1 := Lib.hid ((wd_add s ah).trans (congrArg _ hu))
  obtain ⟨d, hd⟩ : ∃ x, subN s bh = x := ⟨_, rfl⟩
  have bd : d < 65536 := by rw [← hd]; exact subN_lt _ _
  have D1 := Lib.hid ((wd_sub bs h4).trans (congrArg _ hd))
  have E : Hid (doK 2 ⟨al, ah⟩ ⟨bl, bh⟩ = notK s (ah ||| bh ||| (u ^^^ d))) := Lib.hid (by show difK _ _ = _; unfold difK; simp only; rw [hs, hu, hd])
  obtain ⟨m, hm⟩ : ∃ m, ah ||| bh ||| (u ^^^ d) = m := ⟨_, rfl⟩
  have M := Lib.hid ((mask_int h2 h4 bu bd).trans (congrArg _ hm))
  have bm : m < 65536 := by rw [← hm]; exact or_lt16 (or_lt16 h2 h4) (xor_lt16 bu bd)
  rw [hm] at E
  obtain ⟨n1, n2⟩ := notK_int bs bm
  have N1 := Lib.hid n1
  clear hs hu hd hm n1 n2 ga gb
  have N0 := three_newk w (al) (ah) (bl) (bh) (0) (0)
  go_enter Tryd.func39, Tryd.ntmps39
  go_wp2_with (first | (go_at_call 67; refine (l1Wrap_any _ _).mono ?_; (first | rw [S1.out] | rw [U1.out] | rw [D1.out]); rintro e w' ⟨rfl, rfl⟩) | fail)
  unfold kO at N0
  generalize (((w.alloc (.cells #[.int .i64 al, .int .i64 ah] 24)).alloc (.cells #[.int .i64 bl, .int .i64 bh] 24)).alloc (.cells #[.int .i64 0, .int .i64 0] 24)) = v0 at N0 ⊢
  have D0 := Lib.hid (Below.refl v0.heap.size v0)
  have lr := N0.out.2.2.1.lt
  try rw [M.out]
  refine (l10Not_any _ _ _).mono ?_
  rw [N1.out]
  rintro e v1 ⟨rfl, hb⟩
  have D1 := Lib.hid (Below.tr D0.out hb)
  clear hb
  have k2 := (KB.below N0.out.2.2.1 D1.out).c0
  have m2 := (KB.below N0.out.2.2.1 D1.out).c1
  have f2 := (KB.below N0.out.2.2.1 D1.out).f 0
  have j2 := (KB.below N0.out.2.2.1 D1.out).f 1
  go_wp2
  refine kshut0 ((KB.below N0.out.2.2.1 D1.out).set2) (belowK2 (Below.tr N0.out.2.2.2 D1.out) (by omega)) ?_ ?_
  · intro c0 c1; simp [results, Tryd.results39, go_sem, c0, c1]
  · rw [E.out]; rfl

set_option maxRecDepth 100000 in
set_option maxHeartbeats 8000000 in
theorem l10Do_3 (al ah bl bh : Nat) (w : World) (ga : Hid (goodK ⟨al, ah⟩ = true)) (gb : Hid (goodK ⟨bl, bh⟩ = true)) :
    Calls Tryd.prog 39 #[.int .i64 3, .agg #[.int .i64 al, .int .i64 ah], .agg #[.int .i64 bl, .int .i64 bh]] w fun e w' => e = .returned (.agg #[.int .i64 (doK 3 ⟨al, ah⟩ ⟨bl, bh⟩).v, .int .i64 (doK 3 ⟨al, ah⟩ ⟨bl, bh⟩).m]) ∧ Below w.heap.size w w' := by
  obtain ⟨h1, h2, -⟩ := goodK_yes ga.out
  obtain ⟨h3, h4, -⟩ := goodK_yes gb.out
  simp only at h1 h2 h3 h4
  by_cases zb : bh = 0
  · by_cases za : ah = 0
    · have E : Hid (doK 3 ⟨al, ah⟩ ⟨bl, bh⟩ = ⟨opN 3 al bl, 0⟩) := Lib.hid (by rw [words_yes (by omega), if_pos ⟨za, zb⟩])
      obtain ⟨z1, hz1⟩ : ∃ z, opN 3 al bl = z := ⟨_, rfl⟩
      rw [hz1] at E
      have Z1 := Lib.hid hz1
      have eah : ((ah : Int) == 0) = true := by simp; omega
      have ebh : ((bh : Int) == 0) = true := by simp; omega
      clear za zb ga gb hz1
      have N1 := three_newk w al ah bl bh z1 0
      unfold kO at N1
      go_enter Tryd.func39, Tryd.ntmps39
      go_wp2_with (first | (go_at_call 68; refine (l1DoN_any 3 al bl z1 _ rfl h1 h3 Z1).mono ?_; rintro e w' ⟨rfl, rfl⟩) | fail)
      refine kshut0 N1.out.2.2.1 N1.out.2.2.2 ?_ (by rw [E.out]; rfl)
      intro c0 c1; simp [results, Tryd.results39, go_sem, c0, c1]
    · have E : Hid (doK 3 ⟨al, ah⟩ ⟨bl, bh⟩ = allK) := Lib.hid (by rw [words_yes (by omega), if_neg (fun h => za h.1)])
      have eah : ((ah : Int) == 0) = false := by simp; omega
      clear za zb ga gb
      go_enter Tryd.func39, Tryd.ntmps39
      go_wp2
      have N1 := three_newk w al ah bl bh 0 65535
      unfold kO at N1
      refine kshut0 N1.out.2.2.1 N1.out.2.2.2 ?_ (by rw [E.out]; rfl)
      intro c0 c1; simp [results, Tryd.results39, go_sem, c0, c1]
  · have E : Hid (doK 3 ⟨al, ah⟩ ⟨bl, bh⟩ = allK) := Lib.hid (by rw [words_yes (by omega), if_neg (fun h => zb h.2)])
    have ebh : ((bh : Int) == 0) = false := by simp; omega
    by_cases za : ah = 0
    · have eah : ((ah : Int) == 0) = true := by simp; omega
      clear za zb ga gb
      go_enter Tryd.func39, Tryd.ntmps39
      go_wp2
      have N1 := three_newk w al ah bl bh 0 65535
      unfold kO at N1
      refine kshut0 N1.out.2.2.1 N1.out.2.2.2 ?_ (by rw [E.out]; rfl)
      intro c0 c1; simp [results, Tryd.results39, go_sem, c0, c1]
    · have eah : ((ah : Int) == 0) = false := by simp; omega
      clear za zb ga gb
      go_enter Tryd.func39, Tryd.ntmps39
      go_wp2
      have N1 := three_newk w al ah bl bh 0 65535
      unfold kO at N1
      refine kshut0 N1.out.2.2.1 N1.out.2.2.2 ?_ (by rw [E.out]; rfl)
      intro c0 c1; simp [results, Tryd.results39, go_sem, c0, c1]

set_option maxRecDepth 100000 in
set_option maxHeartbeats 8000000 in
theorem l10Do_4 (al ah bl bh : Nat) (w : World) (ga : Hid (goodK ⟨al, ah⟩ = true)) (gb : Hid (goodK ⟨bl, bh⟩ = true)) :
    Calls Tryd.prog 39 #[.int .i64 4, .agg #[.int .i64 al, .int .i64 ah], .agg #[.int .i64 bl, .int .i64 bh]] w fun e w' => e = .returned (.agg #[.int .i64 (doK 4 ⟨al, ah⟩ ⟨bl, bh⟩).v, .int .i64 (doK 4 ⟨al, ah⟩ ⟨bl, bh⟩).m]) ∧ Below w.heap.size w w' := by
  obtain ⟨h1, h2, -⟩ := goodK_yes ga.out
  obtain ⟨h3, h4, -⟩ := goodK_yes gb.out
  simp only at h1 h2 h3 h4
  by_cases zb : bh = 0
  · by_cases za : ah = 0
    · have E : Hid (doK 4 ⟨al, ah⟩ ⟨bl, bh⟩ = ⟨opN 4 al bl, 0⟩) := Lib.hid (by rw [words_yes (by omega), if_pos ⟨za, zb⟩])
      obtain ⟨z1, hz1⟩ : ∃ z, opN 4 al bl = z := ⟨_, rfl⟩
      rw [hz1] at E
      have Z1 := Lib.hid hz1
      have eah : ((ah : Int) == 0) = true := by simp; omega
      have ebh : ((bh : Int) == 0) = true := by simp; omega
      clear za zb ga gb hz1
      have N1 := three_newk w al ah bl bh z1 0
      unfold kO at N1
      go_enter Tryd.func39, Tryd.ntmps39
      go_wp2_with (first | (go_at_call 68; refine (l1DoN_any 4 al bl z1 _ rfl h1 h3 Z1).mono ?_; rintro e w' ⟨rfl, rfl⟩) | fail)
      refine kshut0 N1.out.2.2.1 N1.out.2.2.2 ?_ (by rw [E.out]; rfl)
      intro c0 c1; simp [results, Tryd.results39, go_sem, c0, c1]
    · have E : Hid (doK 4 ⟨al, ah⟩ ⟨bl, bh⟩ = allK) := Lib.hid (by rw [words_yes (by omega), if_neg (fun h => za h.1)])
      have eah : ((ah : Int) == 0) = false := by simp; omega
      clear za zb ga gb
      go_enter Tryd.func39, Tryd.ntmps39
      go_wp2
      have N1 := three_newk w al ah bl bh 0 65535
      unfold kO at N1
      refine kshut0 N1.out.2.2.1 N1.out.2.2.2 ?_ (by rw [E.out]; rfl)
      intro c0 c1; simp [results, Tryd.results39, go_sem, c0, c1]
  · have E : Hid (doK 4 ⟨al, ah⟩ ⟨bl, bh⟩ = allK) := Lib.hid (by rw [words_yes (by omega), if_neg (fun h => zb h.2)])
    have ebh : ((bh : Int) == 0) = false := by simp; omega
    by_cases za : ah = 0
    · have eah : ((ah : Int) == 0) = true := by simp; omega
      clear za zb ga gb
      go_enter Tryd.func39, Tryd.ntmps39
      go_wp2
      have N1 := three_newk w al ah bl bh 0 65535
      unfold kO at N1
      refine kshut0 N1.out.2.2.1 N1.out.2.2.2 ?_ (by rw [E.out]; rfl)
      intro c0 c1; simp [results, Tryd.results39, go_sem, c0, c1]
    · have eah : ((ah : Int) == 0) = false := by simp; omega
      clear za zb ga gb
      go_enter Tryd.func39, Tryd.ntmps39
      go_wp2
      have N1 := three_newk w al ah bl bh 0 65535
      unfold kO at N1
      refine kshut0 N1.out.2.2.1 N1.out.2.2.2 ?_ (by rw [E.out]; rfl)
      intro c0 c1; simp [results, Tryd.results39, go_sem, c0, c1]

set_option maxRecDepth 100000 in
set_option maxHeartbeats 8000000 in
theorem l10Do_5 (al ah bl bh : Nat) (w : World) (ga : Hid (goodK ⟨al, ah⟩ = true)) (gb : Hid (goodK ⟨bl, bh⟩ = true)) :
    Calls Tryd.prog 39 #[.int .i64 5, .agg #[.int .i64 al, .int .i64 ah], .agg #[.int .i64 bl, .int .i64 bh]] w fun e w' => e = .returned (.agg #[.int .i64 (doK 5 ⟨al, ah⟩ ⟨bl, bh⟩).v, .int .i64 (doK 5 ⟨al, ah⟩ ⟨bl, bh⟩).m]) ∧ Below w.heap.size w w' := by
  obtain ⟨h1, h2, -⟩ := goodK_yes ga.out
  obtain ⟨h3, h4, -⟩ := goodK_yes gb.out
  simp only at h1 h2 h3 h4
  by_cases zb : bh = 0
  · by_cases za : ah = 0
    · have E : Hid (doK 5 ⟨al, ah⟩ ⟨bl, bh⟩ = ⟨opN 5 al bl, 0⟩) := Lib.hid (by rw [words_yes (by omega), if_pos ⟨za, zb⟩])
      obtain ⟨z1, hz1⟩ : ∃ z, opN 5 al bl = z := ⟨_, rfl⟩
      rw [hz1] at E
      have Z1 := Lib.hid hz1
      have eah : ((ah : Int) == 0) = true := by simp; omega
      have ebh : ((bh : Int) == 0) = true := by simp; omega
      clear za zb ga gb hz1
      have N1 := three_newk w al ah bl bh z1 0
      unfold kO at N1
      go_enter Tryd.func39, Tryd.ntmps39
      go_wp2_with (first | (go_at_call 68; refine (l1DoN_any 5 al bl z1 _ rfl h1 h3 Z1).mono ?_; rintro e w' ⟨rfl, rfl⟩) | fail)
      refine kshut0 N1.out.2.2.1 N1.out.2.2.2 ?_ (by rw [E.out]; rfl)
      intro c0 c1; simp [results, Tryd.results39, go_sem, c0, c1]
    · have E : Hid (doK 5 ⟨al, ah⟩ ⟨bl, bh⟩ = allK) := Lib.hid (by rw [words_yes (by omega), if_neg (fun h => za h.1)])
      have eah : ((ah : Int) == 0) = false := by simp; omega
      clear za zb ga gb
      go_enter Tryd.func39, Tryd.ntmps39
      go_wp2
      have N1 := three_newk w al ah bl bh 0 65535
      unfold kO at N1
      refine kshut0 N1.out.2.2.1 N1.out.2.2.2 ?_ (by rw [E.out]; rfl)
      intro c0 c1; simp [results, Tryd.results39, go_sem, c0, c1]
  · have E : Hid (doK 5 ⟨al, ah⟩ ⟨bl, bh⟩ = allK) := Lib.hid (by rw [words_yes (by omega), if_neg (fun h => zb h.2)])
    have ebh : ((bh : Int) == 0) = false := by simp; omega
    by_cases za : ah = 0
    · have eah : ((ah : Int) == 0) = true := by simp; omega
      clear za zb ga gb
      go_enter Tryd.func39, Tryd.ntmps39
      go_wp2
      have N1 := three_newk w al ah bl bh 0 65535
      unfold kO at N1
      refine kshut0 N1.out.2.2.1 N1.out.2.2.2 ?_ (by rw [E.out]; rfl)
      intro c0 c1; simp [results, Tryd.results39, go_sem, c0, c1]
    · have eah : ((ah : Int) == 0) = false := by simp; omega
      clear za zb ga gb
      go_enter Tryd.func39, Tryd.ntmps39
      go_wp2
      have N1 := three_newk w al ah bl bh 0 65535
      unfold kO at N1
      refine kshut0 N1.out.2.2.1 N1.out.2.2.2 ?_ (by rw [E.out]; rfl)
      intro c0 c1; simp [results, Tryd.results39, go_sem, c0, c1]

set_option maxRecDepth 100000 in
set_option maxHeartbeats 8000000 in
theorem l10Do_9 (al ah bl bh : Nat) (w : World) (ga : Hid (goodK ⟨al, ah⟩ = true)) (gb : Hid (goodK ⟨bl, bh⟩ = true)) :
    Calls Tryd.prog 39 #[.int .i64 9, .agg #[.int .i64 al, .int .i64 ah], .agg #[.int .i64 bl, .int .i64 bh]] w fun e w' => e = .returned (.agg #[.int .i64 (doK 9 ⟨al, ah⟩ ⟨bl, bh⟩).v, .int .i64 (doK 9 ⟨al, ah⟩ ⟨bl, bh⟩).m]) ∧ Below w.heap.size w w' := by
  obtain ⟨h1, h2, -⟩ := goodK_yes ga.out
  obtain ⟨h3, h4, -⟩ := goodK_yes gb.out
  simp only at h1 h2 h3 h4
  by_cases zb : bh = 0
  · have E : Hid (doK 9 ⟨al, ah⟩ ⟨bl, bh⟩ = ⟨opN 9 al bl, opN 9 ah bl⟩) := Lib.hid (by rw [shift_yes (by omega), if_pos zb])
    obtain ⟨z1, hz1⟩ : ∃ z, opN 9 al bl = z := ⟨_, rfl⟩
    obtain ⟨z2, hz2⟩ : ∃ z, opN 9 ah bl = z := ⟨_, rfl⟩
    rw [hz1, hz2] at E
    have Z1 := Lib.hid hz1
    have Z2 := Lib.hid hz2
    have ebh : ((bh : Int) == 0) = true := by simp; omega
    clear zb ga gb hz1 hz2
    have N0 := three_newk w (al) (ah) (bl) (bh) (0) (0)
    go_enter Tryd.func39, Tryd.ntmps39
    go_wp2_with fail
    unfold kO at N0
    generalize (((w.alloc (.cells #[.int .i64 al, .int .i64 ah] 24)).alloc (.cells #[.int .i64 bl, .int .i64 bh] 24)).alloc (.cells #[.int .i64 0, .int .i64 0] 24)) = v0 at N0 ⊢
    have D0 := Lib.hid (Below.refl v0.heap.size v0)
    have lr := N0.out.2.2.1.lt
    have k2 := (KB.below N0.out.2.2.1 D0.out).c0
    have m2 := (KB.below N0.out.2.2.1 D0.out).c1
    have f2 := (KB.below N0.out.2.2.1 D0.out).f 0
    have j2 := (KB.below N0.out.2.2.1 D0.out).f 1
    refine wp_region_held_drew (S := fun W => W.cell? ⟨w.heap.size, 0, none⟩ = some (.int .i64 al) ∧ W.cell? ⟨w.heap.size, 1, none⟩ = some (.int .i64 ah) ∧ W.cell? ⟨w.heap.size + 1, 0, none⟩ = some (.int .i64 bl) ∧ W.cell? ⟨w.heap.size + 1, 1, none⟩ = some (.int .i64 bh)) (by kernel_rfl) ?_ (fun hHeld => ?_)
    · exact ⟨(KB.below N0.out.1 D0.out).c0, (KB.below N0.out.1 D0.out).c1, (KB.below N0.out.2.1 D0.out).c0, (KB.below N0.out.2.1 D0.out).c1⟩
    refine wpAnyH_take (i := 0) (v := ?_) rfl (by kernel_rfl) (by kernel_rfl) (by kernel_rfl) (fun _ _ _ h => h) (Or.inl ⟨by rfl, ?_⟩) (by assumption) ?_
    rotate_left
    · intro W hSw
      try dsimp only at hSw
      go_simp
      try with_reducible rfl
    refine wpAnyH_take (i := 1) (v := ?_) rfl (by kernel_rfl) (by kernel_rfl) (by kernel_rfl) (fun _ _ _ h => h) (Or.inl ⟨by rfl, ?_⟩) (by assumption) ?_
    rotate_left
    · intro W hSw
      try dsimp only at hSw
      go_simp
      try with_reducible rfl
    refine wpAnyH_take (i := 3) (v := ?_) rfl (by kernel_rfl) (by kernel_rfl) (by kernel_rfl) (fun _ _ _ h => h) (Or.inl ⟨by rfl, ?_⟩) (by assumption) ?_
    rotate_left
    · intro W hSw
      try dsimp only at hSw
      go_simp
      try with_reducible rfl
    refine wpAnyH_take (i := 6) (v := ?_) rfl (by kernel_rfl) (by kernel_rfl) (by kernel_rfl) (fun _ _ _ h => h) (Or.inl ⟨by rfl, ?_⟩) (by assumption) ?_
    rotate_left
    · intro W hSw
      try dsimp only at hSw
      go_simp
      try with_reducible rfl
    refine wpAnyH_take (i := 7) (v := ?_) rfl (by kernel_rfl) (by kernel_rfl) (by kernel_rfl) (fun _ _ _ h => h) (Or.inl ⟨by rfl, ?_⟩) (by assumption) ?_
    rotate_left
    · intro W hSw
      try dsimp only at hSw
      go_simp
      try with_reducible rfl
    refine wpAnyH_take (i := 9) (v := ?_) rfl (by kernel_rfl) (by kernel_rfl) (by kernel_rfl) (fun _ _ _ h => h) (Or.inl ⟨by rfl, ?_⟩) (by assumption) ?_
    rotate_left
    · intro W hSw
      try dsimp only at hSw
      go_simp
      try with_reducible rfl
    refine wpAnyH_take (i := 2) (v := ?_) rfl (by kernel_rfl) (by kernel_rfl) (by kernel_rfl) (fun _ _ _ h => h) (Or.inl ⟨by rfl, ?_⟩) (by assumption) ?_
    rotate_left
    · intro W hSw
      try dsimp only at hSw
      go_simp
      try with_reducible rfl
    refine wpAnyH_take (i := 4) (v := ?_) rfl (by kernel_rfl) (by kernel_rfl) (by kernel_rfl) (fun _ _ _ h => h) (Or.inl ⟨by rfl, ?_⟩) (by assumption) ?_
    rotate_left
    · intro W hSw
      try dsimp only at hSw
      go_simp
      try with_reducible rfl
    refine wpAnyH_take (i := 8) (v := ?_) rfl (by kernel_rfl) (by kernel_rfl) (by kernel_rfl) (fun _ _ _ h => h) (Or.inl ⟨by rfl, ?_⟩) (by assumption) ?_
    rotate_left
    · intro W hSw
      try dsimp only at hSw
      go_simp
      try with_reducible rfl
    refine wpAnyH_take (i := 10) (v := ?_) rfl (by kernel_rfl) (by kernel_rfl) (by kernel_rfl) (fun _ _ _ h => h) (Or.inl ⟨by rfl, ?_⟩) (by assumption) ?_
    rotate_left
    · intro W hSw
      try dsimp only at hSw
      go_simp
      try with_reducible rfl
    refine wpAnyH_ready (rs := [5]) (by kernel_rfl) (by simp) ?_
    refine AllReadyH.cons rfl (fun K hK => ?_) AllReadyH.nil
    go_simp
    refine (l1DoN_any 9 al bl z1 _ rfl h1 h3 Z1).mono ?_
    rintro e v9 ⟨rfl, rfl⟩
    refine hK.out _ _ (by assumption) (fun hHeld2 => ?_)
    clear hK K
    refine wpAnyH_ready (rs := [11]) (by kernel_rfl) (by simp) ?_
    refine AllReadyH.cons rfl (fun K hK => ?_) AllReadyH.nil
    go_simp
    refine (l1DoN_any 9 ah bl z2 _ rfl h2 h3 Z2).mono ?_
    rintro e v9 ⟨rfl, rfl⟩
    refine hK.out _ _ (by assumption) (fun hHeld2 => ?_)
    clear hK K
    refine wpAnyH_take (i := 12) (v := ?_) rfl (by kernel_rfl) (by kernel_rfl) (by kernel_rfl) (fun _ _ _ h => h) (Or.inl ⟨by rfl, ?_⟩) (by assumption) ?_
    rotate_left
    · intro W hSw
      try dsimp only at hSw
      go_simp
      try with_reducible rfl
    refine wpAnyH_ready (rs := [13]) (by kernel_rfl) (by simp) ?_
    refine AllReadyH.cons rfl (fun K hK => ?_) AllReadyH.nil
    go_simp
    refine hK.out _ _ ⟨(KB.far2 (KB.below N0.out.1 D0.out) (by omega)).c0, (KB.far2 (KB.below N0.out.1 D0.out) (by omega)).c1, (KB.far2 (KB.below N0.out.2.1 D0.out) (by omega)).c0, (KB.far2 (KB.below N0.out.2.1 D0.out) (by omega)).c1⟩ (fun hHeld2 => ?_)
    clear hK K
    refine wpAnyH_done (by kernel_rfl) ?_ _
    go_wp2
    refine kshut0 ((KB.below N0.out.2.2.1 D0.out).set2.drewn) ((belowK2 (Below.tr N0.out.2.2.2 D0.out) (by omega)).drew) ?_ (by rw [E.out])
    intro c0 c1; simp [results, Tryd.results39, go_sem, c0, c1]
  · have E : Hid (doK 9 ⟨al, ah⟩ ⟨bl, bh⟩ = allK) := Lib.hid (by rw [shift_yes (by omega), if_neg zb])
    have ebh : ((bh : Int) == 0) = false := by simp; omega
    by_cases za : ah = 0
    · have eah : ((ah : Int) == 0) = true := by simp; omega
      clear za zb ga gb
      go_enter Tryd.func39, Tryd.ntmps39
      go_wp2
      have N1 := three_newk w al ah bl bh 0 65535
      unfold kO at N1
      refine kshut0 N1.out.2.2.1 N1.out.2.2.2 ?_ (by rw [E.out]; rfl)
      intro c0 c1; simp [results, Tryd.results39, go_sem, c0, c1]
    · have eah : ((ah : Int) == 0) = false := by simp; omega
      clear za zb ga gb
      go_enter Tryd.func39, Tryd.ntmps39
      go_wp2
      have N1 := three_newk w al ah bl bh 0 65535
      unfold kO at N1
      refine kshut0 N1.out.2.2.1 N1.out.2.2.2 ?_ (by rw [E.out]; rfl)
      intro c0 c1; simp [results, Tryd.results39, go_sem, c0, c1]

set_option maxRecDepth 100000 in
set_option maxHeartbeats 8000000 in
theorem l10Do_10 (al ah bl bh : Nat) (w : World) (ga : Hid (goodK ⟨al, ah⟩ = true)) (gb : Hid (goodK ⟨bl, bh⟩ = true)) :
    Calls Tryd.prog 39 #[.int .i64 10, .agg #[.int .i64 al, .int .i64 ah], .agg #[.int .i64 bl, .int .i64 bh]] w fun e w' => e = .returned (.agg #[.int .i64 (doK 10 ⟨al, ah⟩ ⟨bl, bh⟩).v, .int .i64 (doK 10 ⟨al, ah⟩ ⟨bl, bh⟩).m]) ∧ Below w.heap.size w w' := by
  obtain ⟨h1, h2, -⟩ := goodK_yes ga.out
  obtain ⟨h3, h4, -⟩ := goodK_yes gb.out
  simp only at h1 h2 h3 h4
  by_cases zb : bh = 0
  · have E : Hid (doK 10 ⟨al, ah⟩ ⟨bl, bh⟩ = ⟨opN 10 al bl, opN 10 ah bl⟩) := Lib.hid (by rw [shift_yes (by omega), if_pos zb])
    obtain ⟨z1, hz1⟩ : ∃ z, opN 10 al bl = z := ⟨_, rfl⟩
    obtain ⟨z2, hz2⟩ : ∃ z, opN 10 ah bl = z := ⟨_, rfl⟩
    rw [hz1, hz2] at E
    have Z1 := Lib.hid hz1
    have Z2 := Lib.hid hz2
    have ebh : ((bh : Int) == 0) = true := by simp; omega
    clear zb ga gb hz1 hz2
    have N0 := three_newk w (al) (ah) (bl) (bh) (0) (0)
    go_enter Tryd.func39, Tryd.ntmps39
    go_wp2_with fail
    unfold kO at N0
    generalize (((w.alloc (.cells #[.int .i64 al, .int .i64 ah] 24)).alloc (.cells #[.int .i64 bl, .int .i64 bh] 24)).alloc (.cells #[.int .i64 0, .int .i64 0] 24)) = v0 at N0 ⊢
    have D0 := Lib.hid (Below.refl v0.heap.size v0)
    have lr := N0.out.2.2.1.lt
    have k2 := (KB.below N0.out.2.2.1 D0.out).c0
    have m2 := (KB.below N0.out.2.2.1 D0.out).c1
    have f2 := (KB.below N0.out.2.2.1 D0.out).f 0
    have j2 := (KB.below N0.out.2.2.1 D0.out).f 1
    refine wp_region_held_drew (S := fun W => W.cell? ⟨w.heap.size, 0, none⟩ = some (.int .i64 al) ∧ W.cell? ⟨w.heap.size, 1, none⟩ = some (.int .i64 ah) ∧ W.cell? ⟨w.heap.size + 1, 0, none⟩ = some (.int .i64 bl) ∧ W.cell? ⟨w.heap.size + 1, 1, none⟩ = some (.int .i64 bh)) (by kernel_rfl) ?_ (fun hHeld => ?_)
    · exact ⟨(KB.below N0.out.1 D0.out).c0, (KB.below N0.out.1 D0.out).c1, (KB.below N0.out.2.1 D0.out).c0, (KB.below N0.out.2.1 D0.out).c1⟩
    refine wpAnyH_take (i := 0) (v := ?_) rfl (by kernel_rfl) (by kernel_rfl) (by kernel_rfl) (fun _ _ _ h => h) (Or.inl ⟨by rfl, ?_⟩) (by assumption) ?_
    rotate_left
    · intro W hSw
      try dsimp only at hSw
      go_simp
      try with_reducible rfl
    refine wpAnyH_take (i := 1) (v := ?_) rfl (by kernel_rfl) (by kernel_rfl) (by kernel_rfl) (fun _ _ _ h => h) (Or.inl ⟨by rfl, ?_⟩) (by assumption) ?_
    rotate_left
    · intro W hSw
      try dsimp only at hSw
      go_simp
      try with_reducible rfl
    refine wpAnyH_take (i := 3) (v := ?_) rfl (by kernel_rfl) (by kernel_rfl) (by kernel_rfl) (fun _ _ _ h => h) (Or.inl ⟨by rfl, ?_⟩) (by assumption) ?_
    rotate_left
    · intro W hSw
      try dsimp only at hSw
      go_simp
      try with_reducible rfl
    refine wpAnyH_take (i := 6) (v := ?_) rfl (by kernel_rfl) (by kernel_rfl) (by kernel_rfl) (fun _ _ _ h => h) (Or.inl ⟨by rfl, ?_⟩) (by assumption) ?_
    rotate_left
    · intro W hSw
      try dsimp only at hSw
      go_simp
      try with_reducible rfl
    refine wpAnyH_take (i := 7) (v := ?_) rfl (by kernel_rfl) (by kernel_rfl) (by kernel_rfl) (fun _ _ _ h => h) (Or.inl ⟨by rfl, ?_⟩) (by assumption) ?_
    rotate_left
    · intro W hSw
      try dsimp only at hSw
      go_simp
      try with_reducible rfl
    refine wpAnyH_take (i := 9) (v := ?_) rfl (by kernel_rfl) (by kernel_rfl) (by kernel_rfl) (fun _ _ _ h => h) (Or.inl ⟨by rfl, ?_⟩) (by assumption) ?_
    rotate_left
    · intro W hSw
      try dsimp only at hSw
      go_simp
      try with_reducible rfl
    refine wpAnyH_take (i := 2) (v := ?_) rfl (by kernel_rfl) (by kernel_rfl) (by kernel_rfl) (fun _ _ _ h => h) (Or.inl ⟨by rfl, ?_⟩) (by assumption) ?_
    rotate_left
    · intro W hSw
      try dsimp only at hSw
      go_simp
      try with_reducible rfl
    refine wpAnyH_take (i := 4) (v := ?_) rfl (by kernel_rfl) (by kernel_rfl) (by kernel_rfl) (fun _ _ _ h => h) (Or.inl ⟨by rfl, ?_⟩) (by assumption) ?_
    rotate_left
    · intro W hSw
      try dsimp only at hSw
      go_simp
      try with_reducible rfl
    refine wpAnyH_take (i := 8) (v := ?_) rfl (by kernel_rfl) (by kernel_rfl) (by kernel_rfl) (fun _ _ _ h => h) (Or.inl ⟨by rfl, ?_⟩) (by assumption) ?_
    rotate_left
    · intro W hSw
      try dsimp only at hSw
      go_simp
      try with_reducible rfl
    refine wpAnyH_take (i := 10) (v := ?_) rfl (by kernel_rfl) (by kernel_rfl) (by kernel_rfl) (fun _ _ _ h => h) (Or.inl ⟨by rfl, ?_⟩) (by assumption) ?_
    rotate_left
    · intro W hSw
      try dsimp only at hSw
      go_simp
      try with_reducible rfl
    refine wpAnyH_ready (rs := [5]) (by kernel_rfl) (by simp) ?_
    refine AllReadyH.cons rfl (fun K hK => ?_) AllReadyH.nil
    go_simp
    refine (l1DoN_any 10 al bl z1 _ rfl h1 h3 Z1).mono ?_
    rintro e v9 ⟨rfl, rfl⟩
    refine hK.out _ _ (by assumption) (fun hHeld2 => ?_)
    clear hK K
    refine wpAnyH_ready (rs := [11]) (by kernel_rfl) (by simp) ?_
    refine AllReadyH.cons rfl (fun K hK => ?_) AllReadyH.nil
    go_simp
    refine (l1DoN_any 10 ah bl z2 _ rfl h2 h3 Z2).mono ?_
    rintro e v9 ⟨rfl, rfl⟩
    refine hK.out _ _ (by assumption) (fun hHeld2 => ?_)
    clear hK K
    refine wpAnyH_take (i := 12) (v := ?_) rfl (by kernel_rfl) (by kernel_rfl) (by kernel_rfl) (fun _ _ _ h => h) (Or.inl ⟨by rfl, ?_⟩) (by assumption) ?_
    rotate_left
    · intro W hSw
      try dsimp only at hSw
      go_simp
      try with_reducible rfl
    refine wpAnyH_ready (rs := [13]) (by kernel_rfl) (by simp) ?_
    refine AllReadyH.cons rfl (fun K hK => ?_) AllReadyH.nil
    go_simp
    refine hK.out _ _ ⟨(KB.far2 (KB.below N0.out.1 D0.out) (by omega)).c0, (KB.far2 (KB.below N0.out.1 D0.out) (by omega)).c1, (KB.far2 (KB.below N0.out.2.1 D0.out) (by omega)).c0, (KB.far2 (KB.below N0.out.2.1 D0.out) (by omega)).c1⟩ (fun hHeld2 => ?_)
    clear hK K
    refine wpAnyH_done (by kernel_rfl) ?_ _
    go_wp2
    refine kshut0 ((KB.below N0.out.2.2.1 D0.out).set2.drewn) ((belowK2 (Below.tr N0.out.2.2.2 D0.out) (by omega)).drew) ?_ (by rw [E.out])
    intro c0 c1; simp [results, Tryd.results39, go_sem, c0, c1]
  · have E : Hid (doK 10 ⟨al, ah⟩ ⟨bl, bh⟩ = allK) := Lib.hid (by rw [shift_yes (by omega), if_neg zb])
    have ebh : ((bh : Int) == 0) = false := by simp; omega
    by_cases za : ah = 0
    · have eah : ((ah : Int) == 0) = true := by simp; omega
      clear za zb ga gb
      go_enter Tryd.func39, Tryd.ntmps39
      go_wp2
      have N1 := three_newk w al ah bl bh 0 65535
      unfold kO at N1
      refine kshut0 N1.out.2.2.1 N1.out.2.2.2 ?_ (by rw [E.out]; rfl)
      intro c0 c1; simp [results, Tryd.results39, go_sem, c0, c1]
    · have eah : ((ah : Int) == 0) = false := by simp; omega
      clear za zb ga gb
      go_enter Tryd.func39, Tryd.ntmps39
      go_wp2
      have N1 := three_newk w al ah bl bh 0 65535
      unfold kO at N1
      refine kshut0 N1.out.2.2.1 N1.out.2.2.2 ?_ (by rw [E.out]; rfl)
      intro c0 c1; simp [results, Tryd.results39, go_sem, c0, c1]

end Go.Proofs.YtmfganodnlnjcaaDoor.Op
