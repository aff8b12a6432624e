/-
  Contracts of chapter 10: DoKnown of the program and its rules.
-/
import Derived.Test.YtmfganodnlnjcaaDoorKn3
import Derived.Test.YtmfganodnlnjcaaDoorODoOps
namespace Go.Proofs.YtmfganodnlnjcaaDoor.Op
open Go.Proofs.YtmfganodnlnjcaaDoor
open Go.ChangeShapes Go.WideShapes Go.ChangeAt Go.RowKit

theorem PowTab.bel {w w' : World} (h : PowTab w) (hb : Below w.heap.size w w') : PowTab w' := fun i hi =>
  (hb.cell (p := ⟨1, i, none⟩) (World.block_lt_of_cell? w _ (h i hi))).trans (h i hi)
theorem wd_add (x y : Nat) : wd ((x : Int) + (y : Int)) = ((addN x y : Nat) : Int) := by unfold wd addN; omega
theorem wd_sub {x y : Nat} (hx : x < 65536) (hy : y < 65536) : wd ((x : Int) - (y : Int)) = ((subN x y : Nat) : Int) := by unfold wd subN; omega
theorem notK_int {s m : Nat} (hs : s < 65536) (hm : m < 65536) : bits .andNot .i64 (s : Int) (m : Int) = ((notK s m).v : Int) ∧ (m : Int) = ((notK s m).m : Int) := ⟨not_int hs hm, rfl⟩
/-- the bits of a sum or a difference, as Go reckons them -/
theorem mask_int {a b c d : Nat} (ha : a < 65536) (hb : b < 65536) (hc : c < 65536) (hd : d < 65536) : bits .or .i64 (bits .or .i64 (a : Int) (b : Int)) (bits .xor .i64 (c : Int) (d : Int)) = ((a ||| b ||| (c ^^^ d) : Nat) : Int) := by
  rw [or_int ha hb, xor_int hc hd, or_int (or_lt16 ha hb) (xor_lt16 hc hd)]
theorem opOf_nat {op : Int} {x y : Nat} (ho : isOp op = true) (hx : x < 65536) (hy : y < 65536) : opOf op (x : Int) (y : Int) = ((opN op x y : Nat) : Int) := by
  unfold opOf
  rw [ho, isW_nat, isW_nat, decide_eq_true hx, decide_eq_true hy]
  exact opv_nat hx hy
theorem doA_rule {op al ah bl bh : Int} (h : isOp op = true) : doA op al ah bl bh = ruleA (doK op) al ah bl bh := by unfold doA ruleA; rw [h]; simp
theorem doA_none {op al ah bl bh : Int} (h : isOp op = false) : doA op al ah bl bh = (⟨0, 0⟩, false) := by unfold doA; rw [h]; rfl
set_option maxRecDepth 100000 in
set_option maxHeartbeats 1000000 in
theorem on_any (op x y z : Int) (w : World) (HT : Hid (PowTab w)) (hz : Hid (opOf op x y = z)) :
    Calls Tryd.prog 73 #[.int .i64 op, .int .i64 x, .int .i64 y] w fun e w' => e = .returned (.int .i64 z) ∧ w = w' := by
  go_enter Tryd.func73, Tryd.ntmps73
  go_wp2_with (go_at_call 15; refine (doOp_any _ _ _ _ HT).mono ?_; rw [hz.out]; rintro e w' ⟨rfl, rfl⟩)
  go_ret
  exact ⟨rfl, rfl⟩
theorem greatN_any (a b p : Nat) (w : World) (h : Hid (bits .or .i64 (a : Int) (b : Int) = (p : Int))) :
    Calls Tryd.prog 69 #[.agg #[.int .i64 a, .int .i64 b]] w fun e w' => e = .returned (.int .i64 p) ∧ Below w.heap.size w w' := by
  refine (greatest_any _ _ _).mono ?_
  rw [h.out]
  exact fun e w' h => h

set_option maxRecDepth 100000 in
set_option maxHeartbeats 4000000 in
theorem plus_any (al ah bl bh : Nat) (w : World) (ga : Hid (goodK ⟨al, ah⟩ = true)) (gb : Hid (goodK ⟨bl, bh⟩ = true)) :
    Calls Tryd.prog 61 #[.agg #[.int .i64 al, .int .i64 ah], .agg #[.int .i64 bl, .int .i64 bh]] w fun e w' => e = .returned (.agg #[.int .i64 (sumK ⟨al, ah⟩ ⟨bl, bh⟩).v, .int .i64 (sumK ⟨al, ah⟩ ⟨bl, bh⟩).m]) ∧ Below w.heap.size w w' := by
  obtain ⟨h1, h2, -⟩ := goodK_yes ga.out
  obtain ⟨h3, h4, -⟩ := goodK_yes gb.out
  simp only at h1 h2 h3 h4
  obtain ⟨p, hp⟩ : ∃ p, al ||| ah = p := ⟨_, rfl⟩
  obtain ⟨q, hq⟩ : ∃ q, bl ||| bh = q := ⟨_, rfl⟩
  have ep := add_or ga.out
  have eq := add_or gb.out
  simp only at ep eq
  have P := Lib.hid ((or_int h1 h2).trans (congrArg _ hp))
  have Q := Lib.hid ((or_int h3 h4).trans (congrArg _ hq))
  have bp : p < 65536 := by rw [← hp]; exact or_lt16 h1 h2
  have bq : q < 65536 := by rw [← hq]; exact or_lt16 h3 h4
  rw [hp] at ep
  rw [hq] at eq
  obtain ⟨s, hs⟩ : ∃ s, addN al bl = s := ⟨_, rfl⟩
  obtain ⟨t, ht⟩ : ∃ t, addN p q = t := ⟨_, rfl⟩
  have S1 := Lib.hid ((wd_add al bl).trans (congrArg _ hs))
  have T1 := Lib.hid ((wd_add p q).trans (congrArg _ ht))
  have bs : s < 65536 := by rw [← hs]; exact addN_lt _ _
  have bt : t < 65536 := by rw [← ht]; exact addN_lt _ _
  have E : Hid (sumK ⟨al, ah⟩ ⟨bl, bh⟩ = notK s (ah ||| bh ||| (s ^^^ t))) := Lib.hid (by unfold sumK; simp only; rw [ep, eq, hs, ht])
  obtain ⟨m, hm⟩ : ∃ m, ah ||| bh ||| (s ^^^ t) = m := ⟨_, rfl⟩
  have M := Lib.hid ((mask_int h2 h4 bs bt).trans (congrArg _ hm))
  have bm : m < 65536 := by rw [← hm]; exact or_lt16 (or_lt16 h2 h4) (xor_lt16 bs bt)
  rw [hm] at E
  obtain ⟨n1, n2⟩ := notK_int bs bm
  have N1 := Lib.hid n1
  clear hs ht hm hp hq ep eq n1 n2 ga gb
  have N0 := three_newk w (al) (ah) (bl) (bh) (0) (0)
  go_enter Tryd.func61, Tryd.ntmps61
  go_wp2_with (first | (go_at_call 43; refine (wordOf_any _ _).mono ?_; rw [S1.out]; rintro e w' ⟨rfl, rfl⟩) | fail)
  unfold kO at N0
  generalize (((w.alloc (.cells #[.int .i64 al, .int .i64 ah] 24)).alloc (.cells #[.int .i64 bl, .int .i64 bh] 24)).alloc (.cells #[.int .i64 0, .int .i64 0] 24)) = v0 at N0 ⊢
  have D0 := Lib.hid (Below.refl v0.heap.size v0)
  have lr := N0.out.2.2.1.lt
  refine wp_region_held_drew (S := fun W => W.cell? ⟨w.heap.size, 0, none⟩ = some (.int .i64 al) ∧ W.cell? ⟨w.heap.size, 1, none⟩ = some (.int .i64 ah) ∧ W.cell? ⟨w.heap.size + 1, 0, none⟩ = some (.int .i64 bl) ∧ W.cell? ⟨w.heap.size + 1, 1, none⟩ = some (.int .i64 bh)) (by kernel_rfl) ?_ (fun hHeld => ?_)
  · exact ⟨(KB.below N0.out.1 D0.out).c0, (KB.below N0.out.1 D0.out).c1, (KB.below N0.out.2.1 D0.out).c0, (KB.below N0.out.2.1 D0.out).c1⟩
  refine wpAnyH_take (i := 0) (v := ?_) rfl (by kernel_rfl) (by kernel_rfl) (by kernel_rfl) (fun _ _ _ h => h) (Or.inl ⟨by rfl, ?_⟩) (by assumption) ?_
  rotate_left
  · intro W hSw
    try dsimp only at hSw
    go_simp
    try with_reducible rfl
  refine wpAnyH_take (i := 2) (v := ?_) rfl (by kernel_rfl) (by kernel_rfl) (by kernel_rfl) (fun _ _ _ h => h) (Or.inl ⟨by rfl, ?_⟩) (by assumption) ?_
  rotate_left
  · intro W hSw
    try dsimp only at hSw
    go_simp
    try with_reducible rfl
  refine wpAnyH_ready (rs := [1]) (by kernel_rfl) (by simp) ?_
  refine AllReadyH.cons rfl (fun K hK => ?_) AllReadyH.nil
  go_simp
  refine (greatN_any _ _ p _ P).mono ?_
  rintro e y1 ⟨rfl, hb⟩
  have Y1 := Lib.hid (Below.tr (Below.drew D0.out) hb)
  have Y1z := Y1.out.size
  have Y1_r := Lib.hid (KB.below (KB.drewn N0.out.2.2.1) hb)
  have Y1_rx := Y1_r.out.c0
  have Y1_ry := Y1_r.out.c1
  have Y1_rf := Y1_r.out.f 0
  have Y1_rh := Y1_r.out.f 1
  have Y1_rl := Y1_r.out.lt
  clear hb
  refine hK.out _ _ ⟨(KB.below N0.out.1 Y1.out).c0, (KB.below N0.out.1 Y1.out).c1, (KB.below N0.out.2.1 Y1.out).c0, (KB.below N0.out.2.1 Y1.out).c1⟩ (fun hHeld2 => ?_)
  clear hK K
  refine wpAnyH_ready (rs := [3]) (by kernel_rfl) (by simp) ?_
  refine AllReadyH.cons rfl (fun K hK => ?_) AllReadyH.nil
  go_simp
  refine (greatN_any _ _ q _ Q).mono ?_
  rintro e y2 ⟨rfl, hb⟩
  have Y2 := Lib.hid (Below.tr Y1.out hb)
  have Y2z := Y2.out.size
  have Y2_r := Lib.hid (KB.below Y1_r.out hb)
  have Y2_rx := Y2_r.out.c0
  have Y2_ry := Y2_r.out.c1
  have Y2_rf := Y2_r.out.f 0
  have Y2_rh := Y2_r.out.f 1
  have Y2_rl := Y2_r.out.lt
  clear hb
  refine hK.out _ _ ⟨(KB.below N0.out.1 Y2.out).c0, (KB.below N0.out.1 Y2.out).c1, (KB.below N0.out.2.1 Y2.out).c0, (KB.below N0.out.2.1 Y2.out).c1⟩ (fun hHeld2 => ?_)
  clear hK K
  refine wpAnyH_take (i := 4) (v := ?_) rfl (by kernel_rfl) (by kernel_rfl) (by kernel_rfl) (fun _ _ _ h => h) (Or.inl ⟨by rfl, ?_⟩) (by assumption) ?_
  rotate_left
  · intro W hSw
    try dsimp only at hSw
    go_simp
    try with_reducible rfl
  refine wpAnyH_ready (rs := [5]) (by kernel_rfl) (by simp) ?_
  refine AllReadyH.cons rfl (fun K hK => ?_) AllReadyH.nil
  go_simp
  refine (wordOf_any _ _).mono ?_
  rw [show IntKind.i64.wrap ((p : Int) + (q : Int)) = (p : Int) + (q : Int) by rw [IntKind.wrap_i64]; omega, T1.out]
  rintro e v9 ⟨rfl, rfl⟩
  refine hK.out _ _ (by assumption) (fun hHeld2 => ?_)
  clear hK K
  refine wpAnyH_ready (rs := [6]) (by kernel_rfl) (by simp) ?_
  refine AllReadyH.cons rfl (fun K hK => ?_) AllReadyH.nil
  go_simp
  refine hK.out _ _ ⟨(KB.below N0.out.1 Y2.out).c0, (KB.below N0.out.1 Y2.out).c1, (KB.below N0.out.2.1 Y2.out).c0, (KB.below N0.out.2.1 Y2.out).c1⟩ (fun hHeld2 => ?_)
  clear hK K
  refine wpAnyH_done (by kernel_rfl) ?_ _
  have kk0 := (KB.below N0.out.1 Y2.out).c0
  have mm0 := (KB.below N0.out.1 Y2.out).c1
  have kk1 := (KB.below N0.out.2.1 Y2.out).c0
  have mm1 := (KB.below N0.out.2.1 Y2.out).c1
  have kk2 := (KB.below N0.out.2.2.1 Y2.out).c0
  have mm2 := (KB.below N0.out.2.2.1 Y2.out).c1
  have ff2 := (KB.below N0.out.2.2.1 Y2.out).f 0
  have jj2 := (KB.below N0.out.2.2.1 Y2.out).f 1
  go_wp2_with fail
  try rw [M.out]
  refine (knownBut_any _ _ _).mono ?_
  rw [N1.out]
  rintro e z1 ⟨rfl, hb⟩
  have DZ := Lib.hid (Below.tr Y2.out hb)
  clear hb
  have k9 := (KB.below N0.out.2.2.1 DZ.out).c0
  have m9 := (KB.below N0.out.2.2.1 DZ.out).c1
  have f9 := (KB.below N0.out.2.2.1 DZ.out).f 0
  have j9 := (KB.below N0.out.2.2.1 DZ.out).f 1
  go_wp2
  refine kshut0 ((KB.below N0.out.2.2.1 DZ.out).set2) (belowK2 (Below.tr N0.out.2.2.2 DZ.out) (by omega)) ?_ (by rw [E.out]; rfl)
  intro c0 c1; simp [results, Tryd.results61, go_sem, c0, c1]

set_option maxRecDepth 100000 in
set_option maxHeartbeats 4000000 in
theorem minus_any (al ah bl bh : Nat) (w : World) (ga : Hid (goodK ⟨al, ah⟩ = true)) (gb : Hid (goodK ⟨bl, bh⟩ = true)) :
    Calls Tryd.prog 62 #[.agg #[.int .i64 al, .int .i64 ah], .agg #[.int .i64 bl, .int .i64 bh]] w fun e w' => e = .returned (.agg #[.int .i64 (difK ⟨al, ah⟩ ⟨bl, bh⟩).v, .int .i64 (difK ⟨al, ah⟩ ⟨bl, bh⟩).m]) ∧ Below w.heap.size w w' := by
  obtain ⟨h1, h2, -⟩ := goodK_yes ga.out
  obtain ⟨h3, h4, -⟩ := goodK_yes gb.out
  simp only at h1 h2 h3 h4
  obtain ⟨s, hs⟩ : ∃ x, subN al bl = x := ⟨_, rfl⟩
  have bs : s < 65536 := by rw [← hs]; exact subN_lt _ _
  have S1 := Lib.hid ((wd_sub h1 h3).trans (congrArg _ hs))
  obtain ⟨u, hu⟩ : ∃ x, addN s ah = x := ⟨_, rfl⟩
  have bu : u < 65536 := by rw [← hu]; exact addN_lt _ _
  have U1 := Lib.hid ((wd_add s ah).trans (congrArg _ hu))
  obtain ⟨d, hd⟩ : ∃ x, subN s bh = x := ⟨_, rfl⟩
  have bd : d < 65536 := by rw [← hd]; exact subN_lt _ _
  have D1 := Lib.hid ((wd_sub bs h4).trans (congrArg _ hd))
  have E : Hid (difK ⟨al, ah⟩ ⟨bl, bh⟩ = notK s (ah ||| bh ||| (u ^^^ d))) := Lib.hid (by unfold difK; simp only; rw [hs, hu, hd])
  obtain ⟨m, hm⟩ : ∃ m, ah ||| bh ||| (u ^^^ d) = m := ⟨_, rfl⟩
  have M := Lib.hid ((mask_int h2 h4 bu bd).trans (congrArg _ hm))
  have bm : m < 65536 := by rw [← hm]; exact or_lt16 (or_lt16 h2 h4) (xor_lt16 bu bd)
  rw [hm] at E
  obtain ⟨n1, n2⟩ := notK_int bs bm
  have N1 := Lib.hid n1
  clear hs hu hd hm n1 n2 ga gb
  have N0 := three_newk w (al) (ah) (bl) (bh) (0) (0)
  go_enter Tryd.func62, Tryd.ntmps62
  go_wp2_with (first | (go_at_call 43; refine (wordOf_any _ _).mono ?_; (first | rw [S1.out] | rw [U1.out] | rw [D1.out]); rintro e w' ⟨rfl, rfl⟩) | fail)
  unfold kO at N0
  generalize (((w.alloc (.cells #[.int .i64 al, .int .i64 ah] 24)).alloc (.cells #[.int .i64 bl, .int .i64 bh] 24)).alloc (.cells #[.int .i64 0, .int .i64 0] 24)) = v0 at N0 ⊢
  have D0 := Lib.hid (Below.refl v0.heap.size v0)
  have lr := N0.out.2.2.1.lt
  go_wp2_with fail
  try rw [M.out]
  refine (knownBut_any _ _ _).mono ?_
  rw [N1.out]
  rintro e z1 ⟨rfl, hb⟩
  have DZ := Lib.hid (Below.tr D0.out hb)
  clear hb
  have k9 := (KB.below N0.out.2.2.1 DZ.out).c0
  have m9 := (KB.below N0.out.2.2.1 DZ.out).c1
  have f9 := (KB.below N0.out.2.2.1 DZ.out).f 0
  have j9 := (KB.below N0.out.2.2.1 DZ.out).f 1
  go_wp2
  refine kshut0 ((KB.below N0.out.2.2.1 DZ.out).set2) (belowK2 (Below.tr N0.out.2.2.2 DZ.out) (by omega)) ?_ (by rw [E.out]; rfl)
  intro c0 c1; simp [results, Tryd.results62, go_sem, c0, c1]

theorem words_yes {op : Int} {a b c d : Nat} (ho : op = 3 ∨ op = 4 ∨ op = 5) : doK op ⟨a, b⟩ ⟨c, d⟩ = if b = 0 ∧ d = 0 then ⟨opN op a c, 0⟩ else allK := by
  unfold doK
  rw [if_neg (by omega), if_neg (by omega), if_neg (by omega), if_neg (by omega), if_neg (by omega), if_neg (by omega)]
theorem shift_yes {op : Int} {a b c d : Nat} (ho : op = 9 ∨ op = 10) : doK op ⟨a, b⟩ ⟨c, d⟩ = if d = 0 then ⟨opN op a c, opN op b c⟩ else allK := by
  unfold doK
  rw [if_neg (by omega), if_neg (by omega), if_neg (by omega), if_neg (by omega), if_neg (by omega), if_pos (by omega)]

set_option maxRecDepth 100000 in
set_option maxHeartbeats 4000000 in
theorem onWords_any (op : Int) (al ah bl bh : Nat) (w : World) (ga : Hid (goodK ⟨al, ah⟩ = true)) (gb : Hid (goodK ⟨bl, bh⟩ = true)) (HT : Hid (PowTab w)) (ho : Hid (op = 3 ∨ op = 4 ∨ op = 5)) :
    Calls Tryd.prog 63 #[.int .i64 op, .agg #[.int .i64 al, .int .i64 ah], .agg #[.int .i64 bl, .int .i64 bh]] w fun e w' => e = .returned (.agg #[.int .i64 (doK op ⟨al, ah⟩ ⟨bl, bh⟩).v, .int .i64 (doK op ⟨al, ah⟩ ⟨bl, bh⟩).m]) ∧ Below w.heap.size w w' := by
  obtain ⟨h1, h2, -⟩ := goodK_yes ga.out
  obtain ⟨h3, h4, -⟩ := goodK_yes gb.out
  simp only at h1 h2 h3 h4
  have io : isOp op = true := by have := ho.out; unfold isOp; rw [decide_eq_true_eq]; omega
  by_cases za : ah = 0
  · by_cases zb : bh = 0
    · have Z := Lib.hid (opOf_nat io h1 h3)
      have E : Hid (doK op ⟨al, ah⟩ ⟨bl, bh⟩ = ⟨opN op al bl, 0⟩) := Lib.hid (by rw [words_yes ho.out, if_pos ⟨za, zb⟩])
      have eah : ((ah : Int) != 0) = false := by simp; omega
      have ebh : ((bh : Int) != 0) = false := by simp; omega
      clear io za zb ga gb ho
      have N0 := three_newk w (al) (ah) (bl) (bh) (0) (0)
      go_enter Tryd.func63, Tryd.ntmps63
      go_wp2_with fail
      unfold kO at N0
      generalize (((w.alloc (.cells #[.int .i64 al, .int .i64 ah] 24)).alloc (.cells #[.int .i64 bl, .int .i64 bh] 24)).alloc (.cells #[.int .i64 0, .int .i64 0] 24)) = v0 at N0 ⊢
      have D0 := Lib.hid (Below.refl v0.heap.size v0)
      have lr := N0.out.2.2.1.lt
      refine (on_any _ _ _ _ _ (Lib.hid (HT.out.bel N0.out.2.2.2)) Z).mono ?_
      rintro e v9 ⟨rfl, rfl⟩
      have k2 := (KB.below N0.out.2.2.1 D0.out).c0
      have m2 := (KB.below N0.out.2.2.1 D0.out).c1
      have f2 := (KB.below N0.out.2.2.1 D0.out).f 0
      have j2 := (KB.below N0.out.2.2.1 D0.out).f 1
      go_wp2
      refine kshut0 ((KB.below N0.out.2.2.1 D0.out).set2) (belowK2 (Below.tr N0.out.2.2.2 D0.out) (by omega)) ?_ ?_
      · intro c0 c1; simp [results, Tryd.results63, go_sem, c0, c1]
      · rw [E.out]; rfl
    · have E : Hid (doK op ⟨al, ah⟩ ⟨bl, bh⟩ = allK) := Lib.hid (by rw [words_yes ho.out, if_neg (fun h => zb h.2)])
      have eah : ((ah : Int) != 0) = false := by simp; omega
      have ebh : ((bh : Int) != 0) = true := by simp; omega
      clear io za zb ga gb ho
      have N0 := three_newk w (al) (ah) (bl) (bh) (0) (0)
      go_enter Tryd.func63, Tryd.ntmps63
      go_wp2_with fail
      unfold kO at N0
      generalize (((w.alloc (.cells #[.int .i64 al, .int .i64 ah] 24)).alloc (.cells #[.int .i64 bl, .int .i64 bh] 24)).alloc (.cells #[.int .i64 0, .int .i64 0] 24)) = v0 at N0 ⊢
      have D0 := Lib.hid (Below.refl v0.heap.size v0)
      have lr := N0.out.2.2.1.lt
      refine (noBit_any _).mono ?_
      rintro e v1 ⟨rfl, hb⟩
      have D1 := Lib.hid (Below.tr D0.out hb)
      clear hb
      have k2 := (KB.below N0.out.2.2.1 D1.out).c0
      have m2 := (KB.below N0.out.2.2.1 D1.out).c1
      have f2 := (KB.below N0.out.2.2.1 D1.out).f 0
      have j2 := (KB.below N0.out.2.2.1 D1.out).f 1
      go_wp2
      refine kshut0 ((KB.below N0.out.2.2.1 D1.out).set2) (belowK2 (Below.tr N0.out.2.2.2 D1.out) (by omega)) ?_ ?_
      · intro c0 c1; simp [results, Tryd.results63, go_sem, c0, c1]
      · rw [E.out]; rfl
  · have E : Hid (doK op ⟨al, ah⟩ ⟨bl, bh⟩ = allK) := Lib.hid (by rw [words_yes ho.out, if_neg (fun h => za h.1)])
    have eah : ((ah : Int) != 0) = true := by simp; omega
    clear io za ga gb ho
    have N0 := three_newk w (al) (ah) (bl) (bh) (0) (0)
    go_enter Tryd.func63, Tryd.ntmps63
    go_wp2_with fail
    unfold kO at N0
    generalize (((w.alloc (.cells #[.int .i64 al, .int .i64 ah] 24)).alloc (.cells #[.int .i64 bl, .int .i64 bh] 24)).alloc (.cells #[.int .i64 0, .int .i64 0] 24)) = v0 at N0 ⊢
    have D0 := Lib.hid (Below.refl v0.heap.size v0)
    have lr := N0.out.2.2.1.lt
    refine (noBit_any _).mono ?_
    rintro e v1 ⟨rfl, hb⟩
    have D1 := Lib.hid (Below.tr D0.out hb)
    clear hb
    have k2 := (KB.below N0.out.2.2.1 D1.out).c0
    have m2 := (KB.below N0.out.2.2.1 D1.out).c1
    have f2 := (KB.below N0.out.2.2.1 D1.out).f 0
    have j2 := (KB.below N0.out.2.2.1 D1.out).f 1
    go_wp2
    refine kshut0 ((KB.below N0.out.2.2.1 D1.out).set2) (belowK2 (Below.tr N0.out.2.2.2 D1.out) (by omega)) ?_ ?_
    · intro c0 c1; simp [results, Tryd.results63, go_sem, c0, c1]
    · rw [E.out]; rfl

set_option maxRecDepth 100000 in
set_option maxHeartbeats 4000000 in
theorem shifted_any (op : Int) (al ah bl bh : Nat) (w : World) (ga : Hid (goodK ⟨al, ah⟩ = true)) (gb : Hid (goodK ⟨bl, bh⟩ = true)) (HT : Hid (PowTab w)) (ho : Hid (op = 9 ∨ op = 10)) :
    Calls Tryd.prog 65 #[.int .i64 op, .agg #[.int .i64 al, .int .i64 ah], .agg #[.int .i64 bl, .int .i64 bh]] w fun e w' => e = .returned (.agg #[.int .i64 (doK op ⟨al, ah⟩ ⟨bl, bh⟩).v, .int .i64 (doK op ⟨al, ah⟩ ⟨bl, bh⟩).m]) ∧ Below w.heap.size w w' := by
  obtain ⟨h1, h2, -⟩ := goodK_yes ga.out
  obtain ⟨h3, h4, -⟩ := goodK_yes gb.out
  simp only at h1 h2 h3 h4
  have io : isOp op = true := by have := ho.out; unfold isOp; rw [decide_eq_true_eq]; omega
  by_cases zb : bh = 0
  · have Z1 := Lib.hid (opOf_nat io h1 h3)
    have Z2 := Lib.hid (opOf_nat io h2 h3)
    have E : Hid (doK op ⟨al, ah⟩ ⟨bl, bh⟩ = ⟨opN op al bl, opN op ah bl⟩) := Lib.hid (by rw [shift_yes ho.out, if_pos zb])
    have ebh : ((bh : Int) != 0) = false := by simp; omega
    clear io zb ga gb ho
    have N0 := three_newk w (al) (ah) (bl) (bh) (0) (0)
    go_enter Tryd.func65, Tryd.ntmps65
    go_wp2_with fail
    unfold kO at N0
    generalize (((w.alloc (.cells #[.int .i64 al, .int .i64 ah] 24)).alloc (.cells #[.int .i64 bl, .int .i64 bh] 24)).alloc (.cells #[.int .i64 0, .int .i64 0] 24)) = v0 at N0 ⊢
    have D0 := Lib.hid (Below.refl v0.heap.size v0)
    have lr := N0.out.2.2.1.lt
    have k2 := (KB.below N0.out.2.2.1 D0.out).c0
    have m2 := (KB.below N0.out.2.2.1 D0.out).c1
    have f2 := (KB.below N0.out.2.2.1 D0.out).f 0
    have j2 := (KB.below N0.out.2.2.1 D0.out).f 1
    refine wp_region_held_drew (S := fun W => W.cell? ⟨w.heap.size, 0, none⟩ = some (.int .i64 al) ∧ W.cell? ⟨w.heap.size, 1, none⟩ = some (.int .i64 ah) ∧ W.cell? ⟨w.heap.size + 1, 0, none⟩ = some (.int .i64 bl) ∧ W.cell? ⟨w.heap.size + 1, 1, none⟩ = some (.int .i64 bh)) (by kernel_rfl) ?_ (fun hHeld => ?_)
    · exact ⟨(KB.below N0.out.1 D0.out).c0, (KB.below N0.out.1 D0.out).c1, (KB.below N0.out.2.1 D0.out).c0, (KB.below N0.out.2.1 D0.out).c1⟩
    refine wpAnyH_take (i := 0) (v := ?_) rfl (by kernel_rfl) (by kernel_rfl) (by kernel_rfl) (fun _ _ _ h => h) (Or.inl ⟨by rfl, ?_⟩) (by assumption) ?_
    rotate_left
    · intro W hSw
      try dsimp only at hSw
      go_simp
      try with_reducible rfl
    refine wpAnyH_take (i := 1) (v := ?_) rfl (by kernel_rfl) (by kernel_rfl) (by kernel_rfl) (fun _ _ _ h => h) (Or.inl ⟨by rfl, ?_⟩) (by assumption) ?_
    rotate_left
    · intro W hSw
      try dsimp only at hSw
      go_simp
      try with_reducible rfl
    refine wpAnyH_take (i := 3) (v := ?_) rfl (by kernel_rfl) (by kernel_rfl) (by kernel_rfl) (fun _ _ _ h => h) (Or.inl ⟨by rfl, ?_⟩) (by assumption) ?_
    rotate_left
    · intro W hSw
      try dsimp only at hSw
      go_simp
      try with_reducible rfl
    refine wpAnyH_take (i := 6) (v := ?_) rfl (by kernel_rfl) (by kernel_rfl) (by kernel_rfl) (fun _ _ _ h => h) (Or.inl ⟨by rfl, ?_⟩) (by assumption) ?_
    rotate_left
    · intro W hSw
      try dsimp only at hSw
      go_simp
      try with_reducible rfl
    refine wpAnyH_take (i := 7) (v := ?_) rfl (by kernel_rfl) (by kernel_rfl) (by kernel_rfl) (fun _ _ _ h => h) (Or.inl ⟨by rfl, ?_⟩) (by assumption) ?_
    rotate_left
    · intro W hSw
      try dsimp only at hSw
      go_simp
      try with_reducible rfl
    refine wpAnyH_take (i := 9) (v := ?_) rfl (by kernel_rfl) (by kernel_rfl) (by kernel_rfl) (fun _ _ _ h => h) (Or.inl ⟨by rfl, ?_⟩) (by assumption) ?_
    rotate_left
    · intro W hSw
      try dsimp only at hSw
      go_simp
      try with_reducible rfl
    refine wpAnyH_take (i := 2) (v := ?_) rfl (by kernel_rfl) (by kernel_rfl) (by kernel_rfl) (fun _ _ _ h => h) (Or.inl ⟨by rfl, ?_⟩) (by assumption) ?_
    rotate_left
    · intro W hSw
      try dsimp only at hSw
      go_simp
      try with_reducible rfl
    refine wpAnyH_take (i := 4) (v := ?_) rfl (by kernel_rfl) (by kernel_rfl) (by kernel_rfl) (fun _ _ _ h => h) (Or.inl ⟨by rfl, ?_⟩) (by assumption) ?_
    rotate_left
    · intro W hSw
      try dsimp only at hSw
      go_simp
      try with_reducible rfl
    refine wpAnyH_take (i := 8) (v := ?_) rfl (by kernel_rfl) (by kernel_rfl) (by kernel_rfl) (fun _ _ _ h => h) (Or.inl ⟨by rfl, ?_⟩) (by assumption) ?_
    rotate_left
    · intro W hSw
      try dsimp only at hSw
      go_simp
      try with_reducible rfl
    refine wpAnyH_take (i := 10) (v := ?_) rfl (by kernel_rfl) (by kernel_rfl) (by kernel_rfl) (fun _ _ _ h => h) (Or.inl ⟨by rfl, ?_⟩) (by assumption) ?_
    rotate_left
    · intro W hSw
      try dsimp only at hSw
      go_simp
      try with_reducible rfl
    refine wpAnyH_ready (rs := [5]) (by kernel_rfl) (by simp) ?_
    refine AllReadyH.cons rfl (fun K hK => ?_) AllReadyH.nil
    go_simp
    refine (on_any _ _ _ _ _ (Lib.hid (HT.out.bel (Below.tr N0.out.2.2.2 (Below.drew D0.out)))) Z1).mono ?_
    rintro e v9 ⟨rfl, rfl⟩
    refine hK.out _ _ (by assumption) (fun hHeld2 => ?_)
    clear hK K
    refine wpAnyH_ready (rs := [11]) (by kernel_rfl) (by simp) ?_
    refine AllReadyH.cons rfl (fun K hK => ?_) AllReadyH.nil
    go_simp
    refine (on_any _ _ _ _ _ (Lib.hid (HT.out.bel (Below.tr N0.out.2.2.2 (Below.drew D0.out)))) Z2).mono ?_
    rintro e v9 ⟨rfl, rfl⟩
    refine hK.out _ _ (by assumption) (fun hHeld2 => ?_)
    clear hK K
    refine wpAnyH_take (i := 12) (v := ?_) rfl (by kernel_rfl) (by kernel_rfl) (by kernel_rfl) (fun _ _ _ h => h) (Or.inl ⟨by rfl, ?_⟩) (by assumption) ?_
    rotate_left
    · intro W hSw
      try dsimp only at hSw
      go_simp
      try with_reducible rfl
    refine wpAnyH_ready (rs := [13]) (by kernel_rfl) (by simp) ?_
    refine AllReadyH.cons rfl (fun K hK => ?_) AllReadyH.nil
    go_simp
    refine hK.out _ _ ⟨(KB.far2 (KB.below N0.out.1 D0.out) (by omega)).c0, (KB.far2 (KB.below N0.out.1 D0.out) (by omega)).c1, (KB.far2 (KB.below N0.out.2.1 D0.out) (by omega)).c0, (KB.far2 (KB.below N0.out.2.1 D0.out) (by omega)).c1⟩ (fun hHeld2 => ?_)
    clear hK K
    refine wpAnyH_done (by kernel_rfl) ?_ _
    go_wp2
    refine kshut0 ((KB.below N0.out.2.2.1 D0.out).set2.drewn) ((belowK2 (Below.tr N0.out.2.2.2 D0.out) (by omega)).drew) ?_ (by rw [E.out])
    intro c0 c1; simp [results, Tryd.results65, go_sem, c0, c1]
  · have E : Hid (doK op ⟨al, ah⟩ ⟨bl, bh⟩ = allK) := Lib.hid (by rw [shift_yes ho.out, if_neg zb])
    have ebh : ((bh : Int) != 0) = true := by simp; omega
    clear io zb ga gb ho
    have N0 := three_newk w (al) (ah) (bl) (bh) (0) (0)
    go_enter Tryd.func65, Tryd.ntmps65
    go_wp2_with fail
    unfold kO at N0
    generalize (((w.alloc (.cells #[.int .i64 al, .int .i64 ah] 24)).alloc (.cells #[.int .i64 bl, .int .i64 bh] 24)).alloc (.cells #[.int .i64 0, .int .i64 0] 24)) = v0 at N0 ⊢
    have D0 := Lib.hid (Below.refl v0.heap.size v0)
    have lr := N0.out.2.2.1.lt
    refine (noBit_any _).mono ?_
    rintro e v1 ⟨rfl, hb⟩
    have D1 := Lib.hid (Below.tr D0.out hb)
    clear hb
    have k2 := (KB.below N0.out.2.2.1 D1.out).c0
    have m2 := (KB.below N0.out.2.2.1 D1.out).c1
    have f2 := (KB.below N0.out.2.2.1 D1.out).f 0
    have j2 := (KB.below N0.out.2.2.1 D1.out).f 1
    go_wp2
    refine kshut0 ((KB.below N0.out.2.2.1 D1.out).set2) (belowK2 (Below.tr N0.out.2.2.2 D1.out) (by omega)) ?_ ?_
    · intro c0 c1; simp [results, Tryd.results65, go_sem, c0, c1]
    · rw [E.out]; rfl

set_option maxRecDepth 100000 in
set_option maxHeartbeats 16000000 in
theorem bitByBit_any (op : Int) (al ah bl bh : Nat) (w : World) (ga : Hid (goodK ⟨al, ah⟩ = true)) (gb : Hid (goodK ⟨bl, bh⟩ = true)) (HT : Hid (PowTab w)) (ho : Hid (op = 6 ∨ op = 7 ∨ op = 8)) :
    Calls Tryd.prog 64 #[.int .i64 op, .agg #[.int .i64 al, .int .i64 ah], .agg #[.int .i64 bl, .int .i64 bh]] w fun e w' => e = .returned (.agg #[.int .i64 (doK op ⟨al, ah⟩ ⟨bl, bh⟩).v, .int .i64 (doK op ⟨al, ah⟩ ⟨bl, bh⟩).m]) ∧ Below w.heap.size w w' := by
  obtain ⟨h1, h2, -⟩ := goodK_yes ga.out
  obtain ⟨h3, h4, -⟩ := goodK_yes gb.out
  simp only at h1 h2 h3 h4
  have io : isOp op = true := by have := ho.out; unfold isOp; rw [decide_eq_true_eq]; omega
  obtain ⟨p, hp⟩ : ∃ p, al ||| ah = p := ⟨_, rfl⟩
  obtain ⟨q, hq⟩ : ∃ q, bl ||| bh = q := ⟨_, rfl⟩
  have P := Lib.hid ((or_int h1 h2).trans (congrArg _ hp))
  have Q := Lib.hid ((or_int h3 h4).trans (congrArg _ hq))
  have bp : p < 65536 := by rw [← hp]; exact or_lt16 h1 h2
  have bq : q < 65536 := by rw [← hq]; exact or_lt16 h3 h4
  obtain ⟨y0, hy0⟩ : ∃ z, opN op al bl = z := ⟨_, rfl⟩
  have Z0 := Lib.hid ((opOf_nat io h1 h3).trans (congrArg _ hy0))
  have by0 : y0 < 65536 := by rw [← hy0]; exact opN_lt h1 h3
  obtain ⟨y1, hy1⟩ : ∃ z, opN op al q = z := ⟨_, rfl⟩
  have Z1 := Lib.hid ((opOf_nat io h1 bq).trans (congrArg _ hy1))
  have by1 : y1 < 65536 := by rw [← hy1]; exact opN_lt h1 bq
  obtain ⟨y2, hy2⟩ : ∃ z, opN op p bl = z := ⟨_, rfl⟩
  have Z2 := Lib.hid ((opOf_nat io bp h3).trans (congrArg _ hy2))
  have by2 : y2 < 65536 := by rw [← hy2]; exact opN_lt bp h3
  obtain ⟨y3, hy3⟩ : ∃ z, opN op p q = z := ⟨_, rfl⟩
  have Z3 := Lib.hid ((opOf_nat io bp bq).trans (congrArg _ hy3))
  have by3 : y3 < 65536 := by rw [← hy3]; exact opN_lt bp bq
  have e0 := bits_four ho.out ga.out gb.out
  simp only at e0
  rw [hp, hq, hy0, hy1, hy2, hy3] at e0
  have e1 := ofI_nat [y0, y1, y2, y3] (by
    intro n hn
    simp only [List.mem_cons, List.mem_nil_iff, or_false] at hn
    rcases hn with rfl | rfl | rfl | rfl <;> assumption)
  rw [e0] at e1
  have E : Hid (ofI [(y0 : Int), (y1 : Int), (y2 : Int), (y3 : Int)] = (((doK op ⟨al, ah⟩ ⟨bl, bh⟩).v : Int), ((doK op ⟨al, ah⟩ ⟨bl, bh⟩).m : Int))) := Lib.hid e1
  clear e0 e1 hp hq hy0 hy1 hy2 hy3 io ga gb ho
  have N0 := three_newk w (al) (ah) (bl) (bh) (0) (0)
  go_enter Tryd.func64, Tryd.ntmps64
  go_wp2_with fail
  unfold kO at N0
  generalize (((w.alloc (.cells #[.int .i64 al, .int .i64 ah] 24)).alloc (.cells #[.int .i64 bl, .int .i64 bh] 24)).alloc (.cells #[.int .i64 0, .int .i64 0] 24)) = v0 at N0 ⊢
  have D0 := Lib.hid (Below.refl v0.heap.size v0)
  have lr := N0.out.2.2.1.lt
  refine wp_region_held_drew (S := fun W => W.cell? ⟨w.heap.size, 0, none⟩ = some (.int .i64 al) ∧ W.cell? ⟨w.heap.size, 1, none⟩ = some (.int .i64 ah) ∧ W.cell? ⟨w.heap.size + 1, 0, none⟩ = some (.int .i64 bl) ∧ W.cell? ⟨w.heap.size + 1, 1, none⟩ = some (.int .i64 bh)) (by kernel_rfl) ?_ (fun hHeld => ?_)
  · exact ⟨(KB.below N0.out.1 D0.out).c0, (KB.below N0.out.1 D0.out).c1, (KB.below N0.out.2.1 D0.out).c0, (KB.below N0.out.2.1 D0.out).c1⟩
  refine wpAnyH_take (i := 0) (v := ?_) rfl (by kernel_rfl) (by kernel_rfl) (by kernel_rfl) (fun _ _ _ h => h) (Or.inl ⟨by rfl, ?_⟩) (by assumption) ?_
  rotate_left
  · intro W hSw
    try dsimp only at hSw
    go_simp
    try with_reducible rfl
  refine wpAnyH_take (i := 1) (v := ?_) rfl (by kernel_rfl) (by kernel_rfl) (by kernel_rfl) (fun _ _ _ h => h) (Or.inl ⟨by rfl, ?_⟩) (by assumption) ?_
  rotate_left
  · intro W hSw
    try dsimp only at hSw
    go_simp
    try with_reducible rfl
  refine wpAnyH_take (i := 3) (v := ?_) rfl (by kernel_rfl) (by kernel_rfl) (by kernel_rfl) (fun _ _ _ h => h) (Or.inl ⟨by rfl, ?_⟩) (by assumption) ?_
  rotate_left
  · intro W hSw
    try dsimp only at hSw
    go_simp
    try with_reducible rfl
  refine wpAnyH_take (i := 6) (v := ?_) rfl (by kernel_rfl) (by kernel_rfl) (by kernel_rfl) (fun _ _ _ h => h) (Or.inl ⟨by rfl, ?_⟩) (by assumption) ?_
  rotate_left
  · intro W hSw
    try dsimp only at hSw
    go_simp
    try with_reducible rfl
  refine wpAnyH_take (i := 7) (v := ?_) rfl (by kernel_rfl) (by kernel_rfl) (by kernel_rfl) (fun _ _ _ h => h) (Or.inl ⟨by rfl, ?_⟩) (by assumption) ?_
  rotate_left
  · intro W hSw
    try dsimp only at hSw
    go_simp
    try with_reducible rfl
  refine wpAnyH_take (i := 9) (v := ?_) rfl (by kernel_rfl) (by kernel_rfl) (by kernel_rfl) (fun _ _ _ h => h) (Or.inl ⟨by rfl, ?_⟩) (by assumption) ?_
  rotate_left
  · intro W hSw
    try dsimp only at hSw
    go_simp
    try with_reducible rfl
  refine wpAnyH_take (i := 12) (v := ?_) rfl (by kernel_rfl) (by kernel_rfl) (by kernel_rfl) (fun _ _ _ h => h) (Or.inl ⟨by rfl, ?_⟩) (by assumption) ?_
  rotate_left
  · intro W hSw
    try dsimp only at hSw
    go_simp
    try with_reducible rfl
  refine wpAnyH_take (i := 13) (v := ?_) rfl (by kernel_rfl) (by kernel_rfl) (by kernel_rfl) (fun _ _ _ h => h) (Or.inl ⟨by rfl, ?_⟩) (by assumption) ?_
  rotate_left
  · intro W hSw
    try dsimp only at hSw
    go_simp
    try with_reducible rfl
  refine wpAnyH_take (i := 15) (v := ?_) rfl (by kernel_rfl) (by kernel_rfl) (by kernel_rfl) (fun _ _ _ h => h) (Or.inl ⟨by rfl, ?_⟩) (by assumption) ?_
  rotate_left
  · intro W hSw
    try dsimp only at hSw
    go_simp
    try with_reducible rfl
  refine wpAnyH_take (i := 18) (v := ?_) rfl (by kernel_rfl) (by kernel_rfl) (by kernel_rfl) (fun _ _ _ h => h) (Or.inl ⟨by rfl, ?_⟩) (by assumption) ?_
  rotate_left
  · intro W hSw
    try dsimp only at hSw
    go_simp
    try with_reducible rfl
  refine wpAnyH_take (i := 19) (v := ?_) rfl (by kernel_rfl) (by kernel_rfl) (by kernel_rfl) (fun _ _ _ h => h) (Or.inl ⟨by rfl, ?_⟩) (by assumption) ?_
  rotate_left
  · intro W hSw
    try dsimp only at hSw
    go_simp
    try with_reducible rfl
  refine wpAnyH_take (i := 21) (v := ?_) rfl (by kernel_rfl) (by kernel_rfl) (by kernel_rfl) (fun _ _ _ h => h) (Or.inl ⟨by rfl, ?_⟩) (by assumption) ?_
  rotate_left
  · intro W hSw
    try dsimp only at hSw
    go_simp
    try with_reducible rfl
  refine wpAnyH_take (i := 2) (v := ?_) rfl (by kernel_rfl) (by kernel_rfl) (by kernel_rfl) (fun _ _ _ h => h) (Or.inl ⟨by rfl, ?_⟩) (by assumption) ?_
  rotate_left
  · intro W hSw
    try dsimp only at hSw
    go_simp
    try with_reducible rfl
  refine wpAnyH_take (i := 4) (v := ?_) rfl (by kernel_rfl) (by kernel_rfl) (by kernel_rfl) (fun _ _ _ h => h) (Or.inl ⟨by rfl, ?_⟩) (by assumption) ?_
  rotate_left
  · intro W hSw
    try dsimp only at hSw
    go_simp
    try with_reducible rfl
  refine wpAnyH_take (i := 8) (v := ?_) rfl (by kernel_rfl) (by kernel_rfl) (by kernel_rfl) (fun _ _ _ h => h) (Or.inl ⟨by rfl, ?_⟩) (by assumption) ?_
  rotate_left
  · intro W hSw
    try dsimp only at hSw
    go_simp
    try with_reducible rfl
  refine wpAnyH_take (i := 16) (v := ?_) rfl (by kernel_rfl) (by kernel_rfl) (by kernel_rfl) (fun _ _ _ h => h) (Or.inl ⟨by rfl, ?_⟩) (by assumption) ?_
  rotate_left
  · intro W hSw
    try dsimp only at hSw
    go_simp
    try with_reducible rfl
  refine wpAnyH_ready (rs := [5]) (by kernel_rfl) (by simp) ?_
  refine AllReadyH.cons rfl (fun K hK => ?_) AllReadyH.nil
  go_simp
  refine (on_any _ _ _ _ _ (Lib.hid (HT.out.bel (Below.tr N0.out.2.2.2 (Below.drew D0.out)))) Z0).mono ?_
  rintro e v9 ⟨rfl, rfl⟩
  refine hK.out _ _ (by assumption) (fun hHeld2 => ?_)
  clear hK K
  refine wpAnyH_ready (rs := [10]) (by kernel_rfl) (by simp) ?_
  refine AllReadyH.cons rfl (fun K hK => ?_) AllReadyH.nil
  go_simp
  refine (greatN_any _ _ q _ Q).mono ?_
  rintro e u1 ⟨rfl, hb⟩
  have U1 := Lib.hid (Below.tr (Below.drew D0.out) hb)
  have U1z := U1.out.size
  have U1_r := Lib.hid (KB.below (KB.drewn N0.out.2.2.1) hb)
  have U1_rx := U1_r.out.c0
  have U1_ry := U1_r.out.c1
  have U1_rf := U1_r.out.f 0
  have U1_rh := U1_r.out.f 1
  have U1_rl := U1_r.out.lt
  clear hb
  refine hK.out _ _ ⟨(KB.below N0.out.1 U1.out).c0, (KB.below N0.out.1 U1.out).c1, (KB.below N0.out.2.1 U1.out).c0, (KB.below N0.out.2.1 U1.out).c1⟩ (fun hHeld2 => ?_)
  clear hK K
  refine wpAnyH_ready (rs := [11]) (by kernel_rfl) (by simp) ?_
  refine AllReadyH.cons rfl (fun K hK => ?_) AllReadyH.nil
  go_simp
  refine (on_any _ _ _ _ _ (Lib.hid (HT.out.bel (Below.tr N0.out.2.2.2 U1.out))) Z1).mono ?_
  rintro e v9 ⟨rfl, rfl⟩
  refine hK.out _ _ (by assumption) (fun hHeld2 => ?_)
  clear hK K
  refine wpAnyH_ready (rs := [14]) (by kernel_rfl) (by simp) ?_
  refine AllReadyH.cons rfl (fun K hK => ?_) AllReadyH.nil
  go_simp
  refine (greatN_any _ _ p _ P).mono ?_
  rintro e u2 ⟨rfl, hb⟩
  have U2 := Lib.hid (Below.tr U1.out hb)
  have U2z := U2.out.size
  have U2_r := Lib.hid (KB.below U1_r.out hb)
  have U2_rx := U2_r.out.c0
  have U2_ry := U2_r.out.c1
  have U2_rf := U2_r.out.f 0
  have U2_rh := U2_r.out.f 1
  have U2_rl := U2_r.out.lt
  clear hb
  refine hK.out _ _ ⟨(KB.below N0.out.1 U2.out).c0, (KB.below N0.out.1 U2.out).c1, (KB.below N0.out.2.1 U2.out).c0, (KB.below N0.out.2.1 U2.out).c1⟩ (fun hHeld2 => ?_)
  clear hK K
  refine wpAnyH_ready (rs := [17]) (by kernel_rfl) (by simp) ?_
  refine AllReadyH.cons rfl (fun K hK => ?_) AllReadyH.nil
  go_simp
  refine (on_any _ _ _ _ _ (Lib.hid (HT.out.bel (Below.tr N0.out.2.2.2 U2.out))) Z2).mono ?_
  rintro e v9 ⟨rfl, rfl⟩
  refine hK.out _ _ (by assumption) (fun hHeld2 => ?_)
  clear hK K
  refine wpAnyH_ready (rs := [20]) (by kernel_rfl) (by simp) ?_
  refine AllReadyH.cons rfl (fun K hK => ?_) AllReadyH.nil
  go_simp
  refine (greatN_any _ _ p _ P).mono ?_
  rintro e u3 ⟨rfl, hb⟩
  have U3 := Lib.hid (Below.tr U2.out hb)
  have U3z := U3.out.size
  have U3_r := Lib.hid (KB.below U2_r.out hb)
  have U3_rx := U3_r.out.c0
  have U3_ry := U3_r.out.c1
  have U3_rf := U3_r.out.f 0
  have U3_rh := U3_r.out.f 1
  have U3_rl := U3_r.out.lt
  clear hb
  refine hK.out _ _ ⟨(KB.below N0.out.1 U3.out).c0, (KB.below N0.out.1 U3.out).c1, (KB.below N0.out.2.1 U3.out).c0, (KB.below N0.out.2.1 U3.out).c1⟩ (fun hHeld2 => ?_)
  clear hK K
  refine wpAnyH_ready (rs := [22]) (by kernel_rfl) (by simp) ?_
  refine AllReadyH.cons rfl (fun K hK => ?_) AllReadyH.nil
  go_simp
  refine (greatN_any _ _ q _ Q).mono ?_
  rintro e u4 ⟨rfl, hb⟩
  have U4 := Lib.hid (Below.tr U3.out hb)
  have U4z := U4.out.size
  have U4_r := Lib.hid (KB.below U3_r.out hb)
  have U4_rx := U4_r.out.c0
  have U4_ry := U4_r.out.c1
  have U4_rf := U4_r.out.f 0
  have U4_rh := U4_r.out.f 1
  have U4_rl := U4_r.out.lt
  clear hb
  refine hK.out _ _ ⟨(KB.below N0.out.1 U4.out).c0, (KB.below N0.out.1 U4.out).c1, (KB.below N0.out.2.1 U4.out).c0, (KB.below N0.out.2.1 U4.out).c1⟩ (fun hHeld2 => ?_)
  clear hK K
  refine wpAnyH_ready (rs := [23]) (by kernel_rfl) (by simp) ?_
  refine AllReadyH.cons rfl (fun K hK => ?_) AllReadyH.nil
  go_simp
  refine (on_any _ _ _ _ _ (Lib.hid (HT.out.bel (Below.tr N0.out.2.2.2 U4.out))) Z3).mono ?_
  rintro e v9 ⟨rfl, rfl⟩
  refine hK.out _ _ (by assumption) (fun hHeld2 => ?_)
  clear hK K
  refine wpAnyH_ready (rs := [24]) (by kernel_rfl) (by simp) ?_
  refine AllReadyH.cons rfl (fun K hK => ?_) AllReadyH.nil
  go_simp
  refine hK.out _ _ ⟨(KB.below N0.out.1 (Below.tr U4.out (below1 _ _))).c0, (KB.below N0.out.1 (Below.tr U4.out (below1 _ _))).c1, (KB.below N0.out.2.1 (Below.tr U4.out (below1 _ _))).c0, (KB.below N0.out.2.1 (Below.tr U4.out (below1 _ _))).c1⟩ (fun hHeld2 => ?_)
  clear hK K
  refine wpAnyH_ready (rs := [25]) (by kernel_rfl) (by simp) ?_
  refine AllReadyH.cons rfl (fun K hK => ?_) AllReadyH.nil
  go_simp
  refine (knownOf_any _ 4 4 [(y0 : Int), (y1 : Int), (y2 : Int), (y3 : Int)] _ (Lib.hid (ilies_new _ [(y0 : Int), (y1 : Int), (y2 : Int), (y3 : Int)] _)) (Lib.hid rfl) (by omega)).mono ?_
  rintro e u5 ⟨rfl, hb⟩
  have U5 := Lib.hid (Below.tr (Below.tr U4.out (below1 _ _)) hb)
  have U5z := U5.out.size
  have U5_r := Lib.hid (KB.below (KB.below U4_r.out (below1 _ _)) hb)
  have U5_rx := U5_r.out.c0
  have U5_ry := U5_r.out.c1
  have U5_rf := U5_r.out.f 0
  have U5_rh := U5_r.out.f 1
  have U5_rl := U5_r.out.lt
  clear hb
  refine hK.out _ _ ⟨(KB.below N0.out.1 U5.out).c0, (KB.below N0.out.1 U5.out).c1, (KB.below N0.out.2.1 U5.out).c0, (KB.below N0.out.2.1 U5.out).c1⟩ (fun hHeld2 => ?_)
  clear hK K
  refine wpAnyH_ready (rs := [26]) (by kernel_rfl) (by simp) ?_
  refine AllReadyH.cons rfl (fun K hK => ?_) AllReadyH.nil
  go_simp
  refine hK.out _ _ ⟨(KB.far2 (KB.below N0.out.1 U5.out) (by omega)).c0, (KB.far2 (KB.below N0.out.1 U5.out) (by omega)).c1, (KB.far2 (KB.below N0.out.2.1 U5.out) (by omega)).c0, (KB.far2 (KB.below N0.out.2.1 U5.out) (by omega)).c1⟩ (fun hHeld2 => ?_)
  clear hK K
  refine wpAnyH_done (by kernel_rfl) ?_ _
  go_wp2
  refine kshut0 ((KB.below N0.out.2.2.1 U5.out).set2) (belowK2 (Below.tr N0.out.2.2.2 U5.out) (by omega)) ?_ (by rw [E.out])
  intro c0 c1; simp [results, Tryd.results64, go_sem, c0, c1]

end Go.Proofs.YtmfganodnlnjcaaDoor.Op
