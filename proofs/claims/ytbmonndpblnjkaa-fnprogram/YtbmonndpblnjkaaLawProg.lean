/-
  The walk of the law FnProgram: decoding the encoding of a drawn program returns it, and each program has one accepted encoding.
-/
import Derived.Test.YtbmonndpblnjkaaSpoilt
import Derived.Test.YtbmonndpblnjkaaLawRead
namespace Go.Proofs.Ytbmonndpblnjkaa
open Go.ChangeShapes Go.WideShapes Go.ChangeAt Go.RowKit

theorem neq_same (x : Stp) (w : World) : (binOp .neq 36 (.agg #[.int .i64 x.k, .int .i64 x.o, .int .i64 x.d, .int .i64 x.s, .int .i64 x.i, .int .i64 x.t]) (.agg #[.int .i64 x.k, .int .i64 x.o, .int .i64 x.d, .int .i64 x.s, .int .i64 x.i, .int .i64 x.t])).run Try.prog w = .ok (.bool false) w := by
  rw [neq_step]
  simp
set_option maxHeartbeats 2000000 in
theorem sameSteps_same (A B : Option Addr) (n c1 c2 : Nat) (xs : List Stp) (w : World) (hl : Hid (Lies w A xs)) (hl2 : Hid (Lies w B xs)) (hx : Hid (xs.length = n)) (hn : n ≤ 1048576) :
    Calls Try.prog 16 #[.slice A n c1, .slice B n c2] w fun e w' => e = .returned (.bool true) ∧ Below w.heap.size w w' := by
  have hnn : ((n : Int) != (n : Int)) = false := by simp
  go_enter Try.func16, Try.ntmps16
  go_wp2_with fail
  go_loopw [13] (fun i wr => ∃ k : Nat, k ≤ n ∧ i = .int .i64 k ∧ Below w.heap.size w wr) (fun i _ => n - (intOf i).toNat)
  case atStart => exact ⟨0, Nat.zero_le _, rfl, Below.refl _ _⟩
  case round =>
    obtain ⟨k, hk, rfl, hb⟩ := hrel
    have B1 := Lib.hid hb
    clear hb
    by_cases hlt : k < n
    · obtain ⟨x, hxk⟩ : ∃ x, xs[k]? = some x := ⟨_, List.getElem?_eq_getElem (by have := hx.out; omega)⟩
      obtain ⟨b, off, rfl, hbl, ha⟩ := (hl.out.below B1.out) k x hxk
      obtain ⟨b2, off2, rfl, hbl2, ha2⟩ := (hl2.out.below B1.out) k x hxk
      clear hxk
      obtain ⟨e0, e1, e2, e3, e4, e5⟩ := ha
      obtain ⟨g0, g1, g2, g3, g4, g5⟩ := ha2
      have hq := neq_same x
      go_wp2_with fail
      go_quiet (fail)
      go_wp2
      go_roundw
      case rel => exact ⟨k + 1, by omega, by go_num, bdrewN B1.out _⟩
      case measure => simp [intOf]; omega
    · obtain rfl : k = n := by omega
      go_wp2
      go_ret
      exact ⟨rfl, B1.out⟩

/-- the bytes of a step in the program's, as the law cuts them out -/
theorem cut_slot {xs : List Stp} (hg : Good xs) {k : Nat} {x : Stp} (hx : xs[k]? = some x) {B : Int} (hB : bef xs k = B) (_hB0 : 0 ≤ B) {s u : ByteArray} (hs : pbS true xs = s) (hu : sbS x.k x.o x.d x.s x.i x.t = u) :
    (4 * B + (u.size : Int) ≤ (s.size : Int)) ∧ ∀ w, (Instr.slice 9 (.string s) (some (.int .i64 (4 * B))) (some (.int .i64 (4 * B + (u.size : Int)))) none).run Try.prog w = .ok (.string u) w := by
  have hk : k < xs.length := (List.getElem?_eq_some_iff.1 hx).1
  have hsz := bef_size xs k (by omega)
  have hp := prog_at xs k x hx
  rw [sbS_yes (hg.2 k x hx).1, hu] at hp
  have hs' : progS xs = s := hs
  rw [hs'] at hp
  generalize (progS (xs.take k)).size = a at hsz hp
  have ha : 4 * B = (a : Int) := by rw [hsz, hB]
  rw [ha]
  refine ⟨by omega, fun w => ?_⟩
  have := slice_run s a u.size (by omega) w
  rw [hp.1] at this
  exact this

set_option maxRecDepth 100000 in
set_option maxHeartbeats 8000000 in
theorem lawProgram (a0 : Option Addr) (len0 cap0 : Nat) (a1 : Option Addr) (len1 cap1 : Nat) (w : World) (h0 : Hid (Bytes w a0 len0)) (h1 : Hid (Bytes w a1 len1)) :
    Calls Try.prog 3 #[.slice a0 len0 cap0, .slice a1 len1 cap1] w fun e w' => e = .returned (.bool true) ∧ Below w.heap.size w w' := by
  go_enter Try.func3, Try.ntmps3
  go_wp2_with fail
  · go_ret
    exact ⟨rfl, Below.refl _ _⟩
  refine (drawProgramBytes_any a0 len0 cap0 _ h0).mono ?_
  rintro e w1 ⟨xs, A, cp, rfl, hl, ho, hb1⟩
  have O1 := Lib.hid ho
  have B1 := Lib.hid hb1
  clear ho hb1
  obtain ⟨n, hxn⟩ : ∃ n, xs.length = n := ⟨_, rfl⟩
  rw [hxn] at O1 hl ⊢
  have HX := Lib.hid hxn
  clear hxn
  obtain ⟨b, hb⟩ := good_bool xs
  have HG := Lib.hid hb
  clear hb
  have hbb : (b != b) = false := by simp
  go_wp2_with fail
  refine (implProgBytes_any _ _ _ xs _ b HG (own_lies' O1.out) HX (by omega)).mono ?_
  rintro e w2 ⟨rfl, hb2⟩
  have B2 := Lib.hid (Below.tr B1.out hb2)
  have O2 := Lib.hid (own_below O1.out hb2)
  clear hb2 O1
  go_wp2_with fail
  refine (specProgBytes_any _ _ _ xs _ b HG (own_lies' O2.out) HX (by omega)).mono ?_
  rintro e w3 ⟨rfl, hb3⟩
  have B3 := Lib.hid (Below.tr B2.out hb3)
  have O3 := Lib.hid (own_below O2.out hb3)
  clear hb3 O2
  obtain ⟨s, hs⟩ : ∃ s, pbS b xs = s := ⟨_, rfl⟩
  rw [hs]
  have HS := Lib.hid hs
  clear hs
  go_wp2_with fail
  refine (implGood_any _ _ _ xs _ b HG (own_lies' O3.out) HX (by omega)).mono ?_
  rintro e w4 ⟨rfl, hb4⟩
  have B4 := Lib.hid (Below.tr B3.out hb4)
  have O4 := Lib.hid (own_below O3.out hb4)
  clear hb4 O3
  cases b
  · go_wp2_with fail
    refine (drawRead_any a1 len1 cap1 _ (h1.out.below B4.out)).mono ?_
    rintro e x1 ⟨t, rfl, ht, hy1⟩
    have Y1 := Lib.hid (Below.tr B4.out hy1)
    clear hy1
    obtain ⟨l2, code, b2, hr2⟩ := read_res t
    have HR2 := Lib.hid hr2
    have hl2 : l2.length ≤ 20 := hr2.len
    clear hr2
    have hcc : (code != code) = false := by simp
    have hbb2 : (b2 != b2) = false := by simp
    go_wp2_with fail
    refine (implRead_any t _ l2 code b2 HR2 (by omega)).mono ?_
    rintro e x2 ⟨E1, f1, rfl, ho, hy2⟩
    have R1 := Lib.hid ho
    have Y2 := Lib.hid (Below.tr Y1.out hy2)
    clear ho hy2
    go_wp2_with fail
    refine (specRead_any t _ l2 code b2 HR2 (by omega)).mono ?_
    rintro e x3 ⟨E2, f2, rfl, ho, hy3⟩
    have R2 := Lib.hid ho
    have Y3 := Lib.hid (Below.tr Y2.out hy3)
    have R13 := Lib.hid (own_below R1.out hy3)
    clear ho hy3 R1
    go_wp2_with fail
    refine (sameSteps_same _ _ _ _ _ l2 _ (own_lies' R13.out) (own_lies' R2.out) (Lib.hid rfl) (by omega)).mono ?_
    rintro e x4 ⟨rfl, hy4⟩
    have Y4 := Lib.hid (Below.tr Y3.out hy4)
    have R14 := Lib.hid (own_below R13.out hy4)
    clear hy4 R13 R2
    cases b2
    · go_wp2
      go_ret
      exact ⟨rfl, Y4.out⟩
    · have HBK := Lib.hid (read_back HR2.out)
      have hst : ((pbS true l2).toList == t.toList) = true := by
        have : pbS true l2 = t := HBK.out.2
        rw [this]
        exact beq_self_eq_true _
      go_wp2_with fail
      refine (implProgBytes_any _ _ _ l2 _ true (Lib.hid ⟨fun _ => HBK.out.1, fun _ => rfl⟩) (own_lies' R14.out) (Lib.hid rfl) (by omega)).mono ?_
      rintro e x5 ⟨rfl, hy5⟩
      have Y5 := Lib.hid (Below.tr Y4.out hy5)
      clear hy5
      go_wp2
      go_ret
      exact ⟨rfl, Y5.out⟩
  · have HGD : Hid (Good xs) := HG.out.1 rfl
    have HRR : Hid (ReadRes s xs 0 true) := by
      show ReadRes s xs 0 true
      rw [← HS.out]
      exact prog_read HGD.out
    have hss : s.size ≤ 160 := by rw [← HS.out]; exact pbS_size true xs (by have := HX.out; omega)
    go_wp2_with fail
    refine (implRead_any s _ xs 0 true HRR (by omega)).mono ?_
    rintro e w5 ⟨A5, c5, rfl, ho, hb5⟩
    have O5 := Lib.hid ho
    have B5 := Lib.hid (Below.tr B4.out hb5)
    have O45 := Lib.hid (own_below O4.out hb5)
    clear ho hb5 O4
    rw [HX.out] at O5 ⊢
    obtain ⟨l, hll⟩ : ∃ l, slotsL xs xs.length = l := ⟨_, rfl⟩
    have hln : l.length = n := by rw [← hll, slotsL_len, HX.out]
    have HLL := Lib.hid hll
    clear hll
    go_wp2_with fail
    refine (implSlots_any _ _ _ xs _ true l (Lib.hid ⟨⟨fun _ => HGD.out, fun _ => rfl⟩, (fun e => by cases e), fun _ => HLL.out.symm⟩) (own_lies' O45.out) HX (by omega)).mono ?_
    rintro e w6 ⟨A6, c6, rfl, ho, hb6⟩
    have O6 := Lib.hid ho
    have B6 := Lib.hid (Below.tr B5.out hb6)
    have O46 := Lib.hid (own_below O45.out hb6)
    have O56 := Lib.hid (own_below O5.out hb6)
    clear ho hb6 O45 O5
    rw [hln] at O6 ⊢
    have HLN := Lib.hid hln
    clear hln
    go_wp2_with fail
    refine (sameSteps_same _ _ _ _ _ xs _ (own_lies' O56.out) (own_lies' O46.out) HX (by omega)).mono ?_
    rintro e w7 ⟨rfl, hb7⟩
    have B7 := Lib.hid (Below.tr B6.out hb7)
    have L7 := Lib.hid (own_lies' (own_below O46.out hb7))
    have I7 := Lib.hid (own_ilies (own_below O6.out hb7))
    clear hb7 O46 O56 O6
    go_wp2_with fail
    go_loopw [95] (fun i wr => ∃ k : Nat, k ≤ n ∧ i = .int .i64 k ∧ Below w7.heap.size w7 wr) (fun i _ => n - (intOf i).toNat)
    case atStart => exact ⟨0, Nat.zero_le _, rfl, Below.refl _ _⟩
    case round =>
      obtain ⟨k, hk, rfl, hbw⟩ := hrel
      have B8 := Lib.hid hbw
      clear hbw
      by_cases hlt : k < n
      · obtain ⟨x, hxk⟩ : ∃ x, xs[k]? = some x := ⟨_, List.getElem?_eq_getElem (by have := HX.out; omega)⟩
        obtain ⟨b1, off, rfl, hbl, ha⟩ := (L7.out.below B8.out) k x hxk
        obtain ⟨BB, hBB⟩ : ∃ BB, bef xs k = BB := ⟨_, rfl⟩
        have hbd := bef_bd xs k (by have := HX.out; omega)
        rw [hBB] at hbd
        have hlk : l[k]? = some BB := by
          rw [← HLL.out, ← hBB]
          simp [slotsL, HX.out, hlt]
        obtain ⟨b2, off2, rfl, hbl2, hc2⟩ := (I7.out.below B8.out) k BB hlk
        obtain ⟨u, hu⟩ : ∃ u, sbS x.k x.o x.d x.s x.i x.t = u := ⟨_, rfl⟩
        have hcut := cut_slot HGD.out hxk hBB hbd.1 HS.out hu
        have hus : u.size ≤ 8 := by rw [← hu, ← sbS_yes (HGD.out.2 k x hxk).1]; exact encS_size _ _ _ _ _ _
        have HOK := Lib.hid (HGD.out.2 k x hxk).1
        have HU := Lib.hid hu
        obtain ⟨hle, hsl⟩ := hcut
        clear hxk hBB hlk hu
        obtain ⟨e0, e1, e2, e3, e4, e5⟩ := ha
        go_wp2_with fail
        refine (stepBytes_any _ _ _ _ _ _ _ _ HOK.out).mono ?_
        rintro e w9 ⟨rfl, hb9⟩
        rw [HU.out]
        have B9 := Lib.hid (Below.tr B8.out hb9)
        clear hb9 e0 e1 e2 e3 e4 e5
        go_wp2
        go_roundw
        case rel => exact ⟨k + 1, by omega, by go_num, B9.out⟩
        case measure => simp [intOf]; omega
      · obtain rfl : k = n := by omega
        have BX := Lib.hid (Below.tr B7.out B8.out)
        go_wp2_with fail
        refine (drawRead_any a1 len1 cap1 _ (h1.out.below BX.out)).mono ?_
        rintro e x1 ⟨t, rfl, ht, hy1⟩
        have Y1 := Lib.hid (Below.tr BX.out hy1)
        clear hy1
        obtain ⟨l2, code, b2, hr2⟩ := read_res t
        have HR2 := Lib.hid hr2
        have hl2 : l2.length ≤ 20 := hr2.len
        clear hr2
        have hcc : (code != code) = false := by simp
        have hbb2 : (b2 != b2) = false := by simp
        go_wp2_with fail
        refine (implRead_any t _ l2 code b2 HR2 (by omega)).mono ?_
        rintro e x2 ⟨E1, f1, rfl, ho, hy2⟩
        have R1 := Lib.hid ho
        have Y2 := Lib.hid (Below.tr Y1.out hy2)
        clear ho hy2
        go_wp2_with fail
        refine (specRead_any t _ l2 code b2 HR2 (by omega)).mono ?_
        rintro e x3 ⟨E2, f2, rfl, ho, hy3⟩
        have R2 := Lib.hid ho
        have Y3 := Lib.hid (Below.tr Y2.out hy3)
        have R13 := Lib.hid (own_below R1.out hy3)
        clear ho hy3 R1
        go_wp2_with fail
        refine (sameSteps_same _ _ _ _ _ l2 _ (own_lies' R13.out) (own_lies' R2.out) (Lib.hid rfl) (by omega)).mono ?_
        rintro e x4 ⟨rfl, hy4⟩
        have Y4 := Lib.hid (Below.tr Y3.out hy4)
        have R14 := Lib.hid (own_below R13.out hy4)
        clear hy4 R13 R2
        cases b2
        · go_wp2
          go_ret
          exact ⟨rfl, Y4.out⟩
        · have HBK := Lib.hid (read_back HR2.out)
          have hst : ((pbS true l2).toList == t.toList) = true := by
            have : pbS true l2 = t := HBK.out.2
            rw [this]
            exact beq_self_eq_true _
          go_wp2_with fail
          refine (implProgBytes_any _ _ _ l2 _ true (Lib.hid ⟨fun _ => HBK.out.1, fun _ => rfl⟩) (own_lies' R14.out) (Lib.hid rfl) (by omega)).mono ?_
          rintro e x5 ⟨rfl, hy5⟩
          have Y5 := Lib.hid (Below.tr Y4.out hy5)
          clear hy5
          go_wp2
          go_ret
          exact ⟨rfl, Y5.out⟩
end Go.Proofs.Ytbmonndpblnjkaa
