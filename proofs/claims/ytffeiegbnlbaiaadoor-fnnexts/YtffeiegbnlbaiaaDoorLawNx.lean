/-
  The walk of the law FnNexts.
-/
import Derived.Test.YtffeiegbnlbaiaaDoorNxDraw
import Derived.Test.YtffeiegbnlbaiaaDoorStrTab
namespace Go.Proofs.YtffeiegbnlbaiaaDoor
open Go.ChangeShapes Go.WideShapes Go.ChangeAt Go.RowKit

theorem namesN_below {w w' : World} (h : NamesIn w) (hz : 0 < w.heap.size) (hb : Below w.heap.size w w') : NamesIn w' :=
  fun j v hv => ((bcell hb).1 0 j hz).trans (h j v hv)
theorem nexts_in {xs : List Stp} {n : Nat} {at_ : Int} {l : List Int} {x : Stp} (h : NextsRes xs n at_ true l) (hn : xs.length = n) (hx : xs[at_.toNat]? = some x) : (∀ k ∈ l, at_ < k ∧ k < n) ∧ (decide (l.length = 0) = (x.k == 11)) := by
  obtain ⟨hg, h0, h1⟩ := h.1.1 rfl
  have hl := h.2.2 rfl x hx
  have hf := hg.2 _ x hx
  have hp := okP_bounds (okB_yes hf.1)
  have hat : ((at_.toNat : Nat) : Int) = at_ := by omega
  constructor
  · intro k hk
    have h2 := hf.2 k (by rw [hat, ← hl]; exact hk)
    rw [hl] at hk
    refine ⟨?_, by omega⟩
    unfold nextsI at hk
    split at hk
    · simp at hk
    · split at hk
      · simp at hk; omega
      · split at hk
        · simp at hk; omega
        · simp at hk; omega
  · rw [hl]
    unfold nextsI
    split
    · rename_i e; simp [e]
    · rename_i e
      have : (x.k == 11) = false := by simpa using e
      rw [this]
      split
      · simp
      · split <;> simp
set_option maxRecDepth 100000 in
set_option maxHeartbeats 2000000 in
theorem sameInts_same (A B : Option Addr) (n c1 c2 : Nat) (l : List Int) (w : World) (hl : Hid (ILies w A l)) (hl2 : Hid (ILies w B l)) (hx : Hid (l.length = n)) (hn : n ≤ 10000000) :
    Calls Tryd.prog 7 #[.slice A n c1, .slice B n c2] w fun e w' => e = .returned (.bool true) ∧ Below w.heap.size w w' := by
  have hnn : ((n : Int) != (n : Int)) = false := by simp
  go_enter Tryd.func7, Tryd.ntmps7
  go_wp2_with fail
  go_loopw [13] (fun i wr => ∃ k : Nat, k ≤ n ∧ i = .int .i64 k ∧ Below w.heap.size w wr) (fun i _ => n - (intOf i).toNat)
  case atStart => exact ⟨0, Nat.zero_le _, rfl, Below.refl _ _⟩
  case round =>
    obtain ⟨k, hk, rfl, hb⟩ := hrel
    have B1 := Lib.hid hb
    clear hb
    by_cases hlt : k < n
    · obtain ⟨y, hy⟩ : ∃ y, l[k]? = some y := ⟨_, List.getElem?_eq_getElem (by have := hx.out; omega)⟩
      obtain ⟨b, off, rfl, hbl, hc⟩ := (hl.out.below B1.out) k y hy
      obtain ⟨b2, off2, rfl, hbl2, hc2⟩ := (hl2.out.below B1.out) k y hy
      clear hy
      have hyy : (y != y) = false := by simp
      go_wp2_with fail
      go_quiet (fail)
      go_wp2
      go_roundw
      case rel => exact ⟨k + 1, by omega, by go_num, bdrewN B1.out _⟩
      case measure => simp [intOf]; omega
    · obtain rfl : k = n := by omega
      go_wp2
      go_ret
      exact ⟨rfl, B1.out⟩
set_option maxRecDepth 100000 in
set_option maxHeartbeats 32000000 in
theorem lawNx (a0 : Option Addr) (len0 cap0 : Nat) (a1 : Option Addr) (len1 cap1 : Nat) (w : World) (h0 : Hid (Bytes w a0 len0)) (h1 : Hid (Bytes w a1 len1)) (HT : Hid (Lib.TabIs Tryd.prog w "internal/strconv.uint64pow10" .u64 Lib.pow10Tab)) (HZ : Hid (0 < w.heap.size)) (HNM : Hid (NamesIn w)) :
    Calls Tryd.prog 3 #[.slice a0 len0 cap0, .slice a1 len1 cap1] w fun e w' => e = .returned (.bool true) ∧ Below w.heap.size w w' := by
  go_enter Tryd.func3, Tryd.ntmps3
  go_wp2_with fail
  · go_ret
    exact ⟨rfl, Below.refl _ _⟩
  refine (drawNexts_any a0 len0 cap0 _ h0).mono ?_
  rintro e w1 ⟨xs, A, c1, at_, rfl, hl, hat, ho, hb⟩
  have L1 := Lib.hid (own_liesN ho rfl)
  have B1 := Lib.hid hb
  clear ho hb
  obtain ⟨n, hn⟩ : ∃ n, xs.length = n := ⟨_, rfl⟩
  rw [hn] at hl hat ⊢
  have HN := Lib.hid hn
  have ha1 : -1 ≤ at_ := hat.1
  have ha2 : at_ ≤ n := hat.2
  have hn2 : n ≤ 20 := hl.2
  clear hat hl
  obtain ⟨ok, l, hr⟩ := nexts_res xs n hn at_
  have hll := hr.len hn
  have NR := Lib.hid hr
  clear hr hn
  obtain ⟨q, hq⟩ : ∃ q, l.length = q := ⟨_, rfl⟩
  rw [hq] at hll
  have HQ := Lib.hid hq
  clear hq
  go_wp2_with fail
  refine (implNexts_any _ _ _ xs at_ _ ok l NR L1 HN (by omega)).mono ?_
  rintro e w2 ⟨A2, c2, rfl, ho2, hb2⟩
  have L2 := Lib.hid (L1.out.below hb2)
  have B2 := Lib.hid (Below.tr B1.out hb2)
  have I2 := Lib.hid (own_ilies ho2)
  rw [HQ.out]
  clear ho2 hb2 L1
  go_wp2_with fail
  refine (specNexts_any _ _ _ xs at_ _ ok l NR L2 HN (by omega)).mono ?_
  rintro e w3 ⟨A3, c3, rfl, ho3, hb3⟩
  have L3 := Lib.hid (L2.out.below hb3)
  have B3 := Lib.hid (Below.tr B2.out hb3)
  have I3 := Lib.hid (I2.out.below hb3)
  have J3 := Lib.hid (own_ilies ho3)
  rw [HQ.out]
  clear ho3 hb3 L2 I2
  have hko : (ok != ok) = false := by simp
  go_wp2_with fail
  refine (sameInts_same _ _ _ _ _ l _ I3 J3 HQ (by omega)).mono ?_
  rintro e w4 ⟨rfl, hb4⟩
  have L4 := Lib.hid (L3.out.below hb4)
  have B4 := Lib.hid (Below.tr B3.out hb4)
  have I4 := Lib.hid (I3.out.below hb4)
  clear hb4 L3 I3 J3
  cases ok
  · clear hko
    have Y1a := Lib.hid (h1.out.below B4.out)
    go_wp2_with fail
    refine (drawStepB_any a1 len1 cap1 _ Y1a).mono ?_
    rintro e y1 ⟨⟨k, o, d, s, i, tt⟩, rfl, hby1⟩
    have BY1 := Lib.hid (Below.tr B4.out hby1)
    clear hby1
    obtain ⟨okk, hok⟩ : ∃ b, okB k o d s i tt = b := ⟨_, rfl⟩
    have HK := Lib.hid hok
    clear hok
    have BA := below1 y1 (.cells #[.int .i64 k, .int .i64 o, .int .i64 d, .int .i64 s, .int .i64 i, .int .i64 tt] 31)
    have KB : Hid (Blk (y1.alloc (.cells #[.int .i64 k, .int .i64 o, .int .i64 d, .int .i64 s, .int .i64 i, .int .i64 tt] 31)) y1.heap.size 31 [.int .i64 k, .int .i64 o, .int .i64 d, .int .i64 s, .int .i64 i, .int .i64 tt]) := Lib.hid (heap_alloc_new y1 _)
    have BW2 := Lib.hid (Below.tr BY1.out BA)
    have hlt2 : y1.heap.size < (y1.alloc (.cells #[.int .i64 k, .int .i64 o, .int .i64 d, .int .i64 s, .int .i64 i, .int .i64 tt] 31)).heap.size := by simp
    clear BA
    go_wp2_with fail
    refine (stepBytes_any k o d s i tt _ okk HK.out).mono ?_
    rintro e y3 ⟨rfl, hb3⟩
    have K3 := Lib.hid (KB.out.below hb3)
    have BY3 := Lib.hid (Below.tr BW2.out hb3)
    obtain ⟨bb, hbb⟩ : ∃ b, y1.heap.size = b := ⟨_, rfl⟩
    rw [hbb] at K3 ⊢
    clear hb3 hlt2 KB BW2 hbb
    have c0 : y3.cell? ⟨bb, 0, none⟩ = some (.int .i64 k) := K3.out.cell 0
    have c1 : y3.cell? ⟨bb, 1, none⟩ = some (.int .i64 o) := K3.out.cell 1
    have c2 : y3.cell? ⟨bb, 2, none⟩ = some (.int .i64 d) := K3.out.cell 2
    have c3 : y3.cell? ⟨bb, 3, none⟩ = some (.int .i64 s) := K3.out.cell 3
    have c4 : y3.cell? ⟨bb, 4, none⟩ = some (.int .i64 i) := K3.out.cell 4
    have c5 : y3.cell? ⟨bb, 5, none⟩ = some (.int .i64 tt) := K3.out.cell 5
    go_wp2_with fail
    refine (specStepBytes_any k o d s i tt _ okk HK.out).mono ?_
    rintro e y4 ⟨rfl, hb4⟩
    have K4 := Lib.hid (K3.out.below hb4)
    have BY4 := Lib.hid (Below.tr BY3.out hb4)
    clear hb4 K3 c0 c1 c2 c3 c4 c5
    have c0 : y4.cell? ⟨bb, 0, none⟩ = some (.int .i64 k) := K4.out.cell 0
    have c1 : y4.cell? ⟨bb, 1, none⟩ = some (.int .i64 o) := K4.out.cell 1
    have c2 : y4.cell? ⟨bb, 2, none⟩ = some (.int .i64 d) := K4.out.cell 2
    have c3 : y4.cell? ⟨bb, 3, none⟩ = some (.int .i64 s) := K4.out.cell 3
    have c4 : y4.cell? ⟨bb, 4, none⟩ = some (.int .i64 i) := K4.out.cell 4
    have c5 : y4.cell? ⟨bb, 5, none⟩ = some (.int .i64 tt) := K4.out.cell 5
    go_wp2_with fail
    refine (implStepText_any k o d s i tt _ okk HK.out (tab_below HT.out BY4.out) (Nat.lt_of_lt_of_le HZ.out BY4.out.size) (namesN_below HNM.out HZ.out BY4.out)).mono ?_
    rintro e y5 ⟨rfl, hb5⟩
    have K5 := Lib.hid (K4.out.below hb5)
    have BY5 := Lib.hid (Below.tr BY4.out hb5)
    clear hb5 K4 c0 c1 c2 c3 c4 c5
    have c0 : y5.cell? ⟨bb, 0, none⟩ = some (.int .i64 k) := K5.out.cell 0
    have c1 : y5.cell? ⟨bb, 1, none⟩ = some (.int .i64 o) := K5.out.cell 1
    have c2 : y5.cell? ⟨bb, 2, none⟩ = some (.int .i64 d) := K5.out.cell 2
    have c3 : y5.cell? ⟨bb, 3, none⟩ = some (.int .i64 s) := K5.out.cell 3
    have c4 : y5.cell? ⟨bb, 4, none⟩ = some (.int .i64 i) := K5.out.cell 4
    have c5 : y5.cell? ⟨bb, 5, none⟩ = some (.int .i64 tt) := K5.out.cell 5
    go_wp2_with fail
    refine (specStepText_any k o d s i tt _ okk HK.out).mono ?_
    rintro e y6 ⟨rfl, hb6⟩
    have BY6 := Lib.hid (Below.tr BY5.out hb6)
    clear hb6 K5 c0 c1 c2 c3 c4 c5
    have Y6 := Lib.hid (h1.out.below BY6.out)
    go_wp2_with fail
    refine (drawSlots_any a1 len1 cap1 _ Y6).mono ?_
    rintro e y7 ⟨zs, AZ, cz, rfl, hzl, hoz, hbz⟩
    have BY7 := Lib.hid (Below.tr BY6.out hbz)
    have LZ := Lib.hid (own_liesN hoz rfl)
    clear hoz hbz
    obtain ⟨sb, sl, hsr⟩ := slots_res zs
    have hsll := hsr.len
    have SR := Lib.hid hsr
    clear hsr
    obtain ⟨nz, hnz⟩ : ∃ n, zs.length = n := ⟨_, rfl⟩
    obtain ⟨ns, hns⟩ : ∃ n, sl.length = n := ⟨_, rfl⟩
    rw [hnz] at hzl ⊢
    rw [hns] at hsll
    have HNZ := Lib.hid hnz
    have HNS := Lib.hid hns
    clear hnz hns
    go_wp2_with fail
    refine (implSlots_any _ _ _ zs _ sb sl SR LZ HNZ (by omega)).mono ?_
    rintro e y8 ⟨AU, cU, rfl, hou, hb8⟩
    have BY8 := Lib.hid (Below.tr BY7.out hb8)
    have LZ8 := Lib.hid (LZ.out.below hb8)
    have U8 := Lib.hid (own_ilies hou)
    rw [HNS.out]
    clear hou hb8 LZ
    go_wp2_with fail
    refine (specSlots_any _ _ _ zs _ sb sl SR LZ8 HNZ (by omega)).mono ?_
    rintro e y9 ⟨AV, cV, rfl, hov, hb9⟩
    have BY9 := Lib.hid (Below.tr BY8.out hb9)
    have U9 := Lib.hid (U8.out.below hb9)
    have V9 := Lib.hid (own_ilies hov)
    rw [HNS.out]
    clear hov hb9 LZ8 U8
    have hok1 : (okk == okk) = true := by simp
    have hsb1 : (sb == sb) = true := by simp
    have hst1 : ((sbS k o d s i tt).toList == (sbS k o d s i tt).toList) = true := by simp
    have hst2 : ((stS k o d s i tt).toList == (stS k o d s i tt).toList) = true := by simp
    go_wp2_with fail
    refine (sameInts_same _ _ _ _ _ sl _ U9 V9 HNS (by omega)).mono ?_
    rintro e y10 ⟨rfl, hb10⟩
    have BY10 := Lib.hid (Below.tr BY9.out hb10)
    clear hb10
    go_wp2
    go_ret
    exact ⟨rfl, BY10.out⟩
  · clear hko
    obtain ⟨hg, h00, h01⟩ := NR.out.1.1 rfl
    obtain ⟨x, hx⟩ : ∃ x, xs[at_.toNat]? = some x := ⟨_, List.getElem?_eq_getElem (by have := HN.out; omega)⟩
    have NI := Lib.hid (nexts_in NR.out HN.out hx)
    have HX := Lib.hid hx
    clear hg hx
    go_wp2_with fail
    go_loop [62] (fun i => ∃ k : Nat, k ≤ q ∧ i = .int .i64 k) (fun i => q - (intOf i).toNat)
    case atStart => exact ⟨0, Nat.zero_le _, rfl⟩
    case round =>
      obtain ⟨k, hk, rfl⟩ := hrel
      by_cases hlt : k < q
      · obtain ⟨y, hy⟩ : ∃ x, l[k]? = some x := ⟨_, List.getElem?_eq_getElem (by have := HQ.out; omega)⟩
        obtain ⟨b, off, rfl, hbl, ha⟩ := I4.out k y hy
        obtain ⟨hy1, hy2⟩ := NI.out.1 y (List.mem_of_getElem? hy)
        have hy3 : decide (y ≤ at_) = false := by simp; omega
        have hy4 : decide (y ≥ (n : Int)) = false := by simp; omega
        clear hy
        go_wp2
        go_round
        case rel => exact ⟨k + 1, by omega, by go_num⟩
        case measure => simp [intOf]; omega
      · obtain rfl : k = q := by omega
        obtain ⟨b, off, rfl, hbl, ⟨t0, -, -, -, -, -⟩⟩ := L4.out _ x HX.out
        obtain ⟨j, rfl⟩ : ∃ j : Nat, at_ = j := ⟨at_.toNat, by omega⟩
        rw [Int.toNat_natCast] at t0
        have hjn : j < n := by omega
        have heq : ((k : Int) == 0) = (x.k == 11) := by
          have := NI.out.2
          rw [HQ.out] at this
          rw [← this]
          by_cases h : k = 0
          · subst h; rfl
          · simp [h]
        obtain ⟨xb, hxb⟩ : ∃ b, (x.k == 11) = b := ⟨_, rfl⟩
        rw [hxb] at heq
        have hxx : (xb != xb) = false := by simp
        have Y1b := Lib.hid (h1.out.below B4.out)
        go_wp2_with fail
        refine (drawStepB_any a1 len1 cap1 _ Y1b).mono ?_
        rintro e y1 ⟨⟨k, o, d, s, i, tt⟩, rfl, hby1⟩
        have BY1 := Lib.hid (Below.tr B4.out hby1)
        clear hby1
        obtain ⟨okk, hok⟩ : ∃ b, okB k o d s i tt = b := ⟨_, rfl⟩
        have HK := Lib.hid hok
        clear hok
        have BA := below1 y1 (.cells #[.int .i64 k, .int .i64 o, .int .i64 d, .int .i64 s, .int .i64 i, .int .i64 tt] 31)
        have KB : Hid (Blk (y1.alloc (.cells #[.int .i64 k, .int .i64 o, .int .i64 d, .int .i64 s, .int .i64 i, .int .i64 tt] 31)) y1.heap.size 31 [.int .i64 k, .int .i64 o, .int .i64 d, .int .i64 s, .int .i64 i, .int .i64 tt]) := Lib.hid (heap_alloc_new y1 _)
        have BW2 := Lib.hid (Below.tr BY1.out BA)
        have hlt2 : y1.heap.size < (y1.alloc (.cells #[.int .i64 k, .int .i64 o, .int .i64 d, .int .i64 s, .int .i64 i, .int .i64 tt] 31)).heap.size := by simp
        clear BA
        go_wp2_with fail
        refine (stepBytes_any k o d s i tt _ okk HK.out).mono ?_
        rintro e y3 ⟨rfl, hb3⟩
        have K3 := Lib.hid (KB.out.below hb3)
        have BY3 := Lib.hid (Below.tr BW2.out hb3)
        obtain ⟨bb, hbb⟩ : ∃ b, y1.heap.size = b := ⟨_, rfl⟩
        rw [hbb] at K3 ⊢
        clear hb3 hlt2 KB BW2 hbb
        have c0 : y3.cell? ⟨bb, 0, none⟩ = some (.int .i64 k) := K3.out.cell 0
        have c1 : y3.cell? ⟨bb, 1, none⟩ = some (.int .i64 o) := K3.out.cell 1
        have c2 : y3.cell? ⟨bb, 2, none⟩ = some (.int .i64 d) := K3.out.cell 2
        have c3 : y3.cell? ⟨bb, 3, none⟩ = some (.int .i64 s) := K3.out.cell 3
        have c4 : y3.cell? ⟨bb, 4, none⟩ = some (.int .i64 i) := K3.out.cell 4
        have c5 : y3.cell? ⟨bb, 5, none⟩ = some (.int .i64 tt) := K3.out.cell 5
        go_wp2_with fail
        refine (specStepBytes_any k o d s i tt _ okk HK.out).mono ?_
        rintro e y4 ⟨rfl, hb4⟩
        have K4 := Lib.hid (K3.out.below hb4)
        have BY4 := Lib.hid (Below.tr BY3.out hb4)
        clear hb4 K3 c0 c1 c2 c3 c4 c5
        have c0 : y4.cell? ⟨bb, 0, none⟩ = some (.int .i64 k) := K4.out.cell 0
        have c1 : y4.cell? ⟨bb, 1, none⟩ = some (.int .i64 o) := K4.out.cell 1
        have c2 : y4.cell? ⟨bb, 2, none⟩ = some (.int .i64 d) := K4.out.cell 2
        have c3 : y4.cell? ⟨bb, 3, none⟩ = some (.int .i64 s) := K4.out.cell 3
        have c4 : y4.cell? ⟨bb, 4, none⟩ = some (.int .i64 i) := K4.out.cell 4
        have c5 : y4.cell? ⟨bb, 5, none⟩ = some (.int .i64 tt) := K4.out.cell 5
        go_wp2_with fail
        refine (implStepText_any k o d s i tt _ okk HK.out (tab_below HT.out BY4.out) (Nat.lt_of_lt_of_le HZ.out BY4.out.size) (namesN_below HNM.out HZ.out BY4.out)).mono ?_
        rintro e y5 ⟨rfl, hb5⟩
        have K5 := Lib.hid (K4.out.below hb5)
        have BY5 := Lib.hid (Below.tr BY4.out hb5)
        clear hb5 K4 c0 c1 c2 c3 c4 c5
        have c0 : y5.cell? ⟨bb, 0, none⟩ = some (.int .i64 k) := K5.out.cell 0
        have c1 : y5.cell? ⟨bb, 1, none⟩ = some (.int .i64 o) := K5.out.cell 1
        have c2 : y5.cell? ⟨bb, 2, none⟩ = some (.int .i64 d) := K5.out.cell 2
        have c3 : y5.cell? ⟨bb, 3, none⟩ = some (.int .i64 s) := K5.out.cell 3
        have c4 : y5.cell? ⟨bb, 4, none⟩ = some (.int .i64 i) := K5.out.cell 4
        have c5 : y5.cell? ⟨bb, 5, none⟩ = some (.int .i64 tt) := K5.out.cell 5
        go_wp2_with fail
        refine (specStepText_any k o d s i tt _ okk HK.out).mono ?_
        rintro e y6 ⟨rfl, hb6⟩
        have BY6 := Lib.hid (Below.tr BY5.out hb6)
        clear hb6 K5 c0 c1 c2 c3 c4 c5
        have Y6 := Lib.hid (h1.out.below BY6.out)
        go_wp2_with fail
        refine (drawSlots_any a1 len1 cap1 _ Y6).mono ?_
        rintro e y7 ⟨zs, AZ, cz, rfl, hzl, hoz, hbz⟩
        have BY7 := Lib.hid (Below.tr BY6.out hbz)
        have LZ := Lib.hid (own_liesN hoz rfl)
        clear hoz hbz
        obtain ⟨sb, sl, hsr⟩ := slots_res zs
        have hsll := hsr.len
        have SR := Lib.hid hsr
        clear hsr
        obtain ⟨nz, hnz⟩ : ∃ n, zs.length = n := ⟨_, rfl⟩
        obtain ⟨ns, hns⟩ : ∃ n, sl.length = n := ⟨_, rfl⟩
        rw [hnz] at hzl ⊢
        rw [hns] at hsll
        have HNZ := Lib.hid hnz
        have HNS := Lib.hid hns
        clear hnz hns
        go_wp2_with fail
        refine (implSlots_any _ _ _ zs _ sb sl SR LZ HNZ (by omega)).mono ?_
        rintro e y8 ⟨AU, cU, rfl, hou, hb8⟩
        have BY8 := Lib.hid (Below.tr BY7.out hb8)
        have LZ8 := Lib.hid (LZ.out.below hb8)
        have U8 := Lib.hid (own_ilies hou)
        rw [HNS.out]
        clear hou hb8 LZ
        go_wp2_with fail
        refine (specSlots_any _ _ _ zs _ sb sl SR LZ8 HNZ (by omega)).mono ?_
        rintro e y9 ⟨AV, cV, rfl, hov, hb9⟩
        have BY9 := Lib.hid (Below.tr BY8.out hb9)
        have U9 := Lib.hid (U8.out.below hb9)
        have V9 := Lib.hid (own_ilies hov)
        rw [HNS.out]
        clear hov hb9 LZ8 U8
        have hok1 : (okk == okk) = true := by simp
        have hsb1 : (sb == sb) = true := by simp
        have hst1 : ((sbS k o d s i tt).toList == (sbS k o d s i tt).toList) = true := by simp
        have hst2 : ((stS k o d s i tt).toList == (stS k o d s i tt).toList) = true := by simp
        go_wp2_with fail
        refine (sameInts_same _ _ _ _ _ sl _ U9 V9 HNS (by omega)).mono ?_
        rintro e y10 ⟨rfl, hb10⟩
        have BY10 := Lib.hid (Below.tr BY9.out hb10)
        clear hb10
        go_wp2
        go_ret
        exact ⟨rfl, BY10.out⟩
end Go.Proofs.YtffeiegbnlbaiaaDoor
