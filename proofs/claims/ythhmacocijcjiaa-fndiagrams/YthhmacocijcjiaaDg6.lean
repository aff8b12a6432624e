/-
  The program's functions over diagrams: EvalDiagram, OnesOf.
-/
import Derived.Test.YthhmacocijcjiaaDg5
namespace Go.Proofs.Ythhmacocijcjiaa
open Go.ChangeShapes Go.WideShapes Go.ChangeAt Go.RowKit Go.Maps

/-- the index of a model -/
def idxK : Nat → (Nat → Bool) → Nat
  | 0, _ => 0
  | k + 1, f => idxK k f + (if f k then 2 ^ k else 0)
theorem idxK_lt (f : Nat → Bool) : ∀ k, idxK k f < 2 ^ k
  | 0 => by simp [idxK]
  | k + 1 => by
    have := idxK_lt f k
    unfold idxK
    rw [Nat.pow_succ]
    split <;> omega
theorem idxK_bit (f : Nat → Bool) : ∀ (k i : Nat), (idxK k f).testBit i = (decide (i < k) && f i)
  | 0, i => by simp [idxK]
  | k + 1, i => by
    have hlt := idxK_lt f k
    unfold idxK
    cases hf : f k
    · simp only [Bool.false_eq_true, if_false, Nat.add_zero]
      rw [idxK_bit f k i]
      by_cases h : i = k
      · subst h
        simp [hf]
      · rw [show decide (i < k + 1) = decide (i < k) by rw [decide_eq_decide]; omega]
    · simp only [if_true]
      have e := Nat.two_pow_add_eq_or_of_lt hlt 1
      rw [Nat.mul_one] at e
      rw [Nat.add_comm, e, Nat.testBit_or, Nat.testBit_two_pow, idxK_bit f k i]
      by_cases h : k = i
      · subst h
        simp [hf]
      · rw [show decide (i < k + 1) = decide (i < k) by rw [decide_eq_decide]; omega]
        simp [h]
def idxM (M : List Bool) : Nat := idxK M.length (tabF M)
theorem idxM_bit {M : List Bool} {i : Nat} {b : Bool} (h : M[i]? = some b) : (idxM M).testBit i = b := by
  have hlt := (List.getElem?_eq_some_iff.1 h).1
  unfold idxM
  rw [idxK_bit]
  simp [hlt, tabF]
  exact (List.getElem?_eq_some_iff.1 h).2
theorem idxM_model (v N : Nat) (h : N < 2 ^ v) : idxM (modelN v N) = N := by
  apply Nat.eq_of_testBit_eq
  intro i
  by_cases hi : i < v
  · exact idxM_bit (by simp [modelN, hi])
  · have h1 : idxM (modelN v N) < 2 ^ v := by have := idxK_lt (tabF (modelN v N)) (modelN v N).length; rw [modelN_len] at this; unfold idxM; rw [modelN_len]; exact this
    rw [Nat.testBit_lt_two_pow (Nat.lt_of_lt_of_le h1 (Nat.pow_le_pow_right (by omega) (by omega))), Nat.testBit_lt_two_pow (Nat.lt_of_lt_of_le h (Nat.pow_le_pow_right (by omega) (by omega)))]
set_option maxRecDepth 100000 in
set_option maxHeartbeats 4000000 in
theorem indexOf_any (A : Option Addr) (n c : Nat) (M : List Bool) (w : World) (hl : Hid (BLies w A M)) (HX : Hid (M.length = n)) (hn : n ≤ 6) :
    Calls Try.prog 66 #[.slice A n c] w fun e w' => e = .returned (.int .i64 (idxM M : Nat)) ∧ w = w' := by
  go_enter Try.func66, Try.ntmps66
  go_wp2_with fail
  go_loop [3, 8] (fun x i => ∃ k : Nat, k ≤ n ∧ i = .int .i64 k ∧ ∃ y : Nat, x = .int .i64 y ∧ y = idxK k (tabF M)) (fun _ i => n - (intOf i).toNat)
  case atStart => exact ⟨0, Nat.zero_le _, rfl, 0, rfl, rfl⟩
  case round =>
    obtain ⟨k, hk, rfl, y, rfl, hy⟩ := hrel
    have HY := Lib.hid hy
    have hyl : y < 2 ^ k := by rw [hy]; exact idxK_lt _ _
    have hk64 := pow_le6 (n := k) (by omega)
    clear hy
    by_cases hlt : k < n
    · obtain ⟨x, hx⟩ : ∃ x, M[k]? = some x := ⟨_, List.getElem?_eq_getElem (by have := HX.out; omega)⟩
      obtain ⟨b, off, rfl, hbl, hc⟩ := hl.out k x hx
      have ht : tabF M k = x := by simp [tabF, hx]
      have HS : Hid (idxK (k + 1) (tabF M) = y + if x then 2 ^ k else 0) := Lib.hid (by rw [HY.out]; show idxK k (tabF M) + _ = _; rw [ht])
      clear hx ht
      cases x
      · go_wp2
        go_round
        case rel => exact ⟨k + 1, by omega, by go_num, y, rfl, by rw [HS.out]; simp⟩
        case measure => simp [intOf]; omega
      · obtain ⟨q, hq⟩ : ∃ q, 2 ^ k = q := ⟨_, rfl⟩
        have HQ := Lib.hid hq
        have hor := or_pow hyl hq (by omega)
        rw [hq] at hyl hk64
        clear hq
        go_wp2_with (go_at_call 81; refine (bitOfVar_any _ k q _ (Lib.hid (by omega)) HQ (by omega)).mono ?_; rintro e w' ⟨rfl, rfl⟩)
        go_round
        case rel => exact ⟨k + 1, by omega, by go_num, y + q, by first | rfl | (push_cast; rfl), by rw [HS.out, HQ.out]; simp⟩
        case measure => simp [intOf]; omega
    · obtain rfl : k = n := by omega
      have E : Hid (y = idxM M) := Lib.hid (by rw [HY.out]; unfold idxM; rw [HX.out])
      go_wp2
      go_ret
      exact ⟨ret_int (by rw [E.out]), rfl⟩
/-- what EvalDiagram answers -/
def rEval (a : Int) (ns : List Nd) (r : Int) (M : List Bool) (b ok : Bool) : Prop := ok = (goodDB a ns r && decide ((M.length : Int) = a)) ∧ b = (ok && ev ns r (idxM M))
set_option maxRecDepth 100000 in
set_option maxHeartbeats 8000000 in
theorem implEval_any (a r : Int) (A B : Option Addr) (n c m c2 : Nat) (ns : List Nd) (M : List Bool) (w : World) (b ok : Bool) (HR : Hid (rEval a ns r M b ok)) (hl : Hid (NLies w A ns)) (HX : Hid (ns.length = n)) (hn : n ≤ 1048576) (hl2 : Hid (BLies w B M)) (HY : Hid (M.length = m)) (hm : m ≤ 9223372036854775807) :
    Calls Try.prog 20 #[.agg #[.int .i64 a, .slice A n c, .int .i64 r], .slice B m c2] w fun e w' => e = .returned (.tuple #[.bool b, .bool ok]) ∧ Below w.heap.size w w' := by
  have L1 : Hid (NLies (w.alloc (.cells #[.int .i64 a, .slice A n c, .int .i64 r] 28)) A ns) := Lib.hid (hl.out.below (below1 _ _))
  have L1b : Hid (BLies (w.alloc (.cells #[.int .i64 a, .slice A n c, .int .i64 r] 28)) B M) := Lib.hid (hl2.out.below (below1 _ _))
  have K0 : Hid (Blk (w.alloc (.cells #[.int .i64 a, .slice A n c, .int .i64 r] 28)) w.heap.size 28 [.int .i64 a, .slice A n c, .int .i64 r]) := Lib.hid (heap_alloc_new w _)
  cases hg : goodDB a ns r
  · have E : Hid (b = false ∧ ok = false) := Lib.hid (by obtain ⟨h1, h2⟩ := HR.out; rw [hg] at h1; rw [h1] at h2; exact ⟨h2, h1⟩)
    go_enter Try.func20, Try.ntmps20
    go_wp2_with (go_at_call 23; refine (implGoodD_any a r A n c ns _ L1 HX hn).mono ?_; rintro e w1 ⟨rfl, hb1⟩; rw [hg]; have B1 := Lib.hid (Below.tr (below1 w _) hb1); clear hb1)
    go_ret2
    exact ⟨ret_bb E.out.1.symm E.out.2.symm, B1.out⟩
  by_cases hma : (m : Int) = a
  rotate_left
  · have E : Hid (b = false ∧ ok = false) := Lib.hid (by obtain ⟨h1, h2⟩ := HR.out; rw [HY.out, decide_eq_false hma, Bool.and_false] at h1; rw [h1] at h2; exact ⟨h2, h1⟩)
    have hne : ((m : Int) != a) = true := by simp [hma]
    go_enter Try.func20, Try.ntmps20
    go_wp2_with (go_at_call 23; refine (implGoodD_any a r A n c ns _ L1 HX hn).mono ?_; rintro e w1 ⟨rfl, hb1⟩; rw [hg]; have B1 := Lib.hid (Below.tr (below1 w _) hb1); obtain ⟨t0, t1, t2, _, _, _, hwl⟩ := blk_cells (K0.out.below hb1); clear hb1)
    go_ret2
    exact ⟨ret_bb E.out.1.symm E.out.2.symm, B1.out⟩
  have hgd := goodDB_true.1 hg
  subst hma
  have hm6 : m ≤ 6 := by have := hgd.2.1; omega
  have HF := Lib.hid hgd.2.2.1
  have E : Hid (b = ev ns r (idxM M) ∧ ok = true) := Lib.hid (by obtain ⟨h1, h2⟩ := HR.out; rw [hg, HY.out, decide_eq_true rfl] at h1; rw [h1] at h2; exact ⟨h2, h1⟩)
  have hil : idxM M < 64 := by have := idxK_lt (tabF M) M.length; rw [HY.out] at this; have := pow_le6 hm6; unfold idxM; rw [HY.out]; omega
  have hne : ((m : Int) != (m : Int)) = false := by simp
  clear hgd
  go_enter Try.func20, Try.ntmps20
  go_wp2_with (go_at_call 23; refine (implGoodD_any m r A n c ns _ L1 HX hn).mono ?_; rintro e w1 ⟨rfl, hb1⟩; rw [hg]; have B1 := Lib.hid (Below.tr (below1 w _) hb1); have L2 := Lib.hid (L1.out.below hb1); have L2b := Lib.hid (L1b.out.below hb1); obtain ⟨t0, t1, t2, _, _, _, hwl⟩ := blk_cells (K0.out.below hb1); clear hb1)
  refine wp_region_still_tail 3 (by kernel_rfl) (by kernel_rfl) ?_
  simp only [List.take_succ_cons, List.take_zero, List.drop_succ_cons, List.drop_zero]
  change wpStill _ _ (World.drew w1) _ _ _
  repeat still_step
  still_call ((indexOf_any B m c2 M _ (Lib.hid (L2b.out.below (Below.refl w1.heap.size w1).drew)) HY hm6).mono (fun e w' h => ⟨h.1, h.2.symm⟩))
  repeat still_step
  refine wpStill_nil ?_
  change wpList _ _ _ _ _ (World.drew w1)
  go_wp2_with fail
  refine (valueAt_any m r A n c (idxM M) ns _ (Lib.hid (L2.out.below (Below.refl w1.heap.size w1).drew)) HX hn HF (by omega) hil).mono ?_
  rintro e w2 ⟨rfl, hb2⟩
  have B2 := Lib.hid (Below.tr B1.out.drew hb2)
  clear hb2
  go_wp2
  go_ret2
  exact ⟨ret_bb E.out.1.symm E.out.2.symm, B2.out⟩
end Go.Proofs.Ythhmacocijcjiaa
