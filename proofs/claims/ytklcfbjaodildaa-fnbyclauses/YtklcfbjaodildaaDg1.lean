/-
  Diagrams: which can be followed, their values, their tables, which are valid: the program's.
-/
import Derived.Test.YtklcfbjaodildaaBd2
namespace Go.Proofs.Ytklcfbjaodildaa
open Go.ChangeShapes Go.WideShapes Go.ChangeAt Go.RowKit Go.Maps

def deepB (n : Int) : Bool := decide (0 ≤ n) && decide (n ≤ 6)
set_option maxRecDepth 100000 in
set_option maxHeartbeats 400000 in
theorem isDeep_any (n : Int) (w : World) : Calls Try.prog 130 #[.int .i64 n] w fun e w' => e = .returned (.bool (deepB n)) ∧ w = w' := by
  by_cases h1 : 0 ≤ n
  · have E : Hid (deepB n = decide (n ≤ 6)) := Lib.hid (by simp [deepB, h1])
    rw [E.out]
    go_enter Try.func130, Try.ntmps130
    go_wp2
    go_ret
    exact ⟨rfl, rfl⟩
  · have E : Hid (deepB n = false) := Lib.hid (by simp [deepB, h1])
    rw [E.out]
    go_enter Try.func130, Try.ntmps130
    go_wp2
    go_ret
    exact ⟨rfl, rfl⟩
def ahB (a : Int) (k : Nat) : Bool := decide (0 ≤ a) && decide (a < 2 + (k : Int))
set_option maxRecDepth 100000 in
set_option maxHeartbeats 400000 in
theorem isAhead_any (a : Int) (k : Nat) (w : World) (hk : k ≤ 1048576) : Calls Try.prog 160 #[.int .i64 a, .int .i64 k] w fun e w' => e = .returned (.bool (ahB a k)) ∧ w = w' := by
  by_cases h1 : 0 ≤ a
  · have E : Hid (ahB a k = decide (a < 2 + (k : Int))) := Lib.hid (by simp [ahB, h1])
    rw [E.out]
    go_enter Try.func160, Try.ntmps160
    go_wp2
    go_ret
    exact ⟨rfl, rfl⟩
  · have E : Hid (ahB a k = false) := Lib.hid (by simp [ahB, h1])
    rw [E.out]
    go_enter Try.func160, Try.ntmps160
    go_wp2
    go_ret
    exact ⟨rfl, rfl⟩
/-- the first k nodes are as said -/
def FolK (n : Int) (ns : List Nd) (k : Nat) : Prop := ∀ (i : Nat) (x : Nd), i < k → ns[i]? = some x → 1 ≤ x.v ∧ x.v ≤ n ∧ 0 ≤ x.l ∧ x.l < i + 2 ∧ 0 ≤ x.h ∧ x.h < i + 2
theorem FolK.succ {n : Int} {ns : List Nd} {k : Nat} {x : Nd} (h : FolK n ns k) (hx : ns[k]? = some x) (h1 : 1 ≤ x.v) (h2 : x.v ≤ n) (h3 : ahB x.l k = true) (h4 : ahB x.h k = true) : FolK n ns (k + 1) := by
  intro i y hi hy
  by_cases e : i < k
  · exact h i y e hy
  · obtain rfl : i = k := by omega
    rw [hx] at hy
    injection hy with hy
    subst hy
    simp [ahB] at h3 h4
    omega
theorem fol_not {n : Int} {ns : List Nd} {r : Int} {k : Nat} {x : Nd} (hx : ns[k]? = some x) (h : x.v < 1 ∨ n < x.v ∨ ahB x.l k = false ∨ ahB x.h k = false) : folB n ns r = false := by
  refine folB_false (fun hf => ?_)
  obtain ⟨a1, a2, a3, a4, a5, a6⟩ := hf.1 k x hx
  rcases h with h | h | h | h
  · omega
  · omega
  · simp [ahB] at h; omega
  · simp [ahB] at h; omega
theorem fol_end {n : Int} {ns : List Nd} {r : Int} (h : FolK n ns ns.length) : folB n ns r = ahB r ns.length := by
  cases q : ahB r ns.length
  · refine folB_false (fun hf => ?_)
    have := hf.2
    simp [ahB] at q
    omega
  · simp [ahB] at q
    exact folB_true.2 ⟨fun i x hx => h i x (List.getElem?_eq_some_iff.1 hx).1 hx, by omega, by omega⟩
set_option maxRecDepth 100000 in
set_option maxHeartbeats 4000000 in
theorem canBe_any (a r : Int) (A : Option Addr) (n c : Nat) (ns : List Nd) (w : World) (hl : Hid (NLies w A ns)) (HX : Hid (ns.length = n)) (hn : n ≤ 1048576) :
    Calls Try.prog 131 #[.agg #[.int .i64 a, .slice A n c, .int .i64 r]] w fun e w' => e = .returned (.bool (folB a ns r)) ∧ Below w.heap.size w w' := by
  go_enter Try.func131, Try.ntmps131
  go_wp2_with fail
  go_loopw [8] (fun i wr => ∃ k : Nat, k ≤ n ∧ i = .int .i64 k ∧ FolK a ns k ∧ Below w.heap.size w wr ∧ Blk wr w.heap.size 28 [.int .i64 a, .slice A n c, .int .i64 r]) (fun i _ => n - (intOf i).toNat)
  case atStart => exact ⟨0, Nat.zero_le _, rfl, fun i x hi => absurd hi (Nat.not_lt_zero _), below1 _ _, heap_alloc_new w _⟩
  case round =>
    obtain ⟨k, hk, rfl, hf, hb, hbk⟩ := hrel
    have F1 := Lib.hid hf
    have B1 := Lib.hid hb
    have K1 := Lib.hid hbk
    have t0 : wr.cell? ⟨w.heap.size, 0, none⟩ = some (.int .i64 a) := hbk.cell 0
    have t1 : wr.cell? ⟨w.heap.size, 1, none⟩ = some (.slice A n c) := hbk.cell 1
    have t2 : wr.cell? ⟨w.heap.size, 2, none⟩ = some (.int .i64 r) := hbk.cell 2
    have hwl := hbk.lt
    clear hf hb hbk
    by_cases hlt : k < n
    · obtain ⟨x, hx⟩ : ∃ x, ns[k]? = some x := ⟨_, List.getElem?_eq_getElem (by have := HX.out; omega)⟩
      obtain ⟨b, off, rfl, hbl, ha⟩ := (hl.out.below B1.out) k x hx
      have HXK := Lib.hid hx
      clear hx
      obtain ⟨e0, e1, e2⟩ := ha
      by_cases h1 : x.v < 1
      · have E := Lib.hid (fol_not (n := a) (r := r) HXK.out (.inl h1))
        go_wp2
        go_ret
        exact ⟨ret_bool E.out.symm, Below.tr B1.out (below1 _ _)⟩
      by_cases h2 : a < x.v
      · have E := Lib.hid (fol_not (n := a) (r := r) HXK.out (.inr (.inl h2)))
        go_wp2
        go_ret
        exact ⟨ret_bool E.out.symm, Below.tr B1.out (below1 _ _)⟩
      cases h3 : ahB x.l k
      · have E := Lib.hid (fol_not (n := a) (r := r) HXK.out (.inr (.inr (.inl h3))))
        go_wp2_with (go_at_call 160; refine (isAhead_any _ k _ (by omega)).mono ?_; rintro e w' ⟨rfl, rfl⟩; rw [h3])
        go_ret
        exact ⟨ret_bool E.out.symm, Below.tr B1.out (below1 _ _)⟩
      cases h4 : ahB x.h k
      · have E := Lib.hid (fol_not (n := a) (r := r) HXK.out (.inr (.inr (.inr h4))))
        go_wp2_with (go_at_call 160; refine (isAhead_any _ k _ (by omega)).mono ?_; rintro e w' ⟨rfl, rfl⟩; first | rw [h3] | rw [h4])
        go_ret
        exact ⟨ret_bool E.out.symm, Below.tr B1.out (below1 _ _)⟩
      have F2 := Lib.hid (F1.out.succ HXK.out (by omega) (by omega) h3 h4)
      go_wp2_with (go_at_call 160; refine (isAhead_any _ k _ (by omega)).mono ?_; rintro e w' ⟨rfl, rfl⟩; first | rw [h3] | rw [h4])
      go_roundw
      case rel => exact ⟨k + 1, by omega, by go_num, F2.out, Below.tr B1.out (below1 _ _), K1.out.below (below1 _ _)⟩
      case measure => simp [intOf]; omega
    · obtain rfl : k = n := by omega
      have E : Hid (folB a ns r = ahB r k) := Lib.hid (by have h := F1.out; rw [← HX.out] at h; rw [fol_end h, HX.out])
      go_wp2_with (go_at_call 160; refine (isAhead_any _ k _ (by omega)).mono ?_; rintro e w' ⟨rfl, rfl⟩; rw [← E.out])
      go_ret
      exact ⟨rfl, B1.out⟩
theorem and_bit {m p q : Nat} (hq : 2 ^ p = q) (hp : p ≤ 6) (hm : m < 9223372036854775808) : bits .and .i64 (m : Int) (q : Int) = if m.testBit p then (q : Int) else 0 := by
  have := pow_le6 hp
  rw [i64_and_nat _ _ hm (by omega), ← hq]
  have e : m &&& 2 ^ p = if m.testBit p then 2 ^ p else 0 := by
    apply Nat.eq_of_testBit_eq
    intro i
    rw [Nat.testBit_and, Nat.testBit_two_pow]
    by_cases h : p = i
    · subst h
      cases m.testBit p <;> simp
    · simp only [h, decide_false, Bool.and_false]
      split
      · rw [Nat.testBit_two_pow]; simp [h]
      · simp
  rw [e]
  split <;> rfl
set_option maxRecDepth 100000 in
set_option maxHeartbeats 4000000 in
theorem valueAt_any (a r : Int) (A : Option Addr) (n c m : Nat) (ns : List Nd) (w : World) (hl : Hid (NLies w A ns)) (HX : Hid (ns.length = n)) (hn : n ≤ 1048576) (HF : Hid (Fol a ns r)) (ha6 : a ≤ 6) (hm : m < 64) :
    Calls Try.prog 92 #[.agg #[.int .i64 a, .slice A n c, .int .i64 r], .int .i64 m] w fun e w' => e = .returned (.bool (ev ns r m)) ∧ Below w.heap.size w w' := by
  go_enter Try.func92, Try.ntmps92
  go_wp2_with fail
  go_loopw [5] (fun i wr => ∃ k : Int, 0 ≤ k ∧ k < n + 2 ∧ i = .int .i64 k ∧ ev ns k m = ev ns r m ∧ Below w.heap.size w wr ∧ Blk wr w.heap.size 28 [.int .i64 a, .slice A n c, .int .i64 r]) (fun i _ => (intOf i).toNat)
  case atStart => exact ⟨r, HF.out.2.1, by have := HF.out.2.2; rw [HX.out] at this; exact this, rfl, rfl, below1 _ _, heap_alloc_new w _⟩
  case round =>
    obtain ⟨k, hk0, hk1, rfl, hev, hb, hbk⟩ := hrel
    have V1 := Lib.hid hev
    have B1 := Lib.hid hb
    have K1 := Lib.hid hbk
    have t0 : wr.cell? ⟨w.heap.size, 0, none⟩ = some (.int .i64 a) := hbk.cell 0
    have t1 : wr.cell? ⟨w.heap.size, 1, none⟩ = some (.slice A n c) := hbk.cell 1
    have t2 : wr.cell? ⟨w.heap.size, 2, none⟩ = some (.int .i64 r) := hbk.cell 2
    have hwl := hbk.lt
    clear hev hb hbk
    by_cases hlt : 2 ≤ k
    · obtain ⟨j, hj⟩ : ∃ j : Nat, k = j + 2 := ⟨(k - 2).toNat, by omega⟩
      subst hj
      have hjn : j < n := by omega
      obtain ⟨x, hx⟩ : ∃ x, ns[j]? = some x := ⟨_, List.getElem?_eq_getElem (by have := HX.out; omega)⟩
      obtain ⟨a1, a2, a3, a4, a5, a6⟩ := HF.out.1 j x hx
      obtain ⟨p, hp⟩ : ∃ p : Nat, x.v = p + 1 := ⟨(x.v - 1).toNat, by omega⟩
      have hp6 : p ≤ 6 := by omega
      obtain ⟨q, hq⟩ : ∃ q, 2 ^ p = q := ⟨_, rfl⟩
      have hq0 : 0 < q := by rw [← hq]; exact Nat.pow_pos (by omega)
      have hand := and_bit (m := m) hq hp6 (by omega)
      have hst := ev_step HF.out.ahead (k := (j : Int) + 2) (x := x) (by omega) (by rw [show ((j : Int) + 2 - 2).toNat = j by omega]; exact hx) m
      rw [show (x.v - 1).toNat = p by omega] at hst
      have HV := Lib.hid hp
      have HQ := Lib.hid hq
      obtain ⟨b, off, rfl, hbl, ha⟩ := (hl.out.below B1.out) j x hx
      obtain ⟨e0, e1, e2⟩ := ha
      clear hx hp hq
      have hne : ((q : Int) != 0) = true := by simp; omega
      cases hbit : m.testBit p
      · rw [hbit] at hand hst
        simp only [Bool.false_eq_true, if_false] at hand hst
        have ST := Lib.hid hst
        clear hst
        go_wp2_with (go_at_call 91; refine (bitOfVar_any _ p q _ HV HQ hp6).mono ?_; rintro e w' ⟨rfl, rfl⟩)
        go_roundw
        case rel => exact ⟨x.l, a3, by omega, rfl, by rw [← ST.out]; exact V1.out, Below.tr B1.out (below1 _ _), K1.out.below (below1 _ _)⟩
        case measure => simp [intOf]; omega
      · rw [hbit] at hand hst
        simp only [if_true] at hand hst
        have ST := Lib.hid hst
        clear hst
        go_wp2_with (go_at_call 91; refine (bitOfVar_any _ p q _ HV HQ hp6).mono ?_; rintro e w' ⟨rfl, rfl⟩)
        go_roundw
        case rel => exact ⟨x.h, a5, by omega, rfl, by rw [← ST.out]; exact V1.out, Below.tr B1.out (below1 _ _), K1.out.below (below1 _ _)⟩
        case measure => simp [intOf]; omega
    · have E : Hid (ev ns r m = (k == 1)) := Lib.hid (by rw [← V1.out, ev_low ns (by omega)])
      go_wp2
      go_ret
      exact ⟨ret_bool E.out.symm, B1.out⟩
theorem VCopied.below' {w w' : World} {t : TypeId} {g k : Nat} {vs : List Value} (h : VCopied t g vs k w) (hb : Below w.heap.size w w') : VCopied t g vs k w' := by
  obtain ⟨cur, h1, h2, h3⟩ := h
  exact ⟨cur, h1.below hb, h2, h3⟩
set_option maxRecDepth 100000 in
set_option maxHeartbeats 4000000 in
theorem tableOf_any (p : Nat) (r : Int) (A : Option Addr) (n c : Nat) (ns : List Nd) (T : Nat) (w : World) (hl : Hid (NLies w A ns)) (HX : Hid (ns.length = n)) (hn : n ≤ 1048576) (HF : Hid (Fol p ns r)) (hp6 : p ≤ 6) (HT : Hid (2 ^ p = T)) :
    Calls Try.prog 87 #[.agg #[.int .i64 p, .slice A n c, .int .i64 r]] w fun e w' => e = .returned (.slice (some ⟨w.heap.size + 1, 0, none⟩) T T) ∧ Blk w' (w.heap.size + 1) 4 ((tabL p ns r).map Value.bool) ∧ Below w.heap.size w w' := by
  obtain ⟨i0, hi0, hz0, hz1, hz2⟩ := info_parts info_bool
  have hT2 : T ≤ 64 := by rw [← HT.out]; exact pow_le6 hp6
  have hsh := shl_one p (by omega)
  rw [HT.out] at hsh
  have hsh2 : IntKind.i64.wrap (2 ^ p) = (T : Int) := by rw [← hsh, Int.one_mul]
  have hsh3 : wrap64 (2 ^ p) = (T : Int) := by
    have e : (2 : Int) ^ p = (T : Int) := by rw [← HT.out]; push_cast; rfl
    rw [e]
    unfold wrap64
    omega
  have TL : Hid ((tabL p ns r).length = T) := Lib.hid (by rw [tabL_len, HT.out])
  go_enter Try.func87, Try.ntmps87
  go_wp2_with (at_make; (refine wpList_make_full _ rfl _ _ 49 rfl w.heap.size 4 i0 _ 1 Try.underlying49 hi0 hz0 hz1 _ _ _ _ T rfl rfl (by omega) (by omega) (by rw [hz2]; omega) (by unfold maxLen; omega) (by simp) ?_; intro w1 hown1 hg1; rw [show (w.alloc (.cells #[.int .i64 p, .slice A n c, .int .i64 r] 28)).heap.size = w.heap.size + 1 by simp] at hown1; have HC := Lib.hid (VCopied.start (vs := (tabL p ns r).map Value.bool) (by simp [TL.out]) hown1); have HB := Lib.hid ((below1 w _).grown hg1 (by simp) (by simp)); have HD : Hid (Blk w1 w.heap.size 28 [.int .i64 p, .slice A n c, .int .i64 r]) := Lib.hid ((Kept.of_grown (S := fun _ => False) hg1 (fun g e => by cases e)).blk (heap_alloc_new w _) (fun e => e)); clear hown1 hg1))
  go_loopw [11] (fun i wr => ∃ k : Nat, k ≤ T ∧ i = .int .i64 k ∧ VCopied 4 (w.heap.size + 1) ((tabL p ns r).map Value.bool) k wr ∧ Below w.heap.size w wr ∧ Blk wr w.heap.size 28 [.int .i64 p, .slice A n c, .int .i64 r]) (fun i _ => T - (intOf i).toNat)
  case atStart => exact ⟨0, Nat.zero_le _, rfl, HC.out, HB.out, HD.out⟩
  case round =>
    obtain ⟨k, hk, rfl, hc, hb, hbk⟩ := hrel
    have C1 := Lib.hid hc
    have B1 := Lib.hid hb
    have K1 := Lib.hid hbk
    have t0 : wr.cell? ⟨w.heap.size, 0, none⟩ = some (.int .i64 p) := hbk.cell 0
    have t1 : wr.cell? ⟨w.heap.size, 1, none⟩ = some (.slice A n c) := hbk.cell 1
    have t2 : wr.cell? ⟨w.heap.size, 2, none⟩ = some (.int .i64 r) := hbk.cell 2
    have hwl := hbk.lt
    clear hc hb hbk HC HB HD
    by_cases hlt : k < T
    · have HXK : Hid (((tabL p ns r).map Value.bool)[k]? = some (.bool (ev ns r k))) := Lib.hid (by rw [List.getElem?_map, tabL_at (by rw [HT.out]; exact hlt)]; rfl)
      have L1 := Lib.hid (hl.out.below B1.out)
      go_wp2_with fail
      refine (valueAt_any p r A n c k ns _ L1 HX hn HF (by omega) (by omega)).mono ?_
      rintro e w2 ⟨rfl, hb2⟩
      have C2 := Lib.hid (C1.out.below' hb2)
      have B2 := Lib.hid (Below.tr B1.out hb2)
      have K2 := Lib.hid (K1.out.below hb2)
      clear hb2 C1 B1 L1 K1 t0 t1 t2
      obtain ⟨v0, t0⟩ := C2.out.there k (by simp [TL.out]; omega)
      have f0 := C2.out.free k
      go_wp2
      go_roundw
      case rel => exact ⟨k + 1, by omega, by go_num, C2.out.step HXK.out, B2.out.setCell (Nat.le_succ _) _, K2.out.far (by omega) _⟩
      case measure => simp [intOf]; omega
    · obtain rfl : k = T := by omega
      go_wp2
      go_ret
      exact ⟨rfl, (by have h := C1.out; rw [show k = ((tabL p ns r).map Value.bool).length by simp [TL.out]] at h; exact h.end_), B1.out⟩
end Go.Proofs.Ytklcfbjaodildaa
