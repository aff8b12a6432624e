/-
  The diagram of a table: the program's.
-/
import Derived.Test.YtklcfbjaodildaaNod
import Derived.Test.YtklcfbjaodildaaCountM
namespace Go.Proofs.Ytklcfbjaodildaa
open Go.ChangeShapes Go.WideShapes Go.ChangeAt Go.RowKit Go.Maps

theorem shl_bit {v : Int} {p q : Nat} (hv : v = p + 1) (hq : 2 ^ p = q) (hp : p ≤ 6) : wrap64 (2 ^ (v.toNat - 1)) = (q : Int) := by
  have := pow_le (v := p) (by omega)
  have e : (2 : Int) ^ p = (q : Int) := by rw [← hq]; push_cast; rfl
  rw [show v.toNat - 1 = p by omega, e]
  unfold wrap64
  omega
set_option maxRecDepth 100000 in
set_option maxHeartbeats 400000 in
theorem bitOfVar_any (v : Int) (p q : Nat) (w : World) (HV : Hid (v = p + 1)) (HQ : Hid (2 ^ p = q)) (hp : p ≤ 6) :
    Calls Try.prog 91 #[.int .i64 v] w fun e w' => e = .returned (.int .i64 q) ∧ w = w' := by
  have hsh := shl_bit HV.out HQ.out hp
  have h1 : 1 ≤ v := by have := HV.out; omega
  have h2 : v ≤ 7 := by have := HV.out; omega
  go_enter Try.func91, Try.ntmps91
  go_wp2
  go_ret
  exact ⟨ret_int hsh, rfl⟩
set_option maxRecDepth 100000 in
set_option maxHeartbeats 400000 in
theorem constantOf_any (b : Bool) (w : World) :
    Calls Try.prog 155 #[.bool b] w fun e w' => e = .returned (.int .i64 (bitN b : Nat)) ∧ w = w' := by
  cases b
  · go_enter Try.func155, Try.ntmps155
    go_wp2
    go_ret
    exact ⟨rfl, rfl⟩
  · go_enter Try.func155, Try.ntmps155
    go_wp2
    go_ret
    exact ⟨rfl, rfl⟩

/-- the builder -/
def bdr (n : Int) (A : Option Addr) (m c B : Nat) : Value := .agg #[.int .i64 n, .slice A m c, .map (some B)]
theorem Kept.wide {w w' : World} {S T : Nat → Prop} (h : Kept w w' S) (hs : ∀ i, S i → i < w.heap.size → T i) : Kept w w' T :=
  ⟨h.os, h.tape, h.output, h.size, fun i hi hn => h.block i hi (fun e => hn (hs i e hi))⟩
theorem Kept.below_to {a w w' : World} {B : Nat} (h : Below a.heap.size a w) (k : Kept w w' (fun i => i = B)) : Kept a w' (fun i => i = B) :=
  (Kept.of_below h).trans k
set_option maxRecDepth 100000 in
set_option maxHeartbeats 2000000 in
theorem numberOf_any (n : Int) (A : Option Addr) (m c B : Nat) (x : Nd) (ns : List Nd) (w : World) (hm : Hid (NMap w B ns)) (hd : Hid (ns.Nodup)) (hs : Hid (Sm x)) (hl : ns.length ≤ 100) :
    Calls Try.prog 156 #[.agg #[.int .i64 n, .slice A m c, .map (some B)], .agg #[.int .i64 x.v, .int .i64 x.l, .int .i64 x.h]] w fun e w' => e = .returned (.int .i64 ((numN ns x).1 : Nat)) ∧ NMap w' B (numN ns x).2 ∧ Kept w w' (fun i => i = B) := by
  have hBl := hm.out.lt
  by_cases hx : x ∈ ns
  · obtain ⟨D, kl, ho, hk, hh, ha⟩ := hm.out.there hd.out hx
    obtain ⟨j, hj⟩ : ∃ j, ns.idxOf x = j := ⟨_, rfl⟩
    rw [hj] at ha
    have E : Hid (numN ns x = (j + 2, ns)) := Lib.hid (by unfold numN; rw [if_pos hx, hj])
    rw [E.out]
    have O := Lib.hid ho
    have HK : Hid (keyOf Try.prog 43 (.agg #[.int .i64 x.v, .int .i64 x.l, .int .i64 x.h]) = some kl) := Lib.hid hk
    have HH := Lib.hid hh
    have HA := Lib.hid ha
    clear ho hk hh ha hx hj
    go_enter Try.func156, Try.ntmps156
    go_wp2_with (at_lookup; refine wpList_lookup_own_ok_int _ rfl _ _ 148 rfl 43 3 .i64 nd_law Try.underlying148 Try.underlying3 (zero_int _) B ns.length D rfl ((O.out.alloc _).alloc _) _ kl rfl HK.out ?_; intro cc hat hwc; rw [HH.out]; obtain rfl : (j : Int) + 2 = cc := (by have := HA.out.symm.trans hat; injection this with this; injection this); clear hat hwc)
    go_ret
    exact ⟨rfl, (hm.out.below (below2 _ _ _)), Kept.of_below (below2 _ _ _)⟩
  · obtain ⟨D, kl, ho, hk, hh, hsz, hput⟩ := hm.out.not hs.out hx
    have E : Hid (numN ns x = (ns.length + 2, ns ++ [x])) := Lib.hid (by unfold numN; rw [if_neg hx])
    rw [E.out]
    have O := Lib.hid ho
    have HK : Hid (keyOf Try.prog 43 (.agg #[.int .i64 x.v, .int .i64 x.l, .int .i64 x.h]) = some kl) := Lib.hid hk
    have HH := Lib.hid hh
    have HZ := Lib.hid hsz
    have HP := Lib.hid hput
    clear ho hk hh hsz hput hx
    obtain ⟨z, hz⟩ : ∃ z, ns.length = z := ⟨_, rfl⟩
    rw [hz] at O HZ HP hl ⊢
    clear hz
    go_enter Try.func156, Try.ntmps156
    go_wp2_with (first
      | (at_lookup; refine wpList_lookup_own_ok_int _ rfl _ _ 148 rfl 43 3 .i64 nd_law Try.underlying148 Try.underlying3 (zero_int _) B z D rfl ((O.out.alloc _).alloc _) _ kl rfl HK.out ?_; intro cc hat hwc; rw [HH.out]; clear hat hwc)
      | (at_len; refine wpList_len_own _ rfl _ 148 rfl 43 3 Try.underlying148 _ B z D rfl ((O.out.alloc _).alloc _) ?_; rw [HZ.out])
      | (at_mapUpdate; refine wpList_mapUpdate_own _ rfl _ _ _ 148 rfl 43 3 nd_law Try.underlying148 _ B z D rfl ((O.out.alloc _).alloc _) (by unfold maxLen; omega) _ _ kl rfl rfl HK.out _ [] (plainElem_int Try.underlying3 (WalkArith.wf_i64 (by omega))) ?_; intro w1 hown1 hgrow1))
    go_ret
    rw [Int.add_comm] at hown1
    exact ⟨ret_int (by push_cast; omega), HP.out _ hown1, (Kept.of_below (below2 _ _ _)).trans (Kept.of_grown hgrow1 (fun g e => by injection e with e; exact e.symm))⟩

/-- the part of the table below an index -/
def subT (T : List Bool) (p idx : Nat) : Nat → Bool := fun j => T.getD (idx + j * 2 ^ p) false
theorem subT_ev (T : List Bool) (p idx : Nat) : evT (subT T p idx) = subT T (p + 1) idx := by
  funext j
  unfold evT subT
  rw [Nat.pow_succ, show 2 * j * 2 ^ p = j * (2 ^ p * 2) by rw [Nat.mul_comm 2 j, Nat.mul_assoc, Nat.mul_comm 2]]
theorem subT_od (T : List Bool) (p idx : Nat) : odT (subT T p idx) = subT T (p + 1) (idx + 2 ^ p) := by
  funext j
  unfold odT subT
  rw [Nat.pow_succ, show idx + (2 * j + 1) * 2 ^ p = idx + 2 ^ p + j * (2 ^ p * 2) by rw [Nat.add_mul, Nat.one_mul, Nat.mul_comm 2 j, Nat.mul_assoc, Nat.mul_comm 2]; omega]
theorem subT_top (T : List Bool) : subT T 0 0 = tabF T := by
  funext j
  simp [subT, tabF]
theorem i64_or_nat (a b : Nat) (ha : a < 9223372036854775808) (hb : b < 9223372036854775808) : bits .or .i64 (a : Int) (b : Int) = ((a ||| b : Nat) : Int) := by
  have hx : a ||| b < 2 ^ 63 := Nat.or_lt_two_pow (by omega) (by omega)
  show IntKind.i64.wrap ((BitVec.ofInt 64 (a : Int) ||| BitVec.ofInt 64 (b : Int)).toNat : Int) = _
  rw [BitVec.toNat_or, ofInt_i64 a ha, ofInt_i64 b hb, IntKind.wrap_i64]
  omega
theorem or_pow {idx p q : Nat} (h : idx < 2 ^ p) (hq : 2 ^ p = q) (hp : p ≤ 6) : bits .or .i64 (idx : Int) (q : Int) = ((idx + q : Nat) : Int) := by
  have := pow_le6 hp
  rw [i64_or_nat _ _ (by omega) (by omega), ← hq]
  have e := Nat.two_pow_add_eq_or_of_lt h 1
  rw [Nat.mul_one] at e
  rw [Nat.or_comm, ← e, Nat.add_comm]
theorem BLies.kept {w w' : World} {A : Option Addr} {l : List Bool} {S : Nat → Prop} (h : BLies w A l) (hk : Kept w w' S) (hn : ∀ b off, A = some ⟨b, off, none⟩ → ¬ S b) : BLies w' A l := by
  intro i x hx
  obtain ⟨b, off, hA, hlt, ha⟩ := h i x hx
  refine ⟨b, off, hA, Nat.lt_of_lt_of_le hlt hk.size, ?_⟩
  have := hk.block b hlt (hn b off hA)
  unfold World.cell? at ha ⊢
  simp only at ha ⊢
  rw [this]
  exact ha
theorem sm_small {v l h : Nat} (h1 : v ≤ 100) (h2 : l ≤ 1000) (h3 : h ≤ 1000) : Sm ⟨v, l, h⟩ := ⟨WalkArith.wf_i64 (by simp only; omega), WalkArith.wf_i64 (by simp only; omega), WalkArith.wf_i64 (by simp only; omega)⟩
theorem Kept.blk1 {a w' : World} {B : Nat} {t : TypeId} {cs : List Value} (hB : B < a.heap.size) (h : Kept (a.alloc (.cells cs.toArray t (0, 0))) w' (fun i => i = B)) : Blk w' a.heap.size t cs :=
  h.blk (heap_alloc_new a _) (by omega)
set_option maxRecDepth 100000 in
set_option maxHeartbeats 4000000 in
theorem build_any (n : Nat) (A : Option Addr) (m c B : Nat) (T : List Bool) (hn : n ≤ 6) (HM : Hid (T.length = m)) (HP : Hid (2 ^ n = m)) (HB : Hid (∀ b off, A = some ⟨b, off, none⟩ → b ≠ B)) :
    ∀ (d p idx : Nat) (v ix : Int) (ns : List Nd) (w : World), Hid (v = p + 1) → Hid (ix = idx) → Hid (p + d = n) → Hid (idx < 2 ^ p) → Hid (NMap w B ns) → Hid ns.Nodup → Hid (BLies w A T) → Hid (ns.length + 2 ^ d ≤ 70) →
    Calls Try.prog 125 #[.agg #[.int .i64 n, .slice A m c, .map (some B)], .int .i64 v, .int .i64 ix] w fun e w' => e = .returned (.int .i64 ((bld d (p + 1) (subT T p idx) ns).1 : Nat)) ∧ NMap w' B (bld d (p + 1) (subT T p idx) ns).2 ∧ Kept w w' (fun i => i = B)
  | 0, p, idx, v, ix, ns, w, hv, hix, hpd, hi, hmap, hnd, hbl, hlen => by
    obtain rfl : p = n := hpd.out
    obtain rfl := hv.out
    obtain rfl := hix.out
    have hm6 : m ≤ 64 := by rw [← HP.out]; exact pow_le6 hn
    have him : idx < m := by rw [← HP.out]; exact hi.out
    obtain ⟨x, hx⟩ : ∃ x, T[idx]? = some x := ⟨_, List.getElem?_eq_getElem (by rw [HM.out]; exact him)⟩
    obtain ⟨b, off, rfl, hbl1, hc⟩ := (hbl.out.below (below1 w (.cells #[.int .i64 p, .slice A m c, .map (some B)] 150))) idx x hx
    have E : Hid (bld 0 (p + 1) (subT T p idx) ns = (bitN x, ns)) := Lib.hid (by simp [bld, subT, hx])
    rw [E.out]
    clear hx hlen
    go_enter Try.func125, Try.ntmps125
    go_wp2_with (go_at_call 155; refine (constantOf_any x _).mono ?_; rintro e w' ⟨rfl, rfl⟩)
    go_ret
    exact ⟨rfl, hmap.out.below (below1 _ _), Kept.of_below (below1 _ _)⟩
  | d + 1, p, idx, v, ix, ns, w, hv, hix, hpd, hi, hmap, hnd, hbl, hlen => by
    have hp6 : p ≤ 6 := by have := hpd.out; omega
    have hv1 : 1 ≤ v := by have := hv.out; omega
    have hv2 : v ≤ n := by have := hv.out; have := hpd.out; omega
    have hBl := hmap.out.lt
    have hpw : 2 ^ (d + 1) = 2 * 2 ^ d := by rw [Nat.pow_succ, Nat.mul_comm]
    obtain ⟨q, hq⟩ : ∃ q, 2 ^ p = q := ⟨_, rfl⟩
    have HQ := Lib.hid hq
    have hq64 : q ≤ 64 := by rw [← hq]; exact pow_le6 hp6
    have hor := or_pow hi.out hq hp6
    rw [← hix.out] at hor
    have hix1 : 0 ≤ ix ∧ ix ≤ 64 := by have := hi.out; have := hix.out; omega
    clear hq
    obtain ⟨l, ns1, hb1⟩ : ∃ l ns1, bld d (p + 2) (subT T (p + 1) idx) ns = (l, ns1) := ⟨_, _, rfl⟩
    obtain ⟨h, ns2, hb2⟩ : ∃ h ns2, bld d (p + 2) (subT T (p + 1) (idx + q)) ns1 = (h, ns2) := ⟨_, _, rfl⟩
    have hE := bld_succ d (p + 1) (subT T p idx) ns ns1 ns2 l h (by rw [subT_ev]; exact hb1) (by rw [subT_od, HQ.out]; exact hb2)
    have hd1 := bld_nodup _ _ _ hnd.out hb1
    have hd2 := bld_nodup _ _ _ hd1 hb2
    have hl1 := bld_len _ _ _ hnd.out hb1
    have hl2 := bld_len _ _ _ hd1 hb2
    have hk1 := bld_num _ _ _ hnd.out hb1
    have hk2 := bld_num _ _ _ hd1 hb2
    have hln := hlen.out
    rw [hpw] at hln
    have hpos : 0 < 2 ^ d := Nat.pow_pos (by omega)
    have N1 := Lib.hid hd1
    have N2 := Lib.hid hd2
    have LN1 : Hid (ns1.length + 2 ^ d ≤ 70) := Lib.hid (by omega)
    have LN0 : Hid (ns.length + 2 ^ d ≤ 70) := Lib.hid (by omega)
    have hll : l ≤ 100 := by omega
    have hlh : h ≤ 100 := by omega
    have LN2 : Hid (ns2.length ≤ 100) := Lib.hid (by omega)
    have EB1 := Lib.hid hb1
    have EB2 := Lib.hid hb2
    obtain ⟨r, ns', hr⟩ : ∃ r ns', (if l = h then (l, ns2) else numN ns2 ⟨(p + 1 : Nat), l, h⟩) = (r, ns') := ⟨_, _, rfl⟩
    have ER := Lib.hid hr
    rw [hE, hr]
    clear hr
    clear hb1 hb2 hE hd1 hd2 hl1 hl2 hk1 hk2 hln hpos hpw hlen
    have M0 := Lib.hid (hmap.out.below (below1 w (.cells #[.int .i64 n, .slice A m c, .map (some B)] 150)))
    have L0 := Lib.hid (hbl.out.below (below1 w (.cells #[.int .i64 n, .slice A m c, .map (some B)] 150)))
    go_enter Try.func125, Try.ntmps125
    go_wp2_with fail
    refine (build_any n A m c B T hn HM HP HB d (p + 1) idx _ ix ns _ (Lib.hid (by have := hv.out; push_cast; omega)) hix (Lib.hid (by have := hpd.out; omega)) (Lib.hid (by have := hi.out; rw [Nat.pow_succ]; omega)) M0 hnd L0 LN0).mono ?_
    rw [EB1.out]
    rintro e w1 ⟨rfl, hm1, hk1⟩
    have K1 := Lib.hid hk1
    have M1 := Lib.hid hm1
    have L1 := Lib.hid (L0.out.kept hk1 (fun b off e => HB.out b off e))
    have hblk : Blk w1 w.heap.size 150 [.int .i64 n, .slice A m c, .map (some B)] := hk1.blk1 hBl
    have t0 : w1.cell? ⟨w.heap.size, 0, none⟩ = some (.int .i64 n) := hblk.cell 0
    have t1 : w1.cell? ⟨w.heap.size, 1, none⟩ = some (.slice A m c) := hblk.cell 1
    have t2 : w1.cell? ⟨w.heap.size, 2, none⟩ = some (.map (some B)) := hblk.cell 2
    have HBK := Lib.hid hblk
    have hwl := hblk.lt
    clear hk1 hm1 M0 L0 hblk
    go_wp2_with fail
    refine wp_region_still_tail 7 (by kernel_rfl) (by kernel_rfl) ?_
    simp only [List.take_succ_cons, List.take_zero, List.drop_succ_cons, List.drop_zero]
    change wpStill _ _ (World.drew w1) _ _ _
    repeat still_step
    still_call ((bitOfVar_any v p q _ hv HQ hp6).mono (fun e w' h => ⟨h.1, h.2.symm⟩))
    repeat still_step
    refine wpStill_nil ?_
    change wpList _ _ _ _ _ (World.drew w1)
    go_wp2_with fail
    refine (build_any n A m c B T hn HM HP HB d (p + 1) (idx + q) _ _ ns1 _ (Lib.hid (by have := hv.out; push_cast; omega)) (Lib.hid (by first | rfl | (push_cast; rfl))) (Lib.hid (by have := hpd.out; omega)) (Lib.hid (by have := hi.out; have := HQ.out; rw [Nat.pow_succ]; omega)) (Lib.hid (M1.out.kept (S := fun _ => False) (Kept.of_below (Below.refl w1.heap.size w1).drew) (fun e => e))) N1 (Lib.hid (L1.out.below (Below.refl w1.heap.size w1).drew)) LN1).mono ?_
    rw [EB2.out]
    rintro e w2 ⟨rfl, hm2, hk2⟩
    have hk2' : Kept w1 w2 (fun i => i = B) := (Kept.of_below (Below.refl w1.heap.size w1).drew).trans hk2
    have K2 : Hid (Kept w w2 (fun i => i = B)) := Lib.hid (((Kept.of_below (below1 _ _)).trans K1.out).trans hk2')
    have M2 := Lib.hid hm2
    have hblk : Blk w2 w.heap.size 150 [.int .i64 n, .slice A m c, .map (some B)] := hk2'.blk HBK.out (by omega)
    have u0 : w2.cell? ⟨w.heap.size, 0, none⟩ = some (.int .i64 n) := hblk.cell 0
    have u1 : w2.cell? ⟨w.heap.size, 1, none⟩ = some (.slice A m c) := hblk.cell 1
    have u2 : w2.cell? ⟨w.heap.size, 2, none⟩ = some (.map (some B)) := hblk.cell 2
    have hwl2 := hblk.lt
    clear hk2 hm2 M1 L1 hblk hk2' HBK K1
    by_cases hlh2 : l = h
    · subst hlh2
      have hr := ER.out
      rw [if_pos rfl] at hr
      obtain ⟨rfl, rfl⟩ := Prod.mk.inj hr
      clear hr
      go_wp2
      go_ret
      exact ⟨rfl, M2.out, K2.out⟩
    · have hr := ER.out
      rw [if_neg hlh2] at hr
      have HR := Lib.hid hr
      clear hr
      have hne : ((l : Int) == (h : Int)) = false := by simp; omega
      have hvv : v = ((p + 1 : Nat) : Int) := by have := hv.out; push_cast; omega
      have HSM : Hid (Sm ⟨(p + 1 : Nat), l, h⟩) := Lib.hid (sm_small (by omega) (by omega) (by omega))
      have HVV := Lib.hid hvv
      clear hvv
      go_wp2_with fail
      have hc := numberOf_any n A m c B ⟨(p + 1 : Nat), l, h⟩ ns2 w2 M2 N2 HSM LN2.out
      rw [HR.out] at hc
      simp only [← HVV.out] at hc
      refine hc.mono ?_
      rintro e w3 ⟨rfl, hm3, hk3⟩
      have K3 := Lib.hid (K2.out.trans hk3)
      have M3 := Lib.hid hm3
      clear hm3 hk3 hc
      go_wp2
      go_ret
      exact ⟨rfl, M3.out, K3.out⟩
end Go.Proofs.Ytklcfbjaodildaa
