/-
  The model's building of a diagram: the recursion.
-/
import Derived.Test.YtklcfbjaodildaaSp1
namespace Go.Proofs.Ytklcfbjaodildaa
open Go.ChangeShapes Go.WideShapes Go.ChangeAt Go.RowKit Go.Maps

/-- the model's builder in memory: its nodes in a row of their own -/
structure SB (w : World) (base s : Nat) (vars : Int) (ns : List Nd) (A : Option Addr) (c : Nat) : Prop where
  blk : Blk w s 157 [.int .i64 vars, .slice A ns.length c]
  own : w.ownsRow base 43 3 (.slice A ns.length c) ns.length (ncells ns)
  off : ∀ g, (Value.slice A ns.length c).ownBlock = some g → g ≠ s
/-- what turns: the builder and its row -/
def Tn (s n : Nat) (A : Option Addr) (c : Nat) : Nat → Prop := fun i => i = s ∨ (Value.slice A n c).ownBlock = some i
theorem Kept.own3 {w w' : World} {S : Nat → Prop} {base n : Nat} {t : TypeId} {v : Value} {xs : List Value} (h : Kept w w' S) (ho : w.ownsRow base t 3 v n xs) (hn : ∀ g, v.ownBlock = some g → ¬ S g) : w'.ownsRow base t 3 v n xs := by
  refine ⟨ho.1, ?_⟩
  rcases ho.2 with q | ⟨g, cap, cur, rfl, hb, hg, rest⟩
  · exact .inl q
  · exact .inr ⟨g, cap, cur, rfl, hb, (h.block g (Array.getElem?_eq_some_iff.1 hg).1 (hn g rfl)).trans hg, rest⟩
theorem SB.below {w w' : World} {base s : Nat} {vars : Int} {ns : List Nd} {A : Option Addr} {c : Nat} (h : SB w base s vars ns A c) (hb : Below w.heap.size w w') : SB w' base s vars ns A c :=
  ⟨h.blk.below hb, own_below h.own hb, h.off⟩
theorem SB.lt {w : World} {base s : Nat} {vars : Int} {ns : List Nd} {A : Option Addr} {c : Nat} (h : SB w base s vars ns A c) {i : Nat} (hi : Tn s ns.length A c i) : i < w.heap.size := by
  rcases hi with rfl | hi
  · exact h.blk.lt
  · exact (h.own.lt i hi).2
/-- what a build leaves -/
def SBG (w : World) (base s : Nat) (vars : Int) (ns : List Nd) (A : Option Addr) (c : Nat) (ns' : List Nd) (w' : World) : Prop :=
  ∃ A' c', SB w' base s vars ns' A' c' ∧ Kept w w' (Tn s ns.length A c) ∧ ∀ g, (Value.slice A' ns'.length c').ownBlock = some g → (Value.slice A ns.length c).ownBlock = some g ∨ w.heap.size ≤ g
theorem own_blies' {w : World} {base n c : Nat} {A : Option Addr} {l : List Bool} (h : w.ownsRow base 4 1 (.slice A n c) n (l.map Value.bool)) : BLies w A l ∧ ∀ b off, A = some ⟨b, off, none⟩ → base ≤ b := by
  refine ⟨own_blies h, fun b off e => ?_⟩
  subst e
  rcases h.2 with ⟨h', _⟩ | ⟨g', cap', cur, h', hb, _⟩
  · simp at h'
  · simp only [Value.slice.injEq, Option.some.injEq, Addr.mk.injEq] at h'
    omega
theorem Kept.comp {a b c : World} {S T : Nat → Prop} (h : Kept a b S) (k : Kept b c T) (hT : ∀ i, i < a.heap.size → T i → S i) : Kept a c S :=
  ⟨k.os.trans h.os, k.tape.trans h.tape, k.output.trans h.output, Nat.le_trans h.size k.size, fun i hi hn => (k.block i (Nat.lt_of_lt_of_le hi h.size) (fun t => hn (hT i hi t))).trans (h.block i hi hn)⟩
theorem SB.kept {w w' : World} {base s : Nat} {vars : Int} {ns : List Nd} {A : Option Addr} {c : Nat} {S : Nat → Prop} (h : SB w base s vars ns A c) (hk : Kept w w' S) (hn : ∀ i, Tn s ns.length A c i → ¬ S i) : SB w' base s vars ns A c :=
  ⟨hk.blk h.blk (hn s (.inl rfl)), hk.own3 h.own (fun g e => hn g (.inr e)), h.off⟩
theorem ncells_app (ns : List Nd) (x : Nd) : ncells (ns ++ [x]) = ncells ns ++ [.int .i64 x.v, .int .i64 x.l, .int .i64 x.h] := by simp [ncells, Nd.cells]
theorem three_new (w : World) (a b c : Value) (t : TypeId) : ∀ j u, [a, b, c][j]? = some u → (w.alloc (.cells #[a, b, c] t)).cell? ((⟨w.heap.size, 0, none⟩ : Addr).add j) = some u :=
  World.news_of_block (heap_alloc_new w (.cells [a, b, c].toArray t))
set_option maxRecDepth 100000 in
set_option maxHeartbeats 8000000 in
theorem buildS_any (base s : Nat) (vars : Int) :
    ∀ (d v : Nat) (B : Option Addr) (m c2 : Nat) (T : List Bool) (ns : List Nd) (A : Option Addr) (c : Nat) (w : World), Hid (T.length = m) → Hid (2 ^ d = m) → d ≤ 6 → v + d ≤ 7 → Hid (SB w base s vars ns A c) → Hid (base ≤ w.heap.size) → Hid (BLies w B T) → Hid (∀ b off, B = some ⟨b, off, none⟩ → ¬ Tn s ns.length A c b) → Hid ns.Nodup → Hid (ns.length + 2 ^ d ≤ 70) →
    Calls Try.prog 129 #[.pointer (some ⟨s, 0, none⟩), .int .i64 v, .slice B m c2] w fun e w' => e = .returned (.int .i64 ((bld d v (tabF T) ns).1 : Nat)) ∧ SBG w base s vars ns A c (bld d v (tabF T) ns).2 w'
  | 0, v, B, m, c2, T, ns, A, c, w, HT, HM, hd6, hv7, HS, HBS, HL, HO, HN, HLN => by
    obtain rfl : 1 = m := HM.out
    obtain ⟨x, hx⟩ : ∃ x, T[0]? = some x := ⟨_, List.getElem?_eq_getElem (by rw [HT.out]; omega)⟩
    obtain ⟨b, off, rfl, hbl, hc⟩ := HL.out 0 x hx
    rw [Nat.add_zero] at hc
    have E : Hid (bld 0 v (tabF T) ns = (bitN x, ns)) := Lib.hid (by simp [bld, tabF, hx])
    rw [E.out]
    have HG : Hid (SBG w base s vars ns A c ns w) := Lib.hid ⟨A, c, HS.out, Kept.refl _ _, fun g h => .inl h⟩
    clear hx
    cases x
    · go_enter Try.func129, Try.ntmps129
      go_wp2
      go_ret
      exact ⟨rfl, HG.out⟩
    · go_enter Try.func129, Try.ntmps129
      go_wp2
      go_ret
      exact ⟨rfl, HG.out⟩
  | d + 1, v, B, m, c2, T, ns, A, c, w, HT, HM, hd6, hv7, HS, HBS, HL, HO, HN, HLN => by
    obtain ⟨n, hn⟩ : ∃ n, 2 ^ d = n := ⟨_, rfl⟩
    have HNN := Lib.hid hn
    have hpos : 0 < n := by rw [← hn]; exact Nat.pow_pos (by omega)
    have hn64 : n ≤ 64 := by rw [← hn]; exact pow_le6 (by omega)
    have hm2 : m = 2 * n := by rw [← HM.out, Nat.pow_succ, hn]; omega
    have HM2 := Lib.hid hm2
    have hl2 : T.length = 2 * n := by rw [HT.out, hm2]
    have hev := hfL_ev hl2
    have hod := hfL_od hl2
    have hln := HLN.out
    rw [Nat.pow_succ, hn] at hln
    have hm1 : ((m : Int) == 1) = false := by simp; omega
    obtain ⟨U, hU⟩ : ∃ U, hfL T n 0 = U := ⟨_, rfl⟩
    obtain ⟨V, hV⟩ : ∃ V, hfL T n 1 = V := ⟨_, rfl⟩
    have UL : Hid (U.length = n) := Lib.hid (by rw [← hU, hfL_len])
    have VL : Hid (V.length = n) := Lib.hid (by rw [← hV, hfL_len])
    rw [hU] at hev
    rw [hV] at hod
    have HU := Lib.hid hU
    have HV := Lib.hid hV
    have HQ : Hid (decide (U = V) = true ↔ EqT d (evT (tabF T)) (odT (tabF T))) := Lib.hid (by rw [hev, hod, eqT_lists (by rw [UL.out, hn]) (by rw [VL.out, hn])]; simp)
    clear hn hm2 hl2 hU hV
    obtain ⟨r, ns', hr⟩ : ∃ r ns', bld (d + 1) v (tabF T) ns = (r, ns') := ⟨_, _, rfl⟩
    rw [hr]
    have HR := Lib.hid hr
    clear hr
    go_enter Try.func129, Try.ntmps129
    go_wp2_with fail
    refine (l7Half_any B m c2 T n 0 _ HL HT HM2 (by omega) (by omega)).mono ?_
    rw [HU.out]
    rintro e w1 ⟨A1, c1, rfl, ho1, hb1⟩
    obtain ⟨hq1, hg1⟩ := own_blies' ho1
    have L1 := Lib.hid hq1
    have G1 := Lib.hid hg1
    have S1 := Lib.hid (HS.out.below hb1)
    have X1 := Lib.hid (HL.out.below hb1)
    have B1 := Lib.hid hb1
    clear ho1 hb1 hq1 hg1
    go_wp2_with fail
    refine (l7Half_any B m c2 T n 1 _ X1 HT HM2 (by omega) (by omega)).mono ?_
    rw [HV.out]
    rintro e w2 ⟨A2, c3, rfl, ho2, hb2⟩
    obtain ⟨hq2, hg2⟩ := own_blies' ho2
    have L2 := Lib.hid hq2
    have G2 := Lib.hid hg2
    have S2 := Lib.hid (S1.out.below hb2)
    have L12 := Lib.hid (L1.out.below hb2)
    have B2 := Lib.hid (Below.tr B1.out hb2)
    have hs12 := hb2.size
    have hs01 := B1.out.size
    clear ho2 hb2 hq2 hg2
    go_wp2_with fail
    refine (l7Same_any A1 A2 n c1 c3 U V _ L12 L2 UL VL (by omega)).mono ?_
    rintro e w3 ⟨rfl, hb3⟩
    have L13 := Lib.hid (L12.out.below hb3)
    have L23 := Lib.hid (L2.out.below hb3)
    have S3 := Lib.hid (S2.out.below hb3)
    have B3 := Lib.hid (Below.tr B2.out hb3)
    have hs23 := hb3.size
    clear hb3
    have O1 : Hid (∀ b off, A1 = some ⟨b, off, none⟩ → ¬ Tn s ns.length A c b) := Lib.hid (fun b off e h => by have := G1.out b off e; have := HS.out.lt h; omega)
    have O2 : Hid (∀ b off, A2 = some ⟨b, off, none⟩ → ¬ Tn s ns.length A c b) := Lib.hid (fun b off e h => by have := G2.out b off e; have := HS.out.lt h; omega)
    have HB3 : Hid (base ≤ w3.heap.size) := Lib.hid (by have := HBS.out; omega)
    cases hq : decide (U = V)
    · have hnq : ¬ EqT d (evT (tabF T)) (odT (tabF T)) := fun h => by rw [HQ.out.2 h] at hq; cases hq
      obtain ⟨l, ns1, hb1⟩ : ∃ l ns1, bld d (v + 1) (tabF U) ns = (l, ns1) := ⟨_, _, rfl⟩
      obtain ⟨h, ns2, hb2⟩ : ∃ h ns2, bld d (v + 1) (tabF V) ns1 = (h, ns2) := ⟨_, _, rfl⟩
      have hE := bld_other d v (tabF T) ns HN.out hnq (l := l) (h := h) (ns1 := ns1) (ns2 := ns2) (by rw [hev]; exact hb1) (by rw [hod]; exact hb2)
      rw [HR.out] at hE
      have HE := Lib.hid hE
      have hd1 := bld_nodup _ _ _ HN.out hb1
      have hd2 := bld_nodup _ _ _ hd1 hb2
      have hl1 := bld_len _ _ _ HN.out hb1
      have hl2 := bld_len _ _ _ hd1 hb2
      have hk1 := bld_num _ _ _ HN.out hb1
      have hk2 := bld_num _ _ _ hd1 hb2
      rw [HNN.out] at hl1 hl2
      have N1 := Lib.hid hd1
      have N2 := Lib.hid hd2
      have LN1 : Hid (ns1.length + 2 ^ d ≤ 70) := Lib.hid (by rw [HNN.out]; omega)
      have LN0 : Hid (ns.length + 2 ^ d ≤ 70) := Lib.hid (by rw [HNN.out]; omega)
      have hll : l ≤ 100 := by omega
      have hlh : h ≤ 100 := by omega
      have LN2 : Hid (ns2.length ≤ 100) := Lib.hid (by omega)
      have EB1 := Lib.hid hb1
      have EB2 := Lib.hid hb2
      clear hb1 hb2 hE hd1 hd2 hl1 hl2 hk1 hk2 hln hnq
      have hsl := HS.out.blk.lt
      have G2b : Hid (∀ b off, A2 = some ⟨b, off, none⟩ → b < w2.heap.size) := Lib.hid (fun b off e => by
        obtain ⟨b', off', e', hlt, _⟩ := L2.out 0 _ (List.getElem?_eq_getElem (by rw [VL.out]; exact hpos))
        rw [e] at e'
        injection e' with e'
        injection e' with e1 _
        omega)
      go_wp2_with fail
      refine (buildS_any base s vars d (v + 1) A1 n c1 U ns A c w3 UL HNN (by omega) (by omega) S3 HB3 L13 O1 HN LN0).mono ?_
      rw [EB1.out]
      rintro e w4 ⟨rfl, A', c', hsb4, hkp4, hat4⟩
      have hs34 := hkp4.size
      have S4 := Lib.hid hsb4
      have K4 := Lib.hid hkp4
      have AT4 := Lib.hid hat4
      have L24 := Lib.hid (L23.out.kept hkp4 O2.out)
      have O3 : Hid (∀ b off, A2 = some ⟨b, off, none⟩ → ¬ Tn s ns1.length A' c' b) := Lib.hid (fun b off e h => by
        have h1 := G2.out b off e
        have h2 := G2b.out b off e
        rcases h with h | h
        · omega
        · rcases hat4 b h with q | q
          · exact O2.out b off e (.inr q)
          · omega)
      clear hsb4 hkp4 hat4
      have S5 : Hid (SB (w4.alloc (.cells #[.int .i64 v, .int .i64 l, .int .i64 0] 43)) base s vars ns1 A' c') := Lib.hid (S4.out.below (below1 _ _))
      have L25 : Hid (BLies (w4.alloc (.cells #[.int .i64 v, .int .i64 l, .int .i64 0] 43)) A2 V) := Lib.hid (L24.out.below (below1 _ _))
      have HB5 : Hid (base ≤ (w4.alloc (.cells #[.int .i64 v, .int .i64 l, .int .i64 0] 43)).heap.size) := Lib.hid (by have := HB3.out; simp; omega)
      go_wp2_with fail
      refine (buildS_any base s vars d (v + 1) A2 n c3 V ns1 A' c' _ VL HNN (by omega) (by omega) S5 HB5 L25 O3 N1 LN1).mono ?_
      rw [EB2.out]
      rintro e w6 ⟨rfl, A6, c6, hsb6, hkp6, hat6⟩
      have hs46 : w4.heap.size + 1 ≤ w6.heap.size := by have := hkp6.size; simpa using this
      have hnb : Blk w6 w4.heap.size 43 [.int .i64 v, .int .i64 l, .int .i64 0] := hkp6.blk (heap_alloc_new w4 _) (fun h => by have := S4.out.lt h; omega)
      have S6 := Lib.hid hsb6
      have K6 := Lib.hid hkp6
      have AT6 := Lib.hid hat6
      obtain ⟨q0, q1, q2, y0, y1, y2, hnl⟩ := blk_cells hnb
      have NB := Lib.hid (hnb.set 2 (.int .i64 h))
      obtain ⟨z, hz⟩ : ∃ z, ns2.length = z := ⟨_, rfl⟩
      have HZ := Lib.hid hz
      have hz100 : z ≤ 100 := by rw [← hz]; exact LN2.out
      have hsb1 := hsb6.blk.cell 1
      have hsb0 := hsb6.blk.cell 0
      simp only [List.getElem?_cons_succ, List.getElem?_cons_zero] at hsb1 hsb0
      rw [hz] at hsb1
      have hsne : s ≠ w4.heap.size := by omega
      have hsl6 := hsb6.blk.lt
      clear hsb6 hkp6 hat6 hnb hz
      go_wp2_with fail
      obtain ⟨w7, hw7⟩ : ∃ W, W = w6.setCell ⟨w4.heap.size, 2, none⟩ (.int .i64 h) := ⟨_, rfl⟩
      have hK67 : Kept w6 w7 (fun i => i = w4.heap.size) := by rw [hw7]; exact Kept.set
      have NB7 : Hid (Blk w7 w4.heap.size 43 [.int .i64 v, .int .i64 l, .int .i64 h]) := Lib.hid (by rw [hw7]; exact NB.out)
      have hs67 := hK67.size
      have S7 : Hid (SB w7 base s vars ns2 A6 c6) := Lib.hid (S6.out.kept hK67 (fun i h e => by
        rcases h with h | h
        · omega
        · rcases AT6.out i h with q | q
          · have := S4.out.lt (.inr q); omega
          · simp at q; omega))
      have HGK : Hid (Kept w w7 (Tn s ns.length A c)) := Lib.hid ((((Kept.of_below B3.out).trans K4.out).comp (((Kept.of_below (below1 w4 _)).trans K6.out).comp hK67 (fun i hi e => by omega)) (fun i hi h => by
        rcases h with h | h
        · exact .inl h
        · rcases AT4.out i h with q | q
          · exact .inr q
          · omega)))
      have HGA : Hid (∀ g, (Value.slice A6 ns2.length c6).ownBlock = some g → (Value.slice A ns.length c).ownBlock = some g ∨ w.heap.size ≤ g) := Lib.hid (fun g hg => by
        rcases AT6.out g hg with q | q
        · exact (AT4.out g q).imp id (fun h => by omega)
        · right; simp at q; omega)
      have N7 := Lib.hid (own_nlies rfl S7.out.own)
      rw [← hw7]
      have hsw4 : w.heap.size ≤ w4.heap.size := by omega
      clear hw7 hK67 NB K6 AT6 S6 q0 q1 q2 y0 y1 y2 hsb0 hsb1 K4 AT4 S4 S5 L24 L25 hnl hsl6
      obtain ⟨N, hN⟩ : ∃ N : Nd, N = ⟨v, l, h⟩ := ⟨_, rfl⟩
      have hsw7 : w4.heap.size < w7.heap.size := by omega
      go_loopw [48] (fun i wr => ∃ k : Nat, k ≤ z ∧ i = .int .i64 k ∧ (∀ (j : Nat) (x : Nd), j < k → ns2[j]? = some x → x ≠ N) ∧ Below w7.heap.size w7 wr) (fun i _ => z - (intOf i).toNat)
      case atStart => exact ⟨0, Nat.zero_le _, rfl, fun j x hj => absurd hj (Nat.not_lt_zero _), Below.refl _ _⟩
      case round =>
        obtain ⟨k, hk, rfl, hno, hb⟩ := hrel
        have NO := Lib.hid hno
        have BB := Lib.hid hb
        have hnb := NB7.out.below hb
        obtain ⟨q0, q1, q2, _, _, _, hnl⟩ := blk_cells hnb
        have SX := Lib.hid (S7.out.below hb)
        clear hno hb hnb
        by_cases hlt : k < z
        · obtain ⟨x, hx⟩ : ∃ x, ns2[k]? = some x := ⟨_, List.getElem?_eq_getElem (by rw [HZ.out]; exact hlt)⟩
          obtain ⟨b, off, hA6, hbl, ha⟩ := (N7.out.below BB.out) k x hx
          obtain ⟨e0, e1, e2⟩ := ha
          subst hA6
          have hq := eql_nd x N
          rw [hN] at hq
          simp only at hq
          cases hxy : decide (x = N)
          · rw [← hN, hxy] at hq
            have NO2 : Hid (∀ (j : Nat) (y : Nd), j < k + 1 → ns2[j]? = some y → y ≠ N) := Lib.hid (fun j y hj hy => by
              by_cases e : j < k
              · exact NO.out j y e hy
              · obtain rfl : j = k := by omega
                rw [hx] at hy
                injection hy with hy
                rw [← hy]
                exact of_decide_eq_false hxy)
            clear hx
            go_wp2
            go_roundw
            case rel => exact ⟨k + 1, by omega, by go_num, NO2.out, Below.tr BB.out (below1 _ _)⟩
            case measure => simp [intOf]; omega
          · rw [← hN, hxy] at hq
            have hres : Hid (r = k + 2 ∧ ns' = ns2) := Lib.hid (by
              have e : x = N := of_decide_eq_true hxy
              have h1 := HE.out
              rw [e, hN] at hx
              unfold numN at h1
              rw [if_pos (List.mem_of_getElem? hx), idxOf_nodup N2.out hx] at h1
              exact Prod.mk.inj h1)
            clear hx
            go_wp2
            go_ret
            exact ⟨ret_int (by rw [hres.out.1]; push_cast; rfl), by rw [hres.out.2]; exact ⟨_, c6, SX.out.below (below1 _ _), (HGK.out.trans (Kept.of_below BB.out)).trans (Kept.of_below (below1 _ _)), HGA.out⟩⟩
        · obtain rfl : k = z := by omega
          have hres : Hid (r = k + 2 ∧ ns' = ns2 ++ [⟨v, l, h⟩]) := Lib.hid (by
            have h1 := HE.out
            unfold numN at h1
            rw [if_neg (fun hm => by
              obtain ⟨j, hj⟩ := List.getElem?_of_mem hm
              exact NO.out j _ (by have := (List.getElem?_eq_some_iff.1 hj).1; rw [HZ.out] at this; exact this) hj hN.symm), HZ.out] at h1
            exact Prod.mk.inj h1)
          go_wp2_with fail
          -- REGION17
          obtain ⟨iN, hiN, hn0, hn1, hn2⟩ := info_parts info_node
          refine wp_region_any (by kernel_rfl) ?_
          change wpAny _ _ _ _ _ _ _ (World.drew _)
          obtain ⟨wd, hwd⟩ : ∃ wd, wd = wr.drew := ⟨_, rfl⟩
          have BD : Hid (Below w7.heap.size w7 wd) := Lib.hid (by rw [hwd]; exact BB.out.drew)
          have SD : Hid (SB wd base s vars ns2 A6 c6) := Lib.hid (S7.out.below BD.out)
          obtain ⟨z0, z1, z2, _, _, _, hznl⟩ := blk_cells (NB7.out.below BD.out)
          have c1d : wd.cell? ⟨s, 1, none⟩ = some (.slice A6 k c6) := by have h := SD.out.blk.cell 1; rw [HZ.out] at h; exact h
          have hsd := SD.out.blk.lt
          have HBD : Hid (base ≤ wd.heap.size) := Lib.hid (by have := BD.out.size; have := HB3.out; omega)
          have hwd7 := BD.out.size
          rw [← hwd]
          clear hwd q0 q1 q2
          refine wpAny_take (i := 0) (v := ?_) rfl (by kernel_rfl) (by kernel_rfl) (by kernel_rfl) (fun _ _ _ h => h) (Or.inl ⟨by rfl, ?_⟩) ?_
          rotate_left
          · intro w
            go_simp
            try with_reducible rfl
          refine wpAny_take (i := 1) (v := ?_) rfl (by kernel_rfl) (by kernel_rfl) (by kernel_rfl) (fun _ _ _ h => h) (Or.inl ⟨by rfl, ?_⟩) ?_
          rotate_left
          · intro w
            go_simp
            try with_reducible rfl
          refine wpAny_take (i := 2) (v := ?_) rfl (by kernel_rfl) (by kernel_rfl) (by kernel_rfl) (fun _ _ _ h => h) (Or.inl ⟨by rfl, ?_⟩) ?_
          rotate_left
          · intro w
            go_simp
            try with_reducible rfl
          refine wpAny_take (i := 3) (v := ?_) rfl (by kernel_rfl) (by kernel_rfl) (by kernel_rfl) (fun _ _ _ h => h) (Or.inl ⟨by rfl, ?_⟩) ?_
          rotate_left
          · intro w
            go_simp
            try with_reducible rfl
          refine wpAny_ready (rs := [4, 5]) (by kernel_rfl) (by simp) ?_
          refine AllReady.cons rfl (fun K hK => ?_) (AllReady.cons rfl (fun K hK => ?_) AllReady.nil)
          · go_simp
            refine hK _ _ ?_
            clear hK K
            try simp only [Act.put, List.setIfInBounds_toArray, List.set_cons_zero, List.set_cons_succ]
            refine wpAny_ready (rs := [5]) (by kernel_rfl) (by simp) ?_
            refine AllReady.cons rfl (fun K hK => ?_) AllReady.nil
            go_simp
            refine hK _ _ ?_
            clear hK K
            try simp only [Act.put, List.setIfInBounds_toArray, List.set_cons_zero, List.set_cons_succ]
            refine wpAny_ready (rs := [6]) (by kernel_rfl) (by simp) ?_
            refine AllReady.cons rfl (fun K hK => ?_) AllReady.nil
            go_simp
            obtain ⟨W1, hW1⟩ : ∃ W, W = wd.alloc (.cells #[.int .i64 v, .int .i64 l, .int .i64 h] 43) := ⟨_, rfl⟩
            have hbW : Below wd.heap.size wd W1 := by rw [hW1]; exact below1 _ _
            have hnw : ∀ j u, [Value.int .i64 v, .int .i64 l, .int .i64 h][j]? = some u → W1.cell? ((⟨wd.heap.size, 0, none⟩ : Addr).add j) = some u := by rw [hW1]; exact three_new wd _ _ _ _
            have hszW : W1.heap.size = wd.heap.size + 1 := by rw [hW1]; simp
            rw [← hW1]
            clear hW1
            have c1W : W1.cell? ⟨s, 1, none⟩ = some (.slice A6 k c6) := ((bcell hbW).1 _ _ hsd).trans c1d
            have SW := SD.out.below hbW
            refine hK _ _ ?_
            clear hK K
            try simp only [Act.put, List.setIfInBounds_toArray, List.set_cons_zero, List.set_cons_succ]
            refine wpAny_ready (rs := [7]) (by kernel_rfl) (by simp) ?_
            refine AllReady.cons rfl (fun K hK => ?_) AllReady.nil
            refine step_append_lies _ rfl _ _ 26 rfl base 43 iN (.agg #[.int .i64 0, .int .i64 0, .int .i64 0]) 3 24 Try.underlying26 hiN hn0 hn1 hn2 rfl (by omega) _ k _ rfl (by have h := SW.own; rw [HZ.out] at h; exact h) ⟨wd.heap.size, 0, none⟩ 1 1 [.int .i64 v, .int .i64 l, .int .i64 h] rfl rfl hnw (by intro u hu; simp at hu; rcases hu with rfl | rfl | rfl <;> rfl) (by omega) (by unfold maxLen; omega) (by omega) (by have := HBD.out; omega) _ rfl ?_
            intro g4 cap4 w8 hown4 hg4 hat4 hlt4
            have hkw : Kept W1 w8 (fun i => (Value.slice A6 k c6).ownBlock = some i) := Kept.of_grown hg4 (fun g e => e)
            have hoff : ¬ (Value.slice A6 k c6).ownBlock = some s := fun e => SD.out.off s (by rw [HZ.out]; exact e) rfl
            have hb8 : Blk w8 s 157 [.int .i64 vars, .slice A6 k c6] := by have h := SW.blk; rw [HZ.out] at h; exact hkw.blk h hoff
            have d1 : w8.cell? ⟨s, 1, none⟩ = some (.slice A6 k c6) := hb8.cell 1
            have fd := hb8.frozen 1
            have hs8 := hb8.lt
            refine hK _ _ ?_
            clear hK K
            try simp only [Act.put, List.setIfInBounds_toArray]
            refine wpAny_ready (rs := [8]) (by kernel_rfl) (by simp) ?_
            refine AllReady.cons rfl (fun K hK => ?_) AllReady.nil
            go_simp
            refine hK _ _ ?_
            clear hK K
            try simp only [Act.put, List.setIfInBounds_toArray, List.set_cons_zero, List.set_cons_succ]
            refine wpAny_ready (rs := [9]) (by kernel_rfl) (by simp) ?_
            refine AllReady.cons rfl (fun K hK => ?_) AllReady.nil
            go_simp
            refine hK _ _ ?_
            clear hK K
            try simp only [Act.put, List.setIfInBounds_toArray, List.set_cons_zero, List.set_cons_succ]
            refine wpAny_ready (rs := [10]) (by kernel_rfl) (by simp) ?_
            refine AllReady.cons rfl (fun K hK => ?_) AllReady.nil
            go_simp
            refine hK _ _ ?_
            clear hK K
            try simp only [Act.put, List.setIfInBounds_toArray, List.set_cons_zero, List.set_cons_succ]
            refine wpAny_done (by kernel_rfl) ?_ _
            have hb9 : Blk (w8.setCell ⟨s, 1, none⟩ (.slice (some ⟨g4, 0, none⟩) (k + 1) cap4)) s 157 [.int .i64 vars, .slice (some ⟨g4, 0, none⟩) (k + 1) cap4] := hb8.set 1 _
            have hlen9 : (ns2 ++ [(⟨v, l, h⟩ : Nd)]).length = k + 1 := by simp [HZ.out]
            have hgs : g4 ≠ s := by
              rcases hat4 with q | q
              · exact fun e => hoff (by rw [← e]; exact q)
              · omega
            have hkset : Kept w8 (w8.setCell ⟨s, 1, none⟩ (.slice (some ⟨g4, 0, none⟩) (k + 1) cap4)) (fun i => i = s) := Kept.set
            have SF : SB (w8.setCell ⟨s, 1, none⟩ (.slice (some ⟨g4, 0, none⟩) (k + 1) cap4)) base s vars (ns2 ++ [⟨v, l, h⟩]) (some ⟨g4, 0, none⟩) cap4 := by
              refine ⟨by rw [hlen9]; exact hb9, ?_, fun g e => by simp [Value.ownBlock] at e; omega⟩
              rw [hlen9, ncells_app]
              exact hkset.own3 hown4 (fun g e => by simp [Value.ownBlock] at e; omega)
            have HF : Hid (SBG w base s vars ns A c ns' (w8.setCell ⟨s, 1, none⟩ (.slice (some ⟨g4, 0, none⟩) (k + 1) cap4))) := Lib.hid (by
              rw [hres.out.2]
              refine ⟨_, _, SF, ?_, fun g e => ?_⟩
              · refine ((HGK.out.trans (Kept.of_below BD.out)).trans (Kept.of_below hbW)).comp (T := fun i => i = s ∨ (Value.slice A6 k c6).ownBlock = some i) ((hkw.mono (fun i h => .inr h)).trans (hkset.mono (fun i h => .inl h))) (fun i hi h => ?_)
                rcases h with h | h
                · exact .inl h
                · rcases HGA.out i (by rw [HZ.out]; exact h) with q | q
                  · exact .inr q
                  · omega
              · have e' : g4 = g := by simpa [Value.ownBlock] using e
                subst e'
                rcases hat4 with q | q
                · exact HGA.out g4 (by rw [HZ.out]; exact q)
                · right; omega)
            have u1 : (w8.setCell ⟨s, 1, none⟩ (.slice (some ⟨g4, 0, none⟩) (k + 1) cap4)).cell? ⟨s, 1, none⟩ = some (.slice (some ⟨g4, 0, none⟩) (k + 1) cap4) := hb9.cell 1
            obtain ⟨w9, hw9⟩ : ∃ W, W = w8.setCell ⟨s, 1, none⟩ (.slice (some ⟨g4, 0, none⟩) (k + 1) cap4) := ⟨_, rfl⟩
            rw [← hw9] at HF u1 ⊢
            clear hw9 hkset SF hb9 hown4 hg4 hat4 hkw hb8 d1
            go_wp2
            go_ret
            exact ⟨ret_int (by rw [hres.out.1]; push_cast; omega), HF.out⟩
          · go_simp
            refine hK _ _ ?_
            clear hK K
            try simp only [Act.put, List.setIfInBounds_toArray, List.set_cons_zero, List.set_cons_succ]
            refine wpAny_ready (rs := [4, 6]) (by kernel_rfl) (by simp) ?_
            refine AllReady.cons rfl (fun K hK => ?_) (AllReady.cons rfl (fun K hK => ?_) AllReady.nil)
            · go_simp
              refine hK _ _ ?_
              clear hK K
              try simp only [Act.put, List.setIfInBounds_toArray, List.set_cons_zero, List.set_cons_succ]
              refine wpAny_ready (rs := [6]) (by kernel_rfl) (by simp) ?_
              refine AllReady.cons rfl (fun K hK => ?_) AllReady.nil
              go_simp
              obtain ⟨W1, hW1⟩ : ∃ W, W = wd.alloc (.cells #[.int .i64 v, .int .i64 l, .int .i64 h] 43) := ⟨_, rfl⟩
              have hbW : Below wd.heap.size wd W1 := by rw [hW1]; exact below1 _ _
              have hnw : ∀ j u, [Value.int .i64 v, .int .i64 l, .int .i64 h][j]? = some u → W1.cell? ((⟨wd.heap.size, 0, none⟩ : Addr).add j) = some u := by rw [hW1]; exact three_new wd _ _ _ _
              have hszW : W1.heap.size = wd.heap.size + 1 := by rw [hW1]; simp
              rw [← hW1]
              clear hW1
              have c1W : W1.cell? ⟨s, 1, none⟩ = some (.slice A6 k c6) := ((bcell hbW).1 _ _ hsd).trans c1d
              have SW := SD.out.below hbW
              refine hK _ _ ?_
              clear hK K
              try simp only [Act.put, List.setIfInBounds_toArray, List.set_cons_zero, List.set_cons_succ]
              refine wpAny_ready (rs := [7]) (by kernel_rfl) (by simp) ?_
              refine AllReady.cons rfl (fun K hK => ?_) AllReady.nil
              refine step_append_lies _ rfl _ _ 26 rfl base 43 iN (.agg #[.int .i64 0, .int .i64 0, .int .i64 0]) 3 24 Try.underlying26 hiN hn0 hn1 hn2 rfl (by omega) _ k _ rfl (by have h := SW.own; rw [HZ.out] at h; exact h) ⟨wd.heap.size, 0, none⟩ 1 1 [.int .i64 v, .int .i64 l, .int .i64 h] rfl rfl hnw (by intro u hu; simp at hu; rcases hu with rfl | rfl | rfl <;> rfl) (by omega) (by unfold maxLen; omega) (by omega) (by have := HBD.out; omega) _ rfl ?_
              intro g4 cap4 w8 hown4 hg4 hat4 hlt4
              have hkw : Kept W1 w8 (fun i => (Value.slice A6 k c6).ownBlock = some i) := Kept.of_grown hg4 (fun g e => e)
              have hoff : ¬ (Value.slice A6 k c6).ownBlock = some s := fun e => SD.out.off s (by rw [HZ.out]; exact e) rfl
              have hb8 : Blk w8 s 157 [.int .i64 vars, .slice A6 k c6] := by have h := SW.blk; rw [HZ.out] at h; exact hkw.blk h hoff
              have d1 : w8.cell? ⟨s, 1, none⟩ = some (.slice A6 k c6) := hb8.cell 1
              have fd := hb8.frozen 1
              have hs8 := hb8.lt
              refine hK _ _ ?_
              clear hK K
              try simp only [Act.put, List.setIfInBounds_toArray]
              refine wpAny_ready (rs := [8]) (by kernel_rfl) (by simp) ?_
              refine AllReady.cons rfl (fun K hK => ?_) AllReady.nil
              go_simp
              refine hK _ _ ?_
              clear hK K
              try simp only [Act.put, List.setIfInBounds_toArray, List.set_cons_zero, List.set_cons_succ]
              refine wpAny_ready (rs := [9]) (by kernel_rfl) (by simp) ?_
              refine AllReady.cons rfl (fun K hK => ?_) AllReady.nil
              go_simp
              refine hK _ _ ?_
              clear hK K
              try simp only [Act.put, List.setIfInBounds_toArray, List.set_cons_zero, List.set_cons_succ]
              refine wpAny_ready (rs := [10]) (by kernel_rfl) (by simp) ?_
              refine AllReady.cons rfl (fun K hK => ?_) AllReady.nil
              go_simp
              refine hK _ _ ?_
              clear hK K
              try simp only [Act.put, List.setIfInBounds_toArray, List.set_cons_zero, List.set_cons_succ]
              refine wpAny_done (by kernel_rfl) ?_ _
              have hb9 : Blk (w8.setCell ⟨s, 1, none⟩ (.slice (some ⟨g4, 0, none⟩) (k + 1) cap4)) s 157 [.int .i64 vars, .slice (some ⟨g4, 0, none⟩) (k + 1) cap4] := hb8.set 1 _
              have hlen9 : (ns2 ++ [(⟨v, l, h⟩ : Nd)]).length = k + 1 := by simp [HZ.out]
              have hgs : g4 ≠ s := by
                rcases hat4 with q | q
                · exact fun e => hoff (by rw [← e]; exact q)
                · omega
              have hkset : Kept w8 (w8.setCell ⟨s, 1, none⟩ (.slice (some ⟨g4, 0, none⟩) (k + 1) cap4)) (fun i => i = s) := Kept.set
              have SF : SB (w8.setCell ⟨s, 1, none⟩ (.slice (some ⟨g4, 0, none⟩) (k + 1) cap4)) base s vars (ns2 ++ [⟨v, l, h⟩]) (some ⟨g4, 0, none⟩) cap4 := by
                refine ⟨by rw [hlen9]; exact hb9, ?_, fun g e => by simp [Value.ownBlock] at e; omega⟩
                rw [hlen9, ncells_app]
                exact hkset.own3 hown4 (fun g e => by simp [Value.ownBlock] at e; omega)
              have HF : Hid (SBG w base s vars ns A c ns' (w8.setCell ⟨s, 1, none⟩ (.slice (some ⟨g4, 0, none⟩) (k + 1) cap4))) := Lib.hid (by
                rw [hres.out.2]
                refine ⟨_, _, SF, ?_, fun g e => ?_⟩
                · refine ((HGK.out.trans (Kept.of_below BD.out)).trans (Kept.of_below hbW)).comp (T := fun i => i = s ∨ (Value.slice A6 k c6).ownBlock = some i) ((hkw.mono (fun i h => .inr h)).trans (hkset.mono (fun i h => .inl h))) (fun i hi h => ?_)
                  rcases h with h | h
                  · exact .inl h
                  · rcases HGA.out i (by rw [HZ.out]; exact h) with q | q
                    · exact .inr q
                    · omega
                · have e' : g4 = g := by simpa [Value.ownBlock] using e
                  subst e'
                  rcases hat4 with q | q
                  · exact HGA.out g4 (by rw [HZ.out]; exact q)
                  · right; omega)
              have u1 : (w8.setCell ⟨s, 1, none⟩ (.slice (some ⟨g4, 0, none⟩) (k + 1) cap4)).cell? ⟨s, 1, none⟩ = some (.slice (some ⟨g4, 0, none⟩) (k + 1) cap4) := hb9.cell 1
              obtain ⟨w9, hw9⟩ : ∃ W, W = w8.setCell ⟨s, 1, none⟩ (.slice (some ⟨g4, 0, none⟩) (k + 1) cap4) := ⟨_, rfl⟩
              rw [← hw9] at HF u1 ⊢
              clear hw9 hkset SF hb9 hown4 hg4 hat4 hkw hb8 d1
              go_wp2
              go_ret
              exact ⟨ret_int (by rw [hres.out.1]; push_cast; omega), HF.out⟩
            · go_simp
              obtain ⟨W1, hW1⟩ : ∃ W, W = wd.alloc (.cells #[.int .i64 v, .int .i64 l, .int .i64 h] 43) := ⟨_, rfl⟩
              have hbW : Below wd.heap.size wd W1 := by rw [hW1]; exact below1 _ _
              have hnw : ∀ j u, [Value.int .i64 v, .int .i64 l, .int .i64 h][j]? = some u → W1.cell? ((⟨wd.heap.size, 0, none⟩ : Addr).add j) = some u := by rw [hW1]; exact three_new wd _ _ _ _
              have hszW : W1.heap.size = wd.heap.size + 1 := by rw [hW1]; simp
              rw [← hW1]
              clear hW1
              have c1W : W1.cell? ⟨s, 1, none⟩ = some (.slice A6 k c6) := ((bcell hbW).1 _ _ hsd).trans c1d
              have SW := SD.out.below hbW
              refine hK _ _ ?_
              clear hK K
              try simp only [Act.put, List.setIfInBounds_toArray, List.set_cons_zero, List.set_cons_succ]
              refine wpAny_ready (rs := [4]) (by kernel_rfl) (by simp) ?_
              refine AllReady.cons rfl (fun K hK => ?_) AllReady.nil
              go_simp
              refine hK _ _ ?_
              clear hK K
              try simp only [Act.put, List.setIfInBounds_toArray, List.set_cons_zero, List.set_cons_succ]
              refine wpAny_ready (rs := [7]) (by kernel_rfl) (by simp) ?_
              refine AllReady.cons rfl (fun K hK => ?_) AllReady.nil
              refine step_append_lies _ rfl _ _ 26 rfl base 43 iN (.agg #[.int .i64 0, .int .i64 0, .int .i64 0]) 3 24 Try.underlying26 hiN hn0 hn1 hn2 rfl (by omega) _ k _ rfl (by have h := SW.own; rw [HZ.out] at h; exact h) ⟨wd.heap.size, 0, none⟩ 1 1 [.int .i64 v, .int .i64 l, .int .i64 h] rfl rfl hnw (by intro u hu; simp at hu; rcases hu with rfl | rfl | rfl <;> rfl) (by omega) (by unfold maxLen; omega) (by omega) (by have := HBD.out; omega) _ rfl ?_
              intro g4 cap4 w8 hown4 hg4 hat4 hlt4
              have hkw : Kept W1 w8 (fun i => (Value.slice A6 k c6).ownBlock = some i) := Kept.of_grown hg4 (fun g e => e)
              have hoff : ¬ (Value.slice A6 k c6).ownBlock = some s := fun e => SD.out.off s (by rw [HZ.out]; exact e) rfl
              have hb8 : Blk w8 s 157 [.int .i64 vars, .slice A6 k c6] := by have h := SW.blk; rw [HZ.out] at h; exact hkw.blk h hoff
              have d1 : w8.cell? ⟨s, 1, none⟩ = some (.slice A6 k c6) := hb8.cell 1
              have fd := hb8.frozen 1
              have hs8 := hb8.lt
              refine hK _ _ ?_
              clear hK K
              try simp only [Act.put, List.setIfInBounds_toArray]
              refine wpAny_ready (rs := [8]) (by kernel_rfl) (by simp) ?_
              refine AllReady.cons rfl (fun K hK => ?_) AllReady.nil
              go_simp
              refine hK _ _ ?_
              clear hK K
              try simp only [Act.put, List.setIfInBounds_toArray, List.set_cons_zero, List.set_cons_succ]
              refine wpAny_ready (rs := [9]) (by kernel_rfl) (by simp) ?_
              refine AllReady.cons rfl (fun K hK => ?_) AllReady.nil
              go_simp
              refine hK _ _ ?_
              clear hK K
              try simp only [Act.put, List.setIfInBounds_toArray, List.set_cons_zero, List.set_cons_succ]
              refine wpAny_ready (rs := [10]) (by kernel_rfl) (by simp) ?_
              refine AllReady.cons rfl (fun K hK => ?_) AllReady.nil
              go_simp
              refine hK _ _ ?_
              clear hK K
              try simp only [Act.put, List.setIfInBounds_toArray, List.set_cons_zero, List.set_cons_succ]
              refine wpAny_done (by kernel_rfl) ?_ _
              have hb9 : Blk (w8.setCell ⟨s, 1, none⟩ (.slice (some ⟨g4, 0, none⟩) (k + 1) cap4)) s 157 [.int .i64 vars, .slice (some ⟨g4, 0, none⟩) (k + 1) cap4] := hb8.set 1 _
              have hlen9 : (ns2 ++ [(⟨v, l, h⟩ : Nd)]).length = k + 1 := by simp [HZ.out]
              have hgs : g4 ≠ s := by
                rcases hat4 with q | q
                · exact fun e => hoff (by rw [← e]; exact q)
                · omega
              have hkset : Kept w8 (w8.setCell ⟨s, 1, none⟩ (.slice (some ⟨g4, 0, none⟩) (k + 1) cap4)) (fun i => i = s) := Kept.set
              have SF : SB (w8.setCell ⟨s, 1, none⟩ (.slice (some ⟨g4, 0, none⟩) (k + 1) cap4)) base s vars (ns2 ++ [⟨v, l, h⟩]) (some ⟨g4, 0, none⟩) cap4 := by
                refine ⟨by rw [hlen9]; exact hb9, ?_, fun g e => by simp [Value.ownBlock] at e; omega⟩
                rw [hlen9, ncells_app]
                exact hkset.own3 hown4 (fun g e => by simp [Value.ownBlock] at e; omega)
              have HF : Hid (SBG w base s vars ns A c ns' (w8.setCell ⟨s, 1, none⟩ (.slice (some ⟨g4, 0, none⟩) (k + 1) cap4))) := Lib.hid (by
                rw [hres.out.2]
                refine ⟨_, _, SF, ?_, fun g e => ?_⟩
                · refine ((HGK.out.trans (Kept.of_below BD.out)).trans (Kept.of_below hbW)).comp (T := fun i => i = s ∨ (Value.slice A6 k c6).ownBlock = some i) ((hkw.mono (fun i h => .inr h)).trans (hkset.mono (fun i h => .inl h))) (fun i hi h => ?_)
                  rcases h with h | h
                  · exact .inl h
                  · rcases HGA.out i (by rw [HZ.out]; exact h) with q | q
                    · exact .inr q
                    · omega
                · have e' : g4 = g := by simpa [Value.ownBlock] using e
                  subst e'
                  rcases hat4 with q | q
                  · exact HGA.out g4 (by rw [HZ.out]; exact q)
                  · right; omega)
              have u1 : (w8.setCell ⟨s, 1, none⟩ (.slice (some ⟨g4, 0, none⟩) (k + 1) cap4)).cell? ⟨s, 1, none⟩ = some (.slice (some ⟨g4, 0, none⟩) (k + 1) cap4) := hb9.cell 1
              obtain ⟨w9, hw9⟩ : ∃ W, W = w8.setCell ⟨s, 1, none⟩ (.slice (some ⟨g4, 0, none⟩) (k + 1) cap4) := ⟨_, rfl⟩
              rw [← hw9] at HF u1 ⊢
              clear hw9 hkset SF hb9 hown4 hg4 hat4 hkw hb8 d1
              go_wp2
              go_ret
              exact ⟨ret_int (by rw [hres.out.1]; push_cast; omega), HF.out⟩
    · have hsame := bld_same d v (tabF T) ns HN.out (HQ.out.1 hq)
      rw [hev, HR.out] at hsame
      have HSM := Lib.hid hsame
      clear hsame
      go_wp2_with fail
      refine (buildS_any base s vars d (v + 1) A1 n c1 U ns A c w3 UL HNN (by omega) (by omega) S3 HB3 L13 O1 HN (Lib.hid (by have := HNN.out; omega))).mono ?_
      rw [← HSM.out]
      rintro e w4 ⟨rfl, A', c', hsb, hkp, hat⟩
      have HG : Hid (SBG w base s vars ns A c ns' w4) := Lib.hid ⟨A', c', hsb, (Kept.of_below B3.out).trans hkp, fun g h => (hat g h).imp id (fun h => by omega)⟩
      clear hsb hkp hat
      go_wp2
      go_ret
      exact ⟨rfl, HG.out⟩
end Go.Proofs.Ytklcfbjaodildaa
