/-
  TrimProof, the program's and the model's.
-/
import Derived.Test.YtkkoeeoalkjhoaaNeedS
import Derived.Test.YtkkoeeoalkjhoaaPf
namespace Go.Proofs.Ytkkoeeoalkjhoaa
open Go.ChangeShapes Go.WideShapes Go.ChangeAt Go.RowKit

set_option maxRecDepth 100000 in
set_option maxHeartbeats 2000000 in
theorem clone1_any (A : Option Addr) (n cap : Nat) (l : List Int) (w : World) (hl : Hid (ILies w A l)) (HX : Hid (l.length = n)) (HN : Hid (A = none → n = 0 ∧ cap = 0)) (hn : n ≤ 1048576) :
    Calls Try.prog 58 #[.slice A n cap] w fun e w' => ∃ A2 c2, e = .returned (.slice A2 n c2) ∧ w'.ownsRow w.heap.size 3 1 (.slice A2 n c2) n (l.map (Value.int .i64)) ∧ Below w.heap.size w w' := by
  cases hA : A with
  | none =>
    obtain ⟨h0, h1⟩ := HN.out hA
    subst h0 h1 hA
    have HL : Hid (l = []) := Lib.hid (List.eq_nil_of_length_eq_zero HX.out)
    have hq : ∀ W : World, (binOp .eql 40 (.slice none 0 0) (.slice none 0 0)).run Try.prog W = .ok (.bool true) W := fun W => Lib.run_eql_slice_nil W 40 3 none 0 0 0 0 Try.underlying40
    go_enter Try.func58, Try.ntmps58
    go_wp2
    go_ret
    exact ⟨none, 0, rfl, by rw [HL.out]; exact World.ownsRow_nil _ _ _ _, Below.refl _ _⟩
  | some ad =>
    subst hA
    have hq : ∀ W : World, (binOp .eql 40 (.slice (some ad) n cap) (.slice none 0 0)).run Try.prog W = .ok (.bool false) W := fun W => Lib.run_eql_slice_nil W 40 3 (some ad) n cap 0 0 Try.underlying40
    go_enter Try.func58, Try.ntmps58
    go_wp2_with (at_builtin; (refine append_ints (w1 := w.alloc (.cells #[] 3)) (base := w.heap.size) (xs := []) (l := l) _ _ rfl rfl rfl rfl (World.ownsRow_lit w #[] 0 (Nat.le_refl _) (by unfold maxLen; omega) rfl) (hl.out.below (below1 w _)) HX.out (fun e => by cases e) (by simp) (by omega) (by omega) ?_; intro g2 c2 w2 ho2 hg2 hat2; have OW : Hid (w2.ownsRow w.heap.size 3 1 (.slice (some ⟨g2, 0, none⟩) n c2) n (l.map (Value.int .i64))) := Lib.hid (by simpa using ho2); have BW := Lib.hid ((below1 w _).grown hg2 (by simp) (fun g e => by cases e; exact Nat.le_refl _)); clear ho2 hg2 hat2))
    go_ret
    exact ⟨some ⟨g2, 0, none⟩, c2, rfl, OW.out, BW.out⟩
theorem atIdx_take {p : List (List Int)} {r : List Int} {k j : Nat} {c : List Int} (hr : r[k]? = some (j : Int)) (hp : p[j]? = some c) : (atIdx p r).take (k + 1) = (atIdx p r).take k ++ [c] := by
  have h := atIdx_at hr hp
  have h1 := (List.getElem?_eq_some_iff.1 h).1
  have h2 := (List.getElem?_eq_some_iff.1 h).2
  rw [List.take_succ_eq_append_getElem h1, h2]
set_option maxRecDepth 100000 in
set_option maxHeartbeats 8000000 in
theorem implTrim_any (v : Int) (A B : Option Addr) (n m cap c2 : Nat) (L p : List (List Int)) (w : World) (r : List (List Int)) (ok : Bool) (hr : Hid (TrimR v L p r ok)) (hl : Hid (LLies w A L)) (hl2 : Hid (LLies w B p)) (hl2N : Hid (LNil w B p)) (HX : Hid (L.length = n)) (HY : Hid (p.length = m)) (HN : Hid (A = none → n = 0 ∧ cap = 0)) (hn : n ≤ 9223372036854775807) (hm : m ≤ 9223372036854775807) :
    Calls Try.prog 25 #[.int .i64 v, .slice A n cap, .slice B m c2] w (GaveSB w r ok) := by
  obtain ⟨iS, hiS, hs0, hs1, hs2⟩ := info_parts info_ints
  obtain ⟨ix, hix, hrr⟩ := hr.out
  have hf := hix.few
  have NR := Lib.hid hix
  have RE := Lib.hid hrr
  clear hix hrr
  go_enter Try.func25, Try.ntmps25
  go_wp2_with fail
  refine (implNeed_any v _ _ _ _ _ _ L p _ ix ok NR hl hl2 HX HY HN hn hm).mono ?_
  rintro e w1 ⟨A1, d1, rfl, ho1, hb1⟩
  have O1 := Lib.hid (own_ilies ho1)
  have B1 := Lib.hid hb1
  clear ho1 hb1
  cases ok
  · have E : Hid (r = []) := Lib.hid (by rw [RE.out, NR.out.no rfl]; rfl)
    go_wp2
    go_ret2
    exact sb_no E.out rfl B1.out
  obtain ⟨q, hq⟩ : ∃ q, ix.length = q := ⟨_, rfl⟩
  rw [hq] at hf ⊢
  have HQ := Lib.hid hq
  have RL : Hid (r.length = q) := Lib.hid (by rw [RE.out, atIdx_len, hq])
  have hm3 : m ≤ 300 := by
    obtain ⟨_, _, h, _⟩ := NR.out
    have := proofB_len (h.acc rfl).2.1
    have := HY.out
    omega
  clear hq
  go_wp2_with (at_make; (refine wpList_make_full _ rfl _ _ 23 rfl w1.heap.size 40 iS _ 1 Try.underlying23 hiS hs0 hs1 _ _ _ _ q rfl rfl (by omega) (by omega) (by rw [hs2]; omega) (by unfold maxLen; omega) (Nat.le_refl _) ?_; intro w2 hown1 hg1; have HC := Lib.hid (SCopied.start (L := r) hown1); have BB := (Below.refl w1.heap.size w1).grown hg1 (Nat.le_refl _) (by simp); have HB := Lib.hid (Below.tr B1.out BB); have O2 := Lib.hid (O1.out.below BB); clear hown1 hg1 BB))
  have hxb := O1.out.blk
  obtain ⟨gt, hgt⟩ : ∃ g, w1.heap.size = g := ⟨_, rfl⟩
  rw [hgt] at hxb
  have XB := Lib.hid hxb
  clear hxb
  have hlo : w.heap.size ≤ gt := by have := B1.out.size; omega
  rw [hgt] at HC ⊢
  have hO2 : w2.heap.size ≤ w2.heap.size := Nat.le_refl _
  have hgw : gt < w2.heap.size := by obtain ⟨_, _, h, _⟩ := HC.out; exact h.lt
  clear hgt B1 O1 hO2
  go_loopw [27] (fun i wr => ∃ k : Nat, k ≤ q ∧ i = .int .i64 k ∧ SCopied gt q k r wr ∧ ILies wr A1 ix ∧ Below w.heap.size w wr) (fun i _ => q - (intOf i).toNat)
  case atStart => exact ⟨0, Nat.zero_le _, rfl, HC.out, O2.out, HB.out⟩
  case round =>
    obtain ⟨k, hk, rfl, ⟨vs, rest, hblk, hrl, hin⟩, hix, hb⟩ := hrel
    have HR := Lib.hid hrl
    have K1 := Lib.hid hblk
    have I1 := Lib.hid hin
    have B1 := Lib.hid hb
    have X1 := Lib.hid hix
    have V1 : Hid (vs.length = k) := Lib.hid (by have := hin.len; have := RL.out; rw [List.length_take] at *; omega)
    clear hblk hin hb hrl hix HC HB O2
    by_cases hlt : k < q
    · obtain ⟨x, hx⟩ : ∃ l, ix[k]? = some l := ⟨_, List.getElem?_eq_getElem (by have := HQ.out; omega)⟩
      obtain ⟨b, off, rfl, hbl, ha⟩ := X1.out k x hx
      obtain ⟨j, c, hxj, hpj, hcl⟩ := NR.out.at (List.mem_of_getElem? hx)
      subst hxj
      have hjm : j < m := by have := (List.getElem?_eq_some_iff.1 hpj).1; have := HY.out; omega
      obtain ⟨b3, off3, a3, cp3, rfl, hbl3, ha3, hca3, hma3, hil3⟩ := (hl2.out.below B1.out) j c hpj
      have HNI := Lib.hid ((hl2N.out.below hl2.out B1.out) j c hpj b3 off3 a3 c.length cp3 rfl ha3)
      have HK : Hid (r.take (k + 1) = r.take k ++ [c]) := Lib.hid (by rw [RE.out]; exact atIdx_take hx hpj)
      have IL := Lib.hid hil3
      clear hx hpj hil3
      obtain ⟨z, hz⟩ : ∃ m, c.length = m := ⟨_, rfl⟩
      rw [hz] at ha3 hcl hca3 hma3 HNI
      have HM := Lib.hid hz
      clear hz
      have f0 := K1.out.frozen k
      obtain ⟨v0, t0⟩ : ∃ v0, wr.cell? ⟨gt, k, none⟩ = some v0 := ⟨_, K1.out.there (List.getElem?_eq_getElem (by have := V1.out; have := HR.out; rw [List.length_append]; omega))⟩
      have hbk : gt < wr.heap.size := K1.out.lt
      go_wp2_with fail
      refine (clone1_any _ _ _ c _ IL HM HNI (by omega)).mono ?_
      rintro e w3 ⟨A4, c4, rfl, hb2, hbw2⟩
      have t1 : w3.cell? ⟨gt, k, none⟩ = some v0 := ((bcell hbw2).1 _ _ hbk).trans t0
      have f1 : w3.frozen? ⟨gt, k, none⟩ = false := ((bcell hbw2).2 _ _ hbk).trans f0
      have K2 := Lib.hid (K1.out.below hbw2)
      have N2 : Hid (Inner w3 (gt + 1) (vs ++ [.slice A4 z c4]) (r.take (k + 1))) := Lib.hid (by
        rw [HK.out, ← HM.out]
        refine (I1.out.below hbw2).snoc (b := wr.heap.size) ?_ (fun g hg => (I1.out.lt g hg).2) (fun g hg => (hb2.lt g (by rw [← HM.out]; exact hg)).1)
        rw [HM.out]
        exact own_base hb2 (by omega))
      have B2 := Lib.hid (Below.tr B1.out hbw2)
      have X2 := Lib.hid (X1.out.below hbw2)
      clear t0 f0 hb2 hbw2 K1 I1 B1 X1 ha
      go_wp2
      go_roundw
      case rel =>
        refine ⟨k + 1, by omega, by go_num, ⟨vs ++ [.slice A4 z c4], rest.drop 1, ?_, by have := HR.out; simp; omega, ?_⟩, X2.out.kept (Kept.set (g := gt) (j := k) (u := .slice A4 z c4)) (fun ad e pz q => by have := XB.out ad e pz; omega), B2.out.setCell hlo _⟩
        · have := K2.out.set k (.slice A4 z c4)
          have e : (vs ++ rest).set k (.slice A4 z c4) = (vs ++ [Value.slice A4 z c4]) ++ rest.drop 1 := by
            have := V1.out
            have := HR.out
            rw [List.set_append_right _ _ (by omega), show k - vs.length = 0 by omega, List.append_assoc, List.singleton_append]
            cases rest with
            | nil => simp at this; omega
            | cons y t => simp
          rw [e] at this
          exact this
        · exact N2.out.kept (Kept.set (g := gt) (j := k) (u := .slice A4 z c4)) (fun g hg q => by have := (N2.out.lt g hg).1; omega)
      case measure => simp [intOf]; omega
    · obtain rfl : k = q := by omega
      go_wp2
      go_ret2
      refine ⟨some ⟨gt, 0, none⟩, k, vs, by rw [RL.out]; rfl, ⟨?_, ?_, ?_⟩, B1.out⟩
      · have := K1.out
        have hr0 : rest = [] := List.eq_nil_of_length_eq_zero (by have := HR.out; omega)
        rw [hr0, List.append_nil] at this
        rw [RL.out]
        exact own_base (own_of_vblk this V1.out (by omega)) hlo
      · have := I1.out
        rw [List.take_of_length_le (by have := RL.out; omega)] at this
        exact this.base (by omega)
      · intro g hg q
        have := (I1.out.lt g hg).1
        simp [Value.ownBlock] at q
        omega
set_option maxRecDepth 100000 in
set_option maxHeartbeats 8000000 in
theorem specTrim_any (v : Int) (A B : Option Addr) (n m cap c2 : Nat) (L p : List (List Int)) (w : World) (r : List (List Int)) (ok : Bool) (hr : Hid (TrimR v L p r ok)) (hl : Hid (LLies w A L)) (hlN : Hid (LNil w A L)) (hl2 : Hid (LLies w B p)) (hl2N : Hid (LNil w B p)) (HX : Hid (L.length = n)) (HY : Hid (p.length = m)) (hn : n ≤ 9223372036854775807) (hm : m ≤ 9223372036854775807) :
    Calls Try.prog 26 #[.int .i64 v, .slice A n cap, .slice B m c2] w (GaveSB w r ok) := by
  obtain ⟨iS, hiS, hs0, hs1, hs2⟩ := info_parts info_ints
  obtain ⟨ix, hix, hrr⟩ := hr.out
  have hf := hix.few
  have NR := Lib.hid hix
  have RE := Lib.hid hrr
  clear hix hrr
  go_enter Try.func26, Try.ntmps26
  go_wp2_with fail
  refine (specNeed_any v _ _ _ _ _ _ L p _ ix ok NR hl hlN hl2 HX HY hn hm).mono ?_
  rintro e w1 ⟨A1, d1, rfl, ho1, hb1⟩
  have O1 := Lib.hid (own_ilies ho1)
  have B1 := Lib.hid hb1
  clear ho1 hb1
  cases ok
  · have E : Hid (r = []) := Lib.hid (by rw [RE.out, NR.out.no rfl]; rfl)
    go_wp2
    go_ret2
    exact sb_no E.out rfl B1.out
  obtain ⟨q, hq⟩ : ∃ q, ix.length = q := ⟨_, rfl⟩
  rw [hq] at hf ⊢
  have HQ := Lib.hid hq
  have RL : Hid (r.length = q) := Lib.hid (by rw [RE.out, atIdx_len, hq])
  have hm3 : m ≤ 300 := by
    obtain ⟨_, _, h, _⟩ := NR.out
    have := proofB_len (h.acc rfl).2.1
    have := HY.out
    omega
  have P1 := Lib.hid (hl2.out.below B1.out)
  have PN := Lib.hid (hl2N.out.below hl2.out B1.out)
  clear hq
  go_wp2_with fail
  go_loopw [10, 24] (fun u i wr => ∃ (k : Nat), k ≤ q ∧ i = .int .i64 k ∧ (∃ A2 c2 vs, u = .slice A2 k c2 ∧ OwnSS wr w1.heap.size (.slice A2 k c2) vs (r.take k)) ∧ Below w1.heap.size w1 wr) (fun _ i _ => q - (intOf i).toNat)
  case atStart => exact ⟨0, Nat.zero_le _, rfl, ⟨none, 0, [], rfl, OwnSS.nil _ _⟩, Below.refl _ _⟩
  case round =>
    obtain ⟨k, hk, rfl, ⟨A2, d2, vs, rfl, hown⟩, hbw⟩ := hrel
    have OW := Lib.hid hown
    have BW := Lib.hid hbw
    have LW := Lib.hid (P1.out.below hbw)
    have NW := Lib.hid (PN.out.below P1.out hbw)
    have XW := Lib.hid (O1.out.below hbw)
    have TK : Hid ((r.take k).length = k) := Lib.hid (by rw [List.length_take]; have := RL.out; omega)
    have OU : Hid (wr.ownsRow w1.heap.size 40 1 (.slice A2 k d2) k vs) := Lib.hid (by have h := OW.out.outer; rw [TK.out] at h; exact h)
    clear hown hbw
    by_cases hlt : k < q
    · obtain ⟨x, hx⟩ : ∃ l, ix[k]? = some l := ⟨_, List.getElem?_eq_getElem (by have := HQ.out; omega)⟩
      obtain ⟨b, off, rfl, hbl, ha⟩ := XW.out k x hx
      obtain ⟨j, c, hxj, hpj, hcl⟩ := NR.out.at (List.mem_of_getElem? hx)
      subst hxj
      have hjm : j < m := by have := (List.getElem?_eq_some_iff.1 hpj).1; have := HY.out; omega
      obtain ⟨b3, off3, a3, cp3, rfl, hbl3, ha3, hca3, hma3, hil3⟩ := LW.out j c hpj
      have HNI := Lib.hid (NW.out j c hpj b3 off3 a3 c.length cp3 rfl ha3)
      have HSN : Hid (r.take (k + 1) = r.take k ++ [c]) := Lib.hid (by rw [RE.out]; exact atIdx_take hx hpj)
      have IL := Lib.hid hil3
      clear hx hpj hil3
      obtain ⟨z, hz⟩ : ∃ m, c.length = m := ⟨_, rfl⟩
      rw [hz] at ha3 hcl hca3 hma3 HNI
      have HM := Lib.hid hz
      clear hz
      go_wp2_with (first
        | (at_builtin; (refine append_ints (w1 := wr.alloc (.cells #[] 3)) (base := wr.heap.size) (xs := []) (l := c) _ _ rfl rfl rfl rfl (World.ownsRow_lit wr #[] 0 (Nat.le_refl _) (by unfold maxLen; omega) rfl) (IL.out.below (below1 wr _)) HM.out HNI.out (by simp) (by omega) (by omega) ?_; intro g3 c3 w3 ho3 hg3 hat3; have O3 : Hid (w3.ownsRow wr.heap.size 3 1 (.slice (some ⟨g3, 0, none⟩) z c3) z (c.map (Value.int .i64))) := Lib.hid (by simpa using ho3); have B3 := Lib.hid ((below1 wr _).grown hg3 (by simp) (fun g e => by cases e; exact Nat.le_refl _)); have OU3 := Lib.hid (own_below OU.out B3.out); rw [Nat.zero_add]; clear ho3 hg3 hat3))
        | (at_builtin; (refine wpList_append_lies _ rfl _ _ 23 rfl w1.heap.size 40 iS (.slice none 0 0) 1 24 Try.underlying23 hiS hs0 hs1 hs2 rfl (by omega) _ k _ rfl (OU3.out.alloc _) ⟨w3.heap.size, 0, none⟩ 1 1 [.slice (some ⟨g3, 0, none⟩) z c3] rfl rfl (one_new1 w3 _ _) (by intro u hu; rw [List.mem_singleton.1 hu]; rfl) (by omega) (by unfold maxLen; omega) (by omega) (by have := B3.out.size; have := BW.out.size; first | omega | (simp; omega)) (w3.heap.size + 1) (by first | rfl | simp) ?_; intro g4 cap4 w4 hown4 hg4 hat4 hlt4; have H4 := Lib.hid (OwnSS.grow (o := c) (c3 := c3) (A3 := some ⟨g3, 0, none⟩) TK.out OW.out BW.out B3.out (by rw [HM.out]; exact O3.out) (by rw [HM.out]; exact hown4) (by rw [HM.out]; exact hg4) hat4); clear hown4 hg4 hat4 hlt4)))
      go_roundw
      case rel => exact ⟨k + 1, by omega, by go_num, ⟨some ⟨g4, 0, none⟩, cap4, _, rfl, by rw [HSN.out]; exact H4.out.1⟩, H4.out.2⟩
      case measure => simp [intOf]; omega
    · obtain rfl : k = q := by omega
      have EL : Hid (r.take k = r) := Lib.hid (List.take_of_length_le (by have := RL.out; omega))
      go_wp2
      go_ret2
      refine ⟨A2, d2, vs, by rw [RL.out]; rfl, ?_, Below.tr B1.out BW.out⟩
      have := OW.out
      rw [EL.out] at this
      rw [RL.out]
      exact ⟨own_base this.outer B1.out.size, this.inner.base B1.out.size, this.off⟩
end Go.Proofs.Ytkkoeeoalkjhoaa
