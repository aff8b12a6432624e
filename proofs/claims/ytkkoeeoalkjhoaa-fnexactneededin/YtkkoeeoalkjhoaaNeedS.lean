/-
  NeededIn, the model's.
-/
import Derived.Test.YtkkoeeoalkjhoaaNeed
namespace Go.Proofs.Ytkkoeeoalkjhoaa
open Go.ChangeShapes Go.WideShapes Go.ChangeAt Go.RowKit

theorem NeedR.isno {v : Int} {L p : List (List Int)} {r : List Int} {ok : Bool} (h : NeedR v L p r ok) (hq : (goodB v L && proofB v p) = false) : r = [] ∧ ok = false := by
  obtain ⟨at_, ok0, h1, h2⟩ := h
  have := (h1.no hq).1
  subst this
  exact ⟨h2, rfl⟩
theorem NeedR.ok {v : Int} {L p : List (List Int)} {r : List Int} {ok : Bool} (h : NeedR v L p r ok) (h1 : goodB v L = true) (h2 : proofB v p = true) : ok = (decide (wrongF L p (zerosB p) = p.length) && endsB p) := by
  obtain ⟨at_, ok0, h3, _⟩ := h
  obtain ⟨e1, e2, _⟩ := h3.yes h1 h2
  rw [e2, e1]
set_option maxRecDepth 100000 in
set_option maxHeartbeats 8000000 in
theorem specNeed_any (v : Int) (A B : Option Addr) (n m cap c2 : Nat) (L p : List (List Int)) (w : World) (r : List Int) (ok : Bool) (hr : Hid (NeedR v L p r ok)) (hl : Hid (LLies w A L)) (hlN : Hid (LNil w A L)) (hl2 : Hid (LLies w B p)) (HX : Hid (L.length = n)) (HY : Hid (p.length = m)) (hn : n ≤ 9223372036854775807) (hm : m ≤ 9223372036854775807) :
    Calls Try.prog 28 #[.int .i64 v, .slice A n cap, .slice B m c2] w (GaveTwo w r ok) := by
  obtain ⟨i0, hi0, hz0, hz1, hz2⟩ := info_parts info_bool
  obtain ⟨iI, hiI, hI0, hI1, hI2⟩ := info_parts info_int
  cases q : (goodB v L && proofB v p)
  · have E := Lib.hid (hr.out.isno q)
    go_enter Try.func28, Try.ntmps28
    go_wp2_with (go_at_call 49; refine (l6Good_any v _ _ _ _ _ _ L p _ hl hl2 HX HY hn hm).mono ?_; rintro e w' ⟨rfl, rfl⟩; rw [q])
    go_ret2
    rw [E.out.1, E.out.2]
    exact two_nil _ _ (Below.refl _ _)
  have q' := q
  rw [Bool.and_eq_true] at q'
  have hv := goodB_v q'.1
  have hv2 : v ≤ 12 := hv.2
  have hm3 : m ≤ 300 := by have := proofB_len q'.2; have := HY.out; omega
  have hn6 : n ≤ 60 := by have := goodB_len q'.1; have := HX.out; omega
  have HL := Lib.hid (goodB_cl q'.1)
  have HP := Lib.hid (proofB_cl q'.2)
  have HD : Hid ((zerosB p).length = m) := Lib.hid (by unfold zerosB; rw [List.length_replicate]; exact HY.out)
  have EO := Lib.hid (hr.out.ok q'.1 q'.2)
  clear q' hv
  go_enter Try.func28, Try.ntmps28
  go_wp2_with (first
    | (go_at_call 49; refine (l6Good_any v _ _ _ _ _ _ L p _ hl hl2 HX HY hn hm).mono ?_; rintro e w' ⟨rfl, rfl⟩; rw [q])
    | (at_make; (refine wpList_make_full _ rfl _ _ 67 rfl w.heap.size 4 i0 _ 1 Try.underlying67 hi0 hz0 hz1 _ _ _ _ m rfl rfl (by omega) (by omega) (by rw [hz2]; omega) (by unfold maxLen; omega) (Nat.le_refl _) ?_; intro w1 hown1 hg1; have DZ := Lib.hid (made_zeros HY.out hown1); have B1 := Lib.hid ((Below.refl w.heap.size w).grown hg1 (Nat.le_refl _) (by simp)); clear hown1 hg1)))
  clear q
  have L1 := Lib.hid (hl.out.below B1.out)
  have N1 := Lib.hid (hlN.out.below hl.out B1.out)
  have P1 := Lib.hid (hl2.out.below B1.out)
  have D1 := Lib.hid DZ.out.blies
  refine (l6Check_any v _ _ _ _ _ _ _ _ L p (zerosB p) _ L1 N1 P1 D1 HX HY HD hn6 hm3 hv2 HL HP).mono ?_
  rintro e w2 ⟨rfl, hb2⟩
  have B2 := Lib.hid (Below.tr B1.out hb2)
  have DB := Lib.hid (DZ.out.below hb2)
  clear hb2 L1 N1 P1 D1 B1 DZ
  rw [← HY.out, ← EO.out, HY.out]
  cases ok
  · have E := Lib.hid (hr.out.no rfl)
    go_wp2
    go_ret2
    rw [E.out]
    exact two_nil _ _ B2.out
  have EB : Hid (endsB p = true) := Lib.hid (by have := EO.out.symm; rw [Bool.and_eq_true] at this; exact this.2)
  have hm0 : 0 < m := by
    rcases Nat.eq_zero_or_pos m with h | h
    · have h2 := HY.out
      rw [h] at h2
      have h3 := EB.out
      rw [List.eq_nil_of_length_eq_zero h2, endsB_nil] at h3
      simp at h3
    · exact h
  have E : Hid (r = idxN (needD L p) m) := Lib.hid (by rw [hr.out.yes rfl, HY.out])
  have TS : Hid (TInv L p (m - 1) (zerosB p)) := Lib.hid (by have := TInv.start L p; rw [HY.out] at this; exact this)
  obtain ⟨W0, hW0⟩ : ∃ W, wrongF L p (zerosB p) = W := ⟨_, rfl⟩
  rw [hW0]
  clear EO hW0
  go_wp2_with fail
  obtain ⟨gd, hgd⟩ : ∃ g, w.heap.size = g := ⟨_, rfl⟩
  rw [hgd] at DB ⊢
  have hlo : w.heap.size ≤ gd := by omega
  clear hgd
  go_loopw [11] (fun i wr => ∃ (j : Nat) (d : List Bool), i = .int .i64 ((j : Int) - 1) ∧ TInv L p j d ∧ Blk wr gd 4 (d.map Value.bool) ∧ Below w.heap.size w wr) (fun i _ => ((intOf i) + 1).toNat)
  case atStart => exact ⟨m - 1, zerosB p, by congr 1; omega, TS.out, DB.out, B2.out⟩
  case round =>
    clear DB B2 TS
    obtain ⟨j, d, rfl, hti, hdb, hbw⟩ := hrel
    have TI := Lib.hid hti
    have DW := Lib.hid hdb
    have BW := Lib.hid hbw
    have hjm : j ≤ m - 1 := by have := hti.2.2.2; have := HY.out; omega
    clear hti hdb hbw
    cases j with
    | succ j =>
      obtain ⟨_, _, hjl, hdj⟩ := TI.out.last
      have t1 : wr.cell? ⟨gd, j, none⟩ = some (.bool false) := DW.out.there (by rw [List.getElem?_map, hdj]; rfl)
      have f1 := DW.out.frozen j
      have hjj : (((j + 1 : Nat) : Int) - 1) = (j : Int) := by omega
      rw [hjj]
      have hge : decide ((j : Int) ≥ 0) = true := by simp
      have D1 : Hid (Blk (wr.setCell ⟨gd, j, none⟩ (.bool true)) gd 4 ((d.set j true).map Value.bool)) := Lib.hid (by rw [List.map_set]; exact DW.out.set _ _)
      have B1 := Lib.hid (BW.out.setCell hlo (.bool true) (p := ⟨gd, j, none⟩))
      have TN := Lib.hid (TI.out.try_ (by have := HY.out; omega))
      have hjm2 : j < m := by omega
      clear hdj
      go_wp2_with fail
      generalize wr.setCell ⟨gd, j, none⟩ (.bool true) = ws at D1 B1 ⊢
      clear t1 f1
      obtain ⟨W, hW⟩ : ∃ W, wrongF L p (d.set j true) = W := ⟨_, rfl⟩
      have L1 := Lib.hid (hl.out.below B1.out)
      have N1 := Lib.hid (hlN.out.below hl.out B1.out)
      have P1 := Lib.hid (hl2.out.below B1.out)
      have DD := Lib.hid D1.out.blies
      have HDS : Hid ((d.set j true).length = m) := Lib.hid (by rw [List.length_set, TI.out.2.1, HY.out])
      refine (l6Check_any v _ _ _ _ _ _ _ _ L p (d.set j true) _ L1 N1 P1 DD HX HY HDS hn6 hm3 hv2 HL HP).mono ?_
      rintro e w3 ⟨rfl, hb3⟩
      have B3 := Lib.hid (Below.tr B1.out hb3)
      have D3 := Lib.hid (D1.out.below hb3)
      rw [EB.out, hW]
      rw [hW, HY.out] at TN
      clear hb3 L1 N1 P1 DD hW
      by_cases hw : W = m
      · have hd : (decide (W = m) && true) = true := by simp [hw]
        rw [hd]
        have TN2 : Hid (TInv L p j (d.set j true)) := Lib.hid (by have h := TN.out; rw [decide_eq_true hw] at h; exact h)
        go_wp2
        go_roundw
        case rel => exact ⟨j, _, rfl, TN2.out, D3.out, B3.out⟩
        case measure => simp [intOf]
      · have hd : (decide (W = m) && true) = false := by simp [hw]
        rw [hd]
        have TN2 : Hid (TInv L p j ((d.set j true).set j false)) := Lib.hid (by have h := TN.out; rw [decide_eq_false hw] at h; rw [List.set_set]; exact h)
        have t1 : w3.cell? ⟨gd, j, none⟩ = some (.bool true) := D3.out.there (by rw [List.getElem?_map, List.getElem?_set_self (by have := TI.out.2.1; omega)]; rfl)
        have f1 := D3.out.frozen j
        have D4 : Hid (Blk (w3.setCell ⟨gd, j, none⟩ (.bool false)) gd 4 (((d.set j true).set j false).map Value.bool)) := Lib.hid (by rw [List.map_set]; exact D3.out.set _ _)
        have B4 := Lib.hid (B3.out.setCell hlo (.bool false) (p := ⟨gd, j, none⟩))
        go_wp2
        go_roundw
        case rel => exact ⟨j, _, rfl, TN2.out, D4.out, B4.out⟩
        case measure => simp [intOf]
    | zero =>
      have DE : Hid (d = needD L p) := Lib.hid TI.out.done
      rw [show (((0 : Nat) : Int) - 1) = -1 from rfl]
      go_wp2_with fail
      obtain ⟨wo, hwo⟩ : ∃ x, x = wr := ⟨_, rfl⟩
      subst hwo
      have HDL : Hid (d.length = m) := Lib.hid (by rw [TI.out.2.1, HY.out])
      have NO := Lib.hid DW.out.blies
      have BO := Lib.hid BW.out
      clear DW BW TI
      go_loopw [14, 58] (fun u i wr => ∃ (k q : Nat), k ≤ m ∧ i = .int .i64 k ∧ q ≤ k ∧ (∃ A2 c2, u = .slice A2 q c2 ∧ (idxN d k).length = q ∧ wr.ownsRow wo.heap.size 3 1 (.slice A2 q c2) q ((idxN d k).map (Value.int .i64))) ∧ Below wo.heap.size wo wr) (fun _ i _ => m - (intOf i).toNat)
      case atStart => exact ⟨0, 0, Nat.zero_le _, rfl, Nat.le_refl _, ⟨none, 0, rfl, rfl, World.ownsRow_nil _ _ _ _⟩, Below.refl _ _⟩
      case round =>
        obtain ⟨k, q, hk, rfl, hq, ⟨A2, d2, rfl, hql, hown⟩, hbw⟩ := hrel
        have OW := Lib.hid hown
        have QL := Lib.hid hql
        have BW := Lib.hid hbw
        have NW2 := Lib.hid (NO.out.below hbw)
        clear hown hql hbw
        by_cases hlt : k < m
        · obtain ⟨bd, hbd⟩ : ∃ x, d[k]? = some x := ⟨_, List.getElem?_eq_getElem (by have := HDL.out; omega)⟩
          obtain ⟨b5, off5, hA5, hbl5, ha5⟩ := NW2.out k bd hbd
          have hA5' : b5 = gd ∧ off5 = 0 := by simp at hA5; omega
          obtain ⟨rfl, rfl⟩ := hA5'
          rw [Nat.zero_add] at ha5
          have HB := Lib.hid hbd
          clear hbd hA5
          cases bd
          · have HS := Lib.hid (idxN_keep HB.out)
            go_wp2_with (at_builtin; (refine wpList_append_lies _ rfl _ _ 40 rfl wo.heap.size 3 iI (.int .i64 0) 1 8 Try.underlying40 hiI hI0 hI1 hI2 rfl (by omega) _ q _ rfl (OW.out.alloc _) ⟨wr.heap.size, 0, none⟩ 1 1 [.int .i64 k] rfl rfl (one_new1 wr _ _) (by intro u hu; rw [List.mem_singleton.1 hu]; rfl) (by omega) (by unfold maxLen; omega) (by omega) (by have := BW.out.size; first | omega | (simp; omega)) (wr.heap.size + 1) (by first | rfl | simp) ?_; intro g3 cap3 w3 hown3 hg3 hat3 hlt3; have H3 := Lib.hid (app1 OW.out hown3 hg3 BW.out (Nat.le_refl _)); clear hown3 hg3 hat3 hlt3))
            go_roundw
            case rel => exact ⟨k + 1, q + 1, by omega, by go_num, by omega, ⟨some ⟨g3, 0, none⟩, cap3, rfl, by rw [HS.out, List.length_append, QL.out]; rfl, by rw [HS.out]; exact H3.out.1⟩, H3.out.2⟩
            case measure => simp [intOf]; omega
          · have HS := Lib.hid (idxN_drop HB.out)
            go_wp2
            go_roundw
            case rel => exact ⟨k + 1, q, by omega, by go_num, by omega, ⟨A2, d2, rfl, by rw [HS.out]; exact QL.out, by rw [HS.out]; exact OW.out⟩, BW.out⟩
            case measure => simp [intOf]; omega
        · obtain rfl : k = m := by omega
          have ER : Hid (r = idxN d k) := Lib.hid (by rw [E.out, DE.out])
          go_wp2
          go_ret2
          have hrl : r.length = q := by rw [ER.out]; exact QL.out
          exact ⟨A2, d2, by rw [hrl]; rfl, by rw [hrl, ER.out]; exact own_base OW.out BO.out.size, Below.tr BO.out BW.out⟩
end Go.Proofs.Ytkkoeeoalkjhoaa
