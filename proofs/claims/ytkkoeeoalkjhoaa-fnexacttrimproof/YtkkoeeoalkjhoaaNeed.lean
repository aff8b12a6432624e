/-
  NeededIn, the program's and the model's.
-/
import Derived.Test.YtkkoeeoalkjhoaaChk2
import Derived.StillTailTactics
namespace Go.Proofs.Ytkkoeeoalkjhoaa
open Go.ChangeShapes Go.WideShapes Go.ChangeAt Go.RowKit

/-- which clauses are left to try, and what has been removed so far -/
def TInv (L p : List (List Int)) (j : Nat) (d : List Bool) : Prop := trimN L p j d = needD L p ∧ d.length = p.length ∧ (∀ x, x < j → d[x]? = some false) ∧ j ≤ p.length - 1
theorem TInv.start (L p : List (List Int)) : TInv L p (p.length - 1) (zerosB p) := by
  refine ⟨rfl, by simp [zerosB], fun x hx => zeros_at (by omega), Nat.le_refl _⟩
/-- the rest is tried without the j-th clause -/
theorem TInv.try_ {L p : List (List Int)} {j : Nat} {d : List Bool} (h : TInv L p (j + 1) d) (hp : 0 < p.length) : TInv L p j (d.set j (decide (wrongF L p (d.set j true) = p.length))) := by
  obtain ⟨h1, h2, h3, h4⟩ := h
  rw [trimN] at h1
  rw [wrongF_chain (by simp [h2])]
  refine ⟨?_, by simpa using h2, fun x hx => ?_, by omega⟩
  · split at h1
    · rename_i q; rw [q]; exact h1
    · rename_i q
      have q' : chainB L (keptL p (d.set j true)) = false := by simpa using q
      rw [q']
      have : d.set j false = d := by
        apply List.ext_getElem?
        intro i
        rw [List.getElem?_set]
        split
        · rename_i e
          subst e
          rw [if_pos (by omega), h3 j (by omega)]
        · rfl
      rw [this]
      exact h1
  · rw [List.getElem?_set, if_neg (by omega)]
    exact h3 x (by omega)
theorem TInv.done {L p : List (List Int)} {d : List Bool} (h : TInv L p 0 d) : d = needD L p := h.1
theorem TInv.last {L p : List (List Int)} {j : Nat} {d : List Bool} (h : TInv L p (j + 1) d) : ∃ b, (d.set j true)[j]? = some b ∧ j < p.length ∧ d[j]? = some false := by
  obtain ⟨h1, h2, h3, h4⟩ := h
  exact ⟨true, by rw [List.getElem?_set_self (by omega)], by omega, h3 j (by omega)⟩

/-- the program's memory while it removes: what is removed, its variable, the checker -/
structure NW (w : World) (base gr gv gc : Nat) (A B : Option Addr) (n m cap c2 : Nat) (d : List Bool) : Prop where
  rm : Blk w gr 4 (d.map Value.bool)
  va : Blk w gv 67 [.slice (some ⟨gr, 0, none⟩) m m]
  ck : Blk w gc 63 [.slice A n cap, .slice B m c2, .func (.func 59) #[] #[.pointer (some ⟨gv, 0, none⟩)]]
  lo : base ≤ gr ∧ gr < gv ∧ gv < gc
theorem NW.below {w w' : World} {base gr gv gc : Nat} {A B : Option Addr} {n m cap c2 : Nat} {d : List Bool} (h : NW w base gr gv gc A B n m cap c2 d) (hb : Below w.heap.size w w') : NW w' base gr gv gc A B n m cap c2 d :=
  ⟨h.rm.below hb, h.va.below hb, h.ck.below hb, h.lo⟩
theorem NW.set {w : World} {base gr gv gc : Nat} {A B : Option Addr} {n m cap c2 : Nat} {d : List Bool} (h : NW w base gr gv gc A B n m cap c2 d) (j : Nat) (b : Bool) : NW (w.setCell ⟨gr, j, none⟩ (.bool b)) base gr gv gc A B n m cap c2 (d.set j b) :=
  ⟨by rw [List.map_set]; exact h.rm.set _ _, h.va.far (by have := h.lo; omega) _, h.ck.far (by have := h.lo; omega) _, h.lo⟩
theorem NW.removed {w : World} {base gr gv gc : Nat} {A B : Option Addr} {n m cap c2 : Nat} {d : List Bool} (h : NW w base gr gv gc A B n m cap c2 d) : Removed w gv gr m d := ⟨h.va.cell 0, h.va.lt, h.rm⟩
theorem need_snoc {d : List Bool} {k : Nat} (h : d[k]? = some false) : idxN d (k + 1) = idxN d k ++ [(k : Int)] := idxN_keep h
theorem NeedR.no {v : Int} {L p : List (List Int)} {r : List Int} {ok : Bool} (h : NeedR v L p r ok) (hok : ok = false) : r = [] := by
  obtain ⟨_, _, _, h2⟩ := h
  rw [h2, hok]
  rfl
theorem NeedR.yes {v : Int} {L p : List (List Int)} {r : List Int} {ok : Bool} (h : NeedR v L p r ok) (hok : ok = true) : r = idxN (needD L p) p.length := by
  obtain ⟨_, _, _, h2⟩ := h
  rw [h2, hok]
  rfl
set_option maxRecDepth 100000 in
set_option maxHeartbeats 8000000 in
theorem implNeed_any (v : Int) (A B : Option Addr) (n m cap c2 : Nat) (L p : List (List Int)) (w : World) (r : List Int) (ok : Bool) (hr : Hid (NeedR v L p r ok)) (hl : Hid (LLies w A L)) (hl2 : Hid (LLies w B p)) (HX : Hid (L.length = n)) (HY : Hid (p.length = m)) (HN : Hid (A = none → n = 0 ∧ cap = 0)) (hn : n ≤ 9223372036854775807) (hm : m ≤ 9223372036854775807) :
    Calls Try.prog 27 #[.int .i64 v, .slice A n cap, .slice B m c2] w (GaveTwo w r ok) := by
  obtain ⟨i0, hi0, hz0, hz1, hz2⟩ := info_parts info_bool
  obtain ⟨iI, hiI, hI0, hI1, hI2⟩ := info_parts info_int
  obtain ⟨at_, ok0, hck, hre⟩ := hr.out
  have CK := Lib.hid hck
  clear hck hre
  cases ok
  · have E := Lib.hid (hr.out.no rfl)
    go_enter Try.func27, Try.ntmps27
    go_wp2_with fail
    refine (implCheck_any v _ _ _ _ _ _ L p _ false at_ ok0 CK hl hl2 HX HY HN hn hm).mono ?_
    rintro e w1 ⟨rfl, hb1⟩
    have B1 := Lib.hid hb1
    clear hb1
    go_wp2
    go_ret2
    rw [E.out]
    exact two_nil _ _ B1.out
  obtain ⟨hg, hpb, _, hends, _, _⟩ := CK.out.acc rfl
  have hv := goodB_v hg
  have hv2 : v ≤ 12 := hv.2
  have hm3 : m ≤ 300 := by have := proofB_len hpb; have := HY.out; omega
  have hn6 : n ≤ 60 := by have := goodB_len hg; have := HX.out; omega
  have HL := Lib.hid (goodB_cl hg)
  have HP := Lib.hid (proofB_cl hpb)
  have hm0 : 0 < m := by
    rcases Nat.eq_zero_or_pos m with h | h
    · have h2 := HY.out
      rw [h] at h2
      rw [List.eq_nil_of_length_eq_zero h2, endsB_nil] at hends
      simp at hends
    · exact h
  have E : Hid (r = idxN (needD L p) m) := Lib.hid (by rw [hr.out.yes rfl, HY.out])
  have TS : Hid (TInv L p (m - 1) (zerosB p)) := Lib.hid (by have := TInv.start L p; rw [HY.out] at this; exact this)
  clear hg hpb hends hv
  go_enter Try.func27, Try.ntmps27
  go_wp2_with fail
  refine (implCheck_any v _ _ _ _ _ _ L p _ true at_ ok0 CK hl hl2 HX HY HN hn hm).mono ?_
  rintro e w1 ⟨rfl, hb1⟩
  have B1 := Lib.hid hb1
  clear hb1
  have hmf : ∀ (fn : Fn) (first cap : Array Value) (w : World), (Instr.makeFunc fn first cap).run Try.prog w = .ok (.func fn first cap) w := fun _ _ _ _ => rfl
  go_wp2_with (at_make; (refine wpList_make_full _ rfl _ _ 67 rfl w1.heap.size 4 i0 _ 1 Try.underlying67 hi0 hz0 hz1 _ _ _ _ m rfl rfl (by omega) (by omega) (by rw [hz2]; omega) (by unfold maxLen; omega) (Nat.le_refl _) ?_; intro w2 hown1 hg1; have DZ := Lib.hid (made_zeros HY.out hown1); have BB := (Below.refl w1.heap.size w1).grown hg1 (Nat.le_refl _) (by simp); have B2 := Lib.hid (Below.tr B1.out BB); clear hown1 hg1 BB))
  have hvlt : w1.heap.size < w2.heap.size := DZ.out.lt
  have NW0 : Hid (NW ((w2.alloc (.cells #[.slice (some ⟨w1.heap.size, 0, none⟩) m m] 67)).alloc (.cells #[.slice A n cap, .slice B m c2, .func (.func 59) #[] #[.pointer (some ⟨w2.heap.size, 0, none⟩)]] 63)) w.heap.size w1.heap.size w2.heap.size (w2.heap.size + 1) A B n m cap c2 (zerosB p)) := Lib.hid ⟨(DZ.out.below (below1 _ _)).below (below1 _ _), by have h1 := heap_alloc_new w2 (.cells #[.slice (some ⟨w1.heap.size, 0, none⟩) m m] 67); exact Blk.below h1 (below1 _ _), by have h1 := heap_alloc_new (w2.alloc (.cells #[.slice (some ⟨w1.heap.size, 0, none⟩) m m] 67)) (.cells #[.slice A n cap, .slice B m c2, .func (.func 59) #[] #[.pointer (some ⟨w2.heap.size, 0, none⟩)]] 63); simpa [Blk] using h1, by have := B1.out.size; omega⟩
  have B3 : Hid (Below w.heap.size w ((w2.alloc (.cells #[.slice (some ⟨w1.heap.size, 0, none⟩) m m] 67)).alloc (.cells #[.slice A n cap, .slice B m c2, .func (.func 59) #[] #[.pointer (some ⟨w2.heap.size, 0, none⟩)]] 63))) := Lib.hid (Below.tr B2.out (below2 _ _ _))
  clear DZ B1 B2
  obtain ⟨gr, hgr⟩ : ∃ g, w1.heap.size = g := ⟨_, rfl⟩
  obtain ⟨gv, hgv⟩ : ∃ g, w2.heap.size = g := ⟨_, rfl⟩
  rw [hgr, hgv] at NW0 B3 ⊢
  go_loopw [13] (fun i wr => ∃ (j : Nat) (d : List Bool), i = .int .i64 ((j : Int) - 1) ∧ TInv L p j d ∧ NW wr w.heap.size gr gv (gv + 1) A B n m cap c2 d ∧ Below w.heap.size w wr) (fun i _ => ((intOf i) + 1).toNat)
  case atStart => exact ⟨m - 1, zerosB p, by congr 1; omega, TS.out, NW0.out, B3.out⟩
  case round =>
    clear NW0 B3 hgr hgv
    obtain ⟨j, d, rfl, hti, hnw, hbw⟩ := hrel
    have TI := Lib.hid hti
    have NWr := Lib.hid hnw
    have BW := Lib.hid hbw
    have hjm : j ≤ m - 1 := by have := hti.2.2.2; have := HY.out; omega
    have hlo := hnw.lo
    clear hti hnw hbw
    cases j with
    | succ j =>
      obtain ⟨_, _, hjl, hdj⟩ := TI.out.last
      have t0 := NWr.out.va.cell 0
      have t1 : wr.cell? ⟨gr, j, none⟩ = some (.bool false) := NWr.out.rm.there (by rw [List.getElem?_map, hdj]; rfl)
      have f1 := NWr.out.rm.frozen j
      have hjj : (((j + 1 : Nat) : Int) - 1) = (j : Int) := by omega
      rw [hjj]
      have hge : decide ((j : Int) ≥ 0) = true := by simp
      have N1 := Lib.hid (NWr.out.set j true)
      have B1 := Lib.hid (BW.out.setCell (show w.heap.size ≤ gr from hlo.1) (.bool true) (p := ⟨gr, j, none⟩))
      have TN := Lib.hid (TI.out.try_ (by have := HY.out; omega))
      have hjm2 : j < m := by omega
      clear hdj
      go_wp2_with fail
      generalize wr.setCell ⟨gr, j, none⟩ (.bool true) = ws at N1 B1 ⊢
      clear t0 t1 f1
      obtain ⟨W, hW⟩ : ∃ W, wrongF L p (d.set j true) = W := ⟨_, rfl⟩
      have hdrew : Below ws.heap.size ws ws.drew := (Below.refl _ _).drew
      have ND := Lib.hid (N1.out.below hdrew)
      have RD := Lib.hid ND.out.removed
      have BD := Lib.hid (Below.tr B1.out hdrew)
      have LD := Lib.hid (hl.out.below BD.out)
      have PD := Lib.hid (hl2.out.below BD.out)
      have HD : Hid ((d.set j true).length = m) := Lib.hid (by rw [List.length_set, TI.out.2.1, HY.out])
      clear hdrew
      refine wp_region_held_drew (S := fun W => W.cell? ⟨gv, 0, none⟩ = some (.slice (some ⟨gr, 0, none⟩) m m) ∧ W.cell? ⟨gv + 1, 0, none⟩ = some (.slice A n cap) ∧ W.cell? ⟨gv + 1, 1, none⟩ = some (.slice B m c2) ∧ W.cell? ⟨gv + 1, 2, none⟩ = some (.func (.func 59) #[] #[.pointer (some ⟨gv, 0, none⟩)])) (by kernel_rfl) ?_ (fun hHeld => ?_)
      · exact ⟨ND.out.va.cell 0, ND.out.ck.cell 0, ND.out.ck.cell 1, ND.out.ck.cell 2⟩
      refine wpAnyH_take (i := 0) (v := ?_) rfl (by kernel_rfl) (by kernel_rfl) (by kernel_rfl) (fun _ _ _ h => h) (Or.inl ⟨by rfl, ?_⟩) (by assumption) ?_
      rotate_left
      · intro W hSw
        try dsimp only at hSw
        go_simp
        try with_reducible rfl
      simp only [Act.put, List.setIfInBounds_toArray]
      refine wpAnyH_take (i := 1) (v := ?_) rfl (by kernel_rfl) (by kernel_rfl) (by kernel_rfl) (fun _ _ _ h => h) (Or.inl ⟨by rfl, ?_⟩) (by assumption) ?_
      rotate_left
      · intro W hSw
        try dsimp only at hSw
        go_simp
        try with_reducible rfl
      simp only [Act.put]
      refine wpAnyH_take (i := 2) (v := ?_) rfl (by kernel_rfl) (by kernel_rfl) (by kernel_rfl) (fun _ _ _ h => h) (Or.inl ⟨by rfl, ?_⟩) (by assumption) ?_
      rotate_left
      · intro W hSw
        try dsimp only at hSw
        go_simp
        try with_reducible rfl
      simp only [Act.put]
      refine wpAnyH_take (i := 4) (v := ?_) rfl (by kernel_rfl) (by kernel_rfl) (by kernel_rfl) (fun _ _ _ h => h) (Or.inl ⟨by rfl, ?_⟩) (by assumption) ?_
      rotate_left
      · intro W hSw
        try dsimp only at hSw
        go_simp
        try with_reducible rfl
      simp only [Act.put]
      refine wpAnyH_take (i := 5) (v := ?_) rfl (by kernel_rfl) (by kernel_rfl) (by kernel_rfl) (fun _ _ _ h => h) (Or.inl ⟨by rfl, ?_⟩) (by assumption) ?_
      rotate_left
      · intro W hSw
        try dsimp only at hSw
        go_simp
        try with_reducible rfl
      simp only [Act.put]
      refine wpAnyH_ready (rs := [3]) (by kernel_rfl) (by simp) ?_
      refine AllReadyH.cons rfl (fun K hK => ?_) AllReadyH.nil
      go_simp
      refine (firstWrong2_any v A B n m cap c2 L p gv gr (d.set j true) ws.drew RD HD LD PD HX HY HN hn6 hm3 hv2 HL HP).mono ?_
      rintro e w3 ⟨rfl, hb3⟩
      have N3 := Lib.hid (ND.out.below hb3)
      have B3 := Lib.hid (Below.tr BD.out hb3)
      refine hK.out _ _ ⟨N3.out.va.cell 0, N3.out.ck.cell 0, N3.out.ck.cell 1, N3.out.ck.cell 2⟩ (fun hHeld2 => ?_)
      clear hK K hb3
      rw [hW]
      try simp only [Act.put, List.setIfInBounds_toArray, List.set_cons_zero, List.set_cons_succ]
      refine wpAnyH_take (i := 6) (v := ?_) rfl (by kernel_rfl) (by kernel_rfl) (by kernel_rfl) (fun _ _ _ h => h) (Or.inl ⟨by rfl, ?_⟩) (by assumption) ?_
      rotate_left
      · intro W hSw
        try dsimp only at hSw
        go_simp
        try with_reducible rfl
      simp only [Act.put, List.setIfInBounds_toArray]
      refine wpAnyH_take (i := 7) (v := ?_) rfl (by kernel_rfl) (by kernel_rfl) (by kernel_rfl) (fun _ _ _ h => h) (Or.inl ⟨by rfl, ?_⟩) (by assumption) ?_
      rotate_left
      · intro W hSw
        try dsimp only at hSw
        go_simp
        try with_reducible rfl
      simp only [Act.put]
      have t1 : w3.cell? ⟨gr, j, none⟩ = some (.bool true) := N3.out.rm.there (by rw [List.getElem?_map, List.getElem?_set_self (by have := TI.out.2.1; omega)]; rfl)
      have f1 := N3.out.rm.frozen j
      have N4 := Lib.hid (N3.out.set j ((W : Int) == (m : Int)))
      have B4 := Lib.hid (B3.out.setCell (show w.heap.size ≤ gr from hlo.1) (.bool ((W : Int) == (m : Int))) (p := ⟨gr, j, none⟩))
      have TN2 : Hid (TInv L p j ((d.set j true).set j ((W : Int) == (m : Int)))) := Lib.hid (by
        have h := TN.out
        rw [hW, HY.out] at h
        rw [List.set_set]
        have e : ((W : Int) == (m : Int)) = decide (W = m) := by
          by_cases q : W = m
          · simp [q]
          · simp [q]; omega
        rw [e]
        exact h)
      clear TN N3 B3 hW
      refine wpAnyH_ready (rs := [8]) (by kernel_rfl) (by simp) ?_
      refine AllReadyH.cons rfl (fun K hK => ?_) AllReadyH.nil
      go_simp
      refine hK.out _ _ ⟨N4.out.va.cell 0, N4.out.ck.cell 0, N4.out.ck.cell 1, N4.out.ck.cell 2⟩ (fun hHeld3 => ?_)
      clear hK K
      refine wpAnyH_done (by kernel_rfl) ?_ _
      go_wp2
      go_roundw
      case rel => exact ⟨j, _, rfl, TN2.out, N4.out, B4.out⟩
      case measure => simp [intOf]
    | zero =>
      have DE : Hid (d = needD L p) := Lib.hid TI.out.done
      rw [show (((0 : Nat) : Int) - 1) = -1 from rfl]
      go_wp2_with fail
      obtain ⟨wo, hwo⟩ : ∃ x, x = wr := ⟨_, rfl⟩
      subst hwo
      have HDL : Hid (d.length = m) := Lib.hid (by rw [TI.out.2.1, HY.out])
      have NO := Lib.hid NWr.out
      have BO := Lib.hid BW.out
      clear NWr BW TI
      go_loopw [14, 53] (fun u i wr => ∃ (k q : Nat), k ≤ m ∧ i = .int .i64 k ∧ q ≤ k ∧ (∃ A2 c2, u = .slice A2 q c2 ∧ (idxN d k).length = q ∧ wr.ownsRow wo.heap.size 3 1 (.slice A2 q c2) q ((idxN d k).map (Value.int .i64))) ∧ Below wo.heap.size wo wr) (fun _ i _ => m - (intOf i).toNat)
      case atStart => exact ⟨0, 0, Nat.zero_le _, rfl, Nat.le_refl _, ⟨none, 0, rfl, rfl, World.ownsRow_nil _ _ _ _⟩, Below.refl _ _⟩
      case round =>
        obtain ⟨k, q, hk, rfl, hq, ⟨A2, d2, rfl, hql, hown⟩, hbw⟩ := hrel
        have OW := Lib.hid hown
        have QL := Lib.hid hql
        have BW := Lib.hid hbw
        have NW2 := Lib.hid (NO.out.below hbw)
        have RW := Lib.hid NW2.out.removed
        have t2 := NW2.out.ck.cell 2
        clear hown hql hbw
        by_cases hlt : k < m
        · obtain ⟨bd, hbd⟩ : ∃ x, d[k]? = some x := ⟨_, List.getElem?_eq_getElem (by have := HDL.out; omega)⟩
          have HB := Lib.hid hbd
          clear hbd
          cases bd
          · have HS := Lib.hid (idxN_keep HB.out)
            go_wp2_with (first
              | (go_at_call 59; refine (keep2_any gv gr m k d false _ RW HB HDL).mono ?_; rintro e w' ⟨rfl, rfl⟩)
              | (at_builtin; (refine wpList_append_lies _ rfl _ _ 40 rfl wo.heap.size 3 iI (.int .i64 0) 1 8 Try.underlying40 hiI hI0 hI1 hI2 rfl (by omega) _ q _ rfl (OW.out.alloc _) ⟨wr.heap.size, 0, none⟩ 1 1 [.int .i64 k] rfl rfl (one_new1 wr _ _) (by intro u hu; rw [List.mem_singleton.1 hu]; rfl) (by omega) (by unfold maxLen; omega) (by omega) (by have := BW.out.size; first | omega | (simp; omega)) (wr.heap.size + 1) (by first | rfl | simp) ?_; intro g3 cap3 w3 hown3 hg3 hat3 hlt3; have H3 := Lib.hid (app1 OW.out hown3 hg3 BW.out (Nat.le_refl _)); clear hown3 hg3 hat3 hlt3)))
            go_roundw
            case rel => exact ⟨k + 1, q + 1, by omega, by go_num, by omega, ⟨some ⟨g3, 0, none⟩, cap3, rfl, by rw [HS.out, List.length_append, QL.out]; rfl, by rw [HS.out]; exact H3.out.1⟩, H3.out.2⟩
            case measure => simp [intOf]; omega
          · have HS := Lib.hid (idxN_drop HB.out)
            go_wp2_with (go_at_call 59; refine (keep2_any gv gr m k d true _ RW HB HDL).mono ?_; rintro e w' ⟨rfl, rfl⟩)
            go_roundw
            case rel => exact ⟨k + 1, q, by omega, by go_num, by omega, ⟨A2, d2, rfl, by rw [HS.out]; exact QL.out, by rw [HS.out]; exact OW.out⟩, BW.out⟩
            case measure => simp [intOf]; omega
        · obtain rfl : k = m := by omega
          have ER : Hid (r = idxN d k) := Lib.hid (by rw [E.out, DE.out])
          go_wp2
          go_ret2
          have hrl : r.length = q := by rw [ER.out]; exact QL.out
          exact ⟨A2, d2, by rw [hrl]; rfl, by rw [hrl, ER.out]; exact own_base OW.out BO.out.size, Below.tr BO.out BW.out⟩
end Go.Proofs.Ytkkoeeoalkjhoaa
