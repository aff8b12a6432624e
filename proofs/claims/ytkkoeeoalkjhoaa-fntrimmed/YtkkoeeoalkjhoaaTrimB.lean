/-
  NeededIn and TrimProof, the program's and the model's (the texts Need, NeedS, Trim in one).
-/
import Derived.Test.YtkkoeeoalkjhoaaChk2
import Derived.Test.YtkkoeeoalkjhoaaPf
import Derived.StillTailTactics
namespace Go.Proofs.Ytkkoeeoalkjhoaa
open Go.ChangeShapes Go.WideShapes Go.ChangeAt Go.RowKit

/-- which clauses are left to try, and what has been removed so far -/
def TInv (L p : List (List Int)) (j : Nat) (d : List Bool) : Prop := trimN L p j d = needD L p ∧ d.length = p.length ∧ (∀ x, x < j → d[x]? = some false) ∧ j ≤ p.length - 1
theorem TInv.start (L p : List (List Int)) : TInv L p (p.length - 1) (zerosB p) := by
  refine ⟨rfl, by simp [zerosB], fun x hx => zeros_at (by omega), Nat.le_refl _⟩
/-- the rest is tried without the j-th clause -/
theorem TInv.try_ {L p : List (List Int)} {j : Nat} {d : List Bool} (h : TInv L p (j + 1) d) (hp : 0 < p.length) : TInv L p j (d.set j (decide (wrongF L p (d.set j true) = p.length))) := by
  obtain ⟨h1, h2, h3, h4⟩ := h
  rw [trimN] at h1
  rw [wrongF_chain (by simp [h2])]
  refine ⟨?_, by simpa using h2, fun x hx => ?_, by omega⟩
  · split at h1
    · rename_i q; rw [q]; exact h1
    · rename_i q
      have q' : chainB L (keptL p (d.set j true)) = false := by simpa using q
      rw [q']
      have : d.set j false = d := by
        apply List.ext_getElem?
        intro i
        rw [List.getElem?_set]
        split
        · rename_i e
          subst e
          rw [if_pos (by omega), h3 j (by omega)]
        · rfl
      rw [this]
      exact h1
  · rw [List.getElem?_set, if_neg (by omega)]
    exact h3 x (by omega)
theorem TInv.done {L p : List (List Int)} {d : List Bool} (h : TInv L p 0 d) : d = needD L p := h.1
theorem TInv.last {L p : List (List Int)} {j : Nat} {d : List Bool} (h : TInv L p (j + 1) d) : ∃ b, (d.set j true)[j]? = some b ∧ j < p.length ∧ d[j]? = some false := by
  obtain ⟨h1, h2, h3, h4⟩ := h
  exact ⟨true, by rw [List.getElem?_set_self (by omega)], by omega, h3 j (by omega)⟩

/-- the program's memory while it removes: what is removed, its variable, the checker -/
structure NW (w : World) (base gr gv gc : Nat) (A B : Option Addr) (n m cap c2 : Nat) (d : List Bool) : Prop where
  rm : Blk w gr 4 (d.map Value.bool)
  va : Blk w gv 67 [.slice (some ⟨gr, 0, none⟩) m m]
  ck : Blk w gc 63 [.slice A n cap, .slice B m c2, .func (.func 59) #[] #[.pointer (some ⟨gv, 0, none⟩)]]
  lo : base ≤ gr ∧ gr < gv ∧ gv < gc
theorem NW.below {w w' : World} {base gr gv gc : Nat} {A B : Option Addr} {n m cap c2 : Nat} {d : List Bool} (h : NW w base gr gv gc A B n m cap c2 d) (hb : Below w.heap.size w w') : NW w' base gr gv gc A B n m cap c2 d :=
  ⟨h.rm.below hb, h.va.below hb, h.ck.below hb, h.lo⟩
theorem NW.set {w : World} {base gr gv gc : Nat} {A B : Option Addr} {n m cap c2 : Nat} {d : List Bool} (h : NW w base gr gv gc A B n m cap c2 d) (j : Nat) (b : Bool) : NW (w.setCell ⟨gr, j, none⟩ (.bool b)) base gr gv gc A B n m cap c2 (d.set j b) :=
  ⟨by rw [List.map_set]; exact h.rm.set _ _, h.va.far (by have := h.lo; omega) _, h.ck.far (by have := h.lo; omega) _, h.lo⟩
theorem NW.removed {w : World} {base gr gv gc : Nat} {A B : Option Addr} {n m cap c2 : Nat} {d : List Bool} (h : NW w base gr gv gc A B n m cap c2 d) : Removed w gv gr m d := ⟨h.va.cell 0, h.va.lt, h.rm⟩
theorem need_snoc {d : List Bool} {k : Nat} (h : d[k]? = some false) : idxN d (k + 1) = idxN d k ++ [(k : Int)] := idxN_keep h
theorem NeedR.no {v : Int} {L p : List (List Int)} {r : List Int} {ok : Bool} (h : NeedR v L p r ok) (hok : ok = false) : r = [] := by
  obtain ⟨_, _, _, h2⟩ := h
  rw [h2, hok]
  rfl
theorem NeedR.yes {v : Int} {L p : List (List Int)} {r : List Int} {ok : Bool} (h : NeedR v L p r ok) (hok : ok = true) : r = idxN (needD L p) p.length := by
  obtain ⟨_, _, _, h2⟩ := h
  rw [h2, hok]
  rfl
set_option maxRecDepth 100000 in
set_option maxHeartbeats 8000000 in
theorem implNeed_any (v : Int) (A B : Option Addr) (n m cap c2 : Nat) (L p : List (List Int)) (w : World) (r : List Int) (ok : Bool) (hr : Hid (NeedR v L p r ok)) (hl : Hid (LLies w A L)) (hl2 : Hid (LLies w B p)) (HX : Hid (L.length = n)) (HY : Hid (p.length = m)) (HN : Hid (A = none → n = 0 ∧ cap = 0)) (hn : n ≤ 9223372036854775807) (hm : m ≤ 9223372036854775807) :
    Calls Try.prog 27 #[.int .i64 v, .slice A n cap, .slice B m c2] w (GaveTwo w r ok) := by
  obtain ⟨i0, hi0, hz0, hz1, hz2⟩ := info_parts info_bool
  obtain ⟨iI, hiI, hI0, hI1, hI2⟩ := info_parts info_int
  obtain ⟨at_, ok0, hck, hre⟩ := hr.out
  have CK := Lib.hid hck
  clear hck hre
  cases ok
  · have E := Lib.hid (hr.out.no rfl)
    go_enter Try.func27, Try.ntmps27
    go_wp2_with fail
    refine (implCheck_any v _ _ _ _ _ _ L p _ false at_ ok0 CK hl hl2 HX HY HN hn hm).mono ?_
    rintro e w1 ⟨rfl, hb1⟩
    have B1 := Lib.hid hb1
    clear hb1
    go_wp2
    go_ret2
    rw [E.out]
    exact two_nil _ _ B1.out
  obtain ⟨hg, hpb, _, hends, _, _⟩ := CK.out.acc rfl
  have hv := goodB_v hg
  have hv2 : v ≤ 12 := hv.2
  have hm3 : m ≤ 300 := by have := proofB_len hpb; have := HY.out; omega
  have hn6 : n ≤ 60 := by have := goodB_len hg; have := HX.out; omega
  have HL := Lib.hid (goodB_cl hg)
  have HP := Lib.hid (proofB_cl hpb)
  have hm0 : 0 < m := by
    rcases Nat.eq_zero_or_pos m with h | h
    · have h2 := HY.out
      rw [h] at h2
      rw [List.eq_nil_of_length_eq_zero h2, endsB_nil] at hends
      simp at hends
    · exact h
  have E : Hid (r = idxN (needD L p) m) := Lib.hid (by rw [hr.out.yes rfl, HY.out])
  have TS : Hid (TInv L p (m - 1) (zerosB p)) := Lib.hid (by have := TInv.start L p; rw [HY.out] at this; exact this)
  clear hg hpb hends hv
  go_enter Try.func27, Try.ntmps27
  go_wp2_with fail
  refine (implCheck_any v _ _ _ _ _ _ L p _ true at_ ok0 CK hl hl2 HX HY HN hn hm).mono ?_
  rintro e w1 ⟨rfl, hb1⟩
  have B1 := Lib.hid hb1
  clear hb1
  have hmf : ∀ (fn : Fn) (first cap : Array Value) (w : World), (Instr.makeFunc fn first cap).run Try.prog w = .ok (.func fn first cap) w := fun _ _ _ _ => rfl
  go_wp2_with (at_make; (refine wpList_make_full _ rfl _ _ 67 rfl w1.heap.size 4 i0 _ 1 Try.underlying67 hi0 hz0 hz1 _ _ _ _ m rfl rfl (by omega) (by omega) (by rw [hz2]; omega) (by unfold maxLen; omega) (Nat.le_refl _) ?_; intro w2 hown1 hg1; have DZ := Lib.hid (made_zeros HY.out hown1); have BB := (Below.refl w1.heap.size w1).grown hg1 (Nat.le_refl _) (by simp); have B2 := Lib.hid (Below.tr B1.out BB); clear hown1 hg1 BB))
  have hvlt : w1.heap.size < w2.heap.size := DZ.out.lt
  have NW0 : Hid (NW ((w2.alloc (.cells #[.slice (some ⟨w1.heap.size, 0, none⟩) m m] 67)).alloc (.cells #[.slice A n cap, .slice B m c2, .func (.func 59) #[] #[.pointer (some ⟨w2.heap.size, 0, none⟩)]] 63)) w.heap.size w1.heap.size w2.heap.size (w2.heap.size + 1) A B n m cap c2 (zerosB p)) := Lib.hid ⟨(DZ.out.below (below1 _ _)).below (below1 _ _), by have h1 := heap_alloc_new w2 (.cells #[.slice (some ⟨w1.heap.size, 0, none⟩) m m] 67); exact Blk.below h1 (below1 _ _), by have h1 := heap_alloc_new (w2.alloc (.cells #[.slice (some ⟨w1.heap.size, 0, none⟩) m m] 67)) (.cells #[.slice A n cap, .slice B m c2, .func (.func 59) #[] #[.pointer (some ⟨w2.heap.size, 0, none⟩)]] 63); simpa [Blk] using h1, by have := B1.out.size; omega⟩
  have B3 : Hid (Below w.heap.size w ((w2.alloc (.cells #[.slice (some ⟨w1.heap.size, 0, none⟩) m m] 67)).alloc (.cells #[.slice A n cap, .slice B m c2, .func (.func 59) #[] #[.pointer (some ⟨w2.heap.size, 0, none⟩)]] 63))) := Lib.hid (Below.tr B2.out (below2 _ _ _))
  clear DZ B1 B2
  obtain ⟨gr, hgr⟩ : ∃ g, w1.heap.size = g := ⟨_, rfl⟩
  obtain ⟨gv, hgv⟩ : ∃ g, w2.heap.size = g := ⟨_, rfl⟩
  rw [hgr, hgv] at NW0 B3 ⊢
  go_loopw [13] (fun i wr => ∃ (j : Nat) (d : List Bool), i = .int .i64 ((j : Int) - 1) ∧ TInv L p j d ∧ NW wr w.heap.size gr gv (gv + 1) A B n m cap c2 d ∧ Below w.heap.size w wr) (fun i _ => ((intOf i) + 1).toNat)
  case atStart => exact ⟨m - 1, zerosB p, by congr 1; omega, TS.out, NW0.out, B3.out⟩
  case round =>
    clear NW0 B3 hgr hgv
    obtain ⟨j, d, rfl, hti, hnw, hbw⟩ := hrel
    have TI := Lib.hid hti
    have NWr := Lib.hid hnw
    have BW := Lib.hid hbw
    have hjm : j ≤ m - 1 := by have := hti.2.2.2; have := HY.out; omega
    have hlo := hnw.lo
    clear hti hnw hbw
    cases j with
    | succ j =>
      obtain ⟨_, _, hjl, hdj⟩ := TI.out.last
      have t0 := NWr.out.va.cell 0
      have t1 : wr.cell? ⟨gr, j, none⟩ = some (.bool false) := NWr.out.rm.there (by rw [List.getElem?_map, hdj]; rfl)
      have f1 := NWr.out.rm.frozen j
      have hjj : (((j + 1 : Nat) : Int) - 1) = (j : Int) := by omega
      rw [hjj]
      have hge : decide ((j : Int) ≥ 0) = true := by simp
      have N1 := Lib.hid (NWr.out.set j true)
      have B1 := Lib.hid (BW.out.setCell (show w.heap.size ≤ gr from hlo.1) (.bool true) (p := ⟨gr, j, none⟩))
      have TN := Lib.hid (TI.out.try_ (by have := HY.out; omega))
      have hjm2 : j < m := by omega
      clear hdj
      go_wp2_with fail
      generalize wr.setCell ⟨gr, j, none⟩ (.bool true) = ws at N1 B1 ⊢
      clear t0 t1 f1
      obtain ⟨W, hW⟩ : ∃ W, wrongF L p (d.set j true) = W := ⟨_, rfl⟩
      have hdrew : Below ws.heap.size ws ws.drew := (Below.refl _ _).drew
      have ND := Lib.hid (N1.out.below hdrew)
      have RD := Lib.hid ND.out.removed
      have BD := Lib.hid (Below.tr B1.out hdrew)
      have LD := Lib.hid (hl.out.below BD.out)
      have PD := Lib.hid (hl2.out.below BD.out)
      have HD : Hid ((d.set j true).length = m) := Lib.hid (by rw [List.length_set, TI.out.2.1, HY.out])
      clear hdrew
      refine wp_region_held_drew (S := fun W => W.cell? ⟨gv, 0, none⟩ = some (.slice (some ⟨gr, 0, none⟩) m m) ∧ W.cell? ⟨gv + 1, 0, none⟩ = some (.slice A n cap) ∧ W.cell? ⟨gv + 1, 1, none⟩ = some (.slice B m c2) ∧ W.cell? ⟨gv + 1, 2, none⟩ = some (.func (.func 59) #[] #[.pointer (some ⟨gv, 0, none⟩)])) (by kernel_rfl) ?_ (fun hHeld => ?_)
      · exact ⟨ND.out.va.cell 0, ND.out.ck.cell 0, ND.out.ck.cell 1, ND.out.ck.cell 2⟩
      refine wpAnyH_take (i := 0) (v := ?_) rfl (by kernel_rfl) (by kernel_rfl) (by kernel_rfl) (fun _ _ _ h => h) (Or.inl ⟨by rfl, ?_⟩) (by assumption) ?_
      rotate_left
      · intro W hSw
        try dsimp only at hSw
        go_simp
        try with_reducible rfl
      simp only [Act.put, List.setIfInBounds_toArray]
      refine wpAnyH_take (i := 1) (v := ?_) rfl (by kernel_rfl) (by kernel_rfl) (by kernel_rfl) (fun _ _ _ h => h) (Or.inl ⟨by rfl, ?_⟩) (by assumption) ?_
      rotate_left
      · intro W hSw
        try dsimp only at hSw
        go_simp
        try with_reducible rfl
      simp only [Act.put]
      refine wpAnyH_take (i := 2) (v := ?_) rfl (by kernel_rfl) (by kernel_rfl) (by kernel_rfl) (fun _ _ _ h => h) (Or.inl ⟨by rfl, ?_⟩) (by assumption) ?_
      rotate_left
      · intro W hSw
        try dsimp only at hSw
        go_simp
        try with_reducible rfl
      simp only [Act.put]
      refine wpAnyH_take (i := 4) (v := ?_) rfl (by kernel_rfl) (by kernel_rfl) (by kernel_rfl) (fun _ _ _ h => h) (Or.inl ⟨by rfl, ?_⟩) (by assumption) ?_
      rotate_left
      · intro W hSw
        try dsimp only at hSw
        go_simp
        try with_reducible rfl
      simp only [Act.put]
      refine wpAnyH_take (i := 5) (v := ?_) rfl (by kernel_rfl) (by kernel_rfl) (by kernel_rfl) (fun _ _ _ h => h) (Or.inl ⟨by rfl, ?_⟩) (by assumption) ?_
      rotate_left
      · intro W hSw
        try dsimp only at hSw
        go_simp
        try with_reducible rfl
      simp only [Act.put]
      refine wpAnyH_ready (rs := [3]) (by kernel_rfl) (by simp) ?_
      refine AllReadyH.cons rfl (fun K hK => ?_) AllReadyH.nil
      go_simp
      refine (firstWrong2_any v A B n m cap c2 L p gv gr (d.set j true) ws.drew RD HD LD PD HX HY HN hn6 hm3 hv2 HL HP).mono ?_
      rintro e w3 ⟨rfl, hb3⟩
      have N3 := Lib.hid (ND.out.below hb3)
      have B3 := Lib.hid (Below.tr BD.out hb3)
      refine hK.out _ _ ⟨N3.out.va.cell 0, N3.out.ck.cell 0, N3.out.ck.cell 1, N3.out.ck.cell 2⟩ (fun hHeld2 => ?_)
      clear hK K hb3
      rw [hW]
      try simp only [Act.put, List.setIfInBounds_toArray, List.set_cons_zero, List.set_cons_succ]
      refine wpAnyH_take (i := 6) (v := ?_) rfl (by kernel_rfl) (by kernel_rfl) (by kernel_rfl) (fun _ _ _ h => h) (Or.inl ⟨by rfl, ?_⟩) (by assumption) ?_
      rotate_left
      · intro W hSw
        try dsimp only at hSw
        go_simp
        try with_reducible rfl
      simp only [Act.put, List.setIfInBounds_toArray]
      refine wpAnyH_take (i := 7) (v := ?_) rfl (by kernel_rfl) (by kernel_rfl) (by kernel_rfl) (fun _ _ _ h => h) (Or.inl ⟨by rfl, ?_⟩) (by assumption) ?_
      rotate_left
      · intro W hSw
        try dsimp only at hSw
        go_simp
        try with_reducible rfl
      simp only [Act.put]
      have t1 : w3.cell? ⟨gr, j, none⟩ = some (.bool true) := N3.out.rm.there (by rw [List.getElem?_map, List.getElem?_set_self (by have := TI.out.2.1; omega)]; rfl)
      have f1 := N3.out.rm.frozen j
      have N4 := Lib.hid (N3.out.set j ((W : Int) == (m : Int)))
      have B4 := Lib.hid (B3.out.setCell (show w.heap.size ≤ gr from hlo.1) (.bool ((W : Int) == (m : Int))) (p := ⟨gr, j, none⟩))
      have TN2 : Hid (TInv L p j ((d.set j true).set j ((W : Int) == (m : Int)))) := Lib.hid (by
        have h := TN.out
        rw [hW, HY.out] at h
        rw [List.set_set]
        have e : ((W : Int) == (m : Int)) = decide (W = m) := by
          by_cases q : W = m
          · simp [q]
          · simp [q]; omega
        rw [e]
        exact h)
      clear TN N3 B3 hW
      refine wpAnyH_ready (rs := [8]) (by kernel_rfl) (by simp) ?_
      refine AllReadyH.cons rfl (fun K hK => ?_) AllReadyH.nil
      go_simp
      refine hK.out _ _ ⟨N4.out.va.cell 0, N4.out.ck.cell 0, N4.out.ck.cell 1, N4.out.ck.cell 2⟩ (fun hHeld3 => ?_)
      clear hK K
      refine wpAnyH_done (by kernel_rfl) ?_ _
      go_wp2
      go_roundw
      case rel => exact ⟨j, _, rfl, TN2.out, N4.out, B4.out⟩
      case measure => simp [intOf]
    | zero =>
      have DE : Hid (d = needD L p) := Lib.hid TI.out.done
      rw [show (((0 : Nat) : Int) - 1) = -1 from rfl]
      go_wp2_with fail
      obtain ⟨wo, hwo⟩ : ∃ x, x = wr := ⟨_, rfl⟩
      subst hwo
      have HDL : Hid (d.length = m) := Lib.hid (by rw [TI.out.2.1, HY.out])
      have NO := Lib.hid NWr.out
      have BO := Lib.hid BW.out
      clear NWr BW TI
      go_loopw [14, 53] (fun u i wr => ∃ (k q : Nat), k ≤ m ∧ i = .int .i64 k ∧ q ≤ k ∧ (∃ A2 c2, u = .slice A2 q c2 ∧ (idxN d k).length = q ∧ wr.ownsRow wo.heap.size 3 1 (.slice A2 q c2) q ((idxN d k).map (Value.int .i64))) ∧ Below wo.heap.size wo wr) (fun _ i _ => m - (intOf i).toNat)
      case atStart => exact ⟨0, 0, Nat.zero_le _, rfl, Nat.le_refl _, ⟨none, 0, rfl, rfl, World.ownsRow_nil _ _ _ _⟩, Below.refl _ _⟩
      case round =>
        obtain ⟨k, q, hk, rfl, hq, ⟨A2, d2, rfl, hql, hown⟩, hbw⟩ := hrel
        have OW := Lib.hid hown
        have QL := Lib.hid hql
        have BW := Lib.hid hbw
        have NW2 := Lib.hid (NO.out.below hbw)
        have RW := Lib.hid NW2.out.removed
        have t2 := NW2.out.ck.cell 2
        clear hown hql hbw
        by_cases hlt : k < m
        · obtain ⟨bd, hbd⟩ : ∃ x, d[k]? = some x := ⟨_, List.getElem?_eq_getElem (by have := HDL.out; omega)⟩
          have HB := Lib.hid hbd
          clear hbd
          cases bd
          · have HS := Lib.hid (idxN_keep HB.out)
            go_wp2_with (first
              | (go_at_call 59; refine (keep2_any gv gr m k d false _ RW HB HDL).mono ?_; rintro e w' ⟨rfl, rfl⟩)
              | (at_builtin; (refine wpList_append_lies _ rfl _ _ 40 rfl wo.heap.size 3 iI (.int .i64 0) 1 8 Try.underlying40 hiI hI0 hI1 hI2 rfl (by omega) _ q _ rfl (OW.out.alloc _) ⟨wr.heap.size, 0, none⟩ 1 1 [.int .i64 k] rfl rfl (one_new1 wr _ _) (by intro u hu; rw [List.mem_singleton.1 hu]; rfl) (by omega) (by unfold maxLen; omega) (by omega) (by have := BW.out.size; first | omega | (simp; omega)) (wr.heap.size + 1) (by first | rfl | simp) ?_; intro g3 cap3 w3 hown3 hg3 hat3 hlt3; have H3 := Lib.hid (app1 OW.out hown3 hg3 BW.out (Nat.le_refl _)); clear hown3 hg3 hat3 hlt3)))
            go_roundw
            case rel => exact ⟨k + 1, q + 1, by omega, by go_num, by omega, ⟨some ⟨g3, 0, none⟩, cap3, rfl, by rw [HS.out, List.length_append, QL.out]; rfl, by rw [HS.out]; exact H3.out.1⟩, H3.out.2⟩
            case measure => simp [intOf]; omega
          · have HS := Lib.hid (idxN_drop HB.out)
            go_wp2_with (go_at_call 59; refine (keep2_any gv gr m k d true _ RW HB HDL).mono ?_; rintro e w' ⟨rfl, rfl⟩)
            go_roundw
            case rel => exact ⟨k + 1, q, by omega, by go_num, by omega, ⟨A2, d2, rfl, by rw [HS.out]; exact QL.out, by rw [HS.out]; exact OW.out⟩, BW.out⟩
            case measure => simp [intOf]; omega
        · obtain rfl : k = m := by omega
          have ER : Hid (r = idxN d k) := Lib.hid (by rw [E.out, DE.out])
          go_wp2
          go_ret2
          have hrl : r.length = q := by rw [ER.out]; exact QL.out
          exact ⟨A2, d2, by rw [hrl]; rfl, by rw [hrl, ER.out]; exact own_base OW.out BO.out.size, Below.tr BO.out BW.out⟩

theorem NeedR.isno {v : Int} {L p : List (List Int)} {r : List Int} {ok : Bool} (h : NeedR v L p r ok) (hq : (goodB v L && proofB v p) = false) : r = [] ∧ ok = false := by
  obtain ⟨at_, ok0, h1, h2⟩ := h
  have := (h1.no hq).1
  subst this
  exact ⟨h2, rfl⟩
theorem NeedR.ok {v : Int} {L p : List (List Int)} {r : List Int} {ok : Bool} (h : NeedR v L p r ok) (h1 : goodB v L = true) (h2 : proofB v p = true) : ok = (decide (wrongF L p (zerosB p) = p.length) && endsB p) := by
  obtain ⟨at_, ok0, h3, _⟩ := h
  obtain ⟨e1, e2, _⟩ := h3.yes h1 h2
  rw [e2, e1]
set_option maxRecDepth 100000 in
set_option maxHeartbeats 8000000 in
theorem specNeed_any (v : Int) (A B : Option Addr) (n m cap c2 : Nat) (L p : List (List Int)) (w : World) (r : List Int) (ok : Bool) (hr : Hid (NeedR v L p r ok)) (hl : Hid (LLies w A L)) (hlN : Hid (LNil w A L)) (hl2 : Hid (LLies w B p)) (HX : Hid (L.length = n)) (HY : Hid (p.length = m)) (hn : n ≤ 9223372036854775807) (hm : m ≤ 9223372036854775807) :
    Calls Try.prog 28 #[.int .i64 v, .slice A n cap, .slice B m c2] w (GaveTwo w r ok) := by
  obtain ⟨i0, hi0, hz0, hz1, hz2⟩ := info_parts info_bool
  obtain ⟨iI, hiI, hI0, hI1, hI2⟩ := info_parts info_int
  cases q : (goodB v L && proofB v p)
  · have E := Lib.hid (hr.out.isno q)
    go_enter Try.func28, Try.ntmps28
    go_wp2_with (go_at_call 49; refine (l6Good_any v _ _ _ _ _ _ L p _ hl hl2 HX HY hn hm).mono ?_; rintro e w' ⟨rfl, rfl⟩; rw [q])
    go_ret2
    rw [E.out.1, E.out.2]
    exact two_nil _ _ (Below.refl _ _)
  have q' := q
  rw [Bool.and_eq_true] at q'
  have hv := goodB_v q'.1
  have hv2 : v ≤ 12 := hv.2
  have hm3 : m ≤ 300 := by have := proofB_len q'.2; have := HY.out; omega
  have hn6 : n ≤ 60 := by have := goodB_len q'.1; have := HX.out; omega
  have HL := Lib.hid (goodB_cl q'.1)
  have HP := Lib.hid (proofB_cl q'.2)
  have HD : Hid ((zerosB p).length = m) := Lib.hid (by unfold zerosB; rw [List.length_replicate]; exact HY.out)
  have EO := Lib.hid (hr.out.ok q'.1 q'.2)
  clear q' hv
  go_enter Try.func28, Try.ntmps28
  go_wp2_with (first
    | (go_at_call 49; refine (l6Good_any v _ _ _ _ _ _ L p _ hl hl2 HX HY hn hm).mono ?_; rintro e w' ⟨rfl, rfl⟩; rw [q])
    | (at_make; (refine wpList_make_full _ rfl _ _ 67 rfl w.heap.size 4 i0 _ 1 Try.underlying67 hi0 hz0 hz1 _ _ _ _ m rfl rfl (by omega) (by omega) (by rw [hz2]; omega) (by unfold maxLen; omega) (Nat.le_refl _) ?_; intro w1 hown1 hg1; have DZ := Lib.hid (made_zeros HY.out hown1); have B1 := Lib.hid ((Below.refl w.heap.size w).grown hg1 (Nat.le_refl _) (by simp)); clear hown1 hg1)))
  clear q
  have L1 := Lib.hid (hl.out.below B1.out)
  have N1 := Lib.hid (hlN.out.below hl.out B1.out)
  have P1 := Lib.hid (hl2.out.below B1.out)
  have D1 := Lib.hid DZ.out.blies
  refine (l6Check_any v _ _ _ _ _ _ _ _ L p (zerosB p) _ L1 N1 P1 D1 HX HY HD hn6 hm3 hv2 HL HP).mono ?_
  rintro e w2 ⟨rfl, hb2⟩
  have B2 := Lib.hid (Below.tr B1.out hb2)
  have DB := Lib.hid (DZ.out.below hb2)
  clear hb2 L1 N1 P1 D1 B1 DZ
  rw [← HY.out, ← EO.out, HY.out]
  cases ok
  · have E := Lib.hid (hr.out.no rfl)
    go_wp2
    go_ret2
    rw [E.out]
    exact two_nil _ _ B2.out
  have EB : Hid (endsB p = true) := Lib.hid (by have := EO.out.symm; rw [Bool.and_eq_true] at this; exact this.2)
  have hm0 : 0 < m := by
    rcases Nat.eq_zero_or_pos m with h | h
    · have h2 := HY.out
      rw [h] at h2
      have h3 := EB.out
      rw [List.eq_nil_of_length_eq_zero h2, endsB_nil] at h3
      simp at h3
    · exact h
  have E : Hid (r = idxN (needD L p) m) := Lib.hid (by rw [hr.out.yes rfl, HY.out])
  have TS : Hid (TInv L p (m - 1) (zerosB p)) := Lib.hid (by have := TInv.start L p; rw [HY.out] at this; exact this)
  obtain ⟨W0, hW0⟩ : ∃ W, wrongF L p (zerosB p) = W := ⟨_, rfl⟩
  rw [hW0]
  clear EO hW0
  go_wp2_with fail
  obtain ⟨gd, hgd⟩ : ∃ g, w.heap.size = g := ⟨_, rfl⟩
  rw [hgd] at DB ⊢
  have hlo : w.heap.size ≤ gd := by omega
  clear hgd
  go_loopw [11] (fun i wr => ∃ (j : Nat) (d : List Bool), i = .int .i64 ((j : Int) - 1) ∧ TInv L p j d ∧ Blk wr gd 4 (d.map Value.bool) ∧ Below w.heap.size w wr) (fun i _ => ((intOf i) + 1).toNat)
  case atStart => exact ⟨m - 1, zerosB p, by congr 1; omega, TS.out, DB.out, B2.out⟩
  case round =>
    clear DB B2 TS
    obtain ⟨j, d, rfl, hti, hdb, hbw⟩ := hrel
    have TI := Lib.hid hti
    have DW := Lib.hid hdb
    have BW := Lib.hid hbw
    have hjm : j ≤ m - 1 := by have := hti.2.2.2; have := HY.out; omega
    clear hti hdb hbw
    cases j with
    | succ j =>
      obtain ⟨_, _, hjl, hdj⟩ := TI.out.last
      have t1 : wr.cell? ⟨gd, j, none⟩ = some (.bool false) := DW.out.there (by rw [List.getElem?_map, hdj]; rfl)
      have f1 := DW.out.frozen j
      have hjj : (((j + 1 : Nat) : Int) - 1) = (j : Int) := by omega
      rw [hjj]
      have hge : decide ((j : Int) ≥ 0) = true := by simp
      have D1 : Hid (Blk (wr.setCell ⟨gd, j, none⟩ (.bool true)) gd 4 ((d.set j true).map Value.bool)) := Lib.hid (by rw [List.map_set]; exact DW.out.set _ _)
      have B1 := Lib.hid (BW.out.setCell hlo (.bool true) (p := ⟨gd, j, none⟩))
      have TN := Lib.hid (TI.out.try_ (by have := HY.out; omega))
      have hjm2 : j < m := by omega
      clear hdj
      go_wp2_with fail
      generalize wr.setCell ⟨gd, j, none⟩ (.bool true) = ws at D1 B1 ⊢
      clear t1 f1
      obtain ⟨W, hW⟩ : ∃ W, wrongF L p (d.set j true) = W := ⟨_, rfl⟩
      have L1 := Lib.hid (hl.out.below B1.out)
      have N1 := Lib.hid (hlN.out.below hl.out B1.out)
      have P1 := Lib.hid (hl2.out.below B1.out)
      have DD := Lib.hid D1.out.blies
      have HDS : Hid ((d.set j true).length = m) := Lib.hid (by rw [List.length_set, TI.out.2.1, HY.out])
      refine (l6Check_any v _ _ _ _ _ _ _ _ L p (d.set j true) _ L1 N1 P1 DD HX HY HDS hn6 hm3 hv2 HL HP).mono ?_
      rintro e w3 ⟨rfl, hb3⟩
      have B3 := Lib.hid (Below.tr B1.out hb3)
      have D3 := Lib.hid (D1.out.below hb3)
      rw [EB.out, hW]
      rw [hW, HY.out] at TN
      clear hb3 L1 N1 P1 DD hW
      by_cases hw : W = m
      · have hd : (decide (W = m) && true) = true := by simp [hw]
        rw [hd]
        have TN2 : Hid (TInv L p j (d.set j true)) := Lib.hid (by have h := TN.out; rw [decide_eq_true hw] at h; exact h)
        go_wp2
        go_roundw
        case rel => exact ⟨j, _, rfl, TN2.out, D3.out, B3.out⟩
        case measure => simp [intOf]
      · have hd : (decide (W = m) && true) = false := by simp [hw]
        rw [hd]
        have TN2 : Hid (TInv L p j ((d.set j true).set j false)) := Lib.hid (by have h := TN.out; rw [decide_eq_false hw] at h; rw [List.set_set]; exact h)
        have t1 : w3.cell? ⟨gd, j, none⟩ = some (.bool true) := D3.out.there (by rw [List.getElem?_map, List.getElem?_set_self (by have := TI.out.2.1; omega)]; rfl)
        have f1 := D3.out.frozen j
        have D4 : Hid (Blk (w3.setCell ⟨gd, j, none⟩ (.bool false)) gd 4 (((d.set j true).set j false).map Value.bool)) := Lib.hid (by rw [List.map_set]; exact D3.out.set _ _)
        have B4 := Lib.hid (B3.out.setCell hlo (.bool false) (p := ⟨gd, j, none⟩))
        go_wp2
        go_roundw
        case rel => exact ⟨j, _, rfl, TN2.out, D4.out, B4.out⟩
        case measure => simp [intOf]
    | zero =>
      have DE : Hid (d = needD L p) := Lib.hid TI.out.done
      rw [show (((0 : Nat) : Int) - 1) = -1 from rfl]
      go_wp2_with fail
      obtain ⟨wo, hwo⟩ : ∃ x, x = wr := ⟨_, rfl⟩
      subst hwo
      have HDL : Hid (d.length = m) := Lib.hid (by rw [TI.out.2.1, HY.out])
      have NO := Lib.hid DW.out.blies
      have BO := Lib.hid BW.out
      clear DW BW TI
      go_loopw [14, 58] (fun u i wr => ∃ (k q : Nat), k ≤ m ∧ i = .int .i64 k ∧ q ≤ k ∧ (∃ A2 c2, u = .slice A2 q c2 ∧ (idxN d k).length = q ∧ wr.ownsRow wo.heap.size 3 1 (.slice A2 q c2) q ((idxN d k).map (Value.int .i64))) ∧ Below wo.heap.size wo wr) (fun _ i _ => m - (intOf i).toNat)
      case atStart => exact ⟨0, 0, Nat.zero_le _, rfl, Nat.le_refl _, ⟨none, 0, rfl, rfl, World.ownsRow_nil _ _ _ _⟩, Below.refl _ _⟩
      case round =>
        obtain ⟨k, q, hk, rfl, hq, ⟨A2, d2, rfl, hql, hown⟩, hbw⟩ := hrel
        have OW := Lib.hid hown
        have QL := Lib.hid hql
        have BW := Lib.hid hbw
        have NW2 := Lib.hid (NO.out.below hbw)
        clear hown hql hbw
        by_cases hlt : k < m
        · obtain ⟨bd, hbd⟩ : ∃ x, d[k]? = some x := ⟨_, List.getElem?_eq_getElem (by have := HDL.out; omega)⟩
          obtain ⟨b5, off5, hA5, hbl5, ha5⟩ := NW2.out k bd hbd
          have hA5' : b5 = gd ∧ off5 = 0 := by simp at hA5; omega
          obtain ⟨rfl, rfl⟩ := hA5'
          rw [Nat.zero_add] at ha5
          have HB := Lib.hid hbd
          clear hbd hA5
          cases bd
          · have HS := Lib.hid (idxN_keep HB.out)
            go_wp2_with (at_builtin; (refine wpList_append_lies _ rfl _ _ 40 rfl wo.heap.size 3 iI (.int .i64 0) 1 8 Try.underlying40 hiI hI0 hI1 hI2 rfl (by omega) _ q _ rfl (OW.out.alloc _) ⟨wr.heap.size, 0, none⟩ 1 1 [.int .i64 k] rfl rfl (one_new1 wr _ _) (by intro u hu; rw [List.mem_singleton.1 hu]; rfl) (by omega) (by unfold maxLen; omega) (by omega) (by have := BW.out.size; first | omega | (simp; omega)) (wr.heap.size + 1) (by first | rfl | simp) ?_; intro g3 cap3 w3 hown3 hg3 hat3 hlt3; have H3 := Lib.hid (app1 OW.out hown3 hg3 BW.out (Nat.le_refl _)); clear hown3 hg3 hat3 hlt3))
            go_roundw
            case rel => exact ⟨k + 1, q + 1, by omega, by go_num, by omega, ⟨some ⟨g3, 0, none⟩, cap3, rfl, by rw [HS.out, List.length_append, QL.out]; rfl, by rw [HS.out]; exact H3.out.1⟩, H3.out.2⟩
            case measure => simp [intOf]; omega
          · have HS := Lib.hid (idxN_drop HB.out)
            go_wp2
            go_roundw
            case rel => exact ⟨k + 1, q, by omega, by go_num, by omega, ⟨A2, d2, rfl, by rw [HS.out]; exact QL.out, by rw [HS.out]; exact OW.out⟩, BW.out⟩
            case measure => simp [intOf]; omega
        · obtain rfl : k = m := by omega
          have ER : Hid (r = idxN d k) := Lib.hid (by rw [E.out, DE.out])
          go_wp2
          go_ret2
          have hrl : r.length = q := by rw [ER.out]; exact QL.out
          exact ⟨A2, d2, by rw [hrl]; rfl, by rw [hrl, ER.out]; exact own_base OW.out BO.out.size, Below.tr BO.out BW.out⟩

set_option maxRecDepth 100000 in
set_option maxHeartbeats 2000000 in
theorem clone1_any (A : Option Addr) (n cap : Nat) (l : List Int) (w : World) (hl : Hid (ILies w A l)) (HX : Hid (l.length = n)) (HN : Hid (A = none → n = 0 ∧ cap = 0)) (hn : n ≤ 1048576) :
    Calls Try.prog 58 #[.slice A n cap] w fun e w' => ∃ A2 c2, e = .returned (.slice A2 n c2) ∧ w'.ownsRow w.heap.size 3 1 (.slice A2 n c2) n (l.map (Value.int .i64)) ∧ Below w.heap.size w w' := by
  cases hA : A with
  | none =>
    obtain ⟨h0, h1⟩ := HN.out hA
    subst h0 h1 hA
    have HL : Hid (l = []) := Lib.hid (List.eq_nil_of_length_eq_zero HX.out)
    have hq : ∀ W : World, (binOp .eql 40 (.slice none 0 0) (.slice none 0 0)).run Try.prog W = .ok (.bool true) W := fun W => Lib.run_eql_slice_nil W 40 3 none 0 0 0 0 Try.underlying40
    go_enter Try.func58, Try.ntmps58
    go_wp2
    go_ret
    exact ⟨none, 0, rfl, by rw [HL.out]; exact World.ownsRow_nil _ _ _ _, Below.refl _ _⟩
  | some ad =>
    subst hA
    have hq : ∀ W : World, (binOp .eql 40 (.slice (some ad) n cap) (.slice none 0 0)).run Try.prog W = .ok (.bool false) W := fun W => Lib.run_eql_slice_nil W 40 3 (some ad) n cap 0 0 Try.underlying40
    go_enter Try.func58, Try.ntmps58
    go_wp2_with (at_builtin; (refine append_ints (w1 := w.alloc (.cells #[] 3)) (base := w.heap.size) (xs := []) (l := l) _ _ rfl rfl rfl rfl (World.ownsRow_lit w #[] 0 (Nat.le_refl _) (by unfold maxLen; omega) rfl) (hl.out.below (below1 w _)) HX.out (fun e => by cases e) (by simp) (by omega) (by omega) ?_; intro g2 c2 w2 ho2 hg2 hat2; have OW : Hid (w2.ownsRow w.heap.size 3 1 (.slice (some ⟨g2, 0, none⟩) n c2) n (l.map (Value.int .i64))) := Lib.hid (by simpa using ho2); have BW := Lib.hid ((below1 w _).grown hg2 (by simp) (fun g e => by cases e; exact Nat.le_refl _)); clear ho2 hg2 hat2))
    go_ret
    exact ⟨some ⟨g2, 0, none⟩, c2, rfl, OW.out, BW.out⟩
theorem atIdx_take {p : List (List Int)} {r : List Int} {k j : Nat} {c : List Int} (hr : r[k]? = some (j : Int)) (hp : p[j]? = some c) : (atIdx p r).take (k + 1) = (atIdx p r).take k ++ [c] := by
  have h := atIdx_at hr hp
  have h1 := (List.getElem?_eq_some_iff.1 h).1
  have h2 := (List.getElem?_eq_some_iff.1 h).2
  rw [List.take_succ_eq_append_getElem h1, h2]
set_option maxRecDepth 100000 in
set_option maxHeartbeats 8000000 in
theorem implTrim_any (v : Int) (A B : Option Addr) (n m cap c2 : Nat) (L p : List (List Int)) (w : World) (r : List (List Int)) (ok : Bool) (hr : Hid (TrimR v L p r ok)) (hl : Hid (LLies w A L)) (hl2 : Hid (LLies w B p)) (hl2N : Hid (LNil w B p)) (HX : Hid (L.length = n)) (HY : Hid (p.length = m)) (HN : Hid (A = none → n = 0 ∧ cap = 0)) (hn : n ≤ 9223372036854775807) (hm : m ≤ 9223372036854775807) :
    Calls Try.prog 25 #[.int .i64 v, .slice A n cap, .slice B m c2] w (GaveSB w r ok) := by
  obtain ⟨iS, hiS, hs0, hs1, hs2⟩ := info_parts info_ints
  obtain ⟨ix, hix, hrr⟩ := hr.out
  have hf := hix.few
  have NR := Lib.hid hix
  have RE := Lib.hid hrr
  clear hix hrr
  go_enter Try.func25, Try.ntmps25
  go_wp2_with fail
  refine (implNeed_any v _ _ _ _ _ _ L p _ ix ok NR hl hl2 HX HY HN hn hm).mono ?_
  rintro e w1 ⟨A1, d1, rfl, ho1, hb1⟩
  have O1 := Lib.hid (own_ilies ho1)
  have B1 := Lib.hid hb1
  clear ho1 hb1
  cases ok
  · have E : Hid (r = []) := Lib.hid (by rw [RE.out, NR.out.no rfl]; rfl)
    go_wp2
    go_ret2
    exact sb_no E.out rfl B1.out
  obtain ⟨q, hq⟩ : ∃ q, ix.length = q := ⟨_, rfl⟩
  rw [hq] at hf ⊢
  have HQ := Lib.hid hq
  have RL : Hid (r.length = q) := Lib.hid (by rw [RE.out, atIdx_len, hq])
  have hm3 : m ≤ 300 := by
    obtain ⟨_, _, h, _⟩ := NR.out
    have := proofB_len (h.acc rfl).2.1
    have := HY.out
    omega
  clear hq
  go_wp2_with (at_make; (refine wpList_make_full _ rfl _ _ 23 rfl w1.heap.size 40 iS _ 1 Try.underlying23 hiS hs0 hs1 _ _ _ _ q rfl rfl (by omega) (by omega) (by rw [hs2]; omega) (by unfold maxLen; omega) (Nat.le_refl _) ?_; intro w2 hown1 hg1; have HC := Lib.hid (SCopied.start (L := r) hown1); have BB := (Below.refl w1.heap.size w1).grown hg1 (Nat.le_refl _) (by simp); have HB := Lib.hid (Below.tr B1.out BB); have O2 := Lib.hid (O1.out.below BB); clear hown1 hg1 BB))
  have hxb := O1.out.blk
  obtain ⟨gt, hgt⟩ : ∃ g, w1.heap.size = g := ⟨_, rfl⟩
  rw [hgt] at hxb
  have XB := Lib.hid hxb
  clear hxb
  have hlo : w.heap.size ≤ gt := by have := B1.out.size; omega
  rw [hgt] at HC ⊢
  have hO2 : w2.heap.size ≤ w2.heap.size := Nat.le_refl _
  have hgw : gt < w2.heap.size := by obtain ⟨_, _, h, _⟩ := HC.out; exact h.lt
  clear hgt B1 O1 hO2
  go_loopw [27] (fun i wr => ∃ k : Nat, k ≤ q ∧ i = .int .i64 k ∧ SCopied gt q k r wr ∧ ILies wr A1 ix ∧ Below w.heap.size w wr) (fun i _ => q - (intOf i).toNat)
  case atStart => exact ⟨0, Nat.zero_le _, rfl, HC.out, O2.out, HB.out⟩
  case round =>
    obtain ⟨k, hk, rfl, ⟨vs, rest, hblk, hrl, hin⟩, hix, hb⟩ := hrel
    have HR := Lib.hid hrl
    have K1 := Lib.hid hblk
    have I1 := Lib.hid hin
    have B1 := Lib.hid hb
    have X1 := Lib.hid hix
    have V1 : Hid (vs.length = k) := Lib.hid (by have := hin.len; have := RL.out; rw [List.length_take] at *; omega)
    clear hblk hin hb hrl hix HC HB O2
    by_cases hlt : k < q
    · obtain ⟨x, hx⟩ : ∃ l, ix[k]? = some l := ⟨_, List.getElem?_eq_getElem (by have := HQ.out; omega)⟩
      obtain ⟨b, off, rfl, hbl, ha⟩ := X1.out k x hx
      obtain ⟨j, c, hxj, hpj, hcl⟩ := NR.out.at (List.mem_of_getElem? hx)
      subst hxj
      have hjm : j < m := by have := (List.getElem?_eq_some_iff.1 hpj).1; have := HY.out; omega
      obtain ⟨b3, off3, a3, cp3, rfl, hbl3, ha3, hca3, hma3, hil3⟩ := (hl2.out.below B1.out) j c hpj
      have HNI := Lib.hid ((hl2N.out.below hl2.out B1.out) j c hpj b3 off3 a3 c.length cp3 rfl ha3)
      have HK : Hid (r.take (k + 1) = r.take k ++ [c]) := Lib.hid (by rw [RE.out]; exact atIdx_take hx hpj)
      have IL := Lib.hid hil3
      clear hx hpj hil3
      obtain ⟨z, hz⟩ : ∃ m, c.length = m := ⟨_, rfl⟩
      rw [hz] at ha3 hcl hca3 hma3 HNI
      have HM := Lib.hid hz
      clear hz
      have f0 := K1.out.frozen k
      obtain ⟨v0, t0⟩ : ∃ v0, wr.cell? ⟨gt, k, none⟩ = some v0 := ⟨_, K1.out.there (List.getElem?_eq_getElem (by have := V1.out; have := HR.out; rw [List.length_append]; omega))⟩
      have hbk : gt < wr.heap.size := K1.out.lt
      go_wp2_with fail
      refine (clone1_any _ _ _ c _ IL HM HNI (by omega)).mono ?_
      rintro e w3 ⟨A4, c4, rfl, hb2, hbw2⟩
      have t1 : w3.cell? ⟨gt, k, none⟩ = some v0 := ((bcell hbw2).1 _ _ hbk).trans t0
      have f1 : w3.frozen? ⟨gt, k, none⟩ = false := ((bcell hbw2).2 _ _ hbk).trans f0
      have K2 := Lib.hid (K1.out.below hbw2)
      have N2 : Hid (Inner w3 (gt + 1) (vs ++ [.slice A4 z c4]) (r.take (k + 1))) := Lib.hid (by
        rw [HK.out, ← HM.out]
        refine (I1.out.below hbw2).snoc (b := wr.heap.size) ?_ (fun g hg => (I1.out.lt g hg).2) (fun g hg => (hb2.lt g (by rw [← HM.out]; exact hg)).1)
        rw [HM.out]
        exact own_base hb2 (by omega))
      have B2 := Lib.hid (Below.tr B1.out hbw2)
      have X2 := Lib.hid (X1.out.below hbw2)
      clear t0 f0 hb2 hbw2 K1 I1 B1 X1 ha
      go_wp2
      go_roundw
      case rel =>
        refine ⟨k + 1, by omega, by go_num, ⟨vs ++ [.slice A4 z c4], rest.drop 1, ?_, by have := HR.out; simp; omega, ?_⟩, X2.out.kept (Kept.set (g := gt) (j := k) (u := .slice A4 z c4)) (fun ad e pz q => by have := XB.out ad e pz; omega), B2.out.setCell hlo _⟩
        · have := K2.out.set k (.slice A4 z c4)
          have e : (vs ++ rest).set k (.slice A4 z c4) = (vs ++ [Value.slice A4 z c4]) ++ rest.drop 1 := by
            have := V1.out
            have := HR.out
            rw [List.set_append_right _ _ (by omega), show k - vs.length = 0 by omega, List.append_assoc, List.singleton_append]
            cases rest with
            | nil => simp at this; omega
            | cons y t => simp
          rw [e] at this
          exact this
        · exact N2.out.kept (Kept.set (g := gt) (j := k) (u := .slice A4 z c4)) (fun g hg q => by have := (N2.out.lt g hg).1; omega)
      case measure => simp [intOf]; omega
    · obtain rfl : k = q := by omega
      go_wp2
      go_ret2
      refine ⟨some ⟨gt, 0, none⟩, k, vs, by rw [RL.out]; rfl, ⟨?_, ?_, ?_⟩, B1.out⟩
      · have := K1.out
        have hr0 : rest = [] := List.eq_nil_of_length_eq_zero (by have := HR.out; omega)
        rw [hr0, List.append_nil] at this
        rw [RL.out]
        exact own_base (own_of_vblk this V1.out (by omega)) hlo
      · have := I1.out
        rw [List.take_of_length_le (by have := RL.out; omega)] at this
        exact this.base (by omega)
      · intro g hg q
        have := (I1.out.lt g hg).1
        simp [Value.ownBlock] at q
        omega
set_option maxRecDepth 100000 in
set_option maxHeartbeats 8000000 in
theorem specTrim_any (v : Int) (A B : Option Addr) (n m cap c2 : Nat) (L p : List (List Int)) (w : World) (r : List (List Int)) (ok : Bool) (hr : Hid (TrimR v L p r ok)) (hl : Hid (LLies w A L)) (hlN : Hid (LNil w A L)) (hl2 : Hid (LLies w B p)) (hl2N : Hid (LNil w B p)) (HX : Hid (L.length = n)) (HY : Hid (p.length = m)) (hn : n ≤ 9223372036854775807) (hm : m ≤ 9223372036854775807) :
    Calls Try.prog 26 #[.int .i64 v, .slice A n cap, .slice B m c2] w (GaveSB w r ok) := by
  obtain ⟨iS, hiS, hs0, hs1, hs2⟩ := info_parts info_ints
  obtain ⟨ix, hix, hrr⟩ := hr.out
  have hf := hix.few
  have NR := Lib.hid hix
  have RE := Lib.hid hrr
  clear hix hrr
  go_enter Try.func26, Try.ntmps26
  go_wp2_with fail
  refine (specNeed_any v _ _ _ _ _ _ L p _ ix ok NR hl hlN hl2 HX HY hn hm).mono ?_
  rintro e w1 ⟨A1, d1, rfl, ho1, hb1⟩
  have O1 := Lib.hid (own_ilies ho1)
  have B1 := Lib.hid hb1
  clear ho1 hb1
  cases ok
  · have E : Hid (r = []) := Lib.hid (by rw [RE.out, NR.out.no rfl]; rfl)
    go_wp2
    go_ret2
    exact sb_no E.out rfl B1.out
  obtain ⟨q, hq⟩ : ∃ q, ix.length = q := ⟨_, rfl⟩
  rw [hq] at hf ⊢
  have HQ := Lib.hid hq
  have RL : Hid (r.length = q) := Lib.hid (by rw [RE.out, atIdx_len, hq])
  have hm3 : m ≤ 300 := by
    obtain ⟨_, _, h, _⟩ := NR.out
    have := proofB_len (h.acc rfl).2.1
    have := HY.out
    omega
  have P1 := Lib.hid (hl2.out.below B1.out)
  have PN := Lib.hid (hl2N.out.below hl2.out B1.out)
  clear hq
  go_wp2_with fail
  go_loopw [10, 24] (fun u i wr => ∃ (k : Nat), k ≤ q ∧ i = .int .i64 k ∧ (∃ A2 c2 vs, u = .slice A2 k c2 ∧ OwnSS wr w1.heap.size (.slice A2 k c2) vs (r.take k)) ∧ Below w1.heap.size w1 wr) (fun _ i _ => q - (intOf i).toNat)
  case atStart => exact ⟨0, Nat.zero_le _, rfl, ⟨none, 0, [], rfl, OwnSS.nil _ _⟩, Below.refl _ _⟩
  case round =>
    obtain ⟨k, hk, rfl, ⟨A2, d2, vs, rfl, hown⟩, hbw⟩ := hrel
    have OW := Lib.hid hown
    have BW := Lib.hid hbw
    have LW := Lib.hid (P1.out.below hbw)
    have NW := Lib.hid (PN.out.below P1.out hbw)
    have XW := Lib.hid (O1.out.below hbw)
    have TK : Hid ((r.take k).length = k) := Lib.hid (by rw [List.length_take]; have := RL.out; omega)
    have OU : Hid (wr.ownsRow w1.heap.size 40 1 (.slice A2 k d2) k vs) := Lib.hid (by have h := OW.out.outer; rw [TK.out] at h; exact h)
    clear hown hbw
    by_cases hlt : k < q
    · obtain ⟨x, hx⟩ : ∃ l, ix[k]? = some l := ⟨_, List.getElem?_eq_getElem (by have := HQ.out; omega)⟩
      obtain ⟨b, off, rfl, hbl, ha⟩ := XW.out k x hx
      obtain ⟨j, c, hxj, hpj, hcl⟩ := NR.out.at (List.mem_of_getElem? hx)
      subst hxj
      have hjm : j < m := by have := (List.getElem?_eq_some_iff.1 hpj).1; have := HY.out; omega
      obtain ⟨b3, off3, a3, cp3, rfl, hbl3, ha3, hca3, hma3, hil3⟩ := LW.out j c hpj
      have HNI := Lib.hid (NW.out j c hpj b3 off3 a3 c.length cp3 rfl ha3)
      have HSN : Hid (r.take (k + 1) = r.take k ++ [c]) := Lib.hid (by rw [RE.out]; exact atIdx_take hx hpj)
      have IL := Lib.hid hil3
      clear hx hpj hil3
      obtain ⟨z, hz⟩ : ∃ m, c.length = m := ⟨_, rfl⟩
      rw [hz] at ha3 hcl hca3 hma3 HNI
      have HM := Lib.hid hz
      clear hz
      go_wp2_with (first
        | (at_builtin; (refine append_ints (w1 := wr.alloc (.cells #[] 3)) (base := wr.heap.size) (xs := []) (l := c) _ _ rfl rfl rfl rfl (World.ownsRow_lit wr #[] 0 (Nat.le_refl _) (by unfold maxLen; omega) rfl) (IL.out.below (below1 wr _)) HM.out HNI.out (by simp) (by omega) (by omega) ?_; intro g3 c3 w3 ho3 hg3 hat3; have O3 : Hid (w3.ownsRow wr.heap.size 3 1 (.slice (some ⟨g3, 0, none⟩) z c3) z (c.map (Value.int .i64))) := Lib.hid (by simpa using ho3); have B3 := Lib.hid ((below1 wr _).grown hg3 (by simp) (fun g e => by cases e; exact Nat.le_refl _)); have OU3 := Lib.hid (own_below OU.out B3.out); rw [Nat.zero_add]; clear ho3 hg3 hat3))
        | (at_builtin; (refine wpList_append_lies _ rfl _ _ 23 rfl w1.heap.size 40 iS (.slice none 0 0) 1 24 Try.underlying23 hiS hs0 hs1 hs2 rfl (by omega) _ k _ rfl (OU3.out.alloc _) ⟨w3.heap.size, 0, none⟩ 1 1 [.slice (some ⟨g3, 0, none⟩) z c3] rfl rfl (one_new1 w3 _ _) (by intro u hu; rw [List.mem_singleton.1 hu]; rfl) (by omega) (by unfold maxLen; omega) (by omega) (by have := B3.out.size; have := BW.out.size; first | omega | (simp; omega)) (w3.heap.size + 1) (by first | rfl | simp) ?_; intro g4 cap4 w4 hown4 hg4 hat4 hlt4; have H4 := Lib.hid (OwnSS.grow (o := c) (c3 := c3) (A3 := some ⟨g3, 0, none⟩) TK.out OW.out BW.out B3.out (by rw [HM.out]; exact O3.out) (by rw [HM.out]; exact hown4) (by rw [HM.out]; exact hg4) hat4); clear hown4 hg4 hat4 hlt4)))
      go_roundw
      case rel => exact ⟨k + 1, by omega, by go_num, ⟨some ⟨g4, 0, none⟩, cap4, _, rfl, by rw [HSN.out]; exact H4.out.1⟩, H4.out.2⟩
      case measure => simp [intOf]; omega
    · obtain rfl : k = q := by omega
      have EL : Hid (r.take k = r) := Lib.hid (List.take_of_length_le (by have := RL.out; omega))
      go_wp2
      go_ret2
      refine ⟨A2, d2, vs, by rw [RL.out]; rfl, ?_, Below.tr B1.out BW.out⟩
      have := OW.out
      rw [EL.out] at this
      rw [RL.out]
      exact ⟨own_base this.outer B1.out.size, this.inner.base B1.out.size, this.off⟩
end Go.Proofs.Ytkkoeeoalkjhoaa
