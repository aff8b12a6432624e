/-
  The program's functions over diagrams: DiagramOf, TableOf, EvalDiagram, NotOf, BothOf, FixVar, ByClauses.
-/
import Derived.Test.YthhmacocijcjiaaDg2
namespace Go.Proofs.Ythhmacocijcjiaa
open Go.ChangeShapes Go.WideShapes Go.ChangeAt Go.RowKit Go.Maps

/-- it answers a diagram of its own and a flag -/
def GaveDg (w : World) (d0 : Int) (ds : List Nd) (d2 : Int) (ok : Bool) (e : Ending) (w' : World) : Prop :=
  ∃ A c, e = .returned (.tuple #[.agg #[.int .i64 d0, .slice A ds.length c, .int .i64 d2], .bool ok]) ∧ w'.ownsRow w.heap.size 59 3 (.slice A ds.length c) ds.length (ncells ds) ∧ Below w.heap.size w w'
/-- the diagram of a table, as an answer -/
def dvOf (n : Nat) (T : List Bool) : (Int × List Nd × Int) × Bool := (((n : Int), (dgm n T).2, ((dgm n T).1 : Int)), true)
def dv0 : (Int × List Nd × Int) × Bool := ((0, [], 0), false)
theorem own_of_nblk {w : World} {g n : Nat} {xs : List Nd} (h : Blk w g 59 (ncells xs)) (hx : xs.length = n) (hn : n ≤ 1048576) : w.ownsRow g 59 3 (.slice (some ⟨g, 0, none⟩) n n) n (ncells xs) := by
  refine ⟨by rw [ncells_len, hx], .inr ⟨g, n, (ncells xs).toArray, rfl, Nat.le_refl _, h, Nat.le_refl _, by unfold maxLen; omega, by simp [ncells_len, hx], ?_⟩⟩
  exact List.take_of_length_le (by simp [ncells_len, hx])
theorem own_baseN {w : World} {base base' s n : Nat} {t : TypeId} {v : Value} {xs : List Value} (h : w.ownsRow base t s v n xs) (hb : base' ≤ base) : w.ownsRow base' t s v n xs := by
  refine ⟨h.1, ?_⟩
  rcases h.2 with q | ⟨g, cap, cur, rfl, hg, rest⟩
  · exact .inl q
  · exact .inr ⟨g, cap, cur, rfl, Nat.le_trans hb hg, rest⟩
theorem gaveDg_zero {w w' : World} {d0 d2 : Int} {ds : List Nd} {ok : Bool} (h : dv0 = ((d0, ds, d2), ok)) (hb : Below w.heap.size w w') : GaveDg w d0 ds d2 ok (.returned (.tuple #[.agg #[.int .i64 0, .slice none 0 0, .int .i64 0], .bool false])) w' := by
  unfold dv0 at h
  simp only [Prod.mk.injEq] at h
  obtain ⟨⟨rfl, rfl, rfl⟩, rfl⟩ := h
  exact ⟨none, 0, rfl, World.ownsRow_nil _ _ _ _, hb⟩
theorem gaveDg_blk {w w' : World} {n k g : Nat} {ms : List Nd} {T : List Bool} {d0 d2 : Int} {ds : List Nd} {ok : Bool} (h : dvOf n T = ((d0, ds, d2), ok)) (hd : dgm n T = (k, ms)) (hg : w.heap.size ≤ g) (hk : Blk w' g 59 (ncells ms)) (hl : ms.length ≤ 64) (hb : Below w.heap.size w w') :
    GaveDg w d0 ds d2 ok (.returned (.tuple #[.agg #[.int .i64 n, .slice (some ⟨g, 0, none⟩) ms.length ms.length, .int .i64 k], .bool true])) w' := by
  unfold dvOf at h
  rw [hd] at h
  simp only [Prod.mk.injEq] at h
  obtain ⟨⟨rfl, rfl, rfl⟩, rfl⟩ := h
  exact ⟨_, _, rfl, own_baseN (own_of_nblk hk rfl (by omega)) hg, hb⟩
theorem dgm_len {n : Nat} {T : List Bool} {k : Nat} {ms : List Nd} (hn : n ≤ 6) (hl : T.length = 2 ^ n) (h : dgm n T = (k, ms)) : ms.length ≤ 64 := by
  have := (dgm_facts hl h).2.2.2.1
  have := pow_le6 hn
  omega
def rDiag (n : Int) (T : List Bool) : (Int × List Nd × Int) × Bool := if deepB n && decide (T.length = 2 ^ n.toNat) then dvOf n.toNat T else dv0
/-- the diagram's block behind a call, its cells -/
theorem blk_cells {w : World} {g : Nat} {t : TypeId} {a b c : Value} (h : Blk w g t [a, b, c]) : w.cell? ⟨g, 0, none⟩ = some a ∧ w.cell? ⟨g, 1, none⟩ = some b ∧ w.cell? ⟨g, 2, none⟩ = some c ∧ w.frozen? ⟨g, 0, none⟩ = false ∧ w.frozen? ⟨g, 1, none⟩ = false ∧ w.frozen? ⟨g, 2, none⟩ = false ∧ g < w.heap.size :=
  ⟨h.cell 0, h.cell 1, h.cell 2, h.frozen 0, h.frozen 1, h.frozen 2, h.lt⟩
/-- two lists, the first up to k -/
def mixL (U T : List Bool) (k : Nat) : List Bool := U.take k ++ T.drop k
theorem mixL_zero (U T : List Bool) : mixL U T 0 = T := by simp [mixL]
theorem mixL_end {U T : List Bool} {k : Nat} (h : U.length ≤ k) (h2 : T.length ≤ k) : mixL U T k = U := by simp [mixL, List.take_of_length_le h, List.drop_of_length_le h2]
theorem mixL_at {U T : List Bool} {k : Nat} (h : k ≤ U.length) : (mixL U T k)[k]? = T[k]? := by
  unfold mixL
  rw [List.getElem?_append_right (by simp [Nat.min_le_left]), List.getElem?_drop]
  simp [Nat.min_eq_left h]
theorem mixL_set {U T : List Bool} {k : Nat} {x : Bool} (hx : U[k]? = some x) (h2 : k < T.length) : (mixL U T k).set k x = mixL U T (k + 1) := by
  have hlt : k < U.length := (List.getElem?_eq_some_iff.1 hx).1
  have e : U[k] = x := (List.getElem?_eq_some_iff.1 hx).2
  unfold mixL
  rw [List.drop_eq_getElem_cons h2, List.set_append_right _ _ (by simp; omega), List.take_succ_eq_append_getElem hlt, e, List.length_take, Nat.min_eq_left (Nat.le_of_lt hlt), Nat.sub_self, List.set_cons_zero, List.append_assoc]
  rfl
theorem mixL_len {U T : List Bool} {k : Nat} (h : U.length = T.length) (hk : k ≤ T.length) : (mixL U T k).length = T.length := by
  unfold mixL
  simp
  omega
theorem Blk.bset {w : World} {g j : Nat} {l : List Bool} {x : Bool} (h : Blk w g 4 (l.map Value.bool)) : Blk (w.setCell ⟨g, j, none⟩ (.bool x)) g 4 ((l.set j x).map Value.bool) := by
  have := h.set j (.bool x)
  rw [List.map_set]
  exact this
set_option maxRecDepth 100000 in
set_option maxHeartbeats 4000000 in
theorem implDiag_any (n : Int) (A : Option Addr) (m c : Nat) (T : List Bool) (w : World) (d0 : Int) (ds : List Nd) (d2 : Int) (ok : Bool) (HR : Hid (rDiag n T = ((d0, ds, d2), ok))) (hbl : Hid (BLies w A T)) (HM : Hid (T.length = m)) :
    Calls Try.prog 15 #[.int .i64 n, .slice A m c] w fun e w' => GaveDg w d0 ds d2 ok e w' := by
  cases hd : deepB n
  · have E : Hid (dv0 = ((d0, ds, d2), ok)) := Lib.hid (by rw [← HR.out]; simp [rDiag, hd])
    go_enter Try.func15, Try.ntmps15
    go_wp2_with (go_at_call 59; refine (isDeep_any n _).mono ?_; rintro e w' ⟨rfl, rfl⟩; rw [hd])
    exact bodyPost_ret (v := .tuple #[.agg #[.int .i64 0, .slice none 0 0, .int .i64 0], .bool false]) (by simp [results, Try.results15, go_sem]) rfl (gaveDg_zero E.out (below1 _ _))
  have ha0 : 0 ≤ n ∧ n ≤ 6 := by simp [deepB] at hd; omega
  obtain ⟨p, rfl⟩ : ∃ p : Nat, n = p := ⟨n.toNat, by omega⟩
  have hp6 : p ≤ 6 := by omega
  obtain ⟨q, hq⟩ : ∃ q, 2 ^ p = q := ⟨_, rfl⟩
  have HQ := Lib.hid hq
  have hq64 : q ≤ 64 := by rw [← hq]; exact pow_le6 hp6
  have hsh := shl_one p (by omega)
  rw [hq] at hsh
  have hsh2 : IntKind.i64.wrap (2 ^ p) = (q : Int) := by rw [← hsh, Int.one_mul]
  have hsh3 : wrap64 (2 ^ p) = (q : Int) := by
    have e : (2 : Int) ^ p = (q : Int) := by rw [← hq]; push_cast; rfl
    rw [e]
    unfold wrap64
    omega
  clear hq
  by_cases hmq : m = q
  · subst hmq
    have E : Hid (dvOf p T = ((d0, ds, d2), ok)) := Lib.hid (by rw [← HR.out]; simp [rDiag, hd, HM.out, HQ.out])
    have hne : ((m : Int) != (m : Int)) = false := by simp
    obtain ⟨k, ms, hkm⟩ : ∃ k ms, dgm p T = (k, ms) := ⟨_, _, rfl⟩
    have DK := Lib.hid hkm
    have hml := dgm_len hp6 (by rw [HM.out, HQ.out]) hkm
    have L1 : Hid (BLies (w.alloc (.cells #[.int .i64 0, .slice none 0 0, .int .i64 0] 28)) A T) := Lib.hid (hbl.out.below (below1 _ _))
    clear hkm
    go_enter Try.func15, Try.ntmps15
    go_wp2_with (first
      | (go_at_call 59; refine (isDeep_any p _).mono ?_; rintro e w' ⟨rfl, rfl⟩; rw [hd])
      | fail)
    refine (diagramOf_any p A m c T _ k ms hp6 HM HQ L1 DK).mono ?_
    rintro e w2 ⟨gd, rfl, hgd, hdk, hb2⟩
    have hRB : Blk w2 w.heap.size 28 [.int .i64 0, .slice none 0 0, .int .i64 0] := Blk.below (heap_alloc_new w _) hb2
    have hgd2 : w.heap.size < gd := by simp at hgd; omega
    have hB2 := Below.tr (below1 w _) hb2
    obtain ⟨q0, q1, q2, y0, y1, y2, hRl⟩ := blk_cells hRB
    have HRB := Lib.hid hRB
    have HDK := Lib.hid hdk
    have BFW := Lib.hid hB2
    clear hdk
    go_wp2
    have hfin := dg_store HRB.out (.int .i64 p) (.slice (some ⟨gd, 0, none⟩) ms.length ms.length) (.int .i64 k)
    have hBK := HDK.out.kept1 hfin.1 (by omega)
    have hBB := hfin.1.below BFW.out BFW.out.size (fun i e => by omega)
    obtain ⟨W', hW'⟩ : ∃ W', W' = (((w2.setCell ⟨w.heap.size, 0, none⟩ (.int .i64 p)).setCell ⟨w.heap.size, 1, none⟩ (.slice (some ⟨gd, 0, none⟩) ms.length ms.length)).setCell ⟨w.heap.size, 2, none⟩ (.int .i64 k)) := ⟨_, rfl⟩
    rw [← hW'] at hfin hBK hBB ⊢
    obtain ⟨_, r0, r1, r2⟩ := hfin
    exact bodyPost_ret (v := .tuple #[.agg #[.int .i64 p, .slice (some ⟨gd, 0, none⟩) ms.length ms.length, .int .i64 k], .bool true]) (by simp [results, Try.results15, go_sem, r0, r1, r2]) rfl (gaveDg_blk E.out DK.out (by omega) hBK hml hBB)
  · have E : Hid (dv0 = ((d0, ds, d2), ok)) := Lib.hid (by rw [← HR.out]; simp [rDiag, HM.out, HQ.out, hmq])
    have hne : ((m : Int) != (q : Int)) = true := by simp; omega
    go_enter Try.func15, Try.ntmps15
    go_wp2_with (go_at_call 59; refine (isDeep_any p _).mono ?_; rintro e w' ⟨rfl, rfl⟩; rw [hd])
    exact bodyPost_ret (v := .tuple #[.agg #[.int .i64 0, .slice none 0 0, .int .i64 0], .bool false]) (by simp [results, Try.results15, go_sem]) rfl (gaveDg_zero E.out (below1 _ _))
def rTab (a : Int) (ns : List Nd) (r : Int) (T : List Bool) (ok : Bool) : Prop := ok = goodDB a ns r ∧ T = if ok then tabL a.toNat ns r else []
theorem rTab_len {a : Int} {ns : List Nd} {r : Int} {T : List Bool} {ok : Bool} (h : rTab a ns r T ok) : T.length ≤ 64 := by
  obtain ⟨rfl, rfl⟩ := h
  split
  · rename_i hg
    have hg := goodDB_true.1 hg
    rw [tabL_len]
    exact pow_le6 (by have := hg.2.1; omega)
  · simp
set_option maxRecDepth 100000 in
set_option maxHeartbeats 4000000 in
theorem implTab_any (a r : Int) (A : Option Addr) (n c : Nat) (ns : List Nd) (w : World) (T : List Bool) (ok : Bool) (HR : Hid (rTab a ns r T ok)) (hl : Hid (NLies w A ns)) (HX : Hid (ns.length = n)) (hn : n ≤ 1048576) :
    Calls Try.prog 18 #[.agg #[.int .i64 a, .slice A n c, .int .i64 r]] w fun e w' => ∃ A2 c2, e = .returned (.tuple #[.slice A2 T.length c2, .bool ok]) ∧ w'.ownsRow w.heap.size 4 1 (.slice A2 T.length c2) T.length (T.map Value.bool) ∧ Below w.heap.size w w' := by
  have L1 : Hid (NLies (w.alloc (.cells #[.int .i64 a, .slice A n c, .int .i64 r] 28)) A ns) := Lib.hid (hl.out.below (below1 _ _))
  cases hg : goodDB a ns r
  · have E : Hid (T = [] ∧ ok = false) := Lib.hid (by obtain ⟨h1, h2⟩ := HR.out; rw [hg] at h1; rw [h1] at h2; exact ⟨h2, h1⟩)
    obtain ⟨rfl, rfl⟩ := E.out
    go_enter Try.func18, Try.ntmps18
    go_wp2_with (go_at_call 23; refine (implGoodD_any a r A n c ns _ L1 HX hn).mono ?_; rintro e w1 ⟨rfl, hb1⟩; rw [hg]; have B1 := Lib.hid (Below.tr (below1 w _) hb1); clear hb1)
    go_ret2
    exact ⟨none, 0, rfl, World.ownsRow_nil _ _ _ _, B1.out⟩
  have hgd := goodDB_true.1 hg
  obtain ⟨p, rfl⟩ : ∃ p : Nat, a = p := ⟨a.toNat, by have := hgd.1; omega⟩
  have hp6 : p ≤ 6 := by have := hgd.2.1; omega
  have HF := Lib.hid hgd.2.2.1
  obtain ⟨q, hq⟩ : ∃ q, 2 ^ p = q := ⟨_, rfl⟩
  have HQ := Lib.hid hq
  have hq64 : q ≤ 64 := by rw [← hq]; exact pow_le6 hp6
  have E : Hid (T = tabL p ns r ∧ ok = true) := Lib.hid (by obtain ⟨h1, h2⟩ := HR.out; rw [hg] at h1; rw [h1] at h2; exact ⟨by simpa using h2, h1⟩)
  obtain ⟨rfl, rfl⟩ := E.out
  have TL : Hid ((tabL p ns r).length = q) := Lib.hid (by rw [tabL_len, hq])
  rw [TL.out]
  clear hq hgd
  go_enter Try.func18, Try.ntmps18
  go_wp2_with (go_at_call 23; refine (implGoodD_any p r A n c ns _ L1 HX hn).mono ?_; rintro e w1 ⟨rfl, hb1⟩; rw [hg]; have B1 := Lib.hid (Below.tr (below1 w _) hb1); have L2 := Lib.hid (L1.out.below hb1); obtain ⟨t0, t1, t2, _, _, _, hwl⟩ := blk_cells (Blk.below (heap_alloc_new w (.cells #[.int .i64 p, .slice A n c, .int .i64 r] 28)) hb1 : Blk w1 w.heap.size 28 [.int .i64 p, .slice A n c, .int .i64 r]); clear hb1)
  refine (tableOf_any p r A n c ns q _ L2 HX hn HF hp6 HQ).mono ?_
  rintro e w2 ⟨rfl, hk2, hb2⟩
  have K2 := Lib.hid hk2
  have B2 := Lib.hid (Below.tr B1.out hb2)
  have hsz := B1.out.size
  clear hk2 hb2
  go_wp2
  go_ret2
  exact ⟨_, _, rfl, own_baseN (own_of_vblk K2.out (by simp [TL.out]) (by omega)) (by omega), B2.out⟩
theorem blk_second (w : World) (o : Obj) (cs : List Value) {t : TypeId} : Blk ((w.alloc o).alloc (.cells cs.toArray t (0, 0))) (w.heap.size + 1) t cs := by
  have := heap_alloc_new (w.alloc o) (.cells cs.toArray t (0, 0))
  rw [show (w.alloc o).heap.size = w.heap.size + 1 by simp] at this
  exact this
/-- what NotOf answers -/
noncomputable def rNot (a : Int) (ns : List Nd) (r : Int) : (Int × List Nd × Int) × Bool := if goodDB a ns r then dvOf a.toNat ((tabL a.toNat ns r).map not) else dv0
set_option maxRecDepth 100000 in
set_option maxHeartbeats 8000000 in
theorem implNot_any (a r : Int) (A : Option Addr) (n c : Nat) (ns : List Nd) (w : World) (d0 : Int) (ds : List Nd) (d2 : Int) (ok : Bool) (HR : Hid (rNot a ns r = ((d0, ds, d2), ok))) (hl : Hid (NLies w A ns)) (HX : Hid (ns.length = n)) (hn : n ≤ 1048576) :
    Calls Try.prog 22 #[.agg #[.int .i64 a, .slice A n c, .int .i64 r]] w fun e w' => GaveDg w d0 ds d2 ok e w' := by
  have L1 : Hid (NLies ((w.alloc (.cells #[.int .i64 a, .slice A n c, .int .i64 r] 28)).alloc (.cells #[.int .i64 0, .slice none 0 0, .int .i64 0] 28)) A ns) := Lib.hid (hl.out.below (below2 _ _ _))
  have K0 : Hid (Blk ((w.alloc (.cells #[.int .i64 a, .slice A n c, .int .i64 r] 28)).alloc (.cells #[.int .i64 0, .slice none 0 0, .int .i64 0] 28)) w.heap.size 28 [.int .i64 a, .slice A n c, .int .i64 r]) := Lib.hid (Blk.below (heap_alloc_new w _) (below1 _ _))
  have KR : Hid (Blk ((w.alloc (.cells #[.int .i64 a, .slice A n c, .int .i64 r] 28)).alloc (.cells #[.int .i64 0, .slice none 0 0, .int .i64 0] 28)) (w.heap.size + 1) 28 [.int .i64 0, .slice none 0 0, .int .i64 0]) := Lib.hid (blk_second w _ _)
  cases hg : goodDB a ns r
  · have E : Hid (dv0 = ((d0, ds, d2), ok)) := Lib.hid (by rw [← HR.out]; simp [rNot, hg])
    go_enter Try.func22, Try.ntmps22
    go_wp2_with fail
    refine (implGoodD_any a r A n c ns _ L1 HX hn).mono ?_
    rintro e w1 ⟨rfl, hb1⟩
    rw [hg]
    have hRB := KR.out.below hb1
    have hB1 := Below.tr (below2 w _ _) hb1
    obtain ⟨q0, q1, q2, y0, y1, y2, hRl⟩ := blk_cells hRB
    have HRB := Lib.hid hRB
    have BFW := Lib.hid hB1
    go_wp2
    have hfin := dg_store HRB.out (.int .i64 0) (.slice none 0 0) (.int .i64 0)
    have hBB := hfin.1.below BFW.out BFW.out.size (fun i e => by omega)
    obtain ⟨W', hW'⟩ : ∃ W', W' = (((w1.setCell ⟨w.heap.size + 1, 0, none⟩ (.int .i64 0)).setCell ⟨w.heap.size + 1, 1, none⟩ (.slice none 0 0)).setCell ⟨w.heap.size + 1, 2, none⟩ (.int .i64 0)) := ⟨_, rfl⟩
    rw [← hW'] at hfin hBB ⊢
    obtain ⟨_, r0, r1, r2⟩ := hfin
    exact bodyPost_ret (v := .tuple #[.agg #[.int .i64 0, .slice none 0 0, .int .i64 0], .bool false]) (by simp [results, Try.results22, go_sem, r0, r1, r2]) rfl (gaveDg_zero E.out hBB)
  have hgd := goodDB_true.1 hg
  obtain ⟨p, rfl⟩ : ∃ p : Nat, a = p := ⟨a.toNat, by have := hgd.1; omega⟩
  have hp6 : p ≤ 6 := by have := hgd.2.1; omega
  have HF := Lib.hid hgd.2.2.1
  obtain ⟨q, hq⟩ : ∃ q, 2 ^ p = q := ⟨_, rfl⟩
  have HQ := Lib.hid hq
  have hq64 : q ≤ 64 := by rw [← hq]; exact pow_le6 hp6
  obtain ⟨T, hT⟩ : ∃ T, tabL p ns r = T := ⟨_, rfl⟩
  have hTl : T.length = q := by rw [← hT, tabL_len, hq]
  have E : Hid (dvOf p (T.map not) = ((d0, ds, d2), ok)) := Lib.hid (by rw [← HR.out, ← hT]; simp [rNot, hg])
  obtain ⟨k, ms, hkm⟩ : ∃ k ms, dgm p (T.map not) = (k, ms) := ⟨_, _, rfl⟩
  have DK := Lib.hid hkm
  have hml := dgm_len hp6 (by rw [List.length_map, hTl, HQ.out]) hkm
  have TL := Lib.hid hTl
  have UL : Hid ((T.map not).length = q) := Lib.hid (by rw [List.length_map, hTl])
  have HTT := Lib.hid hT
  clear hkm hq hT hTl hgd
  go_enter Try.func22, Try.ntmps22
  go_wp2_with fail
  refine (implGoodD_any p r A n c ns _ L1 HX hn).mono ?_
  rintro e w1 ⟨rfl, hb1⟩
  rw [hg]
  have B1 := Lib.hid (Below.tr (below2 w _ _) hb1)
  have L2 := Lib.hid (L1.out.below hb1)
  have K1 := Lib.hid (K0.out.below hb1)
  have R1 := Lib.hid (KR.out.below hb1)
  obtain ⟨t0, t1, t2, _, _, _, hwl⟩ := blk_cells K1.out
  clear hb1
  go_wp2_with fail
  refine (tableOf_any p r A n c ns q _ L2 HX hn HF hp6 HQ).mono ?_
  rw [HTT.out]
  rintro e w2 ⟨rfl, hk2, hb2⟩
  have B2 := Lib.hid (Below.tr B1.out hb2)
  have K2 := Lib.hid (K1.out.below hb2)
  have R2 := Lib.hid (R1.out.below hb2)
  have T2 := Lib.hid hk2
  have hg1 : w.heap.size + 1 < w1.heap.size := R1.out.lt
  clear hk2 hb2 t0 t1 t2
  obtain ⟨g, hgg⟩ : ∃ g, w1.heap.size + 1 = g := ⟨_, rfl⟩
  rw [hgg] at T2 ⊢
  have hg2 : w.heap.size + 1 < g := by omega
  clear hgg
  go_wp2_with fail
  go_loopw [15] (fun i wr => ∃ j : Nat, j ≤ q ∧ i = .int .i64 j ∧ Blk wr g 4 ((mixL (T.map not) T j).map Value.bool) ∧ Kept w2 wr (fun i => i = g)) (fun i _ => q - (intOf i).toNat)
  case atStart => exact ⟨0, Nat.zero_le _, rfl, by rw [mixL_zero]; exact T2.out, Kept.refl _ _⟩
  case round =>
    obtain ⟨j, hj, rfl, hb, hkp⟩ := hrel
    have M1 := Lib.hid hb
    have P1 := Lib.hid hkp
    clear hb hkp
    by_cases hlt : j < q
    · obtain ⟨x, hx⟩ : ∃ x, T[j]? = some x := ⟨_, List.getElem?_eq_getElem (by rw [TL.out]; exact hlt)⟩
      have c0 : wr.cell? ⟨g, j, none⟩ = some (.bool x) := by rw [M1.out.cell, List.getElem?_map, mixL_at (by rw [UL.out]; omega), hx]; rfl
      have f0 := M1.out.frozen j
      have MS := Lib.hid (mixL_set (U := T.map not) (T := T) (k := j) (x := !x) (by simp [hx]) (by rw [TL.out]; exact hlt))
      have hgl := M1.out.lt
      clear hx
      go_wp2
      go_roundw
      case rel => exact ⟨j + 1, by omega, by go_num, by rw [← MS.out]; exact M1.out.bset, P1.out.trans Kept.set⟩
      case measure => simp [intOf]; omega
    · obtain rfl : j = q := by omega
      have M2 : Hid (Blk wr g 4 ((T.map not).map Value.bool)) := Lib.hid (by rw [← mixL_end (U := T.map not) (T := T) (k := j) (by rw [UL.out]; exact Nat.le_refl _) (by rw [TL.out]; exact Nat.le_refl _)]; exact M1.out)
      have BW := Lib.hid (P1.out.below B2.out B2.out.size (fun i e => by omega))
      have K3 := P1.out.blk K2.out (by omega)
      have R3 := Lib.hid (P1.out.blk R2.out (by omega))
      obtain ⟨t0, t1, t2, _, _, _, hwl3⟩ := blk_cells K3
      clear K3
      go_wp2_with fail
      refine (diagramOf_any p _ j j (T.map not) _ k ms hp6 UL HQ (Lib.hid M2.out.blies) DK).mono ?_
      rintro e w3 ⟨gd, rfl, hgd, hdk, hb3⟩
      have hRB := R3.out.below hb3
      have hB3 := Below.tr BW.out hb3
      have hgd2 : w.heap.size + 1 < gd := by have := R3.out.lt; omega
      clear hb3
      obtain ⟨q0, q1, q2, y0, y1, y2, hRl⟩ := blk_cells hRB
      have HRB := Lib.hid hRB
      have HDK := Lib.hid hdk
      have BFW := Lib.hid hB3
      clear hdk
      go_wp2
      have hfin := dg_store HRB.out (.int .i64 p) (.slice (some ⟨gd, 0, none⟩) ms.length ms.length) (.int .i64 k)
      have hBK := HDK.out.kept1 hfin.1 (by omega)
      have hBB := hfin.1.below BFW.out BFW.out.size (fun i e => by omega)
      obtain ⟨W', hW'⟩ : ∃ W', W' = (((w3.setCell ⟨w.heap.size + 1, 0, none⟩ (.int .i64 p)).setCell ⟨w.heap.size + 1, 1, none⟩ (.slice (some ⟨gd, 0, none⟩) ms.length ms.length)).setCell ⟨w.heap.size + 1, 2, none⟩ (.int .i64 k)) := ⟨_, rfl⟩
      rw [← hW'] at hfin hBK hBB ⊢
      obtain ⟨_, r0, r1, r2⟩ := hfin
      exact bodyPost_ret (v := .tuple #[.agg #[.int .i64 p, .slice (some ⟨gd, 0, none⟩) ms.length ms.length, .int .i64 k], .bool true]) (by simp [results, Try.results22, go_sem, r0, r1, r2]) rfl (gaveDg_blk E.out DK.out (by omega) hBK hml hBB)
end Go.Proofs.Ythhmacocijcjiaa
