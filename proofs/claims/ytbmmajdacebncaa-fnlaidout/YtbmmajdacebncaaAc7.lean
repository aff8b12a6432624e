/-
  Layers through a channel: layersFrom.
-/
import Derived.Test.YtbmmajdacebncaaAc6
import Derived.Test.YtbmmajdacebncaaAcComm
import Derived.Deep.DeepCutAuto
namespace Go.Proofs.Ytbmmajdacebncaa
open Go.ChangeShapes Go.WideShapes Go.ChangeAt Go.RowKit
open Go.Conc

/-- layers in a row -/
def lyc (E : Nat → Nat → Bool) (n f k : Nat) : List Value := (List.range k).flatMap (fun i => lcells (wk E n f i))
theorem lyc_len (E : Nat → Nat → Bool) (n f k : Nat) : (lyc E n f k).length = k * 6 := by
  induction k with
  | zero => rfl
  | succ k ih => unfold lyc at *; rw [List.range_succ, List.flatMap_append, List.length_append, ih]; simp [lcells]; omega
theorem lyc_succ (E : Nat → Nat → Bool) (n f k : Nat) : lyc E n f (k + 1) = lyc E n f k ++ lcells (wk E n f k) := by unfold lyc; rw [List.range_succ, List.flatMap_append]; simp
theorem lyc_at {E : Nat → Nat → Bool} {n f k i j : Nat} (hi : i < k) (hj : j < 6) : (lyc E n f k)[i * 6 + j]? = some (.int .i64 (wk E n f i j : Nat)) := by
  induction k with
  | zero => omega
  | succ k ih =>
    rw [lyc_succ]
    rcases Nat.lt_or_ge i k with q | q
    · rw [List.getElem?_append_left (by rw [lyc_len]; omega)]
      exact ih q
    · have : i = k := by omega
      subst this
      rw [List.getElem?_append_right (by rw [lyc_len]; omega), lyc_len, Nat.add_sub_cancel_left]
      exact lcells_at _ hj
/-- a channel of capacity one -/
def ChanAt (w : World) (g : Nat) (buf : Array Value) (s r : Nat) : Prop := w.heap[g]? = some (.chan 1 buf false s r false)
theorem ChanAt.lt {w : World} {g s r : Nat} {buf : Array Value} (h : ChanAt w g buf s r) : g < w.heap.size := (Array.getElem?_eq_some_iff.1 h).1
theorem ChanAt.below {w w' : World} {g s r : Nat} {buf : Array Value} (h : ChanAt w g buf s r) (hb : Below w.heap.size w w') : ChanAt w' g buf s r := (hb.block g h.lt).trans h
theorem ChanAt.far {w : World} {g g' j s r : Nat} {buf : Array Value} (h : ChanAt w g buf s r) (hne : g ≠ g') (u : Value) : ChanAt (w.setCell ⟨g', j, none⟩ u) g buf s r := (Below.heap_setCell w ⟨g', j, none⟩ u g hne).trans h
theorem ChanAt.put {w : World} {g s r : Nat} {buf : Array Value} (h : ChanAt w g buf s r) (buf' : Array Value) (s' r' : Nat) : ChanAt (w.setChan g 1 buf' false s' r' false) g buf' s' r' := heap_setChan w g 1 buf' false s' r' false h.lt
theorem heap_chan_ne (w : World) (c : Nat) (buf : Array Value) (s r k : Nat) (h : k ≠ c) : (w.setChan c 1 buf false s r false).heap[k]? = w.heap[k]? := by
  simp only [World.setChan]
  rw [Array.getElem?_setIfInBounds_ne (by omega)]
theorem Blk.chan {w : World} {g c s r : Nat} {t : TypeId} {cs : List Value} {buf : Array Value} (h : Blk w g t cs) (hne : g ≠ c) : Blk (w.setChan c 1 buf false s r false) g t cs := (heap_chan_ne w c buf s r g hne).trans h
theorem own_chan {w : World} {base size n c s r : Nat} {e : TypeId} {v : Value} {xs : List Value} {buf : Array Value} (h : w.ownsRow base e size v n xs) (hc : c < base) : (w.setChan c 1 buf false s r false).ownsRow base e size v n xs := by
  refine ⟨h.1, ?_⟩
  rcases h.2 with q | ⟨g, cap, cur, rfl, hg, hgg, rest⟩
  · exact .inl q
  · exact .inr ⟨g, cap, cur, rfl, hg, (heap_chan_ne w c buf s r g (by omega)).trans hgg, rest⟩
theorem info_layer : (Try.prog.info? 80).map (fun i => (i.zero, i.size, i.bytes)) = some (some (.agg #[.int .i64 0, .int .i64 0, .int .i64 0, .int .i64 0, .int .i64 0, .int .i64 0]), 6, 48) := by kernel_rfl
theorem mk_layer (w : World) : (Instr.makeChan 90 (.int .i64 1)).run Try.prog w = .ok (.chan (some w.heap.size)) (w.alloc (.chan 1 #[] false 0 0 false)) := by
  obtain ⟨i0, hi0, _, _, hz2⟩ := info_parts info_layer
  simpa using run_makeChan (P := Try.prog) (w := w) Try.underlying90 hi0 .i64 1 (by omega) (by rw [hz2]; omega)
theorem wk_zero (E : Nat → Nat → Bool) (n f : Nat) : wk E n f 0 = fun j => if j = f then 1 else 0 := rfl
theorem lcells_one (g : Nat → Nat) : ∀ u ∈ lcells g, u.oneCell' = true := by intro u hu; simp [lcells] at hu; rcases hu with rfl | rfl | rfl | rfl | rfl | rfl <;> rfl
/-- an append of one layer to a row of one's own -/
theorem append_layer {v : World} {bs k c : Nat} {A : Option Addr} {xs : List Value} {R : Nat → Nat} {ops : Array Oper} {rest : List Oper} {o : Oper} {a : Act} {Q : Exit → Act → World → Prop} (s t : Operand) (G : Nat) (hG : v.heap.size = G)
    (hg : o.guard = none) (hop : o.op = Op.call { callee := Callee.builtin Builtin.append, args := #[s, t], argTypes := #[81, 81] })
    (hs : a.eval s = .slice A k c) (ht : a.eval t = .slice (some ⟨G, 0, none⟩) 1 1) (ho : v.ownsRow bs 80 6 (.slice A k c) k xs)
    (hbv : bs ≤ v.heap.size) (hk : k ≤ 10000000)
    (hK : ∀ g cc w', w'.ownsRow bs 80 6 (.slice (some ⟨g, 0, none⟩) (k + 1) cc) (k + 1) (xs ++ lcells R) → (v.alloc (.cells (lcells R).toArray 80)).grownBy w' (Value.slice A k c).ownBlock → wpList Try.prog ops Q rest (a.put o.dst (.slice (some ⟨g, 0, none⟩) (k + 1) cc)) w') :
    wpList Try.prog ops Q (o :: rest) a (v.alloc (.cells #[.int .i64 (R 0 : Nat), .int .i64 (R 1 : Nat), .int .i64 (R 2 : Nat), .int .i64 (R 3 : Nat), .int .i64 (R 4 : Nat), .int .i64 (R 5 : Nat)] 80)) := by
  obtain ⟨i0, hi0, hz0, hz1, hz2⟩ := info_parts info_layer
  subst hG
  refine wpList_append_lies _ hg _ _ 81 hop bs 80 i0 _ 6 48 Try.underlying81 hi0 hz0 hz1 hz2 rfl (by omega) _ k _ hs (ho.alloc _) ⟨v.heap.size, 0, none⟩ 1 1 (lcells R) ht rfl (by exact World.news_of_block (heap_alloc_new v _)) (lcells_one _) (by omega) (by unfold maxLen; omega) (by omega) (by simp; omega) (v.heap.size + 1) (by simp) ?_
  intro g cc w' h1 h2 _ _
  exact hK g cc w' h1 h2
/-- the length of a slice -/
def slLen : Value → Nat
  | .slice _ n _ => n
  | _ => 0
/-- what waits in the channel behind j layers of c -/
def Waits (w : World) (G : Nat) (E : Nat → Nat → Bool) (n f c j : Nat) : Prop :=
  if j < c then ChanAt w G #[lval (wk E n f j)] (j + 1) j else ChanAt w G #[] c c
theorem Waits.yes {w : World} {G n f c j : Nat} {E : Nat → Nat → Bool} (h : Waits w G E n f c j) (hj : j < c) : ChanAt w G #[lval (wk E n f j)] (j + 1) j := by unfold Waits at h; rwa [if_pos hj] at h
theorem Waits.no {w : World} {G n f c j : Nat} {E : Nat → Nat → Bool} (h : Waits w G E n f c j) (hj : ¬ j < c) : ChanAt w G #[] c c := by unfold Waits at h; rwa [if_neg hj] at h
set_option maxRecDepth 100000 in
set_option maxHeartbeats 4000000 in
theorem layers_any (n f c : Nat) (A : Option Addr) (m cap : Nat) (l : AL) (w : World) (g : Hid (GoodA n l)) (hf : f < n) (hc : 1 ≤ c ∧ c ≤ 8) (hl : Hid (ALies w A l)) (HX : Hid (l.length = m)) :
    Calls Try.prog 61 #[.slice A m cap, .int .i64 f, .int .i64 c] w fun e w' => (∃ A2 c2, e = .returned (.slice A2 c c2) ∧ w'.ownsRow w.heap.size 80 6 (.slice A2 c c2) c (lyc (arcE l) n f c)) ∧ Below w.heap.size w w' := by
  have hm30 : m ≤ 30 := by rw [← HX.out]; exact g.out.len
  have hf6 : (f : Int) < 6 := by have := g.out.hi; omega
  go_enter Try.func61, Try.ntmps61
  have hmk := mk_layer
  go_upto_region 2 with fail
  obtain ⟨w1, hw1⟩ : ∃ W, W = w.alloc (.cells (lcells (fun _ => 0)).toArray 80) := ⟨_, rfl⟩
  have hb1 : Below w.heap.size w w1 := by rw [hw1]; exact below1 _ _
  have hk1 : Blk w1 w.heap.size 80 (lcells (fun _ => 0)) := by rw [hw1]; exact new_blk _ _ _ _ rfl
  have hz1 : w1.heap.size = w.heap.size + 1 := by rw [hw1]; simp
  have hw1' : w.alloc (.cells #[.int .i64 0, .int .i64 0, .int .i64 0, .int .i64 0, .int .i64 0, .int .i64 0] 80) = w1 := hw1.symm
  rw [hw1']
  clear hw1 hw1'
  have B1 := Lib.hid hb1
  have K1 := Lib.hid hk1
  have Z1 := Lib.hid hz1
  have t1 := (hk1.cell f).trans (lcells_at _ (by omega))
  have f1 := hk1.frozen f
  clear hb1 hk1 hz1
  go_upto_region 3 with fail
  obtain ⟨w2, hw2⟩ : ∃ W, W = w1.setCell ⟨w.heap.size, f, none⟩ (.int .i64 1) := ⟨_, rfl⟩
  have hb2 : Below w.heap.size w w2 := by rw [hw2]; exact B1.out.setCell (Nat.le_refl _) _
  have hk2 : Blk w2 w.heap.size 80 (lcells (wk (arcE l) n f 0)) := by
    have := K1.out.set f (.int .i64 ((1 : Nat) : Int))
    rw [lcells_set _ (by omega)] at this
    rw [hw2, wk_zero]
    exact this
  have hz2 : w2.heap.size = w.heap.size + 1 := by rw [hw2]; simpa using Z1.out
  rw [← hw2]
  have B2 := Lib.hid hb2
  have K2 := Lib.hid hk2
  have Z2 := Lib.hid hz2
  clear hw2 t1 f1 K1 B1 Z1 hb2 hk2 hz2
  go_upto_region 4 with fail
  rw [Z2.out]
  obtain ⟨w3, hw3⟩ : ∃ W, W = w2.alloc (.chan 1 #[] false 0 0 false) := ⟨_, rfl⟩
  have hb3 : Below w2.heap.size w2 w3 := by rw [hw3]; exact below1 _ _
  have hc3 : ChanAt w3 (w.heap.size + 1) #[] 0 0 := by rw [hw3, ← Z2.out]; exact heap_alloc_new _ _
  have hz3 : w3.heap.size = w.heap.size + 1 + 1 := by rw [hw3]; simpa using Z2.out
  rw [← hw3]
  have B3 := Lib.hid (Below.tr B2.out hb3)
  have K3 := Lib.hid (K2.out.below hb3)
  have Z3 := Lib.hid hz3
  have C3 := Lib.hid hc3
  clear hw3 hb3 hc3 hz3 K2 B2 Z2
  have y0 := K3.out.cell 0
  have y1 := K3.out.cell 1
  have y2 := K3.out.cell 2
  have y3 := K3.out.cell 3
  have y4 := K3.out.cell 4
  have y5 := K3.out.cell 5
  simp only [lcells, List.getElem?_cons_zero, List.getElem?_cons_succ] at y0 y1 y2 y3 y4 y5
  rename_i K hK
  refine opsWp_region ?_
  show OpsWp _ _ _ [0, 1, 2] _ _
  refine opsWp_val (v := .chan (some (w.heap.size + 1))) (w' := w3) rfl rfl (by go_simp) ?_
  walk_nrm
  refine opsWp_val (v := lval (wk (arcE l) n f 0)) (w' := w3) rfl rfl (by unfold lval; go_simp) ?_
  walk_nrm
  refine opsWp_talk rfl rfl (talks_send (c := w.heap.size + 1) (v := lval (wk (arcE l) n f 0)) (z := .tuple #[]) (w₁ := w3) (by simp [go_sem, execOp, scase, Act.eval]) C3.out (by simp)) ?_
  walk_nrm
  refine opsWp_nil ?_
  refine hK _ _ ?_
  clear hK K y0 y1 y2 y3 y4 y5
  obtain ⟨w4, hw4⟩ : ∃ W, W = w3.setChan (w.heap.size + 1) 1 #[lval (wk (arcE l) n f 0)] false 1 0 false := ⟨_, rfl⟩
  have hb4 : Below w.heap.size w w4 := by rw [hw4]; exact below_setChan B3.out (Nat.le_succ _) _ _ _ _ _ _
  have hc4 : ChanAt w4 (w.heap.size + 1) #[lval (wk (arcE l) n f 0)] 1 0 := by rw [hw4]; exact C3.out.put _ _ _
  have hz4 : w4.heap.size = w.heap.size + 1 + 1 := by rw [hw4, size_setChan]; exact Z3.out
  rw [← hw4]
  have W4 : Hid (Waits w4 (w.heap.size + 1) (arcE l) n f c 0) := Lib.hid (by unfold Waits; rw [if_pos (by omega)]; exact hc4)
  have B4 := Lib.hid hb4
  have Z4 := Lib.hid hz4
  clear hw4 hb4 hc4 hz4 B3 C3 K3 Z3 hmk
  generalize lval (wk (arcE l) n f 0) = L0
  go_wp2_with fail
  go_loopw [9] (fun v wr => ∃ (j : Nat) (A2 : Option Addr) (c2 : Nat), j ≤ c ∧ v = .slice A2 j c2 ∧ wr.ownsRow (w.heap.size + 1 + 1) 80 6 (.slice A2 j c2) j (lyc (arcE l) n f j) ∧ Waits wr (w.heap.size + 1) (arcE l) n f c j ∧ Below w.heap.size w wr ∧ w.heap.size + 1 + 1 ≤ wr.heap.size) (fun v _ => c - slLen v)
  case atStart => exact ⟨0, none, 0, Nat.zero_le _, rfl, World.ownsRow_nil _ _ _ _, W4.out, B4.out, by rw [Z4.out]; exact Nat.le_refl _⟩
  case round =>
    obtain ⟨j, A2, c2, hj, rfl, hown, hwt, hb, hsz⟩ := hrel
    have O1 := Lib.hid hown
    have B1 := Lib.hid hb
    have W1 := Lib.hid hwt
    have HSZ := Lib.hid hsz
    clear hown hb hwt hsz W4 B4 Z4
    by_cases hlt : j < c
    · have CH := Lib.hid (W1.out.yes hlt)
      go_upto_region 7 with fail
      rename_i K hK
      refine opsWp_region ?_
      show OpsWp _ _ _ [0, 1, 2] _ _
      refine opsWp_talk rfl rfl (talks_one (c := w.heap.size + 1) (cap := 1) (z := lval (fun _ => 0)) (w₁ := wr) (by simp [go_sem, execOp, rcase, Act.eval, lval]) CH.out) ?_
      walk_nrm
      obtain ⟨w5, hw5⟩ : ∃ W, W = wr.setChan (w.heap.size + 1) 1 #[] false (j + 1) (j + 1) false := ⟨_, rfl⟩
      have hb5 : Below w.heap.size w w5 := by rw [hw5]; exact below_setChan B1.out (Nat.le_succ _) _ _ _ _ _ _
      have hc5 : ChanAt w5 (w.heap.size + 1) #[] (j + 1) (j + 1) := by rw [hw5]; exact CH.out.put _ _ _
      have ho5 : w5.ownsRow (w.heap.size + 1 + 1) 80 6 (.slice A2 j c2) j (lyc (arcE l) n f j) := by rw [hw5]; exact own_chan O1.out (by omega)
      have hs5 : w.heap.size + 1 + 1 ≤ w5.heap.size := by rw [hw5, size_setChan]; exact HSZ.out
      rw [← hw5]
      have B5 := Lib.hid hb5
      have C5 := Lib.hid hc5
      have O5 := Lib.hid ho5
      have S5 := Lib.hid hs5
      clear hw5 hb5 hc5 ho5 hs5 B1 W1 O1 HSZ CH
      refine opsWp_val (v := .int .i64 0) (w' := w5) rfl rfl (by go_simp) ?_
      walk_nrm
      refine opsWp_val (v := .bool true) (w' := w5) rfl rfl (by go_simp) ?_
      walk_nrm
      refine opsWp_nil ?_
      refine hK _ _ ?_
      clear hK K
      have hs5 := S5.out
      obtain ⟨R, hR⟩ : ∃ R, wk (arcE l) n f j = R := ⟨_, rfl⟩
      have HR := Lib.hid hR
      rw [hR]
      clear hR
      unfold lval
      obtain ⟨w5a, hw5a⟩ : ∃ W, W = w5.alloc (.cells (lcells R).toArray 80) := ⟨_, rfl⟩
      have N5 : Hid (∀ w6 : World, ((w5.alloc (.cells (lcells R).toArray 80)).alloc (.cells (lcells R).toArray 80)).grownBy w6 (Value.slice A2 j c2).ownBlock → Below w.heap.size w w6 ∧ ChanAt w6 (w.heap.size + 1) #[] (j + 1) (j + 1) ∧ Blk w6 w5.heap.size 80 (lcells R) ∧ w.heap.size + 1 + 1 ≤ w6.heap.size) := Lib.hid (fun w6 hg => by
        have hown : ∀ g, (Value.slice A2 j c2).ownBlock = some g → w.heap.size + 1 + 1 ≤ g ∧ g < w5.heap.size := fun g h => O5.out.lt g h
        have hB := (Below.tr B5.out (below2 w5 _ _)).grown hg (by have := B5.out.size; simp; omega) (fun g h => by have := hown g h; omega)
        have hk : Kept ((w5.alloc (.cells (lcells R).toArray 80)).alloc (.cells (lcells R).toArray 80)) w6 (fun i => (Value.slice A2 j c2).ownBlock = some i) := Kept.of_grown hg (fun g h => h)
        refine ⟨hB, ?_, hk.blk (Blk.below (new_blk w5 80 (lcells R) _ rfl) (below1 _ _)) (fun h => by have := hown _ h; omega), by have := hg.size; simp at this; omega⟩
        have h1 := C5.out.below (below2 w5 (.cells (lcells R).toArray 80) (.cells (lcells R).toArray 80))
        exact (hg.block _ h1.lt (fun h => by have := hown _ h.symm; omega)).trans h1)
      clear hw5a w5a
      have LY : Hid (lyc (arcE l) n f (j + 1) = lyc (arcE l) n f j ++ lcells R) := Lib.hid (by rw [lyc_succ, HR.out])
      by_cases hlast : j + 1 < c
      · have hjc : ((j : Int) + 1) < (c : Int) := by omega
        go_upto_region 12 with (at_builtin; (refine append_layer (R := R) (xs := lyc (arcE l) n f j) _ _ (w5.heap.size + 1) (by simp) rfl rfl rfl rfl (O5.out.alloc _) (by simp; omega) (by omega) ?_; intro g6 c6 w6 ho6 hg6; have N6 := Lib.hid (N5.out w6 hg6); have O6 := Lib.hid ho6; clear hg6 ho6))
        obtain ⟨hb6, hc6, hk6, hs6⟩ := N6.out
        have B6 := Lib.hid hb6
        have C6 := Lib.hid hc6
        have S6 := Lib.hid hs6
        have y0 := hk6.cell 0
        have y1 := hk6.cell 1
        have y2 := hk6.cell 2
        have y3 := hk6.cell 3
        have y4 := hk6.cell 4
        have y5 := hk6.cell 5
        simp only [lcells, List.getElem?_cons_zero, List.getElem?_cons_succ] at y0 y1 y2 y3 y4 y5
        clear hb6 hc6 hk6 hs6 N6 N5
        have hnx : Calls Try.prog 71 #[lval R, .slice A m cap] w6 (fun e w' => ∃ v, e = .returned v ∧ (v = lval (wk (arcE l) n f (j + 1)) ∧ Below w6.heap.size w6 w')) := by
          rw [← HR.out]
          exact (nextL_any n f j A m cap l w6 g (by omega) (Lib.hid (hl.out.below B6.out)) HX).mono (fun e w7 h => ⟨_, h.1, rfl, h.2⟩)
        refine opsWp_region ?_
        show OpsWp _ _ _ [0, 1, 2, 3, 4] _ _
        refine opsWp_val (v := .chan (some (w.heap.size + 1))) (w' := w6) rfl rfl (by go_simp) ?_
        walk_nrm
        refine opsWp_val (v := lval R) (w' := w6) rfl rfl (by unfold lval; go_simp) ?_
        walk_nrm
        refine opsWp_val (v := .slice A m cap) (w' := w6) rfl rfl (by go_simp) ?_
        walk_nrm
        refine opsWp_call (f := 71) (args := #[lval R, .slice A m cap]) (w' := w6) (R := fun v w7 => v = lval (wk (arcE l) n f (j + 1)) ∧ Below w6.heap.size w6 w7) rfl rfl (by simp [go_sem, execOp, Act.eval]) hnx ?_
        rintro v w7 ⟨rfl, hb7⟩
        walk_nrm
        have B7 := Lib.hid (Below.tr B6.out hb7)
        have C7 := Lib.hid (C6.out.below hb7)
        have O7 := Lib.hid (own_below O6.out hb7)
        have S7 : Hid (w.heap.size + 1 + 1 ≤ w7.heap.size) := Lib.hid (Nat.le_trans S6.out hb7.size)
        clear hb7 B6 C6 O6 S6 y0 y1 y2 y3 y4 y5
        refine opsWp_talk rfl rfl (talks_send (c := w.heap.size + 1) (v := lval (wk (arcE l) n f (j + 1))) (z := .tuple #[]) (w₁ := w7) (by simp [go_sem, execOp, scase, Act.eval]) C7.out (by simp)) ?_
        walk_nrm
        refine opsWp_nil ?_
        clear hnx
        obtain ⟨w8, hw8⟩ : ∃ W, W = w7.setChan (w.heap.size + 1) 1 #[lval (wk (arcE l) n f (j + 1))] false (j + 1 + 1) (j + 1) false := ⟨_, rfl⟩
        have hb8 : Below w.heap.size w w8 := by rw [hw8]; exact below_setChan B7.out (Nat.le_succ _) _ _ _ _ _ _
        have hc8 : ChanAt w8 (w.heap.size + 1) #[lval (wk (arcE l) n f (j + 1))] (j + 1 + 1) (j + 1) := by rw [hw8]; exact C7.out.put _ _ _
        have ho8 := own_chan (buf := #[lval (wk (arcE l) n f (j + 1))]) (s := j + 1 + 1) (r := j + 1) O7.out (Nat.lt_succ_self (w.heap.size + 1))
        rw [← hw8] at ho8
        have hs8 : w.heap.size + 1 + 1 ≤ w8.heap.size := by rw [hw8, size_setChan]; exact S7.out
        have hw8' : w7.setChan (w.heap.size + 1) 1 #[lval (wk (arcE l) n f (j + 1))] false (j + 1 + 1) (j + 1) false = w8 := hw8.symm
        rw [hw8']
        clear hw8 hw8' B7 C7 O7 S7
        have W8 : Hid (Waits w8 (w.heap.size + 1) (arcE l) n f c (j + 1)) := Lib.hid (by unfold Waits; rw [if_pos hlast]; exact hc8)
        have B8 := Lib.hid hb8
        have O8 := Lib.hid ho8
        have S8 := Lib.hid hs8
        clear hb8 hc8 ho8 hs8
        go_roundw
        case rel => exact ⟨_, .slice (some ⟨g6, 0, none⟩) (j + 1) c6, _, _, _, _, _, _, _, _, _, _, _, _, _, _, _, _, _, _, _, ⟨j + 1, _, _, by omega, rfl, by rw [LY.out]; exact O8.out, W8.out, B8.out, S8.out⟩, rfl⟩
        case measure => simp [slLen]; omega
      · have hjc : ¬ (((j : Int) + 1) < (c : Int)) := by omega
        have hje : j + 1 = c := by omega
        have W6 := Lib.hid hje
        clear hje
        go_wp2_with (at_builtin; (refine append_layer (R := R) (xs := lyc (arcE l) n f j) _ _ (w5.heap.size + 1) (by simp) rfl rfl rfl rfl (O5.out.alloc _) (by simp; omega) (by omega) ?_; intro g6 c6 w6 ho6 hg6; have N6 := Lib.hid (N5.out w6 hg6); have O6 := Lib.hid ho6; clear hg6 ho6))
        obtain ⟨hb6, hc6, hk6, hs6⟩ := N6.out
        have W7 : Hid (Waits w6 (w.heap.size + 1) (arcE l) n f c (j + 1)) := Lib.hid (by unfold Waits; rw [if_neg (by have := W6.out; omega), ← W6.out]; exact hc6)
        have B6 := Lib.hid hb6
        have S6 := Lib.hid hs6
        clear hb6 hc6 hk6 hs6 N6 N5
        go_roundw
        case rel => exact ⟨j + 1, _, _, by omega, rfl, by rw [LY.out]; exact O6.out, W7.out, B6.out, S6.out⟩
        case measure => simp [slLen]; omega
    · obtain rfl : j = c := by omega
      have CH := Lib.hid (W1.out.no (Nat.lt_irrefl j))
      go_upto_region 7 with fail
      rename_i K hK
      refine opsWp_region ?_
      show OpsWp _ _ _ [0, 1, 2] _ _
      refine opsWp_talk rfl rfl (talks_none (c := w.heap.size + 1) (cap := 1) (z := lval (fun _ => 0)) (w₁ := wr) (by simp [go_sem, execOp, rcase, Act.eval, lval]) CH.out) ?_
      walk_nrm
      refine opsWp_val (v := .int .i64 (-1)) (w' := wr) rfl rfl (by go_simp) ?_
      walk_nrm
      refine opsWp_val (v := .bool false) (w' := wr) rfl rfl (by go_simp) ?_
      walk_nrm
      refine opsWp_nil ?_
      refine hK _ _ ?_
      clear hK K
      go_wp2
      go_ret
      exact ⟨⟨_, _, rfl, own_base O1.out (by omega)⟩, B1.out⟩
end Go.Proofs.Ytbmmajdacebncaa
