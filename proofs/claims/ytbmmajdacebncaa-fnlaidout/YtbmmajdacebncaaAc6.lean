/-
  Layers: the next one.
-/
import Derived.Test.YtbmmajdacebncaaAc5
namespace Go.Proofs.Ytbmmajdacebncaa
open Go.ChangeShapes Go.WideShapes Go.ChangeAt Go.RowKit

/-- a layer's cells -/
def lcells (g : Nat → Nat) : List Value := [.int .i64 (g 0 : Nat), .int .i64 (g 1 : Nat), .int .i64 (g 2 : Nat), .int .i64 (g 3 : Nat), .int .i64 (g 4 : Nat), .int .i64 (g 5 : Nat)]
def lval (g : Nat → Nat) : Value := .agg #[.int .i64 (g 0 : Nat), .int .i64 (g 1 : Nat), .int .i64 (g 2 : Nat), .int .i64 (g 3 : Nat), .int .i64 (g 4 : Nat), .int .i64 (g 5 : Nat)]
theorem lcells_at (g : Nat → Nat) {j : Nat} (h : j < 6) : (lcells g)[j]? = some (.int .i64 (g j : Nat)) := by
  have : j = 0 ∨ j = 1 ∨ j = 2 ∨ j = 3 ∨ j = 4 ∨ j = 5 := by omega
  rcases this with rfl | rfl | rfl | rfl | rfl | rfl <;> rfl
theorem lcells_congr {g h : Nat → Nat} (e : ∀ j, j < 6 → g j = h j) : lcells g = lcells h := by
  unfold lcells
  rw [e 0 (by omega), e 1 (by omega), e 2 (by omega), e 3 (by omega), e 4 (by omega), e 5 (by omega)]
theorem lcells_set (g : Nat → Nat) {b : Nat} (h : b < 6) (v : Nat) : (lcells g).set b (.int .i64 (v : Nat)) = lcells (fun j => if j = b then v else g j) := by
  have : b = 0 ∨ b = 1 ∨ b = 2 ∨ b = 3 ∨ b = 4 ∨ b = 5 := by omega
  rcases this with rfl | rfl | rfl | rfl | rfl | rfl <;> simp [lcells]
theorem wk_small {E : Nat → Nat → Bool} {n f k j : Nat} (hn : n ≤ 6) (hk : k ≤ 8) : wk E n f k j ≤ 1679616 := by
  refine Nat.le_trans (wk_le k j) (Nat.le_trans (Nat.pow_le_pow_left hn k) ?_)
  exact Nat.le_trans (Nat.pow_le_pow_right (by omega) hk) (by decide)
theorem wq_step {n f k i b a : Nat} {l : AL} (hx : l[i]? = some ((a : Int), (b : Int))) : ∀ j, wq l n f k (l.take (i + 1)) j = if j = b then wq l n f k (l.take i) b + wk (arcE l) n f k a else wq l n f k (l.take i) j := by
  intro j
  rw [take_snocA hx, wq_snoc]
  by_cases h : j = b
  · subst h; simp
  · rw [if_neg h]
    have : ¬ (((b : Int)) = (j : Int)) := by omega
    simp only
    rw [if_neg this, Nat.add_zero]
theorem new_blk (w : World) (t : TypeId) (cs : List Value) (g : Nat) (hg : w.heap.size = g) : Blk (w.alloc (.cells cs.toArray t)) g t cs := by subst hg; exact heap_alloc_new w _
/-- the end of a function that answers a layer (in a cell) -/
theorem shutL {P : Program} {fn : Func} {a : Act} {w W : World} {g : Nat} {t : TypeId} {R : Nat → Nat} (k : Blk W g t (lcells R)) (hb : Below w.heap.size w W)
    (hr : W.cell? ⟨g, 0, none⟩ = some (.int .i64 (R 0 : Nat)) → W.cell? ⟨g, 1, none⟩ = some (.int .i64 (R 1 : Nat)) → W.cell? ⟨g, 2, none⟩ = some (.int .i64 (R 2 : Nat)) → W.cell? ⟨g, 3, none⟩ = some (.int .i64 (R 3 : Nat)) → W.cell? ⟨g, 4, none⟩ = some (.int .i64 (R 4 : Nat)) → W.cell? ⟨g, 5, none⟩ = some (.int .i64 (R 5 : Nat)) →
      (results fn a.tmps).run P W = .ok (lval R) W) (hd : a.defers = [] := by rfl) : bodyPost P fn (fun e w' => e = .returned (lval R) ∧ Below w.heap.size w w') .ret a W :=
  bodyPost_ret (hr (k.cell 0) (k.cell 1) (k.cell 2) (k.cell 3) (k.cell 4) (k.cell 5)) hd ⟨rfl, hb⟩
set_option maxRecDepth 100000 in
set_option maxHeartbeats 4000000 in
theorem nextL_any (n f k : Nat) (A : Option Addr) (m cap : Nat) (l : AL) (w : World) (g : Hid (GoodA n l)) (hk : k ≤ 7) (hl : Hid (ALies w A l)) (HX : Hid (l.length = m)) :
    Calls Try.prog 71 #[lval (wk (arcE l) n f k), .slice A m cap] w fun e w' => e = .returned (lval (wk (arcE l) n f (k + 1))) ∧ Below w.heap.size w w' := by
  have hm30 : m ≤ 30 := by rw [← HX.out]; exact g.out.len
  obtain ⟨P, hP⟩ : ∃ P, wk (arcE l) n f k = P := ⟨_, rfl⟩
  have HP := Lib.hid hP
  have hPs : ∀ j, P j ≤ 1679616 := fun j => by rw [← hP]; exact wk_small g.out.hi (by omega)
  have HPS := Lib.hid hPs
  rw [hP]
  clear hP hPs
  obtain ⟨R, hR⟩ : ∃ R, wk (arcE l) n f (k + 1) = R := ⟨_, rfl⟩
  have HR := Lib.hid hR
  rw [hR]
  clear hR
  unfold lval
  go_enter Try.func71, Try.ntmps71
  go_wp2_with fail
  go_loopw [10] (fun i wr => ∃ j : Nat, j ≤ m ∧ i = .int .i64 j ∧ Blk wr w.heap.size 80 (lcells P) ∧ Blk wr (w.heap.size + 1) 80 (lcells (fun _ => 0)) ∧ Blk wr (w.heap.size + 1 + 1) 80 (lcells (wq l n f k (l.take j))) ∧ Below w.heap.size w wr) (fun i _ => m - (intOf i).toNat)
  case atStart =>
    refine ⟨0, Nat.zero_le _, rfl, ?_, ?_, ?_, below3 _ _ _ _⟩
    · exact Blk.below (Blk.below (new_blk w 80 (lcells P) _ rfl) (below1 _ _)) (below1 _ _)
    · exact Blk.below (new_blk _ 80 (lcells (fun _ => 0)) _ (by simp)) (below1 _ _)
    · have e : lcells (wq l n f k (l.take 0)) = lcells (fun _ => 0) := by rw [List.take_zero]; exact lcells_congr (fun j _ => wq_nil l n f k j)
      rw [e]
      exact new_blk _ 80 (lcells (fun _ => 0)) _ (by simp)
  case round =>
    obtain ⟨j, hj, rfl, h0, h1, h2, hb⟩ := hrel
    have K0 := Lib.hid h0
    have K1 := Lib.hid h1
    have K2 := Lib.hid h2
    have B1 := Lib.hid hb
    clear h0 h1 h2 hb
    by_cases hlt : j < m
    · obtain ⟨x, hx⟩ : ∃ x, l[j]? = some x := ⟨_, List.getElem?_eq_getElem (by have := HX.out; omega)⟩
      obtain ⟨a, b, rfl, ha, hb, _⟩ := g.out.nat (List.mem_of_getElem? hx)
      obtain ⟨bb, off, rfl, hbl, e0, e1⟩ := (hl.out.below B1.out) j _ hx
      simp only at e0 e1
      have hn6 := g.out.hi
      have ha6 : a < 6 := by omega
      have hb6 : b < 6 := by omega
      have p0 := (K0.out.cell a).trans (lcells_at P ha6)
      have p2 := (K2.out.cell b).trans (lcells_at _ hb6)
      obtain ⟨u, hu⟩ : ∃ u, P a = u := ⟨_, rfl⟩
      obtain ⟨v, hv⟩ : ∃ v, wq l n f k (l.take j) b = v := ⟨_, rfl⟩
      have hu7 : u ≤ 1679616 := by rw [← hu]; exact HPS.out a
      have hv7 : v ≤ 1679616 := by rw [← hv]; exact Nat.le_trans (wq_le g.out j b) (wk_small hn6 (by omega))
      have hg0 : w.heap.size < wr.heap.size := K0.out.lt
      have hg2 : w.heap.size + 1 + 1 < wr.heap.size := K2.out.lt
      have f2 := K2.out.frozen b
      have HN : Hid ((lcells (wq l n f k (l.take j))).set b (.int .i64 ((v + u : Nat) : Int)) = lcells (wq l n f k (l.take (j + 1)))) := Lib.hid (by
        rw [lcells_set _ hb6]
        refine lcells_congr (fun i _ => ?_)
        rw [wq_step hx i, hv, HP.out, hu])
      clear hx
      go_wp2_with fail
      obtain ⟨w3, hw3⟩ : ∃ W, W = wr.alloc (.cells #[.int .i64 (a : Int), .int .i64 (b : Int)] 36) := ⟨_, rfl⟩
      have hbb : Below wr.heap.size wr w3 := by rw [hw3]; exact below1 _ _
      have hnb : Blk w3 wr.heap.size 36 [.int .i64 (a : Int), .int .i64 (b : Int)] := by rw [hw3]; exact heap_alloc_new _ _
      rw [← hw3]
      clear hw3 e0 e1 p0 p2 f2 hg0 hg2 hbl
      have n0 : w3.cell? ⟨wr.heap.size, 0, none⟩ = some (.int .i64 (a : Int)) := hnb.cell 0
      have n1 : w3.cell? ⟨wr.heap.size, 1, none⟩ = some (.int .i64 (b : Int)) := hnb.cell 1
      have B4 := Lib.hid (Below.tr B1.out hbb)
      have C0 := Lib.hid (K0.out.below hbb)
      have C1 := Lib.hid (K1.out.below hbb)
      have C2 := Lib.hid (K2.out.below hbb)
      have p0 := (C0.out.cell a).trans (lcells_at P ha6)
      have p2 := (C2.out.cell b).trans (lcells_at _ hb6)
      rw [hu] at p0
      rw [hv] at p2
      have f2 := C2.out.frozen b
      clear hu hv hbb hnb
      have hai : (a : Int) < 6 := by omega
      have hbi : (b : Int) < 6 := by omega
      go_still_tail 9, (by kernel_rfl)
      change wpList _ _ _ _ _ w3.drew
      have p2 : w3.drew.cell? ⟨w.heap.size + 1 + 1, b, none⟩ = some (.int .i64 (v : Int)) := p2
      have f2 : w3.drew.frozen? ⟨w.heap.size + 1 + 1, b, none⟩ = false := f2
      have B5 : Hid (Below w.heap.size w w3.drew) := Lib.hid B4.out.drew
      have D0 : Hid (Blk w3.drew w.heap.size 80 (lcells P)) := C0
      have D1 : Hid (Blk w3.drew (w.heap.size + 1) 80 (lcells (fun _ => 0))) := C1
      have D2 : Hid (Blk w3.drew (w.heap.size + 1 + 1) 80 (lcells (wq l n f k (l.take j)))) := C2
      generalize w3.drew = w4 at p2 f2 B5 D0 D1 D2 ⊢
      clear n0 n1 p0
      go_wp2
      go_roundw
      case rel =>
        refine ⟨j + 1, by omega, by go_num, D0.out.far (by omega) _, D1.out.far (by omega) _, ?_, B5.out.setCell (by show w.heap.size ≤ w.heap.size + 1 + 1; omega) _⟩
        have := D2.out.set b (.int .i64 ((v + u : Nat) : Int))
        rw [HN.out] at this
        exact_mod_cast this
      case measure => simp [intOf]; omega
    · obtain rfl : j = m := by omega
      have e : lcells (wq l n f k (l.take j)) = lcells (wk (arcE l) n f (k + 1)) := lcells_congr (fun i _ => by rw [List.take_of_length_le (by rw [HX.out]; exact Nat.le_refl _), wq_end g.out])
      rw [e] at K2
      rw [HR.out] at K2
      have x0 := K2.out.cell 0
      have x1 := K2.out.cell 1
      have x2 := K2.out.cell 2
      have x3 := K2.out.cell 3
      have x4 := K2.out.cell 4
      have x5 := K2.out.cell 5
      have y0 := K1.out.cell 0
      have y1 := K1.out.cell 1
      have y2 := K1.out.cell 2
      have y3 := K1.out.cell 3
      have y4 := K1.out.cell 4
      have y5 := K1.out.cell 5
      have z0 := K1.out.frozen 0
      have z1 := K1.out.frozen 1
      have z2 := K1.out.frozen 2
      have z3 := K1.out.frozen 3
      have z4 := K1.out.frozen 4
      have z5 := K1.out.frozen 5
      simp only [lcells, List.getElem?_cons_zero, List.getElem?_cons_succ] at x0 x1 x2 x3 x4 x5 y0 y1 y2 y3 y4 y5
      clear e
      have KR : Hid (∀ W : World, (W = (((((wr.setCell ⟨w.heap.size + 1, 0, none⟩ (.int .i64 (R 0 : Nat))).setCell ⟨w.heap.size + 1, 1, none⟩ (.int .i64 (R 1 : Nat))).setCell ⟨w.heap.size + 1, 2, none⟩ (.int .i64 (R 2 : Nat))).setCell ⟨w.heap.size + 1, 3, none⟩ (.int .i64 (R 3 : Nat))).setCell ⟨w.heap.size + 1, 4, none⟩ (.int .i64 (R 4 : Nat))).setCell ⟨w.heap.size + 1, 5, none⟩ (.int .i64 (R 5 : Nat))) → Blk W (w.heap.size + 1) 80 (lcells R)) := Lib.hid (fun W e => by
        subst e
        exact (((((K1.out.set 0 _).set 1 _).set 2 _).set 3 _).set 4 _).set 5 _)
      go_wp2
      refine shutL (KR.out _ rfl) ((((((B1.out.setCell (Nat.le_succ _) _).setCell (Nat.le_succ _) _).setCell (Nat.le_succ _) _).setCell (Nat.le_succ _) _).setCell (Nat.le_succ _) _).setCell (Nat.le_succ _) _) (fun q0 q1 q2 q3 q4 q5 => ?_)
      simp [results, Try.results71, go_sem, q0, q1, q2, q3, q4, q5, lval]
end Go.Proofs.Ytbmmajdacebncaa
