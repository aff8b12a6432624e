/-
  arcsNeeded: the least numbers of arcs.
-/
import Derived.Test.YtbmmajdacebncaaAcRep
namespace Go.Proofs.Ytbmmajdacebncaa
open Go.ChangeShapes Go.WideShapes Go.ChangeAt Go.RowKit

theorem Kept.ownS {w w' : World} {S : Nat → Prop} {base n size : Nat} {t : TypeId} {v : Value} {xs : List Value} (h : Kept w w' S) (ho : w.ownsRow base t size v n xs) (hn : ∀ g, v.ownBlock = some g → ¬ S g) : w'.ownsRow base t size v n xs := by
  refine ⟨ho.1, ?_⟩
  rcases ho.2 with q | ⟨g, cap, cur, rfl, hb, hg, rest⟩
  · exact .inl q
  · exact .inr ⟨g, cap, cur, rfl, hb, (h.block g (Array.getElem?_eq_some_iff.1 hg).1 (hn g rfl)).trans hg, rest⟩
theorem own_far {w : World} {base n size G j : Nat} {t : TypeId} {v u : Value} {xs : List Value} (ho : w.ownsRow base t size v n xs) (hG : G < base) : (w.setCell ⟨G, j, none⟩ u).ownsRow base t size v n xs :=
  Kept.set.ownS ho (fun g hg e => by have := (ho.lt g hg).1; omega)
theorem lyc_cell {w : World} {base n c f k i j g : Nat} {E : Nat → Nat → Bool} {nn : Nat} (h : w.ownsRow base 80 6 (.slice (some ⟨g, 0, none⟩) n c) n (lyc E nn f k)) (hi : i < k) (hj : j < 6) : w.cell? ⟨g, i * 6 + j, none⟩ = some (.int .i64 (wk E nn f i j : Nat)) := by
  have := h.cells (g := g) rfl (i * 6 + j) _ (lyc_at hi hj)
  rw [add_plain, Nat.zero_add] at this
  exact this
/-- it answers the least numbers of arcs, in a row of its own -/
def GaveNeed (w : World) (l : List Int) (n : Nat) (e : Ending) (w' : World) : Prop :=
  (∃ g, w.heap.size ≤ g ∧ e = .returned (.slice (some ⟨g, 0, none⟩) n n) ∧ Blk w' g 3 (l.map (Value.int .i64))) ∧ Below w.heap.size w w'
set_option maxRecDepth 100000 in
set_option maxHeartbeats 4000000 in
theorem needed_any (n f : Nat) (A : Option Addr) (m cap : Nat) (l : AL) (w : World) (g : Hid (GoodA n l)) (hf : f < n) (hl : Hid (ALies w A l)) (HX : Hid (l.length = m)) :
    Calls Try.prog 55 #[.int .i64 n, .slice A m cap, .int .i64 f] w (GaveNeed w (needL (arcE l) n f n) n) := by
  have hn6 := g.out.hi
  have hm30 : m ≤ 30 := by rw [← HX.out]; exact g.out.len
  obtain ⟨E, hE⟩ : ∃ E, arcE l = E := ⟨_, rfl⟩
  have HE := Lib.hid hE
  rw [hE]
  clear hE
  go_enter Try.func55, Try.ntmps55
  go_wp2_with fail
  refine (repeat_any (-1) n w.heap.size _ (by omega) (by omega) (Lib.hid (heap_alloc_new _ _))).mono ?_
  rintro e w2 ⟨rfl, hk2, hb2⟩
  have Z2 : Hid ((w.alloc (.cells #[.int .i64 (-1)] 3)).heap.size = w.heap.size + 1) := Lib.hid (by simp)
  rw [Z2.out] at hk2 ⊢
  have hz2 : w.heap.size + 1 < w2.heap.size := hk2.lt
  have B2 := Lib.hid (Below.tr (below1 w _) hb2)
  have K2 : Hid (Blk w2 (w.heap.size + 1) 3 ((needL E n f 0).map (Value.int .i64))) := Lib.hid (by rw [needL_zero, List.map_replicate]; exact hk2)
  have L2 := Lib.hid (hl.out.below B2.out)
  clear hk2 hb2 Z2
  go_wp2_with fail
  refine (layers_any n f n A m cap l _ g hf ⟨by omega, by omega⟩ L2 HX).mono ?_
  rw [HE.out]
  rintro e w3 ⟨⟨A3, c3, rfl, ho3⟩, hb3⟩
  obtain ⟨g3, cap3, hv3, hg3, _⟩ := ho3.form (by omega)
  have hA3 : A3 = some ⟨g3, 0, none⟩ := by injection hv3
  subst hA3
  have O3 := Lib.hid ho3
  have B3 := Lib.hid (Below.tr B2.out hb3)
  have K3 := Lib.hid (K2.out.below hb3)
  obtain ⟨bs, hbs⟩ : ∃ bs, w2.heap.size = bs := ⟨_, rfl⟩
  rw [hbs] at O3 hz2
  have HG3 : Hid (bs ≤ g3) := Lib.hid (by rw [← hbs]; exact hg3)
  clear ho3 hb3 hv3 hg3 hbs K2 B2 L2
  go_wp2_with fail
  go_loopw [19] (fun i wr => ∃ k : Nat, k ≤ n ∧ i = .int .i64 k ∧ Blk wr (w.heap.size + 1) 3 ((needL E n f k).map (Value.int .i64)) ∧ wr.ownsRow bs 80 6 (.slice (some ⟨g3, 0, none⟩) n c3) n (lyc E n f n) ∧ Below w.heap.size w wr) (fun i _ => n - (intOf i).toNat)
  case atStart => exact ⟨0, Nat.zero_le _, rfl, K3.out, O3.out, B3.out⟩
  case round =>
    obtain ⟨k, hk, rfl, hkn, hown, hb⟩ := hrel
    have K1 := Lib.hid hkn
    have O1 := Lib.hid hown
    have B1 := Lib.hid hb
    clear hkn hown hb K3 O3 B3
    by_cases hlt : k < n
    · obtain ⟨P, hP⟩ : ∃ P, wk E n f k = P := ⟨_, rfl⟩
      have y0 := lyc_cell O1.out hlt (show 0 < 6 by omega)
      have y1 := lyc_cell O1.out hlt (show 1 < 6 by omega)
      have y2 := lyc_cell O1.out hlt (show 2 < 6 by omega)
      have y3 := lyc_cell O1.out hlt (show 3 < 6 by omega)
      have y4 := lyc_cell O1.out hlt (show 4 < 6 by omega)
      have y5 := lyc_cell O1.out hlt (show 5 < 6 by omega)
      rw [hP] at y0 y1 y2 y3 y4 y5
      rw [Nat.add_zero] at y0
      have HP := Lib.hid hP
      clear hP
      go_upto_region 5 with fail
      obtain ⟨w5, hw5⟩ : ∃ W, W = wr.alloc (.cells (lcells P).toArray 80) := ⟨_, rfl⟩
      have hbb : Below wr.heap.size wr w5 := by rw [hw5]; exact below1 _ _
      have hnb : Blk w5 wr.heap.size 80 (lcells P) := by rw [hw5]; exact heap_alloc_new _ _
      have hw5' : wr.alloc (.cells #[.int .i64 (P 0 : Nat), .int .i64 (P 1 : Nat), .int .i64 (P 2 : Nat), .int .i64 (P 3 : Nat), .int .i64 (P 4 : Nat), .int .i64 (P 5 : Nat)] 80) = w5 := hw5.symm
      rw [hw5']
      have Z1 := Lib.hid (K1.out.lt)
      have B5 := Lib.hid (Below.tr B1.out hbb)
      have K5 := Lib.hid (K1.out.below hbb)
      have O5 := Lib.hid (own_below O1.out hbb)
      have N5 := Lib.hid hnb
      clear hw5 hw5' hbb hnb y0 y1 y2 y3 y4 y5 K1 B1 O1
      obtain ⟨bx, hbx⟩ : ∃ bx, wr.heap.size = bx := ⟨_, rfl⟩
      rw [hbx] at Z1 N5 ⊢
      clear hbx
      go_wp2_with fail
      go_loopw [25] (fun i wq => ∃ s : Nat, s ≤ n ∧ i = .int .i64 s ∧ Blk wq (w.heap.size + 1) 3 ((needAt E n f k s).map (Value.int .i64)) ∧ wq.ownsRow bs 80 6 (.slice (some ⟨g3, 0, none⟩) n c3) n (lyc E n f n) ∧ Blk wq bx 80 (lcells P) ∧ Below w.heap.size w wq) (fun i _ => n - (intOf i).toNat)
      case atStart => exact ⟨0, Nat.zero_le _, rfl, by rw [needAt_zero]; exact K5.out, O5.out, N5.out, B5.out⟩
      case round =>
        rename_i wo _ _
        obtain ⟨s, hs, rfl, hkn, hown, hbxx, hb⟩ := hrel
        have K6 := Lib.hid hkn
        have O6 := Lib.hid hown
        have N6 := Lib.hid hbxx
        have B6 := Lib.hid hb
        clear hkn hown hbxx hb K5 O5 N5 B5
        by_cases hls : s < n
        · have hs6 : (s : Int) < 6 := by omega
          have hsn : (s : Int) < (n : Int) := by omega
          have p0 := (N6.out.cell s).trans (lcells_at P (by omega))
          have d0 : wr.cell? ⟨w.heap.size + 1, s, none⟩ = some (.int .i64 (need E n f k s)) := by rw [K6.out.cell, List.getElem?_map, needAt_at hls]; rfl
          have d1 := K6.out.frozen s
          obtain ⟨u, hu⟩ : ∃ u, P s = u := ⟨_, rfl⟩
          obtain ⟨v, hv⟩ : ∃ v, need E n f k s = v := ⟨_, rfl⟩
          have HU : Hid (wk E n f k s = u) := Lib.hid (by rw [HP.out]; exact hu)
          have HV := Lib.hid hv
          rw [hu] at p0
          rw [hv] at d0
          clear hu hv
          by_cases hu0 : 0 < u
          · cases q : (v == -1) with
            | true =>
              have HN := Lib.hid (needAt_set hls (need_new (by rw [HV.out]; simpa using q) (by rw [HU.out]; exact hu0)))
              go_wp2
              go_roundw
              case rel =>
                refine ⟨s + 1, by omega, by go_num, ?_, own_far O6.out (by omega), N6.out.far (by have := Z1.out; omega) _, B6.out.setCell (by show w.heap.size ≤ w.heap.size + 1; omega) _⟩
                have := K6.out.set s (.int .i64 (k : Int))
                rw [← List.map_set, HN.out] at this
                exact this
              case measure => simp [intOf]; omega
            | false =>
              have HN := Lib.hid (needAt_keep (need_old (k := k) (i := s) (E := E) (n := n) (f := f) (fun h => by rw [HV.out] at h; simp at q; exact q h.1)))
              go_wp2
              go_roundw
              case rel => exact ⟨s + 1, by omega, by go_num, by rw [HN.out]; exact K6.out, O6.out, N6.out, B6.out⟩
              case measure => simp [intOf]; omega
          · have HN := Lib.hid (needAt_keep (need_old (k := k) (i := s) (E := E) (n := n) (f := f) (fun h => by rw [HU.out] at h; exact hu0 h.2)))
            go_wp2
            go_roundw
            case rel => exact ⟨s + 1, by omega, by go_num, by rw [HN.out]; exact K6.out, O6.out, N6.out, B6.out⟩
            case measure => simp [intOf]; omega
        · obtain rfl : s = n := by omega
          rw [needAt_full] at K6
          go_wp2
          go_roundw
          case rel => exact ⟨k + 1, by omega, by go_num, K6.out, O6.out, B6.out⟩
          case measure => simp [intOf]; omega
    · obtain rfl : k = n := by omega
      go_wp2
      go_ret
      exact ⟨⟨_, Nat.le_succ _, rfl, K1.out⟩, B1.out⟩
end Go.Proofs.Ytbmmajdacebncaa
