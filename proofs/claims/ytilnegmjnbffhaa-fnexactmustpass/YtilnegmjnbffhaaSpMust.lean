/-
  The model's l11Must, MustPass and NearestOf.
-/
import Derived.Test.YtilnegmjnbffhaaSpTwo
import Derived.Test.YtilnegmjnbffhaaRfMust
namespace Go.Proofs.Ytilnegmjnbffhaa
open Go.ChangeShapes Go.WideShapes Go.ChangeAt Go.RowKit

/-- what all of these steps have in common among their dominators -/
def intL (E : Nat → Nat → Bool) : List Nat → List Nat
  | [] => []
  | b :: Q => Q.foldl (fun l b => l.filter (fun x => decide (x ∈ domL E b))) (domL E b)
theorem intL_snoc (E : Nat → Nat → Bool) (Q : List Nat) (b : Nat) (h : Q ≠ []) : intL E (Q ++ [b]) = (intL E Q).filter (fun x => decide (x ∈ domL E b)) := by
  cases Q with
  | nil => exact absurd rfl h
  | cons c Q => unfold intL; simp [List.foldl_append]
theorem intL_ahead {l : KT} (g : GoodKT l) {i : Nat} (hr : rb (edg l) 0 i = true) (hin : i < l.length) : intL (edg l) (aheadL (edg l) l.length i) = (List.range i).filter (fun k => dm (edg l) k i) := by
  by_cases h0 : i = 0
  · subst h0
    have : aheadL (edg l) l.length 0 = [] := by
      rw [List.eq_nil_iff_forall_not_mem]
      intro a ha
      have := edg_fwd g _ _ (mem_ahead.1 ha).2.2
      omega
    rw [this]; rfl
  · have hp := ahead_some g hr (by omega)
    cases hP : aheadL (edg l) l.length i with
    | nil => rw [hP] at hp; simp at hp
    | cons a P => rw [dom_inter l.length (edg_fwd g) hP (by omega) (by omega)]; rfl
/-- the rows of dominators of the steps of Q; the others are nil -/
def MustUp (w : World) (g n : Nat) (E : Nat → Nat → Bool) (Q : List Nat) : Prop := ∃ vs : List Value, Blk w g 28 vs ∧ vs.length = n ∧
  ∀ j, j < n → (j ∈ Q → ∃ a c, vs[j]? = some (.slice a (domL E j).length c) ∧ w.ownsRow (g + 1) 3 1 (.slice a (domL E j).length c) (domL E j).length ((castL (domL E j)).map (Value.int .i64))) ∧ (j ∉ Q → vs[j]? = some (.slice none 0 0))
theorem MustUp.below {w w' : World} {g n : Nat} {E : Nat → Nat → Bool} {Q : List Nat} (h : MustUp w g n E Q) (hb : Below w.heap.size w w') : MustUp w' g n E Q := by
  obtain ⟨vs, h1, h2, h3⟩ := h
  exact ⟨vs, h1.below hb, h2, fun j hj => ⟨fun q => by obtain ⟨a, c, h4, h5⟩ := (h3 j hj).1 q; exact ⟨a, c, h4, own_below h5 hb⟩, (h3 j hj).2⟩⟩
theorem MustUp.lt {w : World} {g n : Nat} {E : Nat → Nat → Bool} {Q : List Nat} (h : MustUp w g n E Q) : g < w.heap.size := by obtain ⟨vs, h1, _⟩ := h; exact h1.lt
theorem MustUp.at {w : World} {g n j : Nat} {E : Nat → Nat → Bool} {Q : List Nat} (h : MustUp w g n E Q) (hj : j < n) (hq : j ∈ Q) : ∃ a c, w.cell? ⟨g, j, none⟩ = some (.slice a (domL E j).length c) ∧ ILies w a (castL (domL E j)) ∧ (a = none → (domL E j).length = 0 ∧ c = 0) := by
  obtain ⟨vs, h1, h2, h3⟩ := h
  obtain ⟨a, c, h4, h5⟩ := (h3 j hj).1 hq
  exact ⟨a, c, (h1.cell j).trans h4, own_ilies h5, own_nilA' h5⟩
theorem MustUp.no {w : World} {g n j : Nat} {E : Nat → Nat → Bool} {Q : List Nat} (h : MustUp w g n E Q) (hj : j < n) (hq : j ∉ Q) : w.cell? ⟨g, j, none⟩ = some (.slice none 0 0) := by
  obtain ⟨vs, h1, h2, h3⟩ := h
  exact (h1.cell j).trans ((h3 j hj).2 hq)
theorem MustUp.any {w : World} {g n j : Nat} {E : Nat → Nat → Bool} {Q : List Nat} (h : MustUp w g n E Q) (hj : j < n) : (∃ v, w.cell? ⟨g, j, none⟩ = some v) ∧ w.frozen? ⟨g, j, none⟩ = false := by
  obtain ⟨vs, h1, h2, h3⟩ := h
  exact ⟨⟨_, (h1.cell j).trans (List.getElem?_eq_getElem (by omega))⟩, h1.frozen j⟩
theorem MustUp.step {w : World} {g n j c : Nat} {a : Option Addr} {E : Nat → Nat → Bool} {Q : List Nat} (h : MustUp w g n E Q) (hj : j < n)
    (ho : w.ownsRow (g + 1) 3 1 (.slice a (domL E j).length c) (domL E j).length ((castL (domL E j)).map (Value.int .i64))) : MustUp (w.setCell ⟨g, j, none⟩ (.slice a (domL E j).length c)) g n E (Q ++ [j]) := by
  obtain ⟨vs, h1, h2, h3⟩ := h
  have keep : ∀ {v : Value} {m : Nat} {l : List Value}, w.ownsRow (g + 1) 3 1 v m l → (w.setCell ⟨g, j, none⟩ (.slice a (domL E j).length c)).ownsRow (g + 1) 3 1 v m l := fun ho => (Kept.set (w := w) (g := g) (j := j)).own ho (fun b hb e => by have := (ho.lt b hb).1; omega)
  refine ⟨_, h1.set j _, by rw [List.length_set]; exact h2, fun i hi => ?_⟩
  by_cases e : j = i
  · subst e
    refine ⟨fun _ => ⟨a, c, by rw [List.getElem?_set, if_pos rfl, if_pos (by omega)], keep ho⟩, fun q => absurd (by simp) q⟩
  · have hm : i ∈ Q ++ [j] ↔ i ∈ Q := by rw [List.mem_append, List.mem_singleton]; constructor
                                         · rintro (q | q)
                                           · exact q
                                           · exact absurd q.symm e
                                         · exact .inl
    rw [List.getElem?_set, if_neg e, hm]
    exact ⟨fun q => by obtain ⟨a', c', h4, h5⟩ := (h3 i hi).1 q; exact ⟨a', c', h4, keep h5⟩, (h3 i hi).2⟩
theorem must_start {w : World} (n : Nat) (E : Nat → Nat → Bool) : MustUp (w.alloc (.cells (madeCells #[.slice none 0 0] n) 28)) w.heap.size n E [] := by
  rw [made_rep]
  refine ⟨List.replicate n (.slice none 0 0), heap_alloc_new w _, by simp, fun j hj => ⟨fun q => by simp at q, fun _ => by rw [List.getElem?_replicate, if_pos hj]⟩⟩
theorem dom_len (E : Nat → Nat → Bool) (i : Nat) : (domL E i).length ≤ i + 1 := by
  unfold domL
  have := List.length_filter_le (fun k => dm E k i) (List.range (i + 1))
  rw [List.length_range] at this
  exact this
theorem int_len (E : Nat → Nat → Bool) (Q : List Nat) (n : Nat) (h : ∀ b ∈ Q, b < n) : (intL E Q).length ≤ n := by
  cases Q with
  | nil => simp [intL]
  | cons b Q =>
    have h1 := dom_len E b
    have h2 := h b (by simp)
    have : ∀ (Q : List Nat) (l : List Nat), (Q.foldl (fun l b => l.filter (fun x => decide (x ∈ domL E b))) l).length ≤ l.length := by
      intro Q
      induction Q with
      | nil => intro l; exact Nat.le_refl _
      | cons c Q ih => intro l; exact Nat.le_trans (ih _) (List.length_filter_le _ _)
    exact Nat.le_trans (this Q (domL E b)) (by omega)
theorem before_in {R : List Nat} (hs : R.Pairwise (· < ·)) {i a b : Nat} (ha : R[i]? = some a) (hb : b ∈ R) (hlt : b < a) : b ∈ R.take i := by
  have h1 := (List.getElem?_eq_some_iff.1 ha).1
  have h2 := (List.getElem?_eq_some_iff.1 ha).2
  rw [← List.take_append_drop i R, List.drop_eq_getElem_cons h1, h2] at hb hs
  rcases List.mem_append.1 hb with q | q
  · exact q
  · rw [List.pairwise_append, List.pairwise_cons] at hs
    rcases List.mem_cons.1 q with q | q
    · omega
    · have := hs.2.1.1 b q; omega
/-- what l11Must answers -/
def GaveMust (w : World) (n : Nat) (E : Nat → Nat → Bool) (e : Ending) (w' : World) : Prop :=
  ∃ g, e = .returned (.slice (some ⟨g, 0, none⟩) n n) ∧ w.heap.size ≤ g ∧ MustUp w' g n E (reachL E n 0) ∧ Below w.heap.size w w'
set_option maxRecDepth 100000 in
set_option maxHeartbeats 8000000 in
theorem l11Must_any (A : Option Addr) (n cap : Nat) (xs : List Stp) (w : World) (hg : Hid (Good xs)) (hl : Hid (Lies w A xs)) (hx : Hid (xs.length = n)) :
    Calls Try.prog 54 #[.slice A n cap] w (GaveMust w n (edg (ktOf xs))) := by
  obtain ⟨hn0, hn20⟩ := good_20 hg.out hx.out
  obtain ⟨i0, hi0, hz0, hz1, hz2⟩ := info_parts info_int
  have HGK := Lib.hid (good_kt hg.out)
  have HKL : Hid ((ktOf xs).length = n) := Lib.hid (by rw [ktOf_len]; exact hx.out)
  obtain ⟨E, hE⟩ : ∃ E, edg (ktOf xs) = E := ⟨_, rfl⟩
  have HE := Lib.hid hE
  obtain ⟨R, hR⟩ : ∃ R, reachL E n 0 = R := ⟨_, rfl⟩
  have HR := Lib.hid hR
  have RS : Hid (R.Pairwise (· < ·)) := Lib.hid (by rw [← hR]; exact filter_sorted _ _)
  have hrl := reach_len E n 0
  rw [hE]
  unfold GaveMust
  rw [hR]
  have hmk := fun w : World => run_make_row' (P := Try.prog) 44 28 (.slice none 0 0) 24 Try.underlying44 info_ints rfl .i64 .i64 n (by omega) (by omega) w
  have M0 := Lib.hid (must_start (w := w) n E)
  go_enter Try.func54, Try.ntmps54
  go_wp2_with fail
  obtain ⟨w1, hw1⟩ : ∃ W, w.alloc (.cells (madeCells #[.slice none 0 0] n) 28) = W := ⟨_, rfl⟩
  have B1 : Hid (Below w.heap.size w w1) := Lib.hid (by rw [← hw1]; exact below1 _ _)
  rw [hw1] at M0 ⊢
  clear hw1
  refine (l11Reached_any _ _ _ 0 xs _ hg (Lib.hid (hl.out.below B1.out)) hx hn0).mono ?_
  rintro e w2 ⟨A2, c2, rfl, hown2, hb2⟩
  rw [hE, hR] at hown2 ⊢
  rw [hR] at hrl
  obtain ⟨z, hz⟩ : ∃ z, (castL R).length = z := ⟨_, rfl⟩
  have HZ := Lib.hid hz
  rw [hz] at hown2 hrl ⊢
  have O2 := Lib.hid hown2
  have M2 := Lib.hid (M0.out.below hb2)
  have B2 := Lib.hid (Below.tr B1.out hb2)
  have hg1 : w.heap.size < w1.heap.size := M0.out.lt
  clear hown2 hb2 hR hz hE M0
  go_wp2_with fail
  go_loopw [18] (fun iv wr => ∃ i : Nat, i ≤ z ∧ iv = .int .i64 i ∧ MustUp wr w.heap.size n E (R.take i) ∧ Below w.heap.size w wr ∧ Kept w2 wr (fun b => b = w.heap.size)) (fun i _ => z - (intOf i).toNat)
  case atStart => exact ⟨0, Nat.zero_le _, rfl, by simpa using M2.out, B2.out, Kept.refl _ _⟩
  case round =>
    obtain ⟨i, hi, rfl, hmu, hb, hkp⟩ := hrel
    have M3 := Lib.hid hmu
    have B3 := Lib.hid hb
    have K3 := Lib.hid hkp
    clear hmu hb hkp
    by_cases hlt : i < z
    · obtain ⟨u, hu⟩ : ∃ u, (castL R)[i]? = some u := ⟨_, List.getElem?_eq_getElem (by have := HZ.out; omega)⟩
      obtain ⟨a, ha, rfl⟩ := castL_get hu
      have haR : a ∈ R := List.mem_of_getElem? ha
      have har : a < n ∧ rb E 0 a = true := by have h := haR; rw [← HR.out] at h; exact mem_reach.1 h
      obtain ⟨han, hra⟩ := har
      have IR := Lib.hid (own_ilies (K3.out.own O2.out (fun b hb q => by have := (O2.out.lt b hb).1; omega)))
      obtain ⟨b5, off5, rfl, hb5, hc5⟩ := IR.out i _ hu
      have HU : Hid (R.take (i + 1) = R.take i ++ [a]) := Lib.hid (take_snocP ha)
      have HA := Lib.hid ha
      have HRA := Lib.hid hra
      have hi' : (i : Int) < (z : Int) := by omega
      clear hu ha haR hra
      go_wp2_with fail
      refine (l11Ahead_any _ _ _ a xs _ hg (Lib.hid (hl.out.below B3.out)) hx).mono ?_
      rintro e w3 ⟨A3, c3, rfl, hown3, hb3⟩
      rw [HE.out] at hown3 ⊢
      obtain ⟨P, hP⟩ : ∃ P, aheadL E n a = P := ⟨_, rfl⟩
      have HP := Lib.hid hP
      have hpn : P.length ≤ 20 := by have := ahead_len E n a; rw [castL_len, hP] at this; omega
      rw [hP] at hown3 ⊢
      obtain ⟨y, hy⟩ : ∃ y, (castL P).length = y := ⟨_, rfl⟩
      have HY := Lib.hid hy
      have hy20 : y ≤ 20 := by rw [← hy, castL_len]; exact hpn
      rw [hy] at hown3 ⊢
      have O3 := Lib.hid hown3
      have M4 := Lib.hid (M3.out.below hb3)
      have B4 := Lib.hid (Below.tr B3.out hb3)
      have K4 := Lib.hid (K3.out.trans (Kept.of_below hb3))
      have I3 := Lib.hid (own_ilies hown3)
      have hgw : w.heap.size < wr.heap.size := M3.out.lt
      have hww : wr.heap.size ≤ w3.heap.size := hb3.size
      have hPin : Hid (∀ b ∈ P, b < n ∧ b < a ∧ b ∈ R.take i) := Lib.hid (fun b hb => by
        rw [← hP] at hb
        obtain ⟨h1, h2, h3⟩ := mem_ahead.1 hb
        have h4 : b < a := by rw [← HE.out] at h3; exact edg_fwd HGK.out _ _ h3
        exact ⟨h1, h4, before_in RS.out HA.out (by rw [← HR.out]; exact mem_reach.2 ⟨h1, h2⟩) h4⟩)
      clear hown3 hb3 hP hy hpn
      go_wp2_with fail
      go_loopw [6, 26] (fun av iv wq => ∃ (k : Nat) (A4 : Option Addr) (c4 v : Nat), k ≤ y ∧ iv = .int .i64 k ∧ (castL (intL E (P.take k))).length = v ∧ av = .slice A4 v c4 ∧ ILies wq A4 (castL (intL E (P.take k))) ∧ (A4 = none → v = 0 ∧ c4 = 0) ∧ Below w3.heap.size w3 wq) (fun _ i _ => y - (intOf i).toNat)
      case atStart => exact ⟨0, none, 0, 0, Nat.zero_le _, rfl, rfl, rfl, (fun i y h => by simp [intL, castL] at h), (fun _ => ⟨rfl, rfl⟩), Below.refl _ _⟩
      case round =>
        obtain ⟨k, A4, c4, v, hk, rfl, hv, rfl, hil, hnil, hb⟩ := hrel
        have I4 := Lib.hid hil
        have N4 := Lib.hid hnil
        have D4 := Lib.hid hb
        have HV := Lib.hid hv
        have hv20 : v ≤ 20 := by
          have h1 := int_len E (P.take k) n (fun b hb => (hPin.out b (List.mem_of_mem_take hb)).1)
          rw [castL_len] at hv
          omega
        have M5 := Lib.hid (M4.out.below D4.out)
        clear hil hnil hb hv
        by_cases hlk : k < y
        · obtain ⟨u, hu⟩ : ∃ u, (castL P)[k]? = some u := ⟨_, List.getElem?_eq_getElem (by have := HY.out; omega)⟩
          obtain ⟨d, hd, rfl⟩ := castL_get hu
          obtain ⟨hdn, hda, hdi⟩ := hPin.out d (List.mem_of_getElem? hd)
          obtain ⟨b6, off6, rfl, hb6, hc6⟩ := (I3.out.below D4.out) k _ hu
          obtain ⟨A7, c7, hc7, hi7, hn7⟩ := M5.out.at hdn hdi
          have HUP : Hid (P.take (k + 1) = P.take k ++ [d]) := Lib.hid (take_snocP hd)
          have hk' : (k : Int) < (y : Int) := by omega
          have hdn' : (d : Int) < (n : Int) := by omega
          obtain ⟨q7, hq7⟩ : ∃ q, (domL E d).length = q := ⟨_, rfl⟩
          rw [hq7] at hc7
          have HQ7 := Lib.hid hq7
          have I7 := Lib.hid hi7
          have N7 := Lib.hid hn7
          have hq20 : q7 ≤ 20 := by have := dom_len E d; omega
          clear hu hd hi7 hn7 hq7
          rcases Nat.eq_zero_or_pos k with hk0 | hk0
          · have e1 : Hid (intL E (P.take (k + 1)) = domL E d) := Lib.hid (by rw [HUP.out, hk0]; simp [intL])
            have hke : ((k : Int) == (0 : Int)) = true := by simp [hk0]
            clear hk0
            go_wp2_with fail
            go_roundw
            case rel => exact ⟨k + 1, A7, c7, q7, by omega, by go_num, by rw [e1.out, castL_len]; exact HQ7.out, rfl, by rw [e1.out]; exact I7.out, (fun h => by have := N7.out h; rw [HQ7.out] at this; exact this), D4.out⟩
            case measure => simp [intOf]; omega
          · have hke : ((k : Int) == (0 : Int)) = false := by simp; omega
            have e1 : Hid (castL (intL E (P.take (k + 1))) = (castL (intL E (P.take k))).filter (fun x => decide (x ∈ castL (domL E d)))) := Lib.hid (by
              rw [HUP.out, intL_snoc E _ _ (fun h => by
                have h2 : (P.take k).length = k := by rw [List.length_take]; have := HY.out; rw [castL_len] at this; omega
                rw [h, List.length_nil] at h2
                omega), castL_both])
            clear hk0
            go_wp2_with fail
            obtain ⟨L, hL⟩ : ∃ L, castL (intL E (P.take k)) = L := ⟨_, rfl⟩
            rw [hL] at e1 HV I4
            clear hL
            obtain ⟨DL, hDL⟩ : ∃ DL, castL (domL E d) = DL := ⟨_, rfl⟩
            have HDL : Hid (DL.length = q7) := Lib.hid (by rw [← hDL, castL_len]; exact HQ7.out)
            rw [hDL] at e1 I7
            clear hDL
            obtain ⟨wo, hwo⟩ : ∃ x, x = wr := ⟨_, rfl⟩
            subst hwo
            have hgq : w.heap.size < wo.heap.size := M5.out.lt
            go_loopw [9, 39] (fun ov iv wt => ∃ (p : Nat) (A8 : Option Addr) (c8 s : Nat), p ≤ v ∧ iv = .int .i64 p ∧ ((L.take p).filter (fun x => decide (x ∈ DL))).length = s ∧ ov = .slice A8 s c8 ∧ wt.ownsRow wo.heap.size 3 1 (.slice A8 s c8) s (((L.take p).filter (fun x => decide (x ∈ DL))).map (Value.int .i64)) ∧ Below wo.heap.size wo wt) (fun _ i _ => v - (intOf i).toNat)
            case atStart => exact ⟨0, none, 0, 0, Nat.zero_le _, rfl, rfl, rfl, World.ownsRow_nil _ _ _ _, Below.refl _ _⟩
            case round =>
              obtain ⟨p, A8, c8, s, hp, rfl, hs, rfl, hown8, hb8⟩ := hrel
              have O8 := Lib.hid hown8
              have D8 := Lib.hid hb8
              have HS := Lib.hid hs
              have hs20 : s ≤ 20 := by
                have h1 := List.length_filter_le (fun x => decide (x ∈ DL)) (L.take p)
                have h2 : (L.take p).length ≤ L.length := by rw [List.length_take]; exact Nat.min_le_right _ _
                have := HV.out
                omega
              have I8 := Lib.hid (I7.out.below D8.out)
              have hc8 := ((bcell D8.out).1 w.heap.size d hgq).trans hc7
              clear hown8 hb8 hs
              by_cases hlp : p < v
              · obtain ⟨u, hu⟩ : ∃ u, L[p]? = some u := ⟨_, List.getElem?_eq_getElem (by have := HV.out; omega)⟩
                obtain ⟨b9, off9, rfl, hb9, hc9⟩ := (I4.out.below D8.out) p _ hu
                have HUL := Lib.hid (take_snoc hu)
                have hp' : (p : Int) < (v : Int) := by omega
                clear hu
                cases hq : decide (u ∈ DL)
                · have HQ := Lib.hid hq
                  have HEE : Hid ((L.take (p + 1)).filter (fun x => decide (x ∈ DL)) = (L.take p).filter (fun x => decide (x ∈ DL))) := Lib.hid (by rw [HUL.out, List.filter_append]; simp only [List.filter, hq, List.append_nil])
                  clear hq
                  go_wp2_with (go_at_call 51; refine (l1Has_any _ _ _ DL u _ I8 HDL (by omega)).mono ?_; rintro e w' ⟨rfl, rfl⟩; rw [HQ.out])
                  go_roundw
                  case rel => exact ⟨p + 1, A8, c8, s, by omega, by go_num, by rw [HEE.out]; exact HS.out, rfl, by rw [HEE.out]; exact O8.out, D8.out⟩
                  case measure => simp [intOf]; omega
                · have HQ := Lib.hid hq
                  have HEE : Hid ((L.take (p + 1)).filter (fun x => decide (x ∈ DL)) = (L.take p).filter (fun x => decide (x ∈ DL)) ++ [u]) := Lib.hid (by rw [HUL.out, List.filter_append]; simp only [List.filter, hq])
                  clear hq
                  go_wp2_with (first
                    | (go_at_call 51; refine (l1Has_any _ _ _ DL u _ I8 HDL (by omega)).mono ?_; rintro e w' ⟨rfl, rfl⟩; rw [HQ.out])
                    | (at_builtin; (refine wpList_append_lies _ rfl _ _ 28 rfl wo.heap.size 3 i0 (.int .i64 0) 1 8 Try.underlying28 hi0 hz0 hz1 hz2 rfl (by omega) _ s _ rfl (O8.out.alloc _) ⟨wr.heap.size, 0, none⟩ 1 1 [.int .i64 u] rfl rfl (one_new1 wr _ _) (by intro u hu; rw [List.mem_singleton.1 hu]; rfl) (by omega) (by unfold maxLen; omega) (by omega) (by have := D8.out.size; first | omega | (simp; omega)) (wr.heap.size + 1) (by first | rfl | simp) ?_; intro g4 cap4 w4 hown4 hg4 hat4 hlt4; have H4 := Lib.hid (app1 O8.out hown4 hg4 D8.out (Nat.le_refl _)); clear hown4 hg4)))
                  go_roundw
                  case rel => exact ⟨p + 1, some ⟨g4, 0, none⟩, cap4, s + 1, by omega, by go_num, by rw [HEE.out, List.length_append, HS.out]; rfl, rfl, by rw [HEE.out]; exact H4.out.1, H4.out.2⟩
                  case measure => simp [intOf]; omega
              · obtain rfl : p = v := by omega
                have hfull : (L.take p).filter (fun x => decide (x ∈ DL)) = L.filter (fun x => decide (x ∈ DL)) := by rw [List.take_of_length_le (by rw [HV.out]; exact Nat.le_refl _)]
                rw [hfull, ← e1.out] at HS O8
                go_wp2
                go_roundw
                case rel => exact ⟨k + 1, A8, c8, s, by omega, by go_num, HS.out, rfl, own_ilies O8.out, own_nilA' O8.out, Below.tr D4.out D8.out⟩
                case measure => simp [intOf]; omega
        · obtain rfl : k = y := by omega
          obtain ⟨wo, hwo⟩ : ∃ x, x = wr := ⟨_, rfl⟩
          subst hwo
          have eI : castL (intL E (P.take k)) ++ [(a : Int)] = castL (domL E a) := by
            rw [List.take_of_length_le (by have := HY.out; rw [castL_len] at this; omega), ← HP.out]
            have h := intL_ahead HGK.out (i := a) (by rw [HE.out]; exact HRA.out) (by rw [HKL.out]; exact han)
            rw [HKL.out, HE.out] at h
            rw [h, dom_snoc, castL_app]
            rfl
          have EI := Lib.hid eI
          obtain ⟨L, hL⟩ : ∃ L, castL (intL E (P.take k)) = L := ⟨_, rfl⟩
          rw [hL] at EI HV I4
          have hgq : w.heap.size < wo.heap.size := M5.out.lt
          have han' : (a : Int) < (n : Int) := by omega
          clear eI hL
          go_wp2_with (first
            | (at_builtin; (refine append_ints (w1 := wo.alloc (.cells #[] 3)) (base := wo.heap.size) (xs := []) (l := L) _ _ rfl rfl rfl rfl (World.ownsRow_lit wo #[] 0 (Nat.le_refl _) (by unfold maxLen; omega) rfl) (I4.out.below (below1 wo _)) HV.out N4.out (by simp) (by omega) (by omega) ?_; intro g5 c5 w5 ho5 hg5 hat5; have O5 : Hid (w5.ownsRow wo.heap.size 3 1 (.slice (some ⟨g5, 0, none⟩) v c5) v (L.map (Value.int .i64))) := Lib.hid (by simpa using ho5); have B5 := Lib.hid ((below1 wo _).grown hg5 (by simp) (fun g e => by cases e; exact Nat.le_refl _)); have hs5 := B5.out.size; try rw [Nat.zero_add]; clear ho5 hg5 hat5))
            | (at_builtin; (refine wpList_append_lies _ rfl _ _ 28 rfl wo.heap.size 3 i0 (.int .i64 0) 1 8 Try.underlying28 hi0 hz0 hz1 hz2 rfl (by omega) _ v _ rfl (O5.out.alloc _) ⟨w5.heap.size, 0, none⟩ 1 1 [.int .i64 a] rfl rfl (one_new1 w5 _ _) (by intro u hu; rw [List.mem_singleton.1 hu]; rfl) (by omega) (by unfold maxLen; omega) (by omega) (by first | omega | (simp; omega)) (w5.heap.size + 1) (by first | rfl | simp) ?_; intro g6 cap6 w6 hown6 hg6 hat6 hlt6; have H6 := Lib.hid (app1 O5.out hown6 hg6 B5.out (Nat.le_refl _)); obtain ⟨⟨vv, hvv⟩, hff⟩ := (M5.out.below H6.out.2).any han; clear hown6 hg6 hat6 hlt6)))
          have hdl : (domL E a).length = v + 1 := by have h := congrArg List.length EI.out; rw [List.length_append, HV.out, castL_len] at h; simp at h; omega
          have o6 := own_base H6.out.1 (show w.heap.size + 1 ≤ wo.heap.size by omega)
          rw [EI.out, ← hdl] at o6
          have m6 := (M5.out.below H6.out.2).step han o6
          rw [hdl] at m6
          have hdd := HU.out
          clear hdl o6 hvv hff
          have M6 := Lib.hid m6
          clear m6
          go_roundw
          case rel => exact ⟨i + 1, by omega, by go_num, by rw [hdd]; exact M6.out, (Below.tr B4.out (Below.tr D4.out H6.out.2)).setCell (Nat.le_refl _) _, (K4.out.trans ((Kept.of_below (Below.tr D4.out H6.out.2)).trans Kept.set))⟩
          case measure => simp [intOf]; omega
    · obtain rfl : i = z := by omega
      go_wp2
      go_ret
      refine ⟨w.heap.size, rfl, Nat.le_refl _, ?_, B3.out⟩
      have e := M3.out
      rw [List.take_of_length_le (by have := HZ.out; rw [castL_len] at this; omega)] at e
      exact e
set_option maxRecDepth 100000 in
set_option maxHeartbeats 4000000 in
theorem specMust_any (A : Option Addr) (n cap : Nat) (at_ : Int) (xs : List Stp) (w : World) (b : Bool) (l : List Int) (hr : Hid (TwoRes (ThereR xs n at_) (mustR xs at_) b l)) (hl : Hid (Lies w A xs)) (hx : Hid (xs.length = n)) (hn : n ≤ 1048576) :
    Calls Try.prog 33 #[.slice A n cap, .int .i64 at_] w (GaveTwo w l b) := by
  obtain ⟨i0, hi0, hz0, hz1, hz2⟩ := info_parts info_int
  obtain ⟨b0, hb0⟩ := there_b xs n at_
  have HB0 := Lib.hid hb0
  clear hb0
  go_enter Try.func33, Try.ntmps33
  go_wp2_with fail
  refine (l11There_any _ _ _ _ xs _ b0 HB0 hl hx hn).mono ?_
  rintro e w1 ⟨rfl, hb1⟩
  have B1 := Lib.hid hb1
  clear hb1
  cases b0
  · obtain ⟨rfl, rfl⟩ := hr.out.no (fun h => by have := HB0.out.2 h.1; cases this)
    go_wp2
    go_ret2
    exact two_nil w _ B1.out
  · obtain ⟨GX, g0, g1⟩ := HB0.out.1 rfl
    obtain ⟨f, rfl⟩ := Int.eq_ofNat_of_zero_le g0
    have hfn : f < n := by omega
    have hfn' : (f : Int) < (n : Int) := g1
    have HGX := Lib.hid GX
    obtain ⟨hn0, hn20⟩ := good_20 HGX.out hx.out
    have hdec : decide ((f : Int) ∈ castL (reachL (edg (ktOf xs)) n 0)) = rb (edg (ktOf xs)) 0 f := by
      cases q : rb (edg (ktOf xs)) 0 f
      · exact decide_eq_false (fun h => by have := (mem_reach.1 (castL_mem'.1 h)).2; rw [q] at this; cases this)
      · exact decide_eq_true (castL_mem'.2 (mem_reach.2 ⟨hfn, q⟩))
    have HDC := Lib.hid hdec
    clear hdec GX
    go_wp2_with fail
    refine (l11Reached_any _ _ _ 0 xs _ HGX (Lib.hid (hl.out.below B1.out)) hx hn0).mono ?_
    rintro e w2 ⟨A2, c2, rfl, hown2, hb2⟩
    have hrl := reach_len (edg (ktOf xs)) n 0
    have I2 := Lib.hid (own_ilies hown2)
    have B2 := Lib.hid (Below.tr B1.out hb2)
    clear hown2 hb2
    cases q : rb (edg (ktOf xs)) 0 f
    · have HQ := Lib.hid q
      obtain ⟨rfl, rfl⟩ := hr.out.no (fun h => by have := h.2; rw [Int.toNat_natCast, q] at this; cases this)
      clear q
      go_wp2_with (go_at_call 51; refine (l1Has_any _ _ _ _ _ _ I2 (Lib.hid rfl) (by omega)).mono ?_; rintro e w' ⟨rfl, rfl⟩; rw [HDC.out, HQ.out])
      go_ret2
      exact two_nil w _ B2.out
    · have HQ := Lib.hid q
      obtain ⟨rfl, rfl⟩ := hr.out.yes ⟨⟨HGX.out, by omega, g1⟩, by rw [Int.toNat_natCast]; exact q⟩
      clear q
      go_wp2_with (go_at_call 51; refine (l1Has_any _ _ _ _ _ _ I2 (Lib.hid rfl) (by omega)).mono ?_; rintro e w' ⟨rfl, rfl⟩; rw [HDC.out, HQ.out])
      refine (l11Must_any _ _ _ xs _ HGX (Lib.hid (hl.out.below (Below.tr B2.out (below1 w2 _)))) hx).mono ?_
      rintro e w5 ⟨gr, rfl, hgr, hmu, hb5⟩
      have B5 := Lib.hid (Below.tr (below1 w2 _) hb5)
      have OL := Lib.hid (own_below (World.ownsRow_lit w2 #[] 0 (Nat.le_refl _) (by unfold maxLen; omega) rfl : (w2.alloc (.cells #[] 3)).ownsRow w2.heap.size 3 1 _ 0 _) hb5)
      obtain ⟨A7, c7, hc7, hi7, hn7⟩ := hmu.at hfn (mem_reach.2 ⟨hfn, HQ.out⟩)
      have I7 := Lib.hid hi7
      have N7 := Lib.hid hn7
      have hs5 := B5.out.size
      have hdl : (castL (domL (edg (ktOf xs)) f)).length = (domL (edg (ktOf xs)) f).length := castL_len _
      have hd20 := dom_len (edg (ktOf xs)) f
      have em : castL (domL (edg (ktOf xs)) f) = mustR xs f := by unfold mustR; rw [Int.toNat_natCast]
      have EM := Lib.hid em
      have HDL := Lib.hid hdl
      clear hgr hmu hb5 hi7 hn7 hdl em
      go_wp2_with (at_builtin; (refine append_ints (w1 := w5) (base := w2.heap.size) (xs := []) (l := castL (domL (edg (ktOf xs)) f)) _ _ rfl rfl rfl rfl OL.out I7.out HDL.out N7.out hs5 (by omega) (by omega) ?_; intro g8 c8 w8 ho8 hg8 hat8; have O8 := Lib.hid ho8; have B8 := Lib.hid (B5.out.grown hg8 hs5 (fun g e => by cases e; exact (OL.out.lt _ rfl).1)); clear ho8 hg8 hat8))
      go_ret2
      have o8 := O8.out
      rw [List.nil_append, EM.out, Nat.zero_add] at o8
      have e9 : (mustR xs f).length = (domL (edg (ktOf xs)) f).length := by rw [← EM.out]; exact HDL.out
      refine two_of e9 (own_base o8 B2.out.size) (Below.tr B2.out B8.out)
set_option maxRecDepth 100000 in
set_option maxHeartbeats 4000000 in
theorem specNear_any (A : Option Addr) (n cap : Nat) (xs : List Stp) (w : World) (b : Bool) (l : List Int) (hr : Hid (TwoRes (Good xs) (nearR xs) b l)) (hl : Hid (Lies w A xs)) (hx : Hid (xs.length = n)) (hn : n ≤ 1048576) :
    Calls Try.prog 35 #[.slice A n cap] w (GaveTwo w l b) := by
  obtain ⟨i0, hi0, hz0, hz1, hz2⟩ := info_parts info_int
  go_enter Try.func35, Try.ntmps35
  go_wp2_with fail
  refine (specGood_any _ _ _ xs _ b (Lib.hid hr.out.1) hl hx hn).mono ?_
  rintro e w0 ⟨rfl, hb0⟩
  have B0 := Lib.hid hb0
  clear hb0
  cases b
  · obtain rfl := hr.out.2.1 rfl
    go_wp2
    go_ret2
    exact two_nil w _ B0.out
  · have HGX := Lib.hid (hr.out.1.1 rfl)
    have hle := hr.out.2.2 rfl
    subst hle
    obtain ⟨hn0, hn20⟩ := good_20 HGX.out hx.out
    go_wp2_with fail
    refine (l11Must_any _ _ _ xs _ HGX (Lib.hid (hl.out.below B0.out)) hx).mono ?_
    rintro e w1 ⟨gr, rfl, hgr, hmu, hb1⟩
    have M1 := Lib.hid hmu
    have B1 := Lib.hid (Below.tr B0.out hb1)
    have hgl : gr < w1.heap.size := hmu.lt
    clear hgr hmu hb1
    go_wp2_with fail
    go_loopw [4, 13] (fun ov iv wr => ∃ (k : Nat) (A2 : Option Addr) (c2 : Nat), k ≤ n ∧ iv = .int .i64 k ∧ ov = .slice A2 k c2 ∧ wr.ownsRow w1.heap.size 3 1 (.slice A2 k c2) k ((nearF (ktOf xs) k).map (Value.int .i64)) ∧ Below w1.heap.size w1 wr) (fun _ i _ => n - (intOf i).toNat)
    case atStart => exact ⟨0, none, 0, Nat.zero_le _, rfl, rfl, World.ownsRow_nil _ _ _ _, Below.refl _ _⟩
    case round =>
      obtain ⟨k, A2, c2, hk, rfl, rfl, hown, hb⟩ := hrel
      have O3 := Lib.hid hown
      have C3 := Lib.hid hb
      have M3 := Lib.hid (M1.out.below C3.out)
      clear hown hb
      by_cases hlt : k < n
      · have hk' : (k : Int) < (n : Int) := by omega
        have HSN : Hid (nearF (ktOf xs) (k + 1) = nearF (ktOf xs) k ++ [nearN (edg (ktOf xs)) k]) := Lib.hid (by unfold nearF; rw [List.range_succ, List.map_append]; rfl)
        by_cases hrk : rb (edg (ktOf xs)) 0 k = true ∧ 0 < k
        · obtain ⟨A7, c7, hc7, hi7, -⟩ := M3.out.at hlt (mem_reach.2 ⟨hlt, hrk.1⟩)
          obtain ⟨hlen, d, hd, hnd⟩ := near_dom hrk.1 hrk.2
          have h2 := dom_two hrk.1 hrk.2
          obtain ⟨q, hq⟩ : ∃ q, (domL (edg (ktOf xs)) k).length = q := ⟨_, rfl⟩
          have hq20 : q ≤ 20 := by have := dom_len (edg (ktOf xs)) k; omega
          rw [hq] at hlen hd hc7
          have hq2 : 2 ≤ q := by omega
          obtain ⟨m, hm⟩ : ∃ m, q - 2 = m := ⟨_, rfl⟩
          rw [hm] at hd
          obtain ⟨b5, off5, rfl, hb5, hc5⟩ := hi7 m _ (castL_at hd)
          have HND := Lib.hid hnd
          have hmi : (q : Int) - 2 = (m : Int) := by omega
          have hmq : (m : Int) < (q : Int) := by omega
          clear hi7 hrk hd hnd hlen h2 hq hm
          rw [HND.out] at HSN
          go_wp2_with (at_builtin; (refine wpList_append_lies _ rfl _ _ 28 rfl w1.heap.size 3 i0 (.int .i64 0) 1 8 Try.underlying28 hi0 hz0 hz1 hz2 rfl (by omega) _ k _ rfl (O3.out.alloc _) ⟨wr.heap.size, 0, none⟩ 1 1 [.int .i64 d] rfl rfl (one_new1 wr _ _) (by intro u hu; rw [List.mem_singleton.1 hu]; rfl) (by omega) (by unfold maxLen; omega) (by omega) (by have := C3.out.size; first | omega | (simp; omega)) (wr.heap.size + 1) (by first | rfl | simp) ?_; intro g4 cap4 w4 hown4 hg4 hat4 hlt4; have H4 := Lib.hid (app1 O3.out hown4 hg4 C3.out (Nat.le_refl _)); clear hown4 hg4))
          go_roundw
          case rel => exact ⟨k + 1, some ⟨g4, 0, none⟩, cap4, by omega, by go_num, rfl, by rw [HSN.out]; exact H4.out.1, H4.out.2⟩
          case measure => simp [intOf]; omega
        · have HNN := Lib.hid (near_none hrk)
          have hcell : ∃ (a : Option Addr) (q c : Nat), wr.cell? ⟨gr, k, none⟩ = some (.slice a q c) ∧ q ≤ 1 := by
            by_cases q : rb (edg (ktOf xs)) 0 k = true
            · have hk0 : k = 0 := by rcases Nat.eq_zero_or_pos k with h | h; · exact h
                                     · exact absurd ⟨q, h⟩ hrk
              obtain ⟨A7, c7, hc7, _, _⟩ := M3.out.at hlt (mem_reach.2 ⟨hlt, q⟩)
              exact ⟨A7, _, c7, hc7, by rw [hk0, dom_zero]; simp⟩
            · exact ⟨none, 0, 0, M3.out.no hlt (fun h => q (mem_reach.1 h).2), by omega⟩
          obtain ⟨a7, q7, c7, hc7, hq7⟩ := hcell
          have hq7' : (q7 : Int) ≤ 1 := by omega
          clear hrk
          rw [HNN.out] at HSN
          go_wp2_with (at_builtin; (refine wpList_append_lies _ rfl _ _ 28 rfl w1.heap.size 3 i0 (.int .i64 0) 1 8 Try.underlying28 hi0 hz0 hz1 hz2 rfl (by omega) _ k _ rfl (O3.out.alloc _) ⟨wr.heap.size, 0, none⟩ 1 1 [.int .i64 (-1)] rfl rfl (one_new1 wr _ _) (by intro u hu; rw [List.mem_singleton.1 hu]; rfl) (by omega) (by unfold maxLen; omega) (by omega) (by have := C3.out.size; first | omega | (simp; omega)) (wr.heap.size + 1) (by first | rfl | simp) ?_; intro g4 cap4 w4 hown4 hg4 hat4 hlt4; have H4 := Lib.hid (app1 O3.out hown4 hg4 C3.out (Nat.le_refl _)); clear hown4 hg4))
          go_roundw
          case rel => exact ⟨k + 1, some ⟨g4, 0, none⟩, cap4, by omega, by go_num, rfl, by rw [HSN.out]; exact H4.out.1, H4.out.2⟩
          case measure => simp [intOf]; omega
      · obtain rfl : k = n := by omega
        have e : nearF (ktOf xs) k = nearR xs := by unfold nearR; rw [hx.out]
        have el : (nearR xs).length = k := by unfold nearR nearF; rw [List.length_map, List.length_range]; exact hx.out
        rw [e] at O3
        go_wp2
        go_ret2
        exact two_of el (own_base O3.out B1.out.size) (Below.tr B1.out C3.out)
end Go.Proofs.Ytilnegmjnbffhaa
