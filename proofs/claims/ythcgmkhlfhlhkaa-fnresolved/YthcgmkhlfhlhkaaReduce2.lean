/-
  Contracts of Reduce: the model's.
-/
import Derived.Test.YthcgmkhlfhlhkaaReduce
namespace Go.Proofs.Ythcgmkhlfhlhkaa
open Go.ChangeShapes Go.WideShapes Go.ChangeAt Go.RowKit

theorem any_take_snoc {p : Int → Bool} {c : List Int} {j : Nat} {x : Int} (hx : c[j]? = some x) : (c.take (j + 1)).any p = ((c.take j).any p || p x) := by
  rw [take_snoc hx, List.any_append]
  simp
/-- it answers a slice of slices of its own -/
def GaveS (w : World) (R : List (List Int)) (e : Ending) (w' : World) : Prop :=
  ∃ A c vs, e = .returned (.slice A R.length c) ∧ OwnSS w' w.heap.size (.slice A R.length c) vs R ∧ Below w.heap.size w w'
set_option maxRecDepth 100000 in
set_option maxHeartbeats 8000000 in
theorem l4Reduce_any (A B : Option Addr) (n m cap c2 : Nat) (L : List (List Int)) (given : List Int) (w : World) (hl : Hid (LLies w A L)) (hl2 : Hid (ILies w B given)) (HX : Hid (L.length = n)) (HY : Hid (given.length = m)) (hn : n ≤ 1000) (hm : m ≤ 9223372036854775807) (HI : Hid (∀ c ∈ L, In12 c)) (HLE : Hid (∀ c ∈ L, c.length ≤ 12)) :
    Calls Try.prog 61 #[.slice A n cap, .slice B m c2] w (GaveS w (reduceL given L)) := by
  obtain ⟨i0, hi0, hz0, hz1, hz2⟩ := info_parts info_int
  obtain ⟨iS, hiS, hs0, hs1, hs2⟩ := info_parts info_ints
  go_enter Try.func61, Try.ntmps61
  go_wp2_with fail
  go_loopw [5, 14] (fun u i wr => ∃ (k : Nat) (R : List (List Int)), k ≤ n ∧ i = .int .i64 k ∧ R = reduceL given (L.take k) ∧ R.length ≤ k ∧ (∃ A2 c2 vs, u = .slice A2 R.length c2 ∧ OwnSS wr w.heap.size (.slice A2 R.length c2) vs R) ∧ Below w.heap.size w wr) (fun _ i _ => n - (intOf i).toNat)
  case atStart => exact ⟨0, [], Nat.zero_le _, rfl, by simp [reduceL], Nat.le_refl _, ⟨none, 0, [], rfl, OwnSS.nil _ _⟩, Below.refl _ _⟩
  case round =>
    obtain ⟨k, S, hk, rfl, hS, hSk, ⟨A2, d2, vs, rfl, hown⟩, hbw⟩ := hrel
    obtain ⟨wo, hwo⟩ : ∃ x, x = wr := ⟨_, rfl⟩
    subst hwo
    obtain ⟨p, hp⟩ : ∃ p, S.length = p := ⟨_, rfl⟩
    rw [hp] at hSk hown ⊢
    have HP := Lib.hid hp
    have HS := Lib.hid hS
    have OW := Lib.hid hown
    have BW := Lib.hid hbw
    have LW := Lib.hid (hl.out.below hbw)
    have GW := Lib.hid (hl2.out.below hbw)
    clear hp hS hown hbw
    by_cases hlt : k < n
    · obtain ⟨c, hx⟩ : ∃ x, L[k]? = some x := ⟨_, List.getElem?_eq_getElem (by have := HX.out; omega)⟩
      obtain ⟨b, off, a, cp, rfl, hbl, ha, hca, hma, hil⟩ := LW.out k c hx
      have HRA := Lib.hid (reduceL_at given L k c hx)
      have IL := Lib.hid hil
      have HIC := Lib.hid (HI.out c (List.mem_of_getElem? hx))
      have HCL : c.length ≤ 12 := HLE.out c (List.mem_of_getElem? hx)
      clear hx hil
      obtain ⟨z, hz⟩ : ∃ m, c.length = m := ⟨_, rfl⟩
      rw [hz] at ha hca hma HCL
      have HM := Lib.hid hz
      clear hz
      go_wp2_with fail
      go_loopw [8, 9, 20] (fun so u i wj => ∃ (j : Nat) (o : List Int) (sb : Bool), j ≤ z ∧ i = .int .i64 j ∧ so = .bool sb ∧ sb = ((c.take j).any fun x => given.contains x) ∧ o = lf given (c.take j) ∧ o.length ≤ j ∧ (∃ A3 c3, u = .slice A3 o.length c3 ∧ wj.ownsRow wo.heap.size 3 1 (.slice A3 o.length c3) o.length (o.map (Value.int .i64))) ∧ Below wo.heap.size wo wj) (fun _ _ i _ => z - (intOf i).toNat)
      case atStart => exact ⟨0, [], false, Nat.zero_le _, rfl, rfl, rfl, rfl, Nat.le_refl _, ⟨none, 0, rfl, World.ownsRow_nil _ _ _ _⟩, Below.refl _ _⟩
      case round =>
        obtain ⟨j, o, sb, hj, rfl, rfl, hsb, ho, hoj, ⟨A3, c3, rfl, hown3⟩, hbj⟩ := hrel
        obtain ⟨q, hq⟩ : ∃ m, o.length = m := ⟨_, rfl⟩
        rw [hq] at hoj hown3 ⊢
        have HQ := Lib.hid hq
        have HO := Lib.hid ho
        have HSB := Lib.hid hsb
        have O3 := Lib.hid hown3
        have B3 := Lib.hid hbj
        have ILJ := Lib.hid (IL.out.below hbj)
        have GWJ := Lib.hid (GW.out.below hbj)
        clear hq ho hsb hown3 hbj
        by_cases hjt : j < z
        · obtain ⟨x, hx⟩ : ∃ x, c[j]? = some x := ⟨_, List.getElem?_eq_getElem (by have := HM.out; omega)⟩
          obtain ⟨b2, off2, rfl, hbl2, ha2⟩ := ILJ.out j x hx
          have hxr := HIC.out x (List.mem_of_getElem? hx)
          have hxa : -12 ≤ x := hxr.1
          have hxb : x ≤ 12 := hxr.2
          have HLF := Lib.hid (lf_at given c j x hx)
          have HAN := Lib.hid (any_take_snoc (p := fun x => given.contains x) hx)
          clear hx hxr
          cases q1 : decide (x ∈ given)
          all_goals
            cases q2 : decide (-x ∈ given)
            all_goals
              cases sb
              all_goals
                go_wp2_with (first
                  | (at_builtin; (refine wpList_append_lies _ rfl _ _ 24 rfl wo.heap.size 3 i0 (.int .i64 0) 1 8 Try.underlying24 hi0 hz0 hz1 hz2 rfl (by omega) _ q _ rfl (O3.out.alloc _) ⟨wr.heap.size, 0, none⟩ 1 1 [.int .i64 x] rfl rfl (one_new1 wr _ _) (by intro u hu; rw [List.mem_singleton.1 hu]; rfl) (by omega) (by unfold maxLen; omega) (by omega) (by have := B3.out.size; first | omega | (simp; omega)) (wr.heap.size + 1) (by first | rfl | simp) ?_; intro g4 cap4 w4 hown4 hg4 hat4 hlt4; have H4 := Lib.hid (app1 O3.out hown4 hg4 B3.out (Nat.le_refl _)); clear hown4 hg4 hat4 hlt4))
                  | (go_at_call 69; refine (l1Has_any _ _ _ given _ _ GWJ HY hm).mono ?_; rintro e w' ⟨rfl, rfl⟩; first | rw [q1] | rw [q2]))
                go_roundw
                case rel => first
                  | exact ⟨j + 1, o ++ [x], _, by omega, by go_num, rfl, by rw [HAN.out, ← HSB.out]; simp only [List.contains_eq_mem, q1]; rfl, by rw [HLF.out, if_neg (by simpa using q2), HO.out], by have := HQ.out; simp; omega, acc_snoc HQ.out H4.out.1, H4.out.2⟩
                  | exact ⟨j + 1, o, _, by omega, by go_num, rfl, by rw [HAN.out, ← HSB.out]; simp only [List.contains_eq_mem, q1]; rfl, by rw [HLF.out, if_pos (by simpa using q2), HO.out, List.append_nil], by have := HQ.out; omega, acc_same HQ.out O3.out, B3.out⟩
                case measure => simp [intOf]; omega
        · obtain rfl : j = z := by omega
          have EL : Hid (o = lf given c) := Lib.hid (by rw [HO.out, List.take_of_length_le (by have := HM.out; omega)])
          have EA : Hid ((c.any fun x => given.contains x) = sb) := Lib.hid (by have h := HSB.out; rw [List.take_of_length_le (by have := HM.out; omega)] at h; exact h.symm)
          have OU : Hid (wr.ownsRow w.heap.size 24 1 (.slice A2 p d2) p vs) := Lib.hid (by have h := own_below OW.out.outer B3.out; rw [HP.out] at h; exact h)
          cases sb
          · go_wp2_with (at_builtin; (refine wpList_append_lies _ rfl _ _ 23 rfl w.heap.size 24 iS (.slice none 0 0) 1 24 Try.underlying23 hiS hs0 hs1 hs2 rfl (by omega) _ p _ rfl (OU.out.alloc _) ⟨wr.heap.size, 0, none⟩ 1 1 [.slice A3 q c3] rfl rfl (one_new1 wr _ _) (by intro u hu; rw [List.mem_singleton.1 hu]; rfl) (by omega) (by unfold maxLen; omega) (by omega) (by have := B3.out.size; have := BW.out.size; first | omega | (simp; omega)) (wr.heap.size + 1) (by first | rfl | simp) ?_; intro g4 cap4 w4 hown4 hg4 hat4 hlt4; have H4 := Lib.hid (OwnSS.grow (o := o) (c3 := c3) (A3 := A3) HP.out OW.out BW.out B3.out (by rw [HQ.out]; exact O3.out) (by rw [HQ.out]; exact hown4) (by rw [HQ.out]; exact hg4) hat4); clear hown4 hg4 hat4 hlt4))
            go_roundw
            case rel => exact ⟨k + 1, S ++ [o], by omega, by go_num, by rw [HRA.out, EA.out, HS.out, EL.out]; simp, by have := HP.out; simp; omega, ⟨some ⟨g4, 0, none⟩, cap4, _, by rw [List.length_append, HP.out, List.length_singleton], by rw [List.length_append, HP.out]; exact H4.out.1⟩, H4.out.2⟩
            case measure => simp [intOf]; omega
          · go_wp2
            go_roundw
            case rel => exact ⟨k + 1, S, by omega, by go_num, by rw [HRA.out, EA.out, HS.out]; simp, by have := HP.out; omega, ⟨A2, d2, vs, by rw [HP.out], by rw [HP.out]; exact OW.out.below B3.out⟩, Below.tr BW.out B3.out⟩
            case measure => simp [intOf]; omega
    · obtain rfl : k = n := by omega
      have EL : Hid (reduceL given L = S) := Lib.hid (by rw [HS.out, List.take_of_length_le (by have := HX.out; omega)])
      go_wp2
      go_ret
      rw [EL.out]
      exact ⟨A2, d2, vs, (by first | (rw [HP.out]; done) | (rw [HP.out]; rfl)), by rw [HP.out]; exact OW.out, BW.out⟩
set_option maxRecDepth 100000 in
set_option maxHeartbeats 4000000 in
theorem specReduce_any (v : Int) (A B : Option Addr) (n m cap c2 : Nat) (L : List (List Int)) (given : List Int) (w : World) (R : List (List Int)) (ok : Bool) (hr : Hid (RedR v L given R ok)) (hl : Hid (LLies w A L)) (hl2 : Hid (ILies w B given)) (HX : Hid (L.length = n)) (HY : Hid (given.length = m)) (hn : n ≤ 9223372036854775807) (hm : m ≤ 9223372036854775807) (hc : m ≤ c2) :
    Calls Try.prog 23 #[.int .i64 v, .slice A n cap, .slice B m c2] w (GaveSS w R ok) := by
  cases q1 : goodB v L
  · have E : Hid (R = [] ∧ ok = false) := Lib.hid (by have := hr.out; unfold RedR at this; rw [q1] at this; obtain ⟨rfl, rfl⟩ := this; simp)
    go_enter Try.func23, Try.ntmps23
    go_wp2_with (go_at_call 17; refine (specGoodC_any _ _ _ _ L _ hl HX hn).mono ?_; rintro e w' ⟨rfl, rfl⟩; rw [q1])
    go_ret2
    obtain ⟨rfl, rfl⟩ := E.out
    exact ⟨none, 0, [], rfl, OwnSS.nil _ _, Below.refl _ _⟩
  have hv := goodB_v q1
  have hv1 : 0 ≤ v := hv.1
  have hv2 : v ≤ 12 := hv.2
  clear hv
  cases q2 : clauseB v given
  · have E : Hid (R = [] ∧ ok = false) := Lib.hid (by have := hr.out; unfold RedR at this; rw [q1, q2] at this; obtain ⟨rfl, rfl⟩ := this; simp)
    go_enter Try.func23, Try.ntmps23
    go_wp2_with (first
      | (go_at_call 17; refine (specGoodC_any _ _ _ _ L _ hl HX hn).mono ?_; rintro e w' ⟨rfl, rfl⟩; rw [q1])
      | (go_at_call 53; refine (l4Given_any _ _ _ _ given _ hl2 HY hm hc hv1 hv2).mono ?_; rintro e w' ⟨rfl, rfl⟩; rw [q2]))
    go_ret2
    obtain ⟨rfl, rfl⟩ := E.out
    exact ⟨none, 0, [], rfl, OwnSS.nil _ _, Below.refl _ _⟩
  have hn60 : n ≤ 60 := by have := goodB_len q1; have := HX.out; omega
  have E : Hid (R = reduceL given L ∧ ok = true) := Lib.hid (by have := hr.out; unfold RedR at this; rw [q1, q2] at this; obtain ⟨rfl, rfl⟩ := this; simp)
  have HI := Lib.hid (goodB_in12 q1)
  have HLE : Hid (∀ c ∈ L, c.length ≤ 12) := Lib.hid (fun c hc => clauseB_len (goodB_cl q1 c hc))
  go_enter Try.func23, Try.ntmps23
  go_wp2_with (first
    | (go_at_call 17; refine (specGoodC_any _ _ _ _ L _ hl HX hn).mono ?_; rintro e w' ⟨rfl, rfl⟩; rw [q1])
    | (go_at_call 53; refine (l4Given_any _ _ _ _ given _ hl2 HY hm hc hv1 hv2).mono ?_; rintro e w' ⟨rfl, rfl⟩; rw [q2]))
  refine (l4Reduce_any _ _ _ _ _ _ L given _ hl hl2 HX HY (by omega) hm HI HLE).mono ?_
  rintro e w3 ⟨A3, d3, vs, rfl, ho3, hb3⟩
  have O3 := Lib.hid ho3
  have B3 := Lib.hid hb3
  clear ho3 hb3
  go_wp2
  go_ret2
  obtain ⟨rfl, rfl⟩ := E.out
  exact ⟨_, _, _, rfl, O3.out, B3.out⟩
end Go.Proofs.Ythcgmkhlfhlhkaa
