/-
  PureIn, the program's and the model's.
-/
import Derived.Test.YtehedomjfpipkaaPuMath
import Derived.Test.YtehedomjfpipkaaApps
namespace Go.Proofs.Ytehedomjfpipkaa
open Go.ChangeShapes Go.WideShapes Go.ChangeAt Go.RowKit

/-- what PureIn answers -/
def PureR (v : Int) (L : List (List Int)) (r : List Int) (ok : Bool) : Prop := ok = goodB v L ∧ r = (if ok then pureL v.toNat L.flatten else [])
theorem PureR.len {v : Int} {L : List (List Int)} {r : List Int} {ok : Bool} (h : PureR v L r ok) : r.length ≤ 1000 := by
  obtain ⟨h1, h2⟩ := h
  cases ok
  · subst h2; simp
  · have hv := goodB_v h1.symm
    subst h2
    have := pureL_len v.toNat L.flatten
    simp
    omega
theorem flat_in12 {L : List (List Int)} (h : ∀ c ∈ L, In12 c) : In12 L.flatten := by
  intro x hx
  obtain ⟨c, hc, hx⟩ := List.mem_flatten.1 hx
  exact h c hc x hx
theorem flat_take {L : List (List Int)} (h : ∀ c ∈ L, In12 c) (k : Nat) : In12 (L.take k).flatten := flat_in12 (fun c hc => h c (List.mem_of_mem_take hc))
set_option maxRecDepth 100000 in
set_option maxHeartbeats 4000000 in
theorem implPure_any (v : Int) (A : Option Addr) (n cap : Nat) (L : List (List Int)) (w : World) (r : List Int) (ok : Bool) (hr : Hid (PureR v L r ok)) (hl : Hid (LLies w A L)) (HX : Hid (L.length = n)) (hn : n ≤ 9223372036854775807) :
    Calls Try.prog 35 #[.int .i64 v, .slice A n cap] w (GaveTwo w r ok) := by
  obtain ⟨i0, hi0, hz0, hz1, hz2⟩ := info_parts info_int
  cases q1 : goodB v L
  · have E : Hid (r = [] ∧ ok = false) := Lib.hid (by have := hr.out; unfold PureR at this; rw [q1] at this; obtain ⟨rfl, rfl⟩ := this; simp)
    go_enter Try.func35, Try.ntmps35
    go_wp2_with (go_at_call 53; refine (implGoodC_any _ _ _ _ L _ hl HX hn).mono ?_; rintro e w' ⟨rfl, rfl⟩; rw [q1])
    go_ret2
    obtain ⟨rfl, rfl⟩ := E.out
    exact two_nil _ _ (Below.refl _ _)
  have hv := goodB_v q1
  obtain ⟨V, rfl⟩ : ∃ V : Nat, v = V := ⟨v.toNat, by omega⟩
  have hv2 : V ≤ 12 := by omega
  have hn60 : n ≤ 60 := by have := goodB_len q1; have := HX.out; omega
  have E : Hid (r = pureL V L.flatten ∧ ok = true) := Lib.hid (by have := hr.out; unfold PureR at this; rw [q1] at this; obtain ⟨rfl, rfl⟩ := this; simp)
  have HI := Lib.hid (goodB_in12 q1)
  have HLE : Hid (∀ c ∈ L, c.length ≤ 12) := Lib.hid (fun c hc => clauseB_len (goodB_cl q1 c hc))
  have HF : Hid (In12 L.flatten) := Lib.hid (flat_in12 HI.out)
  clear hv hr
  go_enter Try.func35, Try.ntmps35
  go_wp2_with (go_at_call 53; refine (implGoodC_any _ _ _ _ L _ hl HX hn).mono ?_; rintro e w' ⟨rfl, rfl⟩; rw [q1])
  clear q1
  go_loop [6, 17] (fun s i => ∃ k : Nat, k ≤ n ∧ i = .int .i64 k ∧ s = .int .u32 (setV (L.take k).flatten)) (fun _ i => n - (intOf i).toNat)
  case atStart => exact ⟨0, Nat.zero_le _, rfl, rfl⟩
  case round =>
    obtain ⟨k, hk, rfl, rfl⟩ := hrel
    by_cases hlt : k < n
    · obtain ⟨c, hx⟩ : ∃ x, L[k]? = some x := ⟨_, List.getElem?_eq_getElem (by have := HX.out; omega)⟩
      obtain ⟨b, off, a, cp, rfl, hbl, ha, hca, hma, hil⟩ := hl.out k c hx
      have IL := Lib.hid hil
      have HIC := Lib.hid (HI.out c (List.mem_of_getElem? hx))
      have HCL : c.length ≤ 12 := HLE.out c (List.mem_of_getElem? hx)
      have HFA := Lib.hid (flatten_at hx)
      have HSO := set_or2 (L.take k).flatten c (flat_take HI.out k) HIC.out
      clear hx hil
      obtain ⟨z, hz⟩ : ∃ m, c.length = m := ⟨_, rfl⟩
      rw [hz] at ha hca hma HCL
      have HM := Lib.hid hz
      clear hz
      go_wp2_with (go_at_call 77; refine (setOf_any _ _ _ c _ IL HM HIC (by omega)).mono ?_; rintro e w' ⟨rfl, rfl⟩)
      go_round
      case rel => exact ⟨k + 1, by omega, by go_num, by rw [HFA.out]⟩
      case measure => simp [intOf]; omega
    · obtain rfl : k = n := by omega
      have TK : (L.take k) = L := List.take_of_length_le (by have := HX.out; omega)
      rw [TK]
      clear TK
      go_wp2_with fail
      go_loopw [9, 10] (fun u i wr => ∃ (j : Nat) (o : List Int), j ≤ 2 * V + 1 ∧ i = .int .i64 ((j : Int) - (V : Int)) ∧ o = ((span V).take j).filter (pureB L.flatten) ∧ o.length ≤ j ∧ (∃ A3 c3, u = .slice A3 o.length c3 ∧ wr.ownsRow w.heap.size 3 1 (.slice A3 o.length c3) o.length (o.map (Value.int .i64))) ∧ Below w.heap.size w wr) (fun _ i _ => (V + 1 - intOf i).toNat)
      case atStart => exact ⟨0, [], by omega, by simp, by simp, Nat.le_refl _, ⟨none, 0, rfl, World.ownsRow_nil _ _ _ _⟩, Below.refl _ _⟩
      case round =>
        obtain ⟨j, o, hj, rfl, ho, hoj, ⟨A3, c3, rfl, hown⟩, hb⟩ := hrel
        have HO := Lib.hid ho
        have O3 := Lib.hid hown
        have B1 := Lib.hid hb
        clear ho hown hb
        obtain ⟨p, hp⟩ : ∃ p, o.length = p := ⟨_, rfl⟩
        rw [hp] at hoj O3 ⊢
        have HP := Lib.hid hp
        clear hp
        by_cases hjt : j < 2 * V + 1
        · obtain ⟨x, hxe⟩ : ∃ x : Int, (j : Int) - (V : Int) = x := ⟨_, rfl⟩
          have HFT := Lib.hid (filter_at (pureB L.flatten) (span V) j ((j : Int) - (V : Int)) (span_at hjt))
          have hx1 : -12 ≤ x := by omega
          have hx2 : x ≤ 12 := by omega
          have hx3 : x ≤ V := by omega
          have HXE := Lib.hid hxe
          rw [hxe] at HFT ⊢
          clear hxe
          cases r1 : decide (x ∈ L.flatten)
          · have PB : Hid (pureB L.flatten x = false) := Lib.hid (by unfold pureB; rw [r1]; rfl)
            go_wp2_with (go_at_call 78; refine (has_any _ _ _ HF (by omega) (by omega)).mono ?_; rintro e w' ⟨rfl, rfl⟩; rw [r1])
            go_roundw
            case rel => exact ⟨j + 1, o, by omega, by have := HXE.out; go_num, by rw [HFT.out, PB.out, HO.out]; simp, by have := HP.out; omega, ⟨A3, c3, by rw [HP.out], by rw [HP.out]; exact O3.out⟩, B1.out⟩
            case measure => have := HXE.out; simp [intOf]; omega
          · cases r2 : decide (-x ∈ L.flatten)
            · have PB : Hid (pureB L.flatten x = true) := Lib.hid (by unfold pureB; rw [r1, r2]; rfl)
              go_wp2_with (first
                | (at_builtin; (refine wpList_append_lies _ rfl _ _ 35 rfl w.heap.size 3 i0 (.int .i64 0) 1 8 Try.underlying35 hi0 hz0 hz1 hz2 rfl (by omega) _ p _ rfl (O3.out.alloc _) ⟨wr.heap.size, 0, none⟩ 1 1 [.int .i64 x] rfl rfl (one_new1 wr _ _) (by intro u hu; rw [List.mem_singleton.1 hu]; rfl) (by omega) (by unfold maxLen; omega) (by omega) (by have := B1.out.size; first | omega | (simp; omega)) (wr.heap.size + 1) (by first | rfl | simp) ?_; intro g4 cap4 w4 hown4 hg4 hat4 hlt4; have H4 := Lib.hid (app1 O3.out hown4 hg4 B1.out (Nat.le_refl _)); clear hown4 hg4 hat4 hlt4))
                | (go_at_call 78; refine (has_any _ _ _ HF (by omega) (by omega)).mono ?_; rintro e w' ⟨rfl, rfl⟩; first | rw [r1] | rw [r2]))
              go_roundw
              case rel => exact ⟨j + 1, o ++ [x], by omega, by have := HXE.out; go_num, by rw [HFT.out, PB.out, HO.out]; simp, by have := HP.out; simp; omega, acc_snoc HP.out H4.out.1, H4.out.2⟩
              case measure => have := HXE.out; simp [intOf]; omega
            · have PB : Hid (pureB L.flatten x = false) := Lib.hid (by unfold pureB; rw [r1, r2]; rfl)
              go_wp2_with (go_at_call 78; refine (has_any _ _ _ HF (by omega) (by omega)).mono ?_; rintro e w' ⟨rfl, rfl⟩; first | rw [r1] | rw [r2])
              go_roundw
              case rel => exact ⟨j + 1, o, by omega, by have := HXE.out; go_num, by rw [HFT.out, PB.out, HO.out]; simp, by have := HP.out; omega, ⟨A3, c3, by rw [HP.out], by rw [HP.out]; exact O3.out⟩, B1.out⟩
              case measure => have := HXE.out; simp [intOf]; omega
        · obtain rfl : j = 2 * V + 1 := by omega
          have EQ : Hid (pureL V L.flatten = o) := Lib.hid (by rw [HO.out, List.take_of_length_le (by rw [span_len]; omega)]; rfl)
          have hgt : decide (((2 * V + 1 : Nat) : Int) - (V : Int) ≤ (V : Int)) = false := by simp; omega
          go_wp2
          go_ret2
          obtain ⟨rfl, rfl⟩ := E.out
          rw [EQ.out]
          exact ⟨A3, c3, (by first | (rw [HP.out]; done) | (rw [HP.out]; rfl)), by rw [HP.out]; exact O3.out, B1.out⟩
end Go.Proofs.Ytehedomjfpipkaa
