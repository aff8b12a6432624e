/-
  Contracts of HoldsAll: the program's and the model's.
-/
import Derived.Test.YtklcfbjaodildaaClGood
import Derived.WalkMore
namespace Go.Proofs.Ytklcfbjaodildaa
open Go.ChangeShapes Go.WideShapes Go.ChangeAt Go.RowKit

/-- the clauses hold where these literals do -/
def holdF (F : List Int) (L : List (List Int)) : Bool := L.all fun c => c.any fun x => decide (x ∈ F)
set_option maxRecDepth 100000 in
set_option maxHeartbeats 4000000 in
theorem holdIn_any (F : List Int) (A : Option Addr) (n cap : Nat) (L : List (List Int)) (w : World) (HF : Hid (In12 F)) (hl : Hid (LLies w A L)) (HX : Hid (L.length = n)) (HI : Hid (∀ c ∈ L, In12 c)) (hn : n ≤ 9223372036854775807) :
    Calls Try.prog 77 #[.int .u32 (setV F), .slice A n cap] w fun e w' => e = .returned (.bool (holdF F L)) ∧ w = w' := by
  go_enter Try.func77, Try.ntmps77
  go_wp2_with fail
  go_step3
  go_wp2_with fail
  go_step3
  go_wp2_with fail
  go_loop [11] (fun i => ∃ k : Nat, k ≤ n ∧ i = .int .i64 k ∧ holdF F L = holdF F (L.drop k)) (fun i => n - (intOf i).toNat)
  case atStart => exact ⟨0, Nat.zero_le _, rfl, rfl⟩
  case round =>
    obtain ⟨k, hk, rfl, hcl⟩ := hrel
    have HC := Lib.hid hcl
    clear hcl
    by_cases hlt : k < n
    · obtain ⟨c, hx⟩ : ∃ x, L[k]? = some x := ⟨_, List.getElem?_eq_getElem (by have := HX.out; omega)⟩
      obtain ⟨b, off, a, cc, rfl, hbl, ha, hca, hma, hil⟩ := hl.out k c hx
      have HS : Hid (holdF F (L.drop k) = ((c.any fun x => decide (x ∈ F)) && holdF F (L.drop (k + 1)))) := Lib.hid (all_at _ L k c hx)
      have IL := Lib.hid hil
      have HIC := Lib.hid (HI.out c (List.mem_of_getElem? hx))
      clear hx hil
      obtain ⟨m, hm⟩ : ∃ m, c.length = m := ⟨_, rfl⟩
      rw [hm] at ha hca hma
      have HM := Lib.hid hm
      clear hm
      go_wp2_with fail
      go_loop [17] (fun i => ∃ j : Nat, j ≤ m ∧ i = .int .i64 j ∧ (c.any fun x => decide (x ∈ F)) = ((c.drop j).any fun x => decide (x ∈ F))) (fun i => m - (intOf i).toNat)
      case atStart => exact ⟨0, Nat.zero_le _, rfl, rfl⟩
      case round =>
        obtain ⟨j, hj, rfl, hcj⟩ := hrel
        have HCJ := Lib.hid hcj
        clear hcj
        by_cases hjt : j < m
        · obtain ⟨x, hx⟩ : ∃ x, c[j]? = some x := ⟨_, List.getElem?_eq_getElem (by have := HM.out; omega)⟩
          obtain ⟨b2, off2, rfl, hbl2, ha2⟩ := IL.out j x hx
          have HSJ := Lib.hid (any_at (fun x => decide (x ∈ F)) c j x hx)
          have hxr := HIC.out x (List.mem_of_getElem? hx)
          have hxa : -12 ≤ x := hxr.1
          have hxb : x ≤ 12 := hxr.2
          clear hx hxr
          cases q : decide (x ∈ F)
          · go_wp2_with (go_at_call 123; refine (has_any _ _ _ HF hxa hxb).mono ?_; rintro e w' ⟨rfl, rfl⟩; rw [q])
            go_round
            case rel => exact ⟨j + 1, by omega, by go_num, by rw [HCJ.out, HSJ.out, q]; rfl⟩
            case measure => simp [intOf]; omega
          · have E : Hid (holdF F L = holdF F (L.drop (k + 1))) := Lib.hid (by rw [HC.out, HS.out, HCJ.out, HSJ.out, q]; rfl)
            go_wp2_with (go_at_call 123; refine (has_any _ _ _ HF hxa hxb).mono ?_; rintro e w' ⟨rfl, rfl⟩; rw [q])
            go_round
            case rel => exact ⟨k + 1, by omega, by go_num, E.out⟩
            case measure => simp [intOf]; omega
        · obtain rfl : j = m := by omega
          have E : Hid (holdF F L = false) := Lib.hid (by rw [HC.out, HS.out, HCJ.out, List.drop_of_length_le (by have := HM.out; omega)]; rfl)
          go_wp2
          go_ret
          exact ⟨ret_bool E.out.symm, rfl⟩
    · obtain rfl : k = n := by omega
      have E : Hid (holdF F L = true) := Lib.hid (by rw [HC.out, List.drop_of_length_le (by have := HX.out; omega)]; rfl)
      go_wp2
      go_ret
      exact ⟨ret_bool E.out.symm, rfl⟩

set_option maxRecDepth 100000 in
set_option maxHeartbeats 2000000 in
theorem trueLits_any (A : Option Addr) (n cap : Nat) (M : List Bool) (w : World) (hl : Hid (BLies w A M)) (HX : Hid (M.length = n)) (hn : n ≤ 12) :
    Calls Try.prog 78 #[.slice A n cap] w fun e w' => e = .returned (.int .u32 (setV (trueL M))) ∧ w = w' := by
  go_enter Try.func78, Try.ntmps78
  go_wp2_with fail
  go_loop [3, 8] (fun s i => ∃ k : Nat, k ≤ n ∧ i = .int .i64 k ∧ s = .int .u32 (setV (trueL (M.take k)))) (fun _ i => n - (intOf i).toNat)
  case atStart => exact ⟨0, Nat.zero_le _, rfl, rfl⟩
  case round =>
    obtain ⟨k, hk, rfl, rfl⟩ := hrel
    by_cases hlt : k < n
    · obtain ⟨x, hx⟩ : ∃ x, M[k]? = some x := ⟨_, List.getElem?_eq_getElem (by have := HX.out; omega)⟩
      obtain ⟨b, off, rfl, hbl, ha⟩ := hl.out k x hx
      have HT := Lib.hid (trueL_take M k x hx)
      have HI2 : Hid (In12 (trueL (M.take k))) := Lib.hid (trueL_in12 (by have := HX.out; simp; omega))
      clear hx
      cases x
      · go_wp2_with (go_at_call 124; refine (with_any _ _ _ HI2 (by omega) (by omega)).mono ?_; rintro e w' ⟨rfl, rfl⟩)
        go_round
        case rel => exact ⟨k + 1, by omega, by go_num, by rw [HT.out]; rfl⟩
        case measure => simp [intOf]; omega
      · go_wp2_with (go_at_call 124; refine (with_any _ _ _ HI2 (by omega) (by omega)).mono ?_; rintro e w' ⟨rfl, rfl⟩)
        go_round
        case rel => exact ⟨k + 1, by omega, by go_num, by rw [HT.out]; rfl⟩
        case measure => simp [intOf]; omega
    · obtain rfl : k = n := by omega
      go_wp2
      go_ret
      exact ⟨ret_int (by rw [List.take_of_length_le (by have := HX.out; omega)]), rfl⟩
set_option maxRecDepth 100000 in
set_option maxHeartbeats 1000000 in
theorem l4Lit_any (A : Option Addr) (n cap : Nat) (M : List Bool) (x : Int) (w : World) (hl : Hid (BLies w A M)) (HX : Hid (M.length = n)) (hn : n ≤ 1000) (hx : litB n x = true) :
    Calls Try.prog 128 #[.slice A n cap, .int .i64 x] w fun e w' => e = .returned (.bool (litT M x)) ∧ w = w' := by
  have hx3 := litB_iff.1 hx
  have h0 : x ≠ 0 := hx3.1
  have h1 : -(n : Int) ≤ x := hx3.2.1
  have h2 : x ≤ n := hx3.2.2
  clear hx hx3
  by_cases hs : x < 0
  · obtain ⟨j, hj⟩ : ∃ j : Nat, -x - 1 = j := ⟨(-x - 1).toNat, by omega⟩
    have hjl : j < M.length := by have := HX.out; omega
    obtain ⟨b, off, rfl, hbl, ha⟩ := hl.out j _ (List.getElem?_eq_getElem hjl)
    obtain ⟨y, hy⟩ : ∃ y, M[j] = y := ⟨_, rfl⟩
    rw [hy] at ha
    have E : Hid (litT M x = !y) := Lib.hid (by unfold litT; rw [if_pos hs, show (-x - 1).toNat = j by omega, List.getElem?_eq_getElem hjl, hy]; rfl)
    clear hjl hy
    obtain rfl : x = -(j : Int) - 1 := by omega
    go_enter Try.func128, Try.ntmps128
    go_wp2
    go_ret
    exact ⟨ret_bool E.out.symm, rfl⟩
  · obtain ⟨j, hj⟩ : ∃ j : Nat, x - 1 = j := ⟨(x - 1).toNat, by omega⟩
    have hjl : j < M.length := by have := HX.out; omega
    obtain ⟨b, off, rfl, hbl, ha⟩ := hl.out j _ (List.getElem?_eq_getElem hjl)
    obtain ⟨y, hy⟩ : ∃ y, M[j] = y := ⟨_, rfl⟩
    rw [hy] at ha
    have E : Hid (litT M x = y) := Lib.hid (by unfold litT; rw [if_neg hs, show (x - 1).toNat = j by omega, List.getElem?_eq_getElem hjl, hy]; rfl)
    clear hjl hy
    obtain rfl : x = (j : Int) + 1 := by omega
    go_enter Try.func128, Try.ntmps128
    go_wp2
    go_ret
    exact ⟨ret_bool E.out.symm, rfl⟩
set_option maxRecDepth 100000 in
set_option maxHeartbeats 4000000 in
theorem l4Holds_any (A B : Option Addr) (n m cap c2 : Nat) (L : List (List Int)) (M : List Bool) (w : World) (hl : Hid (LLies w A L)) (hl2 : Hid (BLies w B M)) (HX : Hid (L.length = n)) (HY : Hid (M.length = m)) (HI : Hid (∀ c ∈ L, ∀ x ∈ c, litB m x = true)) (hn : n ≤ 9223372036854775807) (hm : m ≤ 1000) :
    Calls Try.prog 82 #[.slice A n cap, .slice B m c2] w fun e w' => e = .returned (.bool (holdsB M L)) ∧ w = w' := by
  go_enter Try.func82, Try.ntmps82
  go_wp2_with fail
  go_loop [12] (fun i => ∃ k : Nat, k ≤ n ∧ i = .int .i64 k ∧ holdsB M L = holdsB M (L.drop k)) (fun i => n - (intOf i).toNat)
  case atStart => exact ⟨0, Nat.zero_le _, rfl, rfl⟩
  case round =>
    obtain ⟨k, hk, rfl, hcl⟩ := hrel
    have HC := Lib.hid hcl
    clear hcl
    by_cases hlt : k < n
    · obtain ⟨c, hx⟩ : ∃ x, L[k]? = some x := ⟨_, List.getElem?_eq_getElem (by have := HX.out; omega)⟩
      obtain ⟨b, off, a, cc, rfl, hbl, ha, hca, hma, hil⟩ := hl.out k c hx
      have HS : Hid (holdsB M (L.drop k) = ((c.any (litT M)) && holdsB M (L.drop (k + 1)))) := Lib.hid (all_at _ L k c hx)
      have IL := Lib.hid hil
      have HIC := Lib.hid (HI.out c (List.mem_of_getElem? hx))
      clear hx hil
      obtain ⟨p, hp⟩ : ∃ m, c.length = m := ⟨_, rfl⟩
      rw [hp] at ha hca hma
      have HM := Lib.hid hp
      clear hp
      go_wp2_with fail
      go_loop [7, 18] (fun s i => ∃ (j : Nat) (sb : Bool), j ≤ p ∧ i = .int .i64 j ∧ s = .bool sb ∧ c.any (litT M) = (sb || (c.drop j).any (litT M))) (fun _ i => p - (intOf i).toNat)
      case atStart => exact ⟨0, false, Nat.zero_le _, rfl, rfl, rfl⟩
      case round =>
        obtain ⟨j, sb, hj, rfl, rfl, hcj⟩ := hrel
        have HCJ := Lib.hid hcj
        clear hcj
        by_cases hjt : j < p
        · obtain ⟨x, hx⟩ : ∃ x, c[j]? = some x := ⟨_, List.getElem?_eq_getElem (by have := HM.out; omega)⟩
          obtain ⟨b2, off2, rfl, hbl2, ha2⟩ := IL.out j x hx
          have HSJ := Lib.hid (any_at (litT M) c j x hx)
          have hxl := HIC.out x (List.mem_of_getElem? hx)
          clear hx
          cases sb
          · go_wp2_with (go_at_call 128; refine (l4Lit_any _ _ _ M _ _ hl2 HY hm hxl).mono ?_; rintro e w' ⟨rfl, rfl⟩)
            go_round
            case rel => exact ⟨j + 1, litT M x, by omega, by go_num, rfl, by rw [HCJ.out, HSJ.out]; simp⟩
            case measure => simp [intOf]; omega
          · go_wp2
            go_round
            case rel => exact ⟨j + 1, true, by omega, by go_num, rfl, by rw [HCJ.out]; rfl⟩
            case measure => simp [intOf]; omega
        · obtain rfl : j = p := by omega
          have EJ : Hid (c.any (litT M) = sb) := Lib.hid (by rw [HCJ.out, List.drop_of_length_le (by have := HM.out; omega)]; simp)
          clear HCJ
          cases sb
          · have E : Hid (holdsB M L = false) := Lib.hid (by rw [HC.out, HS.out, EJ.out]; rfl)
            go_wp2
            go_ret
            exact ⟨ret_bool E.out.symm, rfl⟩
          · have E : Hid (holdsB M L = holdsB M (L.drop (k + 1))) := Lib.hid (by rw [HC.out, HS.out, EJ.out]; rfl)
            go_wp2
            go_round
            case rel => exact ⟨k + 1, by omega, by go_num, E.out⟩
            case measure => simp [intOf]; omega
    · obtain rfl : k = n := by omega
      have E : Hid (holdsB M L = true) := Lib.hid (by rw [HC.out, List.drop_of_length_le (by have := HX.out; omega)]; rfl)
      go_wp2
      go_ret
      exact ⟨ret_bool E.out.symm, rfl⟩
theorem goodB_v {v : Int} {L : List (List Int)} (h : goodB v L = true) : 0 ≤ v ∧ v ≤ 12 := by
  simp only [goodB, Bool.and_eq_true, decide_eq_true_eq] at h
  exact h.1
theorem goodB_len {v : Int} {L : List (List Int)} (h : goodB v L = true) : L.length ≤ 60 := by
  simp only [goodB, Bool.and_eq_true, decide_eq_true_eq] at h
  exact h.2.1
theorem goodB_cl {v : Int} {L : List (List Int)} (h : goodB v L = true) : ∀ c ∈ L, clauseB v c = true := by
  simp only [goodB, Bool.and_eq_true, decide_eq_true_eq] at h
  exact fun c hc => List.all_eq_true.1 h.2.2 c hc
theorem goodB_in12 {v : Int} {L : List (List Int)} (h : goodB v L = true) : ∀ c ∈ L, In12 c :=
  fun c hc => lits_in12 (goodB_v h).2 (clauseB_lits (goodB_cl h c hc))
theorem any_congr {p q : Int → Bool} {c : List Int} (h : ∀ x ∈ c, p x = q x) : c.any p = c.any q := by
  rw [Bool.eq_iff_iff, List.any_eq_true, List.any_eq_true]
  exact ⟨fun ⟨x, hx, e⟩ => ⟨x, hx, (h x hx) ▸ e⟩, fun ⟨x, hx, e⟩ => ⟨x, hx, (h x hx) ▸ e⟩⟩
theorem hold_same {M : List Bool} {L : List (List Int)} (h : ∀ c ∈ L, ∀ x ∈ c, litB M.length x = true) : holdF (trueL M) L = holdsB M L := by
  unfold holdF holdsB
  rw [Bool.eq_iff_iff, List.all_eq_true, List.all_eq_true]
  have e : ∀ c ∈ L, (c.any fun x => decide (x ∈ trueL M)) = c.any (litT M) := fun c hc => any_congr (fun x hx => trueL_mem (h c hc x hx))
  exact ⟨fun q c hc => (e c hc) ▸ q c hc, fun q c hc => (e c hc) ▸ q c hc⟩
theorem ret_bb {a b c d : Bool} (h : a = b) (k : c = d) : Ending.returned (.tuple #[.bool a, .bool c]) = .returned (.tuple #[.bool b, .bool d]) := by rw [h, k]
/-- what HoldsAll answers -/
def HoldR (v : Int) (L : List (List Int)) (M : List Bool) (h ok : Bool) : Prop := ok = (goodB v L && decide ((M.length : Int) = v)) ∧ h = (ok && holdsB M L)
set_option maxRecDepth 100000 in
set_option maxHeartbeats 4000000 in
theorem implHolds_any (v : Int) (A B : Option Addr) (n m cap c2 : Nat) (L : List (List Int)) (M : List Bool) (w : World) (h ok : Bool) (hr : Hid (HoldR v L M h ok)) (hl : Hid (LLies w A L)) (hl2 : Hid (BLies w B M)) (HX : Hid (L.length = n)) (HY : Hid (M.length = m)) (hn : n ≤ 9223372036854775807) :
    Calls Try.prog 39 #[.int .i64 v, .slice A n cap, .slice B m c2] w fun e w' => e = .returned (.tuple #[.bool h, .bool ok]) ∧ Below w.heap.size w w' := by
  cases q1 : goodB v L
  · have E : Hid (h = false ∧ ok = false) := Lib.hid (by have := hr.out; unfold HoldR at this; rw [q1] at this; obtain ⟨rfl, rfl⟩ := this; simp)
    go_enter Try.func39, Try.ntmps39
    go_wp2_with (go_at_call 76; refine (implGoodC_any _ _ _ _ L _ hl HX hn).mono ?_; rintro e w' ⟨rfl, rfl⟩; rw [q1])
    go_ret2
    exact ⟨ret_bb E.out.1.symm E.out.2.symm, Below.refl _ _⟩
  have hv := goodB_v q1
  have hv1 : 0 ≤ v := hv.1
  have hv2 : v ≤ 12 := hv.2
  have HG := Lib.hid q1
  clear hv
  cases q2 : ((m : Int) != v)
  · have hmv : (m : Int) = v := by simpa using q2
    have E : Hid (h = holdF (trueL M) L ∧ ok = true) := Lib.hid (by
      have := hr.out; unfold HoldR at this; rw [q1, HY.out, decide_eq_true hmv] at this; obtain ⟨rfl, rfl⟩ := this
      refine ⟨?_, rfl⟩
      rw [hold_same (fun c hc x hx => by rw [HY.out, hmv]; exact clauseB_lits (goodB_cl q1 c hc) x hx)]
      rfl)
    have hm12 : m ≤ 12 := by omega
    have HF : Hid (In12 (trueL M)) := Lib.hid (trueL_in12 (by have := HY.out; omega))
    clear hmv
    go_enter Try.func39, Try.ntmps39
    go_wp2_with (first
      | (go_at_call 76; refine (implGoodC_any _ _ _ _ L _ hl HX hn).mono ?_; rintro e w' ⟨rfl, rfl⟩; rw [q1])
      | (go_at_call 78; refine (trueLits_any _ _ _ M _ hl2 HY hm12).mono ?_; rintro e w' ⟨rfl, rfl⟩)
      | (go_at_call 77; refine (holdIn_any _ _ _ _ L _ HF hl HX (goodB_in12 HG.out) hn).mono ?_; rintro e w' ⟨rfl, rfl⟩))
    go_ret2
    exact ⟨ret_bb E.out.1.symm E.out.2.symm, Below.refl _ _⟩
  · have E : Hid (h = false ∧ ok = false) := Lib.hid (by have := hr.out; unfold HoldR at this; rw [q1, HY.out, decide_eq_false (by simpa using q2)] at this; obtain ⟨rfl, rfl⟩ := this; simp)
    go_enter Try.func39, Try.ntmps39
    go_wp2_with (go_at_call 76; refine (implGoodC_any _ _ _ _ L _ hl HX hn).mono ?_; rintro e w' ⟨rfl, rfl⟩; rw [q1])
    go_ret2
    exact ⟨ret_bb E.out.1.symm E.out.2.symm, Below.refl _ _⟩
end Go.Proofs.Ytklcfbjaodildaa
