/-
  A clause that follows by unit propagation: the program's and the model's; proofs' bounds.
-/
import Derived.Test.YtkkoeeoalkjhoaaCkMath
import Derived.Test.YtkkoeeoalkjhoaaSame
namespace Go.Proofs.Ytkkoeeoalkjhoaa
open Go.ChangeShapes Go.WideShapes Go.ChangeAt Go.RowKit

set_option maxRecDepth 100000 in
set_option maxHeartbeats 2000000 in
theorem isAtOnce_any (v : Int) (A B : Option Addr) (n m cap c2 : Nat) (L : List (List Int)) (c : List Int) (w : World) (hl : Hid (LLies w A L)) (hl2 : Hid (ILies w B c)) (HX : Hid (L.length = n)) (HY : Hid (c.length = m)) (hn : n ≤ 9223372036854775807) (hv : v ≤ 12) (HC : Hid (clauseB v c = true)) (HL : Hid (∀ c ∈ L, clauseB v c = true)) :
    Calls Try.prog 62 #[.slice A n cap, .slice B m c2] w fun e w' => e = .returned (.bool (atB L c)) ∧ Below w.heap.size w w' := by
  obtain ⟨r, b, hr⟩ : ∃ r b, propN L 20 (negL c) = (r, b) := ⟨_, _, rfl⟩
  have E : Hid (atB L c = b) := Lib.hid (by unfold atB; rw [hr])
  have HP : Hid (PInv v L r b (negL c)) := Lib.hid (pinv_start hv (clauseB_neg HC.out) hr)
  have LIT : Hid (∀ c ∈ L, ∀ x ∈ c, litB v x = true) := Lib.hid (fun c hc x hx => clauseB_lits (HL.out c hc) x hx)
  have hm12 : m ≤ 12 := by have := clauseB_len HC.out; have := HY.out; omega
  have HI : Hid (In12 c) := Lib.hid (lits_in12 hv (clauseB_lits HC.out))
  rw [E.out]
  clear hr
  go_enter Try.func62, Try.ntmps62
  go_wp2_with fail
  refine (negated_any _ _ _ c _ hl2 HY HI (by omega)).mono ?_
  rintro e w1 ⟨A1, d1, rfl, ho1, hb1⟩
  have B1 := Lib.hid hb1
  have O1 := Lib.hid (own_ilies ho1)
  have N1 := Lib.hid (own_nilA' ho1)
  have L1 := Lib.hid (hl.out.below hb1)
  clear ho1 hb1
  obtain ⟨z, hz⟩ : ∃ z, (negL c).length = z := ⟨_, rfl⟩
  have hz12 : z ≤ 12 := by rw [← hz, negL_len, HY.out]; exact hm12
  rw [hz] at N1 ⊢
  have HZ := Lib.hid hz
  clear hz
  go_wp2_with fail
  refine (propagate_any v _ _ _ _ _ _ L (negL c) _ r b HP L1 O1 HX HZ N1 hn hz12 hv LIT).mono ?_
  rintro e w2 ⟨A2, d2, rfl, ho2, hb2⟩
  have B2 := Lib.hid (Below.tr B1.out hb2)
  clear ho2 hb2
  go_wp2
  go_ret
  exact ⟨rfl, B2.out⟩
set_option maxRecDepth 100000 in
set_option maxHeartbeats 2000000 in
theorem l6AtOnce_any (v : Int) (A B : Option Addr) (n m cap c2 : Nat) (L : List (List Int)) (c : List Int) (w : World) (hl : Hid (LLies w A L)) (hl2 : Hid (ILies w B c)) (HX : Hid (L.length = n)) (HY : Hid (c.length = m)) (hn : n ≤ 9223372036854775807) (hv : v ≤ 12) (HC : Hid (clauseB v c = true)) (HL : Hid (∀ c ∈ L, clauseB v c = true)) :
    Calls Try.prog 65 #[.slice A n cap, .slice B m c2] w fun e w' => e = .returned (.bool (atB L c)) ∧ Below w.heap.size w w' := by
  obtain ⟨r, b, hr⟩ : ∃ r b, propN L 20 (negL c) = (r, b) := ⟨_, _, rfl⟩
  have E : Hid (atB L c = b) := Lib.hid (by unfold atB; rw [hr])
  have HP : Hid (PInv v L r b (negL c)) := Lib.hid (pinv_start hv (clauseB_neg HC.out) hr)
  have LIT : Hid (∀ c ∈ L, ∀ x ∈ c, litB v x = true) := Lib.hid (fun c hc x hx => clauseB_lits (HL.out c hc) x hx)
  have LEN : Hid (∀ c ∈ L, c.length ≤ 1000000) := Lib.hid (fun c hc => by have := clauseB_len (HL.out c hc); omega)
  have hm12 : m ≤ 12 := by have := clauseB_len HC.out; have := HY.out; omega
  have HI : Hid (In12 c) := Lib.hid (lits_in12 hv (clauseB_lits HC.out))
  rw [E.out]
  clear hr
  go_enter Try.func65, Try.ntmps65
  go_wp2_with fail
  refine (l5Negate_any _ _ _ c _ hl2 HY HI (by omega)).mono ?_
  rintro e w1 ⟨A1, d1, rfl, ho1, hb1⟩
  have B1 := Lib.hid hb1
  have O1 := Lib.hid (own_ilies ho1)
  have N1 := Lib.hid (own_nilA' ho1)
  have L1 := Lib.hid (hl.out.below hb1)
  clear ho1 hb1
  obtain ⟨z, hz⟩ : ∃ z, (negL c).length = z := ⟨_, rfl⟩
  have hz12 : z ≤ 12 := by rw [← hz, negL_len, HY.out]; exact hm12
  rw [hz] at N1 ⊢
  have HZ := Lib.hid hz
  clear hz
  go_wp2_with fail
  refine (l4Prop_any v _ _ _ _ _ _ L (negL c) _ r b HP L1 O1 HX HZ N1 hn (by omega) hv LIT LEN).mono ?_
  rintro e w2 ⟨A2, d2, rfl, ho2, hb2⟩
  have B2 := Lib.hid (Below.tr B1.out hb2)
  clear ho2 hb2
  go_wp2
  go_ret
  exact ⟨rfl, B2.out⟩

/-- what IsAtOnce answers -/
def AtR (v : Int) (L : List (List Int)) (c : List Int) (b ok : Bool) : Prop := ok = (goodB v L && clauseB v c) ∧ b = (ok && atB L c)
theorem atR_any (v : Int) (L : List (List Int)) (c : List Int) : ∃ b ok, AtR v L c b ok := ⟨_, _, rfl, rfl⟩
theorem AtR.no {v : Int} {L : List (List Int)} {c : List Int} {b ok : Bool} (h : AtR v L c b ok) (hn : (goodB v L && clauseB v c) = false) : b = false ∧ ok = false := by
  obtain ⟨h1, h2⟩ := h
  rw [hn] at h1
  rw [h1] at h2
  exact ⟨h2, h1⟩
theorem AtR.yes {v : Int} {L : List (List Int)} {c : List Int} {b ok : Bool} (h : AtR v L c b ok) (h1 : goodB v L = true) (h2 : clauseB v c = true) : b = atB L c ∧ ok = true := by
  obtain ⟨h3, h4⟩ := h
  rw [h1, h2] at h3
  rw [h3] at h4
  exact ⟨h4, h3⟩
set_option maxRecDepth 100000 in
set_option maxHeartbeats 2000000 in
theorem implIsAt_any (v : Int) (A B : Option Addr) (n m cap c2 : Nat) (L : List (List Int)) (c : List Int) (w : World) (b ok : Bool) (hr : Hid (AtR v L c b ok)) (hl : Hid (LLies w A L)) (hl2 : Hid (ILies w B c)) (HX : Hid (L.length = n)) (HY : Hid (c.length = m)) (hn : n ≤ 9223372036854775807) (hm : m ≤ 9223372036854775807) :
    Calls Try.prog 32 #[.int .i64 v, .slice A n cap, .slice B m c2] w fun e w' => e = .returned (.tuple #[.bool b, .bool ok]) ∧ Below w.heap.size w w' := by
  cases q1 : goodB v L
  · have E := Lib.hid (hr.out.no (by rw [q1]; rfl))
    go_enter Try.func32, Try.ntmps32
    go_wp2_with (go_at_call 51; refine (implGoodC_any _ _ _ _ L _ hl HX hn).mono ?_; rintro e w' ⟨rfl, rfl⟩; rw [q1])
    go_ret2
    exact ⟨ret_bb E.out.1.symm E.out.2.symm, Below.refl _ _⟩
  have hv := goodB_v q1
  have hv1 : 0 ≤ v := hv.1
  have hv2 : v ≤ 12 := hv.2
  clear hv
  cases q2 : clauseB v c
  · have E := Lib.hid (hr.out.no (by rw [q1, q2]; rfl))
    go_enter Try.func32, Try.ntmps32
    go_wp2_with (first
      | (go_at_call 51; refine (implGoodC_any _ _ _ _ L _ hl HX hn).mono ?_; rintro e w' ⟨rfl, rfl⟩; rw [q1])
      | (go_at_call 61; refine (isClause_any _ _ _ _ c _ hl2 HY hm hv1 hv2).mono ?_; rintro e w' ⟨rfl, rfl⟩; rw [q2]))
    go_ret2
    exact ⟨ret_bb E.out.1.symm E.out.2.symm, Below.refl _ _⟩
  have E := Lib.hid (hr.out.yes q1 q2)
  have HC := Lib.hid q2
  have HL := Lib.hid (goodB_cl q1)
  go_enter Try.func32, Try.ntmps32
  go_wp2_with (first
    | (go_at_call 51; refine (implGoodC_any _ _ _ _ L _ hl HX hn).mono ?_; rintro e w' ⟨rfl, rfl⟩; rw [q1])
    | (go_at_call 61; refine (isClause_any _ _ _ _ c _ hl2 HY hm hv1 hv2).mono ?_; rintro e w' ⟨rfl, rfl⟩; rw [q2]))
  refine (isAtOnce_any v _ _ _ _ _ _ L c _ hl hl2 HX HY hn hv2 HC HL).mono ?_
  rintro e w1 ⟨rfl, hb1⟩
  have B1 := Lib.hid hb1
  clear hb1
  go_wp2
  go_ret2
  exact ⟨ret_bb E.out.1.symm E.out.2.symm, B1.out⟩
set_option maxRecDepth 100000 in
set_option maxHeartbeats 2000000 in
theorem specIsAt_any (v : Int) (A B : Option Addr) (n m cap c2 : Nat) (L : List (List Int)) (c : List Int) (w : World) (b ok : Bool) (hr : Hid (AtR v L c b ok)) (hl : Hid (LLies w A L)) (hl2 : Hid (ILies w B c)) (HX : Hid (L.length = n)) (HY : Hid (c.length = m)) (hn : n ≤ 9223372036854775807) (hm : m ≤ 9223372036854775807) (hc : m ≤ c2) :
    Calls Try.prog 33 #[.int .i64 v, .slice A n cap, .slice B m c2] w fun e w' => e = .returned (.tuple #[.bool b, .bool ok]) ∧ Below w.heap.size w w' := by
  cases q1 : goodB v L
  · have E := Lib.hid (hr.out.no (by rw [q1]; rfl))
    go_enter Try.func33, Try.ntmps33
    go_wp2_with (go_at_call 63; refine (specGoodC_any _ _ _ _ L _ hl HX hn).mono ?_; rintro e w' ⟨rfl, rfl⟩; rw [q1])
    go_ret2
    exact ⟨ret_bb E.out.1.symm E.out.2.symm, Below.refl _ _⟩
  have hv := goodB_v q1
  have hv1 : 0 ≤ v := hv.1
  have hv2 : v ≤ 12 := hv.2
  clear hv
  cases q2 : clauseB v c
  · have E := Lib.hid (hr.out.no (by rw [q1, q2]; rfl))
    go_enter Try.func33, Try.ntmps33
    go_wp2_with (first
      | (go_at_call 63; refine (specGoodC_any _ _ _ _ L _ hl HX hn).mono ?_; rintro e w' ⟨rfl, rfl⟩; rw [q1])
      | (go_at_call 64; refine (l4Given_any _ _ _ _ c _ hl2 HY hm hc hv1 hv2).mono ?_; rintro e w' ⟨rfl, rfl⟩; rw [q2]))
    go_ret2
    exact ⟨ret_bb E.out.1.symm E.out.2.symm, Below.refl _ _⟩
  have E := Lib.hid (hr.out.yes q1 q2)
  have HC := Lib.hid q2
  have HL := Lib.hid (goodB_cl q1)
  go_enter Try.func33, Try.ntmps33
  go_wp2_with (first
    | (go_at_call 63; refine (specGoodC_any _ _ _ _ L _ hl HX hn).mono ?_; rintro e w' ⟨rfl, rfl⟩; rw [q1])
    | (go_at_call 64; refine (l4Given_any _ _ _ _ c _ hl2 HY hm hc hv1 hv2).mono ?_; rintro e w' ⟨rfl, rfl⟩; rw [q2]))
  refine (l6AtOnce_any v _ _ _ _ _ _ L c _ hl hl2 HX HY hn hv2 HC HL).mono ?_
  rintro e w1 ⟨rfl, hb1⟩
  have B1 := Lib.hid hb1
  clear hb1
  go_wp2
  go_ret2
  exact ⟨ret_bb E.out.1.symm E.out.2.symm, B1.out⟩

set_option maxRecDepth 100000 in
set_option maxHeartbeats 2000000 in
theorem isProof_any (v : Int) (A B : Option Addr) (n m cap c2 : Nat) (L p : List (List Int)) (w : World) (hl : Hid (LLies w A L)) (hl2 : Hid (LLies w B p)) (HX : Hid (L.length = n)) (HY : Hid (p.length = m)) (hn : n ≤ 9223372036854775807) (hm : m ≤ 9223372036854775807) :
    Calls Try.prog 45 #[.int .i64 v, .slice A n cap, .slice B m c2] w fun e w' => e = .returned (.bool (goodB v L && proofB v p)) ∧ w = w' := by
  cases q1 : goodB v L
  · go_enter Try.func45, Try.ntmps45
    go_wp2_with (go_at_call 51; refine (implGoodC_any _ _ _ _ L _ hl HX hn).mono ?_; rintro e w' ⟨rfl, rfl⟩; rw [q1])
    go_ret
    exact ⟨rfl, rfl⟩
  have hv := goodB_v q1
  have hv1 : 0 ≤ v := hv.1
  have hv2 : v ≤ 12 := hv.2
  clear hv
  by_cases h3 : m ≤ 300
  · have E : Hid ((true && proofB v p) = p.all (clauseB v)) := Lib.hid (by unfold proofB; rw [HY.out, decide_eq_true h3]; rfl)
    have hle : decide ((m : Int) ≤ 300) = true := by simp; omega
    rw [E.out]
    go_enter Try.func45, Try.ntmps45
    go_wp2_with (first
      | (go_at_call 51; refine (implGoodC_any _ _ _ _ L _ hl HX hn).mono ?_; rintro e w' ⟨rfl, rfl⟩; rw [q1])
      | (go_at_call 73; refine (areClauses_any _ _ _ _ p _ hl2 HY hm hv1 hv2).mono ?_; rintro e w' ⟨rfl, rfl⟩))
    go_ret
    exact ⟨rfl, rfl⟩
  · have E : Hid ((true && proofB v p) = false) := Lib.hid (by unfold proofB; rw [HY.out, decide_eq_false h3]; rfl)
    have hle : decide ((m : Int) ≤ 300) = false := by simp; omega
    rw [E.out]
    go_enter Try.func45, Try.ntmps45
    go_wp2_with (go_at_call 51; refine (implGoodC_any _ _ _ _ L _ hl HX hn).mono ?_; rintro e w' ⟨rfl, rfl⟩; rw [q1])
    go_ret
    exact ⟨rfl, rfl⟩
set_option maxRecDepth 100000 in
set_option maxHeartbeats 2000000 in
theorem l6Good_any (v : Int) (A B : Option Addr) (n m cap c2 : Nat) (L p : List (List Int)) (w : World) (hl : Hid (LLies w A L)) (hl2 : Hid (LLies w B p)) (HX : Hid (L.length = n)) (HY : Hid (p.length = m)) (hn : n ≤ 9223372036854775807) (hm : m ≤ 9223372036854775807) :
    Calls Try.prog 49 #[.int .i64 v, .slice A n cap, .slice B m c2] w fun e w' => e = .returned (.bool (goodB v L && proofB v p)) ∧ w = w' := by
  cases q1 : goodB v L
  · go_enter Try.func49, Try.ntmps49
    go_wp2_with (go_at_call 63; refine (specGoodC_any _ _ _ _ L _ hl HX hn).mono ?_; rintro e w' ⟨rfl, rfl⟩; rw [q1])
    go_ret
    exact ⟨rfl, rfl⟩
  have hv := goodB_v q1
  have E : Hid (((decide (0 ≤ v) && decide (v ≤ 12)) && (decide (p.length ≤ 300) && p.all (clauseB v))) = (true && proofB v p)) := Lib.hid (by unfold proofB; rw [decide_eq_true hv.1, decide_eq_true hv.2]; rfl)
  clear hv
  go_enter Try.func49, Try.ntmps49
  go_wp2_with (first
    | (go_at_call 63; refine (specGoodC_any _ _ _ _ L _ hl HX hn).mono ?_; rintro e w' ⟨rfl, rfl⟩; rw [q1])
    | (go_at_call 75; refine (l4Good_any _ _ _ _ 300 p _ hl2 HY hm (by omega)).mono ?_; rintro e w' ⟨rfl, rfl⟩; rw [E.out]))
  go_ret
  exact ⟨rfl, rfl⟩
set_option maxRecDepth 100000 in
set_option maxHeartbeats 2000000 in
theorem endsEmpty_any (A : Option Addr) (n cap : Nat) (p : List (List Int)) (w : World) (hl : Hid (LLies w A p)) (HX : Hid (p.length = n)) (hn : n ≤ 9223372036854775807) :
    Calls Try.prog 48 #[.slice A n cap] w fun e w' => e = .returned (.bool (endsB p)) ∧ w = w' := by
  cases n with
  | zero =>
    have E : Hid (endsB p = false) := Lib.hid (by rw [List.eq_nil_of_length_eq_zero HX.out]; rfl)
    rw [E.out]
    go_enter Try.func48, Try.ntmps48
    go_wp2
    go_ret
    exact ⟨rfl, rfl⟩
  | succ k =>
    obtain ⟨c, hx⟩ : ∃ x, p[k]? = some x := ⟨_, List.getElem?_eq_getElem (by have := HX.out; omega)⟩
    obtain ⟨b, off, a, cp, rfl, hbl, ha, hca, hma, hil⟩ := hl.out k c hx
    have E : Hid (endsB p = ((c.length : Int) == 0)) := Lib.hid (by rw [endsB_at HX.out hx]; by_cases h : c.length = 0 <;> simp [h])
    rw [E.out]
    clear hx hil E
    obtain ⟨z, hz⟩ : ∃ m, c.length = m := ⟨_, rfl⟩
    rw [hz] at ha hca hma ⊢
    clear hz
    have hpos : decide (((k + 1 : Nat) : Int) > 0) = true := by first | (simp; done) | (simp; omega)
    have hsub : ((k + 1 : Nat) : Int) - 1 = (k : Int) := by omega
    go_enter Try.func48, Try.ntmps48
    go_wp2
    go_ret
    exact ⟨rfl, rfl⟩

/-- what ProofSize answers, behind k clauses -/
theorem all_few_at {p : List (List Int)} {k : Nat} {c : List Int} (h : p[k]? = some c) : (p.drop k).all (fun c => decide (c.length ≤ 12)) = (decide (c.length ≤ 12) && (p.drop (k + 1)).all (fun c => decide (c.length ≤ 12))) := all_at (fun c => decide (c.length ≤ 12)) p k c h
theorem SizeR.no {p : List (List Int)} {n : Nat} {ok : Bool} (h : SizeR p n ok) (hn : (decide (p.length ≤ 300) && p.all (fun c => decide (c.length ≤ 12))) = false) : n = 0 ∧ ok = false := by
  obtain ⟨h1, h2⟩ := h
  rw [hn] at h1
  rw [h1] at h2
  exact ⟨by simpa using h2, h1⟩
theorem SizeR.yes {p : List (List Int)} {n : Nat} {ok : Bool} (h : SizeR p n ok) (hn : (decide (p.length ≤ 300) && p.all (fun c => decide (c.length ≤ 12))) = true) : n = tot p ∧ ok = true := by
  obtain ⟨h1, h2⟩ := h
  rw [hn] at h1
  rw [h1] at h2
  exact ⟨by simpa using h2, h1⟩
set_option maxRecDepth 100000 in
set_option maxHeartbeats 2000000 in
theorem implSize_any (A : Option Addr) (n cap : Nat) (p : List (List Int)) (w : World) (s : Nat) (ok : Bool) (hr : Hid (SizeR p s ok)) (hl : Hid (LLies w A p)) (HX : Hid (p.length = n)) (hn : n ≤ 9223372036854775807) :
    Calls Try.prog 22 #[.slice A n cap] w fun e w' => e = .returned (.tuple #[.int .i64 s, .bool ok]) ∧ Below w.heap.size w w' := by
  by_cases h3 : n ≤ 300
  · have hgt : decide ((n : Int) > 300) = false := by simp; omega
    have HD : Hid (decide (p.length ≤ 300) = true) := Lib.hid (by rw [HX.out]; simpa using h3)
    go_enter Try.func22, Try.ntmps22
    go_wp2_with fail
    go_loop [4, 12] (fun u i => ∃ k : Nat, k ≤ n ∧ i = .int .i64 k ∧ u = .int .i64 (tot (p.take k)) ∧ tot (p.take k) ≤ 12 * k ∧ p.all (fun c => decide (c.length ≤ 12)) = (p.drop k).all (fun c => decide (c.length ≤ 12))) (fun _ i => n - (intOf i).toNat)
    case atStart => exact ⟨0, Nat.zero_le _, rfl, by rw [tot_nil]; rfl, by rw [tot_nil]; omega, rfl⟩
    case round =>
      obtain ⟨k, hk, rfl, rfl, htk, hcl⟩ := hrel
      have HC := Lib.hid hcl
      clear hcl
      by_cases hlt : k < n
      · obtain ⟨c, hx⟩ : ∃ x, p[k]? = some x := ⟨_, List.getElem?_eq_getElem (by have := HX.out; omega)⟩
        obtain ⟨b, off, a, cp, rfl, hbl, ha, hca, hma, hil⟩ := hl.out k c hx
        have HS := Lib.hid (all_few_at hx)
        have HT := Lib.hid (tot_at hx)
        clear hx hil
        obtain ⟨z, hz⟩ : ∃ m, c.length = m := ⟨_, rfl⟩
        rw [hz] at ha hca hma HS HT
        clear hz
        obtain ⟨t, ht⟩ : ∃ t, tot (p.take k) = t := ⟨_, rfl⟩
        rw [ht] at htk HT ⊢
        clear ht
        by_cases hz : z ≤ 12
        · have E : Hid (p.all (fun c => decide (c.length ≤ 12)) = (p.drop (k + 1)).all (fun c => decide (c.length ≤ 12))) := Lib.hid (by rw [HC.out, HS.out, decide_eq_true hz]; rfl)
          have hg2 : decide ((z : Int) > 12) = false := by simp; omega
          go_wp2
          go_round
          case rel => exact ⟨k + 1, by omega, by go_num, by rw [HT.out]; go_num, by rw [HT.out]; omega, E.out⟩
          case measure => simp [intOf]; omega
        · have E : Hid (s = 0 ∧ ok = false) := Lib.hid (hr.out.no (by rw [HD.out, HC.out, HS.out, decide_eq_false hz]; rfl))
          have hg2 : decide ((z : Int) > 12) = true := by simp; omega
          go_wp2
          go_ret2
          exact ⟨ret_ib (by rw [E.out.1]; rfl) E.out.2.symm, Below.refl _ _⟩
      · obtain rfl : k = n := by omega
        have E : Hid (s = tot p ∧ ok = true) := Lib.hid (hr.out.yes (by rw [HD.out, HC.out, List.drop_of_length_le (by have := HX.out; omega)]; rfl))
        have EL : Hid (p.take k = p) := Lib.hid (List.take_of_length_le (by have := HX.out; omega))
        rw [EL.out]
        go_wp2
        go_ret2
        exact ⟨ret_ib (by rw [E.out.1]) E.out.2.symm, Below.refl _ _⟩
  · have hgt : decide ((n : Int) > 300) = true := by simp; omega
    have E : Hid (s = 0 ∧ ok = false) := Lib.hid (hr.out.no (by rw [HX.out, decide_eq_false h3]; rfl))
    go_enter Try.func22, Try.ntmps22
    go_wp2
    go_ret2
    exact ⟨ret_ib (by rw [E.out.1]; rfl) E.out.2.symm, Below.refl _ _⟩
set_option maxRecDepth 100000 in
set_option maxHeartbeats 2000000 in
theorem specSize_any (A : Option Addr) (n cap : Nat) (p : List (List Int)) (w : World) (s : Nat) (ok : Bool) (hr : Hid (SizeR p s ok)) (hl : Hid (LLies w A p)) (HX : Hid (p.length = n)) (hn : n ≤ 100000000) :
    Calls Try.prog 23 #[.slice A n cap] w fun e w' => e = .returned (.tuple #[.int .i64 s, .bool ok]) ∧ Below w.heap.size w w' := by
  go_enter Try.func23, Try.ntmps23
  go_wp2_with fail
  go_loop [4, 9] (fun u i => ∃ k : Nat, k ≤ n ∧ i = .int .i64 k ∧ u = .int .i64 (tot (p.take k)) ∧ tot (p.take k) ≤ 12 * k ∧ p.all (fun c => decide (c.length ≤ 12)) = (p.drop k).all (fun c => decide (c.length ≤ 12))) (fun _ i => n - (intOf i).toNat)
  case atStart => exact ⟨0, Nat.zero_le _, rfl, by rw [tot_nil]; rfl, by rw [tot_nil]; omega, rfl⟩
  case round =>
    obtain ⟨k, hk, rfl, rfl, htk, hcl⟩ := hrel
    have HC := Lib.hid hcl
    clear hcl
    by_cases hlt : k < n
    · obtain ⟨c, hx⟩ : ∃ x, p[k]? = some x := ⟨_, List.getElem?_eq_getElem (by have := HX.out; omega)⟩
      obtain ⟨b, off, a, cp, rfl, hbl, ha, hca, hma, hil⟩ := hl.out k c hx
      have HS := Lib.hid (all_few_at hx)
      have HT := Lib.hid (tot_at hx)
      clear hx hil
      obtain ⟨z, hz⟩ : ∃ m, c.length = m := ⟨_, rfl⟩
      rw [hz] at ha hca hma HS HT
      clear hz
      obtain ⟨t, ht⟩ : ∃ t, tot (p.take k) = t := ⟨_, rfl⟩
      rw [ht] at htk HT ⊢
      clear ht
      by_cases hz : z ≤ 12
      · have E : Hid (p.all (fun c => decide (c.length ≤ 12)) = (p.drop (k + 1)).all (fun c => decide (c.length ≤ 12))) := Lib.hid (by rw [HC.out, HS.out, decide_eq_true hz]; rfl)
        have hg2 : decide ((z : Int) > 12) = false := by simp; omega
        go_wp2
        go_round
        case rel => exact ⟨k + 1, by omega, by go_num, by rw [HT.out]; go_num, by rw [HT.out]; omega, E.out⟩
        case measure => simp [intOf]; omega
      · have E : Hid (s = 0 ∧ ok = false) := Lib.hid (hr.out.no (by rw [HC.out, HS.out, decide_eq_false hz]; simp))
        have hg2 : decide ((z : Int) > 12) = true := by simp; omega
        go_wp2
        go_ret2
        exact ⟨ret_ib (by rw [E.out.1]; rfl) E.out.2.symm, Below.refl _ _⟩
    · obtain rfl : k = n := by omega
      have AL : Hid (p.all (fun c => decide (c.length ≤ 12)) = true) := Lib.hid (by rw [HC.out, List.drop_of_length_le (by have := HX.out; omega)]; rfl)
      have EL : Hid (p.take k = p) := Lib.hid (List.take_of_length_le (by have := HX.out; omega))
      rw [EL.out]
      by_cases h3 : k ≤ 300
      · have hgt : decide ((k : Int) > 300) = false := by simp; omega
        have E : Hid (s = tot p ∧ ok = true) := Lib.hid (hr.out.yes (by rw [AL.out, HX.out, decide_eq_true h3]; rfl))
        go_wp2
        go_ret2
        exact ⟨ret_ib (by rw [E.out.1]) E.out.2.symm, Below.refl _ _⟩
      · have hgt : decide ((k : Int) > 300) = true := by simp; omega
        have E : Hid (s = 0 ∧ ok = false) := Lib.hid (hr.out.no (by rw [HX.out, decide_eq_false h3]; rfl))
        go_wp2
        go_ret2
        exact ⟨ret_ib (by rw [E.out.1]; rfl) E.out.2.symm, Below.refl _ _⟩
end Go.Proofs.Ytkkoeeoalkjhoaa
