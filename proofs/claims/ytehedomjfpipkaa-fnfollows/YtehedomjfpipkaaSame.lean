/-
  SameModels, the program's and the model's.
-/
import Derived.Test.YtehedomjfpipkaaWith
import Derived.Test.YtehedomjfpipkaaCountM
import Derived.Deep.Upon
import Derived.Lib.AppendZeros
namespace Go.Proofs.Ytehedomjfpipkaa
open Go.ChangeShapes Go.WideShapes Go.ChangeAt Go.RowKit

/-- an append of a slice of slices onto a row of one's own, both nil and empty let in -/
theorem append_rowsN {w1 : World} {base n c m c2 : Nat} {A B : Option Addr} {xs vs : List Value} {ops : Array Oper} {rest : List Oper} {o : Oper} {a : Act} {Q : Exit → Act → World → Prop} (s x : Operand)
    (hg : o.guard = none) (hop : o.op = Op.call { callee := Callee.builtin Builtin.append, args := #[s, x], argTypes := #[23, 23] })
    (hs : a.eval s = .slice A n c) (hx : a.eval x = .slice B m c2) (ho : w1.ownsRow base 35 1 (.slice A n c) n xs)
    (hc : ∀ ad, B = some ad → ∀ j u, vs[j]? = some u → w1.cell? (ad.add j) = some u) (h1 : ∀ u ∈ vs, u.oneCell' = true) (hm : vs.length = m) (HN : B = none → m = 0 ∧ c2 = 0) (hb : base ≤ w1.heap.size) (hk : n ≤ 10000000) (hmm : m ≤ 10000000)
    (hK : ∀ A2 cc w2, w2.ownsRow base 35 1 (.slice A2 (n + m) cc) (n + m) (xs ++ vs) → Kept w1 w2 (fun g => (Value.slice A n c).ownBlock = some g) → (∀ g, (Value.slice A2 (n + m) cc).ownBlock = some g → (Value.slice A n c).ownBlock = some g ∨ w1.heap.size ≤ g) → wpList Try.prog ops Q rest (a.put o.dst (.slice A2 (n + m) cc)) w2) : wpList Try.prog ops Q (o :: rest) a w1 := by
  obtain ⟨iS, hiS, hs0, hs1, hs2⟩ := info_parts info_ints
  by_cases hz : m = 0
  · subst hz
    have hg0 : vs = [] := List.eq_nil_of_length_eq_zero hm
    have hsrc : Src Try.prog iS.size 23 (.slice B 0 c2) 0 [] w1 := by
      cases B with
      | none => exact Src.ofNil w1 Try.underlying23 c2
      | some ad => exact Src.ofSlice w1 Try.underlying23 ad 0 c2 [] (by simp) (fun j u h => by simp at h) (fun u h => by simp at h)
    have hrun := run_append_nothing w1 23 23 o.type 35 iS Try.underlying23 hiS A n c (own_cap ho) _ hsrc
    refine wpList_plain hg fun K hK' => ?_
    unfold Oper.wp
    simp [execOp, hop, resolve, invoke, builtin, hs, hx, hrun, Result.andThen]
    refine hK' _ _ ?_
    have := hK A c w1 (by rw [hg0, List.append_nil]; exact ho) (Kept.refl _ _) (fun g e => .inl (by cases A <;> exact e))
    exact this
  · cases hB : B with
    | none => have := HN hB; omega
    | some ad =>
      refine wpList_append_lies _ hg _ _ 23 hop base 35 iS (.slice none 0 0) 1 24 Try.underlying23 hiS hs0 hs1 hs2 rfl (by omega) _ n _ hs ho ad m c2 vs (by rw [hx, hB]) (by omega) (hc ad hB) h1 (by omega) (by unfold maxLen; omega) (by omega) hb _ rfl ?_
      intro g' cap' w2 h2 hg2 hat _
      exact hK (some ⟨g', 0, none⟩) cap' w2 h2 (Kept.of_grown hg2 (fun _ e => e)) (fun g e => by
        have e' : g = g' := by simp [Value.ownBlock] at e; exact e.symm
        subst e'
        rcases hat with q | q
        · exact .inl q
        · exact .inr (by omega))
theorem CR.append {w1 w2 : World} {base lo : Nat} {A A2 : Option Addr} {n c m cc : Nat} {xs vs : List Value} {L1 L2 : List (List Int)} (h : CR w1 base (.slice A n c) xs L1) (hn : L1.length = n) (hm : L2.length = m)
    (hr : Rows0 w1 (fun g => g < lo) vs L2) (hlo : lo ≤ base) (hlo2 : lo ≤ w1.heap.size) (ho : w2.ownsRow base 35 1 (.slice A2 (n + m) cc) (n + m) (xs ++ vs)) (hk : Kept w1 w2 (fun g => (Value.slice A n c).ownBlock = some g))
    (hat : ∀ g, (Value.slice A2 (n + m) cc).ownBlock = some g → (Value.slice A n c).ownBlock = some g ∨ w1.heap.size ≤ g) : CR w2 base (.slice A2 (n + m) cc) (xs ++ vs) (L1 ++ L2) := by
  have hlen := h.rows.1
  have hsz := hk.size
  refine ⟨by rw [List.length_append, hn, hm]; exact ho, by simp [hlen, hr.1], fun i l hl => ?_⟩
  by_cases hi : i < L1.length
  · rw [List.getElem?_append_left hi] at hl
    obtain ⟨a, c', h1, h2, h3, h4, h5⟩ := h.rows.2 i l hl
    refine ⟨a, c', by rw [List.getElem?_append_left (by omega)]; exact h1, h2, h3, h4.kept hk (fun ad e p q => (h5 ad e p).2 q), fun ad e p => ?_⟩
    have h6 := h5 ad e p
    refine ⟨by omega, fun q => ?_⟩
    rcases hat _ q with r | r
    · exact h6.2 r
    · omega
  · rw [List.getElem?_append_right (by omega)] at hl
    obtain ⟨a, c', h1, h2, h3, h4, h5⟩ := hr.2 _ l hl
    refine ⟨a, c', by rw [List.getElem?_append_right (by omega), hlen]; exact h1, h2, h3, h4.kept hk (fun ad e p q => ?_), fun ad e p => ?_⟩
    · have := h5 ad e p
      have := (h.outer.lt _ q).1
      omega
    · have h6 := h5 ad e p
      refine ⟨by omega, fun q => ?_⟩
      have := (ho.lt _ q).1
      omega
theorem OwnSS.cr {w : World} {base : Nat} {v : Value} {vs : List Value} {L : List (List Int)} (h : OwnSS w base v vs L) : CR w base v vs L := by
  refine ⟨h.outer, h.inner.len, fun i l hl => ?_⟩
  obtain ⟨a, c, h1, h2, h3, h4, h5⟩ := h.rows0.2 i l hl
  exact ⟨a, c, h1, h2, h3, h4, fun ad e p => ⟨(h.inner.lt _ (h5 ad e p)).2, fun q => h.off _ (h5 ad e p) q⟩⟩
theorem CR.nil (w : World) (base : Nat) {A : Option Addr} {c : Nat} (h : w.ownsRow base 35 1 (.slice A 0 c) 0 []) : CR w base (.slice A 0 c) [] [] := ⟨h, rfl, fun i l hl => by simp at hl⟩
theorem CR.below {w w' : World} {base : Nat} {v : Value} {vs : List Value} {L : List (List Int)} (h : CR w base v vs L) (hb : Below w.heap.size w w') : CR w' base v vs L := by
  refine ⟨own_below h.outer hb, h.rows.1, fun i l hl => ?_⟩
  obtain ⟨a, c, h1, h2, h3, h4, h5⟩ := h.rows.2 i l hl
  exact ⟨a, c, h1, h2, h3, h4.below hb, fun ad e p => ⟨by have := (h5 ad e p).1; have := hb.size; omega, (h5 ad e p).2⟩⟩
/-- what SameModels answers -/
def SameR (v : Int) (a b : List (List Int)) (s ok : Bool) : Prop :=
  ∃ x y z, CountR v a x (goodB v a) ∧ CountR v b y (goodB v b) ∧ CountR v (a ++ b) z ok ∧ s = (ok && ((x == z) && (y == z)))
theorem sameR_any (v : Int) (a b : List (List Int)) : ∃ s ok, SameR v a b s ok := ⟨_, goodB v (a ++ b), _, _, _, ⟨rfl, rfl⟩, ⟨rfl, rfl⟩, ⟨rfl, rfl⟩, rfl⟩
theorem good_left {v : Int} {a b : List (List Int)} (h : goodB v (a ++ b) = true) : goodB v a = true ∧ goodB v b = true := by
  unfold goodB at h ⊢
  simp only [Bool.and_eq_true, decide_eq_true_eq, List.length_append, List.all_append] at h ⊢
  exact ⟨⟨h.1, by omega, h.2.2.1⟩, ⟨h.1, by omega, h.2.2.2⟩⟩
set_option maxRecDepth 100000 in
set_option maxHeartbeats 4000000 in
theorem specSame_any (v : Int) (A B : Option Addr) (n m cap c2 : Nat) (a b : List (List Int)) (w : World) (s ok : Bool) (hr : Hid (SameR v a b s ok)) (hl : Hid (LLies w A a)) (hlN : Hid (LNil w A a)) (hl2 : Hid (LLies w B b)) (HX : Hid (a.length = n)) (HY : Hid (b.length = m)) (HN2 : Hid (B = none → m = 0 ∧ c2 = 0)) (hn : n ≤ 1048576) (hm : m ≤ 1048576) (HT : Hid (tot a ≤ 1048576)) :
    Calls Try.prog 39 #[.int .i64 v, .slice A n cap, .slice B m c2] w fun e w' => e = .returned (.tuple #[.bool s, .bool ok]) ∧ Below w.heap.size w w' := by
  obtain ⟨x, y, z, hc1, hc2, hc3, hs⟩ := hr.out
  have C1 := Lib.hid hc1
  have C2 := Lib.hid hc2
  have C3 := Lib.hid hc3
  have SE := Lib.hid hs
  clear hc1 hc2 hc3 hs
  obtain ⟨vs, hv1, hv2, hv3⟩ := hl2.out.vals
  have V1 := Lib.hid hv1
  have V2 := Lib.hid hv2
  have V3 := Lib.hid hv3
  have VL : Hid (vs.length = m) := Lib.hid (by rw [hv1.1]; exact HY.out)
  clear hv1 hv2 hv3
  have OKE : Hid (ok = goodB v (a ++ b)) := Lib.hid C3.out.1
  go_enter Try.func39, Try.ntmps39
  go_wp2_with fail
  refine (l5Copy_any _ _ _ a _ hl hlN HX hn HT).mono ?_
  rintro e w1 ⟨A1, c1, vs1, rfl, ho1, hb1⟩
  have O1 := Lib.hid ho1
  have B1 := Lib.hid hb1
  have hs1 := hb1.size
  rw [HX.out] at O1 ⊢
  clear ho1 hb1
  have OU : Hid (w1.ownsRow w.heap.size 35 1 (.slice A1 n c1) n vs1) := Lib.hid (by have := O1.out.outer; rw [HX.out] at this; exact this)
  go_wp2_with (at_builtin; (refine append_rowsN (w1 := w1) (base := w.heap.size) (xs := vs1) (vs := vs) _ _ rfl rfl rfl rfl OU.out (fun ad e j u hu => (B1.out.cell (World.block_lt_of_cell? w _ (V2.out ad e j u hu))).trans (V2.out ad e j u hu)) V3.out VL.out HN2.out hs1 (by omega) (by omega) ?_; intro A2 cc w2 ho2 hk2 hat2; have CB := Lib.hid (O1.out.cr.append HX.out HY.out (V1.out.kept (.of_below (S := fun _ => False) B1.out) (fun _ _ q => q)) (Nat.le_refl _) hs1 ho2 hk2 hat2); have B2 := Lib.hid (hk2.below B1.out hs1 (fun i e => (OU.out.lt i e).1)); clear ho2 hk2 hat2))
  have LA := Lib.hid (hl.out.below B2.out)
  have LB := Lib.hid (hl2.out.below B2.out)
  have LC := Lib.hid CB.out.lies
  have LK : Hid ((a ++ b).length = n + m) := Lib.hid (by rw [List.length_append, HX.out, HY.out])
  have NOK : Hid (ok = false → s = false) := Lib.hid (fun e => by rw [SE.out, e]; rfl)
  cases g1 : goodB v a
  · have E : Hid (ok = false) := Lib.hid (by
      rw [OKE.out]
      cases g : goodB v (a ++ b)
      · rfl
      · rw [(good_left g).1] at g1; simp at g1)
    refine (specGoodC_any _ _ _ _ a _ LA HX (by omega)).mono ?_
    rintro e w' ⟨rfl, rfl⟩
    rw [g1]
    go_wp2
    go_ret2
    exact ⟨ret_bb (NOK.out E.out).symm E.out.symm, B2.out⟩
  cases g2 : goodB v b
  · have E : Hid (ok = false) := Lib.hid (by
      rw [OKE.out]
      cases g : goodB v (a ++ b)
      · rfl
      · rw [(good_left g).2] at g2; simp at g2)
    refine (specGoodC_any _ _ _ _ a _ LA HX (by omega)).mono ?_
    rintro e w' ⟨rfl, rfl⟩
    rw [g1]
    go_wp2_with (go_at_call 56; refine (specGoodC_any _ _ _ _ b _ LB HY (by omega)).mono ?_; rintro e w' ⟨rfl, rfl⟩; rw [g2])
    go_ret2
    exact ⟨ret_bb (NOK.out E.out).symm E.out.symm, B2.out⟩
  cases g3 : goodB v (a ++ b)
  · have E : Hid (ok = false) := Lib.hid (by rw [OKE.out]; exact g3)
    refine (specGoodC_any _ _ _ _ a _ LA HX (by omega)).mono ?_
    rintro e w' ⟨rfl, rfl⟩
    rw [g1]
    go_wp2_with fail
    refine (specGoodC_any _ _ _ _ b _ LB HY (by omega)).mono ?_
    rintro e w' ⟨rfl, rfl⟩
    rw [g2]
    go_wp2_with fail
    refine (specGoodC_any _ _ _ _ (a ++ b) _ LC LK (by omega)).mono ?_
    rintro e w' ⟨rfl, rfl⟩
    rw [g3]
    go_wp2
    go_ret2
    exact ⟨ret_bb (NOK.out E.out).symm E.out.symm, B2.out⟩
  have E : Hid (ok = true) := Lib.hid (by rw [OKE.out]; exact g3)
  rw [g1] at C1
  rw [g2] at C2
  refine (specGoodC_any _ _ _ _ a _ LA HX (by omega)).mono ?_
  rintro e w' ⟨rfl, rfl⟩
  rw [g1]
  go_wp2_with fail
  refine (specGoodC_any _ _ _ _ b _ LB HY (by omega)).mono ?_
  rintro e w' ⟨rfl, rfl⟩
  rw [g2]
  go_wp2_with fail
  refine (specGoodC_any _ _ _ _ (a ++ b) _ LC LK (by omega)).mono ?_
  rintro e w' ⟨rfl, rfl⟩
  rw [g3]
  clear g1 g2 g3
  go_wp2_with fail
  refine (specCount_any v _ _ _ a _ x true C1 LA HX (by omega)).mono ?_
  rintro e w3 ⟨rfl, hb3⟩
  have LB3 := Lib.hid (LB.out.below hb3)
  have LC3 := Lib.hid (LC.out.below hb3)
  have B3 := Lib.hid (Below.tr B2.out hb3)
  clear hb3
  go_wp2_with fail
  refine (specCount_any v _ _ _ b _ y true C2 LB3 HY (by omega)).mono ?_
  rintro e w4 ⟨rfl, hb4⟩
  have LC4 := Lib.hid (LC3.out.below hb4)
  have B4 := Lib.hid (Below.tr B3.out hb4)
  clear hb4
  go_wp2_with fail
  refine (specCount_any v _ _ _ (a ++ b) _ z ok C3 LC4 LK (by omega)).mono ?_
  rintro e w5 ⟨rfl, hb5⟩
  have B5 := Lib.hid (Below.tr B4.out hb5)
  clear hb5
  have SX : Hid (s = ((x == y) && (y == z))) := Lib.hid (by
    rw [SE.out, E.out]
    by_cases h1 : y = z
    · subst h1; simp
    · have h2 : (y == z) = false := by simpa using h1
      rw [h2]; simp)
  rw [E.out]
  cases h1 : (x == y)
  · go_wp2
    go_ret2
    exact ⟨ret_bb (by rw [SX.out, h1]; rfl) E.out.symm, B5.out⟩
  · go_wp2
    go_ret2
    exact ⟨ret_bb (by rw [SX.out, h1]; rfl) E.out.symm, B5.out⟩

theorem append_zeros {w1 : World} {n : Nat} {ops : Array Oper} {rest : List Oper} {o : Oper} {a : Act} {Q : Exit → Act → World → Prop} (s x : Operand)
    (hg : o.guard = none) (hop : o.op = Op.call { callee := Callee.builtin Builtin.append, args := #[s, x], argTypes := #[23, 3] })
    (hs : a.eval s = .slice none 0 0) (hx : a.eval x = .int .i64 n) (h0 : 0 < n) (hn : n ≤ 4194304)
    (hK : ∀ cap w2, w2.ownsRow w1.heap.size 35 1 (.slice (some ⟨w1.heap.size, 0, none⟩) 0 cap) 0 [] → Below w1.heap.size w1 w2 → n ≤ cap → wpList Try.prog ops Q rest (a.put o.dst (.slice (some ⟨w1.heap.size, 0, none⟩) n cap)) w2) : wpList Try.prog ops Q (o :: rest) a w1 := by
  obtain ⟨iS, hiS, hs0, hs1, hs2⟩ := info_parts info_ints
  have hrun := Lib.run_append_nil_zeros w1 23 3 o.type 35 iS (.slice none 0 0) .i64 .i64 Try.underlying23 Try.underlying3 hiS hs0 n (by omega) (by omega) (by omega) (by rw [hs2]; omega)
  have hge := grownCap_ge w1 n 0 35
  have hle := grownCap_le_maxLen w1 n 0 35 (by unfold maxLen; omega)
  have zsz : ∀ k, (Builtin.zeroCells (Value.slice none 0 0).cells k).size = k := fun k => by simp [Builtin.zeroCells, Value.cells]
  have key := hK (grownCap w1 n 0 35) _ ⟨rfl, .inr ⟨w1.heap.size, grownCap w1 n 0 35, _, rfl, Nat.le_refl _, heap_alloc_new w1.drew (.cells (Builtin.zeroCells (Value.slice none 0 0).cells n ++ Builtin.zeroCells (Value.slice none 0 0).cells (grownCap w1 n 0 35 - n)) 35), Nat.zero_le _, hle, by rw [Array.size_append, zsz, zsz]; omega, by simp⟩⟩ (((Below.refl w1.heap.size w1).drew).alloc (by simp) _) hge
  generalize grownCap w1 n 0 35 = gc at hrun key
  refine wpList_plain hg fun K hK' => ?_
  unfold Oper.wp
  simp [execOp, hop, resolve, invoke, builtin, hs, hx, hrun, Result.andThen]
  exact hK' _ _ key
set_option maxRecDepth 100000 in
set_option maxHeartbeats 2000000 in
theorem grow_any (n : Nat) (w : World) (hn : n ≤ 4194304) :
    Calls Try.prog 102 #[.slice none 0 0, .int .i64 n] w fun e w' => ∃ A c, e = .returned (.slice A 0 c) ∧ w'.ownsRow w.heap.size 35 1 (.slice A 0 c) 0 [] ∧ Below w.heap.size w w' := by
  by_cases hz : n = 0
  · subst hz
    go_enter Try.func102, Try.ntmps102
    go_wp2
    go_ret
    exact ⟨none, 0, rfl, World.ownsRow_nil _ _ _ _, Below.refl _ _⟩
  · have hpos : decide ((n : Int) > 0) = true := by simp; omega
    go_enter Try.func102, Try.ntmps102
    go_wp2_with (at_builtin; (refine append_zeros (n := n) _ _ rfl rfl rfl rfl (by omega) hn ?_; intro gc w2 ho2 hb2 hge; have O2 := Lib.hid ho2; have B2 := Lib.hid hb2; clear ho2 hb2))
    go_ret
    exact ⟨some ⟨w.heap.size, 0, none⟩, gc, rfl, O2.out, B2.out⟩
/-- the sum of the lengths so far -/
def sumTo (n m : Nat) : Nat → Nat
  | 0 => 0
  | 1 => n
  | _ => n + m
def upTo (a b : List (List Int)) : Nat → List (List Int)
  | 0 => []
  | 1 => a
  | _ => a ++ b
set_option maxRecDepth 100000 in
set_option maxHeartbeats 4000000 in
theorem concat_any (g : Nat) (A B : Option Addr) (n m ca cb : Nat) (a b : List (List Int)) (w : World) (hg : g < w.heap.size) (t0 : w.cell? ⟨g, 0, none⟩ = some (.slice A n ca)) (t1 : w.cell? ⟨g, 1, none⟩ = some (.slice B m cb)) (hl : Hid (LLies w A a)) (hl2 : Hid (LLies w B b)) (HX : Hid (a.length = n)) (HY : Hid (b.length = m)) (HN1 : Hid (A = none → n = 0 ∧ ca = 0)) (HN2 : Hid (B = none → m = 0 ∧ cb = 0)) (hn : n ≤ 1048576) (hm : m ≤ 1048576) :
    Calls Try.prog 82 #[.slice (some ⟨g, 0, none⟩) 2 2] w fun e w' => ∃ A2 c2 vs, e = .returned (.slice A2 (n + m) c2) ∧ CR w' w.heap.size (.slice A2 (n + m) c2) vs (a ++ b) ∧ Below w.heap.size w w' := by
  obtain ⟨va, hv1, hv2, hv3⟩ := hl.out.vals
  obtain ⟨vb, hu1, hu2, hu3⟩ := hl2.out.vals
  have V := Lib.hid (And.intro hv1 (And.intro hv2 hv3))
  have U := Lib.hid (And.intro hu1 (And.intro hu2 hu3))
  have VL : Hid (va.length = n) := Lib.hid (by rw [hv1.1]; exact HX.out)
  have UL : Hid (vb.length = m) := Lib.hid (by rw [hu1.1]; exact HY.out)
  clear hv1 hv2 hv3 hu1 hu2 hu3
  go_enter Try.func82, Try.ntmps82
  go_wp2_with fail
  go_loop [3, 11] (fun s i => ∃ k : Nat, k ≤ 2 ∧ i = .int .i64 k ∧ s = .int .i64 (sumTo n m k)) (fun _ i => 2 - (intOf i).toNat)
  case atStart => exact ⟨0, by omega, rfl, rfl⟩
  case round =>
    obtain ⟨k, hk, rfl, rfl⟩ := hrel
    match k, hk with
    | 0, _ =>
      simp only [sumTo]
      go_wp2
      go_round
      case rel => exact ⟨1, by omega, by go_num, by simp⟩
      case measure => simp [intOf]
    | 1, _ =>
      simp only [sumTo]
      have hsum : ¬ ((n : Int) + (m : Int) < 0) := by omega
      go_wp2
      go_round
      case rel => exact ⟨2, by omega, by go_num, by simp⟩
      case measure => simp [intOf]
    | 2, _ =>
      simp only [sumTo]
      go_wp2_with fail
      refine (grow_any (n + m) _ (by omega)).mono ?_
      rintro e w1 ⟨A1, c1, rfl, ho1, hb1⟩
      have C1 := Lib.hid (CR.nil w1 w.heap.size ho1)
      have B1 := Lib.hid hb1
      clear ho1 hb1
      go_wp2_with fail
      go_loopw [6, 27] (fun u i wr => ∃ k : Nat, k ≤ 2 ∧ i = .int .i64 k ∧ (∃ A3 c3 vs, u = .slice A3 (sumTo n m k) c3 ∧ CR wr w.heap.size (.slice A3 (sumTo n m k) c3) vs (upTo a b k)) ∧ Below w.heap.size w wr) (fun _ i _ => 2 - (intOf i).toNat)
      case atStart => exact ⟨0, by omega, rfl, ⟨A1, c1, [], rfl, C1.out⟩, B1.out⟩
      case round =>
        clear C1 B1
        obtain ⟨k, hk, rfl, ⟨A3, c3, vs, rfl, hcr⟩, hb⟩ := hrel
        have C3 := Lib.hid hcr
        have B3 := Lib.hid hb
        have hsz := hb.size
        have u0 : wr.cell? ⟨g, 0, none⟩ = some (.slice A n ca) := ((bcell hb).1 _ _ hg).trans t0
        have u1 : wr.cell? ⟨g, 1, none⟩ = some (.slice B m cb) := ((bcell hb).1 _ _ hg).trans t1
        clear hcr hb
        match k, hk with
        | 0, _ =>
          simp only [sumTo, upTo] at C3 ⊢
          go_wp2_with (at_builtin; (refine append_rowsN (w1 := wr) (base := w.heap.size) (xs := vs) (vs := va) _ _ rfl rfl rfl rfl C3.out.outer (fun ad e j u hu => (B3.out.cell (World.block_lt_of_cell? w _ (V.out.2.1 ad e j u hu))).trans (V.out.2.1 ad e j u hu)) V.out.2.2 VL.out HN1.out hsz (by omega) (by omega) ?_; intro A4 c4 w4 ho4 hk4 hat4; have C4 := Lib.hid (C3.out.append rfl HX.out (V.out.1.kept (.of_below (S := fun _ => False) B3.out) (fun _ _ q => q)) (Nat.le_refl _) hsz ho4 hk4 hat4); have B4 := Lib.hid (hk4.below B3.out hsz (fun i e => (C3.out.outer.lt i e).1)); clear ho4 hk4 hat4))
          go_roundw
          case rel => exact ⟨1, by omega, by go_num, ⟨A4, c4, _, by simp, by simpa [sumTo, upTo] using C4.out⟩, B4.out⟩
          case measure => simp [intOf]
        | 1, _ =>
          simp only [sumTo, upTo] at C3 ⊢
          have OU : Hid (wr.ownsRow w.heap.size 35 1 (.slice A3 n c3) n vs) := Lib.hid (by have := C3.out.outer; rw [HX.out] at this; exact this)
          go_wp2_with (at_builtin; (refine append_rowsN (w1 := wr) (base := w.heap.size) (xs := vs) (vs := vb) _ _ rfl rfl rfl rfl OU.out (fun ad e j u hu => (B3.out.cell (World.block_lt_of_cell? w _ (U.out.2.1 ad e j u hu))).trans (U.out.2.1 ad e j u hu)) U.out.2.2 UL.out HN2.out hsz (by omega) (by omega) ?_; intro A4 c4 w4 ho4 hk4 hat4; have C4 := Lib.hid (C3.out.append HX.out HY.out (U.out.1.kept (.of_below (S := fun _ => False) B3.out) (fun _ _ q => q)) (Nat.le_refl _) hsz ho4 hk4 hat4); have B4 := Lib.hid (hk4.below B3.out hsz (fun i e => (OU.out.lt i e).1)); clear ho4 hk4 hat4))
          go_roundw
          case rel => exact ⟨2, by omega, by go_num, ⟨A4, c4, _, by simp, by simpa [sumTo, upTo] using C4.out⟩, B4.out⟩
          case measure => simp [intOf]
        | 2, _ =>
          simp only [sumTo, upTo] at C3 ⊢
          go_wp2
          go_ret
          exact ⟨A3, c3, vs, rfl, C3.out, B3.out⟩
set_option maxRecDepth 100000 in
set_option maxHeartbeats 4000000 in
theorem implSame_any (v : Int) (A B : Option Addr) (n m cap c2 : Nat) (a b : List (List Int)) (w : World) (s ok : Bool) (hr : Hid (SameR v a b s ok)) (hl : Hid (LLies w A a)) (hl2 : Hid (LLies w B b)) (HX : Hid (a.length = n)) (HY : Hid (b.length = m)) (HN1 : Hid (A = none → n = 0 ∧ cap = 0)) (HN2 : Hid (B = none → m = 0 ∧ c2 = 0)) (hn : n ≤ 1048576) (hm : m ≤ 1048576) :
    Calls Try.prog 38 #[.int .i64 v, .slice A n cap, .slice B m c2] w fun e w' => e = .returned (.tuple #[.bool s, .bool ok]) ∧ Below w.heap.size w w' := by
  obtain ⟨x, y, z, hc1, hc2, hc3, hs⟩ := hr.out
  have C1 := Lib.hid hc1
  have C2 := Lib.hid hc2
  have C3 := Lib.hid hc3
  have SE := Lib.hid hs
  clear hc1 hc2 hc3 hs
  have KB : Hid (Blk (w.alloc (.cells #[.slice A n cap, .slice B m c2] 23)) w.heap.size 23 [.slice A n cap, .slice B m c2]) := Lib.hid (heap_alloc_new w _)
  have hb0 := below1 w (.cells #[.slice A n cap, .slice B m c2] 23)
  have B0 := Lib.hid hb0
  have LA := Lib.hid (hl.out.below hb0)
  have LB := Lib.hid (hl2.out.below hb0)
  clear hb0
  go_enter Try.func38, Try.ntmps38
  go_wp2_with fail
  refine (concat_any w.heap.size A B n m cap c2 a b _ (by simp) (KB.out.cell 0) (KB.out.cell 1) LA LB HX HY HN1 HN2 hn hm).mono ?_
  rintro e w1 ⟨A1, c1, vs1, rfl, hcr, hb1⟩
  have LC := Lib.hid hcr.lies
  have B1 := Lib.hid (Below.tr B0.out hb1)
  have LA1 := Lib.hid (LA.out.below hb1)
  have LB1 := Lib.hid (LB.out.below hb1)
  have LK : Hid ((a ++ b).length = n + m) := Lib.hid (by rw [List.length_append, HX.out, HY.out])
  clear hcr hb1 LA LB KB B0
  go_wp2_with fail
  refine (implCount_any v _ _ _ (a ++ b) _ z ok C3 LC LK (by omega)).mono ?_
  rintro e w2 ⟨rfl, hb2⟩
  have B2 := Lib.hid (Below.tr B1.out hb2)
  have LA2 := Lib.hid (LA1.out.below hb2)
  have LB2 := Lib.hid (LB1.out.below hb2)
  clear hb2
  cases hok : ok
  · have E : Hid (s = false) := Lib.hid (by rw [SE.out, hok]; rfl)
    go_wp2
    go_ret2
    exact ⟨ret_bb E.out.symm hok.symm, B2.out⟩
  · have G := Lib.hid (good_left (by have := C3.out.1; rw [hok] at this; exact this.symm))
    rw [G.out.1] at C1
    rw [G.out.2] at C2
    have SX : Hid (s = ((x == z) && (y == z))) := Lib.hid (by rw [SE.out, hok]; rfl)
    go_wp2_with fail
    refine (implCount_any v _ _ _ a _ x true C1 LA2 HX (by omega)).mono ?_
    rintro e w3 ⟨rfl, hb3⟩
    have B3 := Lib.hid (Below.tr B2.out hb3)
    have LB3 := Lib.hid (LB2.out.below hb3)
    clear hb3
    go_wp2_with fail
    refine (implCount_any v _ _ _ b _ y true C2 LB3 HY (by omega)).mono ?_
    rintro e w4 ⟨rfl, hb4⟩
    have B4 := Lib.hid (Below.tr B3.out hb4)
    clear hb4
    cases h1 : (x == z)
    · go_wp2
      go_ret2
      exact ⟨ret_bb (by rw [SX.out, h1]; rfl) hok.symm, B4.out⟩
    · go_wp2
      go_ret2
      exact ⟨ret_bb (by rw [SX.out, h1]; rfl) hok.symm, B4.out⟩
end Go.Proofs.Ytehedomjfpipkaa
