/-
  InputsOf, EvalGates, InputsBy: the program's and the model's.
-/
import Derived.Test.YtklcfbjaodildaaGi3
import Derived.Test.YtklcfbjaodildaaGs2
namespace Go.Proofs.Ytklcfbjaodildaa
open Go.ChangeShapes Go.WideShapes Go.ChangeAt Go.RowKit

theorem rInp_yes {xs : List Gt} {r0 : List Int} {r1 : Bool} (h : rInp xs = (r0, r1)) (hg : goodGB xs = true) : r0 = inpI xs xs.length ∧ r1 = true := by
  unfold rInp at h; rw [hg] at h; simp at h; exact ⟨h.1.symm, h.2⟩
theorem rInp_no {xs : List Gt} {r0 : List Int} {r1 : Bool} (h : rInp xs = (r0, r1)) (hg : goodGB xs = false) : r0 = [] ∧ r1 = false := by
  unfold rInp at h; rw [hg] at h; simp at h; exact ⟨h.1, h.2⟩
theorem rInp_len {xs : List Gt} {r0 : List Int} {r1 : Bool} (h : rInp xs = (r0, r1)) : r0.length ≤ 1000 := by
  cases hg : goodGB xs
  · rw [(rInp_no h hg).1]; simp
  · rw [(rInp_yes h hg).1, inpI_len]; have := inpN_le xs xs.length; have := goodG_len hg; omega
theorem rEv_yes {xs : List Gt} {m r0 : List Bool} {r1 : Bool} (h : rEv xs m = (r0, r1)) (hg : goodGB xs = true) (hm : m.length = nIn xs) : r0 = evG xs m ∧ r1 = true := by
  unfold rEv at h; rw [if_pos ⟨hg, hm⟩] at h; simp at h; exact ⟨h.1.symm, h.2⟩
theorem rEv_no {xs : List Gt} {m r0 : List Bool} {r1 : Bool} (h : rEv xs m = (r0, r1)) (hg : goodGB xs = false ∨ m.length ≠ nIn xs) : r0 = [] ∧ r1 = false := by
  unfold rEv at h; rw [if_neg (by rintro ⟨a, b⟩; rcases hg with q | q; (rw [q] at a; cases a); exact q b)] at h; simp at h; exact ⟨h.1, h.2⟩
theorem rEv_len {xs : List Gt} {m r0 : List Bool} {r1 : Bool} (h : rEv xs m = (r0, r1)) : r0.length ≤ 1000 := by
  by_cases q : goodGB xs = true ∧ m.length = nIn xs
  · rw [(rEv_yes h q.1 q.2).1, evG, evK_len]; have := goodG_len q.1; omega
  · rw [(rEv_no h (by cases hg : goodGB xs; exact .inl rfl; exact .inr (fun e => q ⟨hg, e⟩))).1]; simp
theorem rInBy_yes {xs : List Gt} {m r0 : List Bool} {r1 : Bool} (h : rInBy xs m = (r0, r1)) (hg : goodGB xs = true) (hm : m.length = xs.length) : r0 = byG xs m (nIn xs) ∧ r1 = true := by
  unfold rInBy at h; rw [if_pos ⟨hg, hm⟩] at h; simp at h; exact ⟨h.1.symm, h.2⟩
theorem rInBy_no {xs : List Gt} {m r0 : List Bool} {r1 : Bool} (h : rInBy xs m = (r0, r1)) (hg : goodGB xs = false ∨ m.length ≠ xs.length) : r0 = [] ∧ r1 = false := by
  unfold rInBy at h; rw [if_neg (by rintro ⟨a, b⟩; rcases hg with q | q; (rw [q] at a; cases a); exact q b)] at h; simp at h; exact ⟨h.1, h.2⟩
theorem byK_len (xs : List Gt) (M : List Bool) (k : Nat) : (byG xs M k).length ≤ k := by simp [byG]; omega
theorem rInBy_len {xs : List Gt} {m r0 : List Bool} {r1 : Bool} (h : rInBy xs m = (r0, r1)) : r0.length ≤ 1000 := by
  by_cases q : goodGB xs = true ∧ m.length = xs.length
  · rw [(rInBy_yes h q.1 q.2).1]; have := byK_len xs m (nIn xs); have := inpN_le xs xs.length; unfold nIn at *; have := goodG_len q.1; omega
  · rw [(rInBy_no h (by cases hg : goodGB xs; exact .inl rfl; exact .inr (fun e => q ⟨hg, e⟩))).1]; simp
/-- it answers a slice of bools of its own, and a bool -/
def GaveTwoB (w : World) (l : List Bool) (b : Bool) (e : Ending) (w' : World) : Prop :=
  ∃ A c, e = .returned (.tuple #[.slice A l.length c, .bool b]) ∧ w'.ownsRow w.heap.size 4 1 (.slice A l.length c) l.length (l.map Value.bool) ∧ Below w.heap.size w w'
theorem twoB_no {w w1 : World} {l : List Bool} {b : Bool} (h : l = [] ∧ b = false) (hb : Below w.heap.size w w1) : GaveTwoB w l b (.returned (.tuple #[.slice none 0 0, .bool false])) w1 := by
  obtain ⟨rfl, rfl⟩ := h
  exact ⟨none, 0, rfl, World.ownsRow_nil _ _ _ _, hb⟩
theorem twoI_no {w w1 : World} {l : List Int} {b : Bool} (h : l = [] ∧ b = false) (hb : Below w.heap.size w w1) : GaveTwo w l b (.returned (.tuple #[.slice none 0 0, .bool false])) w1 := by
  obtain ⟨rfl, rfl⟩ := h
  exact ⟨none, 0, rfl, World.ownsRow_nil _ _ _ _, hb⟩
set_option maxRecDepth 100000 in
set_option maxHeartbeats 2000000 in
theorem implInp_any (A : Option Addr) (n cap : Nat) (xs : List Gt) (w : World) (r0 : List Int) (r1 : Bool) (HR : Hid (rInp xs = (r0, r1))) (hl : Hid (GLies w A xs)) (HX : Hid (xs.length = n)) (hn : n ≤ 1048576) :
    Calls Try.prog 36 #[.slice A n cap] w (GaveTwo w r0 r1) := by
  cases q1 : goodGB xs
  · have E := Lib.hid (rInp_no HR.out q1)
    go_enter Try.func36, Try.ntmps36
    go_wp2_with (go_at_call 35; refine (implGoodG_any _ _ _ xs _ hl HX hn).mono ?_; rintro e w1 ⟨rfl, hb1⟩; rw [q1]; have B1 := Lib.hid hb1; clear hb1)
    go_ret2
    exact twoI_no E.out B1.out
  · have E := Lib.hid (rInp_yes HR.out q1)
    go_enter Try.func36, Try.ntmps36
    go_wp2_with (first | (go_at_call 35; refine (implGoodG_any _ _ _ xs _ hl HX hn).mono ?_; rintro e w1 ⟨rfl, hb1⟩; rw [q1]; have B1 := Lib.hid hb1; clear hb1) | (go_at_call 99; refine (inputsI_any _ n _ xs _ (Lib.hid (hl.out.below B1.out)) HX hn).mono ?_; rintro e w2 ⟨A2, c2, rfl, ho2, hb2⟩; have O2 := Lib.hid (own_baseG ho2 B1.out.size); have B2 := Lib.hid (Below.tr B1.out hb2); clear ho2 hb2))
    go_ret2
    exact ⟨A2, c2, by rw [E.out.1, E.out.2, HX.out]; rfl, by rw [E.out.1, HX.out]; exact O2.out, B2.out⟩
set_option maxRecDepth 100000 in
set_option maxHeartbeats 4000000 in
theorem implEv_any (A : Option Addr) (n cap : Nat) (B : Option Addr) (m c2 : Nat) (xs : List Gt) (mm : List Bool) (w : World) (r0 : List Bool) (r1 : Bool) (HR : Hid (rEv xs mm = (r0, r1))) (hl : Hid (GLies w A xs)) (HX : Hid (xs.length = n)) (hn : n ≤ 1048576) (hl2 : Hid (BLies w B mm)) (HY : Hid (mm.length = m)) (_hm : m ≤ 1048576) :
    Calls Try.prog 37 #[.slice A n cap, .slice B m c2] w (GaveTwoB w r0 r1) := by
  cases q1 : goodGB xs
  · have E := Lib.hid (rEv_no HR.out (.inl q1))
    go_enter Try.func37, Try.ntmps37
    go_wp2_with (go_at_call 35; refine (implGoodG_any _ _ _ xs _ hl HX hn).mono ?_; rintro e w1 ⟨rfl, hb1⟩; rw [q1]; have B1 := Lib.hid hb1; clear hb1)
    go_ret2
    exact twoB_no E.out B1.out
  obtain ⟨q, hq⟩ : ∃ q, (inpN xs n).length = q := ⟨_, rfl⟩
  have QN := Lib.hid hq
  have hqn : q ≤ n := by rw [← hq]; exact inpN_le _ _
  clear hq
  by_cases hqm : m = q
  · subst hqm
    have E := Lib.hid (rEv_yes HR.out q1 (by rw [HY.out]; unfold nIn; rw [HX.out, QN.out]))
    have HG := Lib.hid q1
    have hn12 : n ≤ 12 := by have := goodG_len q1; have := HX.out; omega
    have HMM : Hid (m = (inpN xs n).length) := Lib.hid QN.out.symm
    have em : ((m : Int) != (m : Int)) = false := by simp
    have KL := Lib.hid (evK_len xs mm n)
    go_enter Try.func37, Try.ntmps37
    go_wp2_with (first | (go_at_call 35; refine (implGoodG_any _ _ _ xs _ hl HX hn).mono ?_; rintro e w1 ⟨rfl, hb1⟩; rw [q1]; have B1 := Lib.hid hb1; clear hb1) | (go_at_call 99; refine (inputsI_any _ n _ xs _ (Lib.hid (hl.out.below B1.out)) HX hn).mono ?_; rintro e w2 ⟨A2, c2, rfl, _, hb2⟩; rw [inpI_len, QN.out]; have B2 := Lib.hid (Below.tr B1.out hb2); clear hb2) | (go_at_call 106; refine (rulesOf_any _ n _ xs _ (Lib.hid (hl.out.below B2.out)) HX hn12 HG).mono ?_; rintro e w3 ⟨g3, rfl, _, hr3, hb3⟩; have R3 := Lib.hid hr3; have B3 := Lib.hid (Below.tr B2.out hb3); clear hr3 hb3) | (go_at_call 105; refine (valuesBy_any _ _ n m _ _ xs mm _ R3 HX hn12 HG (Lib.hid (hl2.out.below B3.out)) HY HMM).mono ?_; rintro e w4 ⟨A4, c4, rfl, ho4, hb4⟩; have O4 := Lib.hid (own_baseG ho4 B3.out.size); have B4 := Lib.hid (Below.tr B3.out hb4); clear ho4 hb4))
    go_ret2
    exact ⟨A4, c4, by rw [E.out.1, E.out.2, evG, HX.out]; rfl, by rw [E.out.1, evG, HX.out]; exact O4.out, B4.out⟩
  · have E := Lib.hid (rEv_no HR.out (.inr (by rw [HY.out]; unfold nIn; rw [HX.out, QN.out]; exact hqm)))
    have em : ((m : Int) != (q : Int)) = true := by simp; omega
    go_enter Try.func37, Try.ntmps37
    go_wp2_with (first | (go_at_call 35; refine (implGoodG_any _ _ _ xs _ hl HX hn).mono ?_; rintro e w1 ⟨rfl, hb1⟩; rw [q1]; have B1 := Lib.hid hb1; clear hb1) | (go_at_call 99; refine (inputsI_any _ n _ xs _ (Lib.hid (hl.out.below B1.out)) HX hn).mono ?_; rintro e w2 ⟨A2, c2, rfl, _, hb2⟩; rw [inpI_len, QN.out]; have B2 := Lib.hid (Below.tr B1.out hb2); clear hb2))
    go_ret2
    exact twoB_no E.out B2.out
set_option maxRecDepth 100000 in
set_option maxHeartbeats 4000000 in
theorem implInBy_any (A : Option Addr) (n cap : Nat) (B : Option Addr) (m c2 : Nat) (xs : List Gt) (mm : List Bool) (w : World) (r0 : List Bool) (r1 : Bool) (HR : Hid (rInBy xs mm = (r0, r1))) (hl : Hid (GLies w A xs)) (HX : Hid (xs.length = n)) (hn : n ≤ 1048576) (hl2 : Hid (BLies w B mm)) (HY : Hid (mm.length = m)) (hm : m ≤ 1048576) :
    Calls Try.prog 40 #[.slice A n cap, .slice B m c2] w (GaveTwoB w r0 r1) := by
  obtain ⟨i0, hi0, hz0, hz1, hz2⟩ := info_parts info_bool
  cases q1 : goodGB xs
  · have E := Lib.hid (rInBy_no HR.out (.inl q1))
    go_enter Try.func40, Try.ntmps40
    go_wp2_with (go_at_call 35; refine (implGoodG_any _ _ _ xs _ hl HX hn).mono ?_; rintro e w1 ⟨rfl, hb1⟩; rw [q1]; have B1 := Lib.hid hb1; clear hb1)
    go_ret2
    exact twoB_no E.out B1.out
  by_cases hqm : m = n
  · subst hqm
    obtain ⟨q, hq⟩ : ∃ q, (inpN xs m).length = q := ⟨_, rfl⟩
    have QN := Lib.hid hq
    have hqn : q ≤ m := by rw [← hq]; exact inpN_le _ _
    clear hq
    have E := Lib.hid (rInBy_yes HR.out q1 (by rw [HY.out, HX.out]))
    have em : ((m : Int) != (m : Int)) = false := by simp
    go_enter Try.func40, Try.ntmps40
    go_wp2_with (first | (go_at_call 35; refine (implGoodG_any _ _ _ xs _ hl HX hn).mono ?_; rintro e w1 ⟨rfl, hb1⟩; rw [q1]; have B1 := Lib.hid hb1; clear hb1) | (go_at_call 99; (refine (inputsI_any _ m _ xs _ (Lib.hid (hl.out.below B1.out)) HX hn).mono ?_; rintro e w2 ⟨A2, c2', rfl, ho2, hb2⟩; have AL := Lib.hid (own_ilies ho2); rw [inpI_len, QN.out]; have B2 := Lib.hid (Below.tr B1.out hb2); clear ho2 hb2)))
    go_loopw [6, 22] (fun v i wr => ∃ k : Nat, k ≤ q ∧ i = .int .i64 k ∧ (∃ A3 cp, v = .slice A3 k cp ∧ (byG xs mm k).length = k ∧ wr.ownsRow w2.heap.size 4 1 (.slice A3 k cp) k ((byG xs mm k).map Value.bool)) ∧ Below w2.heap.size w2 wr) (fun _ i _ => q - (intOf i).toNat)
    case atStart => exact ⟨0, Nat.zero_le _, rfl, ⟨none, 0, rfl, by simp [byG], by simp only [byG, List.take_zero, List.map_nil]; exact World.ownsRow_nil _ _ _ _⟩, Below.refl _ _⟩
    case round =>
      obtain ⟨k, hk, rfl, ⟨A3, cp, rfl, hlen, hown⟩, hbw2⟩ := hrel
      have O3 := Lib.hid hown
      have HL := Lib.hid hlen
      have W2 := Lib.hid hbw2
      have B3 := Lib.hid (Below.tr B2.out hbw2)
      clear hown hlen hbw2
      by_cases hlt : k < q
      · obtain ⟨i, hi⟩ : ∃ i, (inpN xs m)[k]? = some i := ⟨_, List.getElem?_eq_getElem (by rw [QN.out]; exact hlt)⟩
        have hii := inpN_lt (List.mem_of_getElem? hi)
        have hI : (inpI xs m)[k]? = some (i : Int) := by unfold inpI; rw [List.getElem?_map, hi]; rfl
        obtain ⟨b1, off1, hA2, hbl1, c1⟩ := (AL.out.below W2.out) k _ hI
        obtain ⟨bb, hbb⟩ : ∃ b, mm[i]? = some b := ⟨_, List.getElem?_eq_getElem (by rw [HY.out]; exact hii)⟩
        obtain ⟨b2, off2, hB, hbl2, c3⟩ := (hl2.out.below B3.out) i bb hbb
        subst hA2 hB
        have E2 : Hid (byG xs mm (k + 1) = byG xs mm k ++ [bb]) := Lib.hid (byG_succ (by rw [HX.out]; exact hi) hbb)
        clear hI hbb hi
        go_wp2_with (at_builtin; (refine wpList_append_lies _ rfl _ _ 49 rfl w2.heap.size 4 i0 (.bool false) 1 1 Try.underlying49 hi0 hz0 hz1 hz2 rfl (by omega) _ k _ rfl (O3.out.alloc _) ⟨wr.heap.size, 0, none⟩ 1 1 [.bool bb] rfl rfl (one_new1 wr _ _) (by intro u hu; rw [List.mem_singleton.1 hu]; rfl) (by omega) (by unfold maxLen; omega) (by omega) (by have := W2.out.size; first | omega | (simp; omega)) (wr.heap.size + 1) (by first | rfl | simp) ?_; intro g3 cap3 w4 hown3 hg3 hat3 hlt3; have H3 := Lib.hid (appB O3.out hown3 hg3 W2.out (Nat.le_refl _)); clear hown3 hg3 hat3 hlt3))
        go_roundw
        case rel => exact ⟨k + 1, by omega, by go_num, ⟨some ⟨g3, 0, none⟩, cap3, rfl, by rw [E2.out, List.length_append, HL.out]; rfl, by rw [E2.out]; exact H3.out.1⟩, H3.out.2⟩
        case measure => simp [intOf]; omega
      · obtain rfl : k = q := by omega
        have EN : Hid (nIn xs = k) := Lib.hid (by unfold nIn; rw [HX.out, QN.out])
        go_wp2
        go_ret2
        exact ⟨A3, cp, by rw [E.out.1, E.out.2, EN.out, HL.out]; rfl, by rw [E.out.1, EN.out, HL.out]; exact own_baseG O3.out B2.out.size, B3.out⟩
  · have E := Lib.hid (rInBy_no HR.out (.inr (by rw [HY.out, HX.out]; exact hqm)))
    have em : ((m : Int) != (n : Int)) = true := by simp; omega
    go_enter Try.func40, Try.ntmps40
    go_wp2_with (go_at_call 35; refine (implGoodG_any _ _ _ xs _ hl HX hn).mono ?_; rintro e w1 ⟨rfl, hb1⟩; rw [q1]; have B1 := Lib.hid hb1; clear hb1)
    go_ret2
    exact twoB_no E.out B1.out
set_option maxRecDepth 100000 in
set_option maxHeartbeats 2000000 in
theorem specInp_any (A : Option Addr) (n cap : Nat) (xs : List Gt) (w : World) (r0 : List Int) (r1 : Bool) (HR : Hid (rInp xs = (r0, r1))) (hl : Hid (GLies w A xs)) (HX : Hid (xs.length = n)) (hn : n ≤ 1048576) :
    Calls Try.prog 68 #[.slice A n cap] w (GaveTwo w r0 r1) := by
  cases q1 : goodGB xs
  · have E := Lib.hid (rInp_no HR.out q1)
    go_enter Try.func68, Try.ntmps68
    go_wp2_with (go_at_call 60; refine (specGoodG_any _ _ _ xs _ hl HX hn).mono ?_; rintro e w1 ⟨rfl, hb1⟩; rw [q1]; have B1 := Lib.hid hb1; clear hb1)
    go_ret2
    exact twoI_no E.out B1.out
  · have E := Lib.hid (rInp_yes HR.out q1)
    go_enter Try.func68, Try.ntmps68
    go_wp2_with (first | (go_at_call 60; refine (specGoodG_any _ _ _ xs _ hl HX hn).mono ?_; rintro e w1 ⟨rfl, hb1⟩; rw [q1]; have B1 := Lib.hid hb1; clear hb1) | (go_at_call 101; refine (inputsS_any _ n _ xs _ (Lib.hid (hl.out.below B1.out)) HX hn).mono ?_; rintro e w2 ⟨A2, c2, rfl, ho2, hb2⟩; have O2 := Lib.hid (own_baseG ho2 B1.out.size); have B2 := Lib.hid (Below.tr B1.out hb2); clear ho2 hb2))
    go_ret2
    exact ⟨A2, c2, by rw [E.out.1, E.out.2, HX.out]; rfl, by rw [E.out.1, HX.out]; exact O2.out, B2.out⟩
set_option maxRecDepth 100000 in
set_option maxHeartbeats 4000000 in
theorem specEv_any (A : Option Addr) (n cap : Nat) (B : Option Addr) (m c2 : Nat) (xs : List Gt) (mm : List Bool) (w : World) (r0 : List Bool) (r1 : Bool) (HR : Hid (rEv xs mm = (r0, r1))) (hl : Hid (GLies w A xs)) (HX : Hid (xs.length = n)) (hn : n ≤ 1048576) (hl2 : Hid (BLies w B mm)) (HY : Hid (mm.length = m)) (_hm : m ≤ 1048576) :
    Calls Try.prog 45 #[.slice A n cap, .slice B m c2] w (GaveTwoB w r0 r1) := by
  cases q1 : goodGB xs
  · have E := Lib.hid (rEv_no HR.out (.inl q1))
    go_enter Try.func45, Try.ntmps45
    go_wp2_with (go_at_call 60; refine (specGoodG_any _ _ _ xs _ hl HX hn).mono ?_; rintro e w1 ⟨rfl, hb1⟩; rw [q1]; have B1 := Lib.hid hb1; clear hb1)
    go_ret2
    exact twoB_no E.out B1.out
  obtain ⟨q, hq⟩ : ∃ q, (inpN xs n).length = q := ⟨_, rfl⟩
  have QN := Lib.hid hq
  have hqn : q ≤ n := by rw [← hq]; exact inpN_le _ _
  clear hq
  by_cases hqm : m = q
  · subst hqm
    have E := Lib.hid (rEv_yes HR.out q1 (by rw [HY.out]; unfold nIn; rw [HX.out, QN.out]))
    have HG := Lib.hid q1
    have hn12 : n ≤ 12 := by have := goodG_len q1; have := HX.out; omega
    have HMM : Hid (m = (inpN xs n).length) := Lib.hid QN.out.symm
    have em : ((m : Int) != (m : Int)) = false := by simp
    have KL := Lib.hid (evK_len xs mm n)
    go_enter Try.func45, Try.ntmps45
    go_wp2_with (first | (go_at_call 60; refine (specGoodG_any _ _ _ xs _ hl HX hn).mono ?_; rintro e w1 ⟨rfl, hb1⟩; rw [q1]; have B1 := Lib.hid hb1; clear hb1) | (go_at_call 101; refine (inputsS_any _ n _ xs _ (Lib.hid (hl.out.below B1.out)) HX hn).mono ?_; rintro e w2 ⟨A2, c2, rfl, _, hb2⟩; rw [inpI_len, QN.out]; have B2 := Lib.hid (Below.tr B1.out hb2); clear hb2) | (go_at_call 102; refine (evalS_any _ _ n m _ _ xs mm _ (Lib.hid (hl.out.below B2.out)) HX hn12 HG (Lib.hid (hl2.out.below B2.out)) HY HMM).mono ?_; rintro e w4 ⟨A4, c4, rfl, ho4, hb4⟩; have O4 := Lib.hid (own_baseG ho4 B2.out.size); have B4 := Lib.hid (Below.tr B2.out hb4); clear ho4 hb4))
    go_ret2
    exact ⟨A4, c4, by rw [E.out.1, E.out.2, evG, HX.out]; rfl, by rw [E.out.1, evG, HX.out]; exact O4.out, B4.out⟩
  · have E := Lib.hid (rEv_no HR.out (.inr (by rw [HY.out]; unfold nIn; rw [HX.out, QN.out]; exact hqm)))
    have em : ((m : Int) != (q : Int)) = true := by simp; omega
    go_enter Try.func45, Try.ntmps45
    go_wp2_with (first | (go_at_call 60; refine (specGoodG_any _ _ _ xs _ hl HX hn).mono ?_; rintro e w1 ⟨rfl, hb1⟩; rw [q1]; have B1 := Lib.hid hb1; clear hb1) | (go_at_call 101; refine (inputsS_any _ n _ xs _ (Lib.hid (hl.out.below B1.out)) HX hn).mono ?_; rintro e w2 ⟨A2, c2, rfl, _, hb2⟩; rw [inpI_len, QN.out]; have B2 := Lib.hid (Below.tr B1.out hb2); clear hb2))
    go_ret2
    exact twoB_no E.out B2.out
set_option maxRecDepth 100000 in
set_option maxHeartbeats 4000000 in
theorem specInBy_any (A : Option Addr) (n cap : Nat) (B : Option Addr) (m c2 : Nat) (xs : List Gt) (mm : List Bool) (w : World) (r0 : List Bool) (r1 : Bool) (HR : Hid (rInBy xs mm = (r0, r1))) (hl : Hid (GLies w A xs)) (HX : Hid (xs.length = n)) (hn : n ≤ 1048576) (hl2 : Hid (BLies w B mm)) (HY : Hid (mm.length = m)) (hm : m ≤ 1048576) :
    Calls Try.prog 53 #[.slice A n cap, .slice B m c2] w (GaveTwoB w r0 r1) := by
  obtain ⟨i0, hi0, hz0, hz1, hz2⟩ := info_parts info_bool
  cases q1 : goodGB xs
  · have E := Lib.hid (rInBy_no HR.out (.inl q1))
    go_enter Try.func53, Try.ntmps53
    go_wp2_with (go_at_call 60; refine (specGoodG_any _ _ _ xs _ hl HX hn).mono ?_; rintro e w1 ⟨rfl, hb1⟩; rw [q1]; have B1 := Lib.hid hb1; clear hb1)
    go_ret2
    exact twoB_no E.out B1.out
  by_cases hqm : m = n
  · subst hqm
    obtain ⟨q, hq⟩ : ∃ q, (inpN xs m).length = q := ⟨_, rfl⟩
    have QN := Lib.hid hq
    have hqn : q ≤ m := by rw [← hq]; exact inpN_le _ _
    clear hq
    have E := Lib.hid (rInBy_yes HR.out q1 (by rw [HY.out, HX.out]))
    have em : ((m : Int) != (m : Int)) = false := by simp
    go_enter Try.func53, Try.ntmps53
    go_wp2_with (first | (go_at_call 60; refine (specGoodG_any _ _ _ xs _ hl HX hn).mono ?_; rintro e w1 ⟨rfl, hb1⟩; rw [q1]; have B1 := Lib.hid hb1; clear hb1) | (go_at_call 101; (refine (inputsS_any _ m _ xs _ (Lib.hid (hl.out.below B1.out)) HX hn).mono ?_; rintro e w2 ⟨A2, c2', rfl, ho2, hb2⟩; have AL := Lib.hid (own_ilies ho2); rw [inpI_len, QN.out]; have B2 := Lib.hid (Below.tr B1.out hb2); clear ho2 hb2)))
    go_loopw [6, 22] (fun v i wr => ∃ k : Nat, k ≤ q ∧ i = .int .i64 k ∧ (∃ A3 cp, v = .slice A3 k cp ∧ (byG xs mm k).length = k ∧ wr.ownsRow w2.heap.size 4 1 (.slice A3 k cp) k ((byG xs mm k).map Value.bool)) ∧ Below w2.heap.size w2 wr) (fun _ i _ => q - (intOf i).toNat)
    case atStart => exact ⟨0, Nat.zero_le _, rfl, ⟨none, 0, rfl, by simp [byG], by simp only [byG, List.take_zero, List.map_nil]; exact World.ownsRow_nil _ _ _ _⟩, Below.refl _ _⟩
    case round =>
      obtain ⟨k, hk, rfl, ⟨A3, cp, rfl, hlen, hown⟩, hbw2⟩ := hrel
      have O3 := Lib.hid hown
      have HL := Lib.hid hlen
      have W2 := Lib.hid hbw2
      have B3 := Lib.hid (Below.tr B2.out hbw2)
      clear hown hlen hbw2
      by_cases hlt : k < q
      · obtain ⟨i, hi⟩ : ∃ i, (inpN xs m)[k]? = some i := ⟨_, List.getElem?_eq_getElem (by rw [QN.out]; exact hlt)⟩
        have hii := inpN_lt (List.mem_of_getElem? hi)
        have hI : (inpI xs m)[k]? = some (i : Int) := by unfold inpI; rw [List.getElem?_map, hi]; rfl
        obtain ⟨b1, off1, hA2, hbl1, c1⟩ := (AL.out.below W2.out) k _ hI
        obtain ⟨bb, hbb⟩ : ∃ b, mm[i]? = some b := ⟨_, List.getElem?_eq_getElem (by rw [HY.out]; exact hii)⟩
        obtain ⟨b2, off2, hB, hbl2, c3⟩ := (hl2.out.below B3.out) i bb hbb
        subst hA2 hB
        have E2 : Hid (byG xs mm (k + 1) = byG xs mm k ++ [bb]) := Lib.hid (byG_succ (by rw [HX.out]; exact hi) hbb)
        clear hI hbb hi
        go_wp2_with (at_builtin; (refine wpList_append_lies _ rfl _ _ 49 rfl w2.heap.size 4 i0 (.bool false) 1 1 Try.underlying49 hi0 hz0 hz1 hz2 rfl (by omega) _ k _ rfl (O3.out.alloc _) ⟨wr.heap.size, 0, none⟩ 1 1 [.bool bb] rfl rfl (one_new1 wr _ _) (by intro u hu; rw [List.mem_singleton.1 hu]; rfl) (by omega) (by unfold maxLen; omega) (by omega) (by have := W2.out.size; first | omega | (simp; omega)) (wr.heap.size + 1) (by first | rfl | simp) ?_; intro g3 cap3 w4 hown3 hg3 hat3 hlt3; have H3 := Lib.hid (appB O3.out hown3 hg3 W2.out (Nat.le_refl _)); clear hown3 hg3 hat3 hlt3))
        go_roundw
        case rel => exact ⟨k + 1, by omega, by go_num, ⟨some ⟨g3, 0, none⟩, cap3, rfl, by rw [E2.out, List.length_append, HL.out]; rfl, by rw [E2.out]; exact H3.out.1⟩, H3.out.2⟩
        case measure => simp [intOf]; omega
      · obtain rfl : k = q := by omega
        have EN : Hid (nIn xs = k) := Lib.hid (by unfold nIn; rw [HX.out, QN.out])
        go_wp2
        go_ret2
        exact ⟨A3, cp, by rw [E.out.1, E.out.2, EN.out, HL.out]; rfl, by rw [E.out.1, EN.out, HL.out]; exact own_baseG O3.out B2.out.size, B3.out⟩
  · have E := Lib.hid (rInBy_no HR.out (.inr (by rw [HY.out, HX.out]; exact hqm)))
    have em : ((m : Int) != (n : Int)) = true := by simp; omega
    go_enter Try.func53, Try.ntmps53
    go_wp2_with (go_at_call 60; refine (specGoodG_any _ _ _ xs _ hl HX hn).mono ?_; rintro e w1 ⟨rfl, hb1⟩; rw [q1]; have B1 := Lib.hid hb1; clear hb1)
    go_ret2
    exact twoB_no E.out B1.out
end Go.Proofs.Ytklcfbjaodildaa
