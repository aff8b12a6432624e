/-
  Contracts of Propagate: the model's; Propagate itself, of both.
-/
import Derived.Test.YtkkoeeoalkjhoaaProp
namespace Go.Proofs.Ytkkoeeoalkjhoaa
open Go.ChangeShapes Go.WideShapes Go.ChangeAt Go.RowKit

/-- what l4Unit answers -/
def unitX : Left → Int
  | .unit x => x
  | _ => 0
def unitB : Left → Bool
  | .bad => true
  | _ => false
/-- behind j literals: what the model has counted -/
def MInv (known c : List Int) (j : Nat) (left : Int) (many : Nat) : Prop :=
  (∀ x ∈ c.take j, x ∉ known) ∧ many = (lf known (c.take j)).length ∧ left = (lf known (c.take j)).getLast?.getD 0
theorem MInv.skip {known c : List Int} {j many : Nat} {left x : Int} (h : MInv known c j left many) (hx : c[j]? = some x) (hk : -x ∈ known) (hn : x ∉ known) : MInv known c (j + 1) left many := by
  obtain ⟨h1, h2, h3⟩ := h
  have e : lf known (c.take (j + 1)) = lf known (c.take j) := by rw [lf_at known c j x hx, if_pos hk, List.append_nil]
  refine ⟨?_, by rw [e]; exact h2, by rw [e]; exact h3⟩
  rw [take_snoc hx]
  intro y hy
  simp at hy
  rcases hy with hy | rfl
  · exact h1 y hy
  · exact hn
theorem MInv.more {known c : List Int} {j many : Nat} {left x : Int} (h : MInv known c j left many) (hx : c[j]? = some x) (hk : -x ∉ known) (hn : x ∉ known) : MInv known c (j + 1) x (many + 1) := by
  obtain ⟨h1, h2, h3⟩ := h
  have e : lf known (c.take (j + 1)) = lf known (c.take j) ++ [x] := by rw [lf_at known c j x hx, if_neg hk]
  refine ⟨?_, by rw [e, List.length_append, ← h2]; rfl, by rw [e]; simp⟩
  rw [take_snoc hx]
  intro y hy
  simp at hy
  rcases hy with hy | rfl
  · exact h1 y hy
  · exact hn
theorem MInv.end0 {known c : List Int} {left : Int} (h : MInv known c c.length left 0) : unitF known c = .bad := by
  obtain ⟨h1, h2, h3⟩ := h
  rw [List.take_of_length_le (Nat.le_refl _)] at h1 h2
  exact unitF_bad' h1 (List.eq_nil_of_length_eq_zero h2.symm)
theorem MInv.end1 {known c : List Int} {left : Int} (h : MInv known c c.length left 1) : unitF known c = .unit left := by
  obtain ⟨h1, h2, h3⟩ := h
  rw [List.take_of_length_le (Nat.le_refl _)] at h1 h2 h3
  obtain ⟨u, hu⟩ := List.length_eq_one_iff.1 h2.symm
  rw [hu] at h3
  simp at h3
  rw [h3]
  exact unitF_unit' h1 hu
theorem MInv.end2 {known c : List Int} {left : Int} {many : Nat} (h : MInv known c c.length left many) (hm : 2 ≤ many) : unitF known c = .pass := by
  obtain ⟨h1, h2, h3⟩ := h
  rw [List.take_of_length_le (Nat.le_refl _)] at h2
  exact unitF_two (by omega)
set_option maxRecDepth 100000 in
set_option maxHeartbeats 4000000 in
theorem l4Unit_any (A B : Option Addr) (n m cap c2 : Nat) (c known : List Int) (w : World) (hl : Hid (ILies w A c)) (hl2 : Hid (ILies w B known)) (HX : Hid (c.length = n)) (HY : Hid (known.length = m)) (HI : Hid (In12 c)) (hn : n ≤ 1000000) (hm : m ≤ 9223372036854775807) :
    Calls Try.prog 104 #[.slice A n cap, .slice B m c2] w fun e w' => e = .returned (.tuple #[.int .i64 (unitX (unitF known c)), .bool (unitB (unitF known c))]) ∧ w = w' := by
  go_enter Try.func104, Try.ntmps104
  go_wp2_with fail
  go_loop [6, 7, 12] (fun l mm i => ∃ (j many : Nat) (left : Int), j ≤ n ∧ i = .int .i64 j ∧ l = .int .i64 left ∧ mm = .int .i64 many ∧ many ≤ j ∧ -12 ≤ left ∧ left ≤ 12 ∧ MInv known c j left many) (fun _ _ i => n - (intOf i).toNat)
  case atStart => exact ⟨0, 0, 0, Nat.zero_le _, rfl, rfl, rfl, Nat.le_refl _, by omega, by omega, by intro x hx; simp at hx, rfl, rfl⟩
  case round =>
    obtain ⟨j, many, left, hj, rfl, rfl, rfl, hmj, hl1, hl3, hi⟩ := hrel
    have HM := Lib.hid hi
    clear hi
    by_cases hjt : j < n
    · obtain ⟨x, hx⟩ : ∃ x, c[j]? = some x := ⟨_, List.getElem?_eq_getElem (by have := HX.out; omega)⟩
      obtain ⟨b2, off2, rfl, hbl2, ha2⟩ := hl.out j x hx
      have hx3 := HI.out x (List.mem_of_getElem? hx)
      have hxa : -12 ≤ x := hx3.1
      have hxb : x ≤ 12 := hx3.2
      have HXJ := Lib.hid hx
      clear hx hx3
      cases q1 : decide (x ∈ known)
      · cases q2 : decide (-x ∈ known)
        · go_wp2_with (go_at_call 101; refine (l1Has_any _ _ _ known _ _ hl2 HY hm).mono ?_; rintro e w' ⟨rfl, rfl⟩; first | rw [q1] | rw [q2])
          go_round
          case rel => exact ⟨j + 1, many + 1, x, by omega, by go_num, rfl, by go_num, by omega, hxa, hxb, HM.out.more HXJ.out (by simpa using q2) (by simpa using q1)⟩
          case measure => simp [intOf]; omega
        · go_wp2_with (go_at_call 101; refine (l1Has_any _ _ _ known _ _ hl2 HY hm).mono ?_; rintro e w' ⟨rfl, rfl⟩; first | rw [q1] | rw [q2])
          go_round
          case rel => exact ⟨j + 1, many, left, by omega, by go_num, rfl, rfl, by omega, hl1, hl3, HM.out.skip HXJ.out (by simpa using q2) (by simpa using q1)⟩
          case measure => simp [intOf]; omega
      · have E : Hid (unitF known c = .pass) := Lib.hid (unitF_known (List.mem_of_getElem? HXJ.out) (by simpa using q1))
        go_wp2_with (go_at_call 101; refine (l1Has_any _ _ _ known _ _ hl2 HY hm).mono ?_; rintro e w' ⟨rfl, rfl⟩; rw [q1])
        go_ret2
        rw [E.out]
        exact ⟨rfl, rfl⟩
    · obtain rfl : j = n := by omega
      have HM2 : Hid (MInv known c c.length left many) := Lib.hid (by rw [HX.out]; exact HM.out)
      clear HM
      by_cases h0 : many = 0
      · subst h0
        have E := Lib.hid HM2.out.end0
        go_wp2
        go_ret2
        rw [E.out]
        exact ⟨rfl, rfl⟩
      · by_cases h1 : many = 1
        · subst h1
          have E := Lib.hid HM2.out.end1
          go_wp2
          go_ret2
          rw [E.out]
          exact ⟨rfl, rfl⟩
        · have E := Lib.hid (HM2.out.end2 (by omega))
          have e0 : ((many : Int) == 0) = false := by simp; omega
          have e1 : ((many : Int) == 1) = false := by simp; omega
          go_wp2
          go_ret2
          rw [E.out]
          exact ⟨rfl, rfl⟩
def boolN : Value → Nat
  | .bool true => 1
  | _ => 0
set_option maxRecDepth 100000 in
set_option maxHeartbeats 8000000 in
theorem l4Prop_any (v : Int) (A B : Option Addr) (n m cap c2 : Nat) (L : List (List Int)) (given : List Int) (w : World) (r : List Int) (t : Bool) (HP0 : Hid (PInv v L r t given)) (hl : Hid (LLies w A L)) (hl2 : Hid (ILies w B given)) (HX : Hid (L.length = n)) (HY : Hid (given.length = m)) (HN : Hid (B = none → m = 0 ∧ c2 = 0)) (hn : n ≤ 9223372036854775807) (hm : m ≤ 1000) (hv : v ≤ 12) (LIT : Hid (∀ c ∈ L, ∀ x ∈ c, litB v x = true)) (LEN : Hid (∀ c ∈ L, c.length ≤ 1000000)) :
    Calls Try.prog 87 #[.slice A n cap, .slice B m c2] w (GaveTwo w r t) := by
  obtain ⟨i0, hi0, hz0, hz1, hz2⟩ := info_parts info_int
  have start : ∀ (w1 : World) (Q : Exit → Act → World → Prop) (ops : Array Oper) (rest : List Oper) (o : Oper) (a : Act) (s x : Operand), o.guard = none → o.op = Op.call { callee := Callee.builtin Builtin.append, args := #[s, x], argTypes := #[40, 40] } →
      a.eval s = .slice (some ⟨w.heap.size, 0, none⟩) 0 0 → a.eval x = .slice B m c2 → w1.ownsRow w.heap.size 3 1 (.slice (some ⟨w.heap.size, 0, none⟩) 0 0) 0 [] → Below w.heap.size w w1 →
      (∀ A2 cc w2, w2.ownsRow w.heap.size 3 1 (.slice A2 m cc) m (given.map (Value.int .i64)) → Below w.heap.size w w2 → wpList Try.prog ops Q rest (a.put o.dst (.slice A2 m cc)) w2) → wpList Try.prog ops Q (o :: rest) a w1 := by
    intro w1 Q ops rest o a s x hg hop hs hx ho hb hK
    by_cases hz : m = 0
    · subst hz
      have hg0 : given = [] := List.eq_nil_of_length_eq_zero HY.out
      refine wpList_append_fits_any _ hg _ _ 40 hop w.heap.size 3 i0 1 Try.underlying40 hi0 hz1 w.heap.size 0 0 [] hs ho B 0 c2 [] hx rfl (fun e => HN.out e) (fun ad _ j u hu => by simp at hu) (fun u hu => by simp at hu) (by omega) ?_
      intro w2 h2 hg2
      exact hK _ _ w2 (by rw [hg0]; exact h2) (hb.grown hg2 hb.size (fun g hgg => by cases hgg; exact Nat.le_refl _))
    · obtain ⟨y, hy⟩ : ∃ y, given[0]? = some y := ⟨_, List.getElem?_eq_getElem (by have := HY.out; omega)⟩
      obtain ⟨b1, off1, hB, _, _⟩ := hl2.out 0 y hy
      refine wpList_append_lies _ hg _ _ 40 hop w.heap.size 3 i0 (.int .i64 0) 1 8 Try.underlying40 hi0 hz0 hz1 hz2 rfl (by omega) _ 0 _ hs ho ⟨b1, off1, none⟩ m c2 (given.map (Value.int .i64)) (by rw [hx, hB]) (by simp [HY.out]) (ilies_cells (hl2.out.below hb) _ hB) (ints_oneCell _ _) (by omega) (by unfold maxLen; omega) (by omega) hb.size _ rfl ?_
      intro g cap' w2 h2 hg2 _ _
      have := hK (some ⟨g, 0, none⟩) cap' w2 (by simpa using h2) (hb.grown hg2 hb.size (fun g hgg => by cases hgg; exact Nat.le_refl _))
      rw [Nat.zero_add]
      exact this
  go_enter Try.func87, Try.ntmps87
  go_wp2_with (at_builtin; (refine start _ _ _ _ _ _ _ _ rfl rfl rfl rfl (by exact World.ownsRow_lit w #[] 0 (Nat.le_refl _) (by unfold maxLen; omega) rfl) (below1 w _) ?_; intro A2 cc w2 ho2 hb2; have O2 := Lib.hid ho2; have B2 := Lib.hid hb2; clear ho2 hb2))
  clear start
  go_loopw [6, 7] (fun l6 ag wr => ∃ (known : List Int) (A2 : Option Addr) (cc : Nat), l6 = .slice A2 known.length cc ∧ wr.ownsRow w.heap.size 3 1 (.slice A2 known.length cc) known.length (known.map (Value.int .i64)) ∧ PInv v L r t known ∧ Below w.heap.size w wr ∧ (ag = .bool true ∨ (ag = .bool false ∧ firstF known L = .pass))) (fun l6 ag _ => 2 * (100 - lenOf l6) + boolN ag)
  case atStart => exact ⟨given, A2, cc, by rw [HY.out], by rw [HY.out]; exact O2.out, HP0.out, B2.out, .inl rfl⟩
  case round =>
    obtain ⟨known, A3, c3, rfl, ho, hp, hb, hag⟩ := hrel
    clear O2 B2
    obtain ⟨q, hq⟩ : ∃ q, known.length = q := ⟨_, rfl⟩
    have hq100 : q ≤ 100 := by have := hp.len; omega
    rw [hq] at ho ⊢
    have HQ := Lib.hid hq
    have OW := Lib.hid ho
    have BW := Lib.hid hb
    have HP := Lib.hid hp
    have LW := Lib.hid (hl.out.below hb)
    have KW := Lib.hid (own_ilies ho)
    clear hq ho hb hp
    rcases hag with rfl | ⟨rfl, hf⟩
    · go_wp2_with fail
      go_loop [6, 7, 18] (fun l6 ag i => l6 = .slice A3 q c3 ∧ ag = .bool false ∧ ∃ k : Nat, k ≤ n ∧ i = .int .i64 k ∧ firstF known L = firstF known (L.drop k)) (fun _ _ i => n - (intOf i).toNat)
      case atStart => exact ⟨rfl, rfl, 0, Nat.zero_le _, rfl, rfl⟩
      case round =>
        obtain ⟨rfl, rfl, k, hk, rfl, hcl⟩ := hrel
        have HC := Lib.hid hcl
        clear hcl
        by_cases hlt : k < n
        · obtain ⟨c, hx⟩ : ∃ x, L[k]? = some x := ⟨_, List.getElem?_eq_getElem (by have := HX.out; omega)⟩
          obtain ⟨b, off, a, cp, rfl, hbl, ha, hca, hma, hil⟩ := LW.out k c hx
          have HS := Lib.hid (firstF_at known L k c hx)
          have IL := Lib.hid hil
          have HIC : Hid (In12 c) := Lib.hid (lits_in12 hv (LIT.out c (List.mem_of_getElem? hx)))
          have HIL : c.length ≤ 1000000 := LEN.out c (List.mem_of_getElem? hx)
          clear hx hil
          obtain ⟨p, hp⟩ : ∃ m, c.length = m := ⟨_, rfl⟩
          rw [hp] at ha hca hma HIL
          have HM := Lib.hid hp
          clear hp
          go_wp2_with fail
          refine (l4Unit_any _ _ _ _ _ _ c known _ IL KW HM HQ HIC HIL (by omega)).mono ?_
          rintro e w' ⟨rfl, rfl⟩
          cases hu : unitF known c with
          | pass =>
            have EF : Hid (firstF known L = firstF known (L.drop (k + 1))) := Lib.hid (by rw [HC.out, HS.out, hu])
            simp only [unitX, unitB]
            go_wp2
            go_round
            case rel => exact ⟨rfl, rfl, k + 1, by omega, by go_num, EF.out⟩
            case measure => simp [intOf]; omega
          | bad =>
            have EF : Hid (firstF known L = .bad) := Lib.hid (by rw [HC.out, HS.out, hu])
            simp only [unitX, unitB]
            go_wp2
            go_ret2
            obtain ⟨e1, e2⟩ := HP.out.bad EF.out
            subst e1 e2
            exact ⟨A3, c3, (by first | (rw [HQ.out]; done) | (rw [HQ.out]; rfl)), by rw [HQ.out]; exact OW.out, BW.out⟩
          | unit ux =>
            have EF : Hid (firstF known L = .unit ux) := Lib.hid (by rw [HC.out, HS.out, hu])
            have PN := Lib.hid (HP.out.unit EF.out hv LIT.out)
            have hux : (ux != 0) = true := by have := litB_iff.1 (PN.out.2.2.2.2 ux (by simp)); simp [this.1]
            clear hu
            simp only [unitX, unitB]
            go_wp2_with (at_builtin; (refine wpList_append_lies _ rfl _ _ 40 rfl w.heap.size 3 i0 (.int .i64 0) 1 8 Try.underlying40 hi0 hz0 hz1 hz2 rfl (by omega) _ q _ rfl (OW.out.alloc _) ⟨wr.heap.size, 0, none⟩ 1 1 [.int .i64 ux] rfl rfl (one_new1 wr _ _) (by intro u hu; rw [List.mem_singleton.1 hu]; rfl) (by omega) (by unfold maxLen; omega) (by omega) (by have := BW.out.size; first | omega | (simp; omega)) (wr.heap.size + 1) (by first | rfl | simp) ?_; intro g3 cap3 w3 hown3 hg3 hat3 hlt3; have H3 := Lib.hid (app1 OW.out hown3 hg3 BW.out (Nat.le_refl _)); clear hown3 hg3 hat3 hlt3))
            go_roundw
            case rel =>
              have hL : (known ++ [ux]).length = q + 1 := by rw [List.length_append, HQ.out]; rfl
              exact ⟨known ++ [ux], some ⟨g3, 0, none⟩, cap3, by rw [hL], by rw [hL]; exact H3.out.1, PN.out, H3.out.2, .inl rfl⟩
            case measure =>
              have h1 := PN.out.len
              have hL : (known ++ [ux]).length = q + 1 := by rw [List.length_append, HQ.out]; rfl
              simp [lenOf, boolN]; omega
        · obtain rfl : k = n := by omega
          have EF : Hid (firstF known L = .pass) := Lib.hid (by rw [HC.out, List.drop_of_length_le (by have := HX.out; omega)]; rfl)
          go_wp2
          go_roundw
          case rel => exact ⟨known, A3, c3, by rw [HQ.out], by rw [HQ.out]; exact OW.out, HP.out, BW.out, .inr ⟨rfl, EF.out⟩⟩
          case measure => simp [lenOf, boolN]
    · have EF := Lib.hid hf
      clear hf
      go_wp2
      go_ret2
      obtain ⟨e1, e2⟩ := HP.out.pass EF.out
      subst e1 e2
      exact ⟨A3, c3, (by first | (rw [HQ.out]; done) | (rw [HQ.out]; rfl)), by rw [HQ.out]; exact OW.out, BW.out⟩
end Go.Proofs.Ytkkoeeoalkjhoaa
