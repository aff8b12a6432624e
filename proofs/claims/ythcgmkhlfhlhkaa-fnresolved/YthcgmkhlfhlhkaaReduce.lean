/-
  Contracts of Reduce: the program's and the model's.
-/
import Derived.Test.YthcgmkhlfhlhkaaProp3
namespace Go.Proofs.Ythcgmkhlfhlhkaa
open Go.ChangeShapes Go.WideShapes Go.ChangeAt Go.RowKit

/-- a list of lists grows by one -/
theorem OwnSS.grow {w wr wj w3 : World} {A2 : Option Addr} {n c2 g3 cap3 : Nat} {vs : List Value} {R : List (List Int)} {o : List Int} {A3 : Option Addr} {c3 : Nat} (hn : R.length = n)
    (O : OwnSS wr w.heap.size (.slice A2 n c2) vs R) (B : Below w.heap.size w wr) (BJ : Below wr.heap.size wr wj)
    (ho : wj.ownsRow wr.heap.size 3 1 (.slice A3 o.length c3) o.length (o.map (Value.int .i64)))
    (hown3 : w3.ownsRow w.heap.size 24 1 (.slice (some ⟨g3, 0, none⟩) (n + 1) cap3) (n + 1) (vs ++ [.slice A3 o.length c3]))
    (hg3 : (wj.alloc (.cells #[.slice A3 o.length c3] 24)).grownBy w3 (Value.slice A2 n c2).ownBlock)
    (hat : (Value.slice A2 n c2).ownBlock = some g3 ∨ g3 = wj.heap.size + 1) :
    OwnSS w3 w.heap.size (.slice (some ⟨g3, 0, none⟩) (n + 1) cap3) (vs ++ [.slice A3 o.length c3]) (R ++ [o]) ∧ Below w.heap.size w w3 := by
  have hlt : ∀ g, (Value.slice A2 n c2).ownBlock = some g → w.heap.size ≤ g ∧ g < wr.heap.size := fun g h => O.outer.lt g h
  have hka := below1 wj (.cells #[.slice A3 o.length c3] 24)
  have hk : Kept (wj.alloc (.cells #[.slice A3 o.length c3] 24)) w3 (fun g => (Value.slice A2 n c2).ownBlock = some g) := Kept.of_grown hg3 (fun g h => h)
  have hsz := BJ.size
  have hin : Inner w3 w.heap.size vs R := (((O.inner.below BJ).below hka).kept hk (fun g h q => O.off g h q))
  have hbo : ∀ g, (Value.slice A3 o.length c3).ownBlock = some g → wr.heap.size ≤ g ∧ g < wj.heap.size := fun g h => ho.lt g h
  have hno : w3.ownsRow w.heap.size 3 1 (.slice A3 o.length c3) o.length (o.map (Value.int .i64)) :=
    own_base (hk.own (own_below ho hka) (fun g h q => by have := hbo g h; have := hlt g q; omega)) B.size
  have hin2 : Inner w3 w.heap.size (vs ++ [.slice A3 o.length c3]) (R ++ [o]) := hin.snoc (b := wr.heap.size) hno (fun g h => (O.inner.lt g h).2) (fun g h => (hbo g h).1)
  refine ⟨⟨?_, hin2, ?_⟩, ?_⟩
  · rw [List.length_append, hn]
    exact hown3
  · intro g hg e
    have e' : g = g3 := by simp [Value.ownBlock] at e; exact e.symm
    subst e'
    obtain ⟨i, x, hx, hxb⟩ := hg
    by_cases hi : i < vs.length
    · rw [List.getElem?_append_left hi] at hx
      rcases hat with h | h
      · exact O.off g ⟨i, x, hx, hxb⟩ h
      · have := (O.inner.lt g ⟨i, x, hx, hxb⟩).2; omega
    · rw [List.getElem?_append_right (by omega)] at hx
      have hi1 : i - vs.length < 1 := by have := (List.getElem?_eq_some_iff.1 hx).1; simpa using this
      rw [show i - vs.length = 0 by omega] at hx
      simp at hx
      subst hx
      have h1 := hbo g hxb
      rcases hat with h | h
      · have := hlt g h; omega
      · omega
  · exact (Below.tr (Below.tr B (BJ.mono (Nat.le_refl _))) hka).grown hg3 (by have := B.size; simp; omega) (fun g h => (hlt g h).1)
theorem OwnSS.nil (w : World) (base : Nat) : OwnSS w base (.slice none 0 0) [] [] := ⟨World.ownsRow_nil _ _ _ _, Inner.nil _ _, fun g h => by obtain ⟨i, x, hx, _⟩ := h; simp at hx⟩
theorem reduceL_at (known : List Int) (L : List (List Int)) (k : Nat) (c : List Int) (h : L[k]? = some c) :
    reduceL known (L.take (k + 1)) = reduceL known (L.take k) ++ (if (c.any fun x => known.contains x) then [] else [lf known c]) := by
  have hlt : k < L.length := (List.getElem?_eq_some_iff.1 h).1
  have e : L[k] = c := (List.getElem?_eq_some_iff.1 h).2
  unfold reduceL
  rw [List.take_succ_eq_append_getElem hlt, List.filter_append, List.map_append, e]
  congr 1
  cases q : (c.any fun x => known.contains x)
  · rw [List.filter_cons, if_pos (by rw [q]; rfl)]
    rfl
  · rw [List.filter_cons, if_neg (by rw [q]; simp)]
    rfl
theorem tot_snoc (R : List (List Int)) (o : List Int) : tot (R ++ [o]) = tot R + o.length := by simp [tot]
theorem lf_len (known c : List Int) : (lf known c).length ≤ c.length := List.length_filter_le _ _
/-- it answers a slice of slices of its own, and a bool -/
def GaveSS (w : World) (R : List (List Int)) (b : Bool) (e : Ending) (w' : World) : Prop :=
  ∃ A c vs, e = .returned (.tuple #[.slice A R.length c, .bool b]) ∧ OwnSS w' w.heap.size (.slice A R.length c) vs R ∧ Below w.heap.size w w'
/-- what Reduce answers -/
def RedR (v : Int) (L : List (List Int)) (given : List Int) (R : List (List Int)) (ok : Bool) : Prop :=
  ok = (goodB v L && clauseB v given) ∧ R = (if ok then reduceL given L else [])
theorem red_len (known : List Int) (L : List (List Int)) : (reduceL known L).length ≤ L.length := by
  unfold reduceL
  rw [List.length_map]
  exact List.length_filter_le _ _
theorem red_tot (known : List Int) (L : List (List Int)) (h : ∀ c ∈ L, c.length ≤ 12) : tot (reduceL known L) ≤ 12 * L.length := by
  induction L with
  | nil => simp [reduceL, tot]
  | cons c t ih =>
    have := ih (fun d hd => h d (by simp [hd]))
    have hc := h c (by simp)
    have hl := lf_len known c
    unfold reduceL at this ⊢
    rw [List.filter_cons]
    split
    · rw [List.map_cons]
      have e : ∀ (a : List Int) (T : List (List Int)), tot (a :: T) = a.length + tot T := fun a T => by simp [tot]
      rw [e, List.length_cons]
      unfold lf at hl
      omega
    · rw [List.length_cons]
      omega
theorem RedR.small {v : Int} {L : List (List Int)} {given : List Int} {R : List (List Int)} {ok : Bool} (h : RedR v L given R ok) : R.length ≤ 1000 ∧ tot R ≤ 1000 := by
  obtain ⟨h1, h2⟩ := h
  cases ok
  · subst h2; simp [tot]
  · have hg : goodB v L = true := by cases hh : goodB v L <;> simp [hh] at h1 ⊢
    have h3 := goodB_len hg
    subst h2
    have h4 := red_len given L
    have h5 := red_tot given L (fun c hc => clauseB_len (goodB_cl hg c hc))
    simp
    omega
theorem notin_snoc {known c : List Int} {j : Nat} {x : Int} (h : ∀ y ∈ c.take j, y ∉ known) (hx : c[j]? = some x) (hn : x ∉ known) : ∀ y ∈ c.take (j + 1), y ∉ known := by
  rw [take_snoc hx]
  intro y hy
  simp at hy
  rcases hy with hy | rfl
  · exact h y hy
  · exact hn
theorem any_yes {known c : List Int} {x : Int} (hx : x ∈ c) (hk : x ∈ known) : (c.any fun x => known.contains x) = true := by
  rw [List.any_eq_true]
  exact ⟨x, hx, by simpa using hk⟩

set_option maxRecDepth 100000 in
set_option maxHeartbeats 8000000 in
theorem implReduce_any (v : Int) (A B : Option Addr) (n m cap c2 : Nat) (L : List (List Int)) (given : List Int) (w : World) (R : List (List Int)) (ok : Bool) (hr : Hid (RedR v L given R ok)) (hl : Hid (LLies w A L)) (hl2 : Hid (ILies w B given)) (HX : Hid (L.length = n)) (HY : Hid (given.length = m)) (hn : n ≤ 9223372036854775807) (hm : m ≤ 9223372036854775807) :
    Calls Try.prog 18 #[.int .i64 v, .slice A n cap, .slice B m c2] w (GaveSS w R ok) := by
  obtain ⟨i0, hi0, hz0, hz1, hz2⟩ := info_parts info_int
  obtain ⟨iS, hiS, hs0, hs1, hs2⟩ := info_parts info_ints
  cases q1 : goodB v L
  · have E : Hid (R = [] ∧ ok = false) := Lib.hid (by have := hr.out; unfold RedR at this; rw [q1] at this; obtain ⟨rfl, rfl⟩ := this; simp)
    go_enter Try.func18, Try.ntmps18
    go_wp2_with fail
    go_step3
    go_wp2_with (go_at_call 16; refine (implGoodC_any _ _ _ _ L _ hl HX hn).mono ?_; rintro e w' ⟨rfl, rfl⟩; rw [q1])
    try rw [Exit.noGoto_ret]
    go_ret2
    obtain ⟨rfl, rfl⟩ := E.out
    exact ⟨none, 0, [], rfl, OwnSS.nil _ _, Below.refl _ _⟩
  have hv := goodB_v q1
  have hv1 : 0 ≤ v := hv.1
  have hv2 : v ≤ 12 := hv.2
  clear hv
  cases q2 : clauseB v given
  · have E : Hid (R = [] ∧ ok = false) := Lib.hid (by have := hr.out; unfold RedR at this; rw [q1, q2] at this; obtain ⟨rfl, rfl⟩ := this; simp)
    go_enter Try.func18, Try.ntmps18
    go_wp2_with fail
    go_step3
    go_wp2_with (first
      | (go_at_call 16; refine (implGoodC_any _ _ _ _ L _ hl HX hn).mono ?_; rintro e w' ⟨rfl, rfl⟩; rw [q1])
      | (go_at_call 51; refine (isClause_any _ _ _ _ given _ hl2 HY hm hv1 hv2).mono ?_; rintro e w' ⟨rfl, rfl⟩; rw [q2]))
    try rw [Exit.noGoto_ret]
    go_ret2
    obtain ⟨rfl, rfl⟩ := E.out
    exact ⟨none, 0, [], rfl, OwnSS.nil _ _, Below.refl _ _⟩
  have hm12 : m ≤ 12 := by have := clauseB_len q2; have := HY.out; omega
  have hn60 : n ≤ 60 := by have := goodB_len q1; have := HX.out; omega
  have E : Hid (R = reduceL given L ∧ ok = true) := Lib.hid (by have := hr.out; unfold RedR at this; rw [q1, q2] at this; obtain ⟨rfl, rfl⟩ := this; simp)
  have HK : Hid (In12 given) := Lib.hid (lits_in12 hv2 (clauseB_lits q2))
  have HI := Lib.hid (goodB_in12 q1)
  have HLE : Hid (∀ c ∈ L, c.length ≤ 12) := Lib.hid (fun c hc => clauseB_len (goodB_cl q1 c hc))
  go_enter Try.func18, Try.ntmps18
  go_wp2_with fail
  go_step3
  go_wp2_with (first
    | (go_at_call 16; refine (implGoodC_any _ _ _ _ L _ hl HX hn).mono ?_; rintro e w' ⟨rfl, rfl⟩; rw [q1])
    | (go_at_call 51; refine (isClause_any _ _ _ _ given _ hl2 HY hm hv1 hv2).mono ?_; rintro e w' ⟨rfl, rfl⟩; rw [q2])
    | (go_at_call 57; refine (setOf_any _ _ _ given _ hl2 HY HK (by omega)).mono ?_; rintro e w' ⟨rfl, rfl⟩))
  clear q1 q2
  go_step3
  go_wp2_with fail
  go_loopw [9, 29] (fun u i wr => ∃ (k : Nat) (R : List (List Int)), k ≤ n ∧ i = .int .i64 k ∧ R = reduceL given (L.take k) ∧ R.length ≤ k ∧ (∃ A2 c2 vs, u = .slice A2 R.length c2 ∧ OwnSS wr w.heap.size (.slice A2 R.length c2) vs R) ∧ Below w.heap.size w wr) (fun _ i _ => n - (intOf i).toNat)
  case atStart => exact ⟨0, [], Nat.zero_le _, rfl, by simp [reduceL], Nat.le_refl _, ⟨none, 0, [], rfl, OwnSS.nil _ _⟩, Below.refl _ _⟩
  case round =>
    obtain ⟨k, S, hk, rfl, hS, hSk, ⟨A2, d2, vs, rfl, hown⟩, hbw⟩ := hrel
    obtain ⟨wo, hwo⟩ : ∃ x, x = wr := ⟨_, rfl⟩
    subst hwo
    obtain ⟨p, hp⟩ : ∃ p, S.length = p := ⟨_, rfl⟩
    rw [hp] at hSk hown ⊢
    have HP := Lib.hid hp
    have HS := Lib.hid hS
    have OW := Lib.hid hown
    have BW := Lib.hid hbw
    have LW := Lib.hid (hl.out.below hbw)
    clear hp hS hown hbw
    by_cases hlt : k < n
    · obtain ⟨c, hx⟩ : ∃ x, L[k]? = some x := ⟨_, List.getElem?_eq_getElem (by have := HX.out; omega)⟩
      obtain ⟨b, off, a, cp, rfl, hbl, ha, hca, hma, hil⟩ := LW.out k c hx
      have HRA := Lib.hid (reduceL_at given L k c hx)
      have IL := Lib.hid hil
      have HIC := Lib.hid (HI.out c (List.mem_of_getElem? hx))
      have HCL : c.length ≤ 12 := HLE.out c (List.mem_of_getElem? hx)
      clear hx hil
      obtain ⟨z, hz⟩ : ∃ m, c.length = m := ⟨_, rfl⟩
      rw [hz] at ha hca hma HCL
      have HM := Lib.hid hz
      clear hz
      go_wp2_with fail
      go_loopw [12, 36] (fun u i wj => ∃ (j : Nat) (o : List Int), j ≤ z ∧ i = .int .i64 j ∧ o = lf given (c.take j) ∧ o.length ≤ j ∧ (∀ y ∈ c.take j, y ∉ given) ∧ (∃ A3 c3, u = .slice A3 o.length c3 ∧ wj.ownsRow wo.heap.size 3 1 (.slice A3 o.length c3) o.length (o.map (Value.int .i64))) ∧ Below wo.heap.size wo wj) (fun _ i _ => z - (intOf i).toNat)
      case atStart => exact ⟨0, [], Nat.zero_le _, rfl, rfl, Nat.le_refl _, by intro y hy; simp at hy, ⟨some ⟨wo.heap.size, 0, none⟩, 0, rfl, by exact World.ownsRow_lit wo #[] 0 (Nat.le_refl _) (by unfold maxLen; omega) rfl⟩, below1 wo _⟩
      case round =>
        obtain ⟨j, o, hj, rfl, ho, hoj, hno, ⟨A3, c3, rfl, hown3⟩, hbj⟩ := hrel
        obtain ⟨q, hq⟩ : ∃ m, o.length = m := ⟨_, rfl⟩
        rw [hq] at hoj hown3 ⊢
        have HQ := Lib.hid hq
        have HO := Lib.hid ho
        have HNO := Lib.hid hno
        have O3 := Lib.hid hown3
        have B3 := Lib.hid hbj
        have ILJ := Lib.hid (IL.out.below hbj)
        clear hq ho hno hown3 hbj
        by_cases hjt : j < z
        · obtain ⟨x, hx⟩ : ∃ x, c[j]? = some x := ⟨_, List.getElem?_eq_getElem (by have := HM.out; omega)⟩
          obtain ⟨b2, off2, rfl, hbl2, ha2⟩ := ILJ.out j x hx
          have hxr := HIC.out x (List.mem_of_getElem? hx)
          have hxa : -12 ≤ x := hxr.1
          have hxb : x ≤ 12 := hxr.2
          have HLF := Lib.hid (lf_at given c j x hx)
          have HXJ := Lib.hid hx
          clear hx hxr
          cases q1 : decide (x ∈ given)
          · cases q2 : decide (-x ∈ given)
            · go_wp2_with (first
                | (at_builtin; (refine wpList_append_lies _ rfl _ _ 24 rfl wo.heap.size 3 i0 (.int .i64 0) 1 8 Try.underlying24 hi0 hz0 hz1 hz2 rfl (by omega) _ q _ rfl (O3.out.alloc _) ⟨wr.heap.size, 0, none⟩ 1 1 [.int .i64 x] rfl rfl (one_new1 wr _ _) (by intro u hu; rw [List.mem_singleton.1 hu]; rfl) (by omega) (by unfold maxLen; omega) (by omega) (by have := B3.out.size; first | omega | (simp; omega)) (wr.heap.size + 1) (by first | rfl | simp) ?_; intro g4 cap4 w4 hown4 hg4 hat4 hlt4; have H4 := Lib.hid (app1 O3.out hown4 hg4 B3.out (Nat.le_refl _)); clear hown4 hg4 hat4 hlt4))
                | (go_at_call 58; refine (has_any _ _ _ HK (by omega) (by omega)).mono ?_; rintro e w' ⟨rfl, rfl⟩; first | rw [q1] | rw [q2]))
              go_roundw
              case rel => exact ⟨j + 1, o ++ [x], by omega, by go_num, by rw [HLF.out, if_neg (by simpa using q2), HO.out], by have := HQ.out; simp; omega, notin_snoc HNO.out HXJ.out (by simpa using q1), acc_snoc HQ.out H4.out.1, H4.out.2⟩
              case measure => simp [intOf]; omega
            · go_wp2_with (go_at_call 58; refine (has_any _ _ _ HK (by omega) (by omega)).mono ?_; rintro e w' ⟨rfl, rfl⟩; first | rw [q1] | rw [q2])
              go_roundw
              case rel => exact ⟨j + 1, o, by omega, by go_num, by rw [HLF.out, if_pos (by simpa using q2), HO.out, List.append_nil], by have := HQ.out; omega, notin_snoc HNO.out HXJ.out (by simpa using q1), acc_same HQ.out O3.out, B3.out⟩
              case measure => simp [intOf]; omega
          · have EF := Lib.hid (any_yes (List.mem_of_getElem? HXJ.out) (by simpa using q1))
            go_wp2_with (go_at_call 58; refine (has_any _ _ _ HK (by omega) (by omega)).mono ?_; rintro e w' ⟨rfl, rfl⟩; rw [q1])
            go_roundw
            case rel => exact ⟨k + 1, S, by omega, by go_num, by rw [HRA.out, EF.out, HS.out]; simp, by have := HP.out; omega, ⟨A2, d2, vs, by rw [HP.out], by rw [HP.out]; exact OW.out.below B3.out⟩, Below.tr BW.out B3.out⟩
            case measure => simp [intOf]; omega
        · obtain rfl : j = z := by omega
          have EL : Hid (o = lf given c) := Lib.hid (by rw [HO.out, List.take_of_length_le (by have := HM.out; omega)])
          have EA : Hid ((c.any fun x => given.contains x) = false) := Lib.hid (any_known (by have := HNO.out; rw [List.take_of_length_le (by have := HM.out; omega)] at this; exact this))
          have OU : Hid (wr.ownsRow w.heap.size 24 1 (.slice A2 p d2) p vs) := Lib.hid (by have h := own_below OW.out.outer B3.out; rw [HP.out] at h; exact h)
          go_wp2_with (at_builtin; (refine wpList_append_lies _ rfl _ _ 23 rfl w.heap.size 24 iS (.slice none 0 0) 1 24 Try.underlying23 hiS hs0 hs1 hs2 rfl (by omega) _ p _ rfl (OU.out.alloc _) ⟨wr.heap.size, 0, none⟩ 1 1 [.slice A3 q c3] rfl rfl (one_new1 wr _ _) (by intro u hu; rw [List.mem_singleton.1 hu]; rfl) (by omega) (by unfold maxLen; omega) (by omega) (by have := B3.out.size; have := BW.out.size; first | omega | (simp; omega)) (wr.heap.size + 1) (by first | rfl | simp) ?_; intro g4 cap4 w4 hown4 hg4 hat4 hlt4; have H4 := Lib.hid (OwnSS.grow (o := o) (c3 := c3) (A3 := A3) HP.out OW.out BW.out B3.out (by rw [HQ.out]; exact O3.out) (by rw [HQ.out]; exact hown4) (by rw [HQ.out]; exact hg4) hat4); clear hown4 hg4 hat4 hlt4))
          go_roundw
          case rel => exact ⟨k + 1, S ++ [o], by omega, by go_num, by rw [HRA.out, EA.out, HS.out, EL.out]; simp, by have := HP.out; simp; omega, ⟨some ⟨g4, 0, none⟩, cap4, _, by rw [List.length_append, HP.out, List.length_singleton], by rw [List.length_append, HP.out]; exact H4.out.1⟩, H4.out.2⟩
          case measure => simp [intOf]; omega
    · obtain rfl : k = n := by omega
      have EL : Hid (reduceL given L = S) := Lib.hid (by rw [HS.out, List.take_of_length_le (by have := HX.out; omega)])
      go_wp2
      try rw [Exit.noGoto_ret]
      go_ret2
      obtain ⟨rfl, rfl⟩ := E.out
      rw [EL.out]
      exact ⟨A2, d2, vs, (by first | (rw [HP.out]; done) | (rw [HP.out]; rfl)), by rw [HP.out]; exact OW.out, BW.out⟩
end Go.Proofs.Ythcgmkhlfhlhkaa
