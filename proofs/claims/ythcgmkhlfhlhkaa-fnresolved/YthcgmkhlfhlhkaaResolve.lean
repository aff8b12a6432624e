/-
  Contracts of Resolve: the program's and the model's.
-/
import Derived.Test.YthcgmkhlfhlhkaaClean
namespace Go.Proofs.Ythcgmkhlfhlhkaa
open Go.ChangeShapes Go.WideShapes Go.ChangeAt Go.RowKit

set_option maxRecDepth 100000 in
set_option maxHeartbeats 1000000 in
theorem index_any (A : Option Addr) (n cap : Nat) (l : List Int) (y : Int) (w : World) (hl : Hid (ILies w A l)) (HX : Hid (l.length = n)) (hn : n ≤ 9223372036854775807) :
    Calls Try.prog 84 #[.slice A n cap, .int .i64 y] w fun e w' => (∃ q : Int, e = .returned (.int .i64 q) ∧ decide (0 ≤ q) = decide (y ∈ l)) ∧ w = w' := by
  go_enter Try.func84, Try.ntmps84
  go_wp2_with fail
  go_loop [8] (fun i => ∃ k : Nat, k ≤ n ∧ i = .int .i64 k ∧ y ∉ l.take k) (fun i => n - (intOf i).toNat)
  case atStart => exact ⟨0, Nat.zero_le _, rfl, by simp⟩
  case round =>
    obtain ⟨k, hk, rfl, hnot⟩ := hrel
    have HN := Lib.hid hnot
    clear hnot
    by_cases hlt : k < n
    · obtain ⟨x, hx⟩ : ∃ x, l[k]? = some x := ⟨_, List.getElem?_eq_getElem (by have := HX.out; omega)⟩
      obtain ⟨b, off, rfl, hbl, ha⟩ := hl.out k x hx
      have HT := Lib.hid (take_snoc hx)
      have HM := Lib.hid (List.mem_of_getElem? hx)
      clear hx
      cases q : (y == x)
      · go_wp2
        go_round
        case rel => exact ⟨k + 1, by omega, by go_num, by rw [HT.out]; simp at q; simp; exact ⟨HN.out, q⟩⟩
        case measure => simp [intOf]; omega
      · have E : Hid (decide (y ∈ l) = true) := Lib.hid (by simp at q; subst q; simpa using HM.out)
        go_wp2
        go_ret
        exact ⟨⟨_, rfl, by have h := E.out; simp at h; simp [h]⟩, rfl⟩
    · obtain rfl : k = n := by omega
      have E : Hid (decide (y ∈ l) = false) := Lib.hid (by have := HN.out; rw [List.take_of_length_le (by have := HX.out; omega)] at this; simpa using this)
      go_wp2
      go_ret
      exact ⟨⟨_, rfl, by have h := E.out; simp at h; simp [h]⟩, rfl⟩
set_option maxRecDepth 100000 in
set_option maxHeartbeats 400000 in
theorem contains_any (A : Option Addr) (n cap : Nat) (l : List Int) (y : Int) (w : World) (hl : Hid (ILies w A l)) (HX : Hid (l.length = n)) (hn : n ≤ 9223372036854775807) :
    Calls Try.prog 64 #[.slice A n cap, .int .i64 y] w fun e w' => e = .returned (.bool (decide (y ∈ l))) ∧ w = w' := by
  go_enter Try.func64, Try.ntmps64
  go_wp2_with (go_at_call 84; refine (index_any _ _ _ l _ _ hl HX hn).mono ?_; rintro e w' ⟨⟨q, rfl, hq⟩, rfl⟩; have HQ := Lib.hid hq; clear hq)
  go_ret
  exact ⟨ret_bool HQ.out, rfl⟩

/-- an append of nothing -/
theorem wpList_append_nil {P : Program} (w : World) {ops : Array Oper} {rest : List Oper} {o : Oper} {a : Act} {Q : Exit → Act → World → Prop}
    (hg : o.guard = none) (s x : Operand) (t : TypeId) (hop : o.op = Op.call { callee := Callee.builtin Builtin.append, args := #[s, x], argTypes := #[t, t] })
    (base : Nat) (e : TypeId) (i : TypeInfo) (size : Nat) (h1 : P.underlying t = some (.slice e)) (h2 : P.info? e = some i)
    (v : Value) (n : Nat) (xs : List Value) (hs : a.eval s = v) (hown : w.ownsRow base e size v n xs) (hx : a.eval x = .slice none 0 0)
    (hK : wpList P ops Q rest (a.put o.dst v) w) :
    wpList P ops Q (o :: rest) a w := by
  refine wpList_plain hg fun K hK' => ?_
  have hrun := run_append_owned_none (P := P) w base t o.type e i size h1 h2 v n xs hown
  unfold Oper.wp
  simp [execOp, hop, resolve, invoke, builtin, hs, hx, hrun, Result.andThen]
  exact hK' _ _ hK

/-- it answers a slice of ints of its own, nil where it is empty -/
def GaveNil (w : World) (l : List Int) (e : Ending) (w' : World) : Prop :=
  ∃ A c, e = .returned (.slice A l.length c) ∧ w'.ownsRow w.heap.size 3 1 (.slice A l.length c) l.length (l.map (Value.int .i64)) ∧ (l = [] → A = none ∧ c = 0) ∧ Below w.heap.size w w'
set_option maxRecDepth 100000 in
set_option maxHeartbeats 2000000 in
theorem without_any (A : Option Addr) (n cap : Nat) (l : List Int) (y : Int) (w : World) (hl : Hid (ILies w A l)) (HX : Hid (l.length = n)) (hn : n ≤ 1048576) :
    Calls Try.prog 66 #[.slice A n cap, .int .i64 y] w (GaveNil w (l.filter (fun x => x != y))) := by
  obtain ⟨i0, hi0, hz0, hz1, hz2⟩ := info_parts info_int
  go_enter Try.func66, Try.ntmps66
  go_wp2_with fail
  go_loopw [5, 10] (fun v i wr => ∃ (k : Nat) (o : List Int), k ≤ n ∧ i = .int .i64 k ∧ o = (l.take k).filter (fun x => x != y) ∧ o.length ≤ k ∧ (∃ A2 c2, v = .slice A2 o.length c2 ∧ wr.ownsRow w.heap.size 3 1 (.slice A2 o.length c2) o.length (o.map (Value.int .i64)) ∧ (o = [] → A2 = none ∧ c2 = 0)) ∧ Below w.heap.size w wr) (fun _ i _ => n - (intOf i).toNat)
  case atStart => exact ⟨0, [], Nat.zero_le _, rfl, by simp, Nat.le_refl _, ⟨none, 0, rfl, World.ownsRow_nil _ _ _ _, fun _ => ⟨rfl, rfl⟩⟩, Below.refl _ _⟩
  case round =>
    obtain ⟨k, o, hk, rfl, ho, hok, ⟨A2, c2, rfl, hown, hnil⟩, hbw⟩ := hrel
    obtain ⟨m, hm⟩ : ∃ m, o.length = m := ⟨_, rfl⟩
    rw [hm] at hok hown ⊢
    have HM := Lib.hid hm
    have HO := Lib.hid ho
    have O2 := Lib.hid hown
    have B2 := Lib.hid hbw
    have N2 := Lib.hid hnil
    clear hm ho hown hbw hnil
    by_cases hlt : k < n
    · obtain ⟨x, hx⟩ : ∃ x, l[k]? = some x := ⟨_, List.getElem?_eq_getElem (by have := HX.out; omega)⟩
      obtain ⟨b1, off, rfl, hbl, ha⟩ := (hl.out.below B2.out) k x hx
      have HS := Lib.hid (filter_at (fun x => x != y) l k x hx)
      clear hx
      cases q1 : (x != y)
      · go_wp2
        go_roundw
        case rel => exact ⟨k + 1, o, by omega, by go_num, by rw [HS.out, q1, HO.out]; simp, by have := HM.out; omega, ⟨_, _, by rw [HM.out], by rw [HM.out]; exact O2.out, N2.out⟩, B2.out⟩
        case measure => simp [intOf]; omega
      · go_wp2_with (at_builtin; (refine wpList_append_lies _ rfl _ _ 24 rfl w.heap.size 3 i0 (.int .i64 0) 1 8 Try.underlying24 hi0 hz0 hz1 hz2 rfl (by omega) _ m _ rfl (O2.out.alloc _) ⟨wr.heap.size, 0, none⟩ 1 1 [.int .i64 x] rfl rfl (one_new1 wr _ _) (by intro u hu; rw [List.mem_singleton.1 hu]; rfl) (by omega) (by unfold maxLen; omega) (by omega) (by have := B2.out.size; first | omega | (simp; omega)) (wr.heap.size + 1) (by first | rfl | simp) ?_; intro g3 cap3 w3 hown3 hg3 hat3 hlt3; have H3 := Lib.hid (app1 O2.out hown3 hg3 B2.out (Nat.le_refl _)); clear hown3 hg3 hat3 hlt3))
        go_roundw
        case rel => exact ⟨k + 1, o ++ [x], by omega, by go_num, by rw [HS.out, q1, HO.out]; simp, by have := HM.out; simp; omega, ⟨some ⟨g3, 0, none⟩, cap3, by rw [List.length_append, HM.out, List.length_singleton], by rw [List.length_append, HM.out]; exact H3.out.1, fun e => by simp at e⟩, H3.out.2⟩
        case measure => simp [intOf]; omega
    · obtain rfl : k = n := by omega
      have E : Hid (l.filter (fun x => x != y) = o) := Lib.hid (by rw [HO.out, List.take_of_length_le (by have := HX.out; omega)])
      go_wp2
      go_ret
      rw [E.out]
      exact ⟨A2, c2, by rw [HM.out]; rfl, by rw [HM.out]; exact O2.out, N2.out, B2.out⟩
theorem resB_no {a b : List Int} {v : Int} (h : ¬ (clauseB 12 a = true ∧ clauseB 12 b = true ∧ 1 ≤ v ∧ v ≤ 12 ∧ v ∈ a ∧ -v ∈ b)) : resB a b v = none := by unfold resB; rw [if_neg h]
theorem resB_yes {a b : List Int} {v : Int} (h : clauseB 12 a = true ∧ clauseB 12 b = true ∧ 1 ≤ v ∧ v ≤ 12 ∧ v ∈ a ∧ -v ∈ b) : resB a b v = cleanF [] (resAll a b v) := by unfold resB; rw [if_pos h]
theorem resB_len {a b r : List Int} {v : Int} {t : Bool} (h : Opt (resB a b v) r t) : r.length ≤ 1000 := by
  cases t
  · rw [(h.2 rfl).2]; simp
  · have e := h.1 rfl
    unfold resB at e
    split at e
    · rename_i q
      have h1 := cleanF_len e
      have h2 := (resAll_clean (v := v) q.1 q.2.1).1
      simp only [List.length_nil] at h1
      omega
    · simp at e
/-- rows above stay -/
theorem GaveTwo.under {w w1 : World} {r : List Int} {b : Bool} {e : Ending} {w' : World} (h : GaveTwo w1 r b e w') (hb : Below w.heap.size w w1) : GaveTwo w r b e w' := by
  obtain ⟨A, c, rfl, ho, hw⟩ := h
  exact ⟨A, c, rfl, own_base ho hb.size, Below.tr hb hw⟩

set_option maxRecDepth 100000 in
set_option maxHeartbeats 4000000 in
theorem implResolve_any (A B : Option Addr) (n m c1 c2 : Nat) (a b : List Int) (v : Int) (w : World) (r : List Int) (t : Bool) (hr : Hid (Opt (resB a b v) r t)) (hl : Hid (ILies w A a)) (hl2 : Hid (ILies w B b)) (HX : Hid (a.length = n)) (HY : Hid (b.length = m)) (hn : n ≤ 9223372036854775807) (hm : m ≤ 9223372036854775807) :
    Calls Try.prog 26 #[.slice A n c1, .slice B m c2, .int .i64 v] w (GaveTwo w r t) := by
  obtain ⟨i0, hi0, hz0, hz1, hz2⟩ := info_parts info_int
  cases q1 : clauseB 12 a
  · have E := Lib.hid (resB_no (a := a) (b := b) (v := v) (by rw [q1]; simp))
    go_enter Try.func26, Try.ntmps26
    go_wp2_with (go_at_call 51; refine (isClause_any _ _ _ _ a _ hl HX hn (by omega) (by omega)).mono ?_; rintro e w' ⟨rfl, rfl⟩; rw [q1])
    go_ret2
    exact two_none hr.out E.out (Below.refl _ _)
  cases q2 : clauseB 12 b
  · have E := Lib.hid (resB_no (a := a) (b := b) (v := v) (by rw [q2]; simp))
    go_enter Try.func26, Try.ntmps26
    go_wp2_with fail
    refine (isClause_any _ _ _ _ a _ hl HX hn (by omega) (by omega)).mono ?_
    rintro e w' ⟨rfl, rfl⟩
    rw [q1]
    go_wp2_with (go_at_call 51; refine (isClause_any _ _ _ _ b _ hl2 HY hm (by omega) (by omega)).mono ?_; rintro e w' ⟨rfl, rfl⟩; rw [q2])
    go_ret2
    exact two_none hr.out E.out (Below.refl _ _)
  have hna : n ≤ 12 := by have := clauseB_len q1; have := HX.out; omega
  have hmb : m ≤ 12 := by have := clauseB_len q2; have := HY.out; omega
  by_cases h1 : 1 ≤ v
  · cases q3 : decide (v ∈ a)
    · have E := Lib.hid (resB_no (a := a) (b := b) (v := v) (by simp at q3; simp [q3]))
      go_enter Try.func26, Try.ntmps26
      go_wp2_with fail
      refine (isClause_any _ _ _ _ a _ hl HX hn (by omega) (by omega)).mono ?_
      rintro e w' ⟨rfl, rfl⟩
      rw [q1]
      go_wp2_with fail
      refine (isClause_any _ _ _ _ b _ hl2 HY hm (by omega) (by omega)).mono ?_
      rintro e w' ⟨rfl, rfl⟩
      rw [q2]
      go_wp2_with (go_at_call 64; refine (contains_any _ _ _ a _ _ hl HX hn).mono ?_; rintro e w' ⟨rfl, rfl⟩; rw [q3])
      go_ret2
      exact two_none hr.out E.out (Below.refl _ _)
    · have hv12 : v ≤ 12 := by have := litB_iff.1 (clauseB_lits q1 v (by simpa using q3)); omega
      cases q4 : decide (-v ∈ b)
      · have E := Lib.hid (resB_no (a := a) (b := b) (v := v) (by simp at q4; simp [q4]))
        go_enter Try.func26, Try.ntmps26
        go_wp2_with fail
        refine (isClause_any _ _ _ _ a _ hl HX hn (by omega) (by omega)).mono ?_
        rintro e w' ⟨rfl, rfl⟩
        rw [q1]
        go_wp2_with fail
        refine (isClause_any _ _ _ _ b _ hl2 HY hm (by omega) (by omega)).mono ?_
        rintro e w' ⟨rfl, rfl⟩
        rw [q2]
        go_wp2_with fail
        refine (contains_any _ _ _ a _ _ hl HX hn).mono ?_
        rintro e w' ⟨rfl, rfl⟩
        rw [q3]
        go_wp2_with (go_at_call 64; refine (contains_any _ _ _ b _ _ hl2 HY hm).mono ?_; rintro e w' ⟨rfl, rfl⟩; rw [q4])
        go_ret2
        exact two_none hr.out E.out (Below.refl _ _)
      · have HRC := Lib.hid (resAll_clean (a := a) (b := b) (v := v) q1 q2)
        have hR : Hid (Opt (cleanF [] (resAll a b v)) r t) := Lib.hid (by have h := hr.out; rw [resB_yes ⟨q1, q2, h1, hv12, by simpa using q3, by simpa using q4⟩] at h; exact h)
        have HI : Hid (In12 (resAll a b v)) := Lib.hid (lits_in12 (Int.le_refl 12) (fun x hx => List.all_eq_true.1 HRC.out.2 x hx))
        go_enter Try.func26, Try.ntmps26
        go_wp2_with fail
        refine (isClause_any _ _ _ _ a _ hl HX hn (by omega) (by omega)).mono ?_
        rintro e w' ⟨rfl, rfl⟩
        rw [q1]
        go_wp2_with fail
        refine (isClause_any _ _ _ _ b _ hl2 HY hm (by omega) (by omega)).mono ?_
        rintro e w' ⟨rfl, rfl⟩
        rw [q2]
        go_wp2_with fail
        refine (contains_any _ _ _ a _ _ hl HX hn).mono ?_
        rintro e w' ⟨rfl, rfl⟩
        rw [q3]
        go_wp2_with fail
        refine (contains_any _ _ _ b _ _ hl2 HY hm).mono ?_
        rintro e w' ⟨rfl, rfl⟩
        rw [q4]
        clear q1 q2 q3 q4
        go_wp2_with fail
        refine (without_any _ _ _ a _ _ hl HX (by omega)).mono ?_
        rintro e w1 ⟨A1, d1, rfl, ho1, -, hb1⟩
        have O1 := Lib.hid ho1
        have B1 := Lib.hid hb1
        clear ho1 hb1
        go_wp2_with fail
        refine (without_any _ _ _ b _ _ (hl2.out.below B1.out) HY (by omega)).mono ?_
        rintro e w2 ⟨A2, d2, rfl, ho2, hnil, hb2⟩
        have O2 := Lib.hid ho2
        have B2 := Lib.hid (Below.tr B1.out hb2)
        have O12 := Lib.hid (own_below O1.out hb2)
        have N2 := Lib.hid hnil
        clear ho2 hb2 hnil O1
        obtain ⟨ra, hra⟩ : ∃ l, a.filter (fun x => x != v) = l := ⟨_, rfl⟩
        obtain ⟨rb, hrb⟩ : ∃ l, b.filter (fun x => x != -v) = l := ⟨_, rfl⟩
        have hall : resAll a b v = ra ++ rb := by unfold resAll; rw [hra, hrb]
        rw [hall] at HI hR HRC
        rw [hra] at O12 ⊢
        rw [hrb] at O2 N2 ⊢
        clear hra hrb hall
        have hlen : ra.length + rb.length ≤ 40 := by have := HRC.out.1; simpa using this
        by_cases hz : rb = []
        · obtain ⟨rfl, rfl⟩ := N2.out hz
          subst hz
          go_wp2_with (at_builtin; (refine wpList_append_nil _ rfl _ _ 24 rfl w.heap.size 3 i0 1 Try.underlying24 hi0 _ ra.length _ rfl O12.out rfl ?_))
          refine (cleaned_any _ _ _ ra _ r t (by simpa using hR) (own_ilies O12.out) (Lib.hid rfl) (by simpa using HI) (by omega)).mono ?_
          rintro e w3 hg
          obtain ⟨A3, d3, rfl, ho3, hb3⟩ := hg.under B2.out
          have O3 := Lib.hid ho3
          have B3 := Lib.hid hb3
          clear ho3 hb3 hg
          go_wp2
          go_ret2
          exact ⟨_, _, rfl, O3.out, B3.out⟩
        · have hpos : 0 < rb.length := List.length_pos_iff.2 hz
          obtain ⟨g2, k2, hv2, hbg2, hgl2⟩ := O2.out.form hpos
          have hA2 : A2 = some ⟨g2, 0, none⟩ := by injection hv2
          clear hv2
          subst hA2
          go_wp2_with (at_builtin; (refine wpList_append_lies _ rfl _ _ 24 rfl w.heap.size 3 i0 (.int .i64 0) 1 8 Try.underlying24 hi0 hz0 hz1 hz2 rfl (by omega) _ ra.length _ rfl O12.out ⟨g2, 0, none⟩ rb.length d2 (rb.map (Value.int .i64)) rfl (by simp) (fun j u hu => O2.out.cells (g := g2) rfl j u hu) (ints_oneCell _ _) hpos (by unfold maxLen; omega) (by omega) (by have := B2.out.size; omega) _ rfl ?_; intro g3 cap3 w3 hown3 hg3 hat3 hlt3))
          have O3 : Hid (w3.ownsRow w.heap.size 3 1 (.slice (some ⟨g3, 0, none⟩) (ra.length + rb.length) cap3) (ra.length + rb.length) ((ra ++ rb).map (Value.int .i64))) := Lib.hid (by rw [List.map_append]; exact hown3)
          have B3 := Lib.hid (B2.out.grown hg3 B2.out.size (fun g hg => (O12.out.lt g hg).1))
          clear hown3 hg3 hat3 hlt3
          refine (cleaned_any _ _ _ (ra ++ rb) _ r t hR (own_ilies O3.out) (Lib.hid (by simp)) HI (by omega)).mono ?_
          rintro e w4 hg
          obtain ⟨A4, d4, rfl, ho4, hb4⟩ := hg.under B3.out
          have O4 := Lib.hid ho4
          have B4 := Lib.hid hb4
          clear ho4 hb4 hg
          go_wp2
          go_ret2
          exact ⟨_, _, rfl, O4.out, B4.out⟩
  · have E := Lib.hid (resB_no (a := a) (b := b) (v := v) (by simp [h1]))
    go_enter Try.func26, Try.ntmps26
    go_wp2_with fail
    refine (isClause_any _ _ _ _ a _ hl HX hn (by omega) (by omega)).mono ?_
    rintro e w' ⟨rfl, rfl⟩
    rw [q1]
    go_wp2_with fail
    refine (isClause_any _ _ _ _ b _ hl2 HY hm (by omega) (by omega)).mono ?_
    rintro e w' ⟨rfl, rfl⟩
    rw [q2]
    go_wp2
    go_ret2
    exact two_none hr.out E.out (Below.refl _ _)

/-- behind the append of one number: all in one -/
theorem acc_snoc {w w3 : World} {o : List Int} {x : Int} {m g3 cap3 : Nat} (HM : o.length = m) (h : w3.ownsRow w.heap.size 3 1 (.slice (some ⟨g3, 0, none⟩) (m + 1) cap3) (m + 1) ((o ++ [x]).map (Value.int .i64))) :
    ∃ A2 c2, Value.slice (some ⟨g3, 0, none⟩) (m + 1) cap3 = .slice A2 (o ++ [x]).length c2 ∧ w3.ownsRow w.heap.size 3 1 (.slice A2 (o ++ [x]).length c2) (o ++ [x]).length ((o ++ [x]).map (Value.int .i64)) :=
  ⟨some ⟨g3, 0, none⟩, cap3, by rw [List.length_append, HM, List.length_singleton], by rw [List.length_append, HM]; exact h⟩
theorem acc_same {w w3 : World} {o : List Int} {m c2 : Nat} {A2 : Option Addr} (HM : o.length = m) (h : w3.ownsRow w.heap.size 3 1 (.slice A2 m c2) m (o.map (Value.int .i64))) :
    ∃ A c, Value.slice A2 m c2 = .slice A o.length c ∧ w3.ownsRow w.heap.size 3 1 (.slice A o.length c) o.length (o.map (Value.int .i64)) :=
  ⟨A2, c2, by rw [HM], by rw [HM]; exact h⟩
set_option maxRecDepth 100000 in
set_option maxHeartbeats 4000000 in
theorem l4Resolve_any (A B : Option Addr) (n m c1 c2 : Nat) (a b : List Int) (v : Int) (w : World) (r : List Int) (t : Bool) (hr : Hid (Opt (cleanB (resAll a b v)) r t)) (hl : Hid (ILies w A a)) (hl2 : Hid (ILies w B b)) (HX : Hid (a.length = n)) (HY : Hid (b.length = m)) (hn : n ≤ 1000000) (hm : m ≤ 1000000) (hv1 : -1000000 ≤ v) (hv2 : v ≤ 1000000) :
    Calls Try.prog 70 #[.slice A n c1, .slice B m c2, .int .i64 v] w (GaveTwo w r t) := by
  obtain ⟨i0, hi0, hz0, hz1, hz2⟩ := info_parts info_int
  go_enter Try.func70, Try.ntmps70
  go_wp2_with fail
  go_loopw [8, 15] (fun u i wr => ∃ (k : Nat) (o : List Int), k ≤ n ∧ i = .int .i64 k ∧ o = (a.take k).filter (fun x => x != v) ∧ o.length ≤ k ∧ (∃ A2 c2, u = .slice A2 o.length c2 ∧ wr.ownsRow w.heap.size 3 1 (.slice A2 o.length c2) o.length (o.map (Value.int .i64))) ∧ Below w.heap.size w wr) (fun _ i _ => n - (intOf i).toNat)
  case atStart => exact ⟨0, [], Nat.zero_le _, rfl, by simp, Nat.le_refl _, ⟨none, 0, rfl, World.ownsRow_nil _ _ _ _⟩, Below.refl _ _⟩
  case round =>
    obtain ⟨k, o, hk, rfl, ho, hok, ⟨A2, c2, rfl, hown⟩, hbw⟩ := hrel
    obtain ⟨p, hp⟩ : ∃ m, o.length = m := ⟨_, rfl⟩
    rw [hp] at hok hown ⊢
    have HM := Lib.hid hp
    have HO := Lib.hid ho
    have O2 := Lib.hid hown
    have B2 := Lib.hid hbw
    clear hp ho hown hbw
    by_cases hlt : k < n
    · obtain ⟨x, hx⟩ : ∃ x, a[k]? = some x := ⟨_, List.getElem?_eq_getElem (by have := HX.out; omega)⟩
      obtain ⟨b1, off, rfl, hbl, ha⟩ := (hl.out.below B2.out) k x hx
      have HS := Lib.hid (filter_at (fun x => x != v) a k x hx)
      clear hx
      cases q1 : (x != v)
      · go_wp2
        go_roundw
        case rel => exact ⟨k + 1, o, by omega, by go_num, by rw [HS.out, q1, HO.out]; simp, by have := HM.out; omega, acc_same HM.out O2.out, B2.out⟩
        case measure => simp [intOf]; omega
      · go_wp2_with (at_builtin; (refine wpList_append_lies _ rfl _ _ 24 rfl w.heap.size 3 i0 (.int .i64 0) 1 8 Try.underlying24 hi0 hz0 hz1 hz2 rfl (by omega) _ p _ rfl (O2.out.alloc _) ⟨wr.heap.size, 0, none⟩ 1 1 [.int .i64 x] rfl rfl (one_new1 wr _ _) (by intro u hu; rw [List.mem_singleton.1 hu]; rfl) (by omega) (by unfold maxLen; omega) (by omega) (by have := B2.out.size; first | omega | (simp; omega)) (wr.heap.size + 1) (by first | rfl | simp) ?_; intro g3 cap3 w3 hown3 hg3 hat3 hlt3; have H3 := Lib.hid (app1 O2.out hown3 hg3 B2.out (Nat.le_refl _)); clear hown3 hg3 hat3 hlt3))
        go_roundw
        case rel => exact ⟨k + 1, o ++ [x], by omega, by go_num, by rw [HS.out, q1, HO.out]; simp, by have := HM.out; simp; omega, acc_snoc HM.out H3.out.1, H3.out.2⟩
        case measure => simp [intOf]; omega
    · obtain rfl : k = n := by omega
      have E : Hid (a.filter (fun x => x != v) = o) := Lib.hid (by rw [HO.out, List.take_of_length_le (by have := HX.out; omega)])
      have L0 := Lib.hid (hl2.out.below B2.out)
      clear HO
      go_wp2_with fail
      go_loopw [8, 29] (fun u i wr => ∃ (j : Nat) (o : List Int), j ≤ m ∧ i = .int .i64 j ∧ o = a.filter (fun x => x != v) ++ (b.take j).filter (fun x => x != -v) ∧ o.length ≤ k + j ∧ (∃ A2 c2, u = .slice A2 o.length c2 ∧ wr.ownsRow w.heap.size 3 1 (.slice A2 o.length c2) o.length (o.map (Value.int .i64))) ∧ Below w.heap.size w wr) (fun _ i _ => m - (intOf i).toNat)
      case atStart => exact ⟨0, o, Nat.zero_le _, rfl, by rw [E.out]; simp, by have := HM.out; omega, acc_same HM.out O2.out, B2.out⟩
      case round =>
        obtain ⟨j, o, hj, rfl, ho, hok, ⟨A2, c2, rfl, hown⟩, hbw⟩ := hrel
        clear HM O2 B2 E
        obtain ⟨p, hp⟩ : ∃ m, o.length = m := ⟨_, rfl⟩
        rw [hp] at hok hown ⊢
        have HM := Lib.hid hp
        have HO := Lib.hid ho
        have O2 := Lib.hid hown
        have B2 := Lib.hid hbw
        clear hp ho hown hbw
        by_cases hlt : j < m
        · obtain ⟨x, hx⟩ : ∃ x, b[j]? = some x := ⟨_, List.getElem?_eq_getElem (by have := HY.out; omega)⟩
          obtain ⟨b1, off, rfl, hbl, ha⟩ := (hl2.out.below B2.out) j x hx
          have HS := Lib.hid (filter_at (fun x => x != -v) b j x hx)
          clear hx
          cases q1 : (x != -v)
          · go_wp2
            go_roundw
            case rel => exact ⟨j + 1, o, by omega, by go_num, by rw [HS.out, q1, HO.out]; simp, by have := HM.out; omega, acc_same HM.out O2.out, B2.out⟩
            case measure => simp [intOf]; omega
          · go_wp2_with (at_builtin; (refine wpList_append_lies _ rfl _ _ 24 rfl w.heap.size 3 i0 (.int .i64 0) 1 8 Try.underlying24 hi0 hz0 hz1 hz2 rfl (by omega) _ p _ rfl (O2.out.alloc _) ⟨wr.heap.size, 0, none⟩ 1 1 [.int .i64 x] rfl rfl (one_new1 wr _ _) (by intro u hu; rw [List.mem_singleton.1 hu]; rfl) (by omega) (by unfold maxLen; omega) (by omega) (by have := B2.out.size; first | omega | (simp; omega)) (wr.heap.size + 1) (by first | rfl | simp) ?_; intro g3 cap3 w3 hown3 hg3 hat3 hlt3; have H3 := Lib.hid (app1 O2.out hown3 hg3 B2.out (Nat.le_refl _)); clear hown3 hg3 hat3 hlt3))
            go_roundw
            case rel => exact ⟨j + 1, o ++ [x], by omega, by go_num, by rw [HS.out, q1, HO.out]; simp, by have := HM.out; simp; omega, acc_snoc HM.out H3.out.1, H3.out.2⟩
            case measure => simp [intOf]; omega
        · obtain rfl : j = m := by omega
          have E : Hid (resAll a b v = o) := Lib.hid (by unfold resAll; rw [HO.out, List.take_of_length_le (by have := HY.out; omega)])
          rw [E.out] at hr
          go_wp2_with fail
          refine (specClean_any _ _ _ o _ r t hr (own_ilies O2.out) HM (by omega)).mono ?_
          rintro e w3 hg
          obtain ⟨A3, d3, rfl, ho3, hb3⟩ := hg.under B2.out
          have O3 := Lib.hid ho3
          have B3 := Lib.hid hb3
          clear ho3 hb3 hg
          go_wp2
          go_ret2
          exact ⟨_, _, rfl, O3.out, B3.out⟩
set_option maxRecDepth 100000 in
set_option maxHeartbeats 4000000 in
theorem specResolve_any (A B : Option Addr) (n m c1 c2 : Nat) (a b : List Int) (v : Int) (w : World) (r : List Int) (t : Bool) (hr : Hid (Opt (resB a b v) r t)) (hl : Hid (ILies w A a)) (hl2 : Hid (ILies w B b)) (HX : Hid (a.length = n)) (HY : Hid (b.length = m)) (hn : n ≤ 9223372036854775807) (hm : m ≤ 9223372036854775807) (hc1 : n ≤ c1) (hc2 : m ≤ c2) :
    Calls Try.prog 27 #[.slice A n c1, .slice B m c2, .int .i64 v] w (GaveTwo w r t) := by
  cases q1 : clauseB 12 a
  · have E := Lib.hid (resB_no (a := a) (b := b) (v := v) (by rw [q1]; simp))
    go_enter Try.func27, Try.ntmps27
    go_wp2_with (go_at_call 67; refine (l4Clause_any _ _ _ _ a _ hl HX hn hc1 (by omega) (by omega)).mono ?_; rintro e w' ⟨rfl, rfl⟩; rw [q1])
    go_ret2
    exact two_none hr.out E.out (Below.refl _ _)
  cases q2 : clauseB 12 b
  · have E := Lib.hid (resB_no (a := a) (b := b) (v := v) (by rw [q2]; simp))
    go_enter Try.func27, Try.ntmps27
    go_wp2_with fail
    refine (l4Clause_any _ _ _ _ a _ hl HX hn hc1 (by omega) (by omega)).mono ?_
    rintro e w' ⟨rfl, rfl⟩
    rw [q1]
    go_wp2_with (go_at_call 67; refine (l4Clause_any _ _ _ _ b _ hl2 HY hm hc2 (by omega) (by omega)).mono ?_; rintro e w' ⟨rfl, rfl⟩; rw [q2])
    go_ret2
    exact two_none hr.out E.out (Below.refl _ _)
  have hna : n ≤ 12 := by have := clauseB_len q1; have := HX.out; omega
  have hmb : m ≤ 12 := by have := clauseB_len q2; have := HY.out; omega
  cases q0 : inB 1 12 v
  · have E := Lib.hid (resB_no (a := a) (b := b) (v := v) (by have := inB_no q0; omega))
    go_enter Try.func27, Try.ntmps27
    go_wp2_with fail
    refine (l4Clause_any _ _ _ _ a _ hl HX hn hc1 (by omega) (by omega)).mono ?_
    rintro e w' ⟨rfl, rfl⟩
    rw [q1]
    go_wp2_with fail
    refine (l4Clause_any _ _ _ _ b _ hl2 HY hm hc2 (by omega) (by omega)).mono ?_
    rintro e w' ⟨rfl, rfl⟩
    rw [q2]
    go_wp2_with (go_at_call 68; refine (l1In_any _ _ _ _).mono ?_; rintro e w' ⟨rfl, rfl⟩; rw [q0])
    go_ret2
    exact two_none hr.out E.out (Below.refl _ _)
  have hv1 : 1 ≤ v := (inB_yes q0).1
  have hv2 : v ≤ 12 := (inB_yes q0).2
  cases q3 : decide (v ∈ a)
  · have E := Lib.hid (resB_no (a := a) (b := b) (v := v) (by simp at q3; simp [q3]))
    go_enter Try.func27, Try.ntmps27
    go_wp2_with fail
    refine (l4Clause_any _ _ _ _ a _ hl HX hn hc1 (by omega) (by omega)).mono ?_
    rintro e w' ⟨rfl, rfl⟩
    rw [q1]
    go_wp2_with fail
    refine (l4Clause_any _ _ _ _ b _ hl2 HY hm hc2 (by omega) (by omega)).mono ?_
    rintro e w' ⟨rfl, rfl⟩
    rw [q2]
    go_wp2_with (first
      | (go_at_call 68; refine (l1In_any _ _ _ _).mono ?_; rintro e w' ⟨rfl, rfl⟩; rw [q0])
      | (go_at_call 69; refine (l1Has_any _ _ _ a _ _ hl HX hn).mono ?_; rintro e w' ⟨rfl, rfl⟩; rw [q3]))
    go_ret2
    exact two_none hr.out E.out (Below.refl _ _)
  cases q4 : decide (-v ∈ b)
  · have E := Lib.hid (resB_no (a := a) (b := b) (v := v) (by simp at q4; simp [q4]))
    go_enter Try.func27, Try.ntmps27
    go_wp2_with fail
    refine (l4Clause_any _ _ _ _ a _ hl HX hn hc1 (by omega) (by omega)).mono ?_
    rintro e w' ⟨rfl, rfl⟩
    rw [q1]
    go_wp2_with fail
    refine (l4Clause_any _ _ _ _ b _ hl2 HY hm hc2 (by omega) (by omega)).mono ?_
    rintro e w' ⟨rfl, rfl⟩
    rw [q2]
    go_wp2_with (go_at_call 68; refine (l1In_any _ _ _ _).mono ?_; rintro e w' ⟨rfl, rfl⟩; rw [q0])
    refine (l1Has_any _ _ _ a _ _ hl HX hn).mono ?_
    rintro e w' ⟨rfl, rfl⟩
    rw [q3]
    go_wp2_with (go_at_call 69; refine (l1Has_any _ _ _ b _ _ hl2 HY hm).mono ?_; rintro e w' ⟨rfl, rfl⟩; rw [q4])
    go_ret2
    exact two_none hr.out E.out (Below.refl _ _)
  have hR : Hid (Opt (cleanB (resAll a b v)) r t) := Lib.hid (by have h := hr.out; rw [resB_yes ⟨q1, q2, hv1, hv2, by simpa using q3, by simpa using q4⟩] at h; unfold cleanB; rw [if_pos (resAll_clean q1 q2)]; exact h)
  go_enter Try.func27, Try.ntmps27
  go_wp2_with fail
  refine (l4Clause_any _ _ _ _ a _ hl HX hn hc1 (by omega) (by omega)).mono ?_
  rintro e w' ⟨rfl, rfl⟩
  rw [q1]
  go_wp2_with fail
  refine (l4Clause_any _ _ _ _ b _ hl2 HY hm hc2 (by omega) (by omega)).mono ?_
  rintro e w' ⟨rfl, rfl⟩
  rw [q2]
  go_wp2_with (go_at_call 68; refine (l1In_any _ _ _ _).mono ?_; rintro e w' ⟨rfl, rfl⟩; rw [q0])
  refine (l1Has_any _ _ _ a _ _ hl HX hn).mono ?_
  rintro e w' ⟨rfl, rfl⟩
  rw [q3]
  go_wp2_with fail
  refine (l1Has_any _ _ _ b _ _ hl2 HY hm).mono ?_
  rintro e w' ⟨rfl, rfl⟩
  rw [q4]
  clear q1 q2 q3 q4 q0
  go_wp2_with fail
  refine (l4Resolve_any _ _ _ _ _ _ a b v _ r t hR hl hl2 HX HY (by omega) (by omega) (by omega) (by omega)).mono ?_
  rintro e w3 ⟨A3, d3, rfl, ho3, hb3⟩
  have O3 := Lib.hid ho3
  have B3 := Lib.hid hb3
  clear ho3 hb3
  go_wp2
  go_ret2
  exact ⟨_, _, rfl, O3.out, B3.out⟩
end Go.Proofs.Ythcgmkhlfhlhkaa
