/-
  Contracts of Resolve: the program's and the model's.
-/
import Derived.Test.YtkkoeeoalkjhoaaClean
namespace Go.Proofs.Ytkkoeeoalkjhoaa
open Go.ChangeShapes Go.WideShapes Go.ChangeAt Go.RowKit

/-- an append of nothing -/
theorem wpList_append_nil {P : Program} (w : World) {ops : Array Oper} {rest : List Oper} {o : Oper} {a : Act} {Q : Exit → Act → World → Prop}
    (hg : o.guard = none) (s x : Operand) (t : TypeId) (hop : o.op = Op.call { callee := Callee.builtin Builtin.append, args := #[s, x], argTypes := #[t, t] })
    (base : Nat) (e : TypeId) (i : TypeInfo) (size : Nat) (h1 : P.underlying t = some (.slice e)) (h2 : P.info? e = some i)
    (v : Value) (n : Nat) (xs : List Value) (hs : a.eval s = v) (hown : w.ownsRow base e size v n xs) (hx : a.eval x = .slice none 0 0)
    (hK : wpList P ops Q rest (a.put o.dst v) w) :
    wpList P ops Q (o :: rest) a w := by
  refine wpList_plain hg fun K hK' => ?_
  have hrun := run_append_owned_none (P := P) w base t o.type e i size h1 h2 v n xs hown
  unfold Oper.wp
  simp [execOp, hop, resolve, invoke, builtin, hs, hx, hrun, Result.andThen]
  exact hK' _ _ hK

/-- it answers a slice of ints of its own, nil where it is empty -/
def GaveNil (w : World) (l : List Int) (e : Ending) (w' : World) : Prop :=
  ∃ A c, e = .returned (.slice A l.length c) ∧ w'.ownsRow w.heap.size 3 1 (.slice A l.length c) l.length (l.map (Value.int .i64)) ∧ (l = [] → A = none ∧ c = 0) ∧ Below w.heap.size w w'
theorem resB_no {a b : List Int} {v : Int} (h : ¬ (clauseB 12 a = true ∧ clauseB 12 b = true ∧ 1 ≤ v ∧ v ≤ 12 ∧ v ∈ a ∧ -v ∈ b)) : resB a b v = none := by unfold resB; rw [if_neg h]
theorem resB_yes {a b : List Int} {v : Int} (h : clauseB 12 a = true ∧ clauseB 12 b = true ∧ 1 ≤ v ∧ v ≤ 12 ∧ v ∈ a ∧ -v ∈ b) : resB a b v = cleanF [] (resAll a b v) := by unfold resB; rw [if_pos h]
theorem resB_len {a b r : List Int} {v : Int} {t : Bool} (h : Opt (resB a b v) r t) : r.length ≤ 1000 := by
  cases t
  · rw [(h.2 rfl).2]; simp
  · have e := h.1 rfl
    unfold resB at e
    split at e
    · rename_i q
      have h1 := cleanF_len e
      have h2 := (resAll_clean (v := v) q.1 q.2.1).1
      simp only [List.length_nil] at h1
      omega
    · simp at e
/-- rows above stay -/
theorem GaveTwo.under {w w1 : World} {r : List Int} {b : Bool} {e : Ending} {w' : World} (h : GaveTwo w1 r b e w') (hb : Below w.heap.size w w1) : GaveTwo w r b e w' := by
  obtain ⟨A, c, rfl, ho, hw⟩ := h
  exact ⟨A, c, rfl, own_base ho hb.size, Below.tr hb hw⟩

/-- behind the append of one number: all in one -/
theorem acc_snoc {w w3 : World} {o : List Int} {x : Int} {m g3 cap3 : Nat} (HM : o.length = m) (h : w3.ownsRow w.heap.size 3 1 (.slice (some ⟨g3, 0, none⟩) (m + 1) cap3) (m + 1) ((o ++ [x]).map (Value.int .i64))) :
    ∃ A2 c2, Value.slice (some ⟨g3, 0, none⟩) (m + 1) cap3 = .slice A2 (o ++ [x]).length c2 ∧ w3.ownsRow w.heap.size 3 1 (.slice A2 (o ++ [x]).length c2) (o ++ [x]).length ((o ++ [x]).map (Value.int .i64)) :=
  ⟨some ⟨g3, 0, none⟩, cap3, by rw [List.length_append, HM, List.length_singleton], by rw [List.length_append, HM]; exact h⟩
theorem acc_same {w w3 : World} {o : List Int} {m c2 : Nat} {A2 : Option Addr} (HM : o.length = m) (h : w3.ownsRow w.heap.size 3 1 (.slice A2 m c2) m (o.map (Value.int .i64))) :
    ∃ A c, Value.slice A2 m c2 = .slice A o.length c ∧ w3.ownsRow w.heap.size 3 1 (.slice A o.length c) o.length (o.map (Value.int .i64)) :=
  ⟨A2, c2, by rw [HM], by rw [HM]; exact h⟩
set_option maxRecDepth 100000 in
set_option maxHeartbeats 4000000 in
theorem l4Resolve_any (A B : Option Addr) (n m c1 c2 : Nat) (a b : List Int) (v : Int) (w : World) (r : List Int) (t : Bool) (hr : Hid (Opt (cleanB (resAll a b v)) r t)) (hl : Hid (ILies w A a)) (hl2 : Hid (ILies w B b)) (HX : Hid (a.length = n)) (HY : Hid (b.length = m)) (hn : n ≤ 1000000) (hm : m ≤ 1000000) (hv1 : -1000000 ≤ v) (hv2 : v ≤ 1000000) :
    Calls Try.prog 102 #[.slice A n c1, .slice B m c2, .int .i64 v] w (GaveTwo w r t) := by
  obtain ⟨i0, hi0, hz0, hz1, hz2⟩ := info_parts info_int
  go_enter Try.func102, Try.ntmps102
  go_wp2_with fail
  go_loopw [8, 15] (fun u i wr => ∃ (k : Nat) (o : List Int), k ≤ n ∧ i = .int .i64 k ∧ o = (a.take k).filter (fun x => x != v) ∧ o.length ≤ k ∧ (∃ A2 c2, u = .slice A2 o.length c2 ∧ wr.ownsRow w.heap.size 3 1 (.slice A2 o.length c2) o.length (o.map (Value.int .i64))) ∧ Below w.heap.size w wr) (fun _ i _ => n - (intOf i).toNat)
  case atStart => exact ⟨0, [], Nat.zero_le _, rfl, by simp, Nat.le_refl _, ⟨none, 0, rfl, World.ownsRow_nil _ _ _ _⟩, Below.refl _ _⟩
  case round =>
    obtain ⟨k, o, hk, rfl, ho, hok, ⟨A2, c2, rfl, hown⟩, hbw⟩ := hrel
    obtain ⟨p, hp⟩ : ∃ m, o.length = m := ⟨_, rfl⟩
    rw [hp] at hok hown ⊢
    have HM := Lib.hid hp
    have HO := Lib.hid ho
    have O2 := Lib.hid hown
    have B2 := Lib.hid hbw
    clear hp ho hown hbw
    by_cases hlt : k < n
    · obtain ⟨x, hx⟩ : ∃ x, a[k]? = some x := ⟨_, List.getElem?_eq_getElem (by have := HX.out; omega)⟩
      obtain ⟨b1, off, rfl, hbl, ha⟩ := (hl.out.below B2.out) k x hx
      have HS := Lib.hid (filter_at (fun x => x != v) a k x hx)
      clear hx
      cases q1 : (x != v)
      · go_wp2
        go_roundw
        case rel => exact ⟨k + 1, o, by omega, by go_num, by rw [HS.out, q1, HO.out]; simp, by have := HM.out; omega, acc_same HM.out O2.out, B2.out⟩
        case measure => simp [intOf]; omega
      · go_wp2_with (at_builtin; (refine wpList_append_lies _ rfl _ _ 40 rfl w.heap.size 3 i0 (.int .i64 0) 1 8 Try.underlying40 hi0 hz0 hz1 hz2 rfl (by omega) _ p _ rfl (O2.out.alloc _) ⟨wr.heap.size, 0, none⟩ 1 1 [.int .i64 x] rfl rfl (one_new1 wr _ _) (by intro u hu; rw [List.mem_singleton.1 hu]; rfl) (by omega) (by unfold maxLen; omega) (by omega) (by have := B2.out.size; first | omega | (simp; omega)) (wr.heap.size + 1) (by first | rfl | simp) ?_; intro g3 cap3 w3 hown3 hg3 hat3 hlt3; have H3 := Lib.hid (app1 O2.out hown3 hg3 B2.out (Nat.le_refl _)); clear hown3 hg3 hat3 hlt3))
        go_roundw
        case rel => exact ⟨k + 1, o ++ [x], by omega, by go_num, by rw [HS.out, q1, HO.out]; simp, by have := HM.out; simp; omega, acc_snoc HM.out H3.out.1, H3.out.2⟩
        case measure => simp [intOf]; omega
    · obtain rfl : k = n := by omega
      have E : Hid (a.filter (fun x => x != v) = o) := Lib.hid (by rw [HO.out, List.take_of_length_le (by have := HX.out; omega)])
      have L0 := Lib.hid (hl2.out.below B2.out)
      clear HO
      go_wp2_with fail
      go_loopw [8, 29] (fun u i wr => ∃ (j : Nat) (o : List Int), j ≤ m ∧ i = .int .i64 j ∧ o = a.filter (fun x => x != v) ++ (b.take j).filter (fun x => x != -v) ∧ o.length ≤ k + j ∧ (∃ A2 c2, u = .slice A2 o.length c2 ∧ wr.ownsRow w.heap.size 3 1 (.slice A2 o.length c2) o.length (o.map (Value.int .i64))) ∧ Below w.heap.size w wr) (fun _ i _ => m - (intOf i).toNat)
      case atStart => exact ⟨0, o, Nat.zero_le _, rfl, by rw [E.out]; simp, by have := HM.out; omega, acc_same HM.out O2.out, B2.out⟩
      case round =>
        obtain ⟨j, o, hj, rfl, ho, hok, ⟨A2, c2, rfl, hown⟩, hbw⟩ := hrel
        clear HM O2 B2 E
        obtain ⟨p, hp⟩ : ∃ m, o.length = m := ⟨_, rfl⟩
        rw [hp] at hok hown ⊢
        have HM := Lib.hid hp
        have HO := Lib.hid ho
        have O2 := Lib.hid hown
        have B2 := Lib.hid hbw
        clear hp ho hown hbw
        by_cases hlt : j < m
        · obtain ⟨x, hx⟩ : ∃ x, b[j]? = some x := ⟨_, List.getElem?_eq_getElem (by have := HY.out; omega)⟩
          obtain ⟨b1, off, rfl, hbl, ha⟩ := (hl2.out.below B2.out) j x hx
          have HS := Lib.hid (filter_at (fun x => x != -v) b j x hx)
          clear hx
          cases q1 : (x != -v)
          · go_wp2
            go_roundw
            case rel => exact ⟨j + 1, o, by omega, by go_num, by rw [HS.out, q1, HO.out]; simp, by have := HM.out; omega, acc_same HM.out O2.out, B2.out⟩
            case measure => simp [intOf]; omega
          · go_wp2_with (at_builtin; (refine wpList_append_lies _ rfl _ _ 40 rfl w.heap.size 3 i0 (.int .i64 0) 1 8 Try.underlying40 hi0 hz0 hz1 hz2 rfl (by omega) _ p _ rfl (O2.out.alloc _) ⟨wr.heap.size, 0, none⟩ 1 1 [.int .i64 x] rfl rfl (one_new1 wr _ _) (by intro u hu; rw [List.mem_singleton.1 hu]; rfl) (by omega) (by unfold maxLen; omega) (by omega) (by have := B2.out.size; first | omega | (simp; omega)) (wr.heap.size + 1) (by first | rfl | simp) ?_; intro g3 cap3 w3 hown3 hg3 hat3 hlt3; have H3 := Lib.hid (app1 O2.out hown3 hg3 B2.out (Nat.le_refl _)); clear hown3 hg3 hat3 hlt3))
            go_roundw
            case rel => exact ⟨j + 1, o ++ [x], by omega, by go_num, by rw [HS.out, q1, HO.out]; simp, by have := HM.out; simp; omega, acc_snoc HM.out H3.out.1, H3.out.2⟩
            case measure => simp [intOf]; omega
        · obtain rfl : j = m := by omega
          have E : Hid (resAll a b v = o) := Lib.hid (by unfold resAll; rw [HO.out, List.take_of_length_le (by have := HY.out; omega)])
          rw [E.out] at hr
          go_wp2_with fail
          refine (specClean_any _ _ _ o _ r t hr (own_ilies O2.out) HM (by omega)).mono ?_
          rintro e w3 hg
          obtain ⟨A3, d3, rfl, ho3, hb3⟩ := hg.under B2.out
          have O3 := Lib.hid ho3
          have B3 := Lib.hid hb3
          clear ho3 hb3 hg
          go_wp2
          go_ret2
          exact ⟨_, _, rfl, O3.out, B3.out⟩
set_option maxRecDepth 100000 in
set_option maxHeartbeats 4000000 in
theorem specResolve_any (A B : Option Addr) (n m c1 c2 : Nat) (a b : List Int) (v : Int) (w : World) (r : List Int) (t : Bool) (hr : Hid (Opt (resB a b v) r t)) (hl : Hid (ILies w A a)) (hl2 : Hid (ILies w B b)) (HX : Hid (a.length = n)) (HY : Hid (b.length = m)) (hn : n ≤ 9223372036854775807) (hm : m ≤ 9223372036854775807) (hc1 : n ≤ c1) (hc2 : m ≤ c2) :
    Calls Try.prog 81 #[.slice A n c1, .slice B m c2, .int .i64 v] w (GaveTwo w r t) := by
  cases q1 : clauseB 12 a
  · have E := Lib.hid (resB_no (a := a) (b := b) (v := v) (by rw [q1]; simp))
    go_enter Try.func81, Try.ntmps81
    go_wp2_with (go_at_call 86; refine (l4Clause_any _ _ _ _ a _ hl HX hn hc1 (by omega) (by omega)).mono ?_; rintro e w' ⟨rfl, rfl⟩; rw [q1])
    go_ret2
    exact two_none hr.out E.out (Below.refl _ _)
  cases q2 : clauseB 12 b
  · have E := Lib.hid (resB_no (a := a) (b := b) (v := v) (by rw [q2]; simp))
    go_enter Try.func81, Try.ntmps81
    go_wp2_with fail
    refine (l4Clause_any _ _ _ _ a _ hl HX hn hc1 (by omega) (by omega)).mono ?_
    rintro e w' ⟨rfl, rfl⟩
    rw [q1]
    go_wp2_with (go_at_call 86; refine (l4Clause_any _ _ _ _ b _ hl2 HY hm hc2 (by omega) (by omega)).mono ?_; rintro e w' ⟨rfl, rfl⟩; rw [q2])
    go_ret2
    exact two_none hr.out E.out (Below.refl _ _)
  have hna : n ≤ 12 := by have := clauseB_len q1; have := HX.out; omega
  have hmb : m ≤ 12 := by have := clauseB_len q2; have := HY.out; omega
  cases q0 : inB 1 12 v
  · have E := Lib.hid (resB_no (a := a) (b := b) (v := v) (by have := inB_no q0; omega))
    go_enter Try.func81, Try.ntmps81
    go_wp2_with fail
    refine (l4Clause_any _ _ _ _ a _ hl HX hn hc1 (by omega) (by omega)).mono ?_
    rintro e w' ⟨rfl, rfl⟩
    rw [q1]
    go_wp2_with fail
    refine (l4Clause_any _ _ _ _ b _ hl2 HY hm hc2 (by omega) (by omega)).mono ?_
    rintro e w' ⟨rfl, rfl⟩
    rw [q2]
    go_wp2_with (go_at_call 93; refine (l1In_any _ _ _ _).mono ?_; rintro e w' ⟨rfl, rfl⟩; rw [q0])
    go_ret2
    exact two_none hr.out E.out (Below.refl _ _)
  have hv1 : 1 ≤ v := (inB_yes q0).1
  have hv2 : v ≤ 12 := (inB_yes q0).2
  cases q3 : decide (v ∈ a)
  · have E := Lib.hid (resB_no (a := a) (b := b) (v := v) (by simp at q3; simp [q3]))
    go_enter Try.func81, Try.ntmps81
    go_wp2_with fail
    refine (l4Clause_any _ _ _ _ a _ hl HX hn hc1 (by omega) (by omega)).mono ?_
    rintro e w' ⟨rfl, rfl⟩
    rw [q1]
    go_wp2_with fail
    refine (l4Clause_any _ _ _ _ b _ hl2 HY hm hc2 (by omega) (by omega)).mono ?_
    rintro e w' ⟨rfl, rfl⟩
    rw [q2]
    go_wp2_with (first
      | (go_at_call 93; refine (l1In_any _ _ _ _).mono ?_; rintro e w' ⟨rfl, rfl⟩; rw [q0])
      | (go_at_call 101; refine (l1Has_any _ _ _ a _ _ hl HX hn).mono ?_; rintro e w' ⟨rfl, rfl⟩; rw [q3]))
    go_ret2
    exact two_none hr.out E.out (Below.refl _ _)
  cases q4 : decide (-v ∈ b)
  · have E := Lib.hid (resB_no (a := a) (b := b) (v := v) (by simp at q4; simp [q4]))
    go_enter Try.func81, Try.ntmps81
    go_wp2_with fail
    refine (l4Clause_any _ _ _ _ a _ hl HX hn hc1 (by omega) (by omega)).mono ?_
    rintro e w' ⟨rfl, rfl⟩
    rw [q1]
    go_wp2_with fail
    refine (l4Clause_any _ _ _ _ b _ hl2 HY hm hc2 (by omega) (by omega)).mono ?_
    rintro e w' ⟨rfl, rfl⟩
    rw [q2]
    go_wp2_with (go_at_call 93; refine (l1In_any _ _ _ _).mono ?_; rintro e w' ⟨rfl, rfl⟩; rw [q0])
    refine (l1Has_any _ _ _ a _ _ hl HX hn).mono ?_
    rintro e w' ⟨rfl, rfl⟩
    rw [q3]
    go_wp2_with (go_at_call 101; refine (l1Has_any _ _ _ b _ _ hl2 HY hm).mono ?_; rintro e w' ⟨rfl, rfl⟩; rw [q4])
    go_ret2
    exact two_none hr.out E.out (Below.refl _ _)
  have hR : Hid (Opt (cleanB (resAll a b v)) r t) := Lib.hid (by have h := hr.out; rw [resB_yes ⟨q1, q2, hv1, hv2, by simpa using q3, by simpa using q4⟩] at h; unfold cleanB; rw [if_pos (resAll_clean q1 q2)]; exact h)
  go_enter Try.func81, Try.ntmps81
  go_wp2_with fail
  refine (l4Clause_any _ _ _ _ a _ hl HX hn hc1 (by omega) (by omega)).mono ?_
  rintro e w' ⟨rfl, rfl⟩
  rw [q1]
  go_wp2_with fail
  refine (l4Clause_any _ _ _ _ b _ hl2 HY hm hc2 (by omega) (by omega)).mono ?_
  rintro e w' ⟨rfl, rfl⟩
  rw [q2]
  go_wp2_with (go_at_call 93; refine (l1In_any _ _ _ _).mono ?_; rintro e w' ⟨rfl, rfl⟩; rw [q0])
  refine (l1Has_any _ _ _ a _ _ hl HX hn).mono ?_
  rintro e w' ⟨rfl, rfl⟩
  rw [q3]
  go_wp2_with fail
  refine (l1Has_any _ _ _ b _ _ hl2 HY hm).mono ?_
  rintro e w' ⟨rfl, rfl⟩
  rw [q4]
  clear q1 q2 q3 q4 q0
  go_wp2_with fail
  refine (l4Resolve_any _ _ _ _ _ _ a b v _ r t hR hl hl2 HX HY (by omega) (by omega) (by omega) (by omega)).mono ?_
  rintro e w3 ⟨A3, d3, rfl, ho3, hb3⟩
  have O3 := Lib.hid ho3
  have B3 := Lib.hid hb3
  clear ho3 hb3
  go_wp2
  go_ret2
  exact ⟨_, _, rfl, O3.out, B3.out⟩
end Go.Proofs.Ytkkoeeoalkjhoaa
