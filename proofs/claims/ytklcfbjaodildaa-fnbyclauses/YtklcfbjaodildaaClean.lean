/-
  Contracts of CleanClause: the program's and the model's.
-/
import Derived.Test.YtklcfbjaodildaaClSet2
import Derived.Test.YtklcfbjaodildaaTwo
namespace Go.Proofs.Ytklcfbjaodildaa
open Go.ChangeShapes Go.WideShapes Go.ChangeAt Go.RowKit

/-- the answer r, b of a list that may be lacking -/
def Opt (o : Option (List Int)) (r : List Int) (b : Bool) : Prop := (b = true → o = some r) ∧ (b = false → o = none ∧ r = [])
theorem opt_any (o : Option (List Int)) : ∃ r b, Opt o r b := by
  cases o with
  | none => exact ⟨[], false, by simp, fun _ => ⟨rfl, rfl⟩⟩
  | some r => exact ⟨r, true, fun _ => rfl, by simp⟩
theorem Opt.none {o : Option (List Int)} {r : List Int} {b : Bool} (h : Opt o r b) (e : o = none) : b = false ∧ r = [] := by
  cases b
  · exact ⟨rfl, (h.2 rfl).2⟩
  · have := h.1 rfl; rw [e] at this; simp at this
theorem Opt.some {o : Option (List Int)} {r s : List Int} {b : Bool} (h : Opt o r b) (e : o = some s) : b = true ∧ r = s := by
  cases b
  · have := (h.2 rfl).1; rw [e] at this; simp at this
  · have := h.1 rfl; rw [e] at this; simp at this; exact ⟨rfl, this.symm⟩
theorem two_none {w w1 : World} {o : Option (List Int)} {r : List Int} {b : Bool} (h : Opt o r b) (e : o = Option.none) (hb : Below w.heap.size w w1) : GaveTwo w r b (.returned (.tuple #[.slice Option.none 0 0, .bool false])) w1 := by
  obtain ⟨rfl, rfl⟩ := h.none e
  exact two_nil w w1 hb
theorem two_some {w wr : World} {o : Option (List Int)} {r s : List Int} {b : Bool} (h : Opt o r b) (e : o = Option.some s) {A2 : Option Addr} {c2 k : Nat} (hl : s.length = k) (ho : wr.ownsRow w.heap.size 3 1 (.slice A2 k c2) k (s.map (Value.int .i64))) (hb : Below w.heap.size w wr) :
    GaveTwo w r b (.returned (.tuple #[.slice A2 k c2, .bool true])) wr := by
  obtain ⟨rfl, rfl⟩ := h.some e
  exact two_of hl ho hb
theorem cleanF_mem {out c o : List Int} (h : cleanF out c = Option.some o) : ∀ x ∈ o, x ∈ out ∨ x ∈ c := by
  induction c generalizing out with
  | nil => simp [cleanF] at h; subst h; intro x hx; exact .inl hx
  | cons y t ih =>
    rw [cleanF] at h
    split at h
    · simp at h
    · intro x hx
      rcases ih h x hx with q | q
      · split at q
        · exact .inl q
        · simp at q
          rcases q with q | rfl
          · exact .inl q
          · exact .inr (by simp)
      · exact .inr (by simp [q])

set_option maxRecDepth 100000 in
set_option maxHeartbeats 4000000 in
theorem cleaned_any (A : Option Addr) (n cap : Nat) (l : List Int) (w : World) (r : List Int) (b : Bool) (hr : Hid (Opt (cleanF [] l) r b)) (hl : Hid (ILies w A l)) (HX : Hid (l.length = n)) (HI : Hid (In12 l)) (hn : n ≤ 1048576) :
    Calls Try.prog 170 #[.slice A n cap] w (GaveTwo w r b) := by
  obtain ⟨i0, hi0, hz0, hz1, hz2⟩ := info_parts info_int
  go_enter Try.func170, Try.ntmps170
  go_wp2_with fail
  go_loopw [4, 5, 10] (fun v s i wr => ∃ (k : Nat) (o : List Int), k ≤ n ∧ i = .int .i64 k ∧ s = .int .u32 (setV o) ∧ In12 o ∧ o.length ≤ k ∧ cleanF [] l = cleanF o (l.drop k) ∧ (∃ A2 c2, v = .slice A2 o.length c2 ∧ wr.ownsRow w.heap.size 3 1 (.slice A2 o.length c2) o.length (o.map (Value.int .i64))) ∧ Below w.heap.size w wr) (fun _ _ i _ => n - (intOf i).toNat)
  case atStart => exact ⟨0, [], Nat.zero_le _, rfl, rfl, In12.nil, Nat.le_refl _, rfl, ⟨none, 0, rfl, World.ownsRow_nil _ _ _ _⟩, Below.refl _ _⟩
  case round =>
    obtain ⟨k, o, hk, rfl, rfl, hin, hok, hcl, ⟨A2, c2, rfl, hown⟩, hbw⟩ := hrel
    obtain ⟨m, hm⟩ : ∃ m, o.length = m := ⟨_, rfl⟩
    rw [hm] at hok hown ⊢
    have HM := Lib.hid hm
    have HC := Lib.hid hcl
    have HO := Lib.hid hin
    have O2 := Lib.hid hown
    have B2 := Lib.hid hbw
    clear hm hcl hin hown hbw
    by_cases hlt : k < n
    · obtain ⟨x, hx⟩ : ∃ x, l[k]? = some x := ⟨_, List.getElem?_eq_getElem (by have := HX.out; omega)⟩
      obtain ⟨b1, off, rfl, hbl, ha⟩ := (hl.out.below B2.out) k x hx
      have hxr := HI.out x (List.mem_of_getElem? hx)
      have hxa : -12 ≤ x := hxr.1
      have hxb : x ≤ 12 := hxr.2
      have HS := Lib.hid (cleanF_at o l k x hx)
      clear hx hxr
      cases q1 : decide (-x ∈ o)
      · cases q2 : decide (x ∈ o)
        · have E : Hid (cleanF [] l = cleanF (o ++ [x]) (l.drop (k + 1))) := Lib.hid (by rw [HC.out, HS.out]; simp only [List.contains_eq_mem, q1, q2]; rfl)
          go_wp2_with (first
            | (at_builtin; (refine wpList_append_lies _ rfl _ _ 55 rfl w.heap.size 3 i0 (.int .i64 0) 1 8 Try.underlying55 hi0 hz0 hz1 hz2 rfl (by omega) _ m _ rfl (O2.out.alloc _) ⟨wr.heap.size, 0, none⟩ 1 1 [.int .i64 x] rfl rfl (one_new1 wr _ _) (by intro u hu; rw [List.mem_singleton.1 hu]; rfl) (by omega) (by unfold maxLen; omega) (by omega) (by have := B2.out.size; first | omega | (simp; omega)) (wr.heap.size + 1) (by first | rfl | simp) ?_; intro g3 cap3 w3 hown3 hg3 hat3 hlt3; have H3 := Lib.hid (app1 O2.out hown3 hg3 B2.out (Nat.le_refl _)); clear hown3 hg3 hat3 hlt3))
            | (go_at_call 123; refine (has_any _ _ _ HO (by omega) (by omega)).mono ?_; rintro e w' ⟨rfl, rfl⟩; first | rw [q1] | rw [q2])
            | (go_at_call 124; refine (with_any _ _ _ HO (by omega) (by omega)).mono ?_; rintro e w' ⟨rfl, rfl⟩))
          go_roundw
          case rel => exact ⟨k + 1, o ++ [x], by omega, by go_num, rfl, HO.out.snoc ⟨hxa, hxb⟩, by have := HM.out; simp; omega, E.out, ⟨some ⟨g3, 0, none⟩, cap3, by rw [List.length_append, HM.out, List.length_singleton], by rw [List.length_append, HM.out]; exact H3.out.1⟩, H3.out.2⟩
          case measure => simp [intOf]; omega
        · have E : Hid (cleanF [] l = cleanF o (l.drop (k + 1))) := Lib.hid (by rw [HC.out, HS.out]; simp only [List.contains_eq_mem, q1, q2]; rfl)
          go_wp2_with (go_at_call 123; refine (has_any _ _ _ HO (by omega) (by omega)).mono ?_; rintro e w' ⟨rfl, rfl⟩; first | rw [q1] | rw [q2])
          go_roundw
          case rel => exact ⟨k + 1, o, by omega, by go_num, rfl, HO.out, by have := HM.out; omega, E.out, ⟨_, _, by rw [HM.out], by rw [HM.out]; exact O2.out⟩, B2.out⟩
          case measure => simp [intOf]; omega
      · have E : Hid (cleanF [] l = none) := Lib.hid (by rw [HC.out, HS.out]; simp only [List.contains_eq_mem, q1]; rfl)
        go_wp2_with (go_at_call 123; refine (has_any _ _ _ HO (by omega) (by omega)).mono ?_; rintro e w' ⟨rfl, rfl⟩; rw [q1])
        go_ret2
        exact two_none hr.out E.out B2.out
    · obtain rfl : k = n := by omega
      have E : Hid (cleanF [] l = some o) := Lib.hid (by rw [HC.out, List.drop_of_length_le (by have := HX.out; omega)]; rfl)
      go_wp2
      go_ret2
      exact two_some hr.out E.out HM.out O2.out B2.out
theorem all_no {p : Int → Bool} {l : List Int} {k : Nat} {x : Int} (hx : l[k]? = some x) (q : p x = false) : l.all p = false := by
  rw [Bool.eq_false_iff]
  intro h
  rw [List.all_eq_true] at h
  have := h x (List.mem_of_getElem? hx)
  rw [q] at this
  simp at this
theorem all_take_snoc {p : Int → Bool} {l : List Int} {k : Nat} {x : Int} (hx : l[k]? = some x) (q : p x = true) (h : (l.take k).all p = true) : (l.take (k + 1)).all p = true := by
  rw [take_snoc hx, List.all_append, h]
  simp [q]

set_option maxRecDepth 100000 in
set_option maxHeartbeats 4000000 in
theorem implClean_any (A : Option Addr) (n cap : Nat) (l : List Int) (w : World) (r : List Int) (b : Bool) (hr : Hid (Opt (cleanB l) r b)) (hl : Hid (ILies w A l)) (HX : Hid (l.length = n)) (hn : n ≤ 9223372036854775807) :
    Calls Try.prog 162 #[.slice A n cap] w (GaveTwo w r b) := by
  by_cases hbig : 40 < n
  · have E : Hid (cleanB l = none) := Lib.hid (by have := HX.out; unfold cleanB; rw [if_neg (by omega)])
    go_enter Try.func162, Try.ntmps162
    go_wp2
    go_ret2
    exact two_none hr.out E.out (Below.refl _ _)
  have hsm : n ≤ 40 := by omega
  go_enter Try.func162, Try.ntmps162
  go_wp2_with fail
  go_loop [11] (fun i => ∃ k : Nat, k ≤ n ∧ i = .int .i64 k ∧ (l.take k).all (litB 12) = true) (fun i => n - (intOf i).toNat)
  case atStart => exact ⟨0, Nat.zero_le _, rfl, rfl⟩
  case round =>
    obtain ⟨k, hk, rfl, hcl⟩ := hrel
    have HC := Lib.hid hcl
    clear hcl
    by_cases hlt : k < n
    · obtain ⟨x, hx⟩ : ∃ x, l[k]? = some x := ⟨_, List.getElem?_eq_getElem (by have := HX.out; omega)⟩
      obtain ⟨b1, off, rfl, hbl, ha⟩ := hl.out k x hx
      have HK := Lib.hid hx
      clear hx
      cases q : litB 12 x
      · have E : Hid (cleanB l = none) := Lib.hid (by have := all_no HK.out q; unfold cleanB; rw [this]; simp)
        go_wp2_with (go_at_call 144; refine (isLiteral_any _ _ _ (by omega) (by omega)).mono ?_; rintro e w' ⟨rfl, rfl⟩; rw [q])
        go_ret2
        exact two_none hr.out E.out (Below.refl _ _)
      · have E := Lib.hid (all_take_snoc HK.out q HC.out)
        go_wp2_with (go_at_call 144; refine (isLiteral_any _ _ _ (by omega) (by omega)).mono ?_; rintro e w' ⟨rfl, rfl⟩; rw [q])
        go_round
        case rel => exact ⟨k + 1, by omega, by go_num, E.out⟩
        case measure => simp [intOf]; omega
    · obtain rfl : k = n := by omega
      have hall : l.all (litB 12) = true := by have := HC.out; rw [List.take_of_length_le (by have := HX.out; omega)] at this; exact this
      have hI : Hid (In12 l) := Lib.hid (lits_in12 (Int.le_refl 12) (fun x hx => List.all_eq_true.1 hall x hx))
      have hR : Hid (Opt (cleanF [] l) r b) := Lib.hid (by have h := hr.out; unfold cleanB at h; rw [if_pos ⟨by have := HX.out; omega, hall⟩] at h; exact h)
      clear hall
      go_wp2_with fail
      refine (cleaned_any _ _ _ l _ r b hR hl HX hI (by omega)).mono ?_
      rintro e w' ⟨A2, c2, rfl, h1, h2⟩
      have H1 := Lib.hid h1
      have H2 := Lib.hid h2
      clear h1 h2
      go_wp2
      go_ret2
      exact ⟨_, _, rfl, H1.out, H2.out⟩

theorem cleanB_len {c r : List Int} {b : Bool} (h : Opt (cleanB c) r b) : r.length ≤ 1000 := by
  cases b
  · rw [(h.2 rfl).2]; simp
  · have e := h.1 rfl
    unfold cleanB at e
    split at e
    · rename_i q
      have := cleanF_len e
      simp at this
      omega
    · simp at e
/-- what the model's loop still answers -/
def cleanM (o c : List Int) : Option (List Int) := if c.all (litB 12) = true then cleanF o c else none
set_option maxRecDepth 100000 in
set_option maxHeartbeats 4000000 in
theorem specClean_any (A : Option Addr) (n cap : Nat) (l : List Int) (w : World) (r : List Int) (b : Bool) (hr : Hid (Opt (cleanB l) r b)) (hl : Hid (ILies w A l)) (HX : Hid (l.length = n)) (hn : n ≤ 9223372036854775807) :
    Calls Try.prog 140 #[.slice A n cap] w (GaveTwo w r b) := by
  obtain ⟨i0, hi0, hz0, hz1, hz2⟩ := info_parts info_int
  by_cases hbig : 40 < n
  · have E : Hid (cleanB l = none) := Lib.hid (by have := HX.out; unfold cleanB; rw [if_neg (by omega)])
    go_enter Try.func140, Try.ntmps140
    go_wp2
    go_ret2
    exact two_none hr.out E.out (Below.refl _ _)
  have hsm : n ≤ 40 := by omega
  have hR : Hid (Opt (cleanM [] l) r b) := Lib.hid (by have h := hr.out; unfold cleanB at h; unfold cleanM; by_cases q : l.all (litB 12) = true
                                                       · rw [if_pos ⟨by have := HX.out; omega, q⟩] at h; rw [if_pos q]; exact h
                                                       · rw [if_neg (fun e => q e.2)] at h; rw [if_neg q]; exact h)
  go_enter Try.func140, Try.ntmps140
  go_wp2_with fail
  go_loopw [4, 12] (fun v i wr => ∃ (k : Nat) (o : List Int), k ≤ n ∧ i = .int .i64 k ∧ o.length ≤ k ∧ cleanM [] l = cleanM o (l.drop k) ∧ (∃ A2 c2, v = .slice A2 o.length c2 ∧ wr.ownsRow w.heap.size 3 1 (.slice A2 o.length c2) o.length (o.map (Value.int .i64))) ∧ Below w.heap.size w wr) (fun _ i _ => n - (intOf i).toNat)
  case atStart => exact ⟨0, [], Nat.zero_le _, rfl, Nat.le_refl _, rfl, ⟨none, 0, rfl, World.ownsRow_nil _ _ _ _⟩, Below.refl _ _⟩
  case round =>
    obtain ⟨k, o, hk, rfl, hok, hcl, ⟨A2, c2, rfl, hown⟩, hbw⟩ := hrel
    obtain ⟨m, hm⟩ : ∃ m, o.length = m := ⟨_, rfl⟩
    rw [hm] at hok hown ⊢
    have HM := Lib.hid hm
    have HC := Lib.hid hcl
    have O2 := Lib.hid hown
    have B2 := Lib.hid hbw
    have IO := Lib.hid (own_ilies hown)
    clear hm hcl hown hbw
    by_cases hlt : k < n
    · obtain ⟨x, hx⟩ : ∃ x, l[k]? = some x := ⟨_, List.getElem?_eq_getElem (by have := HX.out; omega)⟩
      obtain ⟨b1, off, rfl, hbl, ha⟩ := (hl.out.below B2.out) k x hx
      have HS := Lib.hid (cleanF_at o l k x hx)
      have HA : Hid ((l.drop k).all (litB 12) = (litB 12 x && (l.drop (k + 1)).all (litB 12))) := Lib.hid (by have h1 := (List.getElem?_eq_some_iff.1 hx).1; have h2 := (List.getElem?_eq_some_iff.1 hx).2; rw [List.drop_eq_getElem_cons h1, List.all_cons, h2])
      clear hx
      cases q0 : (x == 0)
      · have q0' : x ≠ 0 := by simpa using q0
        have HLi := Lib.hid (lit_in (v := 12) q0')
        clear q0'
        cases q1 : litB 12 x
        · have E : Hid (cleanM [] l = none) := Lib.hid (by rw [HC.out]; unfold cleanM; rw [HA.out, q1]; simp)
          go_wp2_with (go_at_call 94; refine (l1In_any _ _ _ _).mono ?_; rintro e w' ⟨rfl, rfl⟩; rw [HLi.out, q1])
          go_ret2
          exact two_none hR.out E.out B2.out
        · have hxr := litB_iff.1 q1
          have hxa : -12 ≤ x := by omega
          have hxb : x ≤ 12 := by omega
          clear hxr
          cases q2 : decide (-x ∈ o)
          · cases q3 : decide (x ∈ o)
            · have E : Hid (cleanM [] l = cleanM (o ++ [x]) (l.drop (k + 1))) := Lib.hid (by rw [HC.out]; unfold cleanM; rw [HA.out, q1, HS.out]; simp only [List.contains_eq_mem, q2, q3]; rfl)
              go_wp2_with (first
                | (at_builtin; (refine wpList_append_lies _ rfl _ _ 55 rfl w.heap.size 3 i0 (.int .i64 0) 1 8 Try.underlying55 hi0 hz0 hz1 hz2 rfl (by omega) _ m _ rfl (O2.out.alloc _) ⟨wr.heap.size, 0, none⟩ 1 1 [.int .i64 x] rfl rfl (one_new1 wr _ _) (by intro u hu; rw [List.mem_singleton.1 hu]; rfl) (by omega) (by unfold maxLen; omega) (by omega) (by have := B2.out.size; first | omega | (simp; omega)) (wr.heap.size + 1) (by first | rfl | simp) ?_; intro g3 cap3 w3 hown3 hg3 hat3 hlt3; have H3 := Lib.hid (app1 O2.out hown3 hg3 B2.out (Nat.le_refl _)); clear hown3 hg3 hat3 hlt3))
                | (go_at_call 94; refine (l1In_any _ _ _ _).mono ?_; rintro e w' ⟨rfl, rfl⟩; rw [HLi.out, q1])
                | (go_at_call 163; refine (l1Has_any _ _ _ o _ _ IO HM (by omega)).mono ?_; rintro e w' ⟨rfl, rfl⟩; first | rw [q2] | rw [q3]))
              go_roundw
              case rel => exact ⟨k + 1, o ++ [x], by omega, by go_num, by have := HM.out; simp; omega, E.out, ⟨some ⟨g3, 0, none⟩, cap3, by rw [List.length_append, HM.out, List.length_singleton], by rw [List.length_append, HM.out]; exact H3.out.1⟩, H3.out.2⟩
              case measure => simp [intOf]; omega
            · have E : Hid (cleanM [] l = cleanM o (l.drop (k + 1))) := Lib.hid (by rw [HC.out]; unfold cleanM; rw [HA.out, q1, HS.out]; simp only [List.contains_eq_mem, q2, q3]; rfl)
              go_wp2_with (first
                | (go_at_call 94; refine (l1In_any _ _ _ _).mono ?_; rintro e w' ⟨rfl, rfl⟩; rw [HLi.out, q1])
                | (go_at_call 163; refine (l1Has_any _ _ _ o _ _ IO HM (by omega)).mono ?_; rintro e w' ⟨rfl, rfl⟩; first | rw [q2] | rw [q3]))
              go_roundw
              case rel => exact ⟨k + 1, o, by omega, by go_num, by have := HM.out; omega, E.out, ⟨_, _, by rw [HM.out], by rw [HM.out]; exact O2.out⟩, B2.out⟩
              case measure => simp [intOf]; omega
          · have E : Hid (cleanM [] l = none) := Lib.hid (by rw [HC.out]; unfold cleanM; rw [HS.out]; simp only [List.contains_eq_mem, q2]; simp)
            go_wp2_with (first
              | (go_at_call 94; refine (l1In_any _ _ _ _).mono ?_; rintro e w' ⟨rfl, rfl⟩; rw [HLi.out, q1])
              | (go_at_call 163; refine (l1Has_any _ _ _ o _ _ IO HM (by omega)).mono ?_; rintro e w' ⟨rfl, rfl⟩; rw [q2]))
            go_ret2
            exact two_none hR.out E.out B2.out
      · have E : Hid (cleanM [] l = none) := Lib.hid (by rw [HC.out]; unfold cleanM; rw [HA.out]; simp at q0; simp [litB, q0])
        go_wp2
        go_ret2
        exact two_none hR.out E.out B2.out
    · obtain rfl : k = n := by omega
      have E : Hid (cleanM [] l = some o) := Lib.hid (by rw [HC.out, List.drop_of_length_le (by have := HX.out; omega)]; rfl)
      go_wp2
      go_ret2
      exact two_some hR.out E.out HM.out O2.out B2.out
end Go.Proofs.Ytklcfbjaodildaa
