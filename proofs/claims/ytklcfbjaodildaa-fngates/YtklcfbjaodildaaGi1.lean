/-
  Gates: which circuits are valid, their inputs: the program's and the model's.
-/
import Derived.Test.YtklcfbjaodildaaGtMem
import Derived.Test.YtklcfbjaodildaaSmall
namespace Go.Proofs.Ytklcfbjaodildaa
open Go.ChangeShapes Go.WideShapes Go.ChangeAt Go.RowKit

theorem beq_no {a b : Int} (h : a ≠ b) : (a == b) = false := by simp [h]
theorem bne_yes {a b : Int} (h : a ≠ b) : (a != b) = true := by simp [h]
theorem bne_no (a : Int) : (a != a) = false := by simp
set_option maxRecDepth 100000 in
set_option maxHeartbeats 400000 in
theorem isIndex_any (a : Int) (i : Nat) (w : World) : Calls Try.prog 109 #[.int .i64 a, .int .i64 i] w fun e w' => e = .returned (.bool (ixB a i)) ∧ w = w' := by
  by_cases h1 : 0 ≤ a
  · have E : Hid (ixB a i = decide (a < (i : Int))) := Lib.hid (by simp [ixB, h1])
    rw [E.out]
    go_enter Try.func109, Try.ntmps109
    go_wp2
    go_ret
    exact ⟨rfl, rfl⟩
  · have E : Hid (ixB a i = false) := Lib.hid (by simp [ixB, h1])
    rw [E.out]
    go_enter Try.func109, Try.ntmps109
    go_wp2
    go_ret
    exact ⟨rfl, rfl⟩
set_option maxRecDepth 100000 in
set_option maxHeartbeats 2000000 in
theorem isGate3 (k a b : Int) (i : Nat) (w : World) : Calls Try.prog 104 #[.agg #[.int .i64 k, .int .i64 a, .int .i64 b], .int .i64 i] w fun e w' => e = .returned (.bool (gateB i ⟨k, a, b⟩)) ∧ Below w.heap.size w w' := by
  by_cases h1 : k = 1
  · subst h1
    by_cases ha : a = 0
    · subst ha
      by_cases hb : b = 0
      · subst hb
        have E : Hid (gateB i ⟨1, 0, 0⟩ = true) := Lib.hid (by simp [gateB])
        go_enter Try.func104, Try.ntmps104
        go_wp2
        go_ret
        exact ⟨ret_bool E.out.symm, below1 _ _⟩
      · have eb := beq_no hb
        have E : Hid (gateB i ⟨1, 0, b⟩ = false) := Lib.hid (by simp [gateB, hb])
        go_enter Try.func104, Try.ntmps104
        go_wp2
        go_ret
        exact ⟨ret_bool E.out.symm, below1 _ _⟩
    · have ea := beq_no ha
      have E : Hid (gateB i ⟨1, a, b⟩ = false) := Lib.hid (by simp [gateB, ha])
      go_enter Try.func104, Try.ntmps104
      go_wp2
      go_ret
      exact ⟨ret_bool E.out.symm, below1 _ _⟩
  have e1 := beq_no h1
  by_cases h2 : k = 2
  · subst h2
    cases qa : ixB a i
    · have E : Hid (gateB i ⟨2, a, b⟩ = false) := Lib.hid (by simp [gateB, qa])
      go_enter Try.func104, Try.ntmps104
      go_wp2_with (go_at_call 109; refine (isIndex_any _ i _).mono ?_; rintro e w' ⟨rfl, rfl⟩; first | rw [qa])
      go_ret
      exact ⟨ret_bool E.out.symm, below1 _ _⟩
    · by_cases hb : b = 0
      · subst hb
        have E : Hid (gateB i ⟨2, a, 0⟩ = true) := Lib.hid (by simp [gateB, qa])
        go_enter Try.func104, Try.ntmps104
        go_wp2_with (go_at_call 109; refine (isIndex_any _ i _).mono ?_; rintro e w' ⟨rfl, rfl⟩; first | rw [qa])
        go_ret
        exact ⟨ret_bool E.out.symm, below1 _ _⟩
      · have eb := beq_no hb
        have E : Hid (gateB i ⟨2, a, b⟩ = false) := Lib.hid (by simp [gateB, qa, hb])
        go_enter Try.func104, Try.ntmps104
        go_wp2_with (go_at_call 109; refine (isIndex_any _ i _).mono ?_; rintro e w' ⟨rfl, rfl⟩; first | rw [qa])
        go_ret
        exact ⟨ret_bool E.out.symm, below1 _ _⟩
  have e2 := beq_no h2
  by_cases h3 : k = 3
  · subst h3
    cases qa : ixB a i
    · have E : Hid (gateB i ⟨3, a, b⟩ = false) := Lib.hid (by simp [gateB, qa])
      go_enter Try.func104, Try.ntmps104
      go_wp2_with (go_at_call 109; refine (isIndex_any _ i _).mono ?_; rintro e w' ⟨rfl, rfl⟩; first | rw [qa])
      go_ret
      exact ⟨ret_bool E.out.symm, below1 _ _⟩
    · cases qb : ixB b i
      · have E : Hid (gateB i ⟨3, a, b⟩ = false) := Lib.hid (by simp [gateB, qa, qb])
        go_enter Try.func104, Try.ntmps104
        go_wp2_with (go_at_call 109; refine (isIndex_any _ i _).mono ?_; rintro e w' ⟨rfl, rfl⟩; first | rw [qa] | rw [qb])
        go_ret
        exact ⟨ret_bool E.out.symm, below1 _ _⟩
      · have E : Hid (gateB i ⟨3, a, b⟩ = true) := Lib.hid (by simp [gateB, qa, qb])
        go_enter Try.func104, Try.ntmps104
        go_wp2_with (go_at_call 109; refine (isIndex_any _ i _).mono ?_; rintro e w' ⟨rfl, rfl⟩; first | rw [qa] | rw [qb])
        go_ret
        exact ⟨ret_bool E.out.symm, below1 _ _⟩
  have e3 := beq_no h3
  by_cases h4 : k = 4
  · subst h4
    cases qa : ixB a i
    · have E : Hid (gateB i ⟨4, a, b⟩ = false) := Lib.hid (by simp [gateB, qa])
      go_enter Try.func104, Try.ntmps104
      go_wp2_with (go_at_call 109; refine (isIndex_any _ i _).mono ?_; rintro e w' ⟨rfl, rfl⟩; first | rw [qa])
      go_ret
      exact ⟨ret_bool E.out.symm, below1 _ _⟩
    · cases qb : ixB b i
      · have E : Hid (gateB i ⟨4, a, b⟩ = false) := Lib.hid (by simp [gateB, qa, qb])
        go_enter Try.func104, Try.ntmps104
        go_wp2_with (go_at_call 109; refine (isIndex_any _ i _).mono ?_; rintro e w' ⟨rfl, rfl⟩; first | rw [qa] | rw [qb])
        go_ret
        exact ⟨ret_bool E.out.symm, below1 _ _⟩
      · have E : Hid (gateB i ⟨4, a, b⟩ = true) := Lib.hid (by simp [gateB, qa, qb])
        go_enter Try.func104, Try.ntmps104
        go_wp2_with (go_at_call 109; refine (isIndex_any _ i _).mono ?_; rintro e w' ⟨rfl, rfl⟩; first | rw [qa] | rw [qb])
        go_ret
        exact ⟨ret_bool E.out.symm, below1 _ _⟩
  have e4 := beq_no h4
  by_cases h5 : k = 5
  · subst h5
    cases qa : ixB a i
    · have E : Hid (gateB i ⟨5, a, b⟩ = false) := Lib.hid (by simp [gateB, qa])
      go_enter Try.func104, Try.ntmps104
      go_wp2_with (go_at_call 109; refine (isIndex_any _ i _).mono ?_; rintro e w' ⟨rfl, rfl⟩; first | rw [qa])
      go_ret
      exact ⟨ret_bool E.out.symm, below1 _ _⟩
    · cases qb : ixB b i
      · have E : Hid (gateB i ⟨5, a, b⟩ = false) := Lib.hid (by simp [gateB, qa, qb])
        go_enter Try.func104, Try.ntmps104
        go_wp2_with (go_at_call 109; refine (isIndex_any _ i _).mono ?_; rintro e w' ⟨rfl, rfl⟩; first | rw [qa] | rw [qb])
        go_ret
        exact ⟨ret_bool E.out.symm, below1 _ _⟩
      · have E : Hid (gateB i ⟨5, a, b⟩ = true) := Lib.hid (by simp [gateB, qa, qb])
        go_enter Try.func104, Try.ntmps104
        go_wp2_with (go_at_call 109; refine (isIndex_any _ i _).mono ?_; rintro e w' ⟨rfl, rfl⟩; first | rw [qa] | rw [qb])
        go_ret
        exact ⟨ret_bool E.out.symm, below1 _ _⟩
  have e5 := beq_no h5
  have E : Hid (gateB i ⟨k, a, b⟩ = false) := Lib.hid (by simp [gateB, h1, h2, h3, h4, h5])
  go_enter Try.func104, Try.ntmps104
  go_wp2
  go_ret
  exact ⟨ret_bool E.out.symm, below1 _ _⟩
theorem isGate_any (x : Gt) (i : Nat) (w : World) : Calls Try.prog 104 #[.agg #[.int .i64 x.k, .int .i64 x.a, .int .i64 x.b], .int .i64 i] w fun e w' => e = .returned (.bool (gateB i x)) ∧ Below w.heap.size w w' := isGate3 x.k x.a x.b i w
set_option maxRecDepth 100000 in
set_option maxHeartbeats 4000000 in
theorem implGoodG_any (A : Option Addr) (n cap : Nat) (xs : List Gt) (w : World) (hl : Hid (GLies w A xs)) (HX : Hid (xs.length = n)) (hn : n ≤ 1048576) :
    Calls Try.prog 35 #[.slice A n cap] w fun e w' => e = .returned (.bool (goodGB xs)) ∧ Below w.heap.size w w' := by
  by_cases h1 : n < 1
  · have E : Hid (goodGB xs = false) := Lib.hid (goodG_long HX.out (.inl h1))
    go_enter Try.func35, Try.ntmps35
    go_wp2
    go_ret
    exact ⟨ret_bool E.out.symm, Below.refl _ _⟩
  by_cases h2 : 12 < n
  · have E : Hid (goodGB xs = false) := Lib.hid (goodG_long HX.out (.inr h2))
    go_enter Try.func35, Try.ntmps35
    go_wp2
    go_ret
    exact ⟨ret_bool E.out.symm, Below.refl _ _⟩
  go_enter Try.func35, Try.ntmps35
  go_wp2_with fail
  go_loopw [15] (fun i wr => ∃ k : Nat, k ≤ n ∧ i = .int .i64 k ∧ GK xs k ∧ Below w.heap.size w wr) (fun i _ => n - (intOf i).toNat)
  case atStart => exact ⟨0, Nat.zero_le _, rfl, GK.zero _, Below.refl _ _⟩
  case round =>
    obtain ⟨k, hk, rfl, hf, hb⟩ := hrel
    have F1 := Lib.hid hf
    have B1 := Lib.hid hb
    clear hf hb
    by_cases hlt : k < n
    · obtain ⟨x, hx⟩ : ∃ x, xs[k]? = some x := ⟨_, List.getElem?_eq_getElem (by have := HX.out; omega)⟩
      obtain ⟨b, off, rfl, hbl, ha⟩ := (hl.out.below B1.out) k x hx
      have HXK := Lib.hid hx
      clear hx
      obtain ⟨e0, e1, e2⟩ := ha
      cases q : gateB k x
      · have E := Lib.hid (goodG_not HXK.out q)
        go_wp2_with (go_at_call 104; refine (isGate_any x k _).mono ?_; rintro e w3 ⟨rfl, hb3⟩; rw [q]; have B3 := Lib.hid (Below.tr (Below.tr B1.out (below1 _ _)) hb3); clear hb3)
        go_ret
        exact ⟨ret_bool E.out.symm, B3.out⟩
      · have F2 := Lib.hid (F1.out.succ HXK.out q)
        go_wp2_with (go_at_call 104; refine (isGate_any x k _).mono ?_; rintro e w3 ⟨rfl, hb3⟩; rw [q]; have B3 := Lib.hid (Below.tr (Below.tr B1.out (below1 _ _)) hb3); clear hb3)
        go_roundw
        case rel => exact ⟨k + 1, by omega, by go_num, F2.out, B3.out⟩
        case measure => simp [intOf]; omega
    · obtain rfl : k = n := by omega
      have E : Hid (goodGB xs = true) := Lib.hid (by rw [goodG_end F1.out HX.out]; simp; omega)
      go_wp2
      go_ret
      exact ⟨ret_bool E.out.symm, B1.out⟩
theorem newsG (w : World) (B : Obj) (l : List Value) (t : TypeId) : ∀ j u, l[j]? = some u → ((w.alloc B).alloc (.cells l.toArray t)).cell? ((⟨w.heap.size + 1, 0, none⟩ : Addr).add j) = some u := by
  have h := heap_alloc_new (w.alloc B) (.cells l.toArray t)
  have hs : (w.alloc B).heap.size = w.heap.size + 1 := by simp
  rw [hs] at h
  exact World.news_of_block h
theorem one_newG (w : World) (B : Obj) (v : Value) (t : TypeId) : ∀ j u, [v][j]? = some u → ((w.alloc B).alloc (.cells #[v] t)).cell? ((⟨w.heap.size + 1, 0, none⟩ : Addr).add j) = some u := newsG w B [v] t
/-- it answers a slice of ints of its own -/
def GaveIL (w : World) (l : List Int) (e : Ending) (w' : World) : Prop :=
  ∃ A c, e = .returned (.slice A l.length c) ∧ w'.ownsRow w.heap.size 3 1 (.slice A l.length c) l.length (l.map (Value.int .i64)) ∧ Below w.heap.size w w'
set_option maxRecDepth 100000 in
set_option maxHeartbeats 4000000 in
theorem inputsI_any (A : Option Addr) (n cap : Nat) (xs : List Gt) (w : World) (hl : Hid (GLies w A xs)) (HX : Hid (xs.length = n)) (hn : n ≤ 1048576) :
    Calls Try.prog 99 #[.slice A n cap] w (GaveIL w (inpI xs n)) := by
  obtain ⟨i0, hi0, hz0, hz1, hz2⟩ := info_parts info_int
  go_enter Try.func99, Try.ntmps99
  go_wp2_with fail
  go_loopw [3, 8] (fun v i wr => ∃ k : Nat, k ≤ n ∧ i = .int .i64 k ∧ (∃ A2 c2, v = .slice A2 (inpI xs k).length c2 ∧ wr.ownsRow w.heap.size 3 1 (.slice A2 (inpI xs k).length c2) (inpI xs k).length ((inpI xs k).map (Value.int .i64))) ∧ Below w.heap.size w wr) (fun _ i _ => n - (intOf i).toNat)
  case atStart => exact ⟨0, Nat.zero_le _, rfl, ⟨none, 0, rfl, World.ownsRow_nil _ _ _ _⟩, Below.refl _ _⟩
  case round =>
    obtain ⟨k, hk, rfl, ⟨A2, c2, rfl, hown⟩, hbw⟩ := hrel
    obtain ⟨m, hm⟩ : ∃ m, (inpI xs k).length = m := ⟨_, rfl⟩
    have hmk : m ≤ k := by rw [← hm, inpI_len]; exact inpN_le _ _
    rw [hm] at hown ⊢
    have HM := Lib.hid hm
    have O2 := Lib.hid hown
    have B2 := Lib.hid hbw
    clear hm hown hbw
    by_cases hlt : k < n
    · obtain ⟨x, hx⟩ : ∃ x, xs[k]? = some x := ⟨_, List.getElem?_eq_getElem (by have := HX.out; omega)⟩
      obtain ⟨b, off, rfl, hbl, ha⟩ := (hl.out.below B2.out) k x hx
      have HXK := Lib.hid hx
      clear hx
      obtain ⟨e0, e1, e2⟩ := ha
      by_cases q : x.k = 1
      · have E := Lib.hid (inpI_yes HXK.out q)
        have q1 : (x.k == 1) = true := by simp [q]
        clear q
        have B3 := Lib.hid (Below.tr B2.out (below1 wr (.cells #[.int .i64 x.k, .int .i64 x.a, .int .i64 x.b] 120)))
        have O3 := Lib.hid (own_below O2.out (below1 wr (.cells #[.int .i64 x.k, .int .i64 x.a, .int .i64 x.b] 120)))
        go_wp2_with (at_builtin; (refine wpList_append_lies _ rfl _ _ 55 rfl w.heap.size 3 i0 (.int .i64 0) 1 8 Try.underlying55 hi0 hz0 hz1 hz2 rfl (by omega) _ m _ rfl ((O2.out.alloc _).alloc _) ⟨wr.heap.size + 1, 0, none⟩ 1 1 [.int .i64 k] rfl rfl (by exact one_newG wr _ _ _) (by intro u hu; rw [List.mem_singleton.1 hu]; rfl) (by omega) (by unfold maxLen; omega) (by omega) (by have := B2.out.size; first | omega | (simp; omega)) (wr.heap.size + 1 + 1) (by first | rfl | simp) ?_; intro g3 cap3 w3 hown3 hg3 hat3 hlt3; have H3 := Lib.hid (app1 O3.out hown3 hg3 B3.out (Nat.le_refl _)); clear hown3 hg3 hat3 hlt3))
        go_roundw
        case rel => exact ⟨k + 1, by omega, by go_num, by rw [E.out, List.length_append, HM.out]; exact ⟨_, _, rfl, H3.out.1⟩, H3.out.2⟩
        case measure => simp [intOf]; omega
      · have E := Lib.hid (inpI_no HXK.out q)
        have q1 := beq_no q
        go_wp2
        go_roundw
        case rel => exact ⟨k + 1, by omega, by go_num, by rw [E.out, HM.out]; exact ⟨_, _, rfl, own_below O2.out (below1 _ _)⟩, Below.tr B2.out (below1 _ _)⟩
        case measure => simp [intOf]; omega
    · obtain rfl : k = n := by omega
      go_wp2
      go_ret
      exact ⟨A2, c2, by rw [HM.out]; rfl, by rw [HM.out]; exact O2.out, B2.out⟩
set_option maxRecDepth 100000 in
set_option maxHeartbeats 4000000 in
theorem inputsS_any (A : Option Addr) (n cap : Nat) (xs : List Gt) (w : World) (hl : Hid (GLies w A xs)) (HX : Hid (xs.length = n)) (hn : n ≤ 1048576) :
    Calls Try.prog 101 #[.slice A n cap] w (GaveIL w (inpI xs n)) := by
  obtain ⟨i0, hi0, hz0, hz1, hz2⟩ := info_parts info_int
  go_enter Try.func101, Try.ntmps101
  go_wp2_with fail
  go_loopw [3, 8] (fun v i wr => ∃ k : Nat, k ≤ n ∧ i = .int .i64 k ∧ (∃ A2 c2, v = .slice A2 (inpI xs k).length c2 ∧ wr.ownsRow w.heap.size 3 1 (.slice A2 (inpI xs k).length c2) (inpI xs k).length ((inpI xs k).map (Value.int .i64))) ∧ Below w.heap.size w wr) (fun _ i _ => n - (intOf i).toNat)
  case atStart => exact ⟨0, Nat.zero_le _, rfl, ⟨none, 0, rfl, World.ownsRow_nil _ _ _ _⟩, Below.refl _ _⟩
  case round =>
    obtain ⟨k, hk, rfl, ⟨A2, c2, rfl, hown⟩, hbw⟩ := hrel
    obtain ⟨m, hm⟩ : ∃ m, (inpI xs k).length = m := ⟨_, rfl⟩
    have hmk : m ≤ k := by rw [← hm, inpI_len]; exact inpN_le _ _
    rw [hm] at hown ⊢
    have HM := Lib.hid hm
    have O2 := Lib.hid hown
    have B2 := Lib.hid hbw
    clear hm hown hbw
    by_cases hlt : k < n
    · obtain ⟨x, hx⟩ : ∃ x, xs[k]? = some x := ⟨_, List.getElem?_eq_getElem (by have := HX.out; omega)⟩
      obtain ⟨b, off, rfl, hbl, ha⟩ := (hl.out.below B2.out) k x hx
      have HXK := Lib.hid hx
      clear hx
      obtain ⟨e0, e1, e2⟩ := ha
      by_cases q : x.k = 1
      · have E := Lib.hid (inpI_yes HXK.out q)
        have q1 : (x.k == 1) = true := by simp [q]
        clear q
        have B3 := Lib.hid (Below.tr B2.out (below1 wr (.cells #[.int .i64 x.k, .int .i64 x.a, .int .i64 x.b] 120)))
        have O3 := Lib.hid (own_below O2.out (below1 wr (.cells #[.int .i64 x.k, .int .i64 x.a, .int .i64 x.b] 120)))
        go_wp2_with (at_builtin; (refine wpList_append_lies _ rfl _ _ 55 rfl w.heap.size 3 i0 (.int .i64 0) 1 8 Try.underlying55 hi0 hz0 hz1 hz2 rfl (by omega) _ m _ rfl ((O2.out.alloc _).alloc _) ⟨wr.heap.size + 1, 0, none⟩ 1 1 [.int .i64 k] rfl rfl (by exact one_newG wr _ _ _) (by intro u hu; rw [List.mem_singleton.1 hu]; rfl) (by omega) (by unfold maxLen; omega) (by omega) (by have := B2.out.size; first | omega | (simp; omega)) (wr.heap.size + 1 + 1) (by first | rfl | simp) ?_; intro g3 cap3 w3 hown3 hg3 hat3 hlt3; have H3 := Lib.hid (app1 O3.out hown3 hg3 B3.out (Nat.le_refl _)); clear hown3 hg3 hat3 hlt3))
        go_roundw
        case rel => exact ⟨k + 1, by omega, by go_num, by rw [E.out, List.length_append, HM.out]; exact ⟨_, _, rfl, H3.out.1⟩, H3.out.2⟩
        case measure => simp [intOf]; omega
      · have E := Lib.hid (inpI_no HXK.out q)
        have q1 := beq_no q
        go_wp2
        go_roundw
        case rel => exact ⟨k + 1, by omega, by go_num, by rw [E.out, HM.out]; exact ⟨_, _, rfl, own_below O2.out (below1 _ _)⟩, Below.tr B2.out (below1 _ _)⟩
        case measure => simp [intOf]; omega
    · obtain rfl : k = n := by omega
      go_wp2
      go_ret
      exact ⟨A2, c2, by rw [HM.out]; rfl, by rw [HM.out]; exact O2.out, B2.out⟩
theorem inB_ix (a : Int) (k : Nat) : inB 0 ((k : Int) - 1) a = ixB a k := by
  unfold inB ixB
  rw [Bool.eq_iff_iff]
  simp
  omega
set_option maxRecDepth 100000 in
set_option maxHeartbeats 8000000 in
theorem specGoodG_any (A : Option Addr) (n cap : Nat) (xs : List Gt) (w : World) (hl : Hid (GLies w A xs)) (HX : Hid (xs.length = n)) (hn : n ≤ 1048576) :
    Calls Try.prog 60 #[.slice A n cap] w fun e w' => e = .returned (.bool (goodGB xs)) ∧ Below w.heap.size w w' := by
  go_enter Try.func60, Try.ntmps60
  go_wp2_with fail
  go_loopw [9] (fun i wr => ∃ k : Nat, k ≤ n ∧ i = .int .i64 k ∧ GK xs k ∧ Below w.heap.size w wr) (fun i _ => n - (intOf i).toNat)
  case atStart => exact ⟨0, Nat.zero_le _, rfl, GK.zero _, Below.refl _ _⟩
  case round =>
    obtain ⟨k, hk, rfl, hf, hb⟩ := hrel
    have F1 := Lib.hid hf
    have B1 := Lib.hid hb
    clear hf hb
    by_cases hlt : k < n
    · obtain ⟨x, hx⟩ : ∃ x, xs[k]? = some x := ⟨_, List.getElem?_eq_getElem (by have := HX.out; omega)⟩
      obtain ⟨b, off, rfl, hbl, ha⟩ := (hl.out.below B1.out) k x hx
      have HXK := Lib.hid hx
      clear hx
      obtain ⟨e0, e1, e2⟩ := ha
      by_cases h1 : x.k = 1
      · have g1 : (x.k == 1) = true := by simp [h1]
        by_cases ha : x.a = 0
        · have ea : (x.a != 0) = false := by simp [ha]
          by_cases hb : x.b = 0
          · have eb : (x.b != 0) = false := by simp [hb]
            have V : Hid (gateB k x = true) := Lib.hid (by simp [gateB, h1, ha, hb])
            have F2 := Lib.hid (F1.out.succ HXK.out V.out)
            go_wp2_with (go_at_call 94; refine (l1In_any _ _ _ _).mono ?_; rintro e w' ⟨rfl, rfl⟩; rw [inB_ix])
            go_roundw
            case rel => exact ⟨k + 1, by omega, by go_num, F2.out, Below.tr B1.out (below1 _ _)⟩
            case measure => simp [intOf]; omega
          · have eb := bne_yes hb
            have V : Hid (gateB k x = false) := Lib.hid (by simp [gateB, h1, ha, hb])
            have E := Lib.hid (goodG_not HXK.out V.out)
            go_wp2_with (go_at_call 94; refine (l1In_any _ _ _ _).mono ?_; rintro e w' ⟨rfl, rfl⟩; rw [inB_ix])
            go_ret
            exact ⟨ret_bool E.out.symm, Below.tr B1.out (below1 _ _)⟩
        · have ea := bne_yes ha
          have V : Hid (gateB k x = false) := Lib.hid (by simp [gateB, h1, ha])
          have E := Lib.hid (goodG_not HXK.out V.out)
          go_wp2_with (go_at_call 94; refine (l1In_any _ _ _ _).mono ?_; rintro e w' ⟨rfl, rfl⟩; rw [inB_ix])
          go_ret
          exact ⟨ret_bool E.out.symm, Below.tr B1.out (below1 _ _)⟩
      have e11 := beq_no h1
      by_cases h2 : x.k = 2
      · have g2 : (x.k == 2) = true := by simp [h2]
        cases qa : ixB x.a k
        · have V : Hid (gateB k x = false) := Lib.hid (by simp [gateB, h2, qa])
          have E := Lib.hid (goodG_not HXK.out V.out)
          go_wp2_with (go_at_call 94; refine (l1In_any _ _ _ _).mono ?_; rintro e w' ⟨rfl, rfl⟩; rw [inB_ix]; first | rw [qa] | skip)
          go_ret
          exact ⟨ret_bool E.out.symm, Below.tr B1.out (below1 _ _)⟩
        · by_cases hb : x.b = 0
          · have eb : (x.b != 0) = false := by simp [hb]
            have V : Hid (gateB k x = true) := Lib.hid (by simp [gateB, h2, qa, hb])
            have F2 := Lib.hid (F1.out.succ HXK.out V.out)
            go_wp2_with (go_at_call 94; refine (l1In_any _ _ _ _).mono ?_; rintro e w' ⟨rfl, rfl⟩; rw [inB_ix]; first | rw [qa] | skip)
            go_roundw
            case rel => exact ⟨k + 1, by omega, by go_num, F2.out, Below.tr B1.out (below1 _ _)⟩
            case measure => simp [intOf]; omega
          · have eb := bne_yes hb
            have V : Hid (gateB k x = false) := Lib.hid (by simp [gateB, h2, qa, hb])
            have E := Lib.hid (goodG_not HXK.out V.out)
            go_wp2_with (go_at_call 94; refine (l1In_any _ _ _ _).mono ?_; rintro e w' ⟨rfl, rfl⟩; rw [inB_ix]; first | rw [qa] | skip)
            go_ret
            exact ⟨ret_bool E.out.symm, Below.tr B1.out (below1 _ _)⟩
      have e12 := beq_no h2
      by_cases h3 : x.k = 3
      · have g3 : (x.k == 3) = true := by simp [h3]
        cases qa : ixB x.a k
        · have V : Hid (gateB k x = false) := Lib.hid (by simp [gateB, h3, qa])
          have E := Lib.hid (goodG_not HXK.out V.out)
          go_wp2_with (go_at_call 94; refine (l1In_any _ _ _ _).mono ?_; rintro e w' ⟨rfl, rfl⟩; rw [inB_ix]; first | rw [qa] | skip)
          go_ret
          exact ⟨ret_bool E.out.symm, Below.tr B1.out (below1 _ _)⟩
        · cases qb : ixB x.b k
          · have V : Hid (gateB k x = false) := Lib.hid (by simp [gateB, h3, qa, qb])
            have E := Lib.hid (goodG_not HXK.out V.out)
            go_wp2_with (go_at_call 94; refine (l1In_any _ _ _ _).mono ?_; rintro e w' ⟨rfl, rfl⟩; rw [inB_ix]; first | rw [qa] | rw [qb] | skip)
            go_ret
            exact ⟨ret_bool E.out.symm, Below.tr B1.out (below1 _ _)⟩
          · have V : Hid (gateB k x = true) := Lib.hid (by simp [gateB, h3, qa, qb])
            have F2 := Lib.hid (F1.out.succ HXK.out V.out)
            go_wp2_with (go_at_call 94; refine (l1In_any _ _ _ _).mono ?_; rintro e w' ⟨rfl, rfl⟩; rw [inB_ix]; first | rw [qa] | rw [qb] | skip)
            go_roundw
            case rel => exact ⟨k + 1, by omega, by go_num, F2.out, Below.tr B1.out (below1 _ _)⟩
            case measure => simp [intOf]; omega
      have e13 := beq_no h3
      by_cases h4 : x.k = 4
      · have g4 : (x.k == 4) = true := by simp [h4]
        cases qa : ixB x.a k
        · have V : Hid (gateB k x = false) := Lib.hid (by simp [gateB, h4, qa])
          have E := Lib.hid (goodG_not HXK.out V.out)
          go_wp2_with (go_at_call 94; refine (l1In_any _ _ _ _).mono ?_; rintro e w' ⟨rfl, rfl⟩; rw [inB_ix]; first | rw [qa] | skip)
          go_ret
          exact ⟨ret_bool E.out.symm, Below.tr B1.out (below1 _ _)⟩
        · cases qb : ixB x.b k
          · have V : Hid (gateB k x = false) := Lib.hid (by simp [gateB, h4, qa, qb])
            have E := Lib.hid (goodG_not HXK.out V.out)
            go_wp2_with (go_at_call 94; refine (l1In_any _ _ _ _).mono ?_; rintro e w' ⟨rfl, rfl⟩; rw [inB_ix]; first | rw [qa] | rw [qb] | skip)
            go_ret
            exact ⟨ret_bool E.out.symm, Below.tr B1.out (below1 _ _)⟩
          · have V : Hid (gateB k x = true) := Lib.hid (by simp [gateB, h4, qa, qb])
            have F2 := Lib.hid (F1.out.succ HXK.out V.out)
            go_wp2_with (go_at_call 94; refine (l1In_any _ _ _ _).mono ?_; rintro e w' ⟨rfl, rfl⟩; rw [inB_ix]; first | rw [qa] | rw [qb] | skip)
            go_roundw
            case rel => exact ⟨k + 1, by omega, by go_num, F2.out, Below.tr B1.out (below1 _ _)⟩
            case measure => simp [intOf]; omega
      have e14 := beq_no h4
      by_cases h5 : x.k = 5
      · have g5 : (x.k == 5) = true := by simp [h5]
        cases qa : ixB x.a k
        · have V : Hid (gateB k x = false) := Lib.hid (by simp [gateB, h5, qa])
          have E := Lib.hid (goodG_not HXK.out V.out)
          go_wp2_with (go_at_call 94; refine (l1In_any _ _ _ _).mono ?_; rintro e w' ⟨rfl, rfl⟩; rw [inB_ix]; first | rw [qa] | skip)
          go_ret
          exact ⟨ret_bool E.out.symm, Below.tr B1.out (below1 _ _)⟩
        · cases qb : ixB x.b k
          · have V : Hid (gateB k x = false) := Lib.hid (by simp [gateB, h5, qa, qb])
            have E := Lib.hid (goodG_not HXK.out V.out)
            go_wp2_with (go_at_call 94; refine (l1In_any _ _ _ _).mono ?_; rintro e w' ⟨rfl, rfl⟩; rw [inB_ix]; first | rw [qa] | rw [qb] | skip)
            go_ret
            exact ⟨ret_bool E.out.symm, Below.tr B1.out (below1 _ _)⟩
          · have V : Hid (gateB k x = true) := Lib.hid (by simp [gateB, h5, qa, qb])
            have F2 := Lib.hid (F1.out.succ HXK.out V.out)
            go_wp2_with (go_at_call 94; refine (l1In_any _ _ _ _).mono ?_; rintro e w' ⟨rfl, rfl⟩; rw [inB_ix]; first | rw [qa] | rw [qb] | skip)
            go_roundw
            case rel => exact ⟨k + 1, by omega, by go_num, F2.out, Below.tr B1.out (below1 _ _)⟩
            case measure => simp [intOf]; omega
      have e15 := beq_no h5
      have V : Hid (gateB k x = false) := Lib.hid (by simp [gateB, h1, h2, h3, h4, h5])
      have E := Lib.hid (goodG_not HXK.out V.out)
      go_wp2_with (go_at_call 94; refine (l1In_any _ _ _ _).mono ?_; rintro e w' ⟨rfl, rfl⟩; rw [inB_ix])
      go_ret
      exact ⟨ret_bool E.out.symm, Below.tr B1.out (below1 _ _)⟩
    · obtain rfl : k = n := by omega
      have E : Hid (goodGB xs = inB 1 12 (k : Int)) := Lib.hid (by rw [goodG_end F1.out HX.out]; unfold inB; rw [Bool.eq_iff_iff]; simp; omega)
      go_wp2_with (go_at_call 94; refine (l1In_any _ _ _ _).mono ?_; rintro e w' ⟨rfl, rfl⟩)
      go_ret
      exact ⟨ret_bool E.out.symm, B1.out⟩
end Go.Proofs.Ytklcfbjaodildaa
