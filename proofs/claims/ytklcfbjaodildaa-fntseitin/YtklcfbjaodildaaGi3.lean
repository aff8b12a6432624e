/-
  The rules of gates are made; the output as a function; the values; the first inputs that are wanted: the program's.
-/
import Derived.Test.YtklcfbjaodildaaGi2
import Derived.Test.YtklcfbjaodildaaCountM
import Derived.Laws.EntriesVeiled
namespace Go.Proofs.Ytklcfbjaodildaa
open Go.ChangeShapes Go.WideShapes Go.ChangeAt Go.RowKit

theorem RuleIs.base {w : World} {lo lo' j : Nat} {v : Value} {x : Gt} (h : RuleIs w lo v x j) (hl : lo' ≤ lo) : RuleIs w lo' v x j := by
  obtain ⟨g, h1, h2⟩ := h
  exact ⟨g, by omega, h2⟩
set_option maxRecDepth 100000 in
set_option maxHeartbeats 400000 in
theorem inputRule_any (x : Gt) (j : Nat) (w : World) (hk : x.k = 1) :
    Calls Try.prog 142 #[.int .i64 j] w fun e w' => ∃ K g, e = .returned (.func (.func K) #[] #[.pointer (some ⟨g, 0, none⟩)]) ∧ RuleIs w' w.heap.size (.func (.func K) #[] #[.pointer (some ⟨g, 0, none⟩)]) x j ∧ Below w.heap.size w w' := by
  go_enter Try.func142, Try.ntmps142
  go_wp2
  go_ret
  exact ⟨_, _, rfl, ⟨w.heap.size, Nat.le_refl _, by simp, .inl ⟨hk, rfl, (show Blk _ w.heap.size 3 [.int .i64 j] from heap_alloc_new w _).cell 0⟩⟩, below1 _ _⟩
theorem gat_new (w : World) (x : Gt) : GAt (w.alloc (.cells #[.int .i64 x.k, .int .i64 x.a, .int .i64 x.b] 120)) w.heap.size 0 x :=
  have h : Blk (w.alloc (.cells #[.int .i64 x.k, .int .i64 x.a, .int .i64 x.b] 120)) w.heap.size 120 x.cells := heap_alloc_new w _
  gat_of_cells fun j _ => by rw [Nat.zero_add]; exact h.cell j
set_option maxRecDepth 100000 in
set_option maxHeartbeats 2000000 in
theorem gateRule_any (x : Gt) (j : Nat) (w : World) (hk : x.k = 2 ∨ x.k = 3 ∨ x.k = 4 ∨ x.k = 5) :
    Calls Try.prog 143 #[.agg #[.int .i64 x.k, .int .i64 x.a, .int .i64 x.b]] w fun e w' => ∃ K g, e = .returned (.func (.func K) #[] #[.pointer (some ⟨g, 0, none⟩)]) ∧ RuleIs w' w.heap.size (.func (.func K) #[] #[.pointer (some ⟨g, 0, none⟩)]) x j ∧ Below w.heap.size w w' := by
  have GN := Lib.hid (gat_new w x)
  have BN := Lib.hid (below1 w (.cells #[.int .i64 x.k, .int .i64 x.a, .int .i64 x.b] 120))
  have SN : Hid (w.heap.size < (w.alloc (.cells #[.int .i64 x.k, .int .i64 x.a, .int .i64 x.b] 120)).heap.size) := Lib.hid (by simp)
  rcases hk with hk | hk | hk | hk
  · have HK := Lib.hid hk
    have e2 : (x.k == 2) = true := by rw [hk]; rfl
    have e3 : (x.k == 3) = false := by rw [hk]; rfl
    have e4 : (x.k == 4) = false := by rw [hk]; rfl
    clear hk
    go_enter Try.func143, Try.ntmps143
    go_wp2
    go_ret
    exact ⟨_, _, rfl, ⟨w.heap.size, Nat.le_refl _, SN.out, .inr (.inl ⟨HK.out, rfl, GN.out⟩)⟩, BN.out⟩
  · have HK := Lib.hid hk
    have e2 : (x.k == 2) = false := by rw [hk]; rfl
    have e3 : (x.k == 3) = true := by rw [hk]; rfl
    have e4 : (x.k == 4) = false := by rw [hk]; rfl
    clear hk
    go_enter Try.func143, Try.ntmps143
    go_wp2
    go_ret
    exact ⟨_, _, rfl, ⟨w.heap.size, Nat.le_refl _, SN.out, .inr (.inr (.inl ⟨HK.out, rfl, GN.out⟩))⟩, BN.out⟩
  · have HK := Lib.hid hk
    have e2 : (x.k == 2) = false := by rw [hk]; rfl
    have e3 : (x.k == 3) = false := by rw [hk]; rfl
    have e4 : (x.k == 4) = true := by rw [hk]; rfl
    clear hk
    go_enter Try.func143, Try.ntmps143
    go_wp2
    go_ret
    exact ⟨_, _, rfl, ⟨w.heap.size, Nat.le_refl _, SN.out, .inr (.inr (.inr (.inl ⟨HK.out, rfl, GN.out⟩)))⟩, BN.out⟩
  · have HK := Lib.hid hk
    have e2 : (x.k == 2) = false := by rw [hk]; rfl
    have e3 : (x.k == 3) = false := by rw [hk]; rfl
    have e4 : (x.k == 4) = false := by rw [hk]; rfl
    clear hk
    go_enter Try.func143, Try.ntmps143
    go_wp2
    go_ret
    exact ⟨_, _, rfl, ⟨w.heap.size, Nat.le_refl _, SN.out, .inr (.inr (.inr (.inr ⟨HK.out, rfl, GN.out⟩)))⟩, BN.out⟩
/-- behind k rounds of the making of rules -/
def RCop (g : Nat) (xs : List Gt) (n k : Nat) (w : World) : Prop :=
  ∃ cur : List Value, Blk w g 164 cur ∧ cur.length = n ∧ ∀ j x, j < k → xs[j]? = some x → ∃ v, cur[j]? = some v ∧ RuleIs w (g + 1) v x (inpN xs j).length
theorem RCop.below {w w' : World} {g n k : Nat} {xs : List Gt} (h : RCop g xs n k w) (hb : Below w.heap.size w w') : RCop g xs n k w' := by
  obtain ⟨cur, h1, h2, h3⟩ := h
  exact ⟨cur, h1.below hb, h2, fun j x hj hx => by obtain ⟨v, a, b⟩ := h3 j x hj hx; exact ⟨v, a, b.below hb⟩⟩
theorem RCop.there {w : World} {g n k : Nat} {xs : List Gt} (h : RCop g xs n k w) (j : Nat) (hj : j < n) : ∃ v, w.cell? ⟨g, j, none⟩ = some v := by
  obtain ⟨cur, h1, h2, _⟩ := h
  exact ⟨_, (h1.cell j).trans (List.getElem?_eq_getElem (by omega))⟩
theorem RCop.free {w : World} {g n k : Nat} {xs : List Gt} (h : RCop g xs n k w) (j : Nat) : w.frozen? ⟨g, j, none⟩ = false := by
  obtain ⟨cur, h1, _⟩ := h
  exact h1.frozen j
theorem RCop.lt {w : World} {g n k : Nat} {xs : List Gt} (h : RCop g xs n k w) : g < w.heap.size := by
  obtain ⟨cur, h1, _⟩ := h
  exact h1.lt
theorem RCop.step {w : World} {g n k : Nat} {xs : List Gt} {x : Gt} {v : Value} (h : RCop g xs n k w) (hk : k < n) (hx : xs[k]? = some x) (hr : RuleIs w (g + 1) v x (inpN xs k).length) : RCop g xs n (k + 1) (w.setCell ⟨g, k, none⟩ v) := by
  obtain ⟨cur, h1, h2, h3⟩ := h
  refine ⟨_, h1.set k v, by simp [h2], fun j y hj hy => ?_⟩
  by_cases e : j = k
  · subst e
    rw [hx] at hy; injection hy with hy; subst hy
    exact ⟨v, by rw [List.getElem?_set]; simp; omega, hr.far (by omega) v⟩
  · obtain ⟨u, a, b⟩ := h3 j y (by omega) hy
    exact ⟨u, by rw [List.getElem?_set, if_neg (fun q => e q.symm)]; exact a, b.far (by omega) v⟩
theorem RCop.end_ {w : World} {g n : Nat} {xs : List Gt} (h : RCop g xs n n w) (hn : xs.length = n) : Rules w (some ⟨g, 0, none⟩) xs := by
  intro k x hx
  have hlt := (List.getElem?_eq_some_iff.1 hx).1
  have hg := h.lt
  obtain ⟨cur, h1, h2, h3⟩ := h
  obtain ⟨v, a, b⟩ := h3 k x (by omega) hx
  exact ⟨g, 0, v, rfl, hg, by rw [Nat.zero_add, h1.cell]; exact a, b.base (Nat.zero_le _)⟩
theorem info_rule : (Try.prog.info? 164).map (fun i => (i.zero, i.size, i.bytes)) = some (some .nilFunc, 1, 8) := by kernel_rfl
set_option maxRecDepth 100000 in
set_option maxHeartbeats 8000000 in
theorem rulesOf_any (A : Option Addr) (n cap : Nat) (xs : List Gt) (w : World) (hl : Hid (GLies w A xs)) (HX : Hid (xs.length = n)) (hn : n ≤ 12) (HG : Hid (goodGB xs = true)) :
    Calls Try.prog 106 #[.slice A n cap] w fun e w' => ∃ g, e = .returned (.slice (some ⟨g, 0, none⟩) n n) ∧ w.heap.size ≤ g ∧ Rules w' (some ⟨g, 0, none⟩) xs ∧ Below w.heap.size w w' := by
  obtain ⟨i0, hi0, hz0, hz1, hz2⟩ := info_parts info_rule
  go_enter Try.func106, Try.ntmps106
  go_wp2_with (at_make; (refine wpList_make_full _ rfl _ _ 130 rfl w.heap.size 164 i0 _ 1 Try.underlying130 hi0 hz0 hz1 _ _ _ _ n rfl rfl (by omega) (by omega) (by rw [hz2]; omega) (by unfold maxLen; omega) (Nat.le_refl _) ?_; intro w1 hown1 hg1; have HC : Hid (RCop w.heap.size xs n 0 w1) := Lib.hid ⟨_, vblk_of_own hown1, by have := hown1.1; simpa using this, fun j x hj => absurd hj (Nat.not_lt_zero _)⟩; have HB := Lib.hid ((Below.refl w.heap.size w).grown hg1 (Nat.le_refl _) (by simp)); clear hown1 hg1))
  go_loopw [4, 12] (fun c i wr => ∃ k : Nat, k ≤ n ∧ i = .int .i64 k ∧ c = .int .i64 ((inpN xs k).length : Nat) ∧ RCop w.heap.size xs n k wr ∧ Below w.heap.size w wr) (fun _ i _ => n - (intOf i).toNat)
  case atStart => exact ⟨0, Nat.zero_le _, rfl, rfl, HC.out, HB.out⟩
  case round =>
    obtain ⟨k, hk, rfl, rfl, hc, hb⟩ := hrel
    have C1 := Lib.hid hc
    have B1 := Lib.hid hb
    clear hc hb HC HB
    by_cases hlt : k < n
    · obtain ⟨x, hx⟩ : ∃ x, xs[k]? = some x := ⟨_, List.getElem?_eq_getElem (by have := HX.out; omega)⟩
      obtain ⟨b, off, rfl, hbl, ha⟩ := (hl.out.below B1.out) k x hx
      have HXK := Lib.hid hx
      have hgk := gateB_kind (goodG_at HG.out hx)
      clear hx
      obtain ⟨e0, e1, e2⟩ := ha
      have hik := inpN_le xs k
      obtain ⟨q, hq⟩ : ∃ q, (inpN xs k).length = q := ⟨_, rfl⟩
      rw [hq] at hik ⊢
      have HQ := Lib.hid hq
      clear hq
      have hlw := C1.out.lt
      by_cases h1 : x.k = 1
      · have q1 : (x.k == 1) = true := by simp [h1]
        have H1 := Lib.hid h1
        have E := Lib.hid (inpN_yes HXK.out h1)
        clear h1 hgk
        go_wp2_with fail
        refine (inputRule_any x q _ H1.out).mono ?_
        rintro e w2 ⟨K, g2, rfl, hr2, hb2⟩
        have hb3 := Below.tr (below1 wr _) hb2
        have C2 := Lib.hid (C1.out.below hb3)
        have B2 := Lib.hid (Below.tr B1.out hb3)
        have R2 := Lib.hid (hr2.base (lo' := w.heap.size + 1) (by simp; omega))
        clear hr2 hb2 hb3
        obtain ⟨v0, t0⟩ := C2.out.there k hlt
        have f0 := C2.out.free k
        go_wp2
        go_roundw
        case rel => exact ⟨k + 1, by omega, by go_num, by rw [E.out, List.length_append, HQ.out]; go_num, C2.out.step hlt HXK.out (by rw [HQ.out]; exact R2.out), B2.out.setCell (Nat.le_refl _) _⟩
        case measure => simp [intOf]; omega
      · have q1 := beq_no h1
        have H1 : Hid (x.k = 2 ∨ x.k = 3 ∨ x.k = 4 ∨ x.k = 5) := Lib.hid (by omega)
        have E := Lib.hid (inpN_no HXK.out h1)
        clear h1 hgk
        go_wp2_with fail
        refine (gateRule_any x q _ H1.out).mono ?_
        rintro e w2 ⟨K, g2, rfl, hr2, hb2⟩
        have hb3 := Below.tr (below1 wr _) hb2
        have C2 := Lib.hid (C1.out.below hb3)
        have B2 := Lib.hid (Below.tr B1.out hb3)
        have R2 := Lib.hid (hr2.base (lo' := w.heap.size + 1) (by simp; omega))
        clear hr2 hb2 hb3
        obtain ⟨v0, t0⟩ := C2.out.there k hlt
        have f0 := C2.out.free k
        go_wp2
        go_roundw
        case rel => exact ⟨k + 1, by omega, by go_num, by rw [E.out, HQ.out], C2.out.step hlt HXK.out (by rw [HQ.out]; exact R2.out), B2.out.setCell (Nat.le_refl _) _⟩
        case measure => simp [intOf]; omega
    · obtain rfl : k = n := by omega
      go_wp2
      go_ret
      exact ⟨_, rfl, Nat.le_refl _, C1.out.end_ HX.out, B1.out⟩
/-- the output of gates as a function: a closure that holds the rules -/
def outV (g : Nat) : Value := .func (.func 141) #[] #[.pointer (some ⟨g, 0, none⟩)]
def OutIs (w : World) (g n : Nat) (xs : List Gt) : Prop :=
  g < w.heap.size ∧ ∃ R, w.cell? ⟨g, 0, none⟩ = some (.slice (some ⟨R, 0, none⟩) n n) ∧ Rules w (some ⟨R, 0, none⟩) xs
theorem OutIs.below {w w' : World} {g n : Nat} {xs : List Gt} (h : OutIs w g n xs) (hb : Below w.heap.size w w') : OutIs w' g n xs := by
  obtain ⟨h1, R, h2, h3⟩ := h
  exact ⟨Nat.lt_of_lt_of_le h1 hb.size, R, ((bcell hb).1 _ _ h1).trans h2, h3.below hb⟩
set_option maxRecDepth 100000 in
set_option maxHeartbeats 2000000 in
theorem outputOf_any (A : Option Addr) (n cap : Nat) (xs : List Gt) (w : World) (hl : Hid (GLies w A xs)) (HX : Hid (xs.length = n)) (hn : n ≤ 12) (HG : Hid (goodGB xs = true)) :
    Calls Try.prog 100 #[.slice A n cap] w fun e w' => ∃ g, e = .returned (.func (.func 141) #[] #[.pointer (some ⟨g, 0, none⟩)]) ∧ OutIs w' g n xs ∧ Below w.heap.size w w' := by
  go_enter Try.func100, Try.ntmps100
  go_wp2_with fail
  refine (rulesOf_any A n cap xs _ hl HX hn HG).mono ?_
  rintro e w2 ⟨R, rfl, _, hr, hb⟩
  have R2 := Lib.hid hr
  have B2 := Lib.hid hb
  clear hr hb
  go_wp2
  go_ret
  exact ⟨_, rfl, ⟨by simp, R, (show Blk _ w2.heap.size 130 [.slice (some ⟨R, 0, none⟩) n n] from heap_alloc_new w2 _).cell 0, R2.out.below (below1 _ _)⟩, Below.tr B2.out (below1 _ _)⟩
end Go.Proofs.Ytklcfbjaodildaa
