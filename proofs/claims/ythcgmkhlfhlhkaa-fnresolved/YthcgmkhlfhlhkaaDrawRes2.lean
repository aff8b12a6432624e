/-
  Drawn clauses to resolve.
-/
import Derived.Test.YthcgmkhlfhlhkaaDrawRes
namespace Go.Proofs.Ythcgmkhlfhlhkaa
open Go.ChangeShapes Go.WideShapes Go.ChangeAt Go.RowKit

/-- an append of a slice of ints, nil and empty let in, onto a row of one's own -/
theorem wpList_append_ints {w1 : World} {base g k cap m c2 : Nat} {B : Option Addr} {xs l : List Int} {ops : Array Oper} {rest : List Oper} {o : Oper} {a : Act} {Q : Exit → Act → World → Prop} (s x : Operand)
    (hg : o.guard = none) (hop : o.op = Op.call { callee := Callee.builtin Builtin.append, args := #[s, x], argTypes := #[24, 24] })
    (hs : a.eval s = .slice (some ⟨g, 0, none⟩) k cap) (hx : a.eval x = .slice B m c2) (ho : w1.ownsRow base 3 1 (.slice (some ⟨g, 0, none⟩) k cap) k (xs.map (Value.int .i64)))
    (hl : ILies w1 B l) (hm : l.length = m) (HN : B = none → m = 0 ∧ c2 = 0) (hb : base ≤ w1.heap.size) (hk : k ≤ 10000) (hmm : m ≤ 10000)
    (hK : ∀ A2 cc w2, w2.ownsRow base 3 1 (.slice A2 (k + m) cc) (k + m) ((xs ++ l).map (Value.int .i64)) → w1.grownBy w2 (some g) → wpList Try.prog ops Q rest (a.put o.dst (.slice A2 (k + m) cc)) w2) : wpList Try.prog ops Q (o :: rest) a w1 := by
  obtain ⟨i0, hi0, hz0, hz1, hz2⟩ := info_parts info_int
  by_cases hz : m = 0
  · subst hz
    have hg0 : l = [] := List.eq_nil_of_length_eq_zero hm
    refine wpList_append_fits_any _ hg _ _ 24 hop base 3 i0 1 Try.underlying24 hi0 hz1 g k cap _ hs ho B 0 c2 [] hx rfl (fun e => HN e) (fun ad _ j u hu => by simp at hu) (fun u hu => by simp at hu) (by have := own_cap ho; omega) ?_
    intro w2 h2 hg2
    exact hK _ _ w2 (by rw [hg0]; simpa using h2) hg2
  · obtain ⟨y, hy⟩ : ∃ y, l[0]? = some y := ⟨_, List.getElem?_eq_getElem (by omega)⟩
    obtain ⟨b1, off1, hB, _, _⟩ := hl 0 y hy
    refine wpList_append_lies _ hg _ _ 24 hop base 3 i0 (.int .i64 0) 1 8 Try.underlying24 hi0 hz0 hz1 hz2 rfl (by omega) _ k _ hs ho ⟨b1, off1, none⟩ m c2 (l.map (Value.int .i64)) (by rw [hx, hB]) (by simp [hm]) (ilies_cells hl _ hB) (ints_oneCell _ _) (by omega) (by unfold maxLen; omega) (by omega) hb _ rfl ?_
    intro g' cap' w2 h2 hg2 _ _
    exact hK (some ⟨g', 0, none⟩) cap' w2 (by rw [List.map_append]; exact h2) hg2
set_option maxRecDepth 100000 in
set_option maxHeartbeats 400000 in
theorem l1Most_any (b : Int) (w : World) (h : b ≤ 1000) : Calls Try.prog 63 #[.int .i64 1, .int .i64 b] w fun e w' => (∃ q : Int, e = .returned (.int .i64 q) ∧ 1 ≤ q ∧ q ≤ 1000 ∧ (q = 1 ∨ q = b)) ∧ w = w' := by
  by_cases hb : (1 : Int) > b
  · go_enter Try.func63, Try.ntmps63
    go_wp2
    go_ret
    exact ⟨⟨1, rfl, by omega, by omega, .inl rfl⟩, rfl⟩
  · go_enter Try.func63, Try.ntmps63
    go_wp2
    go_ret
    exact ⟨⟨b, rfl, by omega, by omega, .inr rfl⟩, rfl⟩
theorem lit2 (w : World) (v : Int) : ILies ((w.alloc (.cells #[.int .i64 v] 3)).alloc (.cells #[.int .i64 (-v)] 3)) (some ⟨w.heap.size + 1, 0, none⟩) [-v] := by
  have h := own_ilies (own_row (w.alloc (.cells #[.int .i64 v] 3)) [-v] 0 (by omega) (by simp [maxLen]))
  simpa using h
/-- a literal of one list, of two -/
theorem llies_one {w : World} {A : Option Addr} {n c : Nat} {a : List Int} (h : ILies w A a) (hn : a.length = n) (hc : n ≤ c) (hb : n ≤ 1000) : LLies (w.alloc (.cells #[.slice A n c] 24)) (some ⟨w.heap.size, 0, none⟩) [a] := by
  have hk : Blk (w.alloc (.cells #[.slice A n c] 24)) w.heap.size 24 [.slice A n c] := heap_alloc_new w _
  intro i l hl
  have hi : i = 0 := by have := (List.getElem?_eq_some_iff.1 hl).1; simp at this; exact this
  subst hi
  simp at hl
  subst hl
  exact ⟨w.heap.size, 0, A, c, rfl, hk.lt, by rw [hn]; exact hk.there rfl, by omega, by omega, h.below (below1 w _)⟩
theorem llies_two {w : World} {A B : Option Addr} {n m c1 c2 : Nat} {a b : List Int} (h : ILies w A a) (k : ILies w B b) (hn : a.length = n) (hm : b.length = m) (hc : n ≤ c1) (hd : m ≤ c2) (hb : n ≤ 1000) (hb2 : m ≤ 1000) : LLies (w.alloc (.cells #[.slice A n c1, .slice B m c2] 24)) (some ⟨w.heap.size, 0, none⟩) [a, b] := by
  have hk : Blk (w.alloc (.cells #[.slice A n c1, .slice B m c2] 24)) w.heap.size 24 [.slice A n c1, .slice B m c2] := heap_alloc_new w _
  intro i l hl
  have hi : i = 0 ∨ i = 1 := by have := (List.getElem?_eq_some_iff.1 hl).1; simp at this; omega
  rcases hi with rfl | rfl
  · simp at hl
    subst hl
    exact ⟨w.heap.size, 0, A, c1, rfl, hk.lt, by rw [hn]; exact hk.there rfl, by omega, by omega, h.below (below1 w _)⟩
  · simp at hl
    subst hl
    exact ⟨w.heap.size, 0, B, c2, rfl, hk.lt, by rw [hm]; exact hk.there rfl, by omega, by omega, k.below (below1 w _)⟩
/-- two drawn lists and a variable -/
def DrewR (w : World) (e : Ending) (w' : World) : Prop :=
  ∃ (a b : List Int) (v : Int) (A B : Option Addr) (n m c1 c2 : Nat), e = .returned (.tuple #[.slice A n c1, .slice B m c2, .int .i64 v]) ∧ (a.length = n ∧ b.length = m) ∧ (n ≤ 1000 ∧ m ≤ 1000) ∧ (n ≤ c1 ∧ m ≤ c2) ∧ (1 ≤ v ∧ v ≤ 100) ∧ ILies w' A a ∧ ILies w' B b ∧ Below w.heap.size w w'
set_option maxRecDepth 100000 in
set_option maxHeartbeats 8000000 in
theorem drawRes_any (a0 : Option Addr) (len cap : Nat) (w : World) (h : Hid (Bytes w a0 len)) :
    Calls Try.prog 25 #[.slice a0 len cap] w (DrewR w) := by
  go_enter Try.func25, Try.ntmps25
  go_wp2_with fail
  have C0 := Lib.hid (Cur.new (cap := cap) h.out)
  have GB0 : Hid (Below w.heap.size w (w.alloc (.cells #[.slice a0 len cap, .int .i64 0, .int .u64 0] 68))) := Lib.hid (below1 w _)
  have Z0 : Hid (w.heap.size < (w.alloc (.cells #[.slice a0 len cap, .int .i64 0, .int .u64 0] 68)).heap.size) := Lib.hid (by simp)
  generalize w.alloc (.cells #[.slice a0 len cap, .int .i64 0, .int .u64 0] 68) = wa at C0 GB0 Z0 ⊢
  obtain ⟨c, hc⟩ : ∃ c, w.heap.size = c := ⟨_, rfl⟩
  rw [hc] at C0 Z0 ⊢
  have HC := Lib.hid hc
  clear hc h
  refine (clauses_any c 0 _ C0 (by omega)).mono ?_
  rintro e w1 ⟨v0, L, A, cp, vs, rfl, hv, hL, hT, ho, hc1, hg1⟩
  have O1 := Lib.hid ho
  have C1 := Lib.hid hc1
  have G1 := Lib.hid hg1
  clear ho hc1 hg1 C0
  obtain ⟨p, hp⟩ : ∃ p, L.length = p := ⟨_, rfl⟩
  rw [hp] at hL O1 ⊢
  have HP := Lib.hid hp
  clear hp
  go_wp2_with fail
  refine (l1Most_any v0 _ (by omega)).mono ?_
  rintro e w' ⟨⟨mx, rfl, hm1, hm2, hm3⟩, rfl⟩
  have hm4 : mx ≤ 13 := by omega
  clear hm3
  go_wp2_with fail
  refine (pick_any c _ mx _ C1 (by omega) (by omega) (by omega)).mono ?_
  rintro e w3 ⟨n3, ⟨l3, u3⟩, rfl, hc3, hg3⟩
  have C3 := Lib.hid hc3
  have G3 := Lib.hid (grownC_trans G1.out hg3)
  have O3 := Lib.hid (O1.out.read hg3 Z0.out)
  clear hc3 hg3 C1 G1 O1
  obtain ⟨v, hvv⟩ : ∃ v : Int, 1 + n3 = v := ⟨_, rfl⟩
  have hv1 : 1 ≤ v := by omega
  have hv2 : v ≤ 13 := by omega
  have ZZ : Hid (wa.heap.size ≤ w3.heap.size) := Lib.hid G3.out.size
  by_cases hp1 : 1 < p
  · have hpI : (1 : Int) < (p : Int) := by omega
    obtain ⟨g, cpx, hv9, hbg9, hgl9⟩ := O3.out.outer.form (by have := HP.out; omega)
    have hA2 : A = some ⟨g, 0, none⟩ := by injection hv9
    clear hv9
    subst hA2
    obtain ⟨l0, hl0⟩ : ∃ l, L[0]? = some l := ⟨_, List.getElem?_eq_getElem (by have := HP.out; omega)⟩
    obtain ⟨l1, hl1⟩ : ∃ l, L[1]? = some l := ⟨_, List.getElem?_eq_getElem (by have := HP.out; omega)⟩
    obtain ⟨a0', cc0, hx0, hr0⟩ := O3.out.inner.row 0 l0 hl0
    obtain ⟨a1', cc1, hx1, hr1⟩ := O3.out.inner.row 1 l1 hl1
    have k0 : w3.cell? ⟨g, 0, none⟩ = some (.slice a0' l0.length cc0) := by
      have h9 := O3.out.outer.cells (g := g) rfl 0 _ hx0
      rw [add_plain] at h9
      exact h9
    have k1 : w3.cell? ⟨g, 1, none⟩ = some (.slice a1' l1.length cc1) := by
      have h9 := O3.out.outer.cells (g := g) rfl 1 _ hx1
      rw [add_plain] at h9
      exact h9
    have t0 := tot_mem hl0
    have t1 := tot_mem hl1
    have R0 := Lib.hid hr0
    have R1 := Lib.hid hr1
    have N0 := Lib.hid (own_nil hr0)
    have N1 := Lib.hid (own_nil hr1)
    have P0 := own_cap hr0
    have P1 := own_cap hr1
    clear hx0 hx1 hr0 hr1 hl0 hl1
    obtain ⟨n0, hn0⟩ : ∃ n, l0.length = n := ⟨_, rfl⟩
    obtain ⟨n1, hn1⟩ : ∃ n, l1.length = n := ⟨_, rfl⟩
    rw [hn0] at k0 t0 R0 N0 P0
    rw [hn1] at k1 t1 R1 N1 P1
    have HN0 := Lib.hid hn0
    have HN1 := Lib.hid hn1
    clear hn0 hn1
    go_wp2_with (at_builtin; (refine wpList_append_ints (base := w3.heap.size) (xs := [v]) (l := l0) _ _ rfl rfl rfl rfl (own_row w3 [v] w3.heap.size (Nat.le_refl _) (by simp [maxLen])) ((own_ilies R0.out).below (below1 w3 _)) HN0.out N0.out (by simp) (by omega) (by omega) ?_; intro A4 c4 w4 ho4 hg4; have O4 := Lib.hid ho4; have B34 : Hid (Below w3.heap.size w3 w4) := Lib.hid ((below1 w3 (.cells #[.int .i64 v] 3)).grown hg4 (by simp) (fun k hk => by have := Option.some.inj hk; omega)); clear ho4 hg4))
    obtain ⟨r1, b1, hrb1⟩ := opt_any (cleanB ([v] ++ l0))
    have HR1 := Lib.hid hrb1
    have hrl1 : r1.length ≤ 1000 := by have := cleanB_len hrb1; omega
    clear hrb1
    refine (specClean_any _ _ _ ([v] ++ l0) _ r1 b1 HR1 (own_ilies O4.out) (Lib.hid (by have := HN0.out; simp; omega)) (by omega)).mono ?_
    rintro e w5 ⟨A5, c5, rfl, ho5, hb5⟩
    have B35 := Lib.hid (Below.tr B34.out hb5)
    have S5 := Lib.hid ho5
    clear ho5 hb5 O4 B34
    have k15 : w5.cell? ⟨g, 1, none⟩ = some (.slice a1' n1 cc1) := ((bcell B35.out).1 _ _ hgl9).trans k1
    have hgl5 : g < w5.heap.size := by have := B35.out.size; omega
    go_wp2_with (at_builtin; (refine wpList_append_ints (base := w5.heap.size) (xs := [-v]) (l := l1) _ _ rfl rfl rfl rfl (own_row w5 [-v] w5.heap.size (Nat.le_refl _) (by simp [maxLen])) (((own_ilies R1.out).below B35.out).below (below1 w5 _)) HN1.out N1.out (by simp) (by omega) (by omega) ?_; intro A6 c6 w6 ho6 hg6; have O6 := Lib.hid ho6; have B56 : Hid (Below w5.heap.size w5 w6) := Lib.hid ((below1 w5 (.cells #[.int .i64 (-v)] 3)).grown hg6 (by simp) (fun k hk => by have := Option.some.inj hk; omega)); clear ho6 hg6))
    obtain ⟨r2, b2, hrb2⟩ := opt_any (cleanB ([-v] ++ l1))
    have HR2 := Lib.hid hrb2
    have hrl2 : r2.length ≤ 1000 := by have := cleanB_len hrb2; omega
    clear hrb2
    refine (specClean_any _ _ _ ([-v] ++ l1) _ r2 b2 HR2 (own_ilies O6.out) (Lib.hid (by have := HN1.out; simp; omega)) (by omega)).mono ?_
    rintro e w7 ⟨A7, c7, rfl, ho7, hb7⟩
    have B57 := Lib.hid (Below.tr B56.out hb7)
    have S7 := Lib.hid ho7
    have S57 := Lib.hid (own_below S5.out B57.out)
    have B37 := Lib.hid (Below.tr B35.out B57.out)
    have BW7 := Lib.hid (Below.tr (draw_below GB0.out G3.out HC.out) B37.out)
    clear ho7 hb7 O6 B56
    have k07 : w7.cell? ⟨g, 0, none⟩ = some (.slice a0' n0 cc0) := ((bcell B37.out).1 _ _ hgl9).trans k0
    have k17 : w7.cell? ⟨g, 1, none⟩ = some (.slice a1' n1 cc1) := ((bcell B37.out).1 _ _ hgl9).trans k1
    have E0 := Lib.hid ((own_ilies R0.out).below B37.out)
    have E1 := Lib.hid ((own_ilies R1.out).below B37.out)
    cases b1
    all_goals
      cases b2
      all_goals first
        | (go_wp2; go_ret3; exact ⟨r1, r2, v, A5, A7, _, _, c5, c7, rfl, ⟨rfl, rfl⟩, ⟨hrl1, hrl2⟩, ⟨own_cap S57.out, own_cap S7.out⟩, by omega, own_ilies S57.out, own_ilies S7.out, BW7.out⟩)
        | (go_wp2_with fail; go_quiet (fail); go_wp2; go_ret3; exact ⟨l0, l1, v, a0', a1', _, _, cc0, cc1, rfl, ⟨HN0.out, HN1.out⟩, by omega, ⟨P0, P1⟩, by omega, E0.out, E1.out, bdrewN BW7.out _⟩)
  · go_wp2
    go_ret3
    exact ⟨[v], [-v], v, some ⟨w3.heap.size, 0, none⟩, some ⟨w3.heap.size + 1, 0, none⟩, 1, 1, 1, 1, rfl, ⟨rfl, rfl⟩, by omega, by omega, by omega, (own_ilies (own_row w3 [v] 0 (by omega) (by simp [maxLen]))).below (below1 _ _), lit2 w3 v, Below.tr (draw_below GB0.out G3.out HC.out) (below2 w3 _ _)⟩
end Go.Proofs.Ythcgmkhlfhlhkaa
