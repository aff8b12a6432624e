/-
  The drawing of literals, of given literals, of clauses.
-/
import Derived.Test.YtklcfbjaodildaaReduce2
import Derived.Test.YtklcfbjaodildaaCur0
namespace Go.Proofs.Ytklcfbjaodildaa
open Go.ChangeShapes Go.WideShapes Go.ChangeAt Go.RowKit

/-- what lies above a reader stays while it reads -/
theorem own_read {w w' : World} {base c n : Nat} {t : TypeId} {v : Value} {xs : List Value} (h : w.ownsRow base t 1 v n xs) (hg : w.grownBy w' (some c)) (hc : c < base) : w'.ownsRow base t 1 v n xs :=
  kept_of h hg (fun g hgb e => by have := (h.lt g hgb).1; have := Option.some.inj e; omega)
theorem OwnSS.read {w w' : World} {base c : Nat} {v : Value} {vs : List Value} {L : List (List Int)} (h : OwnSS w base v vs L) (hg : w.grownBy w' (some c)) (hc : c < base) : OwnSS w' base v vs L :=
  h.kept (S := fun g => g = c) (Kept.of_grown hg (fun g e => (Option.some.inj e).symm)) (fun g hb e => by have := (h.outer.lt g hb).1; omega) (fun g hb e => by have := (h.inner.lt g hb).1; omega)
/-- the reader's block alone has turned below w0; an append above changes nothing there -/
theorem grown_app {w0 w w' : World} {c : Nat} {row : Option Nat} {o : Obj} (h : w0.grownBy w (some c)) (hg : (w.alloc o).grownBy w' row) (hr : ∀ g, row = some g → w0.heap.size ≤ g) : w0.grownBy w' (some c) := by
  have h2 := grownC_trans h (World.grownBy_alloc w o (some c))
  refine ⟨hg.os.trans h2.os, hg.tape.trans h2.tape, hg.output.trans h2.output, Nat.le_trans h2.size hg.size, fun k hk hne => ?_⟩
  rw [hg.block k (Nat.lt_of_lt_of_le hk h2.size) (fun e => by have := hr k e.symm; omega)]
  exact h2.block k hk hne
theorem int_cast_sub {m : Nat} (h : 0 < m) : Value.int .i64 ((m : Int) - 1) = .int .i64 ((m - 1 : Nat) : Int) := by congr 1; omega
set_option maxRecDepth 100000 in
set_option maxHeartbeats 1000000 in
theorem lit_any (c K : Nat) (v : Int) (w : World) (h : Hid (Cur w c K)) (hK : K ≤ 900000000) (h1 : 1 ≤ v) (h2 : v ≤ 1000) :
    Calls Try.prog 153 #[.pointer (some ⟨c, 0, none⟩), .int .i64 v] w (Gives c (K + 4) w fun n => -v ≤ n ∧ n ≤ v) := by
  go_enter Try.func153, Try.ntmps153
  go_wp2_with fail
  refine (pick_any c K _ _ h (by omega) (by omega) (by omega)).mono ?_
  rintro e w1 ⟨n1, ⟨l1, u1⟩, rfl, hc1, hg1⟩
  have C1 := Lib.hid hc1
  have G1 := Lib.hid hg1
  clear hc1 hg1
  go_wp2_with fail
  refine (one_any c _ _ _ C1 (by omega) (by omega) (by omega)).mono ?_
  rintro e w2 ⟨b, rfl, hc2, hg2⟩
  have C2 := Lib.hid hc2
  have G2 := Lib.hid (grownC_trans G1.out hg2)
  clear hc2 hg2
  cases b
  · go_wp2
    go_ret
    exact ⟨_, by omega, rfl, C2.out, G2.out⟩
  · go_wp2
    go_ret
    exact ⟨_, by omega, rfl, C2.out, G2.out⟩

theorem acc_snoc' {w3 : World} {o : List Int} {x : Int} {base m g3 cap3 : Nat} (HM : o.length = m) (h : w3.ownsRow base 3 1 (.slice (some ⟨g3, 0, none⟩) (m + 1) cap3) (m + 1) ((o ++ [x]).map (Value.int .i64))) :
    ∃ A2 c2, Value.slice (some ⟨g3, 0, none⟩) (m + 1) cap3 = .slice A2 (o ++ [x]).length c2 ∧ w3.ownsRow base 3 1 (.slice A2 (o ++ [x]).length c2) (o ++ [x]).length ((o ++ [x]).map (Value.int .i64)) :=
  ⟨some ⟨g3, 0, none⟩, cap3, by rw [List.length_append, HM, List.length_singleton], by rw [List.length_append, HM]; exact h⟩
/-- it answers a few numbers of its own, drawn -/
def GaveFew (c K m : Nat) (w : World) (e : Ending) (w' : World) : Prop :=
  ∃ (l : List Int) (A : Option Addr) (cap : Nat), e = .returned (.slice A l.length cap) ∧ l.length ≤ m ∧ w'.ownsRow w.heap.size 3 1 (.slice A l.length cap) l.length (l.map (Value.int .i64)) ∧ Cur w' c K ∧ w.grownBy w' (some c)
/-- a list of lists grows by one, whatever has turned elsewhere -/
theorem OwnSS.grow2 {wj w3 : World} {base lo : Nat} {A2 : Option Addr} {n c2 g3 cap3 : Nat} {vs : List Value} {R : List (List Int)} {o : List Int} {A3 : Option Addr} {c3 : Nat} (hn : R.length = n)
    (O : OwnSS wj base (.slice A2 n c2) vs R) (hlo : base ≤ lo) (hb1 : ∀ g, (Value.slice A2 n c2).ownBlock = some g → g < lo) (hb2 : ∀ g, blks vs g → g < lo)
    (ho : wj.ownsRow lo 3 1 (.slice A3 o.length c3) o.length (o.map (Value.int .i64)))
    (hown3 : w3.ownsRow base 55 1 (.slice (some ⟨g3, 0, none⟩) (n + 1) cap3) (n + 1) (vs ++ [.slice A3 o.length c3]))
    (hg3 : (wj.alloc (.cells #[.slice A3 o.length c3] 55)).grownBy w3 (Value.slice A2 n c2).ownBlock)
    (hat : (Value.slice A2 n c2).ownBlock = some g3 ∨ g3 = wj.heap.size + 1) :
    OwnSS w3 base (.slice (some ⟨g3, 0, none⟩) (n + 1) cap3) (vs ++ [.slice A3 o.length c3]) (R ++ [o]) := by
  have hka := below1 wj (.cells #[.slice A3 o.length c3] 55)
  have hk : Kept (wj.alloc (.cells #[.slice A3 o.length c3] 55)) w3 (fun g => (Value.slice A2 n c2).ownBlock = some g) := Kept.of_grown hg3 (fun g h => h)
  have hin : Inner w3 base vs R := ((O.inner.below hka).kept hk (fun g h q => O.off g h q))
  have hbo : ∀ g, (Value.slice A3 o.length c3).ownBlock = some g → lo ≤ g ∧ g < wj.heap.size := fun g h => ho.lt g h
  have hno : w3.ownsRow base 3 1 (.slice A3 o.length c3) o.length (o.map (Value.int .i64)) :=
    own_base (hk.own (own_below ho hka) (fun g h q => by have := hbo g h; have := hb1 g q; omega)) hlo
  have hin2 : Inner w3 base (vs ++ [.slice A3 o.length c3]) (R ++ [o]) := hin.snoc (b := lo) hno hb2 (fun g h => (hbo g h).1)
  refine ⟨?_, hin2, ?_⟩
  · rw [List.length_append, hn]
    exact hown3
  · intro g hg e
    have e' : g = g3 := by simp [Value.ownBlock] at e; exact e.symm
    subst e'
    obtain ⟨i, x, hx, hxb⟩ := hg
    by_cases hi : i < vs.length
    · rw [List.getElem?_append_left hi] at hx
      rcases hat with h | h
      · exact O.off g ⟨i, x, hx, hxb⟩ h
      · have := (O.inner.lt g ⟨i, x, hx, hxb⟩).2; omega
    · rw [List.getElem?_append_right (by omega)] at hx
      have hi1 : i - vs.length < 1 := by have := (List.getElem?_eq_some_iff.1 hx).1; simpa using this
      rw [show i - vs.length = 0 by omega] at hx
      simp at hx
      subst hx
      have h1 := hbo g hxb
      rcases hat with h | h
      · have := hb1 g h; omega
      · omega
/-- the first inner slice grows and is laid back -/
theorem OwnSS.put0 {w w3 : World} {base : Nat} {A : Option Addr} {n cap : Nat} {vs : List Value} {L : List (List Int)} {g n0 g3 cap3 : Nat} {x : Value} {l0 : List Int} {y : Int} {o : Obj}
    (O : OwnSS w base (.slice A n cap) vs L) (hA : A = some ⟨g, 0, none⟩) (hn : L.length = n) (hx : vs[0]? = some x) (hl0 : l0.length = n0)
    (hown3 : w3.ownsRow base 3 1 (.slice (some ⟨g3, 0, none⟩) (n0 + 1) cap3) (n0 + 1) (l0.map (Value.int .i64) ++ [.int .i64 y]))
    (hg3 : (w.alloc o).grownBy w3 x.ownBlock) (hat : x.ownBlock = some g3 ∨ g3 = w.heap.size + 1) :
    OwnSS (w3.setCell ⟨g, 0, none⟩ (.slice (some ⟨g3, 0, none⟩) (n0 + 1) cap3)) base (.slice A n cap) (vs.set 0 (.slice (some ⟨g3, 0, none⟩) (n0 + 1) cap3)) (L.set 0 (l0 ++ [y])) := by
  subst hA
  have hka := below1 w o
  have hk : Kept (w.alloc o) w3 (fun b => x.ownBlock = some b) := Kept.of_grown hg3 (fun b h => h)
  have hlen := O.inner.len
  have hgl := O.outer.lt g rfl
  have hxg : x.ownBlock ≠ some g := fun e => O.off g ⟨0, x, hx, e⟩ rfl
  have hg3g : g3 ≠ g := by
    rintro rfl
    rcases hat with h | h
    · exact hxg h
    · omega
  have hout : w3.ownsRow base 55 1 (.slice (some ⟨g, 0, none⟩) n cap) n vs := by
    have := hk.own (own_below O.outer hka) (fun b hb q => by simp [Value.ownBlock] at hb; subst hb; exact hxg q)
    rw [hn] at this
    exact this
  have hks : Kept w3 (w3.setCell ⟨g, 0, none⟩ (.slice (some ⟨g3, 0, none⟩) (n0 + 1) cap3)) (fun i => i = g) := Kept.set
  have hvl : 0 < vs.length := (List.getElem?_eq_some_iff.1 hx).1
  have get0 : ∀ i z, (vs.set 0 (Value.slice (some ⟨g3, 0, none⟩) (n0 + 1) cap3))[i]? = some z → (i = 0 ∧ z = .slice (some ⟨g3, 0, none⟩) (n0 + 1) cap3) ∨ (i ≠ 0 ∧ vs[i]? = some z) := by
    intro i z hz
    rw [List.getElem?_set] at hz
    by_cases e : 0 = i
    · subst e
      rw [if_pos rfl, if_pos hvl] at hz
      exact .inl ⟨rfl, (Option.some.inj hz).symm⟩
    · rw [if_neg e] at hz
      exact .inr ⟨fun q => e q.symm, hz⟩
  refine ⟨?_, ⟨by simp [hlen], fun i l hl => ?_, fun i j a b gg ha hb hga hgb => ?_⟩, ?_⟩
  · rw [List.length_set, hn]
    exact (hout.stored 0 _).1
  · rw [List.getElem?_set] at hl
    by_cases e : 0 = i
    · subst e
      rw [if_pos rfl, if_pos (by omega)] at hl
      obtain rfl := Option.some.inj hl
      refine ⟨some ⟨g3, 0, none⟩, cap3, ?_, ?_⟩
      · rw [List.getElem?_set, if_pos rfl, if_pos hvl, List.length_append, hl0, List.length_singleton]
      · rw [List.length_append, hl0, List.length_singleton, List.map_append]
        exact hks.own hown3 (fun b hb q => by simp [Value.ownBlock] at hb; omega)
    · rw [if_neg e] at hl
      obtain ⟨a, cc, h1, h2⟩ := O.inner.row i l hl
      refine ⟨a, cc, by rw [List.getElem?_set, if_neg e]; exact h1, ?_⟩
      refine hks.own (hk.own (own_below h2 hka) (fun b hb q => ?_)) (fun b hb q => ?_)
      · exact e (O.inner.apart 0 i x _ b hx h1 q hb)
      · subst q
        exact O.off b ⟨i, _, h1, hb⟩ rfl
  · rcases get0 i a ha with ⟨rfl, rfl⟩ | ⟨hi, ha'⟩ <;> rcases get0 j b hb with ⟨rfl, rfl⟩ | ⟨hj, hb'⟩
    · rfl
    · exfalso
      have e : gg = g3 := by simp [Value.ownBlock] at hga; exact hga.symm
      subst e
      rcases hat with h | h
      · exact hj (O.inner.apart 0 j x b gg hx hb' h hgb).symm
      · have := (O.inner.lt gg ⟨j, b, hb', hgb⟩).2; omega
    · exfalso
      have e : gg = g3 := by simp [Value.ownBlock] at hgb; exact hgb.symm
      subst e
      rcases hat with h | h
      · exact hi (O.inner.apart 0 i x a gg hx ha' h hga).symm
      · have := (O.inner.lt gg ⟨i, a, ha', hga⟩).2; omega
    · exact O.inner.apart i j a b gg ha' hb' hga hgb
  · intro b hb e
    have e' : b = g := by simp [Value.ownBlock] at e; exact e.symm
    subst e'
    obtain ⟨i, z, hz, hzb⟩ := hb
    rcases get0 i z hz with ⟨rfl, rfl⟩ | ⟨hi, hz'⟩
    · simp [Value.ownBlock] at hzb
      exact hg3g hzb
    · exact O.off b ⟨i, z, hz', hzb⟩ rfl
end Go.Proofs.Ytklcfbjaodildaa
