/-
  The values of gates, by rules that are closures: the program's.
-/
import Derived.Test.YtklcfbjaodildaaGi1
namespace Go.Proofs.Ytklcfbjaodildaa
open Go.ChangeShapes Go.WideShapes Go.ChangeAt Go.RowKit

theorem bdrewG {B : Nat} {a w : World} (h : Below B a w) (n : Nat) : Below B a (w.drewN n) := h.trans ⟨rfl, rfl, rfl, Nat.le_refl _, fun _ _ => rfl⟩
/-- a rule as a value: a closure that holds one variable -/
def ruleV (K g : Nat) : Value := .func (.func K) #[] #[.pointer (some ⟨g, 0, none⟩)]
/-- the value v is the rule of the gate x; j inputs stand ahead of it -/
def RuleIs (w : World) (lo : Nat) (v : Value) (x : Gt) (j : Nat) : Prop :=
  ∃ g, lo ≤ g ∧ g < w.heap.size ∧
    ((x.k = 1 ∧ v = ruleV 164 g ∧ w.cell? ⟨g, 0, none⟩ = some (.int .i64 j)) ∨
     (x.k = 2 ∧ v = ruleV 165 g ∧ GAt w g 0 x) ∨
     (x.k = 3 ∧ v = ruleV 166 g ∧ GAt w g 0 x) ∨
     (x.k = 4 ∧ v = ruleV 167 g ∧ GAt w g 0 x) ∨
     (x.k = 5 ∧ v = ruleV 168 g ∧ GAt w g 0 x))
theorem RuleIs.below {w w' : World} {lo j : Nat} {v : Value} {x : Gt} (h : RuleIs w lo v x j) (hb : Below w.heap.size w w') : RuleIs w' lo v x j := by
  obtain ⟨g, h1, h2, h3⟩ := h
  refine ⟨g, h1, Nat.lt_of_lt_of_le h2 hb.size, ?_⟩
  rcases h3 with ⟨a, b, c⟩ | ⟨a, b, c⟩ | ⟨a, b, c⟩ | ⟨a, b, c⟩ | ⟨a, b, c⟩
  · exact .inl ⟨a, b, ((bcell hb).1 _ _ h2).trans c⟩
  · exact .inr (.inl ⟨a, b, c.below hb h2⟩)
  · exact .inr (.inr (.inl ⟨a, b, c.below hb h2⟩))
  · exact .inr (.inr (.inr (.inl ⟨a, b, c.below hb h2⟩)))
  · exact .inr (.inr (.inr (.inr ⟨a, b, c.below hb h2⟩)))
theorem GAt.far {w : World} {b f g j : Nat} {x : Gt} (h : GAt w b f x) (hne : b ≠ g) (u : Value) : GAt (w.setCell ⟨g, j, none⟩ u) b f x := by
  have e : ∀ o, (w.setCell ⟨g, j, none⟩ u).cell? ⟨b, o, none⟩ = w.cell? ⟨b, o, none⟩ := fun o => World.cell?_of_block (Below.heap_setCell w ⟨g, j, none⟩ u b hne)
  exact ⟨(e _).trans h.1, (e _).trans h.2.1, (e _).trans h.2.2⟩
theorem RuleIs.far {w : World} {lo j g i : Nat} {v : Value} {x : Gt} (h : RuleIs w lo v x j) (hg : g < lo) (u : Value) : RuleIs (w.setCell ⟨g, i, none⟩ u) lo v x j := by
  obtain ⟨g', h1, h2, h3⟩ := h
  have hne : g' ≠ g := by omega
  refine ⟨g', h1, by simpa using h2, ?_⟩
  rcases h3 with ⟨a, b, c⟩ | ⟨a, b, c⟩ | ⟨a, b, c⟩ | ⟨a, b, c⟩ | ⟨a, b, c⟩
  · exact .inl ⟨a, b, (World.cell?_of_block (Below.heap_setCell w ⟨g, i, none⟩ u g' hne)).trans c⟩
  · exact .inr (.inl ⟨a, b, c.far hne u⟩)
  · exact .inr (.inr (.inl ⟨a, b, c.far hne u⟩))
  · exact .inr (.inr (.inr (.inl ⟨a, b, c.far hne u⟩)))
  · exact .inr (.inr (.inr (.inr ⟨a, b, c.far hne u⟩)))
/-- a slice of the rules of gates -/
def Rules (w : World) (A : Option Addr) (xs : List Gt) : Prop :=
  ∀ k x, xs[k]? = some x → ∃ b off v, A = some ⟨b, off, none⟩ ∧ b < w.heap.size ∧ w.cell? ⟨b, off + k, none⟩ = some v ∧ RuleIs w 0 v x (inpN xs k).length
theorem Rules.below {w w' : World} {A : Option Addr} {xs : List Gt} (h : Rules w A xs) (hb : Below w.heap.size w w') : Rules w' A xs := by
  intro k x hx
  obtain ⟨b, off, v, h1, h2, h3, h4⟩ := h k x hx
  exact ⟨b, off, v, h1, Nat.lt_of_lt_of_le h2 hb.size, ((bcell hb).1 _ _ h2).trans h3, h4.below hb⟩
set_option maxRecDepth 100000 in
set_option maxHeartbeats 400000 in
theorem rIn_any (A B : Option Addr) (n m c c2 g j : Nat) (ins : List Bool) (b : Bool) (w : World) (hl : Hid (BLies w A ins)) (HX : Hid (ins.length = n)) (hb : Hid (ins[j]? = some b)) (hc : w.cell? ⟨g, 0, none⟩ = some (.int .i64 j)) :
    Calls Try.prog 164 #[.slice A n c, .slice B m c2, .pointer (some ⟨g, 0, none⟩)] w fun e w' => e = .returned (.bool b) ∧ Below w.heap.size w w' := by
  have hj : j < n := by have := (List.getElem?_eq_some_iff.1 hb.out).1; have := HX.out; omega
  obtain ⟨b1, off, rfl, hbl, ha⟩ := hl.out j b hb.out
  go_enter Try.func164, Try.ntmps164
  go_wp2
  go_ret
  exact ⟨rfl, Below.refl _ _⟩
theorem bt_at {l : List Bool} {a : Int} {n : Nat} (h0 : 0 ≤ a) (h1 : a < (n : Int)) (hn : l.length = n) : ∃ i : Nat, a = i ∧ i < n ∧ l[i]? = some (bt l a) := by
  refine ⟨a.toNat, by omega, by omega, ?_⟩
  unfold bt
  rw [List.getElem?_eq_getElem (by omega)]
  rfl
set_option maxRecDepth 100000 in
set_option maxHeartbeats 2000000 in
theorem rNot_any (A B : Option Addr) (n m c c2 g : Nat) (ah : List Bool) (x : Gt) (w : World) (hl : Hid (BLies w B ah)) (HX : Hid (ah.length = m)) (ha0 : 0 ≤ x.a) (ha1 : x.a < (m : Int)) (hc : GAt w g 0 x) :
    Calls Try.prog 165 #[.slice A n c, .slice B m c2, .pointer (some ⟨g, 0, none⟩)] w fun e w' => e = .returned (.bool (!bt ah x.a)) ∧ Below w.heap.size w w' := by
  obtain ⟨ia, hia, hian, hax⟩ := bt_at ha0 ha1 HX.out
  obtain ⟨b1, off, hB, hbl, c1⟩ := hl.out ia _ hax
  obtain ⟨_, t1, t2⟩ := hc
  rw [Nat.zero_add] at t1 t2
  subst hB
  obtain ⟨va, hva⟩ : ∃ v, bt ah x.a = v := ⟨_, rfl⟩
  rw [hva] at c1 ⊢
  rw [hia] at t1
  clear ha0 ha1 hia hax hva
  go_enter Try.func165, Try.ntmps165
  go_wp2
  go_ret
  exact ⟨rfl, Below.refl _ _⟩
set_option maxRecDepth 100000 in
set_option maxHeartbeats 2000000 in
theorem rAnd_any (A B : Option Addr) (n m c c2 g : Nat) (ah : List Bool) (x : Gt) (w : World) (hl : Hid (BLies w B ah)) (HX : Hid (ah.length = m)) (ha0 : 0 ≤ x.a) (ha1 : x.a < (m : Int)) (hb0 : 0 ≤ x.b) (hb1 : x.b < (m : Int)) (hc : GAt w g 0 x) :
    Calls Try.prog 166 #[.slice A n c, .slice B m c2, .pointer (some ⟨g, 0, none⟩)] w fun e w' => e = .returned (.bool (bt ah x.a && bt ah x.b)) ∧ Below w.heap.size w w' := by
  obtain ⟨ia, hia, hian, hax⟩ := bt_at ha0 ha1 HX.out
  obtain ⟨b1, off, hB, hbl, c1⟩ := hl.out ia _ hax
  obtain ⟨_, t1, t2⟩ := hc
  rw [Nat.zero_add] at t1 t2
  obtain ⟨ib, hib, hibn, hbx⟩ := bt_at hb0 hb1 HX.out
  obtain ⟨b2, off2, hB2, _, c2⟩ := hl.out ib _ hbx
  rw [hB] at hB2
  simp only [Option.some.injEq, Addr.mk.injEq, and_true] at hB2
  obtain ⟨rfl, rfl⟩ := hB2
  subst hB
  obtain ⟨va, hva⟩ : ∃ v, bt ah x.a = v := ⟨_, rfl⟩
  rw [hva] at c1 ⊢
  obtain ⟨vb, hvb⟩ : ∃ v, bt ah x.b = v := ⟨_, rfl⟩
  rw [hvb] at c2 ⊢
  rw [hia] at t1
  rw [hib] at t2
  clear ha0 ha1 hia hax hva hb0 hb1 hib hbx hvb
  cases va
  · go_enter Try.func166, Try.ntmps166
    go_wp2
    go_ret
    exact ⟨rfl, Below.refl _ _⟩
  · go_enter Try.func166, Try.ntmps166
    go_wp2
    go_ret
    exact ⟨rfl, Below.refl _ _⟩
set_option maxRecDepth 100000 in
set_option maxHeartbeats 2000000 in
theorem rOr_any (A B : Option Addr) (n m c c2 g : Nat) (ah : List Bool) (x : Gt) (w : World) (hl : Hid (BLies w B ah)) (HX : Hid (ah.length = m)) (ha0 : 0 ≤ x.a) (ha1 : x.a < (m : Int)) (hb0 : 0 ≤ x.b) (hb1 : x.b < (m : Int)) (hc : GAt w g 0 x) :
    Calls Try.prog 167 #[.slice A n c, .slice B m c2, .pointer (some ⟨g, 0, none⟩)] w fun e w' => e = .returned (.bool (bt ah x.a || bt ah x.b)) ∧ Below w.heap.size w w' := by
  obtain ⟨ia, hia, hian, hax⟩ := bt_at ha0 ha1 HX.out
  obtain ⟨b1, off, hB, hbl, c1⟩ := hl.out ia _ hax
  obtain ⟨_, t1, t2⟩ := hc
  rw [Nat.zero_add] at t1 t2
  obtain ⟨ib, hib, hibn, hbx⟩ := bt_at hb0 hb1 HX.out
  obtain ⟨b2, off2, hB2, _, c2⟩ := hl.out ib _ hbx
  rw [hB] at hB2
  simp only [Option.some.injEq, Addr.mk.injEq, and_true] at hB2
  obtain ⟨rfl, rfl⟩ := hB2
  subst hB
  obtain ⟨va, hva⟩ : ∃ v, bt ah x.a = v := ⟨_, rfl⟩
  rw [hva] at c1 ⊢
  obtain ⟨vb, hvb⟩ : ∃ v, bt ah x.b = v := ⟨_, rfl⟩
  rw [hvb] at c2 ⊢
  rw [hia] at t1
  rw [hib] at t2
  clear ha0 ha1 hia hax hva hb0 hb1 hib hbx hvb
  cases va
  · go_enter Try.func167, Try.ntmps167
    go_wp2
    go_ret
    exact ⟨rfl, Below.refl _ _⟩
  · go_enter Try.func167, Try.ntmps167
    go_wp2
    go_ret
    exact ⟨rfl, Below.refl _ _⟩
set_option maxRecDepth 100000 in
set_option maxHeartbeats 2000000 in
theorem rXor_any (A B : Option Addr) (n m c c2 g : Nat) (ah : List Bool) (x : Gt) (w : World) (hl : Hid (BLies w B ah)) (HX : Hid (ah.length = m)) (ha0 : 0 ≤ x.a) (ha1 : x.a < (m : Int)) (hb0 : 0 ≤ x.b) (hb1 : x.b < (m : Int)) (hc : GAt w g 0 x) :
    Calls Try.prog 168 #[.slice A n c, .slice B m c2, .pointer (some ⟨g, 0, none⟩)] w fun e w' => e = .returned (.bool (bt ah x.a != bt ah x.b)) ∧ Below w.heap.size w w' := by
  obtain ⟨ia, hia, hian, hax⟩ := bt_at ha0 ha1 HX.out
  obtain ⟨b1, off, hB, hbl, c1⟩ := hl.out ia _ hax
  obtain ⟨_, t1, t2⟩ := hc
  rw [Nat.zero_add] at t1 t2
  obtain ⟨ib, hib, hibn, hbx⟩ := bt_at hb0 hb1 HX.out
  obtain ⟨b2, off2, hB2, _, c2⟩ := hl.out ib _ hbx
  rw [hB] at hB2
  simp only [Option.some.injEq, Addr.mk.injEq, and_true] at hB2
  obtain ⟨rfl, rfl⟩ := hB2
  subst hB
  obtain ⟨va, hva⟩ : ∃ v, bt ah x.a = v := ⟨_, rfl⟩
  rw [hva] at c1 ⊢
  obtain ⟨vb, hvb⟩ : ∃ v, bt ah x.b = v := ⟨_, rfl⟩
  rw [hvb] at c2 ⊢
  rw [hia] at t1
  rw [hib] at t2
  clear ha0 ha1 hia hax hva hb0 hb1 hib hbx hvb
  go_enter Try.func168, Try.ntmps168
  go_wp2_with fail
  go_quiet (fail)
  go_wp2
  go_ret
  exact ⟨rfl, bdrewG (Below.refl _ _) _⟩
theorem evK_some {xs : List Gt} {ins : List Bool} {k : Nat} {x : Gt} {v : Bool} (hx : xs[k]? = some x) (h : valG x (evK xs ins k) (ins[(inpN xs k).length]?.getD false) = v) : evK xs ins (k + 1) = evK xs ins k ++ [v] := by rw [evK_succ hx, h]
theorem inpN_room {xs : List Gt} {ins : List Bool} {k n : Nat} {x : Gt} (hx : xs[k]? = some x) (h1 : x.k = 1) (hn : xs.length = n) (hi : ins.length = (inpN xs n).length) : ∃ b, ins[(inpN xs k).length]? = some b := by
  have hk : k < n := by have := (List.getElem?_eq_some_iff.1 hx).1; omega
  have := inpN_mono xs (show k + 1 ≤ n by omega)
  rw [inpN_yes hx h1, List.length_append, List.length_singleton] at this
  exact ⟨_, List.getElem?_eq_getElem (by omega)⟩
/-- behind the append of one bool -/
theorem appB {w wr w3 : World} {bs : Nat} {l : List Bool} {k c2 g3 cap3 : Nat} {A2 : Option Addr} {x : Bool}
    (O2 : wr.ownsRow bs 4 1 (.slice A2 k c2) k (l.map Value.bool))
    (hown3 : w3.ownsRow bs 4 1 (.slice (some ⟨g3, 0, none⟩) (k + 1) cap3) (k + 1) (l.map Value.bool ++ [.bool x]))
    (hg3 : (wr.alloc (.cells #[.bool x] 4)).grownBy w3 (Value.slice A2 k c2).ownBlock)
    (B2 : Below w.heap.size w wr) (hbs : w.heap.size ≤ bs) :
    w3.ownsRow bs 4 1 (.slice (some ⟨g3, 0, none⟩) (k + 1) cap3) (k + 1) ((l ++ [x]).map Value.bool) ∧ Below w.heap.size w w3 := by
  have hlt := O2.lt
  refine ⟨by rw [List.map_append]; exact hown3, ?_⟩
  exact ((Below.tr B2 (below1 wr _)).grown hg3 (by have := B2.size; simp; omega) (fun g hg => Nat.le_trans hbs (hlt g hg).1))
/-- it answers a slice of bools of its own -/
def GaveBL (w : World) (l : List Bool) (e : Ending) (w' : World) : Prop :=
  ∃ A c, e = .returned (.slice A l.length c) ∧ w'.ownsRow w.heap.size 4 1 (.slice A l.length c) l.length (l.map Value.bool) ∧ Below w.heap.size w w'
set_option maxRecDepth 100000 in
set_option maxHeartbeats 8000000 in
theorem valuesBy_any (A B : Option Addr) (n m cap c2 : Nat) (xs : List Gt) (ins : List Bool) (w : World) (hl : Hid (Rules w A xs)) (HX : Hid (xs.length = n)) (hn : n ≤ 12) (HG : Hid (goodGB xs = true)) (hl2 : Hid (BLies w B ins)) (HY : Hid (ins.length = m)) (HM : Hid (m = (inpN xs n).length)) :
    Calls Try.prog 105 #[.slice A n cap, .slice B m c2] w (GaveBL w (evK xs ins n)) := by
  obtain ⟨i0, hi0, hz0, hz1, hz2⟩ := info_parts info_bool
  go_enter Try.func105, Try.ntmps105
  go_wp2_with (at_make; (refine wpList_make_own _ rfl _ _ 49 rfl w.heap.size 4 i0 _ 1 Try.underlying49 hi0 hz0 hz1 _ _ _ n rfl rfl rfl (by rw [hz2]; omega) (by unfold maxLen; omega) (Nat.le_refl _) ?_; intro w1 hown1 hg1; have HC := Lib.hid hown1; have HB := Lib.hid ((Below.refl w.heap.size w).grown hg1 (Nat.le_refl _) (by simp)); clear hown1 hg1))
  go_loopw [5, 13] (fun v i wr => ∃ k : Nat, k ≤ n ∧ i = .int .i64 k ∧ (∃ A2 cp, v = .slice A2 k cp ∧ wr.ownsRow w.heap.size 4 1 (.slice A2 k cp) k ((evK xs ins k).map Value.bool)) ∧ Below w.heap.size w wr) (fun _ i _ => n - (intOf i).toNat)
  case atStart => exact ⟨0, Nat.zero_le _, rfl, ⟨_, _, rfl, HC.out⟩, HB.out⟩
  case round =>
    obtain ⟨k, hk, rfl, ⟨A2, cp, rfl, hown⟩, hbw⟩ := hrel
    have O2 := Lib.hid hown
    have B2 := Lib.hid hbw
    have KL := Lib.hid (evK_len xs ins k)
    have AL := Lib.hid (own_blies (by have h := hown; rw [← KL.out] at h; rw [KL.out] at h; exact h : wr.ownsRow w.heap.size 4 1 (.slice A2 k cp) k ((evK xs ins k).map Value.bool)))
    clear hown hbw HC HB
    by_cases hlt : k < n
    · obtain ⟨x, hx⟩ : ∃ x, xs[k]? = some x := ⟨_, List.getElem?_eq_getElem (by have := HX.out; omega)⟩
      obtain ⟨b, off, v, rfl, hbl, hv, g, _, hgl, hru⟩ := (hl.out.below B2.out) k x hx
      have I2 := Lib.hid (hl2.out.below B2.out)
      have HXK := Lib.hid hx
      have hgk := gateB_kind (goodG_at HG.out hx)
      clear hx
      rcases hru with ⟨hk1, rfl, hcell⟩ | ⟨hk1, rfl, hcell⟩ | ⟨hk1, rfl, hcell⟩ | ⟨hk1, rfl, hcell⟩ | ⟨hk1, rfl, hcell⟩
      · obtain ⟨bb, hbb⟩ := inpN_room (ins := ins) HXK.out hk1 HX.out (HY.out.trans HM.out)
        have HBB := Lib.hid hbb
        have E : Hid (evK xs ins (k + 1) = evK xs ins k ++ [bb]) := Lib.hid (evK_some HXK.out (by rw [valG_1 hk1, hbb]; rfl))
        clear hbb
        clear hgk hk1
        unfold ruleV at hv
        go_wp2_with (first | (go_at_call 164; refine (rIn_any _ _ _ _ _ _ _ _ ins bb _ I2 HY HBB hcell).mono ?_; rintro e w3 ⟨rfl, hb3⟩; have O4 := Lib.hid (own_below O2.out hb3); have B4 := Lib.hid (Below.tr B2.out hb3); clear hb3) | (at_builtin; (refine wpList_append_lies _ rfl _ _ 49 rfl w.heap.size 4 i0 (.bool false) 1 1 Try.underlying49 hi0 hz0 hz1 hz2 rfl (by omega) _ k _ rfl (O4.out.alloc _) ⟨w3.heap.size, 0, none⟩ 1 1 [.bool bb] rfl rfl (one_new1 w3 _ _) (by intro u hu; rw [List.mem_singleton.1 hu]; rfl) (by omega) (by unfold maxLen; omega) (by omega) (by have := B4.out.size; first | omega | (simp; omega)) (w3.heap.size + 1) (by first | rfl | simp) ?_; intro g3 cap3 w4 hown3 hg3 hat3 hlt3; have H3 := Lib.hid (appB O4.out hown3 hg3 B4.out (Nat.le_refl _)); clear hown3 hg3 hat3 hlt3)))
        go_roundw
        case rel => exact ⟨k + 1, by omega, by go_num, ⟨some ⟨g3, 0, none⟩, cap3, rfl, by rw [E.out]; exact H3.out.1⟩, H3.out.2⟩
        case measure => simp [intOf]; omega
      · have ha0 : 0 ≤ x.a := by omega
        have ha1 : x.a < (k : Int) := by omega
        obtain ⟨bb, hbb⟩ : ∃ bb, (!bt (evK xs ins k) x.a) = bb := ⟨_, rfl⟩
        have HBB := Lib.hid hbb
        have E : Hid (evK xs ins (k + 1) = evK xs ins k ++ [bb]) := Lib.hid (evK_some HXK.out (by rw [valG_2 hk1, hbb]))
        clear hbb
        clear hgk hk1
        unfold ruleV at hv
        go_wp2_with (first | (go_at_call 165; refine (rNot_any _ _ _ _ _ _ _ (evK xs ins k) x _ AL KL ha0 ha1 hcell).mono ?_; rintro e w3 ⟨rfl, hb3⟩; rw [HBB.out]; have O4 := Lib.hid (own_below O2.out hb3); have B4 := Lib.hid (Below.tr B2.out hb3); clear hb3) | (at_builtin; (refine wpList_append_lies _ rfl _ _ 49 rfl w.heap.size 4 i0 (.bool false) 1 1 Try.underlying49 hi0 hz0 hz1 hz2 rfl (by omega) _ k _ rfl (O4.out.alloc _) ⟨w3.heap.size, 0, none⟩ 1 1 [.bool bb] rfl rfl (one_new1 w3 _ _) (by intro u hu; rw [List.mem_singleton.1 hu]; rfl) (by omega) (by unfold maxLen; omega) (by omega) (by have := B4.out.size; first | omega | (simp; omega)) (w3.heap.size + 1) (by first | rfl | simp) ?_; intro g3 cap3 w4 hown3 hg3 hat3 hlt3; have H3 := Lib.hid (appB O4.out hown3 hg3 B4.out (Nat.le_refl _)); clear hown3 hg3 hat3 hlt3)))
        go_roundw
        case rel => exact ⟨k + 1, by omega, by go_num, ⟨some ⟨g3, 0, none⟩, cap3, rfl, by rw [E.out]; exact H3.out.1⟩, H3.out.2⟩
        case measure => simp [intOf]; omega
      · have ha0 : 0 ≤ x.a := by omega
        have ha1 : x.a < (k : Int) := by omega
        have hb0 : 0 ≤ x.b := by omega
        have hb1 : x.b < (k : Int) := by omega
        obtain ⟨bb, hbb⟩ : ∃ bb, (bt (evK xs ins k) x.a && bt (evK xs ins k) x.b) = bb := ⟨_, rfl⟩
        have HBB := Lib.hid hbb
        have E : Hid (evK xs ins (k + 1) = evK xs ins k ++ [bb]) := Lib.hid (evK_some HXK.out (by rw [valG_3 hk1, hbb]))
        clear hbb
        clear hgk hk1
        unfold ruleV at hv
        go_wp2_with (first | (go_at_call 166; refine (rAnd_any _ _ _ _ _ _ _ (evK xs ins k) x _ AL KL ha0 ha1 hb0 hb1 hcell).mono ?_; rintro e w3 ⟨rfl, hb3⟩; rw [HBB.out]; have O4 := Lib.hid (own_below O2.out hb3); have B4 := Lib.hid (Below.tr B2.out hb3); clear hb3) | (at_builtin; (refine wpList_append_lies _ rfl _ _ 49 rfl w.heap.size 4 i0 (.bool false) 1 1 Try.underlying49 hi0 hz0 hz1 hz2 rfl (by omega) _ k _ rfl (O4.out.alloc _) ⟨w3.heap.size, 0, none⟩ 1 1 [.bool bb] rfl rfl (one_new1 w3 _ _) (by intro u hu; rw [List.mem_singleton.1 hu]; rfl) (by omega) (by unfold maxLen; omega) (by omega) (by have := B4.out.size; first | omega | (simp; omega)) (w3.heap.size + 1) (by first | rfl | simp) ?_; intro g3 cap3 w4 hown3 hg3 hat3 hlt3; have H3 := Lib.hid (appB O4.out hown3 hg3 B4.out (Nat.le_refl _)); clear hown3 hg3 hat3 hlt3)))
        go_roundw
        case rel => exact ⟨k + 1, by omega, by go_num, ⟨some ⟨g3, 0, none⟩, cap3, rfl, by rw [E.out]; exact H3.out.1⟩, H3.out.2⟩
        case measure => simp [intOf]; omega
      · have ha0 : 0 ≤ x.a := by omega
        have ha1 : x.a < (k : Int) := by omega
        have hb0 : 0 ≤ x.b := by omega
        have hb1 : x.b < (k : Int) := by omega
        obtain ⟨bb, hbb⟩ : ∃ bb, (bt (evK xs ins k) x.a || bt (evK xs ins k) x.b) = bb := ⟨_, rfl⟩
        have HBB := Lib.hid hbb
        have E : Hid (evK xs ins (k + 1) = evK xs ins k ++ [bb]) := Lib.hid (evK_some HXK.out (by rw [valG_4 hk1, hbb]))
        clear hbb
        clear hgk hk1
        unfold ruleV at hv
        go_wp2_with (first | (go_at_call 167; refine (rOr_any _ _ _ _ _ _ _ (evK xs ins k) x _ AL KL ha0 ha1 hb0 hb1 hcell).mono ?_; rintro e w3 ⟨rfl, hb3⟩; rw [HBB.out]; have O4 := Lib.hid (own_below O2.out hb3); have B4 := Lib.hid (Below.tr B2.out hb3); clear hb3) | (at_builtin; (refine wpList_append_lies _ rfl _ _ 49 rfl w.heap.size 4 i0 (.bool false) 1 1 Try.underlying49 hi0 hz0 hz1 hz2 rfl (by omega) _ k _ rfl (O4.out.alloc _) ⟨w3.heap.size, 0, none⟩ 1 1 [.bool bb] rfl rfl (one_new1 w3 _ _) (by intro u hu; rw [List.mem_singleton.1 hu]; rfl) (by omega) (by unfold maxLen; omega) (by omega) (by have := B4.out.size; first | omega | (simp; omega)) (w3.heap.size + 1) (by first | rfl | simp) ?_; intro g3 cap3 w4 hown3 hg3 hat3 hlt3; have H3 := Lib.hid (appB O4.out hown3 hg3 B4.out (Nat.le_refl _)); clear hown3 hg3 hat3 hlt3)))
        go_roundw
        case rel => exact ⟨k + 1, by omega, by go_num, ⟨some ⟨g3, 0, none⟩, cap3, rfl, by rw [E.out]; exact H3.out.1⟩, H3.out.2⟩
        case measure => simp [intOf]; omega
      · have ha0 : 0 ≤ x.a := by omega
        have ha1 : x.a < (k : Int) := by omega
        have hb0 : 0 ≤ x.b := by omega
        have hb1 : x.b < (k : Int) := by omega
        obtain ⟨bb, hbb⟩ : ∃ bb, (bt (evK xs ins k) x.a != bt (evK xs ins k) x.b) = bb := ⟨_, rfl⟩
        have HBB := Lib.hid hbb
        have E : Hid (evK xs ins (k + 1) = evK xs ins k ++ [bb]) := Lib.hid (evK_some HXK.out (by rw [valG_5 hk1, hbb]))
        clear hbb
        clear hgk hk1
        unfold ruleV at hv
        go_wp2_with (first | (go_at_call 168; refine (rXor_any _ _ _ _ _ _ _ (evK xs ins k) x _ AL KL ha0 ha1 hb0 hb1 hcell).mono ?_; rintro e w3 ⟨rfl, hb3⟩; rw [HBB.out]; have O4 := Lib.hid (own_below O2.out hb3); have B4 := Lib.hid (Below.tr B2.out hb3); clear hb3) | (at_builtin; (refine wpList_append_lies _ rfl _ _ 49 rfl w.heap.size 4 i0 (.bool false) 1 1 Try.underlying49 hi0 hz0 hz1 hz2 rfl (by omega) _ k _ rfl (O4.out.alloc _) ⟨w3.heap.size, 0, none⟩ 1 1 [.bool bb] rfl rfl (one_new1 w3 _ _) (by intro u hu; rw [List.mem_singleton.1 hu]; rfl) (by omega) (by unfold maxLen; omega) (by omega) (by have := B4.out.size; first | omega | (simp; omega)) (w3.heap.size + 1) (by first | rfl | simp) ?_; intro g3 cap3 w4 hown3 hg3 hat3 hlt3; have H3 := Lib.hid (appB O4.out hown3 hg3 B4.out (Nat.le_refl _)); clear hown3 hg3 hat3 hlt3)))
        go_roundw
        case rel => exact ⟨k + 1, by omega, by go_num, ⟨some ⟨g3, 0, none⟩, cap3, rfl, by rw [E.out]; exact H3.out.1⟩, H3.out.2⟩
        case measure => simp [intOf]; omega
    · obtain rfl : k = n := by omega
      go_wp2
      go_ret
      exact ⟨A2, cp, by rw [KL.out]; rfl, by rw [KL.out]; exact O2.out, B2.out⟩
end Go.Proofs.Ytklcfbjaodildaa
