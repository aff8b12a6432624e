/-
  LaidWalk, LayOut: both sides.
-/
import Derived.Test.YtbmmajdacebncaaAc4
namespace Go.Proofs.Ytbmmajdacebncaa
open Go.ChangeShapes Go.WideShapes Go.ChangeAt Go.RowKit

noncomputable def rLaid (s : Int) (k : List Int) : List Int × Bool := if spotsB s k then (laidW s.toNat k, true) else ([], false)
theorem rLaid_no {s : Int} {k : List Int} (h : spotsB s k = false) : rLaid s k = ([], false) := by unfold rLaid; rw [h]; rfl
theorem rLaid_yes {s : Int} {k : List Int} (h : spotsB s k = true) : rLaid s k = (laidW s.toNat k, true) := by unfold rLaid; rw [h]; rfl
theorem rLaid_len {s : Int} {k : List Int} {r0 : List Int} {r1 : Bool} (h : rLaid s k = (r0, r1)) : r0.length ≤ 1000 := by
  cases q : spotsB s k with
  | false => rw [rLaid_no q] at h; cases h; simp
  | true => rw [rLaid_yes q] at h; cases h; rw [laidW_len]; have := spots_len q; omega
theorem laid_val {s : Int} {k : List Int} {j : Nat} {x : Int} (hs : 0 ≤ s) (hx : k[j]? = some x) : (laidW s.toNat k)[j]? = some ((j : Int) * s + x) := by rw [laidW_at hx, Int.toNat_of_nonneg hs]
theorem mul_le8 {j : Nat} {s : Int} (hj : j < 8) (hs : 1 ≤ s ∧ s ≤ 6) : 0 ≤ (j : Int) * s ∧ (j : Int) * s ≤ 42 := by
  have : s = 1 ∨ s = 2 ∨ s = 3 ∨ s = 4 ∨ s = 5 ∨ s = 6 := by omega
  rcases this with rfl | rfl | rfl | rfl | rfl | rfl <;> omega
theorem mul_le9 {j : Nat} {s : Int} (hj : j < 7) (hs : 1 ≤ s ∧ s ≤ 6) : 0 ≤ ((j : Int) + 1) * s ∧ ((j : Int) + 1) * s ≤ 42 := by
  have : s = 1 ∨ s = 2 ∨ s = 3 ∨ s = 4 ∨ s = 5 ∨ s = 6 := by omega
  rcases this with rfl | rfl | rfl | rfl | rfl | rfl <;> omega
theorem spot_le {s : Int} {k : List Int} {j : Nat} {x : Int} (h : spotsB s k = true) (hx : k[j]? = some x) : 0 ≤ x ∧ x < s := (spotsB_iff.1 h).2.2 x (List.mem_of_getElem? hx)
/-- an append of one number to a row of one's own -/
theorem append_one {v w : World} {bs k c : Nat} {A : Option Addr} {l : List Int} {x : Int} {ops : Array Oper} {rest : List Oper} {o : Oper} {a : Act} {Q : Exit → Act → World → Prop} (s t : Operand)
    (hg : o.guard = none) (hop : o.op = Op.call { callee := Callee.builtin Builtin.append, args := #[s, t], argTypes := #[24, 24] })
    (hs : a.eval s = .slice A k c) (ht : a.eval t = .slice (some ⟨v.heap.size, 0, none⟩) 1 1) (ho : v.ownsRow bs 3 1 (.slice A k c) k (l.map (Value.int .i64)))
    (hb : Below w.heap.size w v) (hbs : w.heap.size ≤ bs) (hbv : bs ≤ v.heap.size) (hk : k ≤ 10000000)
    (hK : ∀ g cc w', w'.ownsRow bs 3 1 (.slice (some ⟨g, 0, none⟩) (k + 1) cc) (k + 1) ((l ++ [x]).map (Value.int .i64)) → Below w.heap.size w w' → wpList Try.prog ops Q rest (a.put o.dst (.slice (some ⟨g, 0, none⟩) (k + 1) cc)) w') :
    wpList Try.prog ops Q (o :: rest) a (v.alloc (.cells #[.int .i64 x] 3)) := by
  obtain ⟨i0, hi0, hz0, hz1, hz2⟩ := info_parts info_int
  refine wpList_append_lies _ hg _ _ 24 hop bs 3 i0 (.int .i64 0) 1 8 Try.underlying24 hi0 hz0 hz1 hz2 rfl (by omega) _ k _ hs (ho.alloc _) ⟨v.heap.size, 0, none⟩ 1 1 [.int .i64 x] ht rfl (one_new1 v _ _) (by intro u hu; rw [List.mem_singleton.1 hu]; rfl) (by omega) (by unfold maxLen; omega) (by omega) (by simp; omega) (v.heap.size + 1) (by simp) ?_
  intro g cc w' h1 h2 _ _
  have H := app1 ho h1 h2 hb hbs
  exact hK g cc w' H.1 H.2
theorem pc_one (p : Int × Int) : ∀ u ∈ pc p, u.oneCell' = true := by intro u hu; simp [pc] at hu; rcases hu with rfl | rfl <;> rfl
/-- an append of one arc to a row of one's own -/
theorem append_arc {v w : World} {bs k c : Nat} {A : Option Addr} {l : AL} {x y : Int} {ops : Array Oper} {rest : List Oper} {o : Oper} {a : Act} {Q : Exit → Act → World → Prop} (s t : Operand) (G : Nat) (hG : v.heap.size = G)
    (hg : o.guard = none) (hop : o.op = Op.call { callee := Callee.builtin Builtin.append, args := #[s, t], argTypes := #[23, 23] })
    (hs : a.eval s = .slice A k c) (ht : a.eval t = .slice (some ⟨G, 0, none⟩) 1 1) (ho : v.ownsRow bs 36 2 (.slice A k c) k (acells l))
    (hb : Below w.heap.size w v) (hbs : w.heap.size ≤ bs) (hbv : bs ≤ v.heap.size) (hk : k ≤ 10000000)
    (hK : ∀ g cc w', w'.ownsRow bs 36 2 (.slice (some ⟨g, 0, none⟩) (k + 1) cc) (k + 1) (acells (l ++ [(x, y)])) → Below w.heap.size w w' → wpList Try.prog ops Q rest (a.put o.dst (.slice (some ⟨g, 0, none⟩) (k + 1) cc)) w') :
    wpList Try.prog ops Q (o :: rest) a (v.alloc (.cells #[.int .i64 x, .int .i64 y] 36)) := by
  obtain ⟨i0, hi0, hz0, hz1, hz2⟩ := info_parts info_arc
  subst hG
  refine wpList_append_lies _ hg _ _ 23 hop bs 36 i0 _ 2 16 Try.underlying23 hi0 hz0 hz1 hz2 rfl (by omega) _ k _ hs (ho.alloc _) ⟨v.heap.size, 0, none⟩ 1 1 (pc (x, y)) ht rfl (by exact World.news_of_block (heap_alloc_new v _)) (pc_one _) (by omega) (by unfold maxLen; omega) (by omega) (by simp; omega) (v.heap.size + 1) (by simp) ?_
  intro g cc w' h1 h2 _ _
  refine hK g cc w' (by rw [acells_add, show acells [(x, y)] = pc (x, y) by simp [acells]]; exact h1) ?_
  exact (Below.tr hb (below1 v _)).grown h2 (by have := hb.size; simp; omega) (fun g hg => Nat.le_trans hbs (ho.lt g hg).1)
set_option maxRecDepth 100000 in
set_option maxHeartbeats 4000000 in
theorem implLaid_any (s : Int) (B : Option Addr) (m cp : Nat) (k : List Int) (w : World) (r0 : List Int) (r1 : Bool) (HR : Hid (rLaid s k = (r0, r1))) (hk : Hid (ILies w B k)) (HY : Hid (k.length = m)) (hm : m ≤ 1048576) :
    Calls Try.prog 16 #[.int .i64 s, .slice B m cp] w (GaveTwo w r0 r1) := by
  obtain ⟨i0, hi0, hz0, hz1, hz2⟩ := info_parts info_int
  obtain ⟨p, hp⟩ : ∃ p, spotsB s k = p := ⟨_, rfl⟩
  have HP := Lib.hid hp
  clear hp
  cases p with
  | false =>
    have E := Lib.hid (Prod.mk.inj (HR.out.symm.trans (rLaid_no HP.out)))
    go_enter Try.func16, Try.ntmps16
    go_wp2_with (go_at_call 48; refine (areSpots_any s _ _ _ k _ _ HP hk HY hm).mono ?_; rintro e w' ⟨rfl, rfl⟩)
    go_ret2
    rw [E.out.1, E.out.2]
    exact two_nil _ _ (Below.refl _ _)
  | true =>
    have E := Lib.hid (Prod.mk.inj (HR.out.symm.trans (rLaid_yes HP.out)))
    have hml := spots_len HP.out
    rw [HY.out] at hml
    obtain ⟨hm1, hm8⟩ := hml
    have hs := (spotsB_iff.1 HP.out).1
    have HS := Lib.hid hs
    have LL : Hid (r0.length = m) := Lib.hid (by rw [E.out.1, laidW_len, HY.out])
    go_enter Try.func16, Try.ntmps16
    go_wp2_with (first | (go_at_call 48; refine (areSpots_any s _ _ _ k _ _ HP hk HY hm).mono ?_; rintro e w' ⟨rfl, rfl⟩) | (at_make; (refine wpList_make_full _ rfl _ _ 24 rfl w.heap.size 3 i0 _ 1 Try.underlying24 hi0 hz0 hz1 _ _ _ _ m rfl rfl (by omega) (by omega) (by rw [hz2]; omega) (by unfold maxLen; omega) (Nat.le_refl _) ?_; intro w1 hown1 hg1; have HC := Lib.hid (VCopied.start (vs := r0.map (Value.int .i64)) (by simpa using LL.out) hown1); have HB := Lib.hid ((Below.refl w.heap.size w).grown hg1 (Nat.le_refl _) (by simp)); clear hown1 hg1)))
    go_loopw [18] (fun i wr => ∃ j : Nat, j ≤ m ∧ i = .int .i64 j ∧ VCopied 3 w.heap.size (r0.map (Value.int .i64)) j wr ∧ Below w.heap.size w wr) (fun i _ => m - (intOf i).toNat)
    case atStart => exact ⟨0, Nat.zero_le _, rfl, HC.out, HB.out⟩
    case round =>
      obtain ⟨j, hj, rfl, hc, hb⟩ := hrel
      have C1 := Lib.hid hc
      have B1 := Lib.hid hb
      clear hc hb HC HB
      by_cases hlt : j < m
      · obtain ⟨x, hx⟩ : ∃ x, k[j]? = some x := ⟨_, List.getElem?_eq_getElem (by have := HY.out; omega)⟩
        obtain ⟨b, off, rfl, hbl, ha⟩ := (hk.out.below B1.out) j x hx
        have hx6 := spot_le HP.out hx
        obtain ⟨M, hM⟩ : ∃ M, (j : Int) * s = M := ⟨_, rfl⟩
        have hMb := mul_le8 (j := j) (s := s) (by omega) hs
        rw [hM] at hMb
        have HV : Hid ((r0.map (Value.int .i64))[j]? = some (.int .i64 (M + x))) := Lib.hid (by rw [E.out.1, List.getElem?_map, laid_val (by omega) hx, hM]; rfl)
        clear hx
        obtain ⟨v0, t0⟩ := C1.out.there j (by have := LL.out; simp; omega)
        have f0 := C1.out.free j
        go_wp2
        go_roundw
        case rel => exact ⟨j + 1, by omega, by go_num, C1.out.step HV.out, B1.out.setCell (Nat.le_refl _) _⟩
        case measure => simp [intOf]; omega
      · obtain rfl : j = m := by omega
        go_wp2
        go_ret2
        rw [E.out.2]
        have hbk : Blk wr w.heap.size 3 (r0.map (Value.int .i64)) := by
          have h := C1.out
          rw [show j = (r0.map (Value.int .i64)).length by rw [List.length_map]; exact LL.out.symm] at h
          exact h.end_
        exact two_of LL.out (own_of_vblk hbk (by simpa using LL.out) (by omega)) B1.out
set_option maxRecDepth 100000 in
set_option maxHeartbeats 4000000 in
theorem specLaid_any (s : Int) (B : Option Addr) (m cp : Nat) (k : List Int) (w : World) (r0 : List Int) (r1 : Bool) (HR : Hid (rLaid s k = (r0, r1))) (hk : Hid (ILies w B k)) (HY : Hid (k.length = m)) (hm : m ≤ 1048576) :
    Calls Try.prog 17 #[.int .i64 s, .slice B m cp] w (GaveTwo w r0 r1) := by
  obtain ⟨i0, hi0, hz0, hz1, hz2⟩ := info_parts info_int
  obtain ⟨p, hp⟩ : ∃ p, spotsB s k = p := ⟨_, rfl⟩
  have HP := Lib.hid hp
  clear hp
  cases p with
  | false =>
    have E := Lib.hid (Prod.mk.inj (HR.out.symm.trans (rLaid_no HP.out)))
    go_enter Try.func17, Try.ntmps17
    go_wp2_with (go_at_call 50; refine (l12Walk_any s _ _ _ k _ _ HP hk HY hm).mono ?_; rintro e w' ⟨rfl, rfl⟩)
    go_ret2
    rw [E.out.1, E.out.2]
    exact two_nil _ _ (Below.refl _ _)
  | true =>
    have E := Lib.hid (Prod.mk.inj (HR.out.symm.trans (rLaid_yes HP.out)))
    have hml := spots_len HP.out
    rw [HY.out] at hml
    obtain ⟨hm1, hm8⟩ := hml
    have hs := (spotsB_iff.1 HP.out).1
    have HS := Lib.hid hs
    have LL : Hid (r0.length = m) := Lib.hid (by rw [E.out.1, laidW_len, HY.out])
    go_enter Try.func17, Try.ntmps17
    go_wp2_with (go_at_call 50; refine (l12Walk_any s _ _ _ k _ _ HP hk HY hm).mono ?_; rintro e w' ⟨rfl, rfl⟩)
    go_loopw [6, 15] (fun ov i wr => ∃ (j : Nat) (A2 : Option Addr) (c2 : Nat), j ≤ m ∧ i = .int .i64 j ∧ ov = .slice A2 j c2 ∧ wr.ownsRow w.heap.size 3 1 (.slice A2 j c2) j ((r0.take j).map (Value.int .i64)) ∧ Below w.heap.size w wr) (fun _ i _ => m - (intOf i).toNat)
    case atStart => exact ⟨0, none, 0, Nat.zero_le _, rfl, rfl, World.ownsRow_nil _ _ _ _, Below.refl _ _⟩
    case round =>
      obtain ⟨j, A2, c2, hj, rfl, rfl, hown, hb⟩ := hrel
      have O1 := Lib.hid hown
      have B1 := Lib.hid hb
      clear hown hb
      by_cases hlt : j < m
      · obtain ⟨x, hx⟩ : ∃ x, k[j]? = some x := ⟨_, List.getElem?_eq_getElem (by have := HY.out; omega)⟩
        obtain ⟨b, off, rfl, hbl, ha⟩ := (hk.out.below B1.out) j x hx
        have hx6 := spot_le HP.out hx
        obtain ⟨M, hM⟩ : ∃ M, (j : Int) * s = M := ⟨_, rfl⟩
        have hMb := mul_le8 (j := j) (s := s) (by omega) hs
        rw [hM] at hMb
        have HT : Hid (r0.take (j + 1) = r0.take j ++ [M + x]) := Lib.hid (by rw [take_snoc (x := M + x) (by rw [E.out.1, laid_val (by omega) hx, hM])])
        clear hx
        go_wp2_with (at_builtin; (refine append_one (x := M + x) (l := r0.take j) _ _ rfl rfl rfl rfl O1.out B1.out (Nat.le_refl _) B1.out.size (by omega) ?_; intro g4 c4 w4 ho4 hb4; have O4 := Lib.hid ho4; have B4 := Lib.hid hb4; clear ho4 hb4))
        go_roundw
        case rel => exact ⟨j + 1, _, _, by omega, by go_num, rfl, by rw [HT.out]; exact O4.out, B4.out⟩
        case measure => simp [intOf]; omega
      · obtain rfl : j = m := by omega
        go_wp2
        go_ret2
        rw [E.out.2]
        have h := O1.out
        rw [List.take_of_length_le (by have := LL.out; omega)] at h
        exact two_of LL.out h B1.out
noncomputable def rLay (s : Int) (l : AL) (t : Int) : AL × Bool := if goodAB s l && inB 1 8 t then (layL s.toNat l (t - 1).toNat, true) else ([], false)
theorem rLay_no1 {s t : Int} {l : AL} (h : goodAB s l = false) : rLay s l t = ([], false) := by unfold rLay; rw [h]; rfl
theorem rLay_no2 {s t : Int} {l : AL} (h : inB 1 8 t = false) : rLay s l t = ([], false) := by unfold rLay; rw [h]; simp
theorem rLay_yes {s t : Int} {l : AL} (h : goodAB s l = true) (h2 : inB 1 8 t = true) : rLay s l t = (layL s.toNat l (t - 1).toNat, true) := by unfold rLay; rw [h, h2]; rfl
theorem good_s {s : Int} {l : AL} (h : goodAB s l = true) : (1 ≤ s ∧ s ≤ 6) ∧ l.length ≤ 30 ∧ GoodA s.toNat l := by
  obtain ⟨n, rfl, g⟩ := goodAB_iff.1 h
  have := g.lo; have := g.hi; have := g.len
  exact ⟨by omega, by omega, by simpa using g⟩
theorem rLay_len {s t : Int} {l : AL} {r0 : AL} {r1 : Bool} (h : rLay s l t = (r0, r1)) : r0.length ≤ 1000 := by
  cases q : goodAB s l with
  | false => rw [rLay_no1 q] at h; cases h; simp
  | true =>
    cases q2 : inB 1 8 t with
    | false => rw [rLay_no2 q2] at h; cases h; simp
    | true =>
      rw [rLay_yes q q2] at h; cases h
      rw [lay_len]
      have h1 := (good_s q).2.1
      have h2 := inB_yes q2
      have : (t - 1).toNat * l.length ≤ 7 * 30 := Nat.mul_le_mul (by omega) h1
      omega
/-- it answers a slice of arcs of its own, and a bool -/
def GaveAT (w : World) (l : AL) (b : Bool) (e : Ending) (w' : World) : Prop :=
  ∃ A c, e = .returned (.tuple #[.slice A l.length c, .bool b]) ∧ w'.ownsRow w.heap.size 36 2 (.slice A l.length c) l.length (acells l) ∧ Below w.heap.size w w'
theorem at_nil (w w1 : World) (h : Below w.heap.size w w1) : GaveAT w [] false (.returned (.tuple #[.slice none 0 0, .bool false])) w1 :=
  ⟨none, 0, rfl, World.ownsRow_nil _ _ _ _, h⟩
theorem at_of {w wr : World} {A2 : Option Addr} {c2 k : Nat} {l : AL} (hl : l.length = k) (h : wr.ownsRow w.heap.size 36 2 (.slice A2 k c2) k (acells l)) (hb : Below w.heap.size w wr) :
    GaveAT w l true (.returned (.tuple #[.slice A2 k c2, .bool true])) wr := by
  subst hl
  exact ⟨_, _, rfl, h, hb⟩
theorem lay_next {s : Int} {l : AL} {k i : Nat} {x : Int × Int} {M M2 : Int} (hs : 0 ≤ s) (hx : l[i]? = some x) (h1 : (k : Int) * s = M) (h2 : ((k : Int) + 1) * s = M2) :
    layL s.toNat l k ++ layer s.toNat (l.take (i + 1)) k = (layL s.toNat l k ++ layer s.toNat (l.take i) k) ++ [(M + x.1, M2 + x.2)] := by
  rw [layer_snoc _ _ _ hx, Int.toNat_of_nonneg hs, h1, h2, List.append_assoc]
theorem lay_full {s : Int} {l : AL} {k : Nat} : layL s.toNat l k ++ layer s.toNat (l.take l.length) k = layL s.toNat l (k + 1) := by rw [List.take_length]; rfl
theorem lay_z {s : Int} {l : AL} {k i : Nat} (hl : l.length ≤ 30) (hk : k ≤ 7) : (layL s.toNat l k ++ layer s.toNat (l.take i) k).length ≤ 300 := by
  rw [List.length_append, lay_len]
  unfold layer
  rw [List.length_map, List.length_take]
  have : k * l.length ≤ 7 * 30 := Nat.mul_le_mul hk hl
  omega
set_option maxRecDepth 100000 in
set_option maxHeartbeats 4000000 in
theorem implLay_any (s t : Int) (A : Option Addr) (n cap : Nat) (l : AL) (w : World) (r0 : AL) (r1 : Bool) (HR : Hid (rLay s l t = (r0, r1))) (hl : Hid (ALies w A l)) (HX : Hid (l.length = n)) (hn : n ≤ 1048576) :
    Calls Try.prog 19 #[.int .i64 s, .slice A n cap, .int .i64 t] w (GaveAT w r0 r1) := by
  obtain ⟨p, hp⟩ : ∃ p, goodAB s l = p := ⟨_, rfl⟩
  have HP := Lib.hid hp
  clear hp
  obtain ⟨q, hq⟩ : ∃ q, inB 1 8 t = q := ⟨_, rfl⟩
  have HT := Lib.hid hq
  clear hq
  cases p with
  | false =>
    have E := Lib.hid (Prod.mk.inj (HR.out.symm.trans (rLay_no1 HP.out)))
    go_enter Try.func19, Try.ntmps19
    go_wp2_with fail
    refine (implGoodA_any s _ _ _ l _ _ HP hl HX hn).mono ?_
    rintro e w2 ⟨rfl, hb⟩
    go_wp2
    go_ret2
    rw [E.out.1, E.out.2]
    exact at_nil _ _ hb
  | true =>
    cases q with
    | false =>
      have E := Lib.hid (Prod.mk.inj (HR.out.symm.trans (rLay_no2 HT.out)))
      go_enter Try.func19, Try.ntmps19
      go_wp2_with fail
      refine (implGoodA_any s _ _ _ l _ _ HP hl HX hn).mono ?_
      rintro e w2 ⟨rfl, hb⟩
      go_wp2_with (go_at_call 52; refine (isLayer_any _ _).mono ?_; rintro e w' ⟨rfl, rfl⟩; rw [HT.out])
      go_ret2
      rw [E.out.1, E.out.2]
      exact at_nil _ _ hb
    | true =>
      have E := Lib.hid (Prod.mk.inj (HR.out.symm.trans (rLay_yes HP.out HT.out)))
      obtain ⟨hs, hl30, _⟩ := good_s HP.out
      have HL30 := Lib.hid hl30
      rw [HX.out] at hl30
      have ht := inB_yes HT.out
      obtain ⟨m, hm⟩ : ∃ m : Nat, t - 1 = (m : Int) := ⟨(t - 1).toNat, by omega⟩
      have hm7 : m ≤ 7 := by omega
      have hmt : (t - 1).toNat = m := by omega
      have HM := Lib.hid hmt
      have hwm : IntKind.i64.wrap (m : Int) = (m : Int) := by rw [IntKind.wrap_i64]; omega
      clear hmt
      go_enter Try.func19, Try.ntmps19
      go_wp2_with fail
      refine (implGoodA_any s _ _ _ l _ _ HP hl HX hn).mono ?_
      rintro e w2 ⟨rfl, hb⟩
      have B2 := Lib.hid hb
      clear hb
      go_wp2_with (go_at_call 52; refine (isLayer_any _ _).mono ?_; rintro e w' ⟨rfl, rfl⟩; rw [HT.out])
      go_loopw [8, 23] (fun ov i wr => ∃ (k z : Nat) (A2 : Option Addr) (c2 : Nat), k ≤ m ∧ i = .int .i64 k ∧ ov = .slice A2 z c2 ∧ (layL s.toNat l k).length = z ∧ wr.ownsRow w.heap.size 36 2 (.slice A2 z c2) z (acells (layL s.toNat l k)) ∧ Below w.heap.size w wr) (fun _ i _ => m - (intOf i).toNat)
      case atStart => exact ⟨0, 0, none, 0, Nat.zero_le _, rfl, rfl, rfl, World.ownsRow_nil _ _ _ _, B2.out⟩
      case round =>
        obtain ⟨k, z, A2, c2, hk, rfl, rfl, hz, hown, hb⟩ := hrel
        have O1 := Lib.hid hown
        have B1 := Lib.hid hb
        have Z1 := Lib.hid hz
        clear hown hb hz
        by_cases hlt : k < m
        · have hkm : (k : Int) < (m : Int) := by omega
          go_wp2_with fail
          go_loopw [8, 28] (fun ov i wq => ∃ (j y : Nat) (A3 : Option Addr) (c3 : Nat), j ≤ n ∧ i = .int .i64 j ∧ ov = .slice A3 y c3 ∧ (layL s.toNat l k ++ layer s.toNat (l.take j) k).length = y ∧ wq.ownsRow w.heap.size 36 2 (.slice A3 y c3) y (acells (layL s.toNat l k ++ layer s.toNat (l.take j) k)) ∧ Below w.heap.size w wq) (fun _ i _ => n - (intOf i).toNat)
          case atStart => exact ⟨0, z, A2, c2, Nat.zero_le _, rfl, rfl, by simpa [layer] using Z1.out, by simpa [layer] using O1.out, B1.out⟩
          case round =>
            obtain ⟨j, y, A3, c3, hj, rfl, rfl, hy, hown3, hb3⟩ := hrel
            have O3 := Lib.hid hown3
            have B3 := Lib.hid hb3
            have hy3 : y ≤ 300 := by rw [← hy]; exact lay_z HL30.out (by omega)
            have Y3 := Lib.hid hy
            clear hown3 hb3 hy
            by_cases hlj : j < n
            · obtain ⟨x, hx⟩ : ∃ x, l[j]? = some x := ⟨_, List.getElem?_eq_getElem (by have := HX.out; omega)⟩
              obtain ⟨b, off, rfl, hbl, e0, e1⟩ := (hl.out.below B3.out) j x hx
              have hx6 := (good_s HP.out).2.2.rng x (List.mem_of_getElem? hx)
              have hx7 : (0 ≤ x.1 ∧ x.1 ≤ 6) ∧ (0 ≤ x.2 ∧ x.2 ≤ 6) := by omega
              clear hx6
              obtain ⟨M, hM⟩ : ∃ M, (k : Int) * s = M := ⟨_, rfl⟩
              have hMb := mul_le8 (j := k) (s := s) (by omega) hs
              rw [hM] at hMb
              obtain ⟨M2, hM2⟩ : ∃ M, ((k : Int) + 1) * s = M := ⟨_, rfl⟩
              have hMb2 := mul_le9 (j := k) (s := s) (by omega) hs
              rw [hM2] at hMb2
              have HN := Lib.hid (lay_next (by omega) hx hM hM2)
              clear hx
              go_wp2_with (at_builtin; (refine append_arc (x := M + x.1) (y := M2 + x.2) (l := layL s.toNat l k ++ layer s.toNat (l.take j) k) _ _ (wr.heap.size + 1) (by simp) rfl rfl rfl rfl (O3.out.alloc _) (B3.out.alloc B3.out.size _) (Nat.le_refl _) (B3.out.alloc B3.out.size _).size (by omega) ?_; intro g4 c4 w4 ho4 hb4; have O4 := Lib.hid ho4; have B4 := Lib.hid hb4; clear ho4 hb4))
              go_roundw
              case rel => exact ⟨j + 1, y + 1, _, _, by omega, by go_num, rfl, by rw [HN.out, List.length_append, Y3.out]; rfl, by rw [HN.out]; exact O4.out, B4.out⟩
              case measure => simp [intOf]; omega
            · obtain rfl : j = n := by omega
              have e : layL s.toNat l k ++ layer s.toNat (l.take j) k = layL s.toNat l (k + 1) := by rw [← HX.out]; exact lay_full
              rw [e] at O3 Y3
              go_wp2
              go_roundw
              case rel => exact ⟨k + 1, y, _, _, by omega, by go_num, rfl, Y3.out, O3.out, B3.out⟩
              case measure => simp [intOf]; omega
        · obtain rfl : k = m := by omega
          have hkk : ¬ ((k : Int) < (k : Int)) := by omega
          go_wp2
          go_ret2
          rw [E.out.1, E.out.2, HM.out]
          exact at_of Z1.out O1.out B1.out
set_option maxRecDepth 100000 in
set_option maxHeartbeats 4000000 in
theorem specLay_any (s t : Int) (A : Option Addr) (n cap : Nat) (l : AL) (w : World) (r0 : AL) (r1 : Bool) (HR : Hid (rLay s l t = (r0, r1))) (hl : Hid (ALies w A l)) (HX : Hid (l.length = n)) (hn : n ≤ 1048576) :
    Calls Try.prog 22 #[.int .i64 s, .slice A n cap, .int .i64 t] w (GaveAT w r0 r1) := by
  obtain ⟨p, hp⟩ : ∃ p, goodAB s l = p := ⟨_, rfl⟩
  have HP := Lib.hid hp
  clear hp
  obtain ⟨q, hq⟩ : ∃ q, inB 1 8 t = q := ⟨_, rfl⟩
  have HT := Lib.hid hq
  clear hq
  cases p with
  | false =>
    have E := Lib.hid (Prod.mk.inj (HR.out.symm.trans (rLay_no1 HP.out)))
    go_enter Try.func22, Try.ntmps22
    go_wp2_with fail
    refine (specGoodA_any s _ _ _ l _ _ HP hl HX hn).mono ?_
    rintro e w2 ⟨rfl, hb⟩
    go_wp2
    go_ret2
    rw [E.out.1, E.out.2]
    exact at_nil _ _ hb
  | true =>
    cases q with
    | false =>
      have E := Lib.hid (Prod.mk.inj (HR.out.symm.trans (rLay_no2 HT.out)))
      go_enter Try.func22, Try.ntmps22
      go_wp2_with fail
      refine (specGoodA_any s _ _ _ l _ _ HP hl HX hn).mono ?_
      rintro e w2 ⟨rfl, hb⟩
      go_wp2_with (go_at_call 54; refine (l1In_any _ _ _ _).mono ?_; rintro e w' ⟨rfl, rfl⟩; rw [HT.out])
      go_ret2
      rw [E.out.1, E.out.2]
      exact at_nil _ _ hb
    | true =>
      have E := Lib.hid (Prod.mk.inj (HR.out.symm.trans (rLay_yes HP.out HT.out)))
      obtain ⟨hs, hl30, _⟩ := good_s HP.out
      have HL30 := Lib.hid hl30
      rw [HX.out] at hl30
      have ht := inB_yes HT.out
      obtain ⟨m, hm⟩ : ∃ m : Nat, t - 1 = (m : Int) := ⟨(t - 1).toNat, by omega⟩
      have hm7 : m ≤ 7 := by omega
      have hmt : (t - 1).toNat = m := by omega
      have HM := Lib.hid hmt
      have hwm : IntKind.i64.wrap (m : Int) = (m : Int) := by rw [IntKind.wrap_i64]; omega
      clear hmt
      go_enter Try.func22, Try.ntmps22
      go_wp2_with fail
      refine (specGoodA_any s _ _ _ l _ _ HP hl HX hn).mono ?_
      rintro e w2 ⟨rfl, hb⟩
      have B2 := Lib.hid hb
      clear hb
      go_wp2_with (go_at_call 54; refine (l1In_any _ _ _ _).mono ?_; rintro e w' ⟨rfl, rfl⟩; rw [HT.out])
      go_loopw [8, 9] (fun ov i wr => ∃ (k z : Nat) (A2 : Option Addr) (c2 : Nat), k ≤ m ∧ i = .int .i64 k ∧ ov = .slice A2 z c2 ∧ (layL s.toNat l k).length = z ∧ wr.ownsRow w.heap.size 36 2 (.slice A2 z c2) z (acells (layL s.toNat l k)) ∧ Below w.heap.size w wr) (fun _ i _ => m - (intOf i).toNat)
      case atStart => exact ⟨0, 0, none, 0, Nat.zero_le _, rfl, rfl, rfl, World.ownsRow_nil _ _ _ _, B2.out⟩
      case round =>
        obtain ⟨k, z, A2, c2, hk, rfl, rfl, hz, hown, hb⟩ := hrel
        have O1 := Lib.hid hown
        have B1 := Lib.hid hb
        have Z1 := Lib.hid hz
        clear hown hb hz
        by_cases hlt : k < m
        · have hkm : (k : Int) < (m : Int) := by omega
          go_wp2_with fail
          go_loopw [8, 29] (fun ov i wq => ∃ (j y : Nat) (A3 : Option Addr) (c3 : Nat), j ≤ n ∧ i = .int .i64 j ∧ ov = .slice A3 y c3 ∧ (layL s.toNat l k ++ layer s.toNat (l.take j) k).length = y ∧ wq.ownsRow w.heap.size 36 2 (.slice A3 y c3) y (acells (layL s.toNat l k ++ layer s.toNat (l.take j) k)) ∧ Below w.heap.size w wq) (fun _ i _ => n - (intOf i).toNat)
          case atStart => exact ⟨0, z, A2, c2, Nat.zero_le _, rfl, rfl, by simpa [layer] using Z1.out, by simpa [layer] using O1.out, B1.out⟩
          case round =>
            obtain ⟨j, y, A3, c3, hj, rfl, rfl, hy, hown3, hb3⟩ := hrel
            have O3 := Lib.hid hown3
            have B3 := Lib.hid hb3
            have hy3 : y ≤ 300 := by rw [← hy]; exact lay_z HL30.out (by omega)
            have Y3 := Lib.hid hy
            clear hown3 hb3 hy
            by_cases hlj : j < n
            · obtain ⟨x, hx⟩ : ∃ x, l[j]? = some x := ⟨_, List.getElem?_eq_getElem (by have := HX.out; omega)⟩
              obtain ⟨b, off, rfl, hbl, e0, e1⟩ := (hl.out.below B3.out) j x hx
              have hx6 := (good_s HP.out).2.2.rng x (List.mem_of_getElem? hx)
              have hx7 : (0 ≤ x.1 ∧ x.1 ≤ 6) ∧ (0 ≤ x.2 ∧ x.2 ≤ 6) := by omega
              clear hx6
              obtain ⟨M, hM⟩ : ∃ M, (k : Int) * s = M := ⟨_, rfl⟩
              have hMb := mul_le8 (j := k) (s := s) (by omega) hs
              rw [hM] at hMb
              obtain ⟨M2, hM2⟩ : ∃ M, ((k : Int) + 1) * s = M := ⟨_, rfl⟩
              have hMb2 := mul_le9 (j := k) (s := s) (by omega) hs
              rw [hM2] at hMb2
              have HN := Lib.hid (lay_next (by omega) hx hM hM2)
              clear hx
              go_wp2_with (at_builtin; (refine append_arc (x := M + x.1) (y := M2 + x.2) (l := layL s.toNat l k ++ layer s.toNat (l.take j) k) _ _ (wr.heap.size + 1) (by simp) rfl rfl rfl rfl (O3.out.alloc _) (B3.out.alloc B3.out.size _) (Nat.le_refl _) (B3.out.alloc B3.out.size _).size (by omega) ?_; intro g4 c4 w4 ho4 hb4; have O4 := Lib.hid ho4; have B4 := Lib.hid hb4; clear ho4 hb4))
              go_roundw
              case rel => exact ⟨j + 1, y + 1, _, _, by omega, by go_num, rfl, by rw [HN.out, List.length_append, Y3.out]; rfl, by rw [HN.out]; exact O4.out, B4.out⟩
              case measure => simp [intOf]; omega
            · obtain rfl : j = n := by omega
              have e : layL s.toNat l k ++ layer s.toNat (l.take j) k = layL s.toNat l (k + 1) := by rw [← HX.out]; exact lay_full
              rw [e] at O3 Y3
              go_wp2
              go_roundw
              case rel => exact ⟨k + 1, y, _, _, by omega, by go_num, rfl, Y3.out, O3.out, B3.out⟩
              case measure => simp [intOf]; omega
        · obtain rfl : k = m := by omega
          have hkk : ¬ ((k : Int) < (k : Int)) := by omega
          go_wp2
          go_ret2
          rw [E.out.1, E.out.2, HM.out]
          exact at_of Z1.out O1.out B1.out
end Go.Proofs.Ytbmmajdacebncaa
