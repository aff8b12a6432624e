/-
  Drawn graphs.
-/
import Derived.Test.YtbmmajdacebncaaAc5
import Derived.Test.YtbmmajdacebncaaBytes
namespace Go.Proofs.Ytbmmajdacebncaa
open Go.ChangeShapes Go.WideShapes Go.ChangeAt Go.RowKit

/-- drawing: the reader, and a row of its own -/
def PrV (w0 : World) (c K : Nat) (t : TypeId) (z : Nat) (cs : List Value) (n : Nat) (A : Option Addr) (cap : Nat) (w : World) : Prop :=
  Cur w c K ∧ w.ownsRow w0.heap.size t z (.slice A n cap) n cs ∧ w0.grownBy w (some c) ∧ c < w0.heap.size
section
variable {w0 w w' : World} {c K z n cap : Nat} {t : TypeId} {cs : List Value} {A : Option Addr}
theorem PrV.step {K' : Nat} (h : PrV w0 c K t z cs n A cap w) (hc : Cur w' c K') (hg : w.grownBy w' (some c)) : PrV w0 c K' t z cs n A cap w' := by
  obtain ⟨_, h1, h2, h3⟩ := h
  refine ⟨hc, kept_of h1 hg (fun g hgb e => ?_), grownC_trans h2 hg, h3⟩
  have := (h1.lt g hgb).1
  have := Option.some.inj e
  omega
theorem PrV.app {g cap' : Nat} {new : List Value} {o : Obj} (h : PrV w0 c K t z cs n A cap w)
    (hown : w'.ownsRow w0.heap.size t z (.slice (some ⟨g, 0, none⟩) (n + 1) cap') (n + 1) (cs ++ new)) (hg : (w.alloc o).grownBy w' (Value.slice A n cap).ownBlock) :
    PrV w0 c K t z (cs ++ new) (n + 1) (some ⟨g, 0, none⟩) cap' w' := by
  obtain ⟨hc, h1, h2, h3⟩ := h
  have hl := h1.lt
  refine ⟨(hc.alloc o).grown hg (fun g' hg' => by have := (hl g' hg').1; omega), hown, ?_, h3⟩
  have h2' := grownC_trans h2 (World.grownBy_alloc w o (some c))
  refine ⟨hg.os.trans h2'.os, hg.tape.trans h2'.tape, hg.output.trans h2'.output, Nat.le_trans h2'.size hg.size, fun k hk hne => ?_⟩
  rw [hg.block k (Nat.lt_of_lt_of_le hk h2'.size) (fun e => by have := (hl k e.symm).1; omega)]
  exact h2'.block k hk hne
theorem PrV.size (h : PrV w0 c K t z cs n A cap w) : w0.heap.size ≤ w.heap.size := h.2.2.1.size
theorem PrV.mono {K' : Nat} (h : PrV w0 c K t z cs n A cap w) (hK : K ≤ K') : PrV w0 c K' t z cs n A cap w := ⟨h.1.mono hK, h.2⟩
theorem PrV.alloc (h : PrV w0 c K t z cs n A cap w) (o : Obj) : PrV w0 c K t z cs n A cap (w.alloc o) := h.step (h.1.alloc o) (World.grownBy_alloc w o _)
theorem pickV (m : Int) (h : Hid (PrV w0 c K t z cs n A cap w)) (hK : K ≤ 900000000000) (h1 : 1 ≤ m) (h2 : m ≤ 100000) :
    Calls Try.prog 53 #[.pointer (some ⟨c, 0, none⟩), .int .i64 m] w fun e w' => ∃ n' : Int, (0 ≤ n' ∧ n' < m) ∧ e = .returned (.int .i64 n') ∧ PrV w0 c (K + 2) t z cs n A cap w' ∧ w.grownBy w' (some c) :=
  (pick_any c K m w h.out.1 hK h1 h2).mono fun _ _ ⟨n, hp, he, hc, hg⟩ => ⟨n, hp, he, h.out.step hc hg, hg⟩
theorem oneV (m : Int) (h : Hid (PrV w0 c K t z cs n A cap w)) (hK : K ≤ 900000000000) (h1 : 1 ≤ m) (h2 : m ≤ 100000) :
    Calls Try.prog 64 #[.pointer (some ⟨c, 0, none⟩), .int .i64 m] w fun e w' => ∃ b : Bool, e = .returned (.bool b) ∧ PrV w0 c (K + 2) t z cs n A cap w' ∧ w.grownBy w' (some c) :=
  (one_any c K m w h.out.1 hK h1 h2).mono fun _ _ ⟨b, he, hc, hg⟩ => ⟨b, he, h.out.step hc hg, hg⟩
end
/-- a number below m, 0 where m is 0 -/
theorem pick0_any (c K : Nat) (m : Nat) (w : World) (h : Hid (Cur w c K)) (hK : K ≤ 900000000000) (h2 : m ≤ 100000) :
    Calls Try.prog 53 #[.pointer (some ⟨c, 0, none⟩), .int .i64 m] w (Gives c (K + 2) w fun n => 0 ≤ n ∧ n ≤ m) := by
  by_cases hm : 1 ≤ m
  · exact (pick_any c K m w h hK (by omega) (by omega)).mono fun _ _ ⟨n, hp, he, hc, hg⟩ => ⟨n, ⟨hp.1, by omega⟩, he, hc, hg⟩
  · obtain rfl : m = 0 := by omega
    go_enter Try.func53, Try.ntmps53
    go_wp2
    go_ret
    exact ⟨0, ⟨by omega, by omega⟩, rfl, h.out.mono (by omega), World.grownBy.refl _ _⟩
/-- an append of one arc: what it leaves -/
theorem append_arcG {v : World} {bs k c : Nat} {A : Option Addr} {cs : List Value} {x y : Int} {ops : Array Oper} {rest : List Oper} {o : Oper} {a : Act} {Q : Exit → Act → World → Prop} (s t : Operand) (G : Nat) (hG : v.heap.size = G)
    (hg : o.guard = none) (hop : o.op = Op.call { callee := Callee.builtin Builtin.append, args := #[s, t], argTypes := #[23, 23] })
    (hs : a.eval s = .slice A k c) (ht : a.eval t = .slice (some ⟨G, 0, none⟩) 1 1) (ho : v.ownsRow bs 36 2 (.slice A k c) k cs)
    (hbv : bs ≤ v.heap.size) (hk : k ≤ 10000000)
    (hK : ∀ g cc w', w'.ownsRow bs 36 2 (.slice (some ⟨g, 0, none⟩) (k + 1) cc) (k + 1) (cs ++ pc (x, y)) → (v.alloc (.cells (pc (x, y)).toArray 36)).grownBy w' (Value.slice A k c).ownBlock → wpList Try.prog ops Q rest (a.put o.dst (.slice (some ⟨g, 0, none⟩) (k + 1) cc)) w') :
    wpList Try.prog ops Q (o :: rest) a (v.alloc (.cells #[.int .i64 x, .int .i64 y] 36)) := by
  obtain ⟨i0, hi0, hz0, hz1, hz2⟩ := info_parts info_arc
  subst hG
  refine wpList_append_lies _ hg _ _ 23 hop bs 36 i0 _ 2 16 Try.underlying23 hi0 hz0 hz1 hz2 rfl (by omega) _ k _ hs (ho.alloc _) ⟨v.heap.size, 0, none⟩ 1 1 (pc (x, y)) ht rfl (by exact World.news_of_block (heap_alloc_new v _)) (pc_one _) (by omega) (by unfold maxLen; omega) (by omega) (by simp; omega) (v.heap.size + 1) (by simp) ?_
  intro g cc w' h1 h2 _ _
  exact hK g cc w' h1 h2
/-- an append of one number: what it leaves -/
theorem append_oneG {v : World} {bs k c : Nat} {A : Option Addr} {cs : List Value} {x : Int} {ops : Array Oper} {rest : List Oper} {o : Oper} {a : Act} {Q : Exit → Act → World → Prop} (s t : Operand) (G : Nat) (hG : v.heap.size = G)
    (hg : o.guard = none) (hop : o.op = Op.call { callee := Callee.builtin Builtin.append, args := #[s, t], argTypes := #[24, 24] })
    (hs : a.eval s = .slice A k c) (ht : a.eval t = .slice (some ⟨G, 0, none⟩) 1 1) (ho : v.ownsRow bs 3 1 (.slice A k c) k cs)
    (hbv : bs ≤ v.heap.size) (hk : k ≤ 10000000)
    (hK : ∀ g cc w', w'.ownsRow bs 3 1 (.slice (some ⟨g, 0, none⟩) (k + 1) cc) (k + 1) (cs ++ [.int .i64 x]) → (v.alloc (.cells #[.int .i64 x] 3)).grownBy w' (Value.slice A k c).ownBlock → wpList Try.prog ops Q rest (a.put o.dst (.slice (some ⟨g, 0, none⟩) (k + 1) cc)) w') :
    wpList Try.prog ops Q (o :: rest) a (v.alloc (.cells #[.int .i64 x] 3)) := by
  obtain ⟨i0, hi0, hz0, hz1, hz2⟩ := info_parts info_int
  subst hG
  refine wpList_append_lies _ hg _ _ 24 hop bs 3 i0 (.int .i64 0) 1 8 Try.underlying24 hi0 hz0 hz1 hz2 rfl (by omega) _ k _ hs (ho.alloc _) ⟨v.heap.size, 0, none⟩ 1 1 [.int .i64 x] ht rfl (one_new1 v _ _) (by intro u hu; rw [List.mem_singleton.1 hu]; rfl) (by omega) (by unfold maxLen; omega) (by omega) (by simp; omega) (v.heap.size + 1) (by simp) ?_
  intro g cc w' h1 h2 _ _
  exact hK g cc w' h1 h2
theorem acells_one (xs : AL) (p : Int × Int) : acells (xs ++ [p]) = acells xs ++ pc p := by rw [acells_add]; simp [acells]
theorem acells_set (xs : AL) (x : Int × Int) (y : Int × Int) : (((acells (x :: xs)).set 0 (.int .i64 y.1)).set 1 (.int .i64 y.2)) = acells (y :: xs) := by simp [acells, pc]
/-- a drawn graph -/
def GaveA (c K : Nat) (w : World) (e : Ending) (w' : World) : Prop :=
  ∃ (N : Nat) (xs : AL) (A : Option Addr) (cap : Nat), N ≤ 7 ∧ xs.length ≤ 30 ∧ e = .returned (.tuple #[.int .i64 N, .slice A xs.length cap]) ∧ PrV w c K 36 2 (acells xs) xs.length A cap w'
theorem gaveA_of {c K z : Nat} {w w' : World} {N cap : Nat} {xs : AL} {A : Option Addr} (h1 : N ≤ 7) (h2 : xs.length = z) (h3 : z ≤ 30) (h : PrV w c K 36 2 (acells xs) z A cap w') : GaveA c K w (.returned (.tuple #[.int .i64 N, .slice A z cap])) w' := by
  subst h2; exact ⟨N, xs, A, cap, h1, h3, rfl, h⟩
theorem own_free {w : World} {base n cap g z : Nat} {t : TypeId} {cs : List Value} (h : w.ownsRow base t z (.slice (some ⟨g, 0, none⟩) n cap) n cs) (i : Nat) : w.frozen? ⟨g, i, none⟩ = false := by
  rcases h.2 with ⟨h', _⟩ | ⟨g', cap', cur, h', hb, hg, rest⟩
  · simp at h'
  · simp only [Value.slice.injEq, Option.some.injEq, Addr.mk.injEq, and_true, true_and] at h'
    obtain ⟨rfl, rfl⟩ := h'
    simp [World.frozen?, hg]
theorem grown_set (w : World) (bx j : Nat) (u : Value) : w.grownBy (w.setCell ⟨bx, j, none⟩ u) (some bx) := ⟨rfl, rfl, rfl, by simp, fun k _ hne => Below.heap_setCell w ⟨bx, j, none⟩ u k (fun e => hne (by rw [e]))⟩
theorem PrV.twice {w0 w : World} {c K z n cap g : Nat} {t : TypeId} {cs : List Value} (h : PrV w0 c K t z cs n (some ⟨g, 0, none⟩) cap w) (y : Int × Int) (hg : w0.heap.size ≤ g) :
    PrV w0 c K t z ((cs.set 0 (.int .i64 y.1)).set 1 (.int .i64 y.2)) n (some ⟨g, 0, none⟩) cap ((w.setCell ⟨g, 0, none⟩ (.int .i64 y.1)).setCell ⟨g, 1, none⟩ (.int .i64 y.2)) := by
  obtain ⟨h0, h1, h2, h3⟩ := h
  obtain ⟨a1, b1⟩ := h1.stored 0 (.int .i64 y.1)
  obtain ⟨a2, b2⟩ := a1.stored 1 (.int .i64 y.2)
  have hgr : w.grownBy ((w.setCell ⟨g, 0, none⟩ (.int .i64 y.1)).setCell ⟨g, 1, none⟩ (.int .i64 y.2)) (some g) := grown_trans (grown_set w g 0 _) (grown_set _ g 1 _)
  refine ⟨h0.grown hgr (fun i e => by have := Option.some.inj e; omega), a2, ?_, h3⟩
  refine ⟨hgr.os.trans h2.os, hgr.tape.trans h2.tape, hgr.output.trans h2.output, Nat.le_trans h2.size hgr.size, fun k hk hne => ?_⟩
  rw [hgr.block k (Nat.lt_of_lt_of_le hk h2.size) (fun e => by have := Option.some.inj e; omega)]
  exact h2.block k hk hne
set_option maxRecDepth 100000 in
set_option maxHeartbeats 8000000 in
theorem arcs_any (c K : Nat) (w : World) (h : Hid (Cur w c K)) (hK : K ≤ 700000000000) :
    Calls Try.prog 46 #[.pointer (some ⟨c, 0, none⟩)] w (GaveA c (K + 200) w) := by
  have P0 : Hid (PrV w c K 36 2 [] 0 none 0 w) := Lib.hid ⟨h.out, World.ownsRow_nil _ _ _ _, World.grownBy.refl _ _, h.out.lt⟩
  go_enter Try.func46, Try.ntmps46
  go_wp2_with fail
  refine (pickV 6 P0 (by omega) (by omega) (by omega)).mono ?_
  rintro e w1 ⟨n1, ⟨l1, u1⟩, rfl, hp1, _⟩
  have P1 := Lib.hid hp1
  clear hp1
  obtain ⟨N, hNe, hN⟩ : ∃ N : Nat, 1 + n1 = (N : Int) ∧ N ≤ 7 := ⟨(1 + n1).toNat, by omega, by omega⟩
  have hNw : IntKind.i64.wrap (N : Int) = (N : Int) := by rw [IntKind.wrap_i64]; omega
  clear l1 u1
  go_wp2_with fail
  refine (oneV 30 P1 (by omega) (by omega) (by omega)).mono ?_
  rintro e w2 ⟨b2, rfl, hp2, _⟩
  have P2 := Lib.hid hp2
  clear hp2
  cases b2 with
  | false =>
    have P9 : Hid (PrV w c (K + 10 + 20 * 0) 36 2 (acells []) 0 none 0 w2) := Lib.hid (P2.out.mono (by omega))
    clear P2 P1 P0 hNe hNw
    go_wp2_with fail
    go_loopw [5, 6] (fun lv iv wr => ∃ (a z : Nat) (xs : AL) (A : Option Addr) (cap : Nat), a ≤ N ∧ iv = .int .i64 a ∧ lv = .slice A z cap ∧ xs.length = z ∧ z ≤ 30 ∧ PrV w c (K + 10 + 20 * a) 36 2 (acells xs) z A cap wr) (fun _ iv _ => N - (intOf iv).toNat)
    case atStart => exact ⟨0, 0, [], none, 0, Nat.zero_le _, rfl, rfl, rfl, by omega, P9.out⟩
    case round =>
      obtain ⟨a, z, xs, A, cap, ha, rfl, rfl, hz, hz30, hp⟩ := hrel
      have P1 := Lib.hid hp
      have Z1 := Lib.hid hz
      clear hp hz P9
      by_cases hlt : a < N
      · go_wp2_with fail
        go_loopw [5, 7] (fun lv iv wq => ∃ (b z : Nat) (xs : AL) (A : Option Addr) (cap : Nat), b ≤ N ∧ iv = .int .i64 b ∧ lv = .slice A z cap ∧ xs.length = z ∧ z ≤ 30 ∧ PrV w c (K + 10 + 20 * a + 2 * b) 36 2 (acells xs) z A cap wq) (fun _ iv _ => N - (intOf iv).toNat)
        case atStart => exact ⟨0, z, xs, A, cap, Nat.zero_le _, rfl, rfl, Z1.out, hz30, P1.out⟩
        case round =>
          obtain ⟨b, z2, ys, A2, cap2, hb, rfl, rfl, hz2, hz230, hp⟩ := hrel
          have P2 := Lib.hid hp
          have Z2 := Lib.hid hz2
          clear hp hz2 P1 Z1
          by_cases hlb : b < N
          · go_wp2_with fail
            refine (oneV 3 P2 (by omega) (by omega) (by omega)).mono ?_
            rintro e w3 ⟨bb, rfl, hp3, _⟩
            have P3 := Lib.hid hp3
            clear hp3
            cases bb with
            | false =>
              go_wp2
              go_roundw
              case rel => exact ⟨b + 1, z2, ys, A2, cap2, by omega, by go_num, rfl, Z2.out, hz230, P3.out.mono (by omega)⟩
              case measure => simp [intOf]; omega
            | true =>
              by_cases h30 : z2 < 30
              · have hs3 := P3.out.size
                go_wp2_with (at_builtin; (refine append_arcG (x := (a : Int)) (y := (b : Int)) (cs := acells ys) _ _ w3.heap.size rfl rfl rfl rfl rfl P3.out.2.1 hs3 (by omega) ?_; intro g4 c4 w4 ho4 hg4; have P4 := Lib.hid (P3.out.app ho4 hg4); clear ho4 hg4))
                go_roundw
                case rel => exact ⟨b + 1, z2 + 1, ys ++ [((a : Int), (b : Int))], _, _, by omega, by go_num, rfl, by rw [List.length_append, Z2.out]; rfl, by omega, by rw [acells_one]; exact P4.out.mono (by omega)⟩
                case measure => simp [intOf]; omega
              · go_wp2
                go_roundw
                case rel => exact ⟨b + 1, z2, ys, A2, cap2, by omega, by go_num, rfl, Z2.out, hz230, P3.out.mono (by omega)⟩
                case measure => simp [intOf]; omega
          · obtain rfl : b = N := by omega
            go_wp2
            go_roundw
            case rel => exact ⟨a + 1, z2, ys, A2, cap2, by omega, by go_num, rfl, Z2.out, hz230, P2.out.mono (by omega)⟩
            case measure => simp [intOf]; omega
      · obtain rfl : a = N := by omega
        by_cases h1 : 1 < z
        · go_wp2_with fail
          refine (oneV 30 P1 (by omega) (by omega) (by omega)).mono ?_
          rintro e w3 ⟨bb, rfl, hp3, _⟩
          have P3 := Lib.hid hp3
          clear hp3
          cases bb with
          | false =>
            go_wp2
            go_ret2
            exact gaveA_of hN Z1.out hz30 (P3.out.mono (by omega))
          | true =>
            obtain ⟨x, y, ys, hxs⟩ : ∃ x y ys, xs = x :: y :: ys := by
              have := Z1.out
              match xs, this with
              | [], h => simp at h; omega
              | [_], h => simp at h; omega
              | x :: y :: ys, _ => exact ⟨x, y, ys, rfl⟩
            subst hxs
            obtain ⟨g, cap', hv, hbg, hgl⟩ := P3.out.2.1.form (by omega)
            have hA : A = some ⟨g, 0, none⟩ := by injection hv
            subst hA
            have AL3 := own_alies Z1.out P3.out.2.1
            obtain ⟨b1, o1, hb1, _, e0, e1⟩ := AL3 1 y rfl
            obtain ⟨b2, o2, hb2, _, f0, f1⟩ := AL3 0 x rfl
            simp only [Option.some.injEq, Addr.mk.injEq, and_true] at hb1 hb2
            obtain ⟨rfl, rfl⟩ := hb1
            obtain ⟨rfl, rfl⟩ := hb2
            simp only [Nat.zero_add, Nat.zero_mul, Nat.one_mul, Nat.reduceAdd] at e0 e1 f0 f1
            have z0 : w3.frozen? ⟨g, 0, none⟩ = false := own_free P3.out.2.1 0
            have z1 : w3.frozen? ⟨g, 1, none⟩ = false := own_free P3.out.2.1 1
            have hz1 : (1 : Int) < (z : Int) := by omega
            have hz0 : (0 : Int) < (z : Int) := by omega
            have S3 := Lib.hid (P3.out.twice y hbg)
            clear hv hgl AL3
            go_wp2
            go_ret2
            exact gaveA_of hN (xs := y :: y :: ys) (by have := Z1.out; simpa using this) hz30 (by have := S3.out; rw [acells_set] at this; exact this.mono (by omega))
        · go_wp2
          go_ret2
          exact gaveA_of hN Z1.out hz30 (P1.out.mono (by omega))
  | true =>
    go_wp2_with fail
    refine (among_any c (K + 2 + 2) w2.heap.size 3 [0, 6, 7] _ (Lib.hid (P2.out.1.alloc _)) (by omega) (by omega) (by omega) (by have := P2.out.1.lt; omega) (Lib.hid ⟨rfl, fun i hi => cells_new w2 [0, 6, 7] 3 i (by simpa using hi)⟩)).mono ?_
    rintro e w3 ⟨n3, hn3, rfl, hc3, hg3⟩
    have P9 : Hid (PrV w c (K + 10 + 20 * 0) 36 2 (acells []) 0 none 0 w3) := Lib.hid (((P2.out.alloc _).step hc3 hg3).mono (by omega))
    clear P2 P1 P0 hNe hNw hc3 hg3 hN
    obtain ⟨N, hNe, hN⟩ : ∃ N : Nat, n3 = (N : Int) ∧ N ≤ 7 := ⟨n3.toNat, by simp at hn3; omega, by simp at hn3; omega⟩
    subst hNe
    clear hn3
    go_wp2_with fail
    go_loopw [5, 6] (fun lv iv wr => ∃ (a z : Nat) (xs : AL) (A : Option Addr) (cap : Nat), a ≤ N ∧ iv = .int .i64 a ∧ lv = .slice A z cap ∧ xs.length = z ∧ z ≤ 30 ∧ PrV w c (K + 10 + 20 * a) 36 2 (acells xs) z A cap wr) (fun _ iv _ => N - (intOf iv).toNat)
    case atStart => exact ⟨0, 0, [], none, 0, Nat.zero_le _, rfl, rfl, rfl, by omega, P9.out⟩
    case round =>
      obtain ⟨a, z, xs, A, cap, ha, rfl, rfl, hz, hz30, hp⟩ := hrel
      have P1 := Lib.hid hp
      have Z1 := Lib.hid hz
      clear hp hz P9
      by_cases hlt : a < N
      · go_wp2_with fail
        go_loopw [5, 7] (fun lv iv wq => ∃ (b z : Nat) (xs : AL) (A : Option Addr) (cap : Nat), b ≤ N ∧ iv = .int .i64 b ∧ lv = .slice A z cap ∧ xs.length = z ∧ z ≤ 30 ∧ PrV w c (K + 10 + 20 * a + 2 * b) 36 2 (acells xs) z A cap wq) (fun _ iv _ => N - (intOf iv).toNat)
        case atStart => exact ⟨0, z, xs, A, cap, Nat.zero_le _, rfl, rfl, Z1.out, hz30, P1.out⟩
        case round =>
          obtain ⟨b, z2, ys, A2, cap2, hb, rfl, rfl, hz2, hz230, hp⟩ := hrel
          have P2 := Lib.hid hp
          have Z2 := Lib.hid hz2
          clear hp hz2 P1 Z1
          by_cases hlb : b < N
          · go_wp2_with fail
            refine (oneV 3 P2 (by omega) (by omega) (by omega)).mono ?_
            rintro e w3 ⟨bb, rfl, hp3, _⟩
            have P3 := Lib.hid hp3
            clear hp3
            cases bb with
            | false =>
              go_wp2
              go_roundw
              case rel => exact ⟨b + 1, z2, ys, A2, cap2, by omega, by go_num, rfl, Z2.out, hz230, P3.out.mono (by omega)⟩
              case measure => simp [intOf]; omega
            | true =>
              by_cases h30 : z2 < 30
              · have hs3 := P3.out.size
                go_wp2_with (at_builtin; (refine append_arcG (x := (a : Int)) (y := (b : Int)) (cs := acells ys) _ _ w3.heap.size rfl rfl rfl rfl rfl P3.out.2.1 hs3 (by omega) ?_; intro g4 c4 w4 ho4 hg4; have P4 := Lib.hid (P3.out.app ho4 hg4); clear ho4 hg4))
                go_roundw
                case rel => exact ⟨b + 1, z2 + 1, ys ++ [((a : Int), (b : Int))], _, _, by omega, by go_num, rfl, by rw [List.length_append, Z2.out]; rfl, by omega, by rw [acells_one]; exact P4.out.mono (by omega)⟩
                case measure => simp [intOf]; omega
              · go_wp2
                go_roundw
                case rel => exact ⟨b + 1, z2, ys, A2, cap2, by omega, by go_num, rfl, Z2.out, hz230, P3.out.mono (by omega)⟩
                case measure => simp [intOf]; omega
          · obtain rfl : b = N := by omega
            go_wp2
            go_roundw
            case rel => exact ⟨a + 1, z2, ys, A2, cap2, by omega, by go_num, rfl, Z2.out, hz230, P2.out.mono (by omega)⟩
            case measure => simp [intOf]; omega
      · obtain rfl : a = N := by omega
        by_cases h1 : 1 < z
        · go_wp2_with fail
          refine (oneV 30 P1 (by omega) (by omega) (by omega)).mono ?_
          rintro e w3 ⟨bb, rfl, hp3, _⟩
          have P3 := Lib.hid hp3
          clear hp3
          cases bb with
          | false =>
            go_wp2
            go_ret2
            exact gaveA_of hN Z1.out hz30 (P3.out.mono (by omega))
          | true =>
            obtain ⟨x, y, ys, hxs⟩ : ∃ x y ys, xs = x :: y :: ys := by
              have := Z1.out
              match xs, this with
              | [], h => simp at h; omega
              | [_], h => simp at h; omega
              | x :: y :: ys, _ => exact ⟨x, y, ys, rfl⟩
            subst hxs
            obtain ⟨g, cap', hv, hbg, hgl⟩ := P3.out.2.1.form (by omega)
            have hA : A = some ⟨g, 0, none⟩ := by injection hv
            subst hA
            have AL3 := own_alies Z1.out P3.out.2.1
            obtain ⟨b1, o1, hb1, _, e0, e1⟩ := AL3 1 y rfl
            obtain ⟨b2, o2, hb2, _, f0, f1⟩ := AL3 0 x rfl
            simp only [Option.some.injEq, Addr.mk.injEq, and_true] at hb1 hb2
            obtain ⟨rfl, rfl⟩ := hb1
            obtain ⟨rfl, rfl⟩ := hb2
            simp only [Nat.zero_add, Nat.zero_mul, Nat.one_mul, Nat.reduceAdd] at e0 e1 f0 f1
            have z0 : w3.frozen? ⟨g, 0, none⟩ = false := own_free P3.out.2.1 0
            have z1 : w3.frozen? ⟨g, 1, none⟩ = false := own_free P3.out.2.1 1
            have hz1 : (1 : Int) < (z : Int) := by omega
            have hz0 : (0 : Int) < (z : Int) := by omega
            have S3 := Lib.hid (P3.out.twice y hbg)
            clear hv hgl AL3
            go_wp2
            go_ret2
            exact gaveA_of hN (xs := y :: y :: ys) (by have := Z1.out; simpa using this) hz30 (by have := S3.out; rw [acells_set] at this; exact this.mono (by omega))
        · go_wp2
          go_ret2
          exact gaveA_of hN Z1.out hz30 (P1.out.mono (by omega))
end Go.Proofs.Ytbmmajdacebncaa
