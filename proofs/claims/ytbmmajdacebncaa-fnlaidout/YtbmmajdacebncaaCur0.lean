/-
  Contracts of the reader that draws inputs from bytes (the model's l1Cur): whatever the bytes, it answers, and turns its own block alone.
-/
import Derived.Test.YtbmmajdacebncaaRows
import Derived.WalkKit
import Derived.ProofKit
import Derived.OpenShut
import Derived.Outline
import Derived.IntWalk
import Derived.Lib.Hide
import Derived.Deep.QuietTactic
import Derived.BigQuiet
import Derived.OwnWalk
import Derived.Deep.Draws
namespace Go.Proofs.Ytbmmajdacebncaa
open Go.ChangeShapes Go.WideShapes Go.ChangeAt Go.RowKit

/-- a reader in block c: it stands at a place up to K; the bytes that it reads lie outside its block -/
def Cur (w : World) (c K : Nat) : Prop :=
  ∃ (a0 : Option Addr) (len cap k : Nat) (s : Int), k ≤ K ∧ len ≤ 9223372036854775807 ∧ w.heap[c]? = some (.cells #[.slice a0 len cap, .int .i64 k, .int .u64 s] 66 (0, 0)) ∧
    ∀ i : Nat, i < len → ∃ b off n, a0 = some ⟨b, off, none⟩ ∧ b < c ∧ w.cell? ⟨b, off + i, none⟩ = some (.int .u8 n) ∧ 0 ≤ n ∧ n ≤ 255
/-- it answers a number with P, and has turned its own block alone -/
def Gives (c K : Nat) (w : World) (P : Int → Prop) (e : Ending) (w' : World) : Prop :=
  ∃ n : Int, P n ∧ e = .returned (.int .i64 n) ∧ Cur w' c K ∧ w.grownBy w' (some c)

theorem Cur.mono {w : World} {c K K' : Nat} (h : Cur w c K) (hK : K ≤ K') : Cur w c K' := by
  obtain ⟨a0, len, cap, k, s, hk, rest⟩ := h
  exact ⟨a0, len, cap, k, s, by omega, rest⟩

theorem drewN_heap (w : World) (n : Nat) : (w.drewN n).heap = w.heap := rfl
theorem grownC_trans {a b c : World} {row : Option Nat} (h : a.grownBy b row) (k : b.grownBy c row) : a.grownBy c row :=
  ⟨k.os.trans h.os, k.tape.trans h.tape, k.output.trans h.output, Nat.le_trans h.size k.size, fun i hi hne => (k.block i (Nat.lt_of_lt_of_le hi h.size) hne).trans (h.block i hi hne)⟩

theorem byte_of (x : Int) : 0 ≤ wrap64 (bits .and .u64 x 255) ∧ wrap64 (bits .and .u64 x 255) ≤ 255 := by
  have e : bits .and .u64 x 255 = IntKind.u64.wrap (((BitVec.ofInt 64 x &&& BitVec.ofInt 64 255).toNat : Nat) : Int) := rfl
  have h : (BitVec.ofInt 64 x &&& BitVec.ofInt 64 255).toNat ≤ 255 := by
    rw [BitVec.toNat_and]
    exact Nat.le_trans Nat.and_le_right (by decide)
  rw [e]
  generalize (BitVec.ofInt 64 x &&& BitVec.ofInt 64 255).toNat = m at h
  have e2 : IntKind.u64.wrap (m : Int) = m := by rw [IntKind.wrap_u64]; omega
  rw [e2]
  unfold wrap64
  omega
/-- what 'next' leaves -/
theorem next_world {w : World} {c K : Nat} {a0 : Option Addr} {len cap k : Nat} {s s' : Int} {d e : Nat} (hk : k ≤ K) (hlen : len ≤ 9223372036854775807)
    (hc : w.heap[c]? = some (.cells #[.slice a0 len cap, .int .i64 k, .int .u64 s] 66 (0, 0)))
    (hb : ∀ i : Nat, i < len → ∃ b off n, a0 = some ⟨b, off, none⟩ ∧ b < c ∧ w.cell? ⟨b, off + i, none⟩ = some (.int .u8 n) ∧ 0 ≤ n ∧ n ≤ 255) :
    Cur ((((w.drewN d).setCell ⟨c, 1, none⟩ (.int .i64 ((k : Int) + 1))).setCell ⟨c, 2, none⟩ (.int .u64 s')).drewN e) c (K + 1) ∧
      w.grownBy ((((w.drewN d).setCell ⟨c, 1, none⟩ (.int .i64 ((k : Int) + 1))).setCell ⟨c, 2, none⟩ (.int .u64 s')).drewN e) (some c) := by
  have hg : w.grownBy ((((w.drewN d).setCell ⟨c, 1, none⟩ (.int .i64 ((k : Int) + 1))).setCell ⟨c, 2, none⟩ (.int .u64 s')).drewN e) (some c) := by
    refine ⟨rfl, rfl, rfl, by simp [World.setCell, World.drewN], fun i _ hne => ?_⟩
    rw [drewN_heap, Below.heap_setCell _ _ _ _ (by rintro rfl; exact hne rfl), Below.heap_setCell _ _ _ _ (by rintro rfl; exact hne rfl), drewN_heap]
  refine ⟨⟨a0, len, cap, k + 1, s', by omega, hlen, ?_, fun i hi => ?_⟩, hg⟩
  · rw [drewN_heap]
    simp [World.setCell, Array.getElem?_modify, hc]
  · obtain ⟨b, off, n, h1, h2, h3, h4⟩ := hb i hi
    exact ⟨b, off, n, h1, h2, hg.cell h3 (by simp; omega), h4⟩

set_option maxRecDepth 100000 in
set_option maxHeartbeats 1000000 in
theorem next_any (c K : Nat) (w : World) (h : Hid (Cur w c K)) (hK : K ≤ 1000000000000) :
    Calls Try.prog 68 #[.pointer (some ⟨c, 0, none⟩)] w (Gives c (K + 1) w fun n => 0 ≤ n ∧ n ≤ 255) := by
  obtain ⟨a0, len, cap, k, s, hk, hlen, hc, hb⟩ := h.out
  have c0 : w.cell? ⟨c, 0, none⟩ = some (.slice a0 len cap) := by simp [World.cell?, hc]
  have c1 : w.cell? ⟨c, 1, none⟩ = some (.int .i64 k) := by simp [World.cell?, hc]
  have c2 : w.cell? ⟨c, 2, none⟩ = some (.int .u64 s) := by simp [World.cell?, hc]
  have f1 : w.frozen? ⟨c, 1, none⟩ = false := by simp [World.frozen?, hc]
  have f2 : w.frozen? ⟨c, 2, none⟩ = false := by simp [World.frozen?, hc]
  have HC := Lib.hid hc
  have HB := Lib.hid hb
  clear hc hb h
  by_cases hkl : k < len
  · obtain ⟨b, off, n, ha, hlt, hn, n0, n1⟩ := HB.out k hkl
    have hne : b ≠ c := by omega
    subst ha
    go_enter Try.func68, Try.ntmps68
    go_wp2_with fail
    go_quiet (fail)
    go_wp2_with fail
    go_quiet (fail)
    go_wp2_with fail
    go_quiet (fail)
    go_wp2
    go_ret
    exact ⟨n, ⟨n0, n1⟩, rfl, next_world hk hlen HC.out HB.out⟩
  · go_enter Try.func68, Try.ntmps68
    go_wp2_with fail
    go_quiet (fail)
    go_wp2_with fail
    go_quiet (fail)
    go_wp2
    go_ret
    exact ⟨_, byte_of _, rfl, next_world hk hlen HC.out HB.out⟩

set_option maxRecDepth 100000 in
set_option maxHeartbeats 1000000 in
theorem pick_any (c K : Nat) (m : Int) (w : World) (h : Hid (Cur w c K)) (hK : K ≤ 900000000000) (h1 : 1 ≤ m) (h2 : m ≤ 100000) :
    Calls Try.prog 53 #[.pointer (some ⟨c, 0, none⟩), .int .i64 m] w (Gives c (K + 2) w fun n => 0 ≤ n ∧ n < m) := by
  by_cases hm : m ≤ 1
  · obtain rfl : m = 1 := by omega
    go_enter Try.func53, Try.ntmps53
    go_wp2
    go_ret
    exact ⟨0, by omega, rfl, h.out.mono (by omega), World.grownBy.refl _ _⟩
  · by_cases hb : 200 < m
    · go_enter Try.func53, Try.ntmps53
      go_wp2_with fail
      refine (next_any c K _ h (by omega)).mono ?_
      rintro e w1 ⟨n1, ⟨a1, b1⟩, rfl, hc1, hg1⟩
      have C1 := Lib.hid hc1
      have G1 := Lib.hid hg1
      clear hc1 hg1
      go_wp2_with fail
      refine (next_any c (K + 1) _ C1 (by omega)).mono ?_
      rintro e w2 ⟨n2, ⟨a2, b2⟩, rfl, hc2, hg2⟩
      have C2 := Lib.hid hc2
      have G2 := Lib.hid hg2
      clear hc2 hg2
      go_wp2
      go_ret
      exact ⟨_, ⟨Int.emod_nonneg _ (by omega), Int.emod_lt_of_pos _ (by omega)⟩, rfl, C2.out, grownC_trans G1.out G2.out⟩
    · go_enter Try.func53, Try.ntmps53
      go_wp2_with fail
      refine (next_any c K _ h (by omega)).mono ?_
      rintro e w1 ⟨n1, ⟨a1, b1⟩, rfl, hc1, hg1⟩
      have C1 := Lib.hid hc1
      have G1 := Lib.hid hg1
      clear hc1 hg1
      go_wp2
      go_ret
      exact ⟨_, ⟨Int.emod_nonneg _ (by omega), Int.emod_lt_of_pos _ (by omega)⟩, rfl, C1.out.mono (by omega), G1.out⟩

set_option maxRecDepth 100000 in
set_option maxHeartbeats 1000000 in
theorem among_any (c K : Nat) (g len : Nat) (vs : List Int) (w : World) (h : Hid (Cur w c K)) (hK : K ≤ 900000000000) (h1 : 1 ≤ len) (h2 : len ≤ 100000) (hg : g ≠ c)
    (hv : Hid (vs.length = len ∧ ∀ i : Nat, i < len → w.cell? ⟨g, i, none⟩ = some (.int .i64 (vs[i]?.getD 0)))) :
    Calls Try.prog 65 #[.pointer (some ⟨c, 0, none⟩), .slice (some ⟨g, 0, none⟩) len len] w (Gives c (K + 2) w fun n => n ∈ vs) := by
  go_enter Try.func65, Try.ntmps65
  go_wp2_with fail
  refine (pick_any c K _ _ h (by omega) (by omega) (by omega)).mono ?_
  rintro e w1 ⟨n1, ⟨a1, b1⟩, rfl, hc1, hg1⟩
  have C1 := Lib.hid hc1
  have G1 := Lib.hid hg1
  obtain ⟨j, rfl⟩ := Int.eq_ofNat_of_zero_le a1
  have hj : j < len := by omega
  have cj : w1.cell? ⟨g, j, none⟩ = some (.int .i64 (vs[j]?.getD 0)) := hg1.cell (hv.out.2 j hj) (by simp; omega)
  clear hc1 hg1
  go_wp2
  go_ret
  refine ⟨_, ?_, rfl, C1.out, G1.out⟩
  have hl := hv.out.1
  simp [hl, hj]

set_option maxRecDepth 100000 in
set_option maxHeartbeats 1000000 in
theorem one_any (c K : Nat) (m : Int) (w : World) (h : Hid (Cur w c K)) (hK : K ≤ 900000000000) (h1 : 1 ≤ m) (h2 : m ≤ 100000) :
    Calls Try.prog 64 #[.pointer (some ⟨c, 0, none⟩), .int .i64 m] w fun e w' => ∃ b : Bool, e = .returned (.bool b) ∧ Cur w' c (K + 2) ∧ w.grownBy w' (some c) := by
  go_enter Try.func64, Try.ntmps64
  go_wp2_with fail
  refine (pick_any c K _ _ h (by omega) h1 h2).mono ?_
  rintro e w1 ⟨n1, ⟨a1, b1⟩, rfl, hc1, hg1⟩
  have C1 := Lib.hid hc1
  have G1 := Lib.hid hg1
  clear hc1 hg1
  go_wp2
  go_ret
  exact ⟨_, rfl, C1.out, G1.out⟩

theorem Cur.lt {w : World} {c K : Nat} (h : Cur w c K) : c < w.heap.size := by
  obtain ⟨a0, len, cap, k, s, hk, hl, hc, _⟩ := h
  exact (Array.getElem?_eq_some_iff.1 hc).1
/-- a reader stays where another block is laid -/
theorem Cur.alloc {w : World} {c K : Nat} (h : Cur w c K) (o : Obj) : Cur (w.alloc o) c K := by
  have hlt := h.lt
  obtain ⟨a0, len, cap, k, s, hk, hl, hc, hb⟩ := h
  refine ⟨a0, len, cap, k, s, hk, hl, ?_, fun i hi => ?_⟩
  · rw [Below.heap_alloc _ _ _ hlt]; exact hc
  · obtain ⟨b, off, n, h1, h2, h3, h4⟩ := hb i hi
    exact ⟨b, off, n, h1, h2, (World.grownBy_alloc w o none).cell h3 (by simp), h4⟩
theorem Cur.drewN {w : World} {c K : Nat} (h : Cur w c K) (n : Nat) : Cur (w.drewN n) c K := h
/-- a reader stays where other blocks are turned, behind its own -/
theorem Cur.grown {w w' : World} {c K : Nat} {row : Option Nat} (h : Cur w c K) (hg : w.grownBy w' row) (hr : ∀ g, row = some g → c < g) : Cur w' c K := by
  have hlt := h.lt
  obtain ⟨a0, len, cap, k, s, hk, hl, hc, hb⟩ := h
  refine ⟨a0, len, cap, k, s, hk, hl, (hg.block c hlt (fun e => by have := hr c e.symm; omega)).trans hc, fun i hi => ?_⟩
  obtain ⟨b, off, n, h1, h2, h3, h4⟩ := hb i hi
  refine ⟨b, off, n, h1, h2, (World.cell?_of_block (a := ⟨b, off + i, none⟩) (hg.block b (by omega) (fun e => by have := hr b e.symm; omega))).trans h3, h4⟩
theorem cells_new (w : World) (vs : List Int) (t : TypeId) (i : Nat) (hi : i < vs.length) :
    (w.alloc (.cells (vs.map fun z => Value.int .i64 z).toArray t)).cell? ⟨w.heap.size, i, none⟩ = some (.int .i64 (vs[i]?.getD 0)) := by
  have hb : (w.alloc (.cells (vs.map fun z => Value.int .i64 z).toArray t)).heap[w.heap.size]? = some (.cells (vs.map fun z => Value.int .i64 z).toArray t) := heap_alloc_new w _
  simp only [World.cell?, hb]
  simp [hi]

/-- the bytes of a slice that came in -/
def Bytes (w : World) (a0 : Option Addr) (len : Nat) : Prop :=
  len ≤ 9223372036854775807 ∧ ∀ i : Nat, i < len → ∃ b off n, a0 = some ⟨b, off, none⟩ ∧ w.cell? ⟨b, off + i, none⟩ = some (.int .u8 n) ∧ 0 ≤ n ∧ n ≤ 255
/-- a new reader over such bytes -/
theorem Cur.new {w : World} {a0 : Option Addr} {len cap : Nat} (h : Bytes w a0 len) : Cur (w.alloc (.cells #[.slice a0 len cap, .int .i64 0, .int .u64 0] 66)) w.heap.size 0 := by
  refine ⟨a0, len, cap, 0, 0, Nat.le_refl _, h.1, heap_alloc_new w _, fun i hi => ?_⟩
  obtain ⟨b, off, n, h1, h2, h3⟩ := h.2 i hi
  have hlt : b < w.heap.size := World.block_lt_of_cell? w _ h2
  exact ⟨b, off, n, h1, by omega, (World.grownBy_alloc w _ none).cell h2 (by simp), h3⟩
/-- behind a new reader's work nothing old has turned -/
theorem below_new {w w' : World} {o : Obj} (h : (w.alloc o).grownBy w' (some w.heap.size)) : Below w.heap.size w w' :=
  ((Below.refl _ w).alloc (Nat.le_refl _) o).grown h (by simp) (fun k hk => by cases hk; exact Nat.le_refl _)
theorem Bytes.below {w w' : World} {a0 : Option Addr} {len : Nat} (h : Bytes w a0 len) (hb : Below w.heap.size w w') : Bytes w' a0 len := by
  refine ⟨h.1, fun i hi => ?_⟩
  obtain ⟨b, off, n, h1, h2, h3⟩ := h.2 i hi
  have hlt : b < w.heap.size := World.block_lt_of_cell? w _ h2
  exact ⟨b, off, n, h1, (hb.cell (p := ⟨b, off + i, none⟩) hlt).trans h2, h3⟩
/-- a draw answers one number -/
def Draws1 (w : World) (P : Int → Prop) (e : Ending) (w' : World) : Prop := ∃ n : Int, P n ∧ e = .returned (.int .i64 n) ∧ Below w.heap.size w w'
theorem Cur.below {w w' : World} {c K : Nat} (h : Cur w c K) (hb : Below w.heap.size w w') : Cur w' c K :=
  h.grown (row := none) ⟨hb.os, hb.tape, hb.output, hb.size, fun k hk _ => hb.block k hk⟩ (fun _ e => by cases e)
theorem grown_of_below {w w' : World} {row : Option Nat} (hb : Below w.heap.size w w') : w.grownBy w' row := ⟨hb.os, hb.tape, hb.output, hb.size, fun k hk _ => hb.block k hk⟩

end Go.Proofs.Ytbmmajdacebncaa
