/-
  Rows of values in memory: what stays, what a block holds, a slice of ints that reads as a list, and the laws' own helpers over slices of ints.
-/
import Derived.Test.YtbmmajdacebncaaSmall
import Derived.Deep.Slices
import Derived.ChangeArms
import Derived.OwnWalk
import Derived.Deep.AppendLies
import Derived.Laws.OwnMore
import Derived.Deep.RegionHeld3
import Derived.StillTailTactics
import Derived.Deep.QuietTactic
import Derived.BigQuiet
namespace Go.Proofs.Ytbmmajdacebncaa
open Go.ChangeShapes Go.WideShapes Go.ChangeAt Go.RowKit

theorem below1 (w : World) (a : Obj) : Below w.heap.size w (w.alloc a) := (Below.refl _ _).alloc (Nat.le_refl _) _
theorem below2 (w : World) (a b : Obj) : Below w.heap.size w ((w.alloc a).alloc b) := (below1 w a).alloc (by simp) _
theorem below3 (w : World) (a b c : Obj) : Below w.heap.size w (((w.alloc a).alloc b).alloc c) := (below2 w a b).alloc (by simp; omega) _
theorem bcell {W w1 : World} (hb : Below W.heap.size W w1) : (∀ b o, b < W.heap.size → w1.cell? ⟨b, o, none⟩ = W.cell? ⟨b, o, none⟩) ∧ (∀ b o, b < W.heap.size → w1.frozen? ⟨b, o, none⟩ = W.frozen? ⟨b, o, none⟩) :=
  ⟨fun b o h => hb.cell (p := ⟨b, o, none⟩) h, fun b o h => hb.frozen (p := ⟨b, o, none⟩) h⟩
theorem bdrewN {B : Nat} {a w : World} (h : Below B a w) (n : Nat) : Below B a (w.drewN n) := ⟨h.os, h.tape, h.output, h.size, h.block⟩
theorem Below.tr {w w1 w2 : World} (h : Below w.heap.size w w1) (k : Below w1.heap.size w1 w2) : Below w.heap.size w w2 := h.trans (k.mono h.size)
/-- a block that is just these cells, none of them frozen -/
def Blk (w : World) (g : Nat) (t : TypeId) (cs : List Value) : Prop := w.heap[g]? = some (.cells cs.toArray t (0, 0))
theorem Blk.lt {w : World} {g : Nat} {t : TypeId} {cs : List Value} (h : Blk w g t cs) : g < w.heap.size := (Array.getElem?_eq_some_iff.1 h).1
theorem Blk.below {w w' : World} {g : Nat} {t : TypeId} {cs : List Value} (h : Blk w g t cs) (hb : Below w.heap.size w w') : Blk w' g t cs := (hb.block g h.lt).trans h
theorem Blk.cell {w : World} {g : Nat} {t : TypeId} {cs : List Value} (h : Blk w g t cs) (j : Nat) : w.cell? ⟨g, j, none⟩ = cs[j]? := by
  have := cell_of_row w g j cs.toArray t (0, 0) h
  simpa using this
theorem Blk.frozen {w : World} {g : Nat} {t : TypeId} {cs : List Value} (h : Blk w g t cs) (j : Nat) : w.frozen? ⟨g, j, none⟩ = false := by
  unfold Blk at h
  simp [World.frozen?, h]
theorem Blk.set {w : World} {g : Nat} {t : TypeId} {cs : List Value} (h : Blk w g t cs) (j : Nat) (u : Value) : Blk (w.setCell ⟨g, j, none⟩ u) g t (cs.set j u) := by
  unfold Blk at h ⊢
  simp [World.setCell, Array.getElem?_modify, h]
theorem Blk.far {w : World} {g : Nat} {t : TypeId} {cs : List Value} (h : Blk w g t cs) {g' j : Nat} (hne : g ≠ g') (u : Value) : Blk (w.setCell ⟨g', j, none⟩ u) g t cs :=
  (Below.heap_setCell w ⟨g', j, none⟩ u g hne).trans h
/-- a slice of ints that reads as the list l -/
def ILies (w : World) (A : Option Addr) (l : List Int) : Prop :=
  ∀ i y, l[i]? = some y → ∃ b off, A = some ⟨b, off, none⟩ ∧ b < w.heap.size ∧ w.cell? ⟨b, off + i, none⟩ = some (.int .i64 y)
theorem ILies.below {w w' : World} {A : Option Addr} {l : List Int} (h : ILies w A l) (hb : Below w.heap.size w w') : ILies w' A l := by
  intro i x hx
  obtain ⟨b, off, hA, hlt, ha⟩ := h i x hx
  exact ⟨b, off, hA, Nat.lt_of_lt_of_le hlt hb.size, ((bcell hb).1 b _ hlt).trans ha⟩
theorem own_ilies {w : World} {base n c : Nat} {A : Option Addr} {l : List Int} (h : w.ownsRow base 3 1 (.slice A n c) n (l.map (Value.int .i64))) : ILies w A l := by
  intro i y hy
  have hlt : i < l.length := (List.getElem?_eq_some_iff.1 hy).1
  have hl := h.1
  obtain ⟨g, cap, hv, _, hg⟩ := h.form (by simp at hl; omega)
  have hA : A = some ⟨g, 0, none⟩ := by injection hv
  subst hA
  refine ⟨g, 0, rfl, hg, ?_⟩
  have := h.cells (g := g) rfl i (.int .i64 y) (by simp [hy])
  rw [add_plain] at this
  exact this
/-- it answers a slice of ints of its own -/
def GaveInts (w : World) (l : List Int) (e : Ending) (w' : World) : Prop :=
  ∃ A c, e = .returned (.slice A l.length c) ∧ w'.ownsRow w.heap.size 3 1 (.slice A l.length c) l.length (l.map (Value.int .i64)) ∧ Below w.heap.size w w'
theorem own_row (w : World) (l : List Int) (base : Nat) (hb : base ≤ w.heap.size) (hm : l.length ≤ maxLen) :
    (w.alloc (.cells (l.map (Value.int .i64)).toArray 3)).ownsRow base 3 1 (.slice (some ⟨w.heap.size, 0, none⟩) l.length l.length) l.length (l.map (Value.int .i64)) := by
  refine ⟨by simp, .inr ⟨w.heap.size, l.length, _, rfl, hb, heap_alloc_new w _, Nat.le_refl _, hm, by simp, ?_⟩⟩
  exact List.take_of_length_le (by simp)
theorem gave_alloc (w w1 : World) (l : List Int) (h : Below w.heap.size w w1) (hm : l.length ≤ maxLen) :
    GaveInts w l (.returned (.slice (some ⟨w1.heap.size, 0, none⟩) l.length l.length)) (w1.alloc (.cells (l.map (Value.int .i64)).toArray 3)) :=
  ⟨_, _, rfl, own_row w1 l _ h.size hm, Below.tr h (below1 _ _)⟩
theorem gave_nil (w w1 : World) (h : Below w.heap.size w w1) : GaveInts w [] (.returned (.slice none 0 0)) w1 :=
  ⟨none, 0, rfl, World.ownsRow_nil _ _ _ _, h⟩
theorem gave_of {w w1 : World} {g n : Nat} {cs : Array Value} (l : List Int) (h : Below w.heap.size w w1) (hg : g = w1.heap.size) (hn : l.length = n ∧ n ≤ 1000000) (hc : cs = (l.map (Value.int .i64)).toArray) :
    GaveInts w l (.returned (.slice (some ⟨g, 0, none⟩) n n)) (w1.alloc (.cells cs 3)) := by
  obtain ⟨rfl, hm⟩ := hn
  subst hg hc
  exact gave_alloc w w1 l h (by unfold maxLen; omega)
theorem own_below {w w' : World} {base : Nat} {e : TypeId} {size : Nat} {v : Value} {n : Nat} {xs : List Value} (h : w.ownsRow base e size v n xs) (hb : Below w.heap.size w w') : w'.ownsRow base e size v n xs := by
  refine ⟨h.1, ?_⟩
  rcases h.2 with hn | ⟨g, cap, cur, rfl, hg, hgg, rest⟩
  · exact .inl hn
  · exact .inr ⟨g, cap, cur, rfl, hg, (hb.block g (Array.getElem?_eq_some_iff.1 hgg).1).trans hgg, rest⟩
theorem grown_trans {a b c : World} {row : Option Nat} (h : a.grownBy b row) (k : b.grownBy c row) : a.grownBy c row :=
  ⟨k.os.trans h.os, k.tape.trans h.tape, k.output.trans h.output, Nat.le_trans h.size k.size, fun i hi hne => (k.block i (Nat.lt_of_lt_of_le hi h.size) hne).trans (h.block i hi hne)⟩
/-- the numbers from m on -/
def iota (m : Int) (n : Nat) : List Int := (List.range n).map fun (j : Nat) => m + (j : Int)
theorem iota_len (m : Int) (n : Nat) : (iota m n).length = n := by simp [iota]
theorem iota_succ (m : Int) (n : Nat) : iota m (n + 1) = iota m n ++ [m + n] := by simp [iota, List.range_succ]
theorem iota_at (m : Int) (n j : Nat) (h : j < n) : (iota m n)[j]? = some (m + j) := by simp [iota, h]
theorem set_iota (l : List Int) (m : Int) (j : Nat) (h : j < l.length) :
    (((iota m j ++ l.drop j).map (Value.int .i64)).set j (.int .i64 (m + j))) = (iota m (j + 1) ++ l.drop (j + 1)).map (Value.int .i64) := by
  rw [iota_succ, List.drop_eq_getElem_cons h, List.map_append, List.map_cons]
  have : ((iota m j).map (Value.int .i64)).length = j := by simp [iota_len]
  rw [List.set_append_right _ _ (by omega), this]
  simp
set_option maxRecDepth 100000 in
set_option maxHeartbeats 2000000 in
theorem markIntS_any (base n c : Nat) (A : Option Addr) (l : List Int) (m : Int) (w : World) (ho : Hid (w.ownsRow base 3 1 (.slice A n c) n (l.map (Value.int .i64)))) (hn : n ≤ 10000000) (hm : 0 ≤ m ∧ m ≤ 1000000000) :
    Calls Try.prog 44 #[.slice A n c, .int .i64 m] w fun e w' => e = .returned (.int .i64 (m + n)) ∧ w'.ownsRow base 3 1 (.slice A n c) n ((iota m n).map (Value.int .i64)) ∧ w.grownBy w' (Value.slice A n c).ownBlock := by
  have hll : l.length = n := by have := ho.out.1; simpa using this
  have HL := Lib.hid hll
  clear hll
  go_enter Try.func44, Try.ntmps44
  go_wp2_with fail
  go_loopw [1, 5] (fun kk i wr => ∃ j : Nat, j ≤ n ∧ i = .int .i64 j ∧ kk = .int .i64 (m + j) ∧ wr.ownsRow base 3 1 (.slice A n c) n ((iota m j ++ l.drop j).map (Value.int .i64)) ∧ w.grownBy wr (Value.slice A n c).ownBlock) (fun _ i _ => n - (intOf i).toNat)
  case atStart => exact ⟨0, Nat.zero_le _, rfl, by simp, by simpa [iota] using ho.out, World.grownBy.refl _ _⟩
  case round =>
    obtain ⟨j, hj, rfl, rfl, hown, hgr⟩ := hrel
    have O1 := Lib.hid hown
    have G1 := Lib.hid hgr
    clear hown hgr
    by_cases hlt : j < n
    · obtain ⟨g, cap, hv, hbg, hgl⟩ := O1.out.form (by omega)
      have hA : A = some ⟨g, 0, none⟩ := by injection hv
      clear hv
      subst hA
      have hv : ∃ v, wr.cell? ⟨g, j, none⟩ = some v := by
        have hlen : j < ((iota m j ++ l.drop j).map (Value.int .i64)).length := by simp [iota_len]; have := HL.out; omega
        have := O1.out.cells (g := g) rfl j _ (List.getElem?_eq_getElem hlen)
        rw [add_plain, Nat.zero_add] at this
        exact ⟨_, this⟩
      obtain ⟨v, hc⟩ := hv
      have hf : wr.frozen? ⟨g, j, none⟩ = false := by
        rcases O1.out.2 with ⟨h', _⟩ | ⟨g', cap', cur, h', hb, hg, hnc, hcm, hcs, htake⟩
        · simp at h'
        · simp only [Value.slice.injEq, Option.some.injEq, Addr.mk.injEq, and_true, true_and] at h'
          obtain ⟨rfl, rfl⟩ := h'
          simp [World.frozen?, hg]
      have O2 := Lib.hid (O1.out.stored j (.int .i64 (m + j)))
      have HS := Lib.hid (set_iota l m j (by have := HL.out; omega))
      go_wp2
      go_roundw
      case rel => exact ⟨j + 1, by omega, by go_num, by go_num, by rw [← HS.out]; exact O2.out.1, grown_trans G1.out O2.out.2⟩
      case measure => simp [intOf]; omega
    · obtain rfl : j = n := by omega
      go_wp2
      go_ret
      refine ⟨rfl, ?_, G1.out⟩
      have := O1.out
      rw [List.drop_of_length_le (by have := HL.out; omega), List.append_nil] at this
      exact this
set_option maxRecDepth 100000 in
set_option maxHeartbeats 2000000 in
theorem heldIntS_any (n c : Nat) (A : Option Addr) (m : Int) (w : World) (hl : Hid (ILies w A (iota m n))) (hn : n ≤ 10000000) (hm : 0 ≤ m ∧ m ≤ 1000000000) :
    Calls Try.prog 45 #[.slice A n c, .int .i64 m] w fun e w' => e = .returned (.int .i64 (m + n)) ∧ w = w' := by
  go_enter Try.func45, Try.ntmps45
  go_wp2_with fail
  go_loop [1, 5] (fun kk i => ∃ j : Nat, j ≤ n ∧ i = .int .i64 j ∧ kk = .int .i64 (m + j)) (fun _ i => n - (intOf i).toNat)
  case atStart => exact ⟨0, Nat.zero_le _, rfl, by simp⟩
  case round =>
    obtain ⟨j, hj, rfl, rfl⟩ := hrel
    by_cases hlt : j < n
    · obtain ⟨b, off, rfl, hb, hc⟩ := hl.out j _ (iota_at m n j hlt)
      have hne : ((m + (j : Int)) != (m + (j : Int))) = false := by simp
      go_wp2
      go_round
      case rel => exact ⟨j + 1, by omega, by go_num, by go_num⟩
      case measure => simp [intOf]; omega
    · obtain rfl : j = n := by omega
      go_wp2
      go_ret
      exact ⟨rfl, rfl⟩
set_option maxRecDepth 100000 in
set_option maxHeartbeats 2000000 in
theorem eqIntS_same (A B : Option Addr) (n c1 c2 : Nat) (l : List Int) (w : World) (hl : Hid (ILies w A l)) (hl2 : Hid (ILies w B l)) (hx : Hid (l.length = n)) (hn : n ≤ 10000000) :
    Calls Try.prog 43 #[.slice A n c1, .slice B n c2] w fun e w' => e = .returned (.bool true) ∧ Below w.heap.size w w' := by
  have hnn : ((n : Int) != (n : Int)) = false := by simp
  go_enter Try.func43, Try.ntmps43
  go_wp2_with fail
  go_loopw [5] (fun i wr => ∃ k : Nat, k ≤ n ∧ i = .int .i64 k ∧ Below w.heap.size w wr) (fun i _ => n - (intOf i).toNat)
  case atStart => exact ⟨0, Nat.zero_le _, rfl, Below.refl _ _⟩
  case round =>
    obtain ⟨k, hk, rfl, hb⟩ := hrel
    have B1 := Lib.hid hb
    clear hb
    by_cases hlt : k < n
    · obtain ⟨y, hy⟩ : ∃ y, l[k]? = some y := ⟨_, List.getElem?_eq_getElem (by have := hx.out; omega)⟩
      obtain ⟨b, off, rfl, hbl, hc⟩ := (hl.out.below B1.out) k y hy
      obtain ⟨b2, off2, rfl, hbl2, hc2⟩ := (hl2.out.below B1.out) k y hy
      clear hy
      have hyy : (y != y) = false := by simp
      go_wp2_with fail
      go_quiet (fail)
      go_wp2
      go_roundw
      case rel => exact ⟨k + 1, by omega, by go_num, bdrewN B1.out _⟩
      case measure => simp [intOf]; omega
    · obtain rfl : k = n := by omega
      go_wp2
      go_ret
      exact ⟨rfl, B1.out⟩
theorem own_base {w : World} {base base' : Nat} {e : TypeId} {size : Nat} {v : Value} {n : Nat} {xs : List Value} (h : w.ownsRow base e size v n xs) (hb : base' ≤ base) : w.ownsRow base' e size v n xs := by
  refine ⟨h.1, ?_⟩
  rcases h.2 with hn | ⟨g, cap, cur, rfl, hg, rest⟩
  · exact .inl hn
  · exact .inr ⟨g, cap, cur, rfl, by omega, rest⟩
theorem kept_of {w w' : World} {base : Nat} {e : TypeId} {size : Nat} {v : Value} {n : Nat} {xs : List Value} {row : Option Nat} (h : w.ownsRow base e size v n xs) (hg : w.grownBy w' row) (hne : ∀ g, v.ownBlock = some g → row ≠ some g) : w'.ownsRow base e size v n xs :=
  h.kept hg (by
    cases hv : v.ownBlock with
    | none => exact .inl rfl
    | some g => exact .inr (fun e => hne g hv e.symm))
theorem blk_far {w w' : World} {g : Nat} {t : TypeId} {cs : List Value} {row : Option Nat} (h : Blk w g t cs) (hg : w.grownBy w' row) (hne : some g ≠ row) : Blk w' g t cs := (hg.block g h.lt hne).trans h
theorem ret_b {a b : Bool} (h : a = b) : Ending.returned (.bool a) = .returned (.bool b) := by rw [h]
/-- what is left of the size -/
def szF (l : Int) (n : Nat) : Int := if l < n then -1 else l - n
theorem szF_big {n : Nat} (h : 1048576 < n) : szF 1048576 n = -1 := if_pos (by omega)
theorem szF_small {n : Nat} (h : ¬ 1048576 < n) : 0 ≤ szF 1048576 n := by unfold szF; rw [if_neg (by omega)]; omega
end Go.Proofs.Ytbmmajdacebncaa
