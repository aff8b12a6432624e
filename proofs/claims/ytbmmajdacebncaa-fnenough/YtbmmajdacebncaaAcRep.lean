/-
  slices.Repeat of one number; slices.Max.
-/
import Derived.Test.YtbmmajdacebncaaAcReach
import Derived.Test.YtbmmajdacebncaaAc7
import Derived.Laws.CopyOwn
import Derived.Deep.OwnRows
namespace Go.Proofs.Ytbmmajdacebncaa
open Go.ChangeShapes Go.WideShapes Go.ChangeAt Go.RowKit

theorem made_rep (v : Value) (n : Nat) : madeCells #[v] n = (List.replicate n v).toArray := by
  unfold madeCells
  apply Array.ext
  · simp
  · intro i h1 h2
    simp [Nat.mod_one]
theorem and_small : ∀ n : Fin 21, bits .and .u64 ((n.1 : Nat) : Int) 4294967295 = ((n.1 : Nat) : Int) := by decide +kernel
set_option maxRecDepth 100000 in
set_option maxHeartbeats 2000000 in
theorem mul64_any (n : Nat) (hn : n ≤ 20) (w : World) : Calls Try.prog 74 #[.int .u64 1, .int .u64 (n : Int)] w fun e w' => e = .returned (.tuple #[.int .u64 0, .int .u64 (n : Int)]) ∧ w = w' := by
  have b1 : bits .and .u64 1 4294967295 = 1 := by decide +kernel
  have b0 : bits .and .u64 0 4294967295 = 0 := by decide +kernel
  have b2 : bits .and .u64 (n : Int) 4294967295 = (n : Int) := and_small ⟨n, by omega⟩
  have d1 : (n : Int) / 4294967296 = 0 := by omega
  have w1 : IntKind.u64.wrap (n : Int) = (n : Int) := by rw [show IntKind.u64.wrap (n : Int) = (n : Int) % 18446744073709551616 from rfl]; omega
  go_enter Try.func74, Try.ntmps74
  go_wp2
  go_ret2
  exact ⟨rfl, rfl⟩
set_option maxRecDepth 100000 in
set_option maxHeartbeats 2000000 in
theorem mul_any (n : Nat) (hn : n ≤ 20) (w : World) : Calls Try.prog 72 #[.int .u64 1, .int .u64 (n : Int)] w fun e w' => e = .returned (.tuple #[.int .u64 0, .int .u64 (n : Int)]) ∧ w = w' := by
  have w1 : IntKind.u64.wrap (n : Int) = (n : Int) := by rw [show IntKind.u64.wrap (n : Int) = (n : Int) % 18446744073709551616 from rfl]; omega
  go_enter Try.func72, Try.ntmps72
  go_wp2_with fail
  refine (mul64_any n hn _).mono ?_
  rintro e w' ⟨rfl, rfl⟩
  go_wp2
  go_ret2
  exact ⟨rfl, rfl⟩
/-- a row of n numbers, k of them laid -/
def repV (v : Int) (n k : Nat) : List Value := List.replicate k (.int .i64 v) ++ List.replicate (n - k) (.int .i64 0)
theorem repV_len (v : Int) (n k : Nat) (h : k ≤ n) : (repV v n k).length = n := by unfold repV; simp; omega
theorem repV_full (v : Int) (n : Nat) : repV v n n = List.replicate n (.int .i64 v) := by unfold repV; simp
theorem rep_splice (v : Int) (n k m : Nat) (h : k + m ≤ n) : splice (repV v n k) k (List.replicate m (.int .i64 v)) = repV v n (k + m) := by
  unfold splice repV
  rw [List.length_replicate, List.take_left' (by simp), List.drop_append, List.drop_eq_nil_of_le (by simp), List.nil_append, List.length_replicate, List.drop_replicate, ← List.append_assoc, List.replicate_append_replicate]
  congr 2
  omega
theorem copy_run (W W0 : World) (g o dl dc sb so sl sc m B : Nat) (cur : List Value) (v : Int) (hg : Blk W g 3 cur) (hm : Nat.min sl dl = m) (hs : ∀ j, j < m → W.cell? ⟨sb, so + j, none⟩ = some (.int .i64 v)) (hf : o + m ≤ cur.length) (hb : Below B W0 W) (hB : B ≤ g) :
    ∃ W2, (Builtin.copy_ #[24, 24] 3 #[.slice (some ⟨g, o, none⟩) dl dc, .slice (some ⟨sb, so, none⟩) sl sc]).run Try.prog W = .ok (.int .i64 (m : Int)) W2 ∧ Blk W2 g 3 (splice cur o (List.replicate m (.int .i64 v))) ∧ Below B W0 W2 := by
  obtain ⟨i0, hi0, _, hz1, _⟩ := info_parts info_int
  have hsz : (Try.prog.info? 3).map (·.size) = some 1 := by rw [hi0]; simp [hz1]
  have h := run_copy_row (P := Try.prog) W 24 24 3 3 g o dl dc ⟨sb, so, none⟩ sl sc cur.toArray 3 (List.replicate m (.int .i64 v)) Try.underlying24 hsz hg (by simp [hm]) (fun j u hj => by
    rw [List.getElem?_replicate] at hj
    split at hj
    · rename_i hjm
      obtain rfl := Option.some.inj hj
      rw [add_plain]
      exact hs j hjm
    · cases hj) (by simpa using hf) (by intro u hu; rw [List.eq_of_mem_replicate hu]; rfl)
  rw [List.length_replicate] at h
  refine ⟨_, h, ?_, below_setRow hb hB _⟩
  have e := setRow_heap W g _ (cur.take o ++ List.replicate m (Value.int .i64 v) ++ cur.drop (o + m)).toArray _ _ hg
  unfold Blk splice
  rw [List.length_replicate, ← List.append_assoc]
  exact e
set_option maxRecDepth 100000 in
set_option maxHeartbeats 4000000 in
theorem repeat_any (v : Int) (n b : Nat) (w : World) (hn0 : 0 < n) (hn : n ≤ 20) (hb : Hid (Blk w b 3 [.int .i64 v])) :
    Calls Try.prog 69 #[.slice (some ⟨b, 0, none⟩) 1 1, .int .i64 n] w fun e w' => e = .returned (.slice (some ⟨w.heap.size, 0, none⟩) n n) ∧ Blk w' w.heap.size 3 (List.replicate n (.int .i64 v)) ∧ Below w.heap.size w w' := by
  have w1 : IntKind.u64.wrap (n : Int) = (n : Int) := by rw [show IntKind.u64.wrap (n : Int) = (n : Int) % 18446744073709551616 from rfl]; omega
  have w2 : IntKind.i64.wrap (n : Int) = (n : Int) := by rw [IntKind.wrap_i64]; omega
  have hmk := fun w : World => run_make_row' (P := Try.prog) 24 3 (.int .i64 0) 8 Try.underlying24 info_int rfl .i64 .i64 n (by omega) (by omega) w
  go_enter Try.func69, Try.ntmps69
  go_wp2_with fail
  refine (mul_any n hn _).mono ?_
  rintro e w' ⟨rfl, rfl⟩
  have h0 : Blk (w.alloc (.cells (madeCells #[.int .i64 0] n) 3)) w.heap.size 3 (repV v n 0) := by
    have e : madeCells #[Value.int .i64 0] n = (repV v n 0).toArray := by rw [made_rep]; unfold repV; simp
    rw [e]; exact heap_alloc_new w _
  have hbc := (hb.out.below (below1 w (.cells (madeCells #[.int .i64 0] n) 3))).cell 0
  have hb0 : ∀ j, j < 1 → (w.alloc (.cells (madeCells #[.int .i64 0] n) 3)).cell? ⟨b, 0 + j, none⟩ = some (.int .i64 v) := fun j hj => by
    have : j = 0 := by omega
    subst this
    exact hbc
  obtain ⟨W2, hrun, hbl2, hbb2⟩ := copy_run _ w w.heap.size 0 n n b 0 1 1 1 w.heap.size (repV v n 0) v h0 (Nat.min_eq_left (by omega)) hb0 (by rw [repV_len _ _ _ (Nat.zero_le _)]; omega) (below1 w _) (Nat.le_refl _)
  rw [rep_splice v n 0 1 (by omega)] at hbl2
  have BL1 := Lib.hid hbl2
  have BB1 := Lib.hid hbb2
  clear h0 hbc hb0 hbl2 hbb2
  go_wp2_with fail
  clear hrun
  go_loopw [8] (fun i wr => ∃ k : Nat, 1 ≤ k ∧ k ≤ n ∧ i = .int .i64 k ∧ Blk wr w.heap.size 3 (repV v n k) ∧ Below w.heap.size w wr) (fun i _ => n - (intOf i).toNat)
  case atStart => exact ⟨1, Nat.le_refl _, hn0, rfl, BL1.out, BB1.out⟩
  case round =>
    obtain ⟨k, hk1, hk, rfl, hbl, hbb⟩ := hrel
    have L1 := Lib.hid hbl
    have C1 := Lib.hid hbb
    clear hbl hbb
    by_cases hlt : k < n
    · obtain ⟨m, hm⟩ : ∃ m, Nat.min k (n - k) = m := ⟨_, rfl⟩
      have HM := Lib.hid hm
      have hmk : m ≤ k := by rw [← hm]; exact Nat.min_le_left _ _
      have hmn : k + m ≤ n := by have : m ≤ n - k := by { rw [← hm]; exact Nat.min_le_right _ _ }
                                 omega
      have hm1 : 1 ≤ m := by rw [← hm]; exact Nat.le_min.2 ⟨hk1, by omega⟩
      clear hm
      have hkn : ¬ k = n := by omega
      have hki : (k : Int) < (n : Int) := by omega
      have cc : ∀ j, j < m → (wr.drew).cell? ⟨w.heap.size, 0 + j, none⟩ = some (.int .i64 v) := fun j hj => by
        rw [Nat.zero_add]
        refine (Blk.cell (w := wr.drew) L1.out j).trans ?_
        unfold repV
        rw [List.getElem?_append_left (by simp; omega), List.getElem?_replicate, if_pos (by omega)]
      obtain ⟨W3, hrun, hbl3, hbb3⟩ := copy_run wr.drew w w.heap.size k (n - k) (n - k) w.heap.size 0 k n m w.heap.size (repV v n k) v L1.out HM.out cc (by rw [repV_len _ _ _ hk]; exact hmn) C1.out.drew (Nat.le_refl _)
      rw [rep_splice v n k m hmn] at hbl3
      have L3 := Lib.hid hbl3
      have C3 := Lib.hid hbb3
      clear cc hbl3 hbb3
      have hw64 : IntKind.i64.wrap ((k : Int) + (m : Int)) = (k : Int) + (m : Int) := by rw [IntKind.wrap_i64]; omega
      go_wp2_with fail
      go_region
      clear hrun
      go_wp2
      go_roundw
      case rel => exact ⟨k + m, by omega, hmn, by go_num, L3.out, C3.out⟩
      case measure => simp [intOf]; omega
    · obtain rfl : k = n := by omega
      go_wp2
      go_ret
      exact ⟨rfl, by rw [← repV_full]; exact L1.out, C1.out⟩
theorem run_maxA (a b m : Int) (h : (if a < b then b else a) = m) (W : World) : (Builtin.max_ #[3, 3] 3 #[.int .i64 a, .int .i64 b]).run Try.prog W = .ok (.int .i64 m) W := by
  subst h
  by_cases h : a < b
  · rw [if_pos h]; go_simp
  · rw [if_neg h]; go_simp
set_option maxRecDepth 100000 in
set_option maxHeartbeats 2000000 in
theorem maxS_any (g : Nat → Int) (A : Option Addr) (n q cap : Nat) (w : World) (hl : Hid (ILies w A ((List.range n).map g))) (hq : n = q + 1) (hn : n ≤ 20) :
    Calls Try.prog 60 #[.slice A n cap] w fun e w' => e = .returned (.int .i64 (maxL g q)) ∧ w = w' := by
  have hn1 : ¬ ((n : Int) < 1) := by omega
  have HQ := Lib.hid hq
  clear hq
  obtain ⟨b, off, rfl, hb, hc⟩ := hl.out 0 (g 0) (by have := HQ.out; simp [this])
  rw [Nat.add_zero] at hc
  go_enter Try.func60, Try.ntmps60
  go_wp2_with fail
  go_loop [3, 4] (fun v i => ∃ k : Nat, 1 ≤ k ∧ k ≤ n ∧ i = .int .i64 k ∧ v = .int .i64 (maxL g (k - 1))) (fun _ i => n - (intOf i).toNat)
  case atStart => exact ⟨1, Nat.le_refl _, by omega, rfl, rfl⟩
  case round =>
    obtain ⟨k, hk1, hk, rfl, rfl⟩ := hrel
    by_cases hlt : k < n
    · obtain ⟨b2, off2, hA, _, hc2⟩ := hl.out k (g k) (by simp [hlt])
      simp only [Option.some.injEq, Addr.mk.injEq, and_true] at hA
      obtain ⟨rfl, rfl⟩ := hA
      obtain ⟨j, rfl⟩ : ∃ j, k = j + 1 := ⟨k - 1, by omega⟩
      have hm := fun W => run_maxA (maxL g (j + 1 - 1)) (g (j + 1)) (maxL g (j + 1)) rfl W
      obtain ⟨X, hX⟩ : ∃ X, maxL g (j + 1) = X := ⟨_, rfl⟩
      obtain ⟨Y, hY⟩ : ∃ Y, maxL g (j + 1 - 1) = Y := ⟨_, rfl⟩
      obtain ⟨Z, hZ⟩ : ∃ Z, g (j + 1) = Z := ⟨_, rfl⟩
      rw [hX, hY, hZ] at hm
      rw [hZ] at hc2
      rw [hY]
      have HX := Lib.hid hX
      obtain ⟨kk, hkk⟩ : ∃ kk, j + 1 = kk := ⟨_, rfl⟩
      rw [hkk] at hc2 hlt hk1 ⊢
      have HK := Lib.hid hkk
      clear hkk hX hY hZ
      go_wp2
      go_round
      case rel => exact ⟨kk + 1, by omega, by omega, by go_num, by rw [← HX.out, ← HK.out]; rfl⟩
      case measure => simp [intOf]; omega
    · obtain rfl : k = n := by omega
      go_wp2
      go_ret
      exact ⟨by have := HQ.out; subst this; rfl, rfl⟩
end Go.Proofs.Ytbmmajdacebncaa
