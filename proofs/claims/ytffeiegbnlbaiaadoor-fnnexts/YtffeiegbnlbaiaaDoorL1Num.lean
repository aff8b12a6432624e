/-
  Contract of the model's own decimal digits: a function that calls itself.
-/
import Derived.Test.YtffeiegbnlbaiaaDoorForms
import Derived.Laws.BytesArg
import Derived.Lib.ItoaNum
import Derived.Deep.QuietTactic
import Derived.BigQuiet
import Derived.Deep.RegionWith
namespace Go.Proofs.YtffeiegbnlbaiaaDoor
open Go.ChangeShapes Go.WideShapes Go.ChangeAt Go.RowKit

/-- one byte's slice, turned into a string -/
theorem conv_one (w : World) (b : Nat) (x : Int) (h : w.cell? ⟨b, 0, none⟩ = some (.int .u8 x)) :
    (convert 22 9 (.slice (some ⟨b, 0, none⟩) 1 1)).run Tryd.prog w = .ok (.string (strOfNums [x])) w := by
  refine run_convert_bytes_arg _ 22 5 Tryd.underlying22 Tryd.underlying5 _ _ _ _ [x] rfl (fun i hi => ?_) 9 Tryd.underlying9
  obtain rfl : i = 0 := by have : [x].length = 1 := rfl; omega
  exact h
theorem conv_one_new (w : World) (x : Int) :
    (convert 22 9 (.slice (some ⟨w.heap.size, 0, none⟩) 1 1)).run Tryd.prog (w.alloc (.cells #[.int .u8 x] 5)) = .ok (.string (strOfNums [x])) (w.alloc (.cells #[.int .u8 x] 5)) := by
  refine conv_one _ _ _ ?_
  have hb := heap_alloc_new w (.cells #[.int .u8 x] 5)
  simp only [World.cell?, hb]
  rfl
theorem conv_kept (w w2 : World) (x : Int) (S : ByteArray) (hS : S = strOfNums [x]) (hb : Below (w.alloc (.cells #[.int .u8 x] 5)).heap.size (w.alloc (.cells #[.int .u8 x] 5)) w2) :
    (convert 22 9 (.slice (some ⟨w.heap.size, 0, none⟩) 1 1)).run Tryd.prog w2 = .ok (.string S) w2 := by
  rw [hS]
  refine conv_one _ _ _ ?_
  rw [(bcell hb).1 _ _ (by simp)]
  have hb := heap_alloc_new w (.cells #[.int .u8 x] 5)
  simp only [World.cell?, hb]
  rfl
theorem bl_call {w w2 : World} {o : Obj} (h : Below w.drew.heap.size w.drew w2) : Below w.heap.size w (w2.alloc o) :=
  ((Below.refl w.heap.size w).drew.trans h).alloc h.size _
theorem bl_built {w w2 : World} {o : Obj} (h : Below (w.alloc o).drew.heap.size (w.alloc o).drew w2) : Below w.heap.size w w2 :=
  (below1 w o).drew.trans (h.mono (by show w.heap.size ≤ (w.alloc o).heap.size; simp))
theorem ret_strL {a b : ByteArray} (h : a = b) : Ending.returned (.string a) = .returned (.string b) := by rw [h]
/-- the decimal digits of a number -/
def digs (n : Int) : ByteArray := ⟨(Lib.decDigits n.toNat).toArray⟩
theorem dig_one (m : Nat) (hm : m < 10) : strOfNums [48 + (m : Int)] = ⟨#[UInt8.ofNat (48 + m)]⟩ := by
  have : m = 0 ∨ m = 1 ∨ m = 2 ∨ m = 3 ∨ m = 4 ∨ m = 5 ∨ m = 6 ∨ m = 7 ∨ m = 8 ∨ m = 9 := by omega
  rcases this with rfl | rfl | rfl | rfl | rfl | rfl | rfl | rfl | rfl | rfl <;> rfl
theorem dig_small (n : Int) (h0 : 0 ≤ n) (h : n < 10) : strOfNums [48 + n] = digs n := by
  obtain ⟨m, rfl⟩ := Int.eq_ofNat_of_zero_le h0
  have hm : m < 10 := by omega
  rw [dig_one m hm, digs, Int.toNat_natCast, Lib.decDigits, dif_pos hm]
theorem dig_step (n : Int) (h0 : 0 ≤ n) (h : ¬ n < 10) : digs (n / 10) ++ strOfNums [48 + n % 10] = digs n := by
  obtain ⟨m, rfl⟩ := Int.eq_ofNat_of_zero_le h0
  have hm : ¬ m < 10 := by omega
  have e1 : ((m : Int) / 10).toNat = m / 10 := by omega
  have e2 : ((m : Int) % 10) = ((m % 10 : Nat) : Int) := by omega
  rw [e2, dig_one (m % 10) (by omega)]
  apply ByteArray.ext
  rw [ByteArray.data_append]
  simp only [digs, e1, Int.toNat_natCast]
  conv => rhs; rw [Lib.decDigits, dif_neg hm]
  simp
theorem dec_len : ∀ (k u : Nat), u ≤ k → (Lib.decDigits u).length ≤ k + 1 := by
  intro k
  induction k with
  | zero => intro u hu; rw [Lib.decDigits, dif_pos (by omega)]; simp
  | succ k ih =>
    intro u hu
    rw [Lib.decDigits]
    split
    · simp
    · have := ih (u / 10) (by omega)
      rw [List.length_append]
      simp only [List.length_cons, List.length_nil]
      omega
theorem dig_size (n : Int) (h : n ≤ 65535) : (digs n).size ≤ 65536 := by
  have := dec_len 65535 n.toNat (by omega)
  simpa [digs, ByteArray.size] using this

set_option maxRecDepth 100000 in
set_option maxHeartbeats 1000000 in
theorem l1Num_small (n : Int) (w : World) (h0 : 0 ≤ n) (h : n < 10) :
    Calls Tryd.prog 27 #[.int .i64 n] w fun e w' => e = .returned (.string (digs n)) ∧ Below w.heap.size w w' := by
  have HE : Hid (strOfNums [48 + n] = digs n) := dig_small n h0 h
  have hconv := conv_one_new w (48 + n)
  go_enter Tryd.func27, Tryd.ntmps27
  go_wp2
  go_ret
  exact ⟨ret_strL HE.out, below1 _ _⟩

set_option maxRecDepth 20000 in
set_option maxHeartbeats 4000000 in
theorem l1Num_any : ∀ (k : Nat) (n : Int) (w : World), n ≤ k → 0 ≤ n → n ≤ 65535 →
    Calls Tryd.prog 27 #[.int .i64 n] w fun e w' => e = .returned (.string (digs n)) ∧ Below w.heap.size w w' := by
  intro k
  induction k with
  | zero => intro n w hk h0 h1; exact l1Num_small n w h0 (by omega)
  | succ k ih =>
    intro n w hk h0 h1
    by_cases hn : n < 10
    · exact l1Num_small n w h0 hn
    · have HE := dig_step n h0 hn
      have hd : n.tdiv 10 = n / 10 := by rw [Int.tdiv_eq_ediv_of_nonneg h0]
      have hm : n.tmod 10 = n % 10 := Int.tmod_eq_emod_of_nonneg h0
      obtain ⟨q, hq⟩ : ∃ q, q = n / 10 := ⟨_, rfl⟩
      obtain ⟨r, hr⟩ : ∃ r, r = n % 10 := ⟨_, rfl⟩
      rw [← hq] at hd HE
      rw [← hr] at hm HE
      have hq0 : 0 ≤ q := by omega
      have hq1 : q ≤ 6553 := by omega
      have hqk : q ≤ k := by omega
      have hr0 : 0 ≤ r := by omega
      have hr1 : r ≤ 9 := by omega
      have hsz := dig_size q (by omega)
      have hcs : (strOfNums [48 + r]).size = 1 := by rw [strOfNums_size]; rfl
      have hcv : ∀ w : World, _ := fun w => conv_one_new w (48 + r)
      have ih2 : ∀ w : World, _ := fun w => ih q w hqk hq0 (by omega)
      obtain ⟨S, hS⟩ : ∃ S, S = strOfNums [48 + r] := ⟨_, rfl⟩
      obtain ⟨D, hD⟩ : ∃ D, D = digs q := ⟨_, rfl⟩
      rw [← hS] at hcs HE
      rw [← hD] at hsz HE
      simp only [← hS] at hcv
      simp only [← hD] at ih2
      have HN : Hid (D ++ S = digs n) := HE
      have HS : Hid (S = strOfNums [48 + r]) := hS
      have hw1 : IntKind.i64.wrap q = q := IntWalk.i64_in _ (by omega)
      have hw2 : IntKind.i64.wrap (48 + r) = 48 + r := IntWalk.i64_in _ (by omega)
      have hw3 : IntKind.u8.wrap (48 + r) = 48 + r := by simp [IntKind.wrap, IntKind.bits, IntKind.signed]; omega
      have hadd : D.size + S.size ≤ 9223372036854775807 := by omega
      clear hq hr HE hS hD ih hk
      go_enter Tryd.func27, Tryd.ntmps27
      go_wp2
      have hc : (convert 22 9 (.slice (some ⟨w.heap.size, 0, none⟩) 1 1)).run Tryd.prog (w.alloc (.cells #[.int .u8 (48 + r)] 5)).drew = .ok (.string S) (w.alloc (.cells #[.int .u8 (48 + r)] 5)).drew := hcv w.drew
      go_region_with ((go_at_call 27; refine (ih2 _).mono ?_; rintro e w2 ⟨rfl, hb2⟩; have hc2 := hcv w2; try (have hc3 : (convert 22 9 (.slice (some ⟨w.heap.size, 0, none⟩) 1 1)).run Tryd.prog w2 = .ok (.string S) w2 := conv_kept w.drew w2 _ _ HS.out hb2)))
      all_goals (go_wp2; go_ret)
      · exact ⟨ret_strL HN.out, bl_call hb2⟩
      all_goals exact ⟨ret_strL HN.out, bl_built hb2⟩
end Go.Proofs.YtffeiegbnlbaiaaDoor
