/-
  Contracts of ProgramBytes: the model's and the program's.
-/
import Derived.Test.YtbmonndpblnjkaaLawGood
import Derived.Laws.Concat
namespace Go.Proofs.Ytbmonndpblnjkaa
open Go.ChangeShapes Go.WideShapes Go.ChangeAt Go.RowKit

/-- the bytes of a program -/
def progL (xs : List Stp) : List Int := xs.flatMap fun x => encL x.k x.o x.d x.s x.i x.t
def progS (xs : List Stp) : ByteArray := strOfNums (progL xs)
def pbS (b : Bool) (xs : List Stp) : ByteArray := bif b then progS xs else ⟨#[]⟩

theorem strOfNums_append (a b : List Int) : strOfNums (a ++ b) = strOfNums a ++ strOfNums b := by
  apply ByteArray.ext
  simp [strOfNums]
theorem encL_len (k o d s i t : Int) : (encL k o d s i t).length ≤ 8 := by unfold encL; split <;> simp
theorem encS_size (k o d s i t : Int) : (encS k o d s i t).size ≤ 8 := by rw [encS, strOfNums_size]; exact encL_len _ _ _ _ _ _
theorem progL_len (xs : List Stp) : (progL xs).length ≤ xs.length * 8 := by
  induction xs with
  | nil => simp [progL]
  | cons x xs ih =>
    have := encL_len x.k x.o x.d x.s x.i x.t
    simp only [progL, List.flatMap_cons, List.length_append, List.length_cons] at ih ⊢
    omega
theorem progS_size (xs : List Stp) : (progS xs).size ≤ xs.length * 8 := by rw [progS, strOfNums_size]; exact progL_len xs
theorem progS_snoc (xs : List Stp) (k : Nat) (x : Stp) (hx : xs[k]? = some x) : progS (xs.take (k + 1)) = progS (xs.take k) ++ encS x.k x.o x.d x.s x.i x.t := by
  have hlt : k < xs.length := (List.getElem?_eq_some_iff.1 hx).1
  have e : xs[k] = x := (List.getElem?_eq_some_iff.1 hx).2
  rw [List.take_succ_eq_append_getElem hlt, e, encS, progS, progS, ← strOfNums_append]
  simp [progL]
theorem progS_take_size (xs : List Stp) (k : Nat) (h : xs.length ≤ 20) : (progS (xs.take k)).size ≤ 160 := by
  have := progS_size (xs.take k)
  have h2 : (xs.take k).length ≤ xs.length := by rw [List.length_take]; omega
  omega
theorem str_val {a b : ByteArray} (h : a = b) : Value.string a = .string b := by rw [h]

set_option maxHeartbeats 2000000 in
theorem specProgBytes_any (A : Option Addr) (n cap : Nat) (xs : List Stp) (w : World) (b : Bool) (hb : Hid (b = true ↔ Good xs)) (hl : Hid (Lies w A xs)) (hx : Hid (xs.length = n)) (hn : n ≤ 1048576) :
    Calls Try.prog 12 #[.slice A n cap] w fun e w' => e = .returned (.tuple #[.string (pbS b xs), .bool b]) ∧ Below w.heap.size w w' := by
  go_enter Try.func12, Try.ntmps12
  go_wp2_with fail
  refine (specGood_any _ _ _ xs _ b hb hl hx hn).mono ?_
  rintro e w1 ⟨rfl, hb1⟩
  have B1 := Lib.hid hb1
  clear hb1
  cases b
  · go_wp2
    go_ret2
    exact ⟨rfl, B1.out⟩
  · have HG : Hid (Good xs) := hb.out.1 rfl
    have hn20 : n ≤ 20 := by have := HG.out.1.2; have := hx.out; omega
    go_wp2_with fail
    go_loopw [4, 12] (fun s i wr => ∃ k : Nat, k ≤ n ∧ i = .int .i64 k ∧ s = .string (progS (xs.take k)) ∧ Below w.heap.size w wr) (fun _ i _ => n - (intOf i).toNat)
    case atStart => exact ⟨0, Nat.zero_le _, rfl, rfl, B1.out⟩
    case round =>
      obtain ⟨k, hk, rfl, rfl, hbw⟩ := hrel
      have B2 := Lib.hid hbw
      clear hbw
      by_cases hlt : k < n
      · obtain ⟨x, hxk⟩ : ∃ x, xs[k]? = some x := ⟨_, List.getElem?_eq_getElem (by have := hx.out; omega)⟩
        obtain ⟨b1, off, rfl, hbl, ha⟩ := (hl.out.below B2.out) k x hxk
        have HOK : Hid (okP x.k x.o x.d x.s x.i x.t) := okB_yes (HG.out.2 k x hxk).1
        have HP := Lib.hid (progS_snoc xs k x hxk)
        clear hxk
        have hadd := fun w' => run_string_add_sum (P := Try.prog) w' (progS (xs.take k)) (encS x.k x.o x.d x.s x.i x.t) (by
          have := progS_take_size xs k (by have := hx.out; omega)
          have := encS_size x.k x.o x.d x.s x.i x.t
          omega)
        obtain ⟨e0, e1, e2, e3, e4, e5⟩ := ha
        go_wp2_with fail
        refine (l2Bytes_any _ _ _ _ _ _ _ HOK.out).mono ?_
        rintro e w3 ⟨rfl, hb3⟩
        have B3 := Lib.hid (Below.tr B2.out ((below1 wr _).trans (hb3.mono (by simp))))
        clear hb3 e0 e1 e2 e3 e4 e5
        go_wp2
        go_roundw
        case rel => exact ⟨k + 1, by omega, by go_num, str_val HP.out.symm, B3.out⟩
        case measure => simp [intOf]; omega
      · obtain rfl : k = n := by omega
        have HT : Hid (progS (xs.take k) = pbS true xs) := by
          show progS (xs.take k) = progS xs
          rw [List.take_of_length_le (by have := hx.out; omega)]
        go_wp2
        go_ret2
        exact ⟨ret_sb HT.out, B2.out⟩

set_option maxHeartbeats 2000000 in
theorem implProgBytes_any (A : Option Addr) (n cap : Nat) (xs : List Stp) (w : World) (b : Bool) (hb : Hid (b = true ↔ Good xs)) (hl : Hid (Lies w A xs)) (hx : Hid (xs.length = n)) (hn : n ≤ 1048576) :
    Calls Try.prog 11 #[.slice A n cap] w fun e w' => e = .returned (.tuple #[.string (pbS b xs), .bool b]) ∧ Below w.heap.size w w' := by
  go_enter Try.func11, Try.ntmps11
  go_wp2_with fail
  refine (implGood_any _ _ _ xs _ b hb hl hx hn).mono ?_
  rintro e w1 ⟨rfl, hb1⟩
  have B1 := Lib.hid hb1
  clear hb1
  cases b
  · go_wp2
    go_ret2
    exact ⟨rfl, B1.out⟩
  · have HG : Hid (Good xs) := hb.out.1 rfl
    have hn20 : n ≤ 20 := by have := HG.out.1.2; have := hx.out; omega
    go_wp2_with fail
    go_loopw [4, 14] (fun s i wr => ∃ k : Nat, k ≤ n ∧ i = .int .i64 k ∧ s = .string (progS (xs.take k)) ∧ Below w.heap.size w wr) (fun _ i _ => n - (intOf i).toNat)
    case atStart => exact ⟨0, Nat.zero_le _, rfl, rfl, B1.out⟩
    case round =>
      obtain ⟨k, hk, rfl, rfl, hbw⟩ := hrel
      have B2 := Lib.hid hbw
      clear hbw
      by_cases hlt : k < n
      · obtain ⟨x, hxk⟩ : ∃ x, xs[k]? = some x := ⟨_, List.getElem?_eq_getElem (by have := hx.out; omega)⟩
        obtain ⟨b1, off, rfl, hbl, ha⟩ := (hl.out.below B2.out) k x hxk
        have HOK := Lib.hid (HG.out.2 k x hxk).1
        have HP : Hid (progS (xs.take (k + 1)) = progS (xs.take k) ++ sbS x.k x.o x.d x.s x.i x.t) := by
          show progS (xs.take (k + 1)) = progS (xs.take k) ++ sbS x.k x.o x.d x.s x.i x.t
          rw [← sbS_yes HOK.out]
          exact progS_snoc xs k x hxk
        clear hxk
        have hadd := fun w' => run_string_add_sum (P := Try.prog) w' (progS (xs.take k)) (sbS x.k x.o x.d x.s x.i x.t) (by
          have := progS_take_size xs k (by have := hx.out; omega)
          have h8 := encS_size x.k x.o x.d x.s x.i x.t
          rw [sbS_yes HOK.out] at h8
          omega)
        obtain ⟨e0, e1, e2, e3, e4, e5⟩ := ha
        go_wp2_with fail
        refine (stepBytes_any _ _ _ _ _ _ _ _ HOK.out).mono ?_
        rintro e w3 ⟨rfl, hb3⟩
        have B3 := Lib.hid (Below.tr B2.out ((below1 wr _).trans (hb3.mono (by simp))))
        clear hb3 e0 e1 e2 e3 e4 e5
        go_wp2
        go_roundw
        case rel => exact ⟨k + 1, by omega, by go_num, str_val HP.out.symm, B3.out⟩
        case measure => simp [intOf]; omega
      · obtain rfl : k = n := by omega
        have HT : Hid (progS (xs.take k) = pbS true xs) := by
          show progS (xs.take k) = progS xs
          rw [List.take_of_length_le (by have := hx.out; omega)]
        go_wp2
        go_ret2
        exact ⟨ret_sb HT.out, B2.out⟩

set_option maxHeartbeats 2000000 in
theorem lawProgBytes (A : Option Addr) (cap : Nat) (xs : List Stp) (w : World) (hm : xs.length ≤ 9223372036854775807) (hl : Lies w A xs) :
    Calls Try.prog 6 #[.slice A xs.length cap] w fun e w' => e = .returned (.bool true) ∧ Below w.heap.size w w' := by
  obtain ⟨b, hb⟩ := good_bool xs
  have HG := Lib.hid hb
  have HL := Lib.hid hl
  clear hb hl
  obtain ⟨n, hxn⟩ : ∃ n, xs.length = n := ⟨_, rfl⟩
  rw [hxn] at hm ⊢
  have HX := Lib.hid hxn
  clear hxn
  by_cases hbig : 1048576 < n
  · have hs : szF 1048576 n = -1 := szF_big hbig
    go_enter Try.func6, Try.ntmps6
    go_wp2_with (go_at_call 20; refine (szStepS_any _ _ _ _ _ hm (by omega) (by omega)).mono ?_; rintro e w' ⟨rfl, rfl⟩)
    go_ret
    exact ⟨rfl, Below.refl _ _⟩
  · have hs := szF_small hbig
    have hn : n ≤ 1048576 := by omega
    go_enter Try.func6, Try.ntmps6
    go_wp2_with fail
    refine (szStepS_any _ _ _ _ _ hm (by omega) (by omega)).mono ?_
    rintro e w' ⟨rfl, rfl⟩
    go_wp2_with fail
    refine (toStepS_n _ _ _ xs _ HL HX hn).mono ?_
    rintro e w1 ⟨rfl, k1, hb1⟩
    have K1 := Lib.hid k1
    have B1 := Lib.hid hb1
    clear k1 hb1
    go_wp2_with fail
    refine (specProgBytes_any _ _ _ xs _ b HG K1.out.lies HX hn).mono ?_
    rintro e w2 ⟨rfl, hb2⟩
    have B2 := Lib.hid (Below.tr B1.out hb2)
    clear hb2
    go_wp2_with fail
    refine (toStepS_n _ _ _ xs _ (HL.out.below B2.out) HX hn).mono ?_
    rintro e w3 ⟨rfl, k3, hb3⟩
    have K3 := Lib.hid k3
    have B3 := Lib.hid (Below.tr B2.out hb3)
    clear k3 hb3
    go_wp2_with fail
    refine (implProgBytes_any _ _ _ xs _ b HG K3.out.lies HX hn).mono ?_
    rintro e w4 ⟨rfl, hb4⟩
    have K4 := Lib.hid (K3.out.below hb4)
    have B4 := Lib.hid (Below.tr B3.out hb4)
    clear hb4
    go_wp2_with fail
    refine (toStepS_n _ _ _ xs _ (HL.out.below B4.out) HX hn).mono ?_
    rintro e w5 ⟨rfl, k5, hb5⟩
    have K5 := Lib.hid k5
    have K4' := Lib.hid (K4.out.below hb5)
    have B5 := Lib.hid (Below.tr B4.out hb5)
    clear k5 hb5
    go_wp2_with fail
    refine (eqStepS_same _ _ _ _ _ xs _ K4'.out.lies K5.out.lies HX hn).mono ?_
    rintro e w6 ⟨rfl, hb6⟩
    have B6 := Lib.hid (Below.tr B5.out hb6)
    clear hb6
    go_wp2
    go_ret
    exact ⟨rfl, B6.out⟩
end Go.Proofs.Ytbmonndpblnjkaa
