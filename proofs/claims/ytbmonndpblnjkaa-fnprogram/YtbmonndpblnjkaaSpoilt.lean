/-
  The drawing of a spoilt string, and of the string that a reader is given.
-/
import Derived.Test.YtbmonndpblnjkaaDrawProg
import Derived.Test.YtbmonndpblnjkaaRdMath
import Derived.RegionTactic
import Derived.Laws.Slices
namespace Go.Proofs.Ytbmonndpblnjkaa
open Go.ChangeShapes Go.WideShapes Go.ChangeAt Go.RowKit

theorem slice_head (r : ByteArray) (i : Nat) (h : i ≤ r.size) (w : World) : (Instr.slice 9 (.string r) none (some (.int .i64 (i : Int))) none).run Try.prog w = .ok (.string (r.extract 0 i)) w := by
  have := run_slice_string_h (P := Try.prog) (w := w) (t := 9) (s := r) Try.underlying9 .i64 (i : Int) (by omega) (by omega)
  rw [Int.toNat_natCast] at this
  exact this
theorem slice_tail (r : ByteArray) (i : Nat) (h : i ≤ r.size) (w : World) : (Instr.slice 9 (.string r) (some (.int .i64 (i : Int))) none none).run Try.prog w = .ok (.string (r.extract i r.size)) w := by
  have := run_slice_string_l (P := Try.prog) (w := w) (t := 9) (s := r) Try.underlying9 .i64 (i : Int) (by omega) (by omega)
  rw [Int.toNat_natCast] at this
  exact this
theorem grown_drew {a b : World} {row : Option Nat} (h : a.grownBy b row) : a.grownBy b.drew row := ⟨h.os, h.tape, h.output, h.size, h.block⟩
/-- it answers a string of a size up to S -/
def GaveStr (c K S : Nat) (w : World) (e : Ending) (w' : World) : Prop :=
  ∃ r : ByteArray, e = .returned (.string r) ∧ r.size ≤ S ∧ Cur w' c K ∧ w.grownBy w' (some c)

set_option maxRecDepth 100000 in
set_option maxHeartbeats 4000000 in
theorem spoilt_any (c K : Nat) (t wi : ByteArray) (w : World) (h : Hid (Cur w c K)) (hK : K ≤ 700000000000) (ht : t.size ≤ 10000) (hw1 : 1 ≤ wi.size) (hw2 : wi.size ≤ 1000) :
    Calls Try.prog 42 #[.pointer (some ⟨c, 0, none⟩), .string t, .string wi] w (GaveStr c (K + 50) (t.size + 2) w) := by
  obtain ⟨T, hT⟩ : ∃ T, t.size = T := ⟨_, rfl⟩
  have HT := Lib.hid hT
  have hT' : T ≤ 10000 := by omega
  rw [hT]
  clear hT ht
  go_enter Try.func42, Try.ntmps42
  go_wp2_with fail
  refine (pick_any c K _ _ h (by omega) (by omega) (by omega)).mono ?_
  rintro e w1 ⟨n1, ⟨l1, u1⟩, rfl, hc1, hg1⟩
  have C1 := Lib.hid hc1
  have G1 := Lib.hid hg1
  clear hc1 hg1
  obtain ⟨m0, rfl⟩ := Int.eq_ofNat_of_zero_le l1
  go_wp2_with fail
  go_loopw [1, 7] (fun v i wr => ∃ (m : Nat) (r : ByteArray), i = .int .i64 m ∧ m ≤ 2 ∧ v = .string r ∧ r.size + m ≤ T + 2 ∧ Cur wr c (K + 2 + 8 * (2 - m)) ∧ w.grownBy wr (some c)) (fun _ i _ => (intOf i).toNat)
  case atStart => exact ⟨m0, t, rfl, by omega, rfl, by have := HT.out; omega, C1.out.mono (by omega), G1.out⟩
  case round =>
    obtain ⟨m, r, rfl, hm, rfl, hrm, hc, hg⟩ := hrel
    have C2 := Lib.hid hc
    have G2 := Lib.hid hg
    clear hc hg
    obtain ⟨S, hS⟩ : ∃ S, r.size = S := ⟨_, rfl⟩
    by_cases hm0 : 0 < m
    · by_cases hr0 : 0 < S
      · have hSI : (0 : Int) < (S : Int) := by omega
        go_wp2_with fail
        refine (pick_any c (K + 2 + 8 * (2 - m)) _ _ C2 (by omega) (by omega) (by omega)).mono ?_
        rintro e w3 ⟨n3, ⟨l3, u3⟩, rfl, hc3, hg3⟩
        have C3 := Lib.hid hc3
        have G3 := Lib.hid (grownC_trans G2.out hg3)
        clear hc3 hg3
        obtain ⟨i, rfl⟩ := Int.eq_ofNat_of_zero_le l3
        go_wp2_with fail
        refine (pick_any c _ _ _ C3 (by omega) (by omega) (by omega)).mono ?_
        rintro e w4 ⟨n4, ⟨l4, u4⟩, rfl, hc4, hg4⟩
        have C4 := Lib.hid hc4
        have G4 := Lib.hid (grownC_trans G3.out hg4)
        clear hc4 hg4
        obtain ⟨q, rfl⟩ := Int.eq_ofNat_of_zero_le l4
        have hix := index_run wi q (by omega)
        have hconv := conv_new w4 [byteAt wi q] 1 1 rfl
        simp only [List.map_cons, List.map_nil] at hconv
        have hW : (strOfNums [byteAt wi q]).size = 1 := by rw [strOfNums_size]; rfl
        generalize strOfNums [byteAt wi q] = W at hconv hW
        generalize byteAt wi q = bq at hix hconv
        go_wp2_with fail
        refine (pick_any c _ _ _ (C4.out.alloc _) (by omega) (by omega) (by omega)).mono ?_
        rintro e w5 ⟨n5, ⟨l5, u5⟩, rfl, hc5, hg5⟩
        have C5 := Lib.hid hc5
        have G5 := Lib.hid (grownC_trans (grownC_trans G4.out (World.grownBy_alloc w4 _ _)) hg5)
        clear hc5 hg5 hconv hix
        have s1 := slice_head r i (by omega)
        have s2 := slice_tail r i (by omega)
        have s3 : ∀ w, (Instr.slice 9 (.string r) (some (.int .i64 ((i : Int) + 1))) none none).run Try.prog w = .ok (.string (r.extract (i + 1) r.size)) w := fun w => slice_tail r (i + 1) (by omega) w
        have v1 : IntKind.i64.wrap ((i : Int) + 1) = (i : Int) + 1 := IntWalk.i64_in _ (by omega)
        have z1 : (r.extract 0 i).size = i := by rw [extract_size _ _ _ (by omega)]; omega
        have z2 : (r.extract i r.size).size = S - i := by rw [extract_size _ _ _ (Nat.le_refl _)]; omega
        have z3 : (r.extract (i + 1) r.size).size = S - (i + 1) := by rw [extract_size _ _ _ (Nat.le_refl _)]; omega
        generalize r.extract 0 i = E1 at *
        generalize r.extract i r.size = E2 at *
        generalize r.extract (i + 1) r.size = E3 at *
        have a1 := fun w => run_string_add_sum (P := Try.prog) w E1 W (by omega)
        have y1 : (E1 ++ W).size = i + 1 := by rw [ByteArray.size_append]; omega
        generalize hEW : E1 ++ W = EW at *
        have a2 := fun w => run_string_add_sum (P := Try.prog) w EW E2 (by omega)
        have a3 := fun w => run_string_add_sum (P := Try.prog) w EW E3 (by omega)
        have a4 := fun w => run_string_add_sum (P := Try.prog) w E1 E3 (by omega)
        have y2 : (EW ++ E2).size = S + 1 := by rw [ByteArray.size_append]; omega
        have y3 : (EW ++ E3).size = S := by rw [ByteArray.size_append]; omega
        have y4 : (E1 ++ E3).size = S - 1 := by rw [ByteArray.size_append]; omega
        clear hEW
        generalize EW ++ E2 = R2 at *
        generalize EW ++ E3 = R3 at *
        generalize E1 ++ E3 = R4 at *
        have Y2 := Lib.hid y2
        have Y3 := Lib.hid y3
        have Y4 := Lib.hid y4
        clear y1 y2 y3 y4 z1 z2 z3 hW
        have hk : n5 = 0 ∨ n5 = 1 ∨ n5 = 2 := by omega
        clear l5 u5
        rcases hk with rfl | rfl | rfl
        · go_wp2_with fail
          go_region
          all_goals
            go_wp2
            go_roundw
            case rel => exact ⟨m - 1, R2, by go_num, by omega, rfl, by have := Y2.out; omega, (C5.out.drewN _).mono (by omega), grown_drew G5.out⟩
            case measure => simp [intOf]; omega
        · go_wp2_with fail
          go_region
          all_goals
            go_wp2
            go_roundw
            case rel => exact ⟨m - 1, R3, by go_num, by omega, rfl, by have := Y3.out; omega, (C5.out.drewN _).mono (by omega), grown_drew G5.out⟩
            case measure => simp [intOf]; omega
        · go_wp2_with fail
          go_region
          all_goals
            go_wp2
            go_roundw
            case rel => exact ⟨m - 1, R4, by go_num, by omega, rfl, by have := Y4.out; omega, (C5.out.drewN _).mono (by omega), grown_drew G5.out⟩
            case measure => simp [intOf]; omega
      · have hS0 : S = 0 := by omega
        subst hS0
        go_wp2
        go_ret
        exact ⟨r, rfl, by omega, C2.out.mono (by omega), G2.out⟩
    · obtain rfl : m = 0 := by omega
      go_wp2
      go_ret
      exact ⟨r, rfl, by omega, C2.out.mono (by omega), G2.out⟩

theorem Cur.below {w w' : World} {c K : Nat} (h : Cur w c K) (hb : Below w.heap.size w w') : Cur w' c K :=
  h.grown (row := none) ⟨hb.os, hb.tape, hb.output, hb.size, fun k hk _ => hb.block k hk⟩ (fun _ e => by cases e)
theorem grown_of_below {w w' : World} {row : Option Nat} (hb : Below w.heap.size w w') : w.grownBy w' row := ⟨hb.os, hb.tape, hb.output, hb.size, fun k hk _ => hb.block k hk⟩

/-- a drawn program, from the bytes that came in -/
def DrewProg (w : World) (e : Ending) (w' : World) : Prop :=
  ∃ (xs : List Stp) (A : Option Addr) (cap : Nat), e = .returned (.slice A xs.length cap) ∧ (1 ≤ xs.length ∧ xs.length ≤ 20) ∧ w'.ownsRow w.heap.size 36 6 (.slice A xs.length cap) xs.length (cellsOf xs) ∧ Below w.heap.size w w'

set_option maxHeartbeats 1000000 in
theorem drawGood_any (a0 : Option Addr) (len cap : Nat) (w : World) (h : Hid (Bytes w a0 len)) :
    Calls Try.prog 34 #[.slice a0 len cap] w (DrewProg w) := by
  go_enter Try.func34, Try.ntmps34
  go_wp2_with fail
  refine (program_any w.heap.size 0 _ (Cur.new h.out) (by omega)).mono ?_
  rintro e w1 ⟨xs, A, cp, rfl, hl, hp⟩
  have P1 := Lib.hid hp
  clear hp
  go_wp2
  go_ret
  exact ⟨xs, A, cp, rfl, hl, own_base P1.out.2.1 (by simp), below_new P1.out.2.2.1⟩
set_option maxHeartbeats 1000000 in
theorem drawProgramBytes_any (a0 : Option Addr) (len cap : Nat) (w : World) (h : Hid (Bytes w a0 len)) :
    Calls Try.prog 10 #[.slice a0 len cap] w (DrewProg w) := by
  go_enter Try.func10, Try.ntmps10
  go_wp2_with fail
  refine (drawGood_any a0 len cap _ h).mono ?_
  rintro e w1 ⟨xs, A, cp, rfl, hl, hp⟩
  have P1 := Lib.hid hp
  clear hp
  go_wp2
  go_ret
  exact ⟨xs, A, cp, rfl, hl, P1.out⟩
def DrewStr (S : Nat) (w : World) (e : Ending) (w' : World) : Prop := ∃ r : ByteArray, e = .returned (.string r) ∧ r.size ≤ S ∧ Below w.heap.size w w'
theorem pbS_size (b : Bool) (xs : List Stp) (h : xs.length ≤ 20) : (pbS b xs).size ≤ 160 := by
  cases b
  · exact Nat.zero_le _
  · have := progS_size xs
    show (progS xs).size ≤ 160
    omega
set_option maxRecDepth 100000 in
set_option maxHeartbeats 2000000 in
theorem drawRead_any (a0 : Option Addr) (len cap : Nat) (w : World) (h : Hid (Bytes w a0 len)) :
    Calls Try.prog 18 #[.slice a0 len cap] w (DrewStr 200 w) := by
  go_enter Try.func18, Try.ntmps18
  go_wp2_with fail
  refine (program_any w.heap.size 0 _ (Cur.new h.out) (by omega)).mono ?_
  rintro e w1 ⟨xs, A, cp, rfl, hl, hp⟩
  have P1 := Lib.hid hp
  clear hp
  obtain ⟨b, hb⟩ := good_bool xs
  have HG := Lib.hid hb
  clear hb
  go_wp2_with fail
  refine (specProgBytes_any _ _ _ xs _ b HG (own_lies' P1.out.2.1) (Lib.hid rfl) (by omega)).mono ?_
  rintro e w2 ⟨rfl, hb2⟩
  have C2 := Lib.hid (P1.out.1.below hb2)
  have G2 := Lib.hid (grownC_trans P1.out.2.2.1 (grown_of_below hb2))
  clear hb2
  have hsz := pbS_size b xs hl.2
  generalize pbS b xs = t at hsz ⊢
  go_wp2_with fail
  refine (one_any w.heap.size _ _ _ C2 (by omega) (by omega) (by omega)).mono ?_
  rintro e w3 ⟨b3, rfl, hc3, hg3⟩
  have C3 := Lib.hid hc3
  have G3 := Lib.hid (grownC_trans G2.out hg3)
  clear hc3 hg3
  cases b3
  · go_wp2
    go_ret
    exact ⟨t, rfl, by omega, below_new G3.out⟩
  · go_wp2_with fail
    refine (spoilt_any w.heap.size _ t _ _ C3 (by omega) (by omega) (by decide) (by decide)).mono ?_
    rintro e w4 ⟨r, rfl, hr, hc4, hg4⟩
    have G4 := Lib.hid (grownC_trans G3.out hg4)
    clear hc4 hg4
    go_wp2
    go_ret
    exact ⟨r, rfl, by omega, below_new G4.out⟩
end Go.Proofs.Ytbmonndpblnjkaa
