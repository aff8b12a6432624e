/-
  The walk of the law of Ahead.
-/
import Derived.Test.YtilnegmjnbffhaaSpOne
namespace Go.Proofs.Ytilnegmjnbffhaa
open Go.ChangeShapes Go.WideShapes Go.ChangeAt Go.RowKit

set_option maxRecDepth 100000 in
set_option maxHeartbeats 4000000 in
theorem lawAhead11 (A : Option Addr) (cap : Nat) (xs : List Stp) (at_ : Int) (w : World) (hm : xs.length ≤ 9223372036854775807) (hl : Lies w A xs) :
    Calls Try.prog 6 #[.slice A xs.length cap, .int .i64 at_] w fun e w' => e = .returned (.bool true) ∧ Below w.heap.size w w' := by
  obtain ⟨n, hxn⟩ : ∃ n, xs.length = n := ⟨_, rfl⟩
  rw [hxn] at hm ⊢
  have HX := Lib.hid hxn
  clear hxn
  obtain ⟨b, l, hr⟩ := two_res (There xs n at_) (aheadR xs at_)
  have HR := Lib.hid hr
  clear hr
  have HL := Lib.hid hl
  clear hl
  by_cases hbig : 1048576 < n
  · have hs : szF 1048576 n = -1 := szF_big hbig
    go_enter Try.func6, Try.ntmps6
    go_wp2_with (go_at_call 25; refine (szStepS_any _ _ _ _ _ hm (by omega) (by omega)).mono ?_; rintro e w' ⟨rfl, rfl⟩)
    go_ret
    exact ⟨rfl, Below.refl _ _⟩
  · have hs := szF_small hbig
    have hn : n ≤ 1048576 := by omega
    have hll : l.length ≤ 30 := HR.out.len (fun g => by unfold aheadR; have := ahead_len (edg (ktOf xs)) xs.length at_.toNat; have := g.1.1; omega)
    go_enter Try.func6, Try.ntmps6
    go_wp2_with fail
    refine (szStepS_any _ _ _ _ _ hm (by omega) (by omega)).mono ?_
    rintro e w' ⟨rfl, rfl⟩
    go_wp2_with fail
    refine (toStepS_n _ _ _ xs _ HL HX hn).mono ?_
    rintro e w1 ⟨rfl, k1, hb1⟩
    have K1 := Lib.hid k1
    have B1 := Lib.hid hb1
    clear k1 hb1
    go_wp2_with fail
    refine (specAhead_any _ _ _ at_ xs _ b l HR K1.out.lies HX hn).mono ?_
    rintro e w2 ⟨A0, c0, rfl, ho, hb2⟩
    have O0 := Lib.hid ho
    have B2 := Lib.hid (Below.tr B1.out hb2)
    clear ho hb2
    have F0 := Lib.hid (fun g h => (O0.out.lt g h).2)
    go_wp2_with fail
    refine (toStepS_n _ _ _ xs _ (HL.out.below B2.out) HX hn).mono ?_
    rintro e w3 ⟨rfl, k3, hb3⟩
    have K3 := Lib.hid k3
    have B3 := Lib.hid (Below.tr B2.out hb3)
    have O03 := Lib.hid (own_below O0.out hb3)
    have Z3 := Lib.hid k3.lt
    clear k3 hb3 O0
    go_wp2_with fail
    refine (implAhead_any _ _ _ at_ xs _ b l HR K3.out.lies HX hn).mono ?_
    rintro e w4 ⟨A1, c1, rfl, ho, hb4⟩
    have O1 := Lib.hid ho
    have B4 := Lib.hid (Below.tr B3.out hb4)
    have O04 := Lib.hid (own_below O03.out hb4)
    have K4 := Lib.hid (K3.out.below hb4)
    have F1 := Lib.hid (fun g h => (O1.out.lt g h).1)
    clear ho hb4 O03 K3
    go_wp2_with fail
    refine (eqIntS_same _ _ _ _ _ l _ (own_ilies O1.out) (own_ilies O04.out) (Lib.hid rfl) (by omega)).mono ?_
    rintro e w5 ⟨rfl, hb5⟩
    have B5 := Lib.hid (Below.tr B4.out hb5)
    have O05 := Lib.hid (own_below O04.out hb5)
    have O15 := Lib.hid (own_below O1.out hb5)
    have K5 := Lib.hid (K4.out.below hb5)
    clear hb5 O04 O1 K4
    have hbb : (b != b) = false := by simp
    go_wp2_with fail
    refine (toStepS_n _ _ _ xs _ (HL.out.below B5.out) HX hn).mono ?_
    rintro e w6 ⟨rfl, k6, hb6⟩
    have K6 := Lib.hid k6
    have B6 := Lib.hid (Below.tr B5.out hb6)
    have O06 := Lib.hid (own_below O05.out hb6)
    have O16 := Lib.hid (own_below O15.out hb6)
    have K36 := Lib.hid (K5.out.below hb6)
    clear k6 hb6 O05 O15 K5
    go_wp2_with fail
    refine (eqStepS_same _ _ _ _ _ xs _ K36.out.lies K6.out.lies HX hn).mono ?_
    rintro e w7 ⟨rfl, hb7⟩
    have B7 := Lib.hid (Below.tr B6.out hb7)
    have O07 := Lib.hid (own_below O06.out hb7)
    have O17 := Lib.hid (own_below O16.out hb7)
    have K7 := Lib.hid (K36.out.below hb7)
    clear hb7 O06 O16 K36 K6
    go_wp2_with fail
    refine (markStepS_any _ _ _ _ _ _ _ (own_of_blk K7.out HX.out hn) (by omega) (by omega)).mono ?_
    rintro e w8 ⟨rfl, -, hg8⟩
    have B8 := Lib.hid (B7.out.grown hg8 B7.out.size (fun k hk => by cases hk; exact B2.out.size))
    have O08 := Lib.hid (kept_of O07.out hg8 (fun g h e => by have h1 := F0.out g h; have h2 := Option.some.inj e; omega))
    have O18 := Lib.hid (kept_of O17.out hg8 (fun g h e => by have h1 := F1.out g h; have h2 := Option.some.inj e; have := Z3.out; omega))
    clear hg8 O07 O17 K7
    have hneg : decide ((1 : Int) + (n : Int) * 6 < 0) = false := by simp; omega
    go_wp2_with fail
    refine (eqIntS_same _ _ _ _ _ l _ (own_ilies O18.out) (own_ilies O08.out) (Lib.hid rfl) (by omega)).mono ?_
    rintro e w9 ⟨rfl, hb9⟩
    have B9 := Lib.hid (Below.tr B8.out hb9)
    have O09 := Lib.hid (own_below O08.out hb9)
    have O19 := Lib.hid (own_below O18.out hb9)
    clear hb9 O08 O18
    go_wp2_with fail
    refine (markIntS_any _ _ _ _ l _ _ O19 (by omega) (by omega)).mono ?_
    rintro e w10 ⟨rfl, ho, hg10⟩
    have O1m := Lib.hid ho
    have B10 := Lib.hid (B9.out.grown hg10 B9.out.size (fun k hk => by have := F1.out k hk; have := B3.out.size; omega))
    have O010 := Lib.hid (kept_of O09.out hg10 (fun g h e => by have h1 := F0.out g h; have h2 := F1.out g e; have := Z3.out; omega))
    clear ho hg10 O09 O19
    have hneg2 : decide ((1 : Int) + (l.length : Int) < 0) = false := by simp; omega
    have heq2 : (((1 : Int) + (l.length : Int)) != ((1 : Int) + (l.length : Int))) = false := by simp
    go_wp2_with fail
    refine (heldIntS_any _ _ _ _ _ (own_ilies O1m.out) (by omega) (by omega)).mono ?_
    rintro e w' ⟨rfl, rfl⟩
    go_wp2_with fail
    refine (toStepS_n _ _ _ xs _ (HL.out.below B10.out) HX hn).mono ?_
    rintro e w11 ⟨rfl, k11, hb11⟩
    have K11 := Lib.hid k11
    have B11 := Lib.hid (Below.tr B10.out hb11)
    have O011 := Lib.hid (own_below O010.out hb11)
    have O1m11 := Lib.hid (own_below O1m.out hb11)
    clear k11 hb11 O010 O1m
    go_wp2_with fail
    refine (implAhead_any _ _ _ at_ xs _ b l HR K11.out.lies HX hn).mono ?_
    rintro e w12 ⟨A2, c2, rfl, ho, hb12⟩
    have O2 := Lib.hid ho
    have B12 := Lib.hid (Below.tr B11.out hb12)
    have O012 := Lib.hid (own_below O011.out hb12)
    have O1m12 := Lib.hid (own_below O1m11.out hb12)
    clear ho hb12 O011 O1m11
    go_wp2_with fail
    refine (eqIntS_same _ _ _ _ _ l _ (own_ilies O2.out) (own_ilies O012.out) (Lib.hid rfl) (by omega)).mono ?_
    rintro e w13 ⟨rfl, hb13⟩
    have B13 := Lib.hid (Below.tr B12.out hb13)
    have O1m13 := Lib.hid (own_below O1m12.out hb13)
    clear hb13 O1m12 O012 O2
    go_wp2_with fail
    refine (heldIntS_any _ _ _ _ _ (own_ilies O1m13.out) (by omega) (by omega)).mono ?_
    rintro e w' ⟨rfl, rfl⟩
    go_wp2
    go_ret
    exact ⟨rfl, B13.out⟩
end Go.Proofs.Ytilnegmjnbffhaa
