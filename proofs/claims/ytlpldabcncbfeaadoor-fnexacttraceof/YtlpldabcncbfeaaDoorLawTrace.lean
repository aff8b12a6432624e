/-
  The walks of the laws of RunProgram, FaultFree and TraceOf.
-/
import Derived.Test.YtlpldabcncbfeaaDoorLawRun
import Derived.Test.YtlpldabcncbfeaaDoorMarks2
namespace Go.Proofs.YtlpldabcncbfeaaDoor
open Go.ChangeShapes Go.WideShapes Go.ChangeAt Go.RowKit

theorem runM_len (xs : List Stp) (ctx : List Int) (k : Nat) : ∀ m : Mch, (runM xs ctx k m).2.2.2.length ≤ k := by
  induction k with
  | zero => intro m; simp [runM]
  | succ k ih =>
    intro m
    unfold runM
    split
    · simp
    · rename_i x _
      split
      · simp
      · split
        · simp
        · have := ih (doM x ctx m).1
          simp only [List.length_cons]
          omega
theorem own_of_blk {w : World} {g n : Nat} {xs : List Stp} (h : Blk w g 48 (cellsOf xs)) (hx : xs.length = n) (hn : n ≤ 1048576) : w.ownsRow g 48 6 (.slice (some ⟨g, 0, none⟩) n n) n (cellsOf xs) := by
  have hl := cellsOf_len xs
  refine ⟨by rw [hl, hx], .inr ⟨g, n, (cellsOf xs).toArray, rfl, Nat.le_refl _, h, Nat.le_refl _, by unfold maxLen; omega, by simp [hl, hx], ?_⟩⟩
  exact List.take_of_length_le (by simp [hl, hx])
theorem runR_len (g : Bool) (xs : List Stp) (ctx : List Int) (F : Int) (hF : F ≤ 100) : (runR g xs ctx F).1.2.2.2.length ≤ 100 := by
  unfold runR
  split
  · have := runM_len xs ctx F.toNat newM
    show (runM xs ctx F.toNat newM).2.2.2.length ≤ 100
    omega
  · simp

set_option maxRecDepth 100000 in
set_option maxHeartbeats 4000000 in
theorem lawTrace (A : Option Addr) (cap : Nat) (xs : List Stp) (D : Option Addr) (dcap : Nat) (ctx : List Int) (w : World) (hm : xs.length ≤ 9223372036854775807) (hl : Lies w A xs) (hm2 : ctx.length ≤ 9223372036854775807) (hl2 : ILies w D ctx) (ht : Op.PowTab w) :
    Calls Tryd.prog 7 #[.slice A xs.length cap, .slice D ctx.length dcap] w fun e w' => e = .returned (.bool true) ∧ Below w.heap.size w w' := by
  obtain ⟨n, hxn⟩ : ∃ n, xs.length = n := ⟨_, rfl⟩
  rw [hxn] at hm ⊢
  have HX := Lib.hid hxn
  obtain ⟨cn, hcn⟩ : ∃ n, ctx.length = n := ⟨_, rfl⟩
  rw [hcn] at hm2 ⊢
  have HCX := Lib.hid hcn
  clear hxn hcn
  obtain ⟨g, hg⟩ := good_bool xs
  have HG := Lib.hid hg
  have HL := Lib.hid hl
  have HD := Lib.hid hl2
  have HT := Lib.hid ht
  clear hg hl hl2 ht
  by_cases hbig2 : 1048576 < cn
  · have hq : (1048576 : Int) < (cn : Int) := by omega
    go_enter Tryd.func7, Tryd.ntmps7
    go_wp2
    go_ret
    exact ⟨rfl, Below.refl _ _⟩
  have hc20 : cn ≤ 1048576 := by omega
  have hq : decide ((1048576 : Int) < (cn : Int)) = false := by simp; omega
  by_cases hbig : 1048576 < n
  · have hs : szF 1048576 n = -1 := szF_big hbig
    go_enter Tryd.func7, Tryd.ntmps7
    go_wp2_with (go_at_call 29; refine (szStepS_any _ _ _ _ _ hm (by omega) (by omega)).mono ?_; rintro e w' ⟨rfl, rfl⟩)
    go_ret
    exact ⟨rfl, Below.refl _ _⟩
  · have hs := szF_small hbig
    have hn : n ≤ 1048576 := by omega
    go_enter Tryd.func7, Tryd.ntmps7
    go_wp2_with fail
    refine (szStepS_any _ _ _ _ _ hm (by omega) (by omega)).mono ?_
    rintro e w' ⟨rfl, rfl⟩
    go_wp2_with fail
    refine (toStepS_n _ _ _ xs _ HL HX hn).mono ?_
    rintro e w1 ⟨rfl, k1, hb1⟩
    have K1 := Lib.hid k1
    have B1 := Lib.hid hb1
    clear k1 hb1
    go_wp2_with fail
    refine (toIntS_any _ _ _ ctx _ (HD.out.below B1.out) HCX hc20).mono ?_
    rintro e w2 ⟨rfl, k2, hb2⟩
    have C2 := Lib.hid k2
    have K2 := Lib.hid (K1.out.below hb2)
    have B2 := Lib.hid (Below.tr B1.out hb2)
    clear k2 hb2 K1
    go_wp2_with fail
    refine (specTrace_any _ _ _ xs _ _ _ ctx g _ HG K2.out.lies HX hn C2.out.ilies HCX hc20).mono ?_
    obtain ⟨q, hQ⟩ : ∃ q, runR g xs ctx 100 = q := ⟨_, rfl⟩
    rw [hQ]
    have HQ := Lib.hid hQ
    have TLE : Hid (q.1.2.2.2.length ≤ 100) := Lib.hid (by rw [← hQ]; exact runR_len g xs ctx 100 (by omega))
    clear hQ
    obtain ⟨⟨r1, r2, r3, l⟩, ok⟩ := q
    simp only at TLE
    have hll : l.length ≤ 100 := TLE.out
    simp only
    rintro e w3 ⟨A0, c0, rfl, ho, hb3⟩
    have O0 := Lib.hid ho
    have F0 := Lib.hid (fun g h => (O0.out.lt g h).2)
    have B3 := Lib.hid (Below.tr B2.out hb3)
    clear ho hb3 K2 C2
    go_wp2_with fail
    refine (toStepS_n _ _ _ xs _ (HL.out.below B3.out) HX hn).mono ?_
    rintro e w4 ⟨rfl, k4, hb4⟩
    have K4 := Lib.hid k4
    have B4 := Lib.hid (Below.tr B3.out hb4)
    have O04 := Lib.hid (own_below O0.out hb4)
    have Z4 := Lib.hid k4.lt
    clear k4 hb4
    go_wp2_with fail
    refine (toIntS_any _ _ _ ctx _ (HD.out.below B4.out) HCX hc20).mono ?_
    rintro e w5 ⟨rfl, k5, hb5⟩
    have C5 := Lib.hid k5
    have K5 := Lib.hid (K4.out.below hb5)
    have O05 := Lib.hid (own_below O04.out hb5)
    have B5 := Lib.hid (Below.tr B4.out hb5)
    have Z5 := Lib.hid k5.lt
    clear k5 hb5 K4 O04
    go_wp2_with fail
    refine (implTrace_any _ _ _ xs _ _ _ ctx g _ HG K5.out.lies HX hn C5.out.ilies HCX hc20 (powTab_below HT.out B5.out)).mono ?_
    rw [HQ.out]
    simp only
    rintro e w6 ⟨A1, c1, rfl, ho, hb6⟩
    have O1 := Lib.hid ho
    have F1 := Lib.hid (fun g h => (O1.out.lt g h).1)
    have C6 := Lib.hid (C5.out.below hb6)
    have K6 := Lib.hid (K5.out.below hb6)
    have O06 := Lib.hid (own_below O05.out hb6)
    have B6 := Lib.hid (Below.tr B5.out hb6)
    clear ho hb6 K5 C5 O05
    have s2 : (r2 != r2) = false := by simp
    have s4 : (ok != ok) = false := by simp
    go_wp2_with fail
    refine (eqIntS_same _ _ _ _ _ l _ (own_ilies O1.out) (own_ilies O06.out) (Lib.hid rfl) (by omega)).mono ?_
    rintro e w7 ⟨rfl, hb7⟩
    have C7 := Lib.hid (C6.out.below hb7)
    have K7 := Lib.hid (K6.out.below hb7)
    have O07 := Lib.hid (own_below O06.out hb7)
    have O17 := Lib.hid (own_below O1.out hb7)
    have B7 := Lib.hid (Below.tr B6.out hb7)
    clear hb7 K6 C6 O06 O1
    go_wp2_with fail
    refine (toStepS_n _ _ _ xs _ (HL.out.below B7.out) HX hn).mono ?_
    rintro e w8 ⟨rfl, k8, hb8⟩
    have K8 := Lib.hid k8
    have K78 := Lib.hid (K7.out.below hb8)
    have C8 := Lib.hid (C7.out.below hb8)
    have O08 := Lib.hid (own_below O07.out hb8)
    have O18 := Lib.hid (own_below O17.out hb8)
    have B8 := Lib.hid (Below.tr B7.out hb8)
    clear k8 hb8 K7 C7 O07 O17
    go_wp2_with fail
    refine (eqStepS_same _ _ _ _ _ xs _ K78.out.lies K8.out.lies HX hn).mono ?_
    rintro e w9 ⟨rfl, hb9⟩
    have K9 := Lib.hid (K78.out.below hb9)
    have C9 := Lib.hid (C8.out.below hb9)
    have O09 := Lib.hid (own_below O08.out hb9)
    have O19 := Lib.hid (own_below O18.out hb9)
    have B9 := Lib.hid (Below.tr B8.out hb9)
    clear hb9 K78 K8 C8 O08 O18
    go_wp2_with fail
    refine (toIntS_any _ _ _ ctx _ (HD.out.below B9.out) HCX hc20).mono ?_
    rintro e w10 ⟨rfl, k10, hb10⟩
    have D10 := Lib.hid k10
    have K10 := Lib.hid (K9.out.below hb10)
    have C10 := Lib.hid (C9.out.below hb10)
    have O010 := Lib.hid (own_below O09.out hb10)
    have O110 := Lib.hid (own_below O19.out hb10)
    have B10 := Lib.hid (Below.tr B9.out hb10)
    clear k10 hb10 K9 C9 O09 O19
    go_wp2_with fail
    refine (eqIntS_same _ _ _ _ _ ctx _ C10.out.ilies D10.out.ilies HCX (by omega)).mono ?_
    rintro e w11 ⟨rfl, hb11⟩
    have K11 := Lib.hid (K10.out.below hb11)
    have C11 := Lib.hid (C10.out.below hb11)
    have O011 := Lib.hid (own_below O010.out hb11)
    have O111 := Lib.hid (own_below O110.out hb11)
    have B11 := Lib.hid (Below.tr B10.out hb11)
    clear hb11 K10 C10 D10 O010 O110
    go_wp2_with fail
    refine (markStepS_any _ _ _ _ _ _ _ (own_of_blk K11.out HX.out hn) (by omega) (by omega)).mono ?_
    rintro e w12 ⟨rfl, -, hg12⟩
    have B12 := Lib.hid (B11.out.grown hg12 B11.out.size (fun k hk => by cases hk; exact B3.out.size))
    have O012 := Lib.hid (kept_of O011.out hg12 (fun g h e => by have h1 := F0.out g h; have h2 := Option.some.inj e; omega))
    have O112 := Lib.hid (kept_of O111.out hg12 (fun g h e => by have h1 := F1.out g h; have h2 := Option.some.inj e; have := Z4.out; have := B5.out.size; have := Z5.out; omega))
    have C12 := Lib.hid (blk_far C11.out hg12 (by have := Z4.out; simp; omega))
    clear hg12 K11 C11 O011 O111
    go_wp2_with fail
    refine (markIntS_any _ _ _ _ ctx _ _ (own_of_vblk C12.out (by simpa using HCX.out) hc20) (by omega) (by omega)).mono ?_
    rintro e w13 ⟨rfl, -, hg13⟩
    have B13 := Lib.hid (B12.out.grown hg13 B12.out.size (fun k hk => by simp [Value.ownBlock] at hk; have := B4.out.size; omega))
    have O013 := Lib.hid (kept_of O012.out hg13 (fun g h e => by have h1 := F0.out g h; simp [Value.ownBlock] at e; have := Z4.out; omega))
    have O113 := Lib.hid (kept_of O112.out hg13 (fun g h e => by have h1 := F1.out g h; simp [Value.ownBlock] at e; have := Z5.out; omega))
    clear hg13 C12 O012 O112
    have hneg : decide ((1 : Int) + (n : Int) * 6 + (cn : Int) < 0) = false := by simp; omega
    go_wp2_with fail
    refine (eqIntS_same _ _ _ _ _ l _ (own_ilies O113.out) (own_ilies O013.out) (Lib.hid rfl) (by omega)).mono ?_
    rintro e w14 ⟨rfl, hb14⟩
    have B14 := Lib.hid (Below.tr B13.out hb14)
    have O014 := Lib.hid (own_below O013.out hb14)
    have O114 := Lib.hid (own_below O113.out hb14)
    clear hb14 O013 O113
    go_wp2_with fail
    refine (markIntS_any _ _ _ _ l _ _ O114 (by omega) (by omega)).mono ?_
    rintro e w15 ⟨rfl, ho, hg15⟩
    have O1m := Lib.hid ho
    have B15 := Lib.hid (B14.out.grown hg15 B14.out.size (fun k hk => by have := F1.out k hk; have := B5.out.size; omega))
    have O015 := Lib.hid (kept_of O014.out hg15 (fun g h e => by have h1 := F0.out g h; have h2 := F1.out g e; have := Z4.out; have := Z5.out; have := B5.out.size; omega))
    clear ho hg15 O014 O114
    have hneg2 : decide ((1 : Int) + (l.length : Int) < 0) = false := by simp; omega
    have heq2 : (((1 : Int) + (l.length : Int)) != ((1 : Int) + (l.length : Int))) = false := by simp
    go_wp2_with fail
    refine (heldIntS_any _ _ _ _ _ (own_ilies O1m.out) (by omega) (by omega)).mono ?_
    rintro e w' ⟨rfl, rfl⟩
    go_wp2_with fail
    refine (toStepS_n _ _ _ xs _ (HL.out.below B15.out) HX hn).mono ?_
    rintro e w16 ⟨rfl, k16, hb16⟩
    have K16 := Lib.hid k16
    have B16 := Lib.hid (Below.tr B15.out hb16)
    have O016 := Lib.hid (own_below O015.out hb16)
    have O1m16 := Lib.hid (own_below O1m.out hb16)
    clear k16 hb16 O015 O1m
    go_wp2_with fail
    refine (toIntS_any _ _ _ ctx _ (HD.out.below B16.out) HCX hc20).mono ?_
    rintro e w17 ⟨rfl, k17, hb17⟩
    have C17 := Lib.hid k17
    have K17 := Lib.hid (K16.out.below hb17)
    have B17 := Lib.hid (Below.tr B16.out hb17)
    have O017 := Lib.hid (own_below O016.out hb17)
    have O1m17 := Lib.hid (own_below O1m16.out hb17)
    clear k17 hb17 K16 O016 O1m16
    go_wp2_with fail
    refine (implTrace_any _ _ _ xs _ _ _ ctx g _ HG K17.out.lies HX hn C17.out.ilies HCX hc20 (powTab_below HT.out B17.out)).mono ?_
    rw [HQ.out]
    simp only
    rintro e w18 ⟨A2, c2, rfl, ho, hb18⟩
    have O2 := Lib.hid ho
    have B18 := Lib.hid (Below.tr B17.out hb18)
    have O018 := Lib.hid (own_below O017.out hb18)
    have O1m18 := Lib.hid (own_below O1m17.out hb18)
    clear ho hb18 O017 O1m17
    go_wp2_with fail
    refine (eqIntS_same _ _ _ _ _ l _ (own_ilies O2.out) (own_ilies O018.out) (Lib.hid rfl) (by omega)).mono ?_
    rintro e w19 ⟨rfl, hb19⟩
    have B19 := Lib.hid (Below.tr B18.out hb19)
    have O1m19 := Lib.hid (own_below O1m18.out hb19)
    clear hb19 O1m18 O018 O2
    go_wp2_with fail
    refine (heldIntS_any _ _ _ _ _ (own_ilies O1m19.out) (by omega) (by omega)).mono ?_
    rintro e w' ⟨rfl, rfl⟩
    go_wp2
    go_ret
    exact ⟨rfl, B19.out⟩
end Go.Proofs.YtlpldabcncbfeaaDoor
