/-
  The walk of the law of Same.
-/
import Derived.Test.YtehedomjfpipkaaSame
namespace Go.Proofs.Ytehedomjfpipkaa
open Go.ChangeShapes Go.WideShapes Go.ChangeAt Go.RowKit

set_option maxRecDepth 100000 in
set_option maxHeartbeats 4000000 in
theorem lawSame (v : Int) (Aa : Option Addr) (capa : Nat) (a : List (List Int)) (Ab : Option Addr) (capb : Nat) (b : List (List Int)) (w : World) (hna : a.length ≤ 9223372036854775807) (hla : LLies w Aa a) (hnb : b.length ≤ 9223372036854775807) (hlb : LLies w Ab b) :
    Calls Try.prog 11 #[.int .i64 v, .slice Aa a.length capa, .slice Ab b.length capb] w fun e w' => e = .returned (.bool true) ∧ Below w.heap.size w w' := by
  obtain ⟨na, hxa⟩ : ∃ n, a.length = n := ⟨_, rfl⟩
  rw [hxa] at hna ⊢
  have HXa := Lib.hid hxa
  have HLa := Lib.hid hla
  clear hxa hla
  obtain ⟨nb, hxb⟩ : ∃ n, b.length = n := ⟨_, rfl⟩
  rw [hxb] at hnb ⊢
  have HXb := Lib.hid hxb
  have HLb := Lib.hid hlb
  clear hxb hlb
  go_enter Try.func11, Try.ntmps11
  go_wp2_with fail
  refine (szIntSS_any _ _ _ a _ 1048576 HLa HXa hna (by omega) (by omega)).mono ?_
  rintro e w' ⟨⟨qa, rfl, hqa⟩, rfl⟩
  by_cases hnega : qa < 0
  · clear hqa
    go_wp2
    go_ret
    exact ⟨rfl, Below.refl _ _⟩
  have hqqa : qa = 1048576 - (na : Int) - (tot a : Int) := by omega
  have hsa : na ≤ 1048576 := by omega
  have hta : tot a ≤ 1048576 := by omega
  have HTa : Hid (tot a ≤ 1048576) := Lib.hid hta
  have hloa : 0 ≤ qa := by omega
  have hhia : qa ≤ 1048576 := by omega
  clear hqa hqqa
  go_wp2_with fail
  refine (szIntSS_any _ _ _ b _ qa HLb HXb hnb (by omega) (by omega)).mono ?_
  rintro e w' ⟨⟨qb, rfl, hqb⟩, rfl⟩
  by_cases hnegb : qb < 0
  · clear hqb
    go_wp2
    go_ret
    exact ⟨rfl, Below.refl _ _⟩
  have hqqb : qb = qa - (nb : Int) - (tot b : Int) := by omega
  have hsb : nb ≤ 1048576 := by omega
  have htb : tot b ≤ 1048576 := by omega
  have HTb : Hid (tot b ≤ 1048576) := Lib.hid htb
  have hlob : 0 ≤ qb := by omega
  have hhib : qb ≤ 1048576 := by omega
  clear hqb hqqb
  obtain ⟨r0, r1, hr⟩ := sameR_any v a b
  have HR := Lib.hid hr
  clear hr
  go_wp2_with fail
  refine (toIntSS_any _ _ _ a _ (HLa.out.below (Below.refl _ _)) HXa hsa HTa).mono ?_
  rintro e w1 ⟨rfl, ⟨vssa, kk⟩, hb⟩
  have S1 := Lib.hid (hb.size)
  have B1 := Lib.hid (Below.tr (Below.refl _ _) hb)
  have Fsa_1 := Lib.hid (kk)
  have Psa : Hid (∀ g, ((.slice (some ⟨w.heap.size, 0, none⟩) na na : Value).ownBlock = some g ∨ blks vssa g) → w.heap.size ≤ g ∧ g < w1.heap.size) := Lib.hid (fun g h => h.elim (fun h => Fsa_1.out.outer.lt g h) (fun h => Fsa_1.out.inner.lt g h))
  clear kk hb
  go_wp2_with fail
  refine (toIntSS_any _ _ _ b _ (HLb.out.below B1.out) HXb hsb HTb).mono ?_
  rintro e w2 ⟨rfl, ⟨vssb, kk⟩, hb⟩
  have S2 := Lib.hid (hb.size)
  have B2 := Lib.hid (Below.tr B1.out hb)
  have Fsa_2 := Lib.hid (Fsa_1.out.below hb)
  clear Fsa_1
  have Fsb_2 := Lib.hid (kk)
  have Psb : Hid (∀ g, ((.slice (some ⟨w1.heap.size, 0, none⟩) nb nb : Value).ownBlock = some g ∨ blks vssb g) → w1.heap.size ≤ g ∧ g < w2.heap.size) := Lib.hid (fun g h => h.elim (fun h => Fsb_2.out.outer.lt g h) (fun h => Fsb_2.out.inner.lt g h))
  clear kk hb
  go_wp2_with fail
  refine (specSame_any v _ _ _ _ _ _ a b _ r0 r1 HR Fsa_2.out.lies Fsa_2.out.lnil Fsb_2.out.lies HXa HXb (Lib.hid (fun h => by cases h)) hsa hsb HTa).mono ?_
  rintro e w3 ⟨rfl, hb⟩
  have S3 := Lib.hid (hb.size)
  have B3 := Lib.hid (Below.tr B2.out hb)
  have Fsa_3 := Lib.hid (Fsa_2.out.below hb)
  clear Fsa_2
  have Fsb_3 := Lib.hid (Fsb_2.out.below hb)
  clear Fsb_2
  clear hb
  clear Fsa_3
  clear Fsb_3
  go_wp2_with fail
  refine (toIntSS_any _ _ _ a _ (HLa.out.below B3.out) HXa hsa HTa).mono ?_
  rintro e w4 ⟨rfl, ⟨vsxa, kk⟩, hb⟩
  have S4 := Lib.hid (hb.size)
  have B4 := Lib.hid (Below.tr B3.out hb)
  have Fxa_4 := Lib.hid (kk)
  have Pxa : Hid (∀ g, ((.slice (some ⟨w3.heap.size, 0, none⟩) na na : Value).ownBlock = some g ∨ blks vsxa g) → w3.heap.size ≤ g ∧ g < w4.heap.size) := Lib.hid (fun g h => h.elim (fun h => Fxa_4.out.outer.lt g h) (fun h => Fxa_4.out.inner.lt g h))
  clear kk hb
  go_wp2_with fail
  refine (toIntSS_any _ _ _ b _ (HLb.out.below B4.out) HXb hsb HTb).mono ?_
  rintro e w5 ⟨rfl, ⟨vsxb, kk⟩, hb⟩
  have S5 := Lib.hid (hb.size)
  have B5 := Lib.hid (Below.tr B4.out hb)
  have Fxa_5 := Lib.hid (Fxa_4.out.below hb)
  clear Fxa_4
  have Fxb_5 := Lib.hid (kk)
  have Pxb : Hid (∀ g, ((.slice (some ⟨w4.heap.size, 0, none⟩) nb nb : Value).ownBlock = some g ∨ blks vsxb g) → w4.heap.size ≤ g ∧ g < w5.heap.size) := Lib.hid (fun g h => h.elim (fun h => Fxb_5.out.outer.lt g h) (fun h => Fxb_5.out.inner.lt g h))
  clear kk hb
  go_wp2_with fail
  refine (implSame_any v _ _ _ _ _ _ a b _ r0 r1 HR Fxa_5.out.lies Fxb_5.out.lies HXa HXb (Lib.hid (fun h => by cases h)) (Lib.hid (fun h => by cases h)) hsa hsb).mono ?_
  rintro e w6 ⟨rfl, hb⟩
  have S6 := Lib.hid (hb.size)
  have B6 := Lib.hid (Below.tr B5.out hb)
  have Fxa_6 := Lib.hid (Fxa_5.out.below hb)
  clear Fxa_5
  have Fxb_6 := Lib.hid (Fxb_5.out.below hb)
  clear Fxb_5
  clear hb
  have hb0 : (r0 != r0) = false := by simp
  have hb1 : (r1 != r1) = false := by simp
  go_wp2_with fail
  refine (toIntSS_any _ _ _ a _ (HLa.out.below B6.out) HXa hsa HTa).mono ?_
  rintro e w7 ⟨rfl, ⟨vsca, kk⟩, hb⟩
  have S7 := Lib.hid (hb.size)
  have B7 := Lib.hid (Below.tr B6.out hb)
  have Fxa_7 := Lib.hid (Fxa_6.out.below hb)
  clear Fxa_6
  have Fxb_7 := Lib.hid (Fxb_6.out.below hb)
  clear Fxb_6
  have Fca_7 := Lib.hid (kk)
  have Pca : Hid (∀ g, ((.slice (some ⟨w6.heap.size, 0, none⟩) na na : Value).ownBlock = some g ∨ blks vsca g) → w6.heap.size ≤ g ∧ g < w7.heap.size) := Lib.hid (fun g h => h.elim (fun h => Fca_7.out.outer.lt g h) (fun h => Fca_7.out.inner.lt g h))
  clear kk hb
  go_wp2_with fail
  refine (eqIntSS_same _ _ _ _ _ a _ Fxa_7.out.lies Fca_7.out.lies HXa (by omega) (Lib.hid (by omega))).mono ?_
  rintro e w8 ⟨rfl, hb⟩
  have S8 := Lib.hid (hb.size)
  have B8 := Lib.hid (Below.tr B7.out hb)
  have Fxa_8 := Lib.hid (Fxa_7.out.below hb)
  clear Fxa_7
  have Fxb_8 := Lib.hid (Fxb_7.out.below hb)
  clear Fxb_7
  have Fca_8 := Lib.hid (Fca_7.out.below hb)
  clear Fca_7
  clear hb
  clear Fca_8
  go_wp2_with fail
  refine (toIntSS_any _ _ _ b _ (HLb.out.below B8.out) HXb hsb HTb).mono ?_
  rintro e w9 ⟨rfl, ⟨vscb, kk⟩, hb⟩
  have S9 := Lib.hid (hb.size)
  have B9 := Lib.hid (Below.tr B8.out hb)
  have Fxa_9 := Lib.hid (Fxa_8.out.below hb)
  clear Fxa_8
  have Fxb_9 := Lib.hid (Fxb_8.out.below hb)
  clear Fxb_8
  have Fcb_9 := Lib.hid (kk)
  have Pcb : Hid (∀ g, ((.slice (some ⟨w8.heap.size, 0, none⟩) nb nb : Value).ownBlock = some g ∨ blks vscb g) → w8.heap.size ≤ g ∧ g < w9.heap.size) := Lib.hid (fun g h => h.elim (fun h => Fcb_9.out.outer.lt g h) (fun h => Fcb_9.out.inner.lt g h))
  clear kk hb
  go_wp2_with fail
  refine (eqIntSS_same _ _ _ _ _ b _ Fxb_9.out.lies Fcb_9.out.lies HXb (by omega) (Lib.hid (by omega))).mono ?_
  rintro e w10 ⟨rfl, hb⟩
  have S10 := Lib.hid (hb.size)
  have B10 := Lib.hid (Below.tr B9.out hb)
  have Fxa_10 := Lib.hid (Fxa_9.out.below hb)
  clear Fxa_9
  have Fxb_10 := Lib.hid (Fxb_9.out.below hb)
  clear Fxb_9
  have Fcb_10 := Lib.hid (Fcb_9.out.below hb)
  clear Fcb_9
  clear hb
  clear Fcb_10
  go_wp2
  go_ret
  exact ⟨rfl, B10.out⟩
end Go.Proofs.Ytehedomjfpipkaa
