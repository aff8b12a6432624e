/-
  ProofOf and RefuteBy, the program's and the model's.
-/
import Derived.Test.YtkkoeeoalkjhoaaChk2
namespace Go.Proofs.Ytkkoeeoalkjhoaa
open Go.ChangeShapes Go.WideShapes Go.ChangeAt Go.RowKit

/-- it answers a list of lists of its own, and a bool -/
def GaveSB (w : World) (R : List (List Int)) (b : Bool) (e : Ending) (w' : World) : Prop :=
  ∃ A c vs, e = .returned (.tuple #[.slice A R.length c, .bool b]) ∧ OwnSS w' w.heap.size (.slice A R.length c) vs R ∧ Below w.heap.size w w'
theorem sb_no {w w' : World} {R : List (List Int)} {b : Bool} (h1 : R = []) (h2 : b = false) (hb : Below w.heap.size w w') : GaveSB w R b (.returned (.tuple #[.slice none 0 0, .bool false])) w' := by
  subst h1 h2
  exact ⟨none, 0, [], rfl, OwnSS.nil _ _, hb⟩
theorem PfR.of {v : Int} {L R : List (List Int)} {s : Bool} {M : List Bool} {ok0 : Bool} (h : SolR v L s M R ok0) : PfR v L (if (ok0 && !s) then R else []) (ok0 && !s) := ⟨s, M, R, ok0, h, rfl, rfl⟩
set_option maxRecDepth 100000 in
set_option maxHeartbeats 2000000 in
theorem implPf_any (v : Int) (A : Option Addr) (n cap : Nat) (L : List (List Int)) (w : World) (r : List (List Int)) (ok : Bool) (hr : Hid (PfR v L r ok)) (hl : Hid (LLies w A L)) (HX : Hid (L.length = n)) (HN : Hid (A = none → n = 0 ∧ cap = 0)) (hn : n ≤ 9223372036854775807) :
    Calls Try.prog 19 #[.int .i64 v, .slice A n cap] w (GaveSB w r ok) := by
  obtain ⟨s, M, R, ok0, h1, h2, h3⟩ := hr.out
  have SR := Lib.hid h1
  have EO := Lib.hid h2
  have ER := Lib.hid h3
  clear h1 h2 h3
  go_enter Try.func19, Try.ntmps19
  go_wp2_with fail
  refine (implSolve_any v _ _ _ L _ s M R ok0 SR hl HX HN hn).mono ?_
  rintro e w1 ⟨A1, c1, A2, c2, vs2, rfl, h1, h2, h3, h4⟩
  have O2 := Lib.hid h2
  have B1 := Lib.hid h4
  clear h1 h2 h3 h4
  cases ok0
  · go_wp2
    go_ret2
    exact sb_no (by rw [ER.out, EO.out]; rfl) EO.out B1.out
  · cases s
    · have E : Hid (ok = true ∧ r = R) := Lib.hid (by have h := EO.out; have h2 := ER.out; rw [h] at h2; exact ⟨h, h2⟩)
      go_wp2
      go_ret2
      obtain ⟨rfl, rfl⟩ := E.out
      exact ⟨A2, c2, vs2, rfl, O2.out, B1.out⟩
    · go_wp2
      go_ret2
      exact sb_no (by rw [ER.out, EO.out]; rfl) EO.out B1.out
set_option maxRecDepth 100000 in
set_option maxHeartbeats 2000000 in
theorem specPf_any (v : Int) (A : Option Addr) (n cap : Nat) (L : List (List Int)) (w : World) (r : List (List Int)) (ok : Bool) (hr : Hid (PfR v L r ok)) (hl : Hid (LLies w A L)) (hlN : Hid (LNil w A L)) (HX : Hid (L.length = n)) (hn : n ≤ 9223372036854775807) :
    Calls Try.prog 20 #[.int .i64 v, .slice A n cap] w (GaveSB w r ok) := by
  obtain ⟨s, M, R, ok0, h1, h2, h3⟩ := hr.out
  have SR := Lib.hid h1
  have EO := Lib.hid h2
  have ER := Lib.hid h3
  clear h1 h2 h3
  go_enter Try.func20, Try.ntmps20
  go_wp2_with fail
  refine (specSolve_any v _ _ _ L _ s M R ok0 SR hl hlN HX hn).mono ?_
  rintro e w1 ⟨A1, c1, A2, c2, vs2, rfl, h1, h2, h3, h4⟩
  have O2 := Lib.hid h2
  have B1 := Lib.hid h4
  clear h1 h2 h3 h4
  cases ok0
  · go_wp2
    go_ret2
    exact sb_no (by rw [ER.out, EO.out]; rfl) EO.out B1.out
  · cases s
    · have E : Hid (ok = true ∧ r = R) := Lib.hid (by have h := EO.out; have h2 := ER.out; rw [h] at h2; exact ⟨h, h2⟩)
      go_wp2
      go_ret2
      obtain ⟨rfl, rfl⟩ := E.out
      exact ⟨A2, c2, vs2, rfl, O2.out, B1.out⟩
    · go_wp2
      go_ret2
      exact sb_no (by rw [ER.out, EO.out]; rfl) EO.out B1.out
set_option maxRecDepth 100000 in
set_option maxHeartbeats 2000000 in
theorem implRef_any (v : Int) (A : Option Addr) (n cap : Nat) (L : List (List Int)) (w : World) (r ok : Bool) (hr : Hid (RefR v L r ok)) (hl : Hid (LLies w A L)) (HX : Hid (L.length = n)) (HN : Hid (A = none → n = 0 ∧ cap = 0)) (hn : n ≤ 9223372036854775807) :
    Calls Try.prog 17 #[.int .i64 v, .slice A n cap] w fun e w' => e = .returned (.tuple #[.bool r, .bool ok]) ∧ Below w.heap.size w w' := by
  obtain ⟨s, M, R, h1, h2⟩ := hr.out
  have SR := Lib.hid h1
  have ER := Lib.hid h2
  clear h1 h2
  go_enter Try.func17, Try.ntmps17
  go_wp2_with fail
  refine (implSolve_any v _ _ _ L _ s M R ok SR hl HX HN hn).mono ?_
  rintro e w1 ⟨A1, c1, A2, c2, vs2, rfl, h1, h2, h3, h4⟩
  have O2 := Lib.hid h2
  have B1 := Lib.hid h4
  have L1 := Lib.hid (hl.out.below h4)
  clear h1 h2 h3 h4
  cases ok
  · go_wp2
    go_ret2
    exact ⟨ret_bb ER.out.symm rfl, B1.out⟩
  · cases s
    · have hR : R.length ≤ 300 := SR.out.small.2.1
      have P1 := Lib.hid O2.out.lies
      have hck := SR.out.check.2
      obtain ⟨m, hm⟩ : ∃ m, R.length = m := ⟨_, rfl⟩
      rw [hm] at hR hck ⊢
      have HR := Lib.hid hm
      have CK := Lib.hid hck
      clear hm hck
      go_wp2_with fail
      refine (implCheck_any v _ _ _ _ _ _ L R _ true m true CK L1 P1 HX HR HN hn (by omega)).mono ?_
      rintro e w2 ⟨rfl, hb2⟩
      have B2 := Lib.hid (Below.tr B1.out hb2)
      clear hb2
      go_wp2
      go_ret2
      exact ⟨ret_bb ER.out.symm rfl, B2.out⟩
    · go_wp2
      go_ret2
      exact ⟨ret_bb ER.out.symm rfl, B1.out⟩
set_option maxRecDepth 100000 in
set_option maxHeartbeats 2000000 in
theorem specRef_any (v : Int) (A : Option Addr) (n cap : Nat) (L : List (List Int)) (w : World) (r ok : Bool) (hr : Hid (RefR v L r ok)) (hl : Hid (LLies w A L)) (hlN : Hid (LNil w A L)) (HX : Hid (L.length = n)) (hn : n ≤ 9223372036854775807) :
    Calls Try.prog 18 #[.int .i64 v, .slice A n cap] w fun e w' => e = .returned (.tuple #[.bool r, .bool ok]) ∧ Below w.heap.size w w' := by
  obtain ⟨i0, hi0, hz0, hz1, hz2⟩ := info_parts info_bool
  obtain ⟨s, M, R, h1, h2⟩ := hr.out
  have SR := Lib.hid h1
  have ER := Lib.hid h2
  clear h1 h2
  go_enter Try.func18, Try.ntmps18
  go_wp2_with fail
  refine (specSolve_any v _ _ _ L _ s M R ok SR hl hlN HX hn).mono ?_
  rintro e w1 ⟨A1, c1, A2, c2, vs2, rfl, h1, h2, h3, h4⟩
  have O2 := Lib.hid h2
  have B1 := Lib.hid h4
  have L1 := Lib.hid (hl.out.below h4)
  have N1 := Lib.hid (hlN.out.below hl.out h4)
  clear h1 h2 h3 h4
  cases ok
  · go_wp2
    go_ret2
    exact ⟨ret_bb ER.out.symm rfl, B1.out⟩
  · cases s
    · obtain ⟨hg, hck⟩ := SR.out.check
      have CK : Hid (wrongF L R (zerosB R) = R.length ∧ endsB R = true) := Lib.hid ⟨(hck.yes hg (proofB_of SR.out.small.2.1 SR.out.small.2.2.2)).1.symm, (hck.acc rfl).2.2.2.1⟩
      have hR : R.length ≤ 300 := SR.out.small.2.1
      have hv := goodB_v hg
      have hv2 : v ≤ 12 := hv.2
      have hn6 : n ≤ 60 := by have := goodB_len hg; have := HX.out; omega
      have HL := Lib.hid (goodB_cl hg)
      have HP := Lib.hid SR.out.small.2.2.2
      have P1 := Lib.hid O2.out.lies
      clear hg hck hv
      obtain ⟨m, hm⟩ : ∃ m, R.length = m := ⟨_, rfl⟩
      rw [hm] at hR ⊢
      have HY := Lib.hid hm
      have HD : Hid ((zerosB R).length = m) := Lib.hid (by unfold zerosB; rw [List.length_replicate]; exact hm)
      clear hm
      go_wp2_with (at_make; (refine wpList_make_full _ rfl _ _ 67 rfl w1.heap.size 4 i0 _ 1 Try.underlying67 hi0 hz0 hz1 _ _ _ _ m rfl rfl (by omega) (by omega) (by rw [hz2]; omega) (by unfold maxLen; omega) (Nat.le_refl _) ?_; intro w2 hown1 hg1; have DZ := Lib.hid (made_zeros HY.out hown1).blies; have BB := (Below.refl w1.heap.size w1).grown hg1 (Nat.le_refl _) (by simp); have L2 := Lib.hid (L1.out.below BB); have N2 := Lib.hid (N1.out.below L1.out BB); have P2 := Lib.hid (P1.out.below BB); have B2 := Lib.hid (Below.tr B1.out BB); clear hown1 hg1 BB))
      refine (l6Check_any v _ _ _ _ _ _ _ _ L R (zerosB R) _ L2 N2 P2 DZ HX HY HD hn6 hR hv2 HL HP).mono ?_
      rintro e w3 ⟨rfl, hb3⟩
      have B3 := Lib.hid (Below.tr B2.out hb3)
      clear hb3
      go_wp2
      go_ret2
      exact ⟨ret_bb (by rw [CK.out.1, CK.out.2, HY.out, ER.out]; simp) rfl, B3.out⟩
    · go_wp2
      go_ret2
      exact ⟨ret_bb ER.out.symm rfl, B1.out⟩
end Go.Proofs.Ytkkoeeoalkjhoaa
