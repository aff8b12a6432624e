/-
  The program's DoStep.
-/
import Derived.Test.YtilnegmjnbffhaaDoorCopyM
namespace Go.Proofs.YtilnegmjnbffhaaDoor
open Go.ChangeShapes Go.WideShapes Go.ChangeAt Go.RowKit

theorem lies_in {w : World} {A : Option Addr} {l : List Int} (h : ILies w A l) (hl : 0 < l.length) {b off : Nat} (hA : A = some ⟨b, off, none⟩) : b < w.heap.size := by
  obtain ⟨b', off', hA', hlt, _⟩ := h 0 l[0] (List.getElem?_eq_getElem hl)
  rw [hA] at hA'
  injection hA' with e
  injection e with e1 _ _
  subst e1
  exact hlt
theorem blies_in {w : World} {A : Option Addr} {l : List Bool} (h : BLies w A l) (hl : 0 < l.length) {b off : Nat} (hA : A = some ⟨b, off, none⟩) : b < w.heap.size := by
  obtain ⟨b', off', hA', hlt, _⟩ := h 0 l[0] (List.getElem?_eq_getElem hl)
  rw [hA] at hA'
  injection hA' with e
  injection e with e1 _ _
  subst e1
  exact hlt
/-- what DoStep answers where its arguments are not valid -/
def GaveNo (w : World) (e : Ending) (w' : World) : Prop :=
  e = .returned (.tuple #[.agg #[.int .i64 0, .slice none 0 0, .slice none 0 0, .slice none 0 0], .int .i64 0, .bool false, .bool false]) ∧ Below w.heap.size w w'
/-- .. and where they are -/
def GaveStep (w : World) (r : Mch × Int × Bool) (e : Ending) (w' : World) : Prop :=
  (r.2.1 = 0 ∧ ∃ g1 g2 g3, e = .returned (.tuple #[.agg #[.int .i64 r.1.a, .slice (some ⟨g1, 0, none⟩) 6 6, .slice (some ⟨g2, 0, none⟩) 16 16, .slice (some ⟨g3, 0, none⟩) 16 16], .int .i64 0, .bool r.2.2, .bool true]) ∧ MBlk w' g1 g2 g3 r.1 ∧ (w.heap.size ≤ g1 ∧ w.heap.size ≤ g2 ∧ w.heap.size ≤ g3) ∧ Below w.heap.size w w') ∨
  (r.2.1 ≠ 0 ∧ e = .returned (.tuple #[.agg #[.int .i64 0, .slice none 0 0, .slice none 0 0, .slice none 0 0], .int .i64 r.2.1, .bool false, .bool true]) ∧ Below w.heap.size w w')

set_option maxRecDepth 100000 in
set_option maxHeartbeats 4000000 in
theorem implDoStep_ok (P : Option Addr) (n cap : Nat) (xs : List Stp) (C : Option Addr) (cn cc : Nat) (ctx : List Int) (at_ : Nat) (A1 A2 A3 : Option Addr) (c1 c2 c3 : Nat) (m : Mch) (x : Stp) (w : World)
    (HG : Hid (Good xs)) (hl : Hid (Lies w P xs)) (HX : Hid (xs.length = n)) (hn : n ≤ 1048576) (HC : Hid (ctxB ctx = true)) (hcl : Hid (ILies w C ctx)) (HCX : Hid (ctx.length = cn)) (hcn : cn ≤ 1048576)
    (HM : Hid (GoodM m)) (hma : Hid (m.a = at_)) (hml : Hid (MLies w A1 A2 A3 m)) (hat : at_ < n) (hx : Hid (xs[at_]? = some x)) (HT : Hid (Op.PowTab w)) :
    Calls Tryd.prog 39 #[.slice P n cap, .slice C cn cc, .agg #[.int .i64 at_, .slice A1 6 c1, .slice A2 16 c2, .slice A3 16 c3]] w (GaveStep w (doM x ctx m)) := by
  have LE : Hid (Lens m 6 16 16) := Lib.hid ⟨HM.out.r, HM.out.c, HM.out.s⟩
  have N20 : n ≤ 20 := by have := HG.out.1.2; rw [HX.out] at this; exact this
  have OK : Hid (okP x.k x.o x.d x.s x.i x.t) := Lib.hid (okB_yes (HG.out.2 at_ x hx.out).1)
  have C8 : Hid (ctx.length = 8) := Lib.hid (by have := HC.out; simp [ctxB] at this; exact this.1)
  have B0 := Lib.hid (below2 w (.cells #[.int .i64 at_, .slice A1 6 c1, .slice A2 16 c2, .slice A3 16 c3] 73) (.cells #[.int .i64 0, .slice none 0 0, .slice none 0 0, .slice none 0 0] 73))
  have KA : Hid (Blk ((w.alloc (.cells #[.int .i64 at_, .slice A1 6 c1, .slice A2 16 c2, .slice A3 16 c3] 73)).alloc (.cells #[.int .i64 0, .slice none 0 0, .slice none 0 0, .slice none 0 0] 73)) w.heap.size 73 [.int .i64 at_, .slice A1 6 c1, .slice A2 16 c2, .slice A3 16 c3]) := Lib.hid (n20 w _ _)
  have KR : Hid (Blk ((w.alloc (.cells #[.int .i64 at_, .slice A1 6 c1, .slice A2 16 c2, .slice A3 16 c3] 73)).alloc (.cells #[.int .i64 0, .slice none 0 0, .slice none 0 0, .slice none 0 0] 73)) (w.heap.size + 1) 73 [.int .i64 0, .slice none 0 0, .slice none 0 0, .slice none 0 0]) := Lib.hid (n21 w _ _)
  go_enter Tryd.func39, Tryd.ntmps39
  go_wp2_with fail
  generalize (w.alloc (.cells #[.int .i64 at_, .slice A1 6 c1, .slice A2 16 c2, .slice A3 16 c3] 73)).alloc (.cells #[.int .i64 0, .slice none 0 0, .slice none 0 0, .slice none 0 0] 73) = w0 at B0 KA KR ⊢
  refine (implGood_any _ _ _ xs _ true (Lib.hid ⟨fun _ => HG.out, fun _ => rfl⟩) (hl.out.below B0.out) HX hn).mono ?_
  rintro e w1 ⟨rfl, hb1⟩
  have B1 := Lib.hid (Below.tr B0.out hb1)
  have KA1 := Lib.hid (KA.out.below hb1)
  have KR1 := Lib.hid (KR.out.below hb1)
  clear hb1 B0 KA KR
  go_wp2_with fail
  refine (isContext_any _ _ _ ctx _ (hcl.out.below B1.out) HCX hcn).mono ?_
  rintro e w2 ⟨rfl, hb2⟩
  rw [HC.out]
  have B2 := Lib.hid (Below.tr B1.out hb2)
  have KA2 := Lib.hid (KA1.out.below hb2)
  have KR2 := Lib.hid (KR1.out.below hb2)
  clear hb2 B1 KA1 KR1
  have x0 : w2.cell? ⟨w.heap.size, 0, none⟩ = some (.int .i64 at_) := KA2.out.there rfl
  have x1 : w2.cell? ⟨w.heap.size, 1, none⟩ = some (.slice A1 6 c1) := KA2.out.there rfl
  have x2 : w2.cell? ⟨w.heap.size, 2, none⟩ = some (.slice A2 16 c2) := KA2.out.there rfl
  have x3 : w2.cell? ⟨w.heap.size, 3, none⟩ = some (.slice A3 16 c3) := KA2.out.there rfl
  go_wp2_with fail
  refine (implGoodM_any at_ _ _ _ _ _ _ _ _ _ m _ hma.out (hml.out.below B2.out) LE (by omega) (by omega) (by omega)).mono ?_
  rintro e w3 ⟨rfl, hb3⟩
  rw [(goodM_iff m).2 HM.out]
  have B3 := Lib.hid (Below.tr B2.out hb3)
  have KA3 := Lib.hid (KA2.out.below hb3)
  have KR3 := Lib.hid (KR2.out.below hb3)
  clear hb3 B2 KA2 KR2 x0 x1 x2 x3
  have x0 : w3.cell? ⟨w.heap.size, 0, none⟩ = some (.int .i64 at_) := KA3.out.there rfl
  have x1 : w3.cell? ⟨w.heap.size, 1, none⟩ = some (.slice A1 6 c1) := KA3.out.there rfl
  have x2 : w3.cell? ⟨w.heap.size, 2, none⟩ = some (.slice A2 16 c2) := KA3.out.there rfl
  have x3 : w3.cell? ⟨w.heap.size, 3, none⟩ = some (.slice A3 16 c3) := KA3.out.there rfl
  have hlt : decide ((n : Int) ≤ (at_ : Int)) = false := by simp; omega
  go_wp2_with fail
  refine (copyM_any at_ A1 A2 A3 c1 c2 c3 m _ (hml.out.below B3.out) LE (Lib.hid (fun b off h => by
    rcases h with h | h | h
    · exact lies_in (hml.out.below B3.out).1 (by rw [HM.out.r]; omega) h
    · exact lies_in (hml.out.below B3.out).2.1 (by rw [HM.out.c]; omega) h
    · exact blies_in (hml.out.below B3.out).2.2 (by rw [HM.out.s]; omega) h))).mono ?_
  rintro e w4 ⟨g1, g2, g3, rfl, hm4, hge4, hb4⟩
  have B4 := Lib.hid (Below.tr B3.out hb4)
  have KA4 := Lib.hid (KA3.out.below hb4)
  have KR4 := Lib.hid (KR3.out.below hb4)
  have M4 := Lib.hid hm4
  have G4 : Hid (w.heap.size + 1 < g1 ∧ w.heap.size + 1 < g2 ∧ w.heap.size + 1 < g3) := Lib.hid (by have := KR3.out.lt; omega)
  clear hb4 hm4 hge4 B3 KA3 KR3 x0 x1 x2 x3
  obtain ⟨pb, off, rfl, hpb, hst⟩ := (hl.out.below B4.out) at_ x hx.out
  have ST := Lib.hid hst
  clear hst
  obtain ⟨e0, e1, e2, e3, e4, e5⟩ := ST.out
  have x0 : w4.cell? ⟨w.heap.size, 0, none⟩ = some (.int .i64 at_) := KA4.out.there rfl
  have xl := KA4.out.lt
  go_wp2_with fail
  have hbb := below1 w4 (.cells #[.int .i64 at_, .slice (some ⟨g1, 0, none⟩) 6 6, .slice (some ⟨g2, 0, none⟩) 16 16, .slice (some ⟨g3, 0, none⟩) 16 16] 73)
  have KB : Hid (Blk (w4.alloc (.cells #[.int .i64 at_, .slice (some ⟨g1, 0, none⟩) 6 6, .slice (some ⟨g2, 0, none⟩) 16 16, .slice (some ⟨g3, 0, none⟩) 16 16] 73)) w4.heap.size 73 [.int .i64 at_, .slice (some ⟨g1, 0, none⟩) 6 6, .slice (some ⟨g2, 0, none⟩) 16 16, .slice (some ⟨g3, 0, none⟩) 16 16]) := Lib.hid (heap_alloc_new w4 _)
  have B5 := Lib.hid (Below.tr B4.out hbb)
  have KR5 := Lib.hid (KR4.out.below hbb)
  have M5 := Lib.hid (M4.out.below hbb)
  have L4 : Hid (g1 < w4.heap.size ∧ g2 < w4.heap.size ∧ g3 < w4.heap.size ∧ w.heap.size + 1 < w4.heap.size) := Lib.hid ⟨M4.out.1.lt, M4.out.2.1.lt, M4.out.2.2.1.lt, KR4.out.lt⟩
  clear hbb e0 e1 e2 e3 e4 e5 x0 xl KA4 KR4 M4 B4 hpb ST
  generalize w4.alloc (.cells #[.int .i64 at_, .slice (some ⟨g1, 0, none⟩) 6 6, .slice (some ⟨g2, 0, none⟩) 16 16, .slice (some ⟨g3, 0, none⟩) 16 16] 73) = W at KB B5 KR5 M5 ⊢
  obtain ⟨nb, hnb⟩ : ∃ q, w4.heap.size = q := ⟨_, rfl⟩
  rw [hnb] at KB L4 ⊢
  clear hnb
  have O5 : Hid (OwnM W w.heap.size g1 g2 g3 6 16 16 m) := Lib.hid (own_of_mblk M5.out HM.out.r HM.out.c HM.out.s (by have := G4.out; omega))
  have EX := fun V (hV : Below W.heap.size W V) => exec_any C cn cc at_ ctx x w.heap.size nb g1 g2 g3 6 16 16 m V (Lib.hid (KB.out.below hV)) (by have := L4.out; omega) (by omega) hma HM (Lib.hid (O5.out.below hV)) (Lib.hid (powTab_below HT.out (Below.tr B5.out hV))) OK.out (Lib.hid (hcl.out.below (Below.tr B5.out hV))) C8.out (by rw [← HCX.out]; exact C8.out)
  by_cases hz : (doM x ctx m).2.1 = 0
  · obtain ⟨r, hr⟩ : ∃ r, doM x ctx m = r := ⟨_, rfl⟩
    have HR := Lib.hid hr
    rw [hr] at hz EX
    refine (attempt_ok _ _ _ _ _ _ _ _ _ w.heap.size nb g1 g2 g3 6 16 16 r _ KB.out.lt ⟨M5.out.1.lt, M5.out.2.1.lt, M5.out.2.2.1.lt⟩ (fun V hV => ((EX V hV).resolve_right (fun h => h.1 hz)).2)).mono ?_
    rintro e w6 ⟨rfl, kb, om, kp⟩
    have KB6 := Lib.hid kb
    have O6 := Lib.hid om
    have KR6 := Lib.hid (kp.blk KR5.out (by unfold four; have := L4.out; have := G4.out; omega))
    have B6 := Lib.hid (kp.below B5.out B5.out.size (fun q hq => by unfold four at hq; have := L4.out; have := G4.out; omega))
    have HZ := Lib.hid hz
    clear kb om kp EX hz hr KB O5 M5 KR5 B5
    have y0 : w6.cell? ⟨nb, 0, none⟩ = some (.int .i64 r.1.a) := KB6.out.there rfl
    have y1 : w6.cell? ⟨nb, 1, none⟩ = some (.slice (some ⟨g1, 0, none⟩) 6 6) := KB6.out.there rfl
    have y2 : w6.cell? ⟨nb, 2, none⟩ = some (.slice (some ⟨g2, 0, none⟩) 16 16) := KB6.out.there rfl
    have y3 : w6.cell? ⟨nb, 3, none⟩ = some (.slice (some ⟨g3, 0, none⟩) 16 16) := KB6.out.there rfl
    have v0 : w6.cell? ⟨w.heap.size + 1, 0, none⟩ = some (.int .i64 0) := KR6.out.there rfl
    have v1 : w6.cell? ⟨w.heap.size + 1, 1, none⟩ = some (.slice none 0 0) := KR6.out.there rfl
    have v2 : w6.cell? ⟨w.heap.size + 1, 2, none⟩ = some (.slice none 0 0) := KR6.out.there rfl
    have v3 : w6.cell? ⟨w.heap.size + 1, 3, none⟩ = some (.slice none 0 0) := KR6.out.there rfl
    have q0 := KR6.out.frozen 0
    have q1 := KR6.out.frozen 1
    have q2 := KR6.out.frozen 2
    have q3 := KR6.out.frozen 3
    have nne : nb ≠ w.heap.size + 1 := by have := L4.out; omega
    go_wp2
    refine bodyPost_ret (v := .tuple #[.agg #[.int .i64 r.1.a, .slice (some ⟨g1, 0, none⟩) 6 6, .slice (some ⟨g2, 0, none⟩) 16 16, .slice (some ⟨g3, 0, none⟩) 16 16], .int .i64 0, .bool r.2.2, .bool true]) (by simp [results, Tryd.results39, go_sem, v0, v1, v2, v3]) rfl (.inl ⟨by rw [HR.out]; exact HZ.out, g1, g2, g3, by rw [HR.out], ?_, by have := G4.out; omega, ?_⟩)
    · have ge := G4.out
      have hM := O6.out.mblk
      rw [HR.out]
      exact ⟨(((hM.1.far (by omega) _).far (by omega) _).far (by omega) _).far (by omega) _, (((hM.2.1.far (by omega) _).far (by omega) _).far (by omega) _).far (by omega) _, (((hM.2.2.1.far (by omega) _).far (by omega) _).far (by omega) _).far (by omega) _, hM.2.2.2⟩
    · exact (((B6.out.setCell (by simp) _).setCell (by simp) _).setCell (by simp) _).setCell (by simp) _
  · obtain ⟨f, hf⟩ : ∃ f, (doM x ctx m).2.1 = f := ⟨_, rfl⟩
    refine (attempt_fault _ _ _ _ _ _ _ _ _ nb f _ (fun V hV => by have h := ((EX V hV).resolve_left (fun h => hz h.1)).2; rw [hf] at h; exact h)).mono ?_
    rintro e w6 ⟨rfl, hb6⟩
    have KR6 := Lib.hid (KR5.out.below hb6)
    have B6 := Lib.hid (Below.tr B5.out hb6)
    have HF := Lib.hid hf
    have HZ := Lib.hid hz
    rw [hf] at hz
    clear hb6 EX hf KB O5 M5 KR5 B5
    have hfb : (f != 0) = true := by simpa using hz
    have v0 : w6.cell? ⟨w.heap.size + 1, 0, none⟩ = some (.int .i64 0) := KR6.out.there rfl
    have v1 : w6.cell? ⟨w.heap.size + 1, 1, none⟩ = some (.slice none 0 0) := KR6.out.there rfl
    have v2 : w6.cell? ⟨w.heap.size + 1, 2, none⟩ = some (.slice none 0 0) := KR6.out.there rfl
    have v3 : w6.cell? ⟨w.heap.size + 1, 3, none⟩ = some (.slice none 0 0) := KR6.out.there rfl
    have q0 := KR6.out.frozen 0
    have q1 := KR6.out.frozen 1
    have q2 := KR6.out.frozen 2
    have q3 := KR6.out.frozen 3
    go_wp2
    refine bodyPost_ret (v := .tuple #[.agg #[.int .i64 0, .slice none 0 0, .slice none 0 0, .slice none 0 0], .int .i64 f, .bool false, .bool true]) (by simp [results, Tryd.results39, go_sem, v0, v1, v2, v3]) rfl (.inr ⟨HZ.out, by rw [HF.out], ?_⟩)
    exact (((B6.out.setCell (by simp) _).setCell (by simp) _).setCell (by simp) _).setCell (by simp) _
end Go.Proofs.YtilnegmjnbffhaaDoor
