/-
  The model's functions over diagrams: DiagramOf, NotOf, BothOf, OnesOf, FixVar, ByClauses.
-/
import Derived.Test.YtklcfbjaodildaaSp5
import Derived.Test.YtklcfbjaodildaaDg7
namespace Go.Proofs.Ytklcfbjaodildaa
open Go.ChangeShapes Go.WideShapes Go.ChangeAt Go.RowKit Go.Maps

set_option maxRecDepth 100000 in
set_option maxHeartbeats 4000000 in
theorem specDiag_any (n : Int) (A : Option Addr) (m c : Nat) (T : List Bool) (w : World) (d0 : Int) (ds : List Nd) (d2 : Int) (ok : Bool) (HR : Hid (rDiag n T = ((d0, ds, d2), ok))) (hbl : Hid (BLies w A T)) (HM : Hid (T.length = m)) :
    Calls Try.prog 134 #[.int .i64 n, .slice A m c] w fun e w' => GaveDg w d0 ds d2 ok e w' := by
  have DE : inB 0 6 n = deepB n := by simp [inB, deepB]
  cases hd : deepB n
  · have E : Hid (dv0 = ((d0, ds, d2), ok)) := Lib.hid (by rw [← HR.out]; simp [rDiag, hd])
    rw [hd] at DE
    go_enter Try.func134, Try.ntmps134
    go_wp2_with (go_at_call 94; refine (l1In_any _ _ _ _).mono ?_; rintro e w' ⟨rfl, rfl⟩; rw [DE])
    exact bodyPost_ret (v := .tuple #[.agg #[.int .i64 0, .slice none 0 0, .int .i64 0], .bool false]) (by simp [results, Try.results134, go_sem]) rfl (gaveDg_zero E.out (below1 _ _))
  rw [hd] at DE
  have ha0 : 0 ≤ n ∧ n ≤ 6 := by simp [deepB] at hd; omega
  obtain ⟨p, rfl⟩ : ∃ p : Nat, n = p := ⟨n.toNat, by omega⟩
  have hp6 : p ≤ 6 := by omega
  obtain ⟨q, hq⟩ : ∃ q, 2 ^ p = q := ⟨_, rfl⟩
  have HQ := Lib.hid hq
  have hq64 : q ≤ 64 := by rw [← hq]; exact pow_le6 hp6
  obtain ⟨hsh2, hsh3⟩ := wrap_pow hq hp6
  clear hq
  by_cases hmq : m = q
  · subst hmq
    have E : Hid (dvOf p T = ((d0, ds, d2), ok)) := Lib.hid (by rw [← HR.out]; simp [rDiag, hd, HM.out, HQ.out])
    have hne : ((m : Int) != (m : Int)) = false := by simp
    obtain ⟨k, ms, hkm⟩ : ∃ k ms, dgm p T = (k, ms) := ⟨_, _, rfl⟩
    have DK := Lib.hid hkm
    have L1 : Hid (BLies (w.alloc (.cells #[.int .i64 0, .slice none 0 0, .int .i64 0] 28)) A T) := Lib.hid (hbl.out.below (below1 _ _))
    clear hkm
    go_enter Try.func134, Try.ntmps134
    go_wp2_with (go_at_call 94; refine (l1In_any _ _ _ _).mono ?_; rintro e w' ⟨rfl, rfl⟩; rw [DE])
    refine (l7Of_any p A m c T _ k ms hp6 HM HQ L1 DK).mono ?_
    rintro e w2 ⟨Ad, cd, rfl, hod, hb2⟩
    have hRB : Blk w2 w.heap.size 28 [.int .i64 0, .slice none 0 0, .int .i64 0] := Blk.below (heap_alloc_new w _) hb2
    have hge : (w.alloc (.cells #[.int .i64 0, .slice none 0 0, .int .i64 0] 28)).heap.size = w.heap.size + 1 := by simp
    rw [hge] at hod
    have hB2 := Below.tr (below1 w _) hb2
    clear hge hb2
    obtain ⟨q0, q1, q2, y0, y1, y2, hRl⟩ := blk_cells hRB
    have HRB := Lib.hid hRB
    have HOD := Lib.hid hod
    have BFW := Lib.hid hB2
    clear hod
    go_wp2
    have hfin := dg_store HRB.out (.int .i64 p) (.slice Ad ms.length cd) (.int .i64 k)
    have hOO := hfin.1.own3 HOD.out (fun g e h => by have := (HOD.out.lt g e).1; omega)
    have hBB := hfin.1.below BFW.out BFW.out.size (fun i e => by omega)
    obtain ⟨W', hW'⟩ : ∃ W', W' = (((w2.setCell ⟨w.heap.size, 0, none⟩ (.int .i64 p)).setCell ⟨w.heap.size, 1, none⟩ (.slice Ad ms.length cd)).setCell ⟨w.heap.size, 2, none⟩ (.int .i64 k)) := ⟨_, rfl⟩
    rw [← hW'] at hfin hOO hBB ⊢
    obtain ⟨_, r0, r1, r2⟩ := hfin
    exact bodyPost_ret (v := .tuple #[.agg #[.int .i64 p, .slice Ad ms.length cd, .int .i64 k], .bool true]) (by simp [results, Try.results134, go_sem, r0, r1, r2]) rfl (gaveDg_own E.out DK.out hOO (by omega) hBB)
  · have E : Hid (dv0 = ((d0, ds, d2), ok)) := Lib.hid (by rw [← HR.out]; simp [rDiag, HM.out, HQ.out, hmq])
    have hne : ((m : Int) != (q : Int)) = true := by simp; omega
    go_enter Try.func134, Try.ntmps134
    go_wp2_with (go_at_call 94; refine (l1In_any _ _ _ _).mono ?_; rintro e w' ⟨rfl, rfl⟩; rw [DE])
    exact bodyPost_ret (v := .tuple #[.agg #[.int .i64 0, .slice none 0 0, .int .i64 0], .bool false]) (by simp [results, Try.results134, go_sem]) rfl (gaveDg_zero E.out (below1 _ _))
theorem rTab_any (a : Int) (ns : List Nd) (r : Int) : ∃ T ok, rTab a ns r T ok := ⟨_, _, rfl, rfl⟩
theorem rTab_yes {p : Nat} {ns : List Nd} {r : Int} {T : List Bool} {ok : Bool} (h : rTab p ns r T ok) (hg : goodDB p ns r = true) : T = tabL p ns r ∧ ok = true := by
  obtain ⟨h1, h2⟩ := h
  rw [hg] at h1
  rw [h1] at h2
  exact ⟨by simpa using h2, h1⟩
theorem rTab_no {a : Int} {ns : List Nd} {r : Int} {T : List Bool} {ok : Bool} (h : rTab a ns r T ok) (hg : goodDB a ns r = false) : T = [] ∧ ok = false := by
  obtain ⟨h1, h2⟩ := h
  rw [hg] at h1
  rw [h1] at h2
  exact ⟨h2, h1⟩
theorem own_bcell {w : World} {base n c g cap : Nat} {l : List Bool} {j : Nat} {x : Bool} (h : w.ownsRow base 4 1 (.slice (some ⟨g, 0, none⟩) n c) n (l.map Value.bool)) (hx : l[j]? = some x) (_ : cap = cap) : w.cell? ⟨g, j, none⟩ = some (.bool x) ∧ w.frozen? ⟨g, j, none⟩ = false := by
  constructor
  · have := h.cells (g := g) rfl j (.bool x) (by simp [hx])
    rw [add_plain, Nat.zero_add] at this
    exact this
  · rcases h.2 with ⟨h', _⟩ | ⟨g', cap', cur, h', hb, hg, hnc, hcm, hcs, htake⟩
    · simp at h'
    · simp only [Value.slice.injEq, Option.some.injEq, Addr.mk.injEq, and_true, true_and] at h'
      obtain ⟨rfl, rfl⟩ := h'
      simp [World.frozen?, hg]
theorem own_bset {w : World} {base n c g : Nat} {l : List Bool} (h : w.ownsRow base 4 1 (.slice (some ⟨g, 0, none⟩) n c) n (l.map Value.bool)) (j : Nat) (x : Bool) :
    (w.setCell ⟨g, j, none⟩ (.bool x)).ownsRow base 4 1 (.slice (some ⟨g, 0, none⟩) n c) n ((l.set j x).map Value.bool) := by
  have := (h.stored j (.bool x)).1
  rw [List.map_set]
  exact this
theorem own_some {w : World} {base n c : Nat} {A : Option Addr} {t : TypeId} {xs : List Value} (h : w.ownsRow base t 1 (.slice A n c) n xs) (hn : 0 < n) : ∃ g, A = some ⟨g, 0, none⟩ ∧ base ≤ g ∧ g < w.heap.size := by
  obtain ⟨g, cap, hv, hb, hg⟩ := h.form hn
  exact ⟨g, by injection hv, hb, hg⟩
end Go.Proofs.Ytklcfbjaodildaa
