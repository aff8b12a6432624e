/-
  Answered diagrams have at most 64 nodes.
-/
import Derived.Test.YtklcfbjaodildaaDg5
namespace Go.Proofs.Ytklcfbjaodildaa

theorem dvOf_len {n : Nat} {T : List Bool} {d0 d2 : Int} {ds : List Nd} {ok : Bool} (hn : n ≤ 6) (hl : T.length = 2 ^ n) (h : dvOf n T = ((d0, ds, d2), ok)) : ds.length ≤ 64 := by
  unfold dvOf at h
  simp only [Prod.mk.injEq] at h
  obtain ⟨⟨_, rfl, _⟩, _⟩ := h
  exact dgm_len hn hl rfl
theorem dv0_len {d0 d2 : Int} {ds : List Nd} {ok : Bool} (h : dv0 = ((d0, ds, d2), ok)) : ds.length ≤ 64 := by
  unfold dv0 at h
  simp only [Prod.mk.injEq] at h
  obtain ⟨⟨_, rfl, _⟩, _⟩ := h
  simp
theorem rDiag_len {n : Int} {T : List Bool} {d0 d2 : Int} {ds : List Nd} {ok : Bool} (h : rDiag n T = ((d0, ds, d2), ok)) : ds.length ≤ 64 := by
  unfold rDiag at h
  split at h
  · rename_i hc
    simp only [Bool.and_eq_true, decide_eq_true_eq] at hc
    have : n ≤ 6 := by have := hc.1; simp [deepB] at this; omega
    exact dvOf_len (by omega) hc.2 h
  · exact dv0_len h
theorem rNot_len {a : Int} {ns : List Nd} {r : Int} {d0 d2 : Int} {ds : List Nd} {ok : Bool} (h : rNot a ns r = ((d0, ds, d2), ok)) : ds.length ≤ 64 := by
  unfold rNot at h
  split at h
  · rename_i hc
    have := (goodDB_true.1 hc).2.1
    exact dvOf_len (by omega) (by rw [List.length_map, tabL_len]) h
  · exact dv0_len h
theorem rBoth_len {a b : Int} {ns ms : List Nd} {r s : Int} {d0 d2 : Int} {ds : List Nd} {ok : Bool} (h : rBoth a ns r b ms s = ((d0, ds, d2), ok)) : ds.length ≤ 64 := by
  unfold rBoth at h
  split at h
  · rename_i hc
    simp only [Bool.and_eq_true, decide_eq_true_eq] at hc
    have := (goodDB_true.1 hc.1.2).2.1
    exact dvOf_len (by omega) (by rw [List.length_zipWith, tabL_len, tabL_len, Nat.min_self]) h
  · exact dv0_len h
theorem rFix_len {a : Int} {ns : List Nd} {r v : Int} {so : Bool} {d0 d2 : Int} {ds : List Nd} {ok : Bool} (h : rFix a ns r v so = ((d0, ds, d2), ok)) : ds.length ≤ 64 := by
  unfold rFix at h
  split at h
  · rename_i hc
    simp only [Bool.and_eq_true, decide_eq_true_eq] at hc
    have := (goodDB_true.1 hc.1.1).2.1
    exact dvOf_len (by omega) (fixL_len _ _ _ _) h
  · exact dv0_len h
theorem rBy_len {v : Int} {L : List (List Int)} {d0 d2 : Int} {ds : List Nd} {ok : Bool} (h : rBy v L = ((d0, ds, d2), ok)) : ds.length ≤ 64 := by
  unfold rBy at h
  split at h
  · rename_i hc
    simp only [Bool.and_eq_true, decide_eq_true_eq] at hc
    exact dvOf_len (by omega) (clT_len _ _) h
  · exact dv0_len h
end Go.Proofs.Ytklcfbjaodildaa
