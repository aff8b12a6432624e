/-
  Contracts of Propagate: the program's, by its goto, and the model's.
-/
import Derived.Test.YtklcfbjaodildaaCountM
import Derived.Test.YtklcfbjaodildaaResolve
import Derived.ScopeJumps
namespace Go.Proofs.Ytklcfbjaodildaa
open Go.ChangeShapes Go.WideShapes Go.ChangeAt Go.RowKit

theorem ilies_cells {w : World} {A : Option Addr} {l : List Int} (h : ILies w A l) : ∀ ad, A = some ad → ∀ j u, (l.map (Value.int .i64))[j]? = some u → w.cell? (ad.add j) = some u := by
  intro ad had j u hu
  rw [List.getElem?_map] at hu
  obtain ⟨y, hy, rfl⟩ := Option.map_eq_some_iff.1 hu
  obtain ⟨b, off, hA, _, hc⟩ := h j y hy
  rw [hA] at had
  obtain rfl := Option.some.inj had
  rw [add_plain]
  exact hc
/-- what holds at every jump -/
def PropJ (v : Int) (A B : Option Addr) (n m cap c2 : Nat) (L : List (List Int)) (w : World) (r : List Int) (t : Bool) : Act → World → Prop :=
  fun a' w' => ∃ (known : List Int) (A2 : Option Addr) (cc : Nat) (u4 u5 u8 u9 u10 u11 u12 u13 u14 u15 u16 u17 u18 u19 u20 u21 u22 u23 u24 u25 u26 u27 u28 u29 u30 u31 u32 u33 u34 u35 u36 u37 u38 u39 u40 u41 u42 u43 u44 u45 u46 u47 u48 u49 u50 u51 u52 u53 u54 : Value), a' = { tmps := #[.slice A n cap, .slice B m c2, undef, undef, u4, u5, .slice A2 known.length cc, .int .u32 (setV known), u8, u9, u10, u11, u12, u13, u14, u15, u16, u17, u18, u19, u20, u21, u22, u23, u24, u25, u26, u27, u28, u29, u30, u31, u32, u33, u34, u35, u36, u37, u38, u39, u40, u41, u42, u43, u44, u45, u46, u47, u48, u49, u50, u51, u52, u53, u54], defers := [] } ∧ w'.ownsRow w.heap.size 3 1 (.slice A2 known.length cc) known.length (known.map (Value.int .i64)) ∧ PInv v L r t known ∧ Below w.heap.size w w'
def lenOf : Value → Nat
  | .slice _ n _ => n
  | _ => 0
theorem wp_scope_from {P : Program} {a : Act} {w : World} {Q : Exit → Act → World → Prop} {c X : Code} (l : Nat) (J : Act → World → Prop) (μ : Act → World → Nat) (hf : findLabel c l = some (Code.skip.seq X))
    (pass : ∀ a w, J a w → X.wp P (Exit.jump l (fun a' w' => J a' w' ∧ μ a' w' < μ a w) Q) a w)
    (first : (∀ a w, J a w → X.wp P (Exit.jump l J Q) a w) → c.wp P (Exit.jump l J Q) a w) : (Code.scope c).wp P Q a w :=
  wp_scope_jumps l J μ hf (first (fun a w h => wp_mono (pass a w h) (fun e a' w' q => by
    cases e with
    | goto l' => exact ⟨q.1, q.2.1⟩
    | normal => exact q
    | exit id => exact q
    | ret => exact q
    | panic ch => exact q
    | outgrown => exact q))) (fun a w h => wp_seq (wp_skip (pass a w h)))
set_option maxRecDepth 100000 in
set_option maxHeartbeats 8000000 in
theorem propagate_any (v : Int) (A B : Option Addr) (n m cap c2 : Nat) (L : List (List Int)) (given : List Int) (w : World) (r : List Int) (t : Bool) (HP0 : Hid (PInv v L r t given)) (hl : Hid (LLies w A L)) (hl2 : Hid (ILies w B given)) (HX : Hid (L.length = n)) (HY : Hid (given.length = m)) (HN : Hid (B = none → m = 0 ∧ c2 = 0)) (hn : n ≤ 9223372036854775807) (hm : m ≤ 12) (hv : v ≤ 12) (LIT : Hid (∀ c ∈ L, ∀ x ∈ c, litB v x = true)) :
    Calls Try.prog 111 #[.slice A n cap, .slice B m c2] w (GaveTwo w r t) := by
  obtain ⟨i0, hi0, hz0, hz1, hz2⟩ := info_parts info_int
  have HI : Hid (∀ c ∈ L, ∀ x ∈ c, litB v x = true) := LIT
  go_enter Try.func111, Try.ntmps111
  go_wp2_with fail
  refine wp_scope_from 0 (PropJ v A B n m cap c2 L w r t) (fun a' _ => 100 - lenOf (a'.tmps.getD 6 undef)) (by rfl) ?_ ?_
  · rintro a' w2 ⟨known, A2, cc, u4, u5, u8, u9, u10, u11, u12, u13, u14, u15, u16, u17, u18, u19, u20, u21, u22, u23, u24, u25, u26, u27, u28, u29, u30, u31, u32, u33, u34, u35, u36, u37, u38, u39, u40, u41, u42, u43, u44, u45, u46, u47, u48, u49, u50, u51, u52, u53, u54, rfl, ho, hp, hb⟩
    obtain ⟨q, hq⟩ : ∃ q, known.length = q := ⟨_, rfl⟩
    have hq100 : q ≤ 100 := by have := hp.len; omega
    rw [hq] at ho ⊢
    have HQ := Lib.hid hq
    have OW := Lib.hid ho
    have BW := Lib.hid hb
    have HP := Lib.hid hp
    have HK := Lib.hid hp.2.1
    have HCO := Lib.hid hp.2.2.1
    have LW := Lib.hid (hl.out.below hb)
    clear hq ho hb hp HP0
    go_wp2_with fail
    go_loop [6, 7, 20] (fun l6 s7 i => l6 = .slice A2 q cc ∧ s7 = .int .u32 (setV known) ∧ ∃ k : Nat, k ≤ n ∧ i = .int .i64 k ∧ firstF known L = firstF known (L.drop k)) (fun _ _ i => n - (intOf i).toNat)
    case atStart => exact ⟨rfl, rfl, 0, Nat.zero_le _, rfl, rfl⟩
    case round =>
      obtain ⟨rfl, rfl, k, hk, rfl, hcl⟩ := hrel
      have HC := Lib.hid hcl
      clear hcl
      by_cases hlt : k < n
      · obtain ⟨c, hx⟩ : ∃ x, L[k]? = some x := ⟨_, List.getElem?_eq_getElem (by have := HX.out; omega)⟩
        obtain ⟨b, off, a, cp, rfl, hbl, ha, hca, hma, hil⟩ := LW.out k c hx
        have HS := Lib.hid (firstF_at known L k c hx)
        have IL := Lib.hid hil
        have HIC := Lib.hid (HI.out c (List.mem_of_getElem? hx))
        clear hx hil
        obtain ⟨p, hp⟩ : ∃ m, c.length = m := ⟨_, rfl⟩
        rw [hp] at ha hca hma
        have HM := Lib.hid hp
        clear hp
        go_wp2_with fail
        go_loop [10, 26] (fun u i => ∃ (j : Nat) (ux : Int), j ≤ p ∧ i = .int .i64 j ∧ u = .int .i64 ux ∧ -12 ≤ ux ∧ ux ≤ 12 ∧ UInv known c j ux) (fun _ i => p - (intOf i).toNat)
        case atStart => exact ⟨0, 0, Nat.zero_le _, rfl, rfl, by omega, by omega, .inl ⟨rfl, rfl⟩⟩
        case round =>
          obtain ⟨j, ux, hj, rfl, rfl, hu1, hu2, hcj⟩ := hrel
          have HU := Lib.hid hcj
          clear hcj
          by_cases hjt : j < p
          · obtain ⟨x, hx⟩ : ∃ x, c[j]? = some x := ⟨_, List.getElem?_eq_getElem (by have := HM.out; omega)⟩
            obtain ⟨b2, off2, rfl, hbl2, ha2⟩ := IL.out j x hx
            have hx3 := litB_iff.1 (HIC.out x (List.mem_of_getElem? hx))
            have hxa : -12 ≤ x := by omega
            have hxb : x ≤ 12 := by omega
            have hx0 : Hid (x ≠ 0) := Lib.hid hx3.1
            have HXJ := Lib.hid hx
            clear hx hx3
            cases q1 : decide (-x ∈ known)
            · cases q2 : (ux != 0)
              · obtain rfl : ux = 0 := by simpa using q2
                clear q2
                cases q3 : decide (x ∈ known)
                · go_wp2_with (go_at_call 123; refine (has_any _ _ _ HK (by omega) (by omega)).mono ?_; rintro e w' ⟨rfl, rfl⟩; first | rw [q1] | rw [q3])
                  go_round
                  case rel => exact ⟨j + 1, x, by omega, by go_num, rfl, hxa, hxb, HU.out.take HXJ.out (by simpa using q1) (by simpa using q3) hx0.out⟩
                  case measure => simp [intOf]; omega
                · have EF : Hid (firstF known L = firstF known (L.drop (k + 1))) := Lib.hid (by rw [HC.out, HS.out, unitF_known (List.mem_of_getElem? HXJ.out) (by simpa using q3)])
                  go_wp2_with (go_at_call 123; refine (has_any _ _ _ HK (by omega) (by omega)).mono ?_; rintro e w' ⟨rfl, rfl⟩; first | rw [q1] | rw [q3])
                  go_round
                  case rel => exact ⟨rfl, rfl, k + 1, by omega, by go_num, EF.out⟩
                  case measure => simp [intOf]; omega
              · have EF : Hid (firstF known L = firstF known (L.drop (k + 1))) := Lib.hid (by rw [HC.out, HS.out, HU.out.two (by simpa using q2) HXJ.out (by simpa using q1)])
                go_wp2_with (go_at_call 123; refine (has_any _ _ _ HK (by omega) (by omega)).mono ?_; rintro e w' ⟨rfl, rfl⟩; rw [q1])
                go_round
                case rel => exact ⟨rfl, rfl, k + 1, by omega, by go_num, EF.out⟩
                case measure => simp [intOf]; omega
            · go_wp2_with (go_at_call 123; refine (has_any _ _ _ HK (by omega) (by omega)).mono ?_; rintro e w' ⟨rfl, rfl⟩; rw [q1])
              go_round
              case rel => exact ⟨j + 1, ux, by omega, by go_num, rfl, hu1, hu2, HU.out.skip HXJ.out (by simpa using q1)⟩
              case measure => simp [intOf]; omega
          · obtain rfl : j = p := by omega
            cases q2 : (ux == 0)
            · have EF : Hid (firstF known L = .unit ux) := Lib.hid (by rw [HC.out, HS.out, UInv.unit (by rw [HM.out]; exact HU.out) (by simpa using q2) HCO.out])
              have PN := Lib.hid (HP.out.unit EF.out hv LIT.out)
              go_wp2_with (first
                | (at_builtin; (refine wpList_append_lies _ rfl _ _ 55 rfl w.heap.size 3 i0 (.int .i64 0) 1 8 Try.underlying55 hi0 hz0 hz1 hz2 rfl (by omega) _ q _ rfl (OW.out.alloc _) ⟨w2.heap.size, 0, none⟩ 1 1 [.int .i64 ux] rfl rfl (one_new1 w2 _ _) (by intro u hu; rw [List.mem_singleton.1 hu]; rfl) (by omega) (by unfold maxLen; omega) (by omega) (by have := BW.out.size; first | omega | (simp; omega)) (w2.heap.size + 1) (by first | rfl | simp) ?_; intro g3 cap3 w3 hown3 hg3 hat3 hlt3; have H3 := Lib.hid (app1 OW.out hown3 hg3 BW.out (Nat.le_refl _)); clear hown3 hg3 hat3 hlt3))
                | (go_at_call 124; refine (with_any _ _ _ HK (by omega) (by omega)).mono ?_; rintro e w' ⟨rfl, rfl⟩))
              refine wp_goto ?_
              show 0 = 0 ∧ (PropJ v _ B n m cap c2 L w r t _ _ ∧ _)
              have hL : (known ++ [ux]).length = q + 1 := by rw [List.length_append, HQ.out]; rfl
              refine ⟨rfl, ⟨known ++ [ux], some ⟨g3, 0, none⟩, cap3, _, _, _, _, _, _, _, _, _, _, _, _, _, _, _, _, _, _, _, _, _, _, _, _, _, _, _, _, _, _, _, _, _, _, _, _, _, _, _, _, _, _, _, _, _, _, _, _, _, by rw [hL], by rw [hL]; exact H3.out.1, PN.out, H3.out.2⟩, ?_⟩
              have := PN.out.len
              simp [lenOf]; omega
            · obtain rfl : ux = 0 := by simpa using q2
              have EF : Hid (firstF known L = .bad) := Lib.hid (by rw [HC.out, HS.out, UInv.bad (by rw [HM.out]; exact HU.out) HCO.out])
              clear q2
              go_wp2
              simp only [Exit.jump]
              go_ret2
              obtain ⟨e1, e2⟩ := HP.out.bad EF.out
              subst e1 e2
              exact ⟨A2, cc, (by first | (rw [HQ.out]; done) | (rw [HQ.out]; rfl)), by rw [HQ.out]; exact OW.out, BW.out⟩
      · obtain rfl : k = n := by omega
        have EF : Hid (firstF known L = .pass) := Lib.hid (by rw [HC.out, List.drop_of_length_le (by have := HX.out; omega)]; rfl)
        go_wp2
        simp only [Exit.jump]
        go_ret2
        obtain ⟨e1, e2⟩ := HP.out.pass EF.out
        subst e1 e2
        exact ⟨A2, cc, (by first | (rw [HQ.out]; done) | (rw [HQ.out]; rfl)), by rw [HQ.out]; exact OW.out, BW.out⟩

  · intro hall
    go_wp2_with (first
      | (at_make; (refine wpList_make_own _ rfl _ _ 55 rfl w.heap.size 3 i0 _ 1 Try.underlying55 hi0 hz0 hz1 _ _ _ 12 rfl rfl (by omega) (by rw [hz2]; omega) (by unfold maxLen; omega) (Nat.le_refl _) ?_; intro w1 hown1 hg1; have O1 := Lib.hid hown1; have B1 := Lib.hid ((Below.refl w.heap.size w).grown hg1 (Nat.le_refl _) (by simp)); clear hown1 hg1))
      | (at_builtin; (refine wpList_append_fits_any _ rfl _ _ 55 rfl w.heap.size 3 i0 1 Try.underlying55 hi0 hz1 w.heap.size 0 12 [] rfl O1.out B m c2 (given.map (Value.int .i64)) rfl (by simp [HY.out]) HN.out (ilies_cells (hl2.out.below B1.out)) (ints_oneCell _ _) (by omega) ?_; intro w2 hown2 hg2; have OW : Hid (w2.ownsRow w.heap.size 3 1 (.slice (some ⟨w.heap.size, 0, none⟩) m 12) m (given.map (Value.int .i64))) := Lib.hid (by simpa using hown2); have BW := Lib.hid (B1.out.grown hg2 B1.out.size (fun g hg => by cases hg; exact Nat.le_refl _)); have LW := Lib.hid (hl.out.below BW.out); have GW := Lib.hid (hl2.out.below BW.out); clear hown2 hg2))
      | (go_at_call 145; refine (setOf_any _ _ _ given _ GW HY (Lib.hid HP0.out.2.1) (by omega)).mono ?_; rintro e w' ⟨rfl, rfl⟩))
    go_step3
    rename_i hK
    exact hK _ _ (hall _ _ ⟨given, some ⟨w.heap.size, 0, none⟩, 12, _, _, _, _, _, _, _, _, _, _, _, _, _, _, _, _, _, _, _, _, _, _, _, _, _, _, _, _, _, _, _, _, _, _, _, _, _, _, _, _, _, _, _, _, _, _, _, _, _, by rw [HY.out], by rw [HY.out]; exact OW.out, HP0.out, BW.out⟩)
end Go.Proofs.Ytklcfbjaodildaa
