/-
  The program's Solve.
-/
import Derived.Test.YtklcfbjaodildaaAdv
import Derived.Test.YtklcfbjaodildaaApps
namespace Go.Proofs.Ytklcfbjaodildaa
open Go.ChangeShapes Go.WideShapes Go.ChangeAt Go.RowKit

theorem results_tmp4 {fn : Func} {t u v x : Tmp} (h : fn.results = #[.tmp t, .tmp u, .tmp v, .tmp x]) (tmps : Array Value) (P : Program) (w : World) :
    (results fn tmps).run P w = .ok (.tuple #[tmps.getD t undef, tmps.getD u undef, tmps.getD v undef, tmps.getD x undef]) w := by
  simp [results, h]
/-- it answers a bool, bools of its own, lists of its own, and a bool -/
def GaveSol (w : World) (s : Bool) (M : List Bool) (R : List (List Int)) (ok : Bool) (e : Ending) (w' : World) : Prop :=
  ∃ A c B c2 vs, e = .returned (.tuple #[.bool s, .slice A M.length c, .slice B R.length c2, .bool ok]) ∧ w'.ownsRow w.heap.size 4 1 (.slice A M.length c) M.length (M.map Value.bool) ∧ OwnSS w' w.heap.size (.slice B R.length c2) vs R ∧
    (∀ g, (Value.slice A M.length c).ownBlock = some g → (Value.slice B R.length c2).ownBlock ≠ some g ∧ ¬ blks vs g) ∧ Below w.heap.size w w'
theorem sol_no {w w' : World} (h : Below w.heap.size w w') : GaveSol w false [] [] false (.returned (.tuple #[.bool false, .slice none 0 0, .slice none 0 0, .bool false])) w' :=
  ⟨none, 0, none, 0, [], rfl, World.ownsRow_nil _ _ _ _, OwnSS.nil _ _, fun g e => by simp [Value.ownBlock] at e, h⟩
/-- where a search stands -/
def Stand (w0 : World) (s v : Nat) (L : List (List Int)) (res : Option (Bool × List Bool × List (List Int))) (w : World) : Prop :=
  Below w0.heap.size w0 w ∧ ((∃ P D Ac Al Ad cc cl cd vsL vsP, Srch w w0.heap.size s v L P D Ac Al Ad cc cl cd vsL vsP (.slice none 0 0) false false ∧ SInv v L res P D) ∨
    (∃ P D Ac Al Ad cc cl cd vsL vsP, P.length ≤ 300 ∧ Srch w w0.heap.size s v L P D Ac Al Ad cc cl cd vsL vsP (.slice none 0 0) false true ∧ res = some (false, [], P)) ∨
    (∃ P D Ac Al Ad cc cl cd vsL vsP g M, P.length ≤ 300 ∧ Srch w w0.heap.size s v L P D Ac Al Ad cc cl cd vsL vsP (.slice (some ⟨g, 0, none⟩) v v) true true ∧ Blk w g 4 (M.map Value.bool) ∧ M.length = v ∧ w0.heap.size ≤ g ∧ (Value.slice Al P.length cl).ownBlock ≠ some g ∧ ¬ blks vsP g ∧ res = some (true, M, P)))
/-- how much is left to do, read off the memory -/
def left (s : Nat) (w : World) : Nat :=
  match (w.cell? ⟨s, 6, none⟩).getD undef with
  | .bool true => 0
  | _ => mes (lenOf ((w.cell? ⟨s, 2, none⟩).getD undef)) (lenOf ((w.cell? ⟨s, 3, none⟩).getD undef)) + 1
theorem Srch.left {w : World} {base s v : Nat} {L P : List (List Int)} {D : List Int} {Ac Al Ad : Option Addr} {cc cl cd : Nat} {vsL vsP : List Value} {M : Value} {f e : Bool} (h : Srch w base s v L P D Ac Al Ad cc cl cd vsL vsP M f e) : left s w = if e then 0 else mes P.length D.length + 1 := by
  unfold Go.Proofs.Ytklcfbjaodildaa.left
  have t6 : w.cell? ⟨s, 6, none⟩ = some (.bool e) := h.blk.cell 6
  have t2 : w.cell? ⟨s, 2, none⟩ = some (.slice Al P.length cl) := h.blk.cell 2
  have t3 : w.cell? ⟨s, 3, none⟩ = some (.slice Ad D.length cd) := h.blk.cell 3
  rw [t6, t2, t3]
  cases e <;> rfl
set_option maxRecDepth 100000 in
set_option maxHeartbeats 8000000 in
theorem implSolve_any (v : Int) (A : Option Addr) (n cap : Nat) (L : List (List Int)) (w : World) (s : Bool) (M : List Bool) (R : List (List Int)) (ok : Bool) (hr : Hid (SolR v L s M R ok)) (hl : Hid (LLies w A L)) (HX : Hid (L.length = n)) (HN : Hid (A = none → n = 0 ∧ cap = 0)) (hn : n ≤ 9223372036854775807) :
    Calls Try.prog 49 #[.int .i64 v, .slice A n cap] w (GaveSol w s M R ok) := by
  cases q1 : goodB v L
  · have E := Lib.hid (hr.out.no q1)
    go_enter Try.func49, Try.ntmps49
    go_wp2_with (go_at_call 76; refine (implGoodC_any _ _ _ _ L _ hl HX hn).mono ?_; rintro e w' ⟨rfl, rfl⟩; rw [q1])
    (try simp only [Exit.inBlock, Exit.then]); refine bodyPost_ret (results_tmp4 rfl _ _ _) rfl ?_
    obtain ⟨rfl, rfl, rfl, rfl⟩ := E.out
    exact sol_no (Below.refl _ _)
  have hv := goodB_v q1
  obtain ⟨V, rfl⟩ : ∃ V : Nat, v = V := ⟨v.toNat, by omega⟩
  have hv2 : V ≤ 12 := by omega
  have hn60 : n ≤ 60 := by have := goodB_len q1; have := HX.out; omega
  have HC := Lib.hid (goodB_cl q1)
  have ST : Hid (SInv V L (if ok then some (s, M, R) else none) [] []) := Lib.hid (by have := hr.out.start q1; simpa using this)
  clear hv
  go_enter Try.func49, Try.ntmps49
  go_wp2_with (go_at_call 76; refine (implGoodC_any _ _ _ _ L _ hl HX hn).mono ?_; rintro e w' ⟨rfl, rfl⟩; rw [q1])
  clear q1
  refine (clone_any _ _ _ L _ hl HX HN (by omega)).mono ?_
  rintro e w1 ⟨A2, c2, vs, rfl, ho1, hr1, hb1⟩
  have O1 := Lib.hid ho1
  have R1 := Lib.hid hr1
  have B1 := Lib.hid hb1
  have hs1z := hb1.size
  clear ho1 hr1 hb1
  obtain ⟨s0, hs0⟩ : ∃ s0, w1.heap.size = s0 := ⟨_, rfl⟩
  have hws : w.heap.size ≤ s0 := by omega
  have START : Hid (Stand w s0 V L (if ok then some (s, M, R) else none) (w1.alloc (.cells #[.int .i64 V, .slice A2 n c2, .slice none 0 0, .slice none 0 0, .slice none 0 0, .bool false, .bool false] 138))) := Lib.hid (by
    have hb2 := below1 w1 (.cells #[.int .i64 V, .slice A2 n c2, .slice none 0 0, .slice none 0 0, .slice none 0 0, .bool false, .bool false] 138)
    have hL := HX.out
    subst hL
    have ho := own_below O1.out hb2
    refine ⟨Below.tr B1.out hb2, .inl ⟨[], [], A2, none, none, c2, 0, 0, vs, [], ⟨?_, hws, ⟨?_, ?_, OwnSS.nil _ _, World.ownsRow_nil _ _ _ _, fun g e => by have := hb2.size; omega, fun g e => ?_, fun g e => by simp [Value.ownBlock] at e, fun g e => by simp [Value.ownBlock] at e⟩, ?_⟩, ST.out⟩⟩
    · subst hs0
      exact heap_alloc_new w1 _
    · rw [List.append_nil]
      exact ho
    · exact R1.out.kept (.of_below (S := fun _ => False) hb2) (fun _ _ q => q)
    · have := O1.out.lt g e
      exact ⟨by omega, fun q => by obtain ⟨i, x, hx, _⟩ := q; simp at hx, by simp [Value.ownBlock], by simp [Value.ownBlock]⟩
    · refine ⟨by omega, fun q => by obtain ⟨i, x, hx, _⟩ := q; simp at hx, fun q => ?_, by simp [Value.ownBlock], by simp [Value.ownBlock]⟩
      have := O1.out.lt s0 q
      omega)
  go_wp2_with fail
  try rw [hs0]
  generalize (w1.alloc (.cells #[.int .i64 V, .slice A2 n c2, .slice none 0 0, .slice none 0 0, .slice none 0 0, .bool false, .bool false] 138)) = w2 at START ⊢
  obtain ⟨res, hres⟩ : ∃ res, (if ok then some (s, M, R) else none) = res := ⟨_, rfl⟩
  rw [hres] at START
  have HRES := Lib.hid hres
  have HOK := Lib.hid hr.out.2
  clear hres O1 R1 B1 ST hr hs0 hs1z
  go_loopw [20] (fun _ wr => Stand w s0 V L res wr) (fun _ wr => left s0 wr)
  case atStart => exact START.out
  case round =>
    obtain ⟨hbw, hst⟩ := hrel
    clear START
    have BW := Lib.hid hbw
    clear hbw
    have NOK : Hid (res = none → GaveSol w s M R ok = GaveSol w false [] [] false) := Lib.hid (fun e => by
      have h1 := HRES.out
      rw [e] at h1
      cases ok
      · obtain ⟨rfl, rfl, rfl⟩ := HOK.out rfl; rfl
      · simp at h1)
    rcases hst with ⟨P, D, Ac, Al, Ad, cc, cl, cd, vsL, vsP, hs, hi⟩ | ⟨P, D, Ac, Al, Ad, cc, cl, cd, vsL, vsP, hP, hs, hi⟩ | ⟨P, D, Ac, Al, Ad, cc, cl, cd, vsL, vsP, g, N, hP, hs, hg1, hg2, hg3, hg4, hg5, hi⟩
    · have S1 := Lib.hid hs
      have I1 := Lib.hid hi
      have LF := Lib.hid hs.left
      have t6 : wr.cell? ⟨s0, 6, none⟩ = some (.bool false) := hs.blk.cell 6
      have hp3 : P.length ≤ 300 := hi.2.2.1
      have hl6 : L.length ≤ 60 := by have := HX.out; omega
      have HCD := Lib.hid hi.2.1
      have HCL : Hid (∀ c ∈ L ++ P, clauseB V c = true) := Lib.hid (fun c hc => by
        rcases List.mem_append.1 hc with q | q
        · exact HC.out c q
        · exact hi.2.2.2 c q)
      clear hs hi
      obtain ⟨r, b, hpr⟩ : ∃ r b, propN (L ++ P) 20 D = (r, b) := ⟨_, _, rfl⟩
      cases b
      · by_cases hx0 : firstV V r = 0
        · have RES := Lib.hid (I1.out.yes hpr hx0)
          go_wp2_with fail
          refine (advance_yes w.heap.size s0 V L P D Ac Al Ad cc cl cd vsL vsP wr r S1 hv2 hp3 hl6 HCD HCL hpr hx0).mono ?_
          rintro e w3 ⟨rfl, g, hs3, hm3, hg3, hb3⟩
          have S3 := Lib.hid hs3
          have M3 := Lib.hid hm3
          have B3 := Lib.hid hb3
          have G3 := Lib.hid hg3
          have t2 : w3.cell? ⟨s0, 2, none⟩ = some (.slice Al P.length cl) := hs3.blk.cell 2
          clear hs3 hm3 hb3 hg3 hpr hx0 t6
          obtain ⟨p, hpp⟩ : ∃ p, P.length = p := ⟨_, rfl⟩
          rw [hpp] at t2
          have hp4 : p ≤ 300 := by omega
          go_wp2
          go_roundw
          case rel =>
            have R1 := S1.out.r
            refine ⟨BW.out.trans B3.out, .inr (.inr ⟨P, D, Ac, Al, Ad, cc, cl, cd, vsL, vsP, g, modelW V r, hp3, S3.out, M3.out, modelW_len _ _, ?_, fun q => ?_, fun q => ?_, RES.out⟩)⟩
            · have := G3.out; have := BW.out.size; omega
            · have := R1.small (.inr (.inl q)); have := G3.out; omega
            · have := R1.small (.inr (.inr (.inr (.inl q)))); have := G3.out; omega
          case measure =>
            rw [S3.out.left, LF.out]
            simp
        · have I2 := Lib.hid (I1.out.on hv2 hpr hx0)
          go_wp2_with fail
          refine (advance_on w.heap.size s0 V L P D Ac Al Ad cc cl cd vsL vsP wr r S1 hv2 hp3 hl6 HCD HCL hpr hx0).mono ?_
          rintro e w3 ⟨rfl, Ad', cd', hs3, hb3⟩
          have S3 := Lib.hid hs3
          have B3 := Lib.hid hb3
          have t2 : w3.cell? ⟨s0, 2, none⟩ = some (.slice Al P.length cl) := hs3.blk.cell 2
          clear hs3 hb3 hpr hx0 t6
          obtain ⟨p, hpp⟩ : ∃ p, P.length = p := ⟨_, rfl⟩
          rw [hpp] at t2
          have hp4 : p ≤ 300 := by omega
          go_wp2
          go_roundw
          case rel => exact ⟨BW.out.trans B3.out, .inl ⟨P, _, Ac, Al, Ad', cc, cl, cd', vsL, vsP, S3.out, I2.out⟩⟩
          case measure =>
            rw [S3.out.left, LF.out]
            have := clauseB_len I2.out.2.1
            simp [mes] at this ⊢
            omega
      · by_cases hD : D = []
        · by_cases h3 : P.length = 300
          · have RES := Lib.hid (NOK.out (I1.out.over hpr h3))
            go_wp2_with fail
            refine (advance_bad0 w.heap.size s0 V L P D Ac Al Ad cc cl cd vsL vsP wr r S1 hv2 hp3 hl6 HCD HCL hpr hD).mono ?_
            rintro e w3 ⟨rfl, Ac', cc', Al', cl', vsP', hs3, hb3⟩
            have B3 := Lib.hid hb3
            have t2 : w3.cell? ⟨s0, 2, none⟩ = some (.slice Al' 301 cl') := by have := hs3.blk.cell 2; rw [List.length_append, h3] at this; exact this
            clear hs3 hb3 hpr t6
            go_wp2
            (try simp only [Exit.inBlock, Exit.then]); refine bodyPost_ret (results_tmp4 rfl _ _ _) rfl ?_
            rw [RES.out]
            exact sol_no (BW.out.trans B3.out)
          · have RES := Lib.hid ((by subst hD; exact I1.out.no hpr h3 : res = some (false, [], P ++ [[]])))
            go_wp2_with fail
            refine (advance_bad0 w.heap.size s0 V L P D Ac Al Ad cc cl cd vsL vsP wr r S1 hv2 hp3 hl6 HCD HCL hpr hD).mono ?_
            rintro e w3 ⟨rfl, Ac', cc', Al', cl', vsP', hs3, hb3⟩
            have S3 := Lib.hid hs3
            have B3 := Lib.hid hb3
            have t2 : w3.cell? ⟨s0, 2, none⟩ = some (.slice Al' (P ++ [[]]).length cl') := hs3.blk.cell 2
            clear hs3 hb3 hpr t6
            obtain ⟨p, hpp⟩ : ∃ p, (P ++ [([] : List Int)]).length = p := ⟨_, rfl⟩
            have hp4 : p ≤ 300 := by rw [← hpp]; simp; omega
            rw [hpp] at t2
            go_wp2
            go_roundw
            case rel => exact ⟨BW.out.trans B3.out, .inr (.inl ⟨_, _, Ac', Al', Ad, cc', cl', cd, vsL, vsP', by rw [hpp]; exact hp4, S3.out, RES.out⟩)⟩
            case measure =>
              rw [S3.out.left, LF.out]
              simp
        · by_cases h3 : P.length = 300
          · have RES := Lib.hid (NOK.out (I1.out.over hpr h3))
            go_wp2_with fail
            refine (advance_bad w.heap.size s0 V L P D Ac Al Ad cc cl cd vsL vsP wr r S1 hv2 hp3 hl6 HCD HCL hpr hD).mono ?_
            rintro e w3 ⟨rfl, Ac', cc', Al', cl', vsP', hs3, hb3⟩
            have B3 := Lib.hid hb3
            have t2 : w3.cell? ⟨s0, 2, none⟩ = some (.slice Al' 301 cl') := by have := hs3.blk.cell 2; rw [List.length_append, h3] at this; exact this
            clear hs3 hb3 hpr t6
            go_wp2
            (try simp only [Exit.inBlock, Exit.then]); refine bodyPost_ret (results_tmp4 rfl _ _ _) rfl ?_
            rw [RES.out]
            exact sol_no (BW.out.trans B3.out)
          · have I2 := Lib.hid (I1.out.back hpr h3 hD)
            go_wp2_with fail
            refine (advance_bad w.heap.size s0 V L P D Ac Al Ad cc cl cd vsL vsP wr r S1 hv2 hp3 hl6 HCD HCL hpr hD).mono ?_
            rintro e w3 ⟨rfl, Ac', cc', Al', cl', vsP', hs3, hb3⟩
            have S3 := Lib.hid hs3
            have B3 := Lib.hid hb3
            have t2 : w3.cell? ⟨s0, 2, none⟩ = some (.slice Al' (P ++ [negL D]).length cl') := hs3.blk.cell 2
            clear hs3 hb3 hpr t6
            obtain ⟨p, hpp⟩ : ∃ p, (P ++ [negL D]).length = p := ⟨_, rfl⟩
            have hp4 : p ≤ 300 := by rw [← hpp]; simp; omega
            rw [hpp] at t2
            go_wp2
            go_roundw
            case rel => exact ⟨BW.out.trans B3.out, .inl ⟨_, _, Ac', Al', Ad, cc', cl', cd, vsL, vsP', S3.out, I2.out⟩⟩
            case measure =>
              rw [S3.out.left, LF.out]
              have := clauseB_len HCD.out
              have := List.length_pos_iff.2 hD
              simp [mes]
              omega
    · have S1 := Lib.hid hs
      have t6 : wr.cell? ⟨s0, 6, none⟩ = some (.bool true) := hs.blk.cell 6
      have t5 : wr.cell? ⟨s0, 5, none⟩ = some (.bool false) := hs.blk.cell 5
      have t4 : wr.cell? ⟨s0, 4, none⟩ = some (.slice none 0 0) := hs.blk.cell 4
      have t2 : wr.cell? ⟨s0, 2, none⟩ = some (.slice Al P.length cl) := hs.blk.cell 2
      have E : Hid (s = false ∧ M = [] ∧ R = P ∧ ok = true) := Lib.hid (by
        have h1 := HRES.out
        rw [hi] at h1
        cases ok
        · simp at h1
        · simp at h1; exact ⟨h1.1, h1.2.1, h1.2.2, rfl⟩)
      clear hs hi hP
      go_wp2_with fail
      go_quiet (fail)
      go_wp2
      (try simp only [Exit.inBlock, Exit.then]); refine bodyPost_ret (results_tmp4 rfl _ _ _) rfl ?_
      obtain ⟨rfl, rfl, rfl, rfl⟩ := E.out
      exact ⟨none, 0, Al, cl, vsP, rfl, World.ownsRow_nil _ _ _ _, S1.out.r.p.below (bdrewN (Below.refl _ _) _), fun g e => by simp [Value.ownBlock] at e, bdrewN BW.out _⟩
    · have S1 := Lib.hid hs
      have G1 := Lib.hid (And.intro hg1 (And.intro hg2 (And.intro hg3 (And.intro hg4 hg5))))
      have t6 : wr.cell? ⟨s0, 6, none⟩ = some (.bool true) := hs.blk.cell 6
      have t5 : wr.cell? ⟨s0, 5, none⟩ = some (.bool true) := hs.blk.cell 5
      have t4 : wr.cell? ⟨s0, 4, none⟩ = some (.slice (some ⟨g, 0, none⟩) V V) := hs.blk.cell 4
      have t2 : wr.cell? ⟨s0, 2, none⟩ = some (.slice Al P.length cl) := hs.blk.cell 2
      have E : Hid (s = true ∧ M = N ∧ R = P ∧ ok = true) := Lib.hid (by
        have h1 := HRES.out
        rw [hi] at h1
        cases ok
        · simp at h1
        · simp at h1; exact ⟨h1.1, h1.2.1, h1.2.2, rfl⟩)
      clear hs hi hP hg1 hg2 hg3 hg4 hg5
      go_wp2_with fail
      go_quiet (fail)
      go_wp2
      (try simp only [Exit.inBlock, Exit.then]); refine bodyPost_ret (results_tmp4 rfl _ _ _) rfl ?_
      obtain ⟨rfl, rfl, rfl, rfl⟩ := E.out
      obtain ⟨k1, k2, k3, k4, k5⟩ := G1.out
      refine ⟨some ⟨g, 0, none⟩, V, Al, cl, vsP, by rw [k2]; rfl, ?_, S1.out.r.p.below (bdrewN (Below.refl _ _) _), fun g' e => ?_, bdrewN BW.out _⟩
      · rw [k2]
        exact own_base (own_of_vblk k1 (by simpa using k2) (by omega)) k3
      · have e' : g' = g := by simp [Value.ownBlock] at e; exact e.symm
        subst e'
        exact ⟨k4, k5⟩
end Go.Proofs.Ytklcfbjaodildaa
