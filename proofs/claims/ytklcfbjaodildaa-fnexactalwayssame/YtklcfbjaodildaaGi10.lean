/-
  CanBe and AlwaysSame: the program's and the model's.
-/
import Derived.Test.YtklcfbjaodildaaGi6
import Derived.Test.YtklcfbjaodildaaGi7
namespace Go.Proofs.Ytklcfbjaodildaa
open Go.ChangeShapes Go.WideShapes Go.ChangeAt Go.RowKit

theorem FindR.of {p : Nat → Bool} {m T : Nat} {f : Bool} {l : List Bool} (h : (match (List.range T).find? p with | some n => f = true ∧ l = modelN m n | none => f = false ∧ l = [])) : FindR p m T f l := by
  cases e : (List.range T).find? p with
  | none =>
    rw [e] at h
    refine .inr ⟨fun j hj => ?_, h⟩
    rw [List.find?_eq_none] at e
    simpa using e j (by simpa using hj)
  | some k =>
    rw [e] at h
    rw [List.find?_range_eq_some] at e
    exact .inl ⟨k, by simpa using e.2.1, fun j hj => by simpa using e.2.2 j hj, e.1, h⟩
theorem rCan_yes {xs : List Gt} {r0 : Bool} {r1 : List Bool} {r2 : Bool} (h : rCan xs = (r0, r1, r2)) (hg : goodGB xs = true) : FindR (fun N => outG xs (modelN (nIn xs) N)) (nIn xs) (2 ^ nIn xs) r0 r1 ∧ r2 = true := by
  unfold rCan at h
  rw [if_pos hg] at h
  cases e : canF xs with
  | none =>
    rw [e] at h
    simp only [Prod.mk.injEq] at h
    obtain ⟨rfl, rfl, rfl⟩ := h
    refine ⟨FindR.of ?_, rfl⟩
    unfold canF at e
    rw [e]
    exact ⟨rfl, rfl⟩
  | some k =>
    rw [e] at h
    simp only [Prod.mk.injEq] at h
    obtain ⟨rfl, rfl, rfl⟩ := h
    refine ⟨FindR.of ?_, rfl⟩
    unfold canF at e
    rw [e]
    exact ⟨rfl, rfl⟩
theorem rCan_no {xs : List Gt} {r0 : Bool} {r1 : List Bool} {r2 : Bool} (h : rCan xs = (r0, r1, r2)) (hg : goodGB xs = false) : r0 = false ∧ r1 = [] ∧ r2 = false := by
  unfold rCan at h
  rw [hg] at h
  simp at h
  exact ⟨h.1, h.2.1, h.2.2⟩
theorem rAlw_no {xs ys : List Gt} {r0 r1 : Bool} (h : rAlw xs ys = (r0, r1)) (hg : goodGB xs = false ∨ goodGB ys = false ∨ nIn xs ≠ nIn ys) : r0 = false ∧ r1 = false := by
  unfold rAlw at h
  rw [if_neg (by rintro ⟨a, b, c⟩; rcases hg with q | q | q; (rw [q] at a; cases a); (rw [q] at b; cases b); exact q c)] at h
  simp at h
  exact h
theorem rAlw_yes {xs ys : List Gt} {r0 r1 : Bool} (h : rAlw xs ys = (r0, r1)) (hg : goodGB xs = true) (hg2 : goodGB ys = true) (hn : nIn xs = nIn ys) {f : Bool} {l : List Bool} (hf : FindR (fun N => outG xs (modelN (nIn xs) N) != outG ys (modelN (nIn xs) N)) (nIn xs) (2 ^ nIn xs) f l) : r0 = !f ∧ r1 = true := by
  unfold rAlw at h
  rw [if_pos ⟨hg, hg2, hn⟩] at h
  simp only [Prod.mk.injEq] at h
  refine ⟨?_, h.2.symm⟩
  rw [← h.1]
  cases e : diffF xs ys with
  | none =>
    unfold diffF at e
    rw [List.find?_eq_none] at e
    have := (hf.end_ (fun j hj => by simpa using e j (by simpa using hj))).1
    rw [this]; rfl
  | some k =>
    unfold diffF at e
    rw [List.find?_range_eq_some] at e
    have := (hf.at (by simpa using e.2.1) (fun j hj => by simpa using e.2.2 j hj) e.1).1
    rw [this]; rfl
theorem rCan_len {xs : List Gt} {r0 : Bool} {r1 : List Bool} {r2 : Bool} (h : rCan xs = (r0, r1, r2)) : r1.length ≤ 1000 := by
  cases hg : goodGB xs
  · rw [(rCan_no h hg).2.1]; simp
  · have := goodG_len hg
    have h2 := inpN_le xs xs.length
    rcases (rCan_yes h hg).1 with ⟨k, _, _, _, _, rfl⟩ | ⟨_, _, rfl⟩
    · rw [modelN_len]; unfold nIn; omega
    · simp
/-- it answers a bool, a slice of bools of its own, and a bool -/
def GaveCan (w : World) (f : Bool) (l : List Bool) (b : Bool) (e : Ending) (w' : World) : Prop :=
  ∃ A c, e = .returned (.tuple #[.bool f, .slice A l.length c, .bool b]) ∧ w'.ownsRow w.heap.size 4 1 (.slice A l.length c) l.length (l.map Value.bool) ∧ Below w.heap.size w w'
theorem can_no {w w1 : World} {f : Bool} {l : List Bool} {b : Bool} (h : f = false ∧ l = [] ∧ b = false) (hb : Below w.heap.size w w1) : GaveCan w f l b (.returned (.tuple #[.bool false, .slice none 0 0, .bool false])) w1 := by
  obtain ⟨rfl, rfl, rfl⟩ := h
  exact ⟨none, 0, rfl, World.ownsRow_nil _ _ _ _, hb⟩
theorem ret_bbG {a b c d : Bool} (h : a = c ∧ b = d) : Ending.returned (.tuple #[.bool c, .bool d]) = .returned (.tuple #[.bool a, .bool b]) := by rw [h.1, h.2]
theorem dif_new {w : World} {t : TypeId} {pa pb na nb : Nat} {xs ys : List Gt} (h1 : OutIs w pa na xs) (h2 : OutIs w pb nb ys) : DifIs ((w.alloc (.cells #[.func (.func 141) #[] #[.pointer (some ⟨pa, 0, none⟩)]] t)).alloc (.cells #[.func (.func 141) #[] #[.pointer (some ⟨pb, 0, none⟩)]] t)) w.heap.size (w.heap.size + 1) na nb xs ys := by
  have k0 : Blk ((w.alloc (.cells #[.func (.func 141) #[] #[.pointer (some ⟨pa, 0, none⟩)]] t)).alloc (.cells #[.func (.func 141) #[] #[.pointer (some ⟨pb, 0, none⟩)]] t)) w.heap.size t [.func (.func 141) #[] #[.pointer (some ⟨pa, 0, none⟩)]] := Blk.below (heap_alloc_new w _) (below1 _ _)
  have k1 : Blk ((w.alloc (.cells #[.func (.func 141) #[] #[.pointer (some ⟨pa, 0, none⟩)]] t)).alloc (.cells #[.func (.func 141) #[] #[.pointer (some ⟨pb, 0, none⟩)]] t)) (w.heap.size + 1) t [.func (.func 141) #[] #[.pointer (some ⟨pb, 0, none⟩)]] := by
    have := heap_alloc_new (w.alloc (.cells #[.func (.func 141) #[] #[.pointer (some ⟨pa, 0, none⟩)]] t)) (.cells #[.func (.func 141) #[] #[.pointer (some ⟨pb, 0, none⟩)]] t)
    rw [show (w.alloc (.cells #[.func (.func 141) #[] #[.pointer (some ⟨pa, 0, none⟩)]] t)).heap.size = w.heap.size + 1 by simp] at this
    exact this
  exact ⟨k0.lt, k1.lt, pa, pb, k0.cell 0, k1.cell 0, h1.below (below2 _ _ _), h2.below (below2 _ _ _)⟩
set_option maxRecDepth 100000 in
set_option maxHeartbeats 4000000 in
theorem implCan_any (A : Option Addr) (n cap : Nat) (xs : List Gt) (w : World) (r0 : Bool) (r1 : List Bool) (r2 : Bool) (HR : Hid (rCan xs = (r0, r1, r2))) (hl : Hid (GLies w A xs)) (HX : Hid (xs.length = n)) (hn : n ≤ 1048576) :
    Calls Try.prog 31 #[.slice A n cap] w (GaveCan w r0 r1 r2) := by
  cases q1 : goodGB xs
  · have E := Lib.hid (rCan_no HR.out q1)
    go_enter Try.func31, Try.ntmps31
    go_wp2_with (go_at_call 35; refine (implGoodG_any _ _ _ xs _ hl HX hn).mono ?_; rintro e w1 ⟨rfl, hb1⟩; rw [q1]; have B1 := Lib.hid hb1; clear hb1)
    go_ret3
    exact can_no E.out B1.out
  obtain ⟨q, hq⟩ : ∃ q, (inpN xs n).length = q := ⟨_, rfl⟩
  have QN := Lib.hid hq
  have hqn : q ≤ n := by rw [← hq]; exact inpN_le _ _
  have hn12 : n ≤ 12 := by have := goodG_len q1; have := HX.out; omega
  have HG := Lib.hid q1
  have EN : Hid (nIn xs = q) := Lib.hid (by unfold nIn; rw [HX.out]; exact hq)
  have HQ : Hid (q = (inpN xs n).length) := Lib.hid hq.symm
  clear hq
  have E := Lib.hid (rCan_yes HR.out q1)
  rw [EN.out] at E
  have HF := Lib.hid E.out.1
  have E2 := Lib.hid E.out.2
  clear E
  go_enter Try.func31, Try.ntmps31
  go_wp2_with fail
  refine (implGoodG_any _ _ _ xs _ hl HX hn).mono ?_
  rintro e w1 ⟨rfl, hb1⟩
  rw [q1]
  have B1 := Lib.hid hb1
  clear hb1
  go_wp2_with fail
  refine (inputsI_any _ _ _ xs _ (Lib.hid (hl.out.below B1.out)) HX hn).mono ?_
  rintro e w2 ⟨A2, c2, rfl, _, hb2⟩
  rw [inpI_len, QN.out]
  have B2 := Lib.hid (Below.tr B1.out hb2)
  clear hb2
  go_wp2_with fail
  refine (outputOf_any _ n _ xs _ (Lib.hid (hl.out.below B2.out)) HX hn12 HG).mono ?_
  rintro e w3 ⟨g3, rfl, ho3, hb3⟩
  have OU := Lib.hid ho3
  have B3 := Lib.hid (Below.tr B2.out hb3)
  clear ho3 hb3
  go_wp2_with fail
  refine (firstO_any q g3 n xs _ r0 r1 (by omega) HF OU HX hn12 HG HQ).mono ?_
  rintro e w4 ⟨A4, c4, rfl, ho4, hb4⟩
  have O4 := Lib.hid (own_baseG ho4 B3.out.size)
  have B4 := Lib.hid (Below.tr B3.out hb4)
  clear ho4 hb4
  go_wp2
  go_ret3
  exact ⟨A4, c4, by rw [E2.out]; rfl, O4.out, B4.out⟩
set_option maxRecDepth 100000 in
set_option maxHeartbeats 8000000 in
theorem implAlw_any (A : Option Addr) (na cap : Nat) (B : Option Addr) (nb cap2 : Nat) (xs ys : List Gt) (w : World) (r0 r1 : Bool) (HR : Hid (rAlw xs ys = (r0, r1))) (hla : Hid (GLies w A xs)) (HXa : Hid (xs.length = na)) (hna : na ≤ 1048576) (hlb : Hid (GLies w B ys)) (HXb : Hid (ys.length = nb)) (hnb : nb ≤ 1048576) :
    Calls Try.prog 42 #[.slice A na cap, .slice B nb cap2] w fun e w' => e = .returned (.tuple #[.bool r0, .bool r1]) ∧ Below w.heap.size w w' := by
  cases qa : goodGB xs
  · have E := Lib.hid (rAlw_no HR.out (.inl qa))
    go_enter Try.func42, Try.ntmps42
    go_wp2_with fail
    refine (implGoodG_any _ _ _ xs _ hla HXa hna).mono ?_
    rintro e w1 ⟨rfl, hb⟩
    rw [qa]
    have B1 := Lib.hid hb
    clear hb
    go_wp2
    go_ret2
    exact ⟨(ret_bbG E.out), B1.out⟩
  cases qb : goodGB ys
  · have E := Lib.hid (rAlw_no HR.out (.inr (.inl qb)))
    go_enter Try.func42, Try.ntmps42
    go_wp2_with fail
    refine (implGoodG_any _ _ _ xs _ hla HXa hna).mono ?_
    rintro e w1 ⟨rfl, hb⟩
    rw [qa]
    have B1 := Lib.hid hb
    clear hb
    go_wp2_with fail
    refine (implGoodG_any _ _ _ ys _ (Lib.hid (hlb.out.below B1.out)) HXb hnb).mono ?_
    rintro e w2 ⟨rfl, hb⟩
    rw [qb]
    have B2 := Lib.hid (Below.tr B1.out hb)
    clear hb
    go_wp2
    go_ret2
    exact ⟨(ret_bbG E.out), B2.out⟩
  obtain ⟨qan, hqa⟩ : ∃ q, (inpN xs na).length = q := ⟨_, rfl⟩
  have QNa := Lib.hid hqa
  have hqan : qan ≤ na := by rw [← hqa]; exact inpN_le _ _
  have hna2 : na ≤ 12 := by have := goodG_len qa; have := HXa.out; omega
  have HGa := Lib.hid qa
  have ENa : Hid (nIn xs = qan) := Lib.hid (by unfold nIn; rw [HXa.out]; exact hqa)
  have HQa : Hid (qan = (inpN xs na).length) := Lib.hid hqa.symm
  clear hqa
  obtain ⟨qbn, hqb⟩ : ∃ q, (inpN ys nb).length = q := ⟨_, rfl⟩
  have QNb := Lib.hid hqb
  have hqbn : qbn ≤ nb := by rw [← hqb]; exact inpN_le _ _
  have hnb2 : nb ≤ 12 := by have := goodG_len qb; have := HXb.out; omega
  have HGb := Lib.hid qb
  have ENb : Hid (nIn ys = qbn) := Lib.hid (by unfold nIn; rw [HXb.out]; exact hqb)
  have HQb : Hid (qbn = (inpN ys nb).length) := Lib.hid hqb.symm
  clear hqb
  by_cases hne : qan ≠ qbn
  · have E := Lib.hid (rAlw_no HR.out (.inr (.inr (by rw [ENa.out, ENb.out]; exact hne))))
    have em : ((qan : Int) != (qbn : Int)) = true := by simp; omega
    go_enter Try.func42, Try.ntmps42
    go_wp2_with fail
    refine (implGoodG_any _ _ _ xs _ hla HXa hna).mono ?_
    rintro e w1 ⟨rfl, hb⟩
    rw [qa]
    have B1 := Lib.hid hb
    clear hb
    go_wp2_with fail
    refine (implGoodG_any _ _ _ ys _ (Lib.hid (hlb.out.below B1.out)) HXb hnb).mono ?_
    rintro e w2 ⟨rfl, hb⟩
    rw [qb]
    have B2 := Lib.hid (Below.tr B1.out hb)
    clear hb
    go_wp2_with fail
    refine (inputsI_any _ _ _ xs _ (Lib.hid (hla.out.below B2.out)) HXa hna).mono ?_
    rintro e w3 ⟨A3, c3, rfl, _, hb⟩
    rw [inpI_len, QNa.out]
    have B3 := Lib.hid (Below.tr B2.out hb)
    clear hb
    go_wp2_with fail
    refine (inputsI_any _ _ _ ys _ (Lib.hid (hlb.out.below B3.out)) HXb hnb).mono ?_
    rintro e w4 ⟨A4, c4, rfl, _, hb⟩
    rw [inpI_len, QNb.out]
    have B4 := Lib.hid (Below.tr B3.out hb)
    clear hb
    go_wp2
    go_ret2
    exact ⟨(ret_bbG E.out), B4.out⟩
  obtain rfl : qan = qbn := by omega
  clear hne
  have em : ((qan : Int) != (qan : Int)) = false := by simp
  obtain ⟨f, l, hf⟩ := findR_any (fun N => outG xs (modelN qan N) != outG ys (modelN qan N)) qan (2 ^ qan)
  have HF := Lib.hid hf
  have E := Lib.hid (rAlw_yes HR.out qa qb (by rw [ENa.out, ENb.out]) (f := f) (l := l) (by rw [ENa.out]; exact hf))
  clear hf
  go_enter Try.func42, Try.ntmps42
  go_wp2_with fail
  refine (implGoodG_any _ _ _ xs _ hla HXa hna).mono ?_
  rintro e w1 ⟨rfl, hb⟩
  rw [qa]
  have B1 := Lib.hid hb
  clear hb
  go_wp2_with fail
  refine (implGoodG_any _ _ _ ys _ (Lib.hid (hlb.out.below B1.out)) HXb hnb).mono ?_
  rintro e w2 ⟨rfl, hb⟩
  rw [qb]
  have B2 := Lib.hid (Below.tr B1.out hb)
  clear hb
  go_wp2_with fail
  refine (inputsI_any _ _ _ xs _ (Lib.hid (hla.out.below B2.out)) HXa hna).mono ?_
  rintro e w3 ⟨A3, c3, rfl, _, hb⟩
  rw [inpI_len, QNa.out]
  have B3 := Lib.hid (Below.tr B2.out hb)
  clear hb
  go_wp2_with fail
  refine (inputsI_any _ _ _ ys _ (Lib.hid (hlb.out.below B3.out)) HXb hnb).mono ?_
  rintro e w4 ⟨A4, c4, rfl, _, hb⟩
  rw [inpI_len, QNb.out]
  have B4 := Lib.hid (Below.tr B3.out hb)
  clear hb
  go_wp2_with fail
  refine (outputOf_any _ na _ xs _ (Lib.hid (hla.out.below B4.out)) HXa hna2 HGa).mono ?_
  rintro e w5 ⟨ga, rfl, ho, hb⟩
  have B5 := Lib.hid (Below.tr B4.out hb)
  have OUa := Lib.hid ho
  clear ho hb
  go_wp2_with fail
  refine (outputOf_any _ nb _ ys _ (Lib.hid (hlb.out.below B5.out)) HXb hnb2 HGb).mono ?_
  rintro e w6 ⟨gb, rfl, ho, hb⟩
  have B6 := Lib.hid (Below.tr B5.out hb)
  have OUb := Lib.hid ho
  have OUa2 := Lib.hid (OUa.out.below hb)
  clear ho hb
  go_wp2_with fail
  refine (firstD_any qan w6.heap.size (w6.heap.size + 1) na nb xs ys _ f l (by omega) HF (Lib.hid (dif_new OUa2.out OUb.out)) HXa hna2 HGa HXb hnb2 HGb HQa HQb).mono ?_
  rintro e w7 ⟨A7, c7, rfl, _, hb⟩
  have B7 := Lib.hid (Below.tr (Below.tr B6.out (below2 _ _ _)) hb)
  clear hb
  go_wp2
  go_ret2
  exact ⟨(ret_bbG E.out), B7.out⟩
end Go.Proofs.Ytklcfbjaodildaa
