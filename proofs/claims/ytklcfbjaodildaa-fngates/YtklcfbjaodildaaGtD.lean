/-
  Propagation from the inputs' values derives every gate's value, on plain lists.
-/
import Derived.Test.YtklcfbjaodildaaGi6
import Derived.Test.YtklcfbjaodildaaGi7
import Derived.Test.YtklcfbjaodildaaCur0
import Derived.Test.YtklcfbjaodildaaBytes
import Derived.Test.YtklcfbjaodildaaLawH
import Derived.Test.YtklcfbjaodildaaGtSem
namespace Go.Proofs.Ytklcfbjaodildaa
open Go.ChangeShapes Go.WideShapes Go.ChangeAt Go.RowKit

theorem FindR.of {p : Nat → Bool} {m T : Nat} {f : Bool} {l : List Bool} (h : (match (List.range T).find? p with | some n => f = true ∧ l = modelN m n | none => f = false ∧ l = [])) : FindR p m T f l := by
  cases e : (List.range T).find? p with
  | none =>
    rw [e] at h
    refine .inr ⟨fun j hj => ?_, h⟩
    rw [List.find?_eq_none] at e
    simpa using e j (by simpa using hj)
  | some k =>
    rw [e] at h
    rw [List.find?_range_eq_some] at e
    exact .inl ⟨k, by simpa using e.2.1, fun j hj => by simpa using e.2.2 j hj, e.1, h⟩
theorem rCan_yes {xs : List Gt} {r0 : Bool} {r1 : List Bool} {r2 : Bool} (h : rCan xs = (r0, r1, r2)) (hg : goodGB xs = true) : FindR (fun N => outG xs (modelN (nIn xs) N)) (nIn xs) (2 ^ nIn xs) r0 r1 ∧ r2 = true := by
  unfold rCan at h
  rw [if_pos hg] at h
  cases e : canF xs with
  | none =>
    rw [e] at h
    simp only [Prod.mk.injEq] at h
    obtain ⟨rfl, rfl, rfl⟩ := h
    refine ⟨FindR.of ?_, rfl⟩
    unfold canF at e
    rw [e]
    exact ⟨rfl, rfl⟩
  | some k =>
    rw [e] at h
    simp only [Prod.mk.injEq] at h
    obtain ⟨rfl, rfl, rfl⟩ := h
    refine ⟨FindR.of ?_, rfl⟩
    unfold canF at e
    rw [e]
    exact ⟨rfl, rfl⟩
theorem rCan_no {xs : List Gt} {r0 : Bool} {r1 : List Bool} {r2 : Bool} (h : rCan xs = (r0, r1, r2)) (hg : goodGB xs = false) : r0 = false ∧ r1 = [] ∧ r2 = false := by
  unfold rCan at h
  rw [hg] at h
  simp at h
  exact ⟨h.1, h.2.1, h.2.2⟩
theorem rAlw_no {xs ys : List Gt} {r0 r1 : Bool} (h : rAlw xs ys = (r0, r1)) (hg : goodGB xs = false ∨ goodGB ys = false ∨ nIn xs ≠ nIn ys) : r0 = false ∧ r1 = false := by
  unfold rAlw at h
  rw [if_neg (by rintro ⟨a, b, c⟩; rcases hg with q | q | q; (rw [q] at a; cases a); (rw [q] at b; cases b); exact q c)] at h
  simp at h
  exact h
theorem rAlw_yes {xs ys : List Gt} {r0 r1 : Bool} (h : rAlw xs ys = (r0, r1)) (hg : goodGB xs = true) (hg2 : goodGB ys = true) (hn : nIn xs = nIn ys) {f : Bool} {l : List Bool} (hf : FindR (fun N => outG xs (modelN (nIn xs) N) != outG ys (modelN (nIn xs) N)) (nIn xs) (2 ^ nIn xs) f l) : r0 = !f ∧ r1 = true := by
  unfold rAlw at h
  rw [if_pos ⟨hg, hg2, hn⟩] at h
  simp only [Prod.mk.injEq] at h
  refine ⟨?_, h.2.symm⟩
  rw [← h.1]
  cases e : diffF xs ys with
  | none =>
    unfold diffF at e
    rw [List.find?_eq_none] at e
    have := (hf.end_ (fun j hj => by simpa using e j (by simpa using hj))).1
    rw [this]; rfl
  | some k =>
    unfold diffF at e
    rw [List.find?_range_eq_some] at e
    have := (hf.at (by simpa using e.2.1) (fun j hj => by simpa using e.2.2 j hj) e.1).1
    rw [this]; rfl
theorem rCan_len {xs : List Gt} {r0 : Bool} {r1 : List Bool} {r2 : Bool} (h : rCan xs = (r0, r1, r2)) : r1.length ≤ 1000 := by
  cases hg : goodGB xs
  · rw [(rCan_no h hg).2.1]; simp
  · have := goodG_len hg
    have h2 := inpN_le xs xs.length
    rcases (rCan_yes h hg).1 with ⟨k, _, _, _, _, rfl⟩ | ⟨_, _, rfl⟩
    · rw [modelN_len]; unfold nIn; omega
    · simp
/-- it answers a bool, a slice of bools of its own, and a bool -/
def GaveCan (w : World) (f : Bool) (l : List Bool) (b : Bool) (e : Ending) (w' : World) : Prop :=
  ∃ A c, e = .returned (.tuple #[.bool f, .slice A l.length c, .bool b]) ∧ w'.ownsRow w.heap.size 4 1 (.slice A l.length c) l.length (l.map Value.bool) ∧ Below w.heap.size w w'
theorem can_no {w w1 : World} {f : Bool} {l : List Bool} {b : Bool} (h : f = false ∧ l = [] ∧ b = false) (hb : Below w.heap.size w w1) : GaveCan w f l b (.returned (.tuple #[.bool false, .slice none 0 0, .bool false])) w1 := by
  obtain ⟨rfl, rfl, rfl⟩ := h
  exact ⟨none, 0, rfl, World.ownsRow_nil _ _ _ _, hb⟩
theorem ret_bbG {a b c d : Bool} (h : a = c ∧ b = d) : Ending.returned (.tuple #[.bool c, .bool d]) = .returned (.tuple #[.bool a, .bool b]) := by rw [h.1, h.2]
theorem dif_new {w : World} {t : TypeId} {pa pb na nb : Nat} {xs ys : List Gt} (h1 : OutIs w pa na xs) (h2 : OutIs w pb nb ys) : DifIs ((w.alloc (.cells #[.func (.func 141) #[] #[.pointer (some ⟨pa, 0, none⟩)]] t)).alloc (.cells #[.func (.func 141) #[] #[.pointer (some ⟨pb, 0, none⟩)]] t)) w.heap.size (w.heap.size + 1) na nb xs ys := by
  have k0 : Blk ((w.alloc (.cells #[.func (.func 141) #[] #[.pointer (some ⟨pa, 0, none⟩)]] t)).alloc (.cells #[.func (.func 141) #[] #[.pointer (some ⟨pb, 0, none⟩)]] t)) w.heap.size t [.func (.func 141) #[] #[.pointer (some ⟨pa, 0, none⟩)]] := Blk.below (heap_alloc_new w _) (below1 _ _)
  have k1 : Blk ((w.alloc (.cells #[.func (.func 141) #[] #[.pointer (some ⟨pa, 0, none⟩)]] t)).alloc (.cells #[.func (.func 141) #[] #[.pointer (some ⟨pb, 0, none⟩)]] t)) (w.heap.size + 1) t [.func (.func 141) #[] #[.pointer (some ⟨pb, 0, none⟩)]] := by
    have := heap_alloc_new (w.alloc (.cells #[.func (.func 141) #[] #[.pointer (some ⟨pa, 0, none⟩)]] t)) (.cells #[.func (.func 141) #[] #[.pointer (some ⟨pb, 0, none⟩)]] t)
    rw [show (w.alloc (.cells #[.func (.func 141) #[] #[.pointer (some ⟨pa, 0, none⟩)]] t)).heap.size = w.heap.size + 1 by simp] at this
    exact this
  exact ⟨k0.lt, k1.lt, pa, pb, k0.cell 0, k1.cell 0, h1.below (below2 _ _ _), h2.below (below2 _ _ _)⟩
set_option maxRecDepth 100000 in
set_option maxHeartbeats 4000000 in
theorem implCan_any (A : Option Addr) (n cap : Nat) (xs : List Gt) (w : World) (r0 : Bool) (r1 : List Bool) (r2 : Bool) (HR : Hid (rCan xs = (r0, r1, r2))) (hl : Hid (GLies w A xs)) (HX : Hid (xs.length = n)) (hn : n ≤ 1048576) :
    Calls Try.prog 31 #[.slice A n cap] w (GaveCan w r0 r1 r2) := by
  cases q1 : goodGB xs
  · have E := Lib.hid (rCan_no HR.out q1)
    go_enter Try.func31, Try.ntmps31
    go_wp2_with (go_at_call 35; refine (implGoodG_any _ _ _ xs _ hl HX hn).mono ?_; rintro e w1 ⟨rfl, hb1⟩; rw [q1]; have B1 := Lib.hid hb1; clear hb1)
    go_ret3
    exact can_no E.out B1.out
  obtain ⟨q, hq⟩ : ∃ q, (inpN xs n).length = q := ⟨_, rfl⟩
  have QN := Lib.hid hq
  have hqn : q ≤ n := by rw [← hq]; exact inpN_le _ _
  have hn12 : n ≤ 12 := by have := goodG_len q1; have := HX.out; omega
  have HG := Lib.hid q1
  have EN : Hid (nIn xs = q) := Lib.hid (by unfold nIn; rw [HX.out]; exact hq)
  have HQ : Hid (q = (inpN xs n).length) := Lib.hid hq.symm
  clear hq
  have E := Lib.hid (rCan_yes HR.out q1)
  rw [EN.out] at E
  have HF := Lib.hid E.out.1
  have E2 := Lib.hid E.out.2
  clear E
  go_enter Try.func31, Try.ntmps31
  go_wp2_with fail
  refine (implGoodG_any _ _ _ xs _ hl HX hn).mono ?_
  rintro e w1 ⟨rfl, hb1⟩
  rw [q1]
  have B1 := Lib.hid hb1
  clear hb1
  go_wp2_with fail
  refine (inputsI_any _ _ _ xs _ (Lib.hid (hl.out.below B1.out)) HX hn).mono ?_
  rintro e w2 ⟨A2, c2, rfl, _, hb2⟩
  rw [inpI_len, QN.out]
  have B2 := Lib.hid (Below.tr B1.out hb2)
  clear hb2
  go_wp2_with fail
  refine (outputOf_any _ n _ xs _ (Lib.hid (hl.out.below B2.out)) HX hn12 HG).mono ?_
  rintro e w3 ⟨g3, rfl, ho3, hb3⟩
  have OU := Lib.hid ho3
  have B3 := Lib.hid (Below.tr B2.out hb3)
  clear ho3 hb3
  go_wp2_with fail
  refine (firstO_any q g3 n xs _ r0 r1 (by omega) HF OU HX hn12 HG HQ).mono ?_
  rintro e w4 ⟨A4, c4, rfl, ho4, hb4⟩
  have O4 := Lib.hid (own_baseG ho4 B3.out.size)
  have B4 := Lib.hid (Below.tr B3.out hb4)
  clear ho4 hb4
  go_wp2
  go_ret3
  exact ⟨A4, c4, by rw [E2.out]; rfl, O4.out, B4.out⟩
set_option maxRecDepth 100000 in
set_option maxHeartbeats 8000000 in
theorem implAlw_any (A : Option Addr) (na cap : Nat) (B : Option Addr) (nb cap2 : Nat) (xs ys : List Gt) (w : World) (r0 r1 : Bool) (HR : Hid (rAlw xs ys = (r0, r1))) (hla : Hid (GLies w A xs)) (HXa : Hid (xs.length = na)) (hna : na ≤ 1048576) (hlb : Hid (GLies w B ys)) (HXb : Hid (ys.length = nb)) (hnb : nb ≤ 1048576) :
    Calls Try.prog 42 #[.slice A na cap, .slice B nb cap2] w fun e w' => e = .returned (.tuple #[.bool r0, .bool r1]) ∧ Below w.heap.size w w' := by
  cases qa : goodGB xs
  · have E := Lib.hid (rAlw_no HR.out (.inl qa))
    go_enter Try.func42, Try.ntmps42
    go_wp2_with fail
    refine (implGoodG_any _ _ _ xs _ hla HXa hna).mono ?_
    rintro e w1 ⟨rfl, hb⟩
    rw [qa]
    have B1 := Lib.hid hb
    clear hb
    go_wp2
    go_ret2
    exact ⟨(ret_bbG E.out), B1.out⟩
  cases qb : goodGB ys
  · have E := Lib.hid (rAlw_no HR.out (.inr (.inl qb)))
    go_enter Try.func42, Try.ntmps42
    go_wp2_with fail
    refine (implGoodG_any _ _ _ xs _ hla HXa hna).mono ?_
    rintro e w1 ⟨rfl, hb⟩
    rw [qa]
    have B1 := Lib.hid hb
    clear hb
    go_wp2_with fail
    refine (implGoodG_any _ _ _ ys _ (Lib.hid (hlb.out.below B1.out)) HXb hnb).mono ?_
    rintro e w2 ⟨rfl, hb⟩
    rw [qb]
    have B2 := Lib.hid (Below.tr B1.out hb)
    clear hb
    go_wp2
    go_ret2
    exact ⟨(ret_bbG E.out), B2.out⟩
  obtain ⟨qan, hqa⟩ : ∃ q, (inpN xs na).length = q := ⟨_, rfl⟩
  have QNa := Lib.hid hqa
  have hqan : qan ≤ na := by rw [← hqa]; exact inpN_le _ _
  have hna2 : na ≤ 12 := by have := goodG_len qa; have := HXa.out; omega
  have HGa := Lib.hid qa
  have ENa : Hid (nIn xs = qan) := Lib.hid (by unfold nIn; rw [HXa.out]; exact hqa)
  have HQa : Hid (qan = (inpN xs na).length) := Lib.hid hqa.symm
  clear hqa
  obtain ⟨qbn, hqb⟩ : ∃ q, (inpN ys nb).length = q := ⟨_, rfl⟩
  have QNb := Lib.hid hqb
  have hqbn : qbn ≤ nb := by rw [← hqb]; exact inpN_le _ _
  have hnb2 : nb ≤ 12 := by have := goodG_len qb; have := HXb.out; omega
  have HGb := Lib.hid qb
  have ENb : Hid (nIn ys = qbn) := Lib.hid (by unfold nIn; rw [HXb.out]; exact hqb)
  have HQb : Hid (qbn = (inpN ys nb).length) := Lib.hid hqb.symm
  clear hqb
  by_cases hne : qan ≠ qbn
  · have E := Lib.hid (rAlw_no HR.out (.inr (.inr (by rw [ENa.out, ENb.out]; exact hne))))
    have em : ((qan : Int) != (qbn : Int)) = true := by simp; omega
    go_enter Try.func42, Try.ntmps42
    go_wp2_with fail
    refine (implGoodG_any _ _ _ xs _ hla HXa hna).mono ?_
    rintro e w1 ⟨rfl, hb⟩
    rw [qa]
    have B1 := Lib.hid hb
    clear hb
    go_wp2_with fail
    refine (implGoodG_any _ _ _ ys _ (Lib.hid (hlb.out.below B1.out)) HXb hnb).mono ?_
    rintro e w2 ⟨rfl, hb⟩
    rw [qb]
    have B2 := Lib.hid (Below.tr B1.out hb)
    clear hb
    go_wp2_with fail
    refine (inputsI_any _ _ _ xs _ (Lib.hid (hla.out.below B2.out)) HXa hna).mono ?_
    rintro e w3 ⟨A3, c3, rfl, _, hb⟩
    rw [inpI_len, QNa.out]
    have B3 := Lib.hid (Below.tr B2.out hb)
    clear hb
    go_wp2_with fail
    refine (inputsI_any _ _ _ ys _ (Lib.hid (hlb.out.below B3.out)) HXb hnb).mono ?_
    rintro e w4 ⟨A4, c4, rfl, _, hb⟩
    rw [inpI_len, QNb.out]
    have B4 := Lib.hid (Below.tr B3.out hb)
    clear hb
    go_wp2
    go_ret2
    exact ⟨(ret_bbG E.out), B4.out⟩
  obtain rfl : qan = qbn := by omega
  clear hne
  have em : ((qan : Int) != (qan : Int)) = false := by simp
  obtain ⟨f, l, hf⟩ := findR_any (fun N => outG xs (modelN qan N) != outG ys (modelN qan N)) qan (2 ^ qan)
  have HF := Lib.hid hf
  have E := Lib.hid (rAlw_yes HR.out qa qb (by rw [ENa.out, ENb.out]) (f := f) (l := l) (by rw [ENa.out]; exact hf))
  clear hf
  go_enter Try.func42, Try.ntmps42
  go_wp2_with fail
  refine (implGoodG_any _ _ _ xs _ hla HXa hna).mono ?_
  rintro e w1 ⟨rfl, hb⟩
  rw [qa]
  have B1 := Lib.hid hb
  clear hb
  go_wp2_with fail
  refine (implGoodG_any _ _ _ ys _ (Lib.hid (hlb.out.below B1.out)) HXb hnb).mono ?_
  rintro e w2 ⟨rfl, hb⟩
  rw [qb]
  have B2 := Lib.hid (Below.tr B1.out hb)
  clear hb
  go_wp2_with fail
  refine (inputsI_any _ _ _ xs _ (Lib.hid (hla.out.below B2.out)) HXa hna).mono ?_
  rintro e w3 ⟨A3, c3, rfl, _, hb⟩
  rw [inpI_len, QNa.out]
  have B3 := Lib.hid (Below.tr B2.out hb)
  clear hb
  go_wp2_with fail
  refine (inputsI_any _ _ _ ys _ (Lib.hid (hlb.out.below B3.out)) HXb hnb).mono ?_
  rintro e w4 ⟨A4, c4, rfl, _, hb⟩
  rw [inpI_len, QNb.out]
  have B4 := Lib.hid (Below.tr B3.out hb)
  clear hb
  go_wp2_with fail
  refine (outputOf_any _ na _ xs _ (Lib.hid (hla.out.below B4.out)) HXa hna2 HGa).mono ?_
  rintro e w5 ⟨ga, rfl, ho, hb⟩
  have B5 := Lib.hid (Below.tr B4.out hb)
  have OUa := Lib.hid ho
  clear ho hb
  go_wp2_with fail
  refine (outputOf_any _ nb _ ys _ (Lib.hid (hlb.out.below B5.out)) HXb hnb2 HGb).mono ?_
  rintro e w6 ⟨gb, rfl, ho, hb⟩
  have B6 := Lib.hid (Below.tr B5.out hb)
  have OUb := Lib.hid ho
  have OUa2 := Lib.hid (OUa.out.below hb)
  clear ho hb
  go_wp2_with fail
  refine (firstD_any qan w6.heap.size (w6.heap.size + 1) na nb xs ys _ f l (by omega) HF (Lib.hid (dif_new OUa2.out OUb.out)) HXa hna2 HGa HXb hnb2 HGb HQa HQb).mono ?_
  rintro e w7 ⟨A7, c7, rfl, _, hb⟩
  have B7 := Lib.hid (Below.tr (Below.tr B6.out (below2 _ _ _)) hb)
  clear hb
  go_wp2
  go_ret2
  exact ⟨(ret_bbG E.out), B7.out⟩

set_option maxRecDepth 100000 in
set_option maxHeartbeats 8000000 in
theorem specCan_any (A : Option Addr) (n cap : Nat) (xs : List Gt) (w : World) (r0 : Bool) (r1 : List Bool) (r2 : Bool) (HR : Hid (rCan xs = (r0, r1, r2))) (hl : Hid (GLies w A xs)) (HX : Hid (xs.length = n)) (hn : n ≤ 1048576) :
    Calls Try.prog 32 #[.slice A n cap] w (GaveCan w r0 r1 r2) := by
  cases q1 : goodGB xs
  · have E := Lib.hid (rCan_no HR.out q1)
    go_enter Try.func32, Try.ntmps32
    go_wp2_with (go_at_call 60; refine (specGoodG_any _ _ _ xs _ hl HX hn).mono ?_; rintro e w1 ⟨rfl, hb1⟩; rw [q1]; have B1 := Lib.hid hb1; clear hb1)
    go_ret3
    exact can_no E.out B1.out
  obtain ⟨q, hq⟩ : ∃ q, (inpN xs n).length = q := ⟨_, rfl⟩
  have QN := Lib.hid hq
  have hqn : q ≤ n := by rw [← hq]; exact inpN_le _ _
  have hn12 : n ≤ 12 := by have := goodG_len q1; have := HX.out; omega
  have h1n : 1 ≤ n := by have := goodG_len q1; have := HX.out; omega
  have HG := Lib.hid q1
  have EN : Hid (nIn xs = q) := Lib.hid (by unfold nIn; rw [HX.out]; exact hq)
  have HQ : Hid (q = (inpN xs n).length) := Lib.hid hq.symm
  clear hq
  have E := Lib.hid (rCan_yes HR.out q1)
  rw [EN.out] at E
  have E2 := Lib.hid E.out.2
  have HF := Lib.hid E.out.1
  clear E
  obtain ⟨T, hT⟩ : ∃ T : Nat, 2 ^ q = T := ⟨_, rfl⟩
  have hq12 : q ≤ 12 := by omega
  have hT2 : T ≤ 4096 := by rw [← hT]; exact pow_le hq12
  have hsh := shl_one q hq12
  rw [hT] at hsh HF
  have hsh2 : IntKind.i64.wrap (2 ^ q) = (T : Int) := by rw [← hsh, Int.one_mul]
  obtain ⟨p, hp⟩ : ∃ p, n - 1 = p := ⟨_, rfl⟩
  have hpn : p < n := by omega
  have hpe : (n : Int) - 1 = (p : Int) := by omega
  have HP := Lib.hid hp
  clear hT hp
  go_enter Try.func32, Try.ntmps32
  go_wp2_with fail
  refine (specGoodG_any _ _ _ xs _ hl HX hn).mono ?_
  rintro e w1 ⟨rfl, hb1⟩
  rw [q1]
  have B1 := Lib.hid hb1
  clear hb1
  go_wp2_with fail
  refine (inputsS_any _ _ _ xs _ (Lib.hid (hl.out.below B1.out)) HX hn).mono ?_
  rintro e w2 ⟨A2, c2, rfl, _, hb2⟩
  rw [inpI_len, QN.out]
  have B2 := Lib.hid (Below.tr B1.out hb2)
  clear hb2
  go_wp2_with fail
  go_loopw [6] (fun i wr => ∃ k : Nat, k ≤ T ∧ i = .int .i64 k ∧ (∀ j, j < k → outG xs (modelN q j) = false) ∧ Below w.heap.size w wr) (fun i _ => T - (intOf i).toNat)
  case atStart => exact ⟨0, Nat.zero_le _, rfl, fun j hj => absurd hj (Nat.not_lt_zero _), B2.out⟩
  case round =>
    obtain ⟨k, hk, rfl, hno, hb⟩ := hrel
    have NO := Lib.hid hno
    have B3 := Lib.hid hb
    clear hno hb
    by_cases hlt : k < T
    · go_wp2_with fail
      refine (l4Model_any q k _ (by omega) (by omega)).mono ?_
      rintro e w4 ⟨rfl, hk1, hb1⟩
      have M1 := Lib.hid hk1.blies
      have B4 := Lib.hid (Below.tr B3.out hb1)
      have O1 := Lib.hid (own_baseG (own_of_vblk (n := q) hk1 (by rw [List.length_map, modelN_len]) (by omega)) B3.out.size)
      clear hk1 hb1
      go_wp2_with fail
      refine (evalS_any _ _ n q _ _ xs (modelN q k) _ (Lib.hid (hl.out.below B4.out)) HX hn12 HG M1 (Lib.hid (modelN_len q k)) HQ).mono ?_
      rintro e w5 ⟨A5, c5, rfl, ho5, hb5⟩
      have OO := own_blies ho5
      rw [evK_len] at *
      obtain ⟨b5, off5, rfl, hbl5, c5'⟩ := OO (n - 1) _ (outG_at HX.out h1n)
      rw [HP.out] at c5'
      have B5 := Lib.hid (Below.tr B4.out hb5)
      have O5 := Lib.hid (own_below O1.out hb5)
      clear ho5 hb5 OO
      cases hv : outG xs (modelN q k)
      · have N2 := Lib.hid (find_step (p := fun N => outG xs (modelN q N)) NO.out hv)
        rw [hv] at c5'
        go_wp2
        go_roundw
        case rel => exact ⟨k + 1, by omega, by go_num, N2.out, B5.out⟩
        case measure => simp [intOf]; omega
      · have E := Lib.hid (HF.out.at hlt NO.out hv)
        rw [hv] at c5'
        go_wp2
        go_ret3
        exact ⟨_, q, by rw [E.out.1, E.out.2, E2.out, modelN_len]; rfl, by rw [E.out.2, modelN_len]; exact O5.out, B5.out⟩
    · obtain rfl : k = T := by omega
      have E := Lib.hid (HF.out.end_ NO.out)
      go_wp2
      go_ret3
      exact ⟨none, 0, by rw [E.out.1, E.out.2, E2.out]; rfl, by rw [E.out.2]; exact World.ownsRow_nil _ _ _ _, B3.out⟩
set_option maxRecDepth 100000 in
set_option maxHeartbeats 8000000 in
theorem specAlw_any (A : Option Addr) (na cap : Nat) (B : Option Addr) (nb cap2 : Nat) (xs ys : List Gt) (w : World) (r0 r1 : Bool) (HR : Hid (rAlw xs ys = (r0, r1))) (hla : Hid (GLies w A xs)) (HXa : Hid (xs.length = na)) (hna : na ≤ 1048576) (hlb : Hid (GLies w B ys)) (HXb : Hid (ys.length = nb)) (hnb : nb ≤ 1048576) :
    Calls Try.prog 43 #[.slice A na cap, .slice B nb cap2] w fun e w' => e = .returned (.tuple #[.bool r0, .bool r1]) ∧ Below w.heap.size w w' := by
  cases qa : goodGB xs
  · have E := Lib.hid (rAlw_no HR.out (.inl qa))
    go_enter Try.func43, Try.ntmps43
    go_wp2_with fail
    refine (specGoodG_any _ _ _ xs _ hla HXa hna).mono ?_
    rintro e w1 ⟨rfl, hb⟩
    rw [qa]
    have B1 := Lib.hid hb
    clear hb
    go_wp2
    go_ret2
    exact ⟨(ret_bbG E.out), B1.out⟩
  cases qb : goodGB ys
  · have E := Lib.hid (rAlw_no HR.out (.inr (.inl qb)))
    go_enter Try.func43, Try.ntmps43
    go_wp2_with fail
    refine (specGoodG_any _ _ _ xs _ hla HXa hna).mono ?_
    rintro e w1 ⟨rfl, hb⟩
    rw [qa]
    have B1 := Lib.hid hb
    clear hb
    go_wp2_with fail
    refine (specGoodG_any _ _ _ ys _ (Lib.hid (hlb.out.below B1.out)) HXb hnb).mono ?_
    rintro e w2 ⟨rfl, hb⟩
    rw [qb]
    have B2 := Lib.hid (Below.tr B1.out hb)
    clear hb
    go_wp2
    go_ret2
    exact ⟨(ret_bbG E.out), B2.out⟩
  obtain ⟨qan, hqa⟩ : ∃ q, (inpN xs na).length = q := ⟨_, rfl⟩
  have QNa := Lib.hid hqa
  have hqan : qan ≤ na := by rw [← hqa]; exact inpN_le _ _
  have hna2 : na ≤ 12 := by have := goodG_len qa; have := HXa.out; omega
  have HGa := Lib.hid qa
  have ENa : Hid (nIn xs = qan) := Lib.hid (by unfold nIn; rw [HXa.out]; exact hqa)
  have HQa : Hid (qan = (inpN xs na).length) := Lib.hid hqa.symm
  clear hqa
  obtain ⟨qbn, hqb⟩ : ∃ q, (inpN ys nb).length = q := ⟨_, rfl⟩
  have QNb := Lib.hid hqb
  have hqbn : qbn ≤ nb := by rw [← hqb]; exact inpN_le _ _
  have hnb2 : nb ≤ 12 := by have := goodG_len qb; have := HXb.out; omega
  have HGb := Lib.hid qb
  have ENb : Hid (nIn ys = qbn) := Lib.hid (by unfold nIn; rw [HXb.out]; exact hqb)
  have HQb : Hid (qbn = (inpN ys nb).length) := Lib.hid hqb.symm
  clear hqb
  by_cases hne : qan ≠ qbn
  · have E := Lib.hid (rAlw_no HR.out (.inr (.inr (by rw [ENa.out, ENb.out]; exact hne))))
    have em : ((qan : Int) != (qbn : Int)) = true := by simp; omega
    go_enter Try.func43, Try.ntmps43
    go_wp2_with fail
    refine (specGoodG_any _ _ _ xs _ hla HXa hna).mono ?_
    rintro e w1 ⟨rfl, hb⟩
    rw [qa]
    have B1 := Lib.hid hb
    clear hb
    go_wp2_with fail
    refine (specGoodG_any _ _ _ ys _ (Lib.hid (hlb.out.below B1.out)) HXb hnb).mono ?_
    rintro e w2 ⟨rfl, hb⟩
    rw [qb]
    have B2 := Lib.hid (Below.tr B1.out hb)
    clear hb
    go_wp2_with fail
    refine (inputsS_any _ _ _ xs _ (Lib.hid (hla.out.below B2.out)) HXa hna).mono ?_
    rintro e w3 ⟨A3, c3, rfl, _, hb⟩
    rw [inpI_len, QNa.out]
    have B3 := Lib.hid (Below.tr B2.out hb)
    clear hb
    go_wp2_with fail
    refine (inputsS_any _ _ _ ys _ (Lib.hid (hlb.out.below B3.out)) HXb hnb).mono ?_
    rintro e w4 ⟨A4, c4, rfl, _, hb⟩
    rw [inpI_len, QNb.out]
    have B4 := Lib.hid (Below.tr B3.out hb)
    clear hb
    go_wp2
    go_ret2
    exact ⟨(ret_bbG E.out), B4.out⟩
  obtain rfl : qan = qbn := by omega
  clear hne
  have em : ((qan : Int) != (qan : Int)) = false := by simp
  obtain ⟨f, l, hf⟩ := findR_any (fun N => outG xs (modelN qan N) != outG ys (modelN qan N)) qan (2 ^ qan)
  have HF := Lib.hid hf
  have E := Lib.hid (rAlw_yes HR.out qa qb (by rw [ENa.out, ENb.out]) (f := f) (l := l) (by rw [ENa.out]; exact hf))
  clear hf
  obtain ⟨T, hT⟩ : ∃ T : Nat, 2 ^ qan = T := ⟨_, rfl⟩
  have hq12 : qan ≤ 12 := by omega
  have hT2 : T ≤ 4096 := by rw [← hT]; exact pow_le hq12
  have hsh := shl_one qan hq12
  rw [hT] at hsh HF
  have hsh2 : IntKind.i64.wrap (2 ^ qan) = (T : Int) := by rw [← hsh, Int.one_mul]
  clear hT
  have h1na : 1 ≤ na := by have := goodG_len qa; have := HXa.out; omega
  obtain ⟨pa, hpa⟩ : ∃ p, na - 1 = p := ⟨_, rfl⟩
  have hpan : pa < na := by omega
  have hwra : IntKind.i64.wrap ((na : Int) - 1) = (pa : Int) := by rw [IntKind.wrap_i64]; omega
  have HPa := Lib.hid hpa
  clear hpa
  have h1nb : 1 ≤ nb := by have := goodG_len qb; have := HXb.out; omega
  obtain ⟨pb, hpb⟩ : ∃ p, nb - 1 = p := ⟨_, rfl⟩
  have hpbn : pb < nb := by omega
  have hwrb : IntKind.i64.wrap ((nb : Int) - 1) = (pb : Int) := by rw [IntKind.wrap_i64]; omega
  have HPb := Lib.hid hpb
  clear hpb
  go_enter Try.func43, Try.ntmps43
  go_wp2_with fail
  refine (specGoodG_any _ _ _ xs _ hla HXa hna).mono ?_
  rintro e w1 ⟨rfl, hb⟩
  rw [qa]
  have B1 := Lib.hid hb
  clear hb
  go_wp2_with fail
  refine (specGoodG_any _ _ _ ys _ (Lib.hid (hlb.out.below B1.out)) HXb hnb).mono ?_
  rintro e w2 ⟨rfl, hb⟩
  rw [qb]
  have B2 := Lib.hid (Below.tr B1.out hb)
  clear hb
  go_wp2_with fail
  refine (inputsS_any _ _ _ xs _ (Lib.hid (hla.out.below B2.out)) HXa hna).mono ?_
  rintro e w3 ⟨A3, c3, rfl, _, hb⟩
  rw [inpI_len, QNa.out]
  have B3 := Lib.hid (Below.tr B2.out hb)
  clear hb
  go_wp2_with fail
  refine (inputsS_any _ _ _ ys _ (Lib.hid (hlb.out.below B3.out)) HXb hnb).mono ?_
  rintro e w4 ⟨A4, c4, rfl, _, hb⟩
  rw [inpI_len, QNb.out]
  have B4 := Lib.hid (Below.tr B3.out hb)
  clear hb
  go_wp2_with fail
  refine (inputsS_any _ _ _ xs _ (Lib.hid (hla.out.below B4.out)) HXa hna).mono ?_
  rintro e w5 ⟨A5, c5, rfl, _, hb⟩
  rw [inpI_len, QNa.out]
  have B5 := Lib.hid (Below.tr B4.out hb)
  clear hb
  go_wp2_with fail
  go_loopw [7] (fun i wr => ∃ k : Nat, k ≤ T ∧ i = .int .i64 k ∧ (∀ j, j < k → (outG xs (modelN qan j) != outG ys (modelN qan j)) = false) ∧ Below w.heap.size w wr) (fun i _ => T - (intOf i).toNat)
  case atStart => exact ⟨0, Nat.zero_le _, rfl, fun j hj => absurd hj (Nat.not_lt_zero _), B5.out⟩
  case round =>
    obtain ⟨k, hk, rfl, hno, hb⟩ := hrel
    have NO := Lib.hid hno
    have B6 := Lib.hid hb
    clear hno hb
    by_cases hlt : k < T
    · go_wp2_with fail
      refine (l4Model_any qan k _ (by omega) (by omega)).mono ?_
      rintro e w7 ⟨rfl, hk1, hb1⟩
      have M1 := Lib.hid hk1.blies
      have B7 := Lib.hid (Below.tr B6.out hb1)
      clear hk1 hb1
      go_wp2_with fail
      refine wp_region_any (by kernel_rfl) ?_
      change wpAny _ _ _ _ _ _ _ (World.drew _)
      obtain ⟨w8, hw8⟩ : ∃ W, W = World.drew w7 := ⟨_, rfl⟩
      rw [← hw8]
      have hb8 : Below w7.heap.size w7 w8 := by rw [hw8]; exact (Below.refl _ _).drew
      have M8 := Lib.hid (M1.out.below hb8)
      have B8 := Lib.hid (Below.tr B7.out hb8)
      clear hw8 hb8 M1
      refine wpAny_take (i := 0) (v := ?_) rfl (by kernel_rfl) (by kernel_rfl) (by kernel_rfl) (fun _ _ _ h => h) (Or.inl ⟨by rfl, ?_⟩) ?_
      rotate_left
      · intro W
        go_simp
        try with_reducible rfl
      simp only [Act.put, List.setIfInBounds_toArray]
      refine wpAny_take (i := 1) (v := ?_) rfl (by kernel_rfl) (by kernel_rfl) (by kernel_rfl) (fun _ _ _ h => h) (Or.inl ⟨by rfl, ?_⟩) ?_
      rotate_left
      · intro W
        go_simp
        try with_reducible rfl
      simp only [Act.put]
      refine wpAny_take (i := 3) (v := ?_) rfl (by kernel_rfl) (by kernel_rfl) (by kernel_rfl) (fun _ _ _ h => h) (Or.inl ⟨by rfl, ?_⟩) ?_
      rotate_left
      · intro W
        go_simp
        try with_reducible rfl
      simp only [Act.put]
      refine wpAny_take (i := 4) (v := ?_) rfl (by kernel_rfl) (by kernel_rfl) (by kernel_rfl) (fun _ _ _ h => h) (Or.inl ⟨by rfl, ?_⟩) ?_
      rotate_left
      · intro W
        go_simp
        try with_reducible rfl
      simp only [Act.put]
      refine wpAny_take (i := 5) (v := ?_) rfl (by kernel_rfl) (by kernel_rfl) (by kernel_rfl) (fun _ _ _ h => h) (Or.inl ⟨by rfl, ?_⟩) ?_
      rotate_left
      · intro W
        go_simp
        try with_reducible rfl
      simp only [Act.put]
      refine wpAny_take (i := 8) (v := ?_) rfl (by kernel_rfl) (by kernel_rfl) (by kernel_rfl) (fun _ _ _ h => h) (Or.inl ⟨by rfl, ?_⟩) ?_
      rotate_left
      · intro W
        go_simp
        try with_reducible rfl
      simp only [Act.put]
      refine wpAny_take (i := 9) (v := ?_) rfl (by kernel_rfl) (by kernel_rfl) (by kernel_rfl) (fun _ _ _ h => h) (Or.inl ⟨by rfl, ?_⟩) ?_
      rotate_left
      · intro W
        go_simp
        try with_reducible rfl
      simp only [Act.put]
      refine wpAny_take (i := 11) (v := ?_) rfl (by kernel_rfl) (by kernel_rfl) (by kernel_rfl) (fun _ _ _ h => h) (Or.inl ⟨by rfl, ?_⟩) ?_
      rotate_left
      · intro W
        go_simp
        try with_reducible rfl
      simp only [Act.put]
      refine wpAny_take (i := 12) (v := ?_) rfl (by kernel_rfl) (by kernel_rfl) (by kernel_rfl) (fun _ _ _ h => h) (Or.inl ⟨by rfl, ?_⟩) ?_
      rotate_left
      · intro W
        go_simp
        try with_reducible rfl
      simp only [Act.put]
      refine wpAny_take (i := 13) (v := ?_) rfl (by kernel_rfl) (by kernel_rfl) (by kernel_rfl) (fun _ _ _ h => h) (Or.inl ⟨by rfl, ?_⟩) ?_
      rotate_left
      · intro W
        go_simp
        try with_reducible rfl
      simp only [Act.put]
      refine wpAny_ready (rs := [2]) (by kernel_rfl) (by simp) ?_
      refine AllReady.cons rfl (fun K hK => ?_) AllReady.nil
      go_simp
      refine (evalS_any _ _ na qan _ _ xs (modelN qan k) _ (Lib.hid (hla.out.below B8.out)) HXa hna2 HGa M8 (Lib.hid (modelN_len qan k)) HQa).mono ?_
      rintro e w9 ⟨A9, c9, rfl, ho, hb⟩
      have OO := own_blies ho
      rw [evK_len] at ho ⊢
      obtain ⟨ba, offa, hAa, hbla, ra⟩ := OO (na - 1) _ (outG_at HXa.out h1na)
      subst hAa
      rw [HPa.out] at ra
      obtain ⟨va, hva⟩ : ∃ v, outG xs (modelN qan k) = v := ⟨_, rfl⟩
      rw [hva] at ra
      have Va := Lib.hid hva
      have B9 := Lib.hid (Below.tr B8.out hb)
      have M9 := Lib.hid (M8.out.below hb)
      clear ho hb OO hva
      refine hK _ _ ?_
      clear hK K
      try simp only [Act.put, List.setIfInBounds_toArray, List.set_cons_zero, List.set_cons_succ]
      try simp only [hwra]
      refine wpAny_take (i := 6) (v := ?_) rfl (by kernel_rfl) (by kernel_rfl) (by kernel_rfl) (fun _ _ _ h => h) (Or.inl ⟨by rfl, ?_⟩) ?_
      rotate_left
      · intro W
        go_simp
        try with_reducible rfl
      simp only [Act.put, List.setIfInBounds_toArray]
      refine wpAny_ready (rs := [7, 10]) (by kernel_rfl) (by simp) ?_
      refine AllReady.cons rfl (fun K hK => ?_) (AllReady.cons rfl (fun K hK => ?_) AllReady.nil)
      · go_simp
        refine hK _ _ ?_
        clear hK K
        try simp only [Act.put, List.setIfInBounds_toArray, List.set_cons_zero, List.set_cons_succ]
        refine wpAny_ready (rs := [10]) (by kernel_rfl) (by simp) ?_
        refine AllReady.cons rfl (fun K hK => ?_) AllReady.nil
        go_simp
        refine (evalS_any _ _ nb qan _ _ ys (modelN qan k) _ (Lib.hid (hlb.out.below B9.out)) HXb hnb2 HGb M9 (Lib.hid (modelN_len qan k)) HQb).mono ?_
        rintro e w10 ⟨A10, c10, rfl, ho, hb⟩
        have OO := own_blies ho
        rw [evK_len] at ho ⊢
        obtain ⟨bb, offb, hAb, hblb, rb⟩ := OO (nb - 1) _ (outG_at HXb.out h1nb)
        subst hAb
        rw [HPb.out] at rb
        obtain ⟨vb, hvb⟩ : ∃ v, outG ys (modelN qan k) = v := ⟨_, rfl⟩
        rw [hvb] at rb
        have Vb := Lib.hid hvb
        have B10 := Lib.hid (Below.tr B9.out hb)
        have ra2 := ((bcell hb).1 ba _ hbla).trans ra
        have hbla2 := Nat.lt_of_lt_of_le hbla hb.size
        clear ho hb OO hvb ra hbla
        refine hK _ _ ?_
        clear hK K
        try simp only [Act.put, List.setIfInBounds_toArray, List.set_cons_zero, List.set_cons_succ]
        try simp only [hwrb]
        refine wpAny_take (i := 14) (v := ?_) rfl (by kernel_rfl) (by kernel_rfl) (by kernel_rfl) (fun _ _ _ h => h) (Or.inl ⟨by rfl, ?_⟩) ?_
        rotate_left
        · intro W
          go_simp
          try with_reducible rfl
        simp only [Act.put, List.setIfInBounds_toArray]
        refine wpAny_ready (rs := [15]) (by kernel_rfl) (by simp) ?_
        refine AllReady.cons rfl (fun K hK => ?_) AllReady.nil
        go_simp
        refine hK _ _ ?_
        clear hK K
        try simp only [Act.put, List.setIfInBounds_toArray, List.set_cons_zero, List.set_cons_succ]
        refine wpAny_take (i := 16) (v := ?_) rfl (by kernel_rfl) (by kernel_rfl) (by kernel_rfl) (fun _ _ _ h => h) (Or.inl ⟨by rfl, ?_⟩) ?_
        rotate_left
        · intro W
          go_simp
          try with_reducible rfl
        simp only [Act.put, List.setIfInBounds_toArray]
        refine wpAny_done (by kernel_rfl) ?_ _
        cases va
        · cases vb
          · have N2 := Lib.hid (find_step (p := fun N => outG xs (modelN qan N) != outG ys (modelN qan N)) NO.out (by show (outG xs (modelN qan k) != outG ys (modelN qan k)) = false; rw [Va.out, Vb.out]; rfl))
            go_wp2
            go_roundw
            case rel => exact ⟨k + 1, by omega, by go_num, N2.out, B10.out⟩
            case measure => simp [intOf]; omega
          · have E3 := Lib.hid (HF.out.at hlt NO.out (by show (outG xs (modelN qan k) != outG ys (modelN qan k)) = true; rw [Va.out, Vb.out]; rfl))
            go_wp2
            go_ret2
            exact ⟨ret_bbG (by rw [E.out.1, E.out.2, E3.out.1]; exact ⟨rfl, rfl⟩), B10.out⟩
        · cases vb
          · have E3 := Lib.hid (HF.out.at hlt NO.out (by show (outG xs (modelN qan k) != outG ys (modelN qan k)) = true; rw [Va.out, Vb.out]; rfl))
            go_wp2
            go_ret2
            exact ⟨ret_bbG (by rw [E.out.1, E.out.2, E3.out.1]; exact ⟨rfl, rfl⟩), B10.out⟩
          · have N2 := Lib.hid (find_step (p := fun N => outG xs (modelN qan N) != outG ys (modelN qan N)) NO.out (by show (outG xs (modelN qan k) != outG ys (modelN qan k)) = false; rw [Va.out, Vb.out]; rfl))
            go_wp2
            go_roundw
            case rel => exact ⟨k + 1, by omega, by go_num, N2.out, B10.out⟩
            case measure => simp [intOf]; omega
      · go_simp
        refine (evalS_any _ _ nb qan _ _ ys (modelN qan k) _ (Lib.hid (hlb.out.below B9.out)) HXb hnb2 HGb M9 (Lib.hid (modelN_len qan k)) HQb).mono ?_
        rintro e w10 ⟨A10, c10, rfl, ho, hb⟩
        have OO := own_blies ho
        rw [evK_len] at ho ⊢
        obtain ⟨bb, offb, hAb, hblb, rb⟩ := OO (nb - 1) _ (outG_at HXb.out h1nb)
        subst hAb
        rw [HPb.out] at rb
        obtain ⟨vb, hvb⟩ : ∃ v, outG ys (modelN qan k) = v := ⟨_, rfl⟩
        rw [hvb] at rb
        have Vb := Lib.hid hvb
        have B10 := Lib.hid (Below.tr B9.out hb)
        have ra2 := ((bcell hb).1 ba _ hbla).trans ra
        have hbla2 := Nat.lt_of_lt_of_le hbla hb.size
        clear ho hb OO hvb ra hbla
        refine hK _ _ ?_
        clear hK K
        try simp only [Act.put, List.setIfInBounds_toArray, List.set_cons_zero, List.set_cons_succ]
        try simp only [hwrb]
        refine wpAny_take (i := 14) (v := ?_) rfl (by kernel_rfl) (by kernel_rfl) (by kernel_rfl) (fun _ _ _ h => h) (Or.inl ⟨by rfl, ?_⟩) ?_
        rotate_left
        · intro W
          go_simp
          try with_reducible rfl
        simp only [Act.put, List.setIfInBounds_toArray]
        refine wpAny_ready (rs := [7, 15]) (by kernel_rfl) (by simp) ?_
        refine AllReady.cons rfl (fun K hK => ?_) (AllReady.cons rfl (fun K hK => ?_) AllReady.nil)
        · go_simp
          refine hK _ _ ?_
          clear hK K
          try simp only [Act.put, List.setIfInBounds_toArray, List.set_cons_zero, List.set_cons_succ]
          refine wpAny_ready (rs := [15]) (by kernel_rfl) (by simp) ?_
          refine AllReady.cons rfl (fun K hK => ?_) AllReady.nil
          go_simp
          refine hK _ _ ?_
          clear hK K
          try simp only [Act.put, List.setIfInBounds_toArray, List.set_cons_zero, List.set_cons_succ]
          refine wpAny_take (i := 16) (v := ?_) rfl (by kernel_rfl) (by kernel_rfl) (by kernel_rfl) (fun _ _ _ h => h) (Or.inl ⟨by rfl, ?_⟩) ?_
          rotate_left
          · intro W
            go_simp
            try with_reducible rfl
          simp only [Act.put, List.setIfInBounds_toArray]
          refine wpAny_done (by kernel_rfl) ?_ _
          cases va
          · cases vb
            · have N2 := Lib.hid (find_step (p := fun N => outG xs (modelN qan N) != outG ys (modelN qan N)) NO.out (by show (outG xs (modelN qan k) != outG ys (modelN qan k)) = false; rw [Va.out, Vb.out]; rfl))
              go_wp2
              go_roundw
              case rel => exact ⟨k + 1, by omega, by go_num, N2.out, B10.out⟩
              case measure => simp [intOf]; omega
            · have E3 := Lib.hid (HF.out.at hlt NO.out (by show (outG xs (modelN qan k) != outG ys (modelN qan k)) = true; rw [Va.out, Vb.out]; rfl))
              go_wp2
              go_ret2
              exact ⟨ret_bbG (by rw [E.out.1, E.out.2, E3.out.1]; exact ⟨rfl, rfl⟩), B10.out⟩
          · cases vb
            · have E3 := Lib.hid (HF.out.at hlt NO.out (by show (outG xs (modelN qan k) != outG ys (modelN qan k)) = true; rw [Va.out, Vb.out]; rfl))
              go_wp2
              go_ret2
              exact ⟨ret_bbG (by rw [E.out.1, E.out.2, E3.out.1]; exact ⟨rfl, rfl⟩), B10.out⟩
            · have N2 := Lib.hid (find_step (p := fun N => outG xs (modelN qan N) != outG ys (modelN qan N)) NO.out (by show (outG xs (modelN qan k) != outG ys (modelN qan k)) = false; rw [Va.out, Vb.out]; rfl))
              go_wp2
              go_roundw
              case rel => exact ⟨k + 1, by omega, by go_num, N2.out, B10.out⟩
              case measure => simp [intOf]; omega
        · go_simp
          refine hK _ _ ?_
          clear hK K
          try simp only [Act.put, List.setIfInBounds_toArray, List.set_cons_zero, List.set_cons_succ]
          refine wpAny_ready (rs := [7]) (by kernel_rfl) (by simp) ?_
          refine AllReady.cons rfl (fun K hK => ?_) AllReady.nil
          go_simp
          refine hK _ _ ?_
          clear hK K
          try simp only [Act.put, List.setIfInBounds_toArray, List.set_cons_zero, List.set_cons_succ]
          refine wpAny_take (i := 16) (v := ?_) rfl (by kernel_rfl) (by kernel_rfl) (by kernel_rfl) (fun _ _ _ h => h) (Or.inl ⟨by rfl, ?_⟩) ?_
          rotate_left
          · intro W
            go_simp
            try with_reducible rfl
          simp only [Act.put, List.setIfInBounds_toArray]
          refine wpAny_done (by kernel_rfl) ?_ _
          cases va
          · cases vb
            · have N2 := Lib.hid (find_step (p := fun N => outG xs (modelN qan N) != outG ys (modelN qan N)) NO.out (by show (outG xs (modelN qan k) != outG ys (modelN qan k)) = false; rw [Va.out, Vb.out]; rfl))
              go_wp2
              go_roundw
              case rel => exact ⟨k + 1, by omega, by go_num, N2.out, B10.out⟩
              case measure => simp [intOf]; omega
            · have E3 := Lib.hid (HF.out.at hlt NO.out (by show (outG xs (modelN qan k) != outG ys (modelN qan k)) = true; rw [Va.out, Vb.out]; rfl))
              go_wp2
              go_ret2
              exact ⟨ret_bbG (by rw [E.out.1, E.out.2, E3.out.1]; exact ⟨rfl, rfl⟩), B10.out⟩
          · cases vb
            · have E3 := Lib.hid (HF.out.at hlt NO.out (by show (outG xs (modelN qan k) != outG ys (modelN qan k)) = true; rw [Va.out, Vb.out]; rfl))
              go_wp2
              go_ret2
              exact ⟨ret_bbG (by rw [E.out.1, E.out.2, E3.out.1]; exact ⟨rfl, rfl⟩), B10.out⟩
            · have N2 := Lib.hid (find_step (p := fun N => outG xs (modelN qan N) != outG ys (modelN qan N)) NO.out (by show (outG xs (modelN qan k) != outG ys (modelN qan k)) = false; rw [Va.out, Vb.out]; rfl))
              go_wp2
              go_roundw
              case rel => exact ⟨k + 1, by omega, by go_num, N2.out, B10.out⟩
              case measure => simp [intOf]; omega
    · obtain rfl : k = T := by omega
      have E3 := Lib.hid (HF.out.end_ NO.out)
      go_wp2
      go_ret2
      exact ⟨ret_bbG (by rw [E.out.1, E.out.2, E3.out.1]; exact ⟨rfl, rfl⟩), B6.out⟩

/-- in the midst of drawn gates: the reader, and the gates so far, in memory of their own -/
def PrG (w0 : World) (c K : Nat) (xs : List Gt) (A : Option Addr) (cap : Nat) (w : World) : Prop :=
  Cur w c K ∧ w.ownsRow w0.heap.size 120 3 (.slice A xs.length cap) xs.length (gcells xs) ∧ w0.grownBy w (some c) ∧ c < w0.heap.size
theorem PrG.step {w0 w w' : World} {c K K' : Nat} {xs : List Gt} {A : Option Addr} {cap : Nat} (h : PrG w0 c K xs A cap w) (hc : Cur w' c K') (hg : w.grownBy w' (some c)) : PrG w0 c K' xs A cap w' := by
  obtain ⟨_, h1, h2, h3⟩ := h
  refine ⟨hc, kept_of h1 hg (fun g hgb e => ?_), grownC_trans h2 hg, h3⟩
  have := (h1.lt g hgb).1
  have := Option.some.inj e
  omega
theorem PrG.app {w0 w w' : World} {c K g cap' : Nat} {xs : List Gt} {A : Option Addr} {cap : Nat} {y : Gt} {o : Obj} (h : PrG w0 c K xs A cap w)
    (hown : w'.ownsRow w0.heap.size 120 3 (.slice (some ⟨g, 0, none⟩) (xs.length + 1) cap') (xs.length + 1) (gcells xs ++ y.cells)) (hg : (w.alloc o).grownBy w' (Value.slice A xs.length cap).ownBlock) :
    PrG w0 c K (xs ++ [y]) (some ⟨g, 0, none⟩) cap' w' := by
  obtain ⟨hc, h1, h2, h3⟩ := h
  have hl := h1.lt
  refine ⟨(hc.alloc o).grown hg (fun g' hg' => by have := (hl g' hg').1; omega), ?_, ?_, h3⟩
  · have e : gcells (xs ++ [y]) = gcells xs ++ y.cells := by simp [gcells]
    rw [e]
    simpa using hown
  · have h2' := grownC_trans h2 (World.grownBy_alloc w o (some c))
    refine ⟨hg.os.trans h2'.os, hg.tape.trans h2'.tape, hg.output.trans h2'.output, Nat.le_trans h2'.size hg.size, fun k hk hne => ?_⟩
    rw [hg.block k (Nat.lt_of_lt_of_le hk h2'.size) (fun e => by have := (hl k e.symm).1; omega)]
    exact h2'.block k hk hne
theorem PrG.size {w0 w : World} {c K : Nat} {xs : List Gt} {A : Option Addr} {cap : Nat} (h : PrG w0 c K xs A cap w) : w0.heap.size ≤ w.heap.size := h.2.2.1.size
/-- it answers gates of its own -/
def GaveG (c K : Nat) (w : World) (e : Ending) (w' : World) : Prop :=
  ∃ (xs : List Gt) (A : Option Addr) (cap : Nat), e = .returned (.slice A xs.length cap) ∧ (1 ≤ xs.length ∧ xs.length ≤ 13) ∧ PrG w c K xs A cap w'
theorem pickG (w0 : World) (c K : Nat) (xs : List Gt) (A : Option Addr) (cap : Nat) (m : Int) (w : World) (h : Hid (PrG w0 c K xs A cap w)) (hK : K ≤ 900000000000) (h1 : 1 ≤ m) (h2 : m ≤ 100000) :
    Calls Try.prog 88 #[.pointer (some ⟨c, 0, none⟩), .int .i64 m] w fun e w' => ∃ n : Int, (0 ≤ n ∧ n < m) ∧ e = .returned (.int .i64 n) ∧ PrG w0 c (K + 2) xs A cap w' ∧ w.grownBy w' (some c) :=
  (pick_any c K m w h.out.1 hK h1 h2).mono fun _ _ ⟨n, hp, he, hc, hg⟩ => ⟨n, hp, he, h.out.step hc hg, hg⟩
theorem oneG (w0 : World) (c K : Nat) (xs : List Gt) (A : Option Addr) (cap : Nat) (m : Int) (w : World) (h : Hid (PrG w0 c K xs A cap w)) (hK : K ≤ 900000000000) (h1 : 1 ≤ m) (h2 : m ≤ 100000) :
    Calls Try.prog 90 #[.pointer (some ⟨c, 0, none⟩), .int .i64 m] w fun e w' => ∃ b : Bool, e = .returned (.bool b) ∧ PrG w0 c (K + 2) xs A cap w' :=
  (one_any c K m w h.out.1 hK h1 h2).mono fun _ _ ⟨b, he, hc, hg⟩ => ⟨b, he, h.out.step hc hg⟩
theorem ret_valG {v v' : Value} (h : v = v') : Ending.returned v = .returned v' := by rw [h]
theorem PrG.mono {w0 w : World} {c K K' : Nat} {xs : List Gt} {A : Option Addr} {cap : Nat} (h : PrG w0 c K xs A cap w) (hK : K ≤ K') : PrG w0 c K' xs A cap w := ⟨h.1.mono hK, h.2⟩
theorem PrG.alloc {w0 w : World} {c K : Nat} {xs : List Gt} {A : Option Addr} {cap : Nat} (h : PrG w0 c K xs A cap w) (o : Obj) : PrG w0 c K xs A cap (w.alloc o) := h.step (h.1.alloc o) (World.grownBy_alloc w o _)
theorem PrG.form {w0 w : World} {c K : Nat} {xs : List Gt} {A : Option Addr} {cap : Nat} (h : PrG w0 c K xs A cap w) (hx : 1 ≤ xs.length) : ∃ g, A = some ⟨g, 0, none⟩ := by
  obtain ⟨g, cap', hv, _, hg⟩ := h.2.1.form (by omega)
  have hA : A = some ⟨g, 0, none⟩ := by injection hv
  exact ⟨g, hA⟩
theorem PrG.there {w0 w : World} {c K g : Nat} {xs : List Gt} {cap : Nat} (h : PrG w0 c K xs (some ⟨g, 0, none⟩) cap w) (j : Nat) (hj : j < xs.length) :
    (∃ v, w.cell? ⟨g, j * 3, none⟩ = some v) ∧ (∃ v, w.cell? ⟨g, j * 3 + 1, none⟩ = some v) ∧ (∃ v, w.cell? ⟨g, j * 3 + 2, none⟩ = some v) ∧ ∀ i, w.frozen? ⟨g, i, none⟩ = false := by
  have h1 := h.2.1
  have q : ∀ i, i < xs.length * 3 → ∃ v, w.cell? ⟨g, i, none⟩ = some v := fun i hi => by
    have := h1.cells (g := g) rfl i _ (List.getElem?_eq_getElem (by have := h1.1; omega))
    rw [add_plain, Nat.zero_add] at this
    exact ⟨_, this⟩
  refine ⟨q _ (by omega), q _ (by omega), q _ (by omega), fun i => ?_⟩
  rcases h1.2 with ⟨h', _⟩ | ⟨g', cap', cur, h', hb, hg, hnc, hcm, hcs, htake⟩
  · simp at h'
  · simp only [Value.slice.injEq, Option.some.injEq, Addr.mk.injEq, and_true, true_and] at h'
    obtain ⟨rfl, rfl⟩ := h'
    simp [World.frozen?, hg]
theorem gcells_get (xs : List Gt) (q r : Nat) (hr : r < 3) : (gcells xs)[q * 3 + r]? = (xs[q]?).bind fun x => x.cells[r]? := by
  rcases Nat.lt_or_ge q xs.length with h | h
  · rw [gcells_at xs q _ (List.getElem?_eq_getElem h) r hr, List.getElem?_eq_getElem h]
    rfl
  · rw [List.getElem?_eq_none (by rw [gcells_len]; omega), List.getElem?_eq_none h]
    rfl
theorem gcells_set (xs : List Gt) (j : Nat) (hj : j < xs.length) (y : Gt) :
    ((((gcells xs).set (j * 3) (.int .i64 y.k)).set (j * 3 + 1) (.int .i64 y.a)).set (j * 3 + 2) (.int .i64 y.b)) = gcells (xs.set j y) := by
  apply List.ext_getElem?
  intro n
  obtain ⟨q, r, hr, rfl⟩ : ∃ q r, r < 3 ∧ n = q * 3 + r := ⟨n / 3, n % 3, by omega, by omega⟩
  rw [gcells_get _ _ _ hr]
  have hl := gcells_len xs
  simp only [List.getElem?_set, List.length_set]
  by_cases hq : j = q
  · subst hq
    rw [if_pos rfl, if_pos hj]
    have h6 : r = 0 ∨ r = 1 ∨ r = 2 := by omega
    rcases h6 with rfl | rfl | rfl <;> simp [Gt.cells] <;> omega
  · rw [if_neg hq, if_neg (by omega), if_neg (by omega), if_neg (by omega), gcells_get _ _ _ hr]
theorem PrG.put {w0 w : World} {c K g : Nat} {xs : List Gt} {cap : Nat} (h : PrG w0 c K xs (some ⟨g, 0, none⟩) cap w) (j : Nat) (hj : j < xs.length) (y : Gt) :
    PrG w0 c K (xs.set j y) (some ⟨g, 0, none⟩) cap (((w.setCell ⟨g, j * 3, none⟩ (.int .i64 y.k)).setCell ⟨g, j * 3 + 1, none⟩ (.int .i64 y.a)).setCell ⟨g, j * 3 + 2, none⟩ (.int .i64 y.b)) := by
  obtain ⟨hc, h1, h2, h3⟩ := h
  have hgb := (h1.lt g rfl).1
  obtain ⟨a1, b1⟩ := h1.stored (j * 3) (.int .i64 y.k)
  obtain ⟨a2, b2⟩ := a1.stored (j * 3 + 1) (.int .i64 y.a)
  obtain ⟨a3, b3⟩ := a2.stored (j * 3 + 2) (.int .i64 y.b)
  have hb := grownC_trans b1 (grownC_trans b2 b3)
  refine ⟨hc.grown hb (fun g' e => by have := Option.some.inj e; omega), ?_, ?_, h3⟩
  · rw [← gcells_set xs j hj y, List.length_set]
    exact a3
  · refine ⟨hb.os.trans h2.os, hb.tape.trans h2.tape, hb.output.trans h2.output, Nat.le_trans h2.size hb.size, fun k hk hne => ?_⟩
    rw [hb.block k (Nat.lt_of_lt_of_le hk h2.size) (fun e => by have := Option.some.inj e; omega)]
    exact h2.block k hk hne
theorem gt_one (y : Gt) : ∀ u ∈ y.cells, u.oneCell' = true := by
  intro u hu
  simp [Gt.cells] at hu
  rcases hu with rfl | rfl | rfl <;> rfl
theorem grown_setG (w : World) (bx j : Nat) (u : Value) : w.grownBy (w.setCell ⟨bx, j, none⟩ u) (some bx) := ⟨rfl, rfl, rfl, by simp, fun k _ hne => Below.heap_setCell w ⟨bx, j, none⟩ u k (fun e => hne (by rw [e]))⟩
theorem PrG.far {w0 w : World} {c K bx : Nat} {xs : List Gt} {A : Option Addr} {cap : Nat} (h : PrG w0 c K xs A cap w) (hc : c < bx) (hb : w0.heap.size ≤ bx) (hr : ∀ g, (Value.slice A xs.length cap).ownBlock = some g → g ≠ bx) (j : Nat) (u : Value) : PrG w0 c K xs A cap (w.setCell ⟨bx, j, none⟩ u) := by
  obtain ⟨h0, h1, h2, h3⟩ := h
  have hg := grown_setG w bx j u
  refine ⟨h0.grown hg (fun g e => by have := Option.some.inj e; omega), kept_of h1 hg (fun g hgb e => hr g hgb (Option.some.inj e).symm), ?_, h3⟩
  refine ⟨hg.os.trans h2.os, hg.tape.trans h2.tape, hg.output.trans h2.output, Nat.le_trans h2.size hg.size, fun k hk hne => ?_⟩
  rw [hg.block k (Nat.lt_of_lt_of_le hk h2.size) (fun e => by have := Option.some.inj e; omega)]
  exact h2.block k hk hne
theorem newsS (w : World) (a : Addr) (u : Value) (l : List Value) (t : TypeId) : ∀ j v, l[j]? = some v → ((w.setCell a u).alloc (.cells l.toArray t)).cell? ((⟨w.heap.size, 0, none⟩ : Addr).add j) = some v := by
  have h := heap_alloc_new (w.setCell a u) (.cells l.toArray t)
  have hs : (w.setCell a u).heap.size = w.heap.size := by simp
  rw [hs] at h
  exact World.news_of_block h
set_option maxRecDepth 100000 in
set_option maxHeartbeats 8000000 in
theorem gates_any (c K : Nat) (w : World) (h : Hid (Cur w c K)) (hK : K ≤ 700000000000) :
    Calls Try.prog 107 #[.pointer (some ⟨c, 0, none⟩)] w (GaveG c (K + 1000) w) := by
  obtain ⟨i0, hi0, hz0, hz1, hz2⟩ := info_parts info_gate
  have P0 : Hid (PrG w c K [] none 0 w) := ⟨h.out, World.ownsRow_nil _ _ _ _, World.grownBy.refl _ _, h.out.lt⟩
  go_enter Try.func107, Try.ntmps107
  go_wp2_with fail
  refine (pickG w c _ _ _ _ _ _ P0 (by omega) (by omega) (by omega)).mono ?_
  rintro e w1 ⟨n1, ⟨l1, u1⟩, rfl, hp1, hg1⟩
  have P1 := Lib.hid hp1
  clear hp1 hg1
  obtain ⟨m, rfl⟩ := Int.eq_ofNat_of_zero_le l1
  have hm4 : m < 4 := by omega
  clear l1 u1
  go_wp2_with fail
  go_loopw [3, 4] (fun v i wr => ∃ (k : Nat) (xs : List Gt) (A : Option Addr) (cap : Nat), i = .int .i64 k ∧ xs.length + k = m + 1 ∧ v = .slice A xs.length cap ∧ PrG w c (K + 2) xs A cap wr) (fun _ i _ => (intOf i).toNat)
  case atStart => exact ⟨m + 1, [], none, 0, by go_num, by simp, rfl, P1.out⟩
  case round =>
    obtain ⟨k, xs, A, cap, rfl, hxk, rfl, hp⟩ := hrel
    have P3 := Lib.hid hp
    have HX := Lib.hid hxk
    clear hp
    have hx5 : xs.length ≤ 4 := by omega
    have hk5 : k ≤ 4 := by omega
    clear hxk
    by_cases hlt : 0 < k
    · obtain ⟨k, rfl⟩ : ∃ j, k = j + 1 := ⟨k - 1, by omega⟩
      go_wp2_with (at_builtin; (refine wpList_append_lies _ rfl _ _ 45 rfl w.heap.size 120 i0 _ 3 24 Try.underlying45 hi0 hz0 hz1 hz2 rfl (by omega) _ xs.length _ rfl (P3.out.2.1.alloc _) ⟨wr.heap.size, 0, none⟩ 1 1 (⟨1, 0, 0⟩ : Gt).cells rfl rfl (by exact World.news_of_block (heap_alloc_new wr _)) (gt_one _) (by omega) (by unfold maxLen; omega) (by omega) (by have := P3.out.size; first | omega | (simp; omega)) (wr.heap.size + 1) (by first | rfl | simp) ?_; intro g5 cap5 w5 hown5 hg5 hat5 hlt5; have P5 := Lib.hid (P3.out.app (y := ⟨1, 0, 0⟩) hown5 hg5); clear hown5 hg5 hat5 hlt5))
      go_roundw
      case rel => exact ⟨k, xs ++ [⟨1, 0, 0⟩], some ⟨g5, 0, none⟩, cap5, by go_num, by have := HX.out; simp; omega, by simp, (by have := P5.out; exact this)⟩
      case measure => simp [intOf]
    · obtain rfl : k = 0 := by omega
      have hx1 : 1 ≤ xs.length := by have := HX.out; omega
      clear HX hlt
      go_wp2_with fail
      refine (pickG w c _ _ _ _ _ _ P3 (by omega) (by omega) (by omega)).mono ?_
      rintro e w6 ⟨n6, ⟨l6, u6⟩, rfl, hp6, hg6⟩
      have P6 := Lib.hid hp6
      clear hp6 hg6
      obtain ⟨N, rfl⟩ := Int.eq_ofNat_of_zero_le l6
      have hN6 : N < 6 := by omega
      clear l6 u6
      go_wp2_with fail
      refine (oneG w c _ _ _ _ _ _ P6 (by omega) (by omega) (by omega)).mono ?_
      rintro e w7 ⟨b7, rfl, hp7⟩
      have P7 := Lib.hid hp7
      clear hp7
      cases b7
      · go_wp2_with fail
        go_loopw [3, 5] (fun v i wr => ∃ (k j : Nat) (ys : List Gt) (A : Option Addr) (cap : Nat), i = .int .i64 k ∧ k + j = N ∧ ys.length = xs.length + j ∧ v = .slice A ys.length cap ∧ PrG w c (K + 6 + 6 * j) ys A cap wr) (fun _ i _ => (intOf i).toNat)
        case atStart => exact ⟨N, 0, xs, A, cap, rfl, by omega, rfl, rfl, by have := P7.out; exact this⟩
        case round =>
          obtain ⟨k, j, ys, A2, cap2, rfl, hkj, hyl, rfl, hp⟩ := hrel
          have P8 := Lib.hid hp
          have HKJ := Lib.hid hkj
          have HYL := Lib.hid hyl
          clear hp P7 P6 P3
          have hj9 : j ≤ 9 := by omega
          have hk9 : k ≤ 9 := by omega
          have hy1 : 1 ≤ ys.length := by omega
          have hy13 : ys.length ≤ 13 := by omega
          clear hkj hyl
          by_cases hlt : 0 < k
          · obtain ⟨k, rfl⟩ : ∃ j, k = j + 1 := ⟨k - 1, by omega⟩
            have hyj : ys.length ≤ 12 := by have := HYL.out; have := HKJ.out; omega
            go_wp2_with fail
            refine (pickG w c _ _ _ _ _ _ P8 (by omega) (by omega) (by omega)).mono ?_
            rintro e w9 ⟨n9, ⟨l9, u9⟩, rfl, hp9, hg9⟩
            have P9 := Lib.hid hp9
            clear hp9 hg9
            go_wp2_with fail
            refine (pickG w c _ _ _ _ (ys.length : Int) _ P9 (by omega) (by omega) (by omega)).mono ?_
            rintro e w10 ⟨n10, ⟨l10, u10⟩, rfl, hp10, hg10⟩
            have P10 := Lib.hid hp10
            clear hp10 hg10
            have hcb : c < w10.heap.size := P10.out.1.lt
            have hsz := P10.out.size
            by_cases hk2 : n9 = 0
            · subst hk2
              go_wp2_with (at_builtin; (refine wpList_append_lies _ rfl _ _ 45 rfl w.heap.size 120 i0 _ 3 24 Try.underlying45 hi0 hz0 hz1 hz2 rfl (by omega) _ ys.length _ rfl ((P10.out.2.1.alloc _).alloc _) ⟨w10.heap.size + 1, 0, none⟩ 1 1 (⟨2, n10, 0⟩ : Gt).cells rfl rfl (by exact newsG w10 _ _ _) (gt_one _) (by omega) (by unfold maxLen; omega) (by omega) (by have := P10.out.size; first | omega | (simp; omega)) (w10.heap.size + 1 + 1) (by first | rfl | simp) ?_; intro g14 cap14 w14 hown14 hg14 hat14 hlt14; have P14 := Lib.hid ((P10.out.alloc _).app (y := ⟨2, n10, 0⟩) hown14 hg14); clear hown14 hg14 hat14 hlt14))
              go_roundw
              case rel => exact ⟨k, j + 1, ys ++ [⟨2, n10, 0⟩], some ⟨g14, 0, none⟩, cap14, by go_num, by have := HKJ.out; omega, by have := HYL.out; simp; omega, by simp, P14.out.mono (by omega)⟩
              case measure => simp [intOf]
            · have e2 : ((2 + n9) != 2) = true := by simp; omega
              have P11 : Hid (PrG w c (K + 6 + 6 * j + 2 + 2) ys A2 cap2 (w10.alloc (.cells #[.int .i64 (2 + n9), .int .i64 n10, .int .i64 0] 120))) := Lib.hid (P10.out.alloc _)
              have X11 : Hid (Blk (w10.alloc (.cells #[.int .i64 (2 + n9), .int .i64 n10, .int .i64 0] 120)) w10.heap.size 120 [.int .i64 (2 + n9), .int .i64 n10, .int .i64 0]) := Lib.hid (heap_alloc_new w10 _)
              have RB : Hid (∀ g, (Value.slice A2 ys.length cap2).ownBlock = some g → g ≠ w10.heap.size) := Lib.hid (fun g e q => by have := (P10.out.2.1.lt g e).2; omega)
              go_wp2_with fail
              refine (pickG w c _ _ _ _ (ys.length : Int) _ P11 (by omega) (by omega) (by omega)).mono ?_
              rintro e w12 ⟨n12, ⟨l12, u12⟩, rfl, hp12, hg12⟩
              have P12 := Lib.hid hp12
              have X12 : Hid (Blk w12 w10.heap.size 120 [.int .i64 (2 + n9), .int .i64 n10, .int .i64 0]) := Lib.hid ((hg12.block w10.heap.size X11.out.lt (fun e => by have := Option.some.inj e; omega)).trans X11.out)
              have P13 := Lib.hid (P12.out.far hcb hsz RB.out 2 (.int .i64 n12))
              have x0 := X12.out.cell 0
              have x1 := X12.out.cell 1
              have x2 := X12.out.cell 2
              have xf := X12.out.frozen 2
              have xl := X12.out.lt
              simp only [List.getElem?_cons_zero, List.getElem?_cons_succ] at x0 x1 x2
              clear hp12 hg12 X12 X11
              go_wp2_with (at_builtin; (refine wpList_append_lies _ rfl _ _ 45 rfl w.heap.size 120 i0 _ 3 24 Try.underlying45 hi0 hz0 hz1 hz2 rfl (by omega) _ ys.length _ rfl (P13.out.2.1.alloc _) ⟨w12.heap.size, 0, none⟩ 1 1 (⟨2 + n9, n10, n12⟩ : Gt).cells rfl rfl (by exact newsS w12 _ _ _ _) (gt_one _) (by omega) (by unfold maxLen; omega) (by omega) (by have := P10.out.size; first | omega | (simp; omega)) (w12.heap.size + 1) (by first | rfl | simp) ?_; intro g14 cap14 w14 hown14 hg14 hat14 hlt14; have P14 := Lib.hid (P13.out.app (y := ⟨2 + n9, n10, n12⟩) hown14 hg14); clear hown14 hg14 hat14 hlt14))
              go_roundw
              case rel => exact ⟨k, j + 1, ys ++ [⟨2 + n9, n10, n12⟩], some ⟨g14, 0, none⟩, cap14, by go_num, by have := HKJ.out; omega, by have := HYL.out; simp; omega, by simp, P14.out.mono (by omega)⟩
              case measure => simp [intOf]
          · obtain rfl : k = 0 := by omega
            go_wp2_with fail
            refine (oneG w c _ _ _ _ _ _ P8 (by omega) (by omega) (by omega)).mono ?_
            rintro e w9 ⟨b9, rfl, hp9⟩
            have P9 := Lib.hid hp9
            clear hp9
            cases b9
            · go_wp2
              go_ret
              exact ⟨ys, A2, cap2, rfl, by omega, P9.out.mono (by omega)⟩
            · go_wp2_with fail
              refine (pickG w c _ _ _ _ (ys.length : Int) _ P9 (by omega) (by omega) (by omega)).mono ?_
              rintro e w15 ⟨n15, ⟨l15, u15⟩, rfl, hp15, hg15⟩
              have P15 := Lib.hid hp15
              clear hp15 hg15
              obtain ⟨jj, rfl⟩ := Int.eq_ofNat_of_zero_le l15
              go_wp2_with fail
              refine (pickG w c _ _ _ _ _ _ P15 (by omega) (by omega) (by omega)).mono ?_
              rintro e w16 ⟨n16, ⟨l16, u16⟩, rfl, hp16, hg16⟩
              have P16 := Lib.hid hp16
              clear hp16 hg16
              go_wp2_with fail
              refine (pickG w c _ _ _ _ _ _ P16 (by omega) (by omega) (by omega)).mono ?_
              rintro e w17 ⟨n17, ⟨l17, u17⟩, rfl, hp17, hg17⟩
              have P17 := Lib.hid hp17
              clear hp17 hg17
              go_wp2_with fail
              refine (pickG w c _ _ _ _ _ _ P17 (by omega) (by omega) (by omega)).mono ?_
              rintro e w18 ⟨n18, ⟨l18, u18⟩, rfl, hp18, hg18⟩
              have P18 := Lib.hid hp18
              clear hp18 hg18
              have hjl : jj < ys.length := by omega
              obtain ⟨g, rfl⟩ := P18.out.form hy1
              obtain ⟨t0, t1, t2, ff⟩ := P18.out.there jj hjl
              obtain ⟨v0, t0⟩ := t0
              obtain ⟨v1, t1⟩ := t1
              obtain ⟨v2, t2⟩ := t2
              have PF := Lib.hid (P18.out.put jj hjl ⟨n16, n17 - 1, n18⟩)
              clear hjl
              go_wp2
              go_ret
              exact ⟨ys.set jj ⟨n16, n17 - 1, n18⟩, some ⟨g, 0, none⟩, cap2, ret_valG (by simp), by simp; omega, PF.out.mono (by omega)⟩
      · go_wp2_with fail
        go_loopw [3, 5] (fun v i wr => ∃ (k j : Nat) (ys : List Gt) (A : Option Addr) (cap : Nat), i = .int .i64 k ∧ k + j = 9 ∧ ys.length = xs.length + j ∧ v = .slice A ys.length cap ∧ PrG w c (K + 6 + 6 * j) ys A cap wr) (fun _ i _ => (intOf i).toNat)
        case atStart => exact ⟨9, 0, xs, A, cap, rfl, by omega, rfl, rfl, by have := P7.out; exact this⟩
        case round =>
          obtain ⟨k, j, ys, A2, cap2, rfl, hkj, hyl, rfl, hp⟩ := hrel
          have P8 := Lib.hid hp
          have HKJ := Lib.hid hkj
          have HYL := Lib.hid hyl
          clear hp P7 P6 P3
          have hj9 : j ≤ 9 := by omega
          have hk9 : k ≤ 9 := by omega
          have hy1 : 1 ≤ ys.length := by omega
          have hy13 : ys.length ≤ 13 := by omega
          clear hkj hyl
          by_cases hlt : 0 < k
          · obtain ⟨k, rfl⟩ : ∃ j, k = j + 1 := ⟨k - 1, by omega⟩
            have hyj : ys.length ≤ 12 := by have := HYL.out; have := HKJ.out; omega
            go_wp2_with fail
            refine (pickG w c _ _ _ _ _ _ P8 (by omega) (by omega) (by omega)).mono ?_
            rintro e w9 ⟨n9, ⟨l9, u9⟩, rfl, hp9, hg9⟩
            have P9 := Lib.hid hp9
            clear hp9 hg9
            go_wp2_with fail
            refine (pickG w c _ _ _ _ (ys.length : Int) _ P9 (by omega) (by omega) (by omega)).mono ?_
            rintro e w10 ⟨n10, ⟨l10, u10⟩, rfl, hp10, hg10⟩
            have P10 := Lib.hid hp10
            clear hp10 hg10
            have hcb : c < w10.heap.size := P10.out.1.lt
            have hsz := P10.out.size
            by_cases hk2 : n9 = 0
            · subst hk2
              go_wp2_with (at_builtin; (refine wpList_append_lies _ rfl _ _ 45 rfl w.heap.size 120 i0 _ 3 24 Try.underlying45 hi0 hz0 hz1 hz2 rfl (by omega) _ ys.length _ rfl ((P10.out.2.1.alloc _).alloc _) ⟨w10.heap.size + 1, 0, none⟩ 1 1 (⟨2, n10, 0⟩ : Gt).cells rfl rfl (by exact newsG w10 _ _ _) (gt_one _) (by omega) (by unfold maxLen; omega) (by omega) (by have := P10.out.size; first | omega | (simp; omega)) (w10.heap.size + 1 + 1) (by first | rfl | simp) ?_; intro g14 cap14 w14 hown14 hg14 hat14 hlt14; have P14 := Lib.hid ((P10.out.alloc _).app (y := ⟨2, n10, 0⟩) hown14 hg14); clear hown14 hg14 hat14 hlt14))
              go_roundw
              case rel => exact ⟨k, j + 1, ys ++ [⟨2, n10, 0⟩], some ⟨g14, 0, none⟩, cap14, by go_num, by have := HKJ.out; omega, by have := HYL.out; simp; omega, by simp, P14.out.mono (by omega)⟩
              case measure => simp [intOf]
            · have e2 : ((2 + n9) != 2) = true := by simp; omega
              have P11 : Hid (PrG w c (K + 6 + 6 * j + 2 + 2) ys A2 cap2 (w10.alloc (.cells #[.int .i64 (2 + n9), .int .i64 n10, .int .i64 0] 120))) := Lib.hid (P10.out.alloc _)
              have X11 : Hid (Blk (w10.alloc (.cells #[.int .i64 (2 + n9), .int .i64 n10, .int .i64 0] 120)) w10.heap.size 120 [.int .i64 (2 + n9), .int .i64 n10, .int .i64 0]) := Lib.hid (heap_alloc_new w10 _)
              have RB : Hid (∀ g, (Value.slice A2 ys.length cap2).ownBlock = some g → g ≠ w10.heap.size) := Lib.hid (fun g e q => by have := (P10.out.2.1.lt g e).2; omega)
              go_wp2_with fail
              refine (pickG w c _ _ _ _ (ys.length : Int) _ P11 (by omega) (by omega) (by omega)).mono ?_
              rintro e w12 ⟨n12, ⟨l12, u12⟩, rfl, hp12, hg12⟩
              have P12 := Lib.hid hp12
              have X12 : Hid (Blk w12 w10.heap.size 120 [.int .i64 (2 + n9), .int .i64 n10, .int .i64 0]) := Lib.hid ((hg12.block w10.heap.size X11.out.lt (fun e => by have := Option.some.inj e; omega)).trans X11.out)
              have P13 := Lib.hid (P12.out.far hcb hsz RB.out 2 (.int .i64 n12))
              have x0 := X12.out.cell 0
              have x1 := X12.out.cell 1
              have x2 := X12.out.cell 2
              have xf := X12.out.frozen 2
              have xl := X12.out.lt
              simp only [List.getElem?_cons_zero, List.getElem?_cons_succ] at x0 x1 x2
              clear hp12 hg12 X12 X11
              go_wp2_with (at_builtin; (refine wpList_append_lies _ rfl _ _ 45 rfl w.heap.size 120 i0 _ 3 24 Try.underlying45 hi0 hz0 hz1 hz2 rfl (by omega) _ ys.length _ rfl (P13.out.2.1.alloc _) ⟨w12.heap.size, 0, none⟩ 1 1 (⟨2 + n9, n10, n12⟩ : Gt).cells rfl rfl (by exact newsS w12 _ _ _ _) (gt_one _) (by omega) (by unfold maxLen; omega) (by omega) (by have := P10.out.size; first | omega | (simp; omega)) (w12.heap.size + 1) (by first | rfl | simp) ?_; intro g14 cap14 w14 hown14 hg14 hat14 hlt14; have P14 := Lib.hid (P13.out.app (y := ⟨2 + n9, n10, n12⟩) hown14 hg14); clear hown14 hg14 hat14 hlt14))
              go_roundw
              case rel => exact ⟨k, j + 1, ys ++ [⟨2 + n9, n10, n12⟩], some ⟨g14, 0, none⟩, cap14, by go_num, by have := HKJ.out; omega, by have := HYL.out; simp; omega, by simp, P14.out.mono (by omega)⟩
              case measure => simp [intOf]
          · obtain rfl : k = 0 := by omega
            go_wp2_with fail
            refine (oneG w c _ _ _ _ _ _ P8 (by omega) (by omega) (by omega)).mono ?_
            rintro e w9 ⟨b9, rfl, hp9⟩
            have P9 := Lib.hid hp9
            clear hp9
            cases b9
            · go_wp2
              go_ret
              exact ⟨ys, A2, cap2, rfl, by omega, P9.out.mono (by omega)⟩
            · go_wp2_with fail
              refine (pickG w c _ _ _ _ (ys.length : Int) _ P9 (by omega) (by omega) (by omega)).mono ?_
              rintro e w15 ⟨n15, ⟨l15, u15⟩, rfl, hp15, hg15⟩
              have P15 := Lib.hid hp15
              clear hp15 hg15
              obtain ⟨jj, rfl⟩ := Int.eq_ofNat_of_zero_le l15
              go_wp2_with fail
              refine (pickG w c _ _ _ _ _ _ P15 (by omega) (by omega) (by omega)).mono ?_
              rintro e w16 ⟨n16, ⟨l16, u16⟩, rfl, hp16, hg16⟩
              have P16 := Lib.hid hp16
              clear hp16 hg16
              go_wp2_with fail
              refine (pickG w c _ _ _ _ _ _ P16 (by omega) (by omega) (by omega)).mono ?_
              rintro e w17 ⟨n17, ⟨l17, u17⟩, rfl, hp17, hg17⟩
              have P17 := Lib.hid hp17
              clear hp17 hg17
              go_wp2_with fail
              refine (pickG w c _ _ _ _ _ _ P17 (by omega) (by omega) (by omega)).mono ?_
              rintro e w18 ⟨n18, ⟨l18, u18⟩, rfl, hp18, hg18⟩
              have P18 := Lib.hid hp18
              clear hp18 hg18
              have hjl : jj < ys.length := by omega
              obtain ⟨g, rfl⟩ := P18.out.form hy1
              obtain ⟨t0, t1, t2, ff⟩ := P18.out.there jj hjl
              obtain ⟨v0, t0⟩ := t0
              obtain ⟨v1, t1⟩ := t1
              obtain ⟨v2, t2⟩ := t2
              have PF := Lib.hid (P18.out.put jj hjl ⟨n16, n17 - 1, n18⟩)
              clear hjl
              go_wp2
              go_ret
              exact ⟨ys.set jj ⟨n16, n17 - 1, n18⟩, some ⟨g, 0, none⟩, cap2, ret_valG (by simp), by simp; omega, PF.out.mono (by omega)⟩

theorem PrG.below {w0 w w' : World} {c K : Nat} {xs : List Gt} {A : Option Addr} {cap : Nat} (h : PrG w0 c K xs A cap w) (hb : Below w.heap.size w w') : PrG w0 c K xs A cap w' := h.step (h.1.below hb) (grown_of_below hb)
theorem PrG.lies {w0 w : World} {c K : Nat} {xs : List Gt} {A : Option Addr} {cap : Nat} (h : PrG w0 c K xs A cap w) : GLies w A xs := own_glies rfl h.2.1
theorem rInp_le {xs : List Gt} {r0 : List Int} {r1 : Bool} (h : rInp xs = (r0, r1)) : r0.length ≤ xs.length := by
  cases hg : goodGB xs
  · rw [(rInp_no h hg).1]; simp
  · rw [(rInp_yes h hg).1, inpI_len]; exact inpN_le _ _
theorem div19 {n : Int} (h0 : 0 ≤ n) (h1 : n < 20) : ∃ q : Nat, Int.tdiv n 19 = q ∧ q ≤ 1 := by
  refine ⟨(Int.tdiv n 19).toNat, ?_, ?_⟩
  · rw [Int.tdiv_eq_ediv_of_nonneg h0]; omega
  · rw [Int.tdiv_eq_ediv_of_nonneg h0]; omega
/-- it answers drawn gates -/
def DrewGt (w : World) (e : Ending) (w' : World) : Prop :=
  ∃ (xs : List Gt) (A : Option Addr) (cap : Nat), e = .returned (.slice A xs.length cap) ∧ (1 ≤ xs.length ∧ xs.length ≤ 20) ∧ GLies w' A xs ∧ Below w.heap.size w w'
def DrewGtM (w : World) (e : Ending) (w' : World) : Prop :=
  ∃ (xs : List Gt) (A : Option Addr) (cap : Nat) (M : List Bool) (B : Option Addr) (c2 : Nat), e = .returned (.tuple #[.slice A xs.length cap, .slice B M.length c2]) ∧ (1 ≤ xs.length ∧ xs.length ≤ 20) ∧ GLies w' A xs ∧ M.length ≤ 30 ∧ BLies w' B M ∧ Below w.heap.size w w'
def DrewGtV (w : World) (e : Ending) (w' : World) : Prop :=
  ∃ (xs : List Gt) (A : Option Addr) (cap : Nat) (v : Int), e = .returned (.tuple #[.slice A xs.length cap, .int .i64 v]) ∧ (1 ≤ xs.length ∧ xs.length ≤ 20) ∧ GLies w' A xs ∧ (-1 ≤ v ∧ v ≤ 30) ∧ Below w.heap.size w w'
def DrewGt2 (w : World) (e : Ending) (w' : World) : Prop :=
  ∃ (xs ys : List Gt) (A B : Option Addr) (cap cap2 : Nat), e = .returned (.tuple #[.slice A xs.length cap, .slice B ys.length cap2]) ∧ (1 ≤ xs.length ∧ xs.length ≤ 20) ∧ (1 ≤ ys.length ∧ ys.length ≤ 20) ∧ GLies w' A xs ∧ GLies w' B ys ∧ Below w.heap.size w w'
set_option maxRecDepth 100000 in
set_option maxHeartbeats 1000000 in
theorem drawGood_any (a0 : Option Addr) (len cap : Nat) (w : World) (h : Hid (Bytes w a0 len)) :
    Calls Try.prog 95 #[.slice a0 len cap] w (DrewGt w) := by
  go_enter Try.func95, Try.ntmps95
  go_wp2_with fail
  refine (gates_any w.heap.size 0 _ (Lib.hid (Cur.new h.out)) (by omega)).mono ?_
  rintro e w1 ⟨xs, A, cp, rfl, hxl, hp⟩
  have P1 := Lib.hid hp
  clear hp
  go_wp2
  go_ret
  exact ⟨xs, A, cp, rfl, by omega, P1.out.lies, below_new P1.out.2.2.1⟩
set_option maxRecDepth 100000 in
set_option maxHeartbeats 1000000 in
theorem drawCls_any (a0 : Option Addr) (len cap : Nat) (w : World) (h : Hid (Bytes w a0 len)) :
    Calls Try.prog 28 #[.slice a0 len cap] w (DrewGt w) := by
  go_enter Try.func28, Try.ntmps28
  go_wp2_with fail
  refine (drawGood_any a0 len cap w h).mono ?_
  rintro e w1 ⟨xs, A, cp, rfl, hxl, hp, hb⟩
  have P1 := Lib.hid hp
  have B1 := Lib.hid hb
  clear hp hb
  go_wp2
  go_ret
  exact ⟨xs, A, cp, rfl, by omega, P1.out, B1.out⟩
set_option maxRecDepth 100000 in
set_option maxHeartbeats 2000000 in
theorem drawEval_any (a0 : Option Addr) (len cap : Nat) (w : World) (h : Hid (Bytes w a0 len)) :
    Calls Try.prog 44 #[.slice a0 len cap] w (DrewGtM w) := by
  go_enter Try.func44, Try.ntmps44
  go_wp2_with fail
  refine (gates_any w.heap.size 0 _ (Lib.hid (Cur.new h.out)) (by omega)).mono ?_
  rintro e w1 ⟨xs, A, cp, rfl, hxl, hp⟩
  have P1 := Lib.hid hp
  clear hp
  obtain ⟨⟨r0, r1⟩, hr⟩ : ∃ x, rInp xs = x := ⟨_, rfl⟩
  have hrl := rInp_le hr
  have HR := Lib.hid hr
  clear hr
  go_wp2_with fail
  refine (specInp_any _ xs.length cp xs _ r0 r1 HR (Lib.hid P1.out.lies) (Lib.hid rfl) (by omega)).mono ?_
  rintro e w2 ⟨A2, c2, rfl, _, hb⟩
  obtain ⟨z, hz⟩ : ∃ z, r0.length = z := ⟨_, rfl⟩
  rw [hz] at hrl ⊢
  have P2 := Lib.hid (P1.out.below hb)
  clear hb hz
  go_wp2_with fail
  refine (pickG _ _ _ _ _ _ _ _ P2 (by omega) (by omega) (by omega)).mono ?_
  rintro e w3 ⟨n3, ⟨l3, u3⟩, rfl, hp3, _⟩
  have P3 := Lib.hid hp3
  clear hp3
  obtain ⟨qd, hqd, hq1⟩ := div19 l3 u3
  go_wp2_with fail
  refine (pickG _ _ _ _ _ _ _ _ P3 (by omega) (by omega) (by omega)).mono ?_
  rintro e w4 ⟨n4, ⟨l4, u4⟩, rfl, hp4, _⟩
  have P4 := Lib.hid hp4
  clear hp4
  obtain ⟨m, rfl⟩ := Int.eq_ofNat_of_zero_le l4
  go_wp2_with fail
  refine (l4Model_any (z + qd) m _ (by omega) (by omega)).mono ?_
  rintro e w5 ⟨rfl, hk5, hb5⟩
  have M5 := Lib.hid hk5.blies
  have P5 := Lib.hid (P4.out.below hb5)
  clear hk5 hb5
  go_wp2
  go_ret2
  exact ⟨xs, A, cp, modelN (z + qd) m, _, z + qd, by rw [modelN_len]; rfl, by omega, P5.out.lies, by rw [modelN_len]; omega, M5.out, below_new P5.out.2.2.1⟩
set_option maxRecDepth 100000 in
set_option maxHeartbeats 2000000 in
theorem drawGc_any (a0 : Option Addr) (len cap : Nat) (w : World) (h : Hid (Bytes w a0 len)) :
    Calls Try.prog 50 #[.slice a0 len cap] w (DrewGtV w) := by
  go_enter Try.func50, Try.ntmps50
  go_wp2_with fail
  refine (gates_any w.heap.size 0 _ (Lib.hid (Cur.new h.out)) (by omega)).mono ?_
  rintro e w1 ⟨xs, A, cp, rfl, hxl, hp⟩
  have P1 := Lib.hid hp
  clear hp
  go_wp2_with fail
  refine (pickG _ _ _ _ _ _ _ _ P1 (by omega) (by omega) (by omega)).mono ?_
  rintro e w3 ⟨n3, ⟨l3, u3⟩, rfl, hp3, _⟩
  have P3 := Lib.hid hp3
  clear hp3
  go_wp2
  go_ret2
  exact ⟨xs, A, cp, n3 - 1, rfl, by omega, P3.out.lies, by omega, below_new P3.out.2.2.1⟩
set_option maxRecDepth 100000 in
set_option maxHeartbeats 2000000 in
theorem drawBy_any (a0 : Option Addr) (len cap : Nat) (w : World) (h : Hid (Bytes w a0 len)) :
    Calls Try.prog 52 #[.slice a0 len cap] w (DrewGtM w) := by
  go_enter Try.func52, Try.ntmps52
  go_wp2_with fail
  refine (gates_any w.heap.size 0 _ (Lib.hid (Cur.new h.out)) (by omega)).mono ?_
  rintro e w1 ⟨xs, A, cp, rfl, hxl, hp⟩
  have P1 := Lib.hid hp
  clear hp
  go_wp2_with fail
  refine (pickG _ _ _ _ _ _ _ _ P1 (by omega) (by omega) (by omega)).mono ?_
  rintro e w3 ⟨n3, ⟨l3, u3⟩, rfl, hp3, _⟩
  have P3 := Lib.hid hp3
  clear hp3
  obtain ⟨qd, hqd, hq1⟩ := div19 l3 u3
  go_wp2_with fail
  refine (pickG _ _ _ _ _ _ _ _ P3 (by omega) (by omega) (by omega)).mono ?_
  rintro e w4 ⟨n4, ⟨l4, u4⟩, rfl, hp4, _⟩
  have P4 := Lib.hid hp4
  clear hp4
  obtain ⟨m, rfl⟩ := Int.eq_ofNat_of_zero_le l4
  go_wp2_with fail
  rw [show (m : Int) * 16 = ((m * 16 : Nat) : Int) from by omega]
  refine (l4Model_any (xs.length + qd) (m * 16) _ (by omega) (by omega)).mono ?_
  rintro e w5 ⟨rfl, hk5, hb5⟩
  have M5 := Lib.hid hk5.blies
  have P5 := Lib.hid (P4.out.below hb5)
  clear hk5 hb5
  go_wp2
  go_ret2
  exact ⟨xs, A, cp, modelN (xs.length + qd) (m * 16), _, xs.length + qd, by rw [modelN_len]; rfl, by omega, P5.out.lies, by rw [modelN_len]; omega, M5.out, below_new P5.out.2.2.1⟩
theorem PrG.under {w0 w w' : World} {c K b : Nat} {xs : List Gt} {A : Option Addr} {cap : Nat} (h : PrG w0 c K xs A cap w) (hb : Below b w w') (hl : (∀ g, (Value.slice A xs.length cap).ownBlock = some g → g < b) ∧ c < b ∧ w0.heap.size ≤ b) : PrG w0 c K xs A cap w' := by
  obtain ⟨hc, h1, h2, h3⟩ := h
  obtain ⟨hl1, hl2, hl3⟩ := hl
  have hk : Kept w w' (fun i => b ≤ i) := ⟨hb.os, hb.tape, hb.output, hb.size, fun i _ hn => hb.block i (by omega)⟩
  refine ⟨?_, hk.own3G h1 (fun g e q => by have := hl1 g e; omega), ⟨hb.os.trans h2.os, hb.tape.trans h2.tape, hb.output.trans h2.output, Nat.le_trans h2.size hb.size, fun k hk' hne => (hb.block k (by omega)).trans (h2.block k hk' hne)⟩, h3⟩
  obtain ⟨a0, len, cap', k, s, hk', hl0, hcell, hbs⟩ := hc
  refine ⟨a0, len, cap', k, s, hk', hl0, (hb.block c hl2).trans hcell, fun i hi => ?_⟩
  obtain ⟨b', off, n, q1, q2, q3, q4⟩ := hbs i hi
  exact ⟨b', off, n, q1, q2, (World.cell?_of_block (a := ⟨b', off + i, none⟩) (hb.block b' (by omega))).trans q3, q4⟩
theorem own_row0 (w : World) (t : TypeId) (sz : Nat) : (w.alloc (.cells #[] t)).ownsRow w.heap.size t sz (.slice (some ⟨w.heap.size, 0, none⟩) 0 0) 0 [] :=
  ⟨by simp, .inr ⟨w.heap.size, 0, _, rfl, Nat.le_refl _, heap_alloc_new w _, Nat.le_refl _, by simp [maxLen], by simp, by simp⟩⟩
theorem gcells_one (xs : List Gt) : ∀ u ∈ gcells xs, u.oneCell' = true := by
  intro u hu
  simp only [gcells, List.mem_flatMap] at hu
  obtain ⟨x, _, hx⟩ := hu
  exact gt_one x u hx
theorem gcells_snoc' (xs : List Gt) (y : Gt) : gcells (xs ++ [y]) = gcells xs ++ y.cells := by simp [gcells]
set_option maxRecDepth 100000 in
set_option maxHeartbeats 4000000 in
theorem drawAlw_any (a0 : Option Addr) (len cap : Nat) (w : World) (h : Hid (Bytes w a0 len)) :
    Calls Try.prog 41 #[.slice a0 len cap] w (DrewGt2 w) := by
  obtain ⟨i0, hi0, hz0, hz1, hz2⟩ := info_parts info_gate
  go_enter Try.func41, Try.ntmps41
  go_wp2_with fail
  refine (gates_any w.heap.size 0 _ (Lib.hid (Cur.new h.out)) (by omega)).mono ?_
  rintro e w1 ⟨xs, A, cp, rfl, hxl, hp⟩
  have P1 := Lib.hid hp
  clear hp
  obtain ⟨g1, rfl⟩ := P1.out.form hxl.1
  go_wp2_with fail
  refine (oneG _ _ _ _ _ _ _ _ P1 (by omega) (by omega) (by omega)).mono ?_
  rintro e w2 ⟨b, rfl, hp2⟩
  have P2 := Lib.hid hp2
  clear hp2
  cases b
  · go_wp2_with fail
    refine (gates_any w.heap.size _ _ (Lib.hid P2.out.1) (by omega)).mono ?_
    rintro e w3 ⟨ys, B, cp2, rfl, hyl, hp3⟩
    have P3 := Lib.hid hp3
    have X3 := Lib.hid (P2.out.step hp3.1 hp3.2.2.1)
    clear hp3
    go_wp2
    go_ret2
    exact ⟨xs, ys, _, B, cp, cp2, rfl, by omega, by omega, X3.out.lies, P3.out.lies, below_new X3.out.2.2.1⟩
  · have L2 : Hid ((∀ g, (Value.slice (some ⟨g1, 0, none⟩) xs.length cp).ownBlock = some g → g < w2.heap.size) ∧ w.heap.size < w2.heap.size ∧ (w.alloc (.cells #[.slice a0 len cap, .int .i64 0, .int .u64 0] 112)).heap.size ≤ w2.heap.size) := Lib.hid ⟨fun g e => (P2.out.2.1.lt g e).2, P2.out.1.lt, P2.out.size⟩
    go_wp2_with (first | (at_builtin; (refine wpList_append_lies _ rfl _ _ 45 rfl w2.heap.size 120 i0 _ 3 24 Try.underlying45 hi0 hz0 hz1 hz2 rfl (by omega) _ 0 _ rfl (own_row0 w2 _ 3) ⟨g1, 0, none⟩ xs.length cp (gcells xs) rfl (gcells_len xs) (fun j u hu => (own_below P2.out.2.1 (below1 _ _)).cells (g := g1) rfl j u hu) (gcells_one xs) (by omega) (by unfold maxLen; omega) (by omega) (by simp) (w2.heap.size + 1) (by first | rfl | simp) ?_; intro g3 cap3 w3 hown3 hg3 hat3 hlt3; rw [Nat.zero_add, List.nil_append] at hown3; rw [Nat.zero_add]; have O3 := Lib.hid hown3; have hb3 : Below w2.heap.size w2 w3 := (below1 _ _).grown hg3 (by simp) (fun g e => by have e2 : some w2.heap.size = some g := e; injection e2 with e2; omega); have P3 := Lib.hid (P2.out.below hb3); have S3 := Lib.hid hb3.size; clear hb3; clear hown3 hg3 hat3 hlt3)) | (at_builtin; (refine wpList_append_lies _ rfl _ _ 45 rfl w2.heap.size 120 i0 _ 3 24 Try.underlying45 hi0 hz0 hz1 hz2 rfl (by omega) _ xs.length _ rfl (O3.out.alloc _) ⟨w3.heap.size, 0, none⟩ 1 1 (⟨2, (xs.length : Int) - 1, 0⟩ : Gt).cells rfl rfl (by exact World.news_of_block (heap_alloc_new w3 _)) (gt_one _) (by omega) (by unfold maxLen; omega) (by omega) (by have := S3.out; simp; omega) (w3.heap.size + 1) (by first | rfl | simp) ?_; intro g4 cap4 w4 hown4 hg4 hat4 hlt4; have O4 := Lib.hid hown4; have hb4 : Below w2.heap.size w3 w4 := ((Below.refl _ _).alloc S3.out _).grown hg4 (by have := S3.out; simp; omega) (fun g e => (O3.out.lt g e).1); have P4 := Lib.hid (P3.out.under hb4 L2.out); have S4 := Lib.hid (Nat.le_trans S3.out hb4.size); clear hb4; clear hown4 hg4 hat4 hlt4)) | (at_builtin; (refine wpList_append_lies _ rfl _ _ 45 rfl w2.heap.size 120 i0 _ 3 24 Try.underlying45 hi0 hz0 hz1 hz2 rfl (by omega) _ (xs.length + 1) _ rfl (O4.out.alloc _) ⟨w4.heap.size, 0, none⟩ 1 1 (⟨2, (xs.length : Int), 0⟩ : Gt).cells rfl rfl (by exact World.news_of_block (heap_alloc_new w4 _)) (gt_one _) (by omega) (by unfold maxLen; omega) (by omega) (by have := S4.out; simp; omega) (w4.heap.size + 1) (by first | rfl | simp) ?_; intro g5 cap5 w5 hown5 hg5 hat5 hlt5; have O5 := Lib.hid hown5; have hb5 : Below w2.heap.size w4 w5 := ((Below.refl _ _).alloc S4.out _).grown hg5 (by have := S4.out; simp; omega) (fun g e => (O4.out.lt g e).1); have P5 := Lib.hid (P4.out.under hb5 L2.out); clear hb5; clear hown5 hg5 hat5 hlt5)))
    go_ret2
    exact ⟨xs, xs ++ [⟨2, (xs.length : Int) - 1, 0⟩] ++ [⟨2, (xs.length : Int), 0⟩], _, some ⟨g5, 0, none⟩, cp, cap5, by simp, by omega, by simp; omega, P5.out.lies, own_glies (n := xs.length + 1 + 1) (by simp) (by rw [gcells_snoc', gcells_snoc']; exact O5.out), below_new P5.out.2.2.1⟩

set_option maxRecDepth 100000 in
set_option maxHeartbeats 2000000 in
theorem sameBools_same (A B : Option Addr) (n c1 c2 : Nat) (l : List Bool) (w : World) (hl : Hid (BLies w A l)) (hl2 : Hid (BLies w B l)) (hx : Hid (l.length = n)) (hn : n ≤ 10000000) :
    Calls Try.prog 34 #[.slice A n c1, .slice B n c2] w fun e w' => e = .returned (.bool true) ∧ Below w.heap.size w w' := by
  have hnn : ((n : Int) != (n : Int)) = false := by simp
  go_enter Try.func34, Try.ntmps34
  go_wp2_with fail
  go_loopw [13] (fun i wr => ∃ k : Nat, k ≤ n ∧ i = .int .i64 k ∧ Below w.heap.size w wr) (fun i _ => n - (intOf i).toNat)
  case atStart => exact ⟨0, Nat.zero_le _, rfl, Below.refl _ _⟩
  case round =>
    obtain ⟨k, hk, rfl, hb⟩ := hrel
    have B1 := Lib.hid hb
    clear hb
    by_cases hlt : k < n
    · obtain ⟨y, hy⟩ : ∃ y, l[k]? = some y := ⟨_, List.getElem?_eq_getElem (by have := hx.out; omega)⟩
      obtain ⟨b, off, rfl, hbl, hc⟩ := (hl.out.below B1.out) k y hy
      obtain ⟨b2, off2, rfl, hbl2, hc2⟩ := (hl2.out.below B1.out) k y hy
      clear hy
      have hyy : (y != y) = false := by simp
      go_wp2_with fail
      go_quiet (fail)
      go_wp2
      go_roundw
      case rel => exact ⟨k + 1, by omega, by go_num, bdrewN B1.out _⟩
      case measure => simp [intOf]; omega
    · obtain rfl : k = n := by omega
      go_wp2
      go_ret
      exact ⟨rfl, B1.out⟩

theorem clOk_nodup {v : Int} {c seen : List Int} (h : clOk v seen c = true) : c.Nodup := by
  induction c generalizing seen with
  | nil => simp
  | cons x t ih =>
    rw [clOk, Bool.and_eq_true] at h
    rw [List.nodup_cons]
    exact ⟨fun hx => (clOk_free h.2 x hx).1 (by simp), ih h.2⟩
theorem clauseB_nodup {v : Int} {c : List Int} (h : clauseB v c = true) : c.Nodup := by
  unfold clauseB at h
  rw [Bool.and_eq_true] at h
  exact clOk_nodup h.2
theorem one_left {c r : List Int} {u : Int} (hc : c.Nodup) (h : ∀ y ∈ lf r c, y = u) : lf r c = [] ∨ lf r c = [u] := by
  have hn : (lf r c).Nodup := hc.filter _
  generalize lf r c = l at h hn
  match l, h, hn with
  | [], _, _ => exact .inl rfl
  | [x], h, _ => exact .inr (by rw [h x (by simp)])
  | x :: y :: t, h, hn =>
    exfalso
    have hx := h x (by simp)
    have hy := h y (by simp)
    rw [List.nodup_cons] at hn
    exact hn.1 (by rw [hx, ← hy]; simp)
/-- no variable twice -/
def DV (l : List Int) : Prop := (l.map Int.natAbs).Nodup
theorem DV.snoc {l : List Int} {x : Int} (h : DV l) (h1 : x ∉ l) (h2 : -x ∉ l) : DV (l ++ [x]) := by
  unfold DV
  rw [List.map_append, List.nodup_append]
  refine ⟨h, by simp, fun a ha b hb e => ?_⟩
  simp at hb
  subst hb
  rw [List.mem_map] at ha
  obtain ⟨y, hy, e2⟩ := ha
  rw [← e2] at e
  rcases Int.natAbs_eq_natAbs_iff.1 e with q | q
  · exact h1 (q ▸ hy)
  · exact h2 (q ▸ hy)
theorem propN_dv {L : List (List Int)} {N : Nat} {k r : List Int} {b : Bool} (hk : DV k) (h : propN L N k = (r, b)) : DV r := by
  induction N generalizing k with
  | zero => simp [propN] at h; rw [← h.1]; exact hk
  | succ n ih =>
    rw [propN] at h
    split at h
    · simp at h; rw [← h.1]; exact hk
    · simp at h; rw [← h.1]; exact hk
    · rename_i x hf
      obtain ⟨_, h1, h2⟩ := firstF_unit hf
      exact ih (hk.snoc h1 h2) h
theorem DV.len {l : List Int} {n : Nat} (h : DV l) (hl : ∀ x ∈ l, litB (n : Int) x = true) (hall : ∀ k, k < n → ((k : Int) + 1 ∈ l ∨ -((k : Int) + 1) ∈ l)) : l.length = n := by
  apply Nat.le_antisymm
  · have := nodup_le (A := l.map Int.natAbs) (B := (List.range n).map (· + 1)) h (fun x hx => by
      obtain ⟨y, hy, rfl⟩ := List.mem_map.1 hx
      have := litB_iff.1 (hl y hy)
      rw [List.mem_map]
      exact ⟨y.natAbs - 1, by simp; omega, by omega⟩)
    simpa using this
  · have := nodup_le (A := (List.range n).map (· + 1)) (B := l.map Int.natAbs) (nodup_map (List.nodup_range) (fun x _ y _ e => by simpa using e)) (fun x hx => by
      obtain ⟨k, hk, rfl⟩ := List.mem_map.1 hx
      rw [List.mem_map]
      rcases hall k (by simpa using hk) with q | q
      · exact ⟨_, q, by omega⟩
      · exact ⟨_, q, by omega⟩)
    simpa using this
/-- the literals of the inputs' values, those of the first j inputs -/
def givN (xs : List Gt) (M : List Bool) (j : Nat) : List Int := ((inpN xs xs.length).take j).zipIdx.map fun (p : Nat × Nat) => if M[p.2]?.getD false then (p.1 : Int) + 1 else -(p.1 : Int) - 1
theorem givN_succ {xs : List Gt} {M : List Bool} {j k : Nat} {b : Bool} (hx : (inpN xs xs.length)[j]? = some k) (hb : M[j]? = some b) : givN xs M (j + 1) = givN xs M j ++ [if b then (k : Int) + 1 else -(k : Int) - 1] := by
  have hlt : j < (inpN xs xs.length).length := (List.getElem?_eq_some_iff.1 hx).1
  have e : (inpN xs xs.length)[j] = k := (List.getElem?_eq_some_iff.1 hx).2
  unfold givN
  rw [List.take_succ_eq_append_getElem hlt, e, List.zipIdx_append, List.map_append]
  simp [hb, Nat.min_eq_left (Nat.le_of_lt hlt)]
theorem givN_zero (xs : List Gt) (M : List Bool) : givN xs M 0 = [] := by simp [givN]
theorem givN_len (xs : List Gt) (M : List Bool) (j : Nat) : (givN xs M j).length ≤ j := by simp [givN]; omega
/-- the inputs come in order -/
theorem inpN_lt2 {xs : List Gt} {n i j a b : Nat} (hi : (inpN xs n)[i]? = some a) (hj : (inpN xs n)[j]? = some b) (h : i < j) : a < b := by
  obtain ⟨h1, h2, h3⟩ := inpN_inv hi
  obtain ⟨q1, q2, q3⟩ := inpN_inv hj
  rcases Nat.lt_or_ge a b with q | q
  · exact q
  · have := inpN_mono xs q
    omega
structure Giv (xs : List Gt) (M : List Bool) (j : Nat) : Prop where
  cl : clauseB (xs.length : Int) (givN xs M j) = true
  dv : DV (givN xs M j)
  tr : allT (evG xs M) (givN xs M j) = true
  lt : ∀ y ∈ givN xs M j, ∃ i k, i < j ∧ (inpN xs xs.length)[i]? = some k ∧ y.natAbs = k + 1
  all : ∀ i k, i < j → (inpN xs xs.length)[i]? = some k → ((k : Int) + 1 ∈ givN xs M j ∨ -((k : Int) + 1) ∈ givN xs M j)
theorem giv_ok {xs : List Gt} (hg : goodGB xs = true) {M : List Bool} (hm : M.length = nIn xs) (j : Nat) (hj : j ≤ nIn xs) : Giv xs M j := by
  have hlen := goodG_len hg
  induction j with
  | zero => exact ⟨by rw [givN_zero]; simp [clauseB, clOk], by rw [givN_zero]; simp [DV], by rw [givN_zero]; rfl, by rw [givN_zero]; simp, fun i k h => absurd h (Nat.not_lt_zero _)⟩
  | succ j ih =>
    have I := ih (by omega)
    obtain ⟨k, hk⟩ : ∃ k, (inpN xs xs.length)[j]? = some k := ⟨_, List.getElem?_eq_getElem (by unfold nIn at hj; omega)⟩
    obtain ⟨b, hb⟩ : ∃ b, M[j]? = some b := ⟨_, List.getElem?_eq_getElem (by omega)⟩
    obtain ⟨k1, k2, k3⟩ := inpN_inv hk
    have E := givN_succ hk hb
    have hx := gk_lt k1
    have hev : bt (evG xs M) (k : Int) = b := by
      refine bt_some ?_
      unfold evG
      rw [evK_at xs M (k := k + 1) (by omega) (by omega), evK_last M hx, valG_1 k2, k3, hb]
      rfl
    obtain ⟨x, hxe⟩ : ∃ x, (if b then (k : Int) + 1 else -(k : Int) - 1) = x := ⟨_, rfl⟩
    have hxa : x.natAbs = k + 1 := by rw [← hxe]; split <;> omega
    have hxl : litB (xs.length : Int) x = true := litB_iff.2 (by omega)
    have hno : ∀ y ∈ givN xs M j, y.natAbs ≠ k + 1 := fun y hy e => by
      obtain ⟨i, k', h1, h2, h3⟩ := I.lt y hy
      have := inpN_lt2 h2 hk h1
      omega
    have n1 : x ∉ givN xs M j := fun h => hno x h hxa
    have n2 : -x ∉ givN xs M j := fun h => hno _ h (by omega)
    rw [hxe] at E
    refine ⟨?_, ?_, ?_, ?_, ?_⟩
    · rw [E]
      exact clauseB_snoc (by omega) I.cl hxl n1 n2
    · rw [E]
      exact I.dv.snoc n1 n2
    · rw [E]
      unfold allT
      rw [List.all_append]
      have := I.tr
      unfold allT at this
      rw [this]
      simp only [List.all_cons, List.all_nil, Bool.and_true, Bool.true_and]
      rw [← hxe]
      cases b
      · simp only [Bool.false_eq_true, if_false]
        rw [show -(k : Int) - 1 = -((k : Int) + 1) by omega, litT_negv (by omega), hev]
        rfl
      · simp only [if_true]
        rw [litT_pos (by omega), hev]
    · rw [E]
      intro y hy
      simp at hy
      rcases hy with hy | rfl
      · obtain ⟨i, k', h1, h2, h3⟩ := I.lt y hy
        exact ⟨i, k', by omega, h2, h3⟩
      · exact ⟨j, k, by omega, hk, hxa⟩
    · rw [E]
      intro i k' hi hk'
      by_cases e : i = j
      · subst e
        rw [hk] at hk'
        injection hk' with hk'
        subst hk'
        rw [← hxe]
        cases b
        · right; rw [List.mem_append]; right; rw [List.mem_singleton]; simp; omega
        · left; rw [List.mem_append]; right; rw [List.mem_singleton]; simp
      · rcases I.all i k' (by omega) hk' with q | q
        · left; simp [q]
        · right; simp [q]
theorem bt_set {M : List Bool} {k : Nat} {b : Bool} (h : k < M.length) : bt (M.set k b) (k : Int) = b := bt_some (by rw [List.getElem?_set]; simp [h])
theorem litT_set {M : List Bool} {k : Nat} {b : Bool} {y : Int} (h0 : y ≠ 0) (h : y.natAbs ≠ k + 1) : litT (M.set k b) y = litT M y := by
  unfold litT
  split
  · rw [List.getElem?_set_ne (by omega)]
  · rw [List.getElem?_set_ne (by omega)]
/-- propagation from the inputs' values derives every gate's value -/
theorem up_all {xs : List Gt} (hg : goodGB xs = true) {M : List Bool} (hm : M.length = nIn xs) {r : List Int} {b : Bool} (h : propN (clsK xs xs.length) 20 (givN xs M (nIn xs)) = (r, b)) :
    b = false ∧ r.length = xs.length ∧ allT (evG xs M) r = true ∧ ∀ x ∈ r, litB (xs.length : Int) x = true := by
  have hlen := goodG_len hg
  have I := giv_ok hg hm (nIn xs) (Nat.le_refl _)
  have hcl := clsK_clause hg (v := (xs.length : Int)) xs.length (Nat.le_refl _) (by omega) (by omega)
  have hlits : ∀ c ∈ clsK xs xs.length, ∀ x ∈ c, litB (xs.length : Int) x = true := fun c hc => clauseB_lits (hcl c hc)
  have hholds := (clsK_holds hg xs.length (Nat.le_refl _)).2 (evG_eqs hg M)
  obtain ⟨hb, htr⟩ := propN_sound (lits_ne hcl) hholds I.tr h
  subst hb
  have hlit := propN_lits hlits (clauseB_lits I.cl) h
  have hcons := propN_cons hlits (clauseB_cons I.cl) h
  have hpass := firstF_pass (propN_pass (by omega) hlits (by have := freeN_le (givN xs M (nIn xs)); omega) h)
  refine ⟨rfl, ?_, htr, hlit⟩
  refine (propN_dv I.dv h).len hlit ?_
  intro k
  induction k using Nat.strongRecOn with
  | _ k ih =>
  intro hk
  have hx := gk_lt hk
  obtain ⟨x, hxe⟩ : ∃ x, gk xs k = x := ⟨_, rfl⟩
  rw [hxe] at hx
  by_cases h1 : x.k = 1
  · have hin := inpN_at (n := xs.length) hk hx h1
    have hlt := (List.getElem?_eq_some_iff.1 hin).1
    rcases I.all _ k hlt hin with q | q
    · exact .inl (propN_sub h _ q)
    · exact .inr (propN_sub h _ q)
  · apply Classical.byContradiction
    intro hno
    have hgx := goodG_at hg hx
    have hel : (evG xs M).length = xs.length := evG_len _ _
    obtain ⟨e, he⟩ : ∃ e, bt (evG xs M) (k : Int) = e := ⟨_, rfl⟩
    have hflip : holdsB ((evG xs M).set k (!e)) (oneC x ((k : Int) + 1)) = true := by
      refine List.all_eq_true.2 fun c hc => ?_
      have hcm : c ∈ clsK xs xs.length := by
        have : ∀ m, k < m → c ∈ clsK xs m := by
          intro m
          induction m with
          | zero => intro q; omega
          | succ m ihm =>
            intro q
            rw [clsK, List.mem_append]
            by_cases e' : k = m
            · subst e'; rw [hxe]; exact .inr hc
            · exact .inl (ihm (by omega))
        exact this _ hk
      have hu := hpass c hcm
      have hcc := hcl c hcm
      have hsmall : ∀ y ∈ c, y.natAbs ≤ k + 1 := fun y hy => by
        have := clsC_mem (v := (k : Int) + 1) (by omega) (gate_raw (by omega) hgx) c hc
        have := litB_iff.1 (clauseB_lits this y hy)
        omega
      have hknown : ∃ y ∈ c, y ∈ r := by
        apply Classical.byContradiction
        intro hn
        have hn' : ∀ y ∈ c, y ∉ r := fun y hy hr => hn ⟨y, hy, hr⟩
        have hrest : ∀ y ∈ lf r c, y.natAbs = k + 1 := fun y hy => by
          unfold lf at hy
          rw [List.mem_filter] at hy
          have hs := hsmall y hy.1
          have h0 := (litB_iff.1 (hlits c hcm y hy.1)).1
          rcases Nat.lt_or_ge y.natAbs (k + 1) with q | q
          · exfalso
            have hy2 : -y ∉ r := by simpa using hy.2
            rcases ih (y.natAbs - 1) (by omega) (by omega) with z | z
            · rcases Int.lt_or_gt_of_ne h0 with w | w
              · exact hy2 (by rw [show -y = ((y.natAbs - 1 : Nat) : Int) + 1 by omega]; exact z)
              · exact hn' y hy.1 (by rw [show y = ((y.natAbs - 1 : Nat) : Int) + 1 by omega]; exact z)
            · rcases Int.lt_or_gt_of_ne h0 with w | w
              · exact hn' y hy.1 (by rw [show y = -(((y.natAbs - 1 : Nat) : Int) + 1) by omega]; exact z)
              · exact hy2 (by rw [show -y = -(((y.natAbs - 1 : Nat) : Int) + 1) by omega]; exact z)
          · omega
        have hone : ∃ u, ∀ y ∈ lf r c, y = u := by
          by_cases q : (k : Int) + 1 ∈ c
          · refine ⟨(k : Int) + 1, fun y hy => ?_⟩
            have := hrest y hy
            have hyc : y ∈ c := by unfold lf at hy; exact (List.mem_filter.1 hy).1
            have hne : y ≠ -((k : Int) + 1) := fun e' => clauseB_cons hcc _ q (e' ▸ hyc)
            omega
          · refine ⟨-((k : Int) + 1), fun y hy => ?_⟩
            have := hrest y hy
            have hyc : y ∈ c := by unfold lf at hy; exact (List.mem_filter.1 hy).1
            have hne : y ≠ (k : Int) + 1 := fun e' => q (e' ▸ hyc)
            omega
        obtain ⟨u, hu1⟩ := hone
        rcases one_left (clauseB_nodup hcc) hu1 with q | q
        · rw [unitF_bad' hn' q] at hu; cases hu
        · rw [unitF_unit' hn' q] at hu; cases hu
      obtain ⟨y, hy, hyr⟩ := hknown
      have hne : y.natAbs ≠ k + 1 := fun e' => hno (by
        rcases Int.natAbs_eq y with q | q
        · exact .inl (by rw [show (k : Int) + 1 = y by omega]; exact hyr)
        · exact .inr (by rw [show -((k : Int) + 1) = y by omega]; exact hyr))
      refine List.any_eq_true.2 ⟨y, hy, ?_⟩
      rw [litT_set (litB_iff.1 (hlit y hyr)).1 hne]
      exact allT_mem htr hyr
    have hc := clsC_holds (v := 12) (by omega) ((evG xs M).set k (!e)) (gate_raw (x := x) (k := k) (by omega) hgx)
    unfold oneC at hflip
    rw [hc, gate_holds hgx h1 false, bt_set (by rw [hel]; exact hk), beq_iff_eq] at hflip
    have hv : valG x ((evG xs M).set k (!e)) false = valG x (evG xs M) false := valG_ahead hgx h1 (fun i hi => by rw [List.getElem?_set_ne (by omega)]) _ _
    have heq := evG_eqs hg M k x hk hx h1
    rw [he] at heq
    rw [hv, ← heq] at hflip
    cases e <;> simp at hflip
end Go.Proofs.Ytklcfbjaodildaa
