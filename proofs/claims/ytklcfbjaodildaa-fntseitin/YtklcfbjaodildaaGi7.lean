/-
  The first inputs that are wanted; CanBe and AlwaysSame: the program's.
-/
import Derived.Test.YtklcfbjaodildaaGi4
namespace Go.Proofs.Ytklcfbjaodildaa
open Go.ChangeShapes Go.WideShapes Go.ChangeAt Go.RowKit

/-- what a search for the first number answers -/
def FindR (p : Nat → Bool) (m T : Nat) (f : Bool) (l : List Bool) : Prop :=
  (∃ k, k < T ∧ (∀ j, j < k → p j = false) ∧ p k = true ∧ f = true ∧ l = modelN m k) ∨ ((∀ j, j < T → p j = false) ∧ f = false ∧ l = [])
theorem FindR.at {p : Nat → Bool} {m T k : Nat} {f : Bool} {l : List Bool} (h : FindR p m T f l) (hk : k < T) (h0 : ∀ j, j < k → p j = false) (h1 : p k = true) : f = true ∧ l = modelN m k := by
  rcases h with ⟨k', a, b, c, d, e⟩ | ⟨a, b, c⟩
  · have : k' = k := by
      rcases Nat.lt_trichotomy k' k with q | q | q
      · have := h0 k' q; rw [c] at this; cases this
      · exact q
      · have := b k q; rw [h1] at this; cases this
    subst this
    exact ⟨d, e⟩
  · have := a k hk; rw [h1] at this; cases this
theorem FindR.end_ {p : Nat → Bool} {m T : Nat} {f : Bool} {l : List Bool} (h : FindR p m T f l) (h0 : ∀ j, j < T → p j = false) : f = false ∧ l = [] := by
  rcases h with ⟨k', a, b, c, d, e⟩ | ⟨a, b, c⟩
  · have := h0 k' a; rw [c] at this; cases this
  · exact ⟨b, c⟩
theorem findR_any (p : Nat → Bool) (m T : Nat) : ∃ f l, FindR p m T f l := by
  cases h : (List.range T).find? p with
  | none =>
    refine ⟨false, [], .inr ⟨fun j hj => ?_, rfl, rfl⟩⟩
    rw [List.find?_eq_none] at h
    simpa using h j (by simpa using hj)
  | some k =>
    rw [List.find?_range_eq_some] at h
    exact ⟨true, modelN m k, .inl ⟨k, by simpa using h.2.1, fun j hj => by simpa using h.2.2 j hj, h.1, rfl, rfl⟩⟩
theorem find_step {p : Nat → Bool} {k : Nat} (h : ∀ j, j < k → p j = false) (hk : p k = false) : ∀ j, j < k + 1 → p j = false := by
  intro j hj
  by_cases e : j = k
  · subst e; exact hk
  · exact h j (by omega)
/-- it answers a bool and a slice of bools of its own -/
def GaveBB (w : World) (f : Bool) (l : List Bool) (e : Ending) (w' : World) : Prop :=
  ∃ A c, e = .returned (.tuple #[.bool f, .slice A l.length c]) ∧ w'.ownsRow w.heap.size 4 1 (.slice A l.length c) l.length (l.map Value.bool) ∧ Below w.heap.size w w'
set_option maxRecDepth 100000 in
set_option maxHeartbeats 4000000 in
theorem firstO_any (m : Nat) (g n : Nat) (xs : List Gt) (w : World) (f : Bool) (l : List Bool) (hm : m ≤ 12) (HF : Hid (FindR (fun N => outG xs (modelN m N)) m (2 ^ m) f l)) (ho : Hid (OutIs w g n xs)) (HX : Hid (xs.length = n)) (hn : n ≤ 12) (HG : Hid (goodGB xs = true)) (HM : Hid (m = (inpN xs n).length)) :
    Calls Try.prog 98 #[.int .i64 m, .func (.func 141) #[] #[.pointer (some ⟨g, 0, none⟩)]] w (GaveBB w f l) := by
  obtain ⟨T, hT⟩ : ∃ T : Nat, 2 ^ m = T := ⟨_, rfl⟩
  have hT2 : T ≤ 4096 := by rw [← hT]; exact pow_le hm
  have hsh := shl_one m hm
  rw [hT] at hsh HF
  have hsh2 : IntKind.i64.wrap (2 ^ m) = (T : Int) := by rw [← hsh, Int.one_mul]
  clear hT
  go_enter Try.func98, Try.ntmps98
  go_wp2_with fail
  go_loopw [10] (fun i wr => ∃ k : Nat, k ≤ T ∧ i = .int .i64 k ∧ (∀ j, j < k → (fun N => outG xs (modelN m N)) j = false) ∧ Below w.heap.size w wr) (fun i _ => T - (intOf i).toNat)
  case atStart => exact ⟨0, Nat.zero_le _, rfl, fun j hj => absurd hj (Nat.not_lt_zero _), Below.refl _ _⟩
  case round =>
    obtain ⟨k, hk, rfl, hno, hb⟩ := hrel
    have NO := Lib.hid hno
    have B1 := Lib.hid hb
    clear hno hb
    by_cases hlt : k < T
    · go_wp2_with fail
      refine (modelOf_any m k _ (by omega) (by omega)).mono ?_
      rintro e w1 ⟨rfl, hk1, hb1⟩
      have M1 := Lib.hid hk1.blies
      have B2 := Lib.hid (Below.tr B1.out hb1)
      have O1 := Lib.hid (own_baseG (own_of_vblk (n := m) hk1 (by rw [List.length_map, modelN_len]) (by omega)) B1.out.size)
      clear hk1 hb1

      cases q : outG xs (modelN m k)
      · have N2 := Lib.hid (find_step NO.out q)
        go_wp2_with (go_at_call 141; refine (out1_any _ m _ g n xs (modelN m k) _ (Lib.hid (ho.out.below B2.out)) HX hn HG M1 (Lib.hid (modelN_len m k)) HM).mono ?_; rintro e w2 ⟨rfl, hb2⟩; rw [q]; have B3 := Lib.hid hb2; have B4 := Lib.hid (Below.tr B2.out hb2); clear hb2)
        go_roundw
        case rel => exact ⟨k + 1, by omega, by go_num, N2.out, B4.out⟩
        case measure => simp [intOf]; omega
      · have E := Lib.hid (HF.out.at hlt NO.out q)
        go_wp2_with (go_at_call 141; refine (out1_any _ m _ g n xs (modelN m k) _ (Lib.hid (ho.out.below B2.out)) HX hn HG M1 (Lib.hid (modelN_len m k)) HM).mono ?_; rintro e w2 ⟨rfl, hb2⟩; rw [q]; have B3 := Lib.hid hb2; have B4 := Lib.hid (Below.tr B2.out hb2); clear hb2)
        go_ret2
        exact ⟨_, m, by rw [E.out.1, E.out.2, modelN_len]; rfl, by rw [E.out.2, modelN_len]; exact own_below O1.out B3.out, B4.out⟩
    · obtain rfl : k = T := by omega
      have E := Lib.hid (HF.out.end_ NO.out)
      go_wp2
      go_ret2
      exact ⟨none, 0, by rw [E.out.1, E.out.2]; rfl, by rw [E.out.2]; exact World.ownsRow_nil _ _ _ _, B1.out⟩
/-- the closure that says where two outputs differ -/
def DifIs (w : World) (ga gb na nb : Nat) (xs ys : List Gt) : Prop :=
  ga < w.heap.size ∧ gb < w.heap.size ∧ ∃ pa pb, w.cell? ⟨ga, 0, none⟩ = some (.func (.func 141) #[] #[.pointer (some ⟨pa, 0, none⟩)]) ∧ w.cell? ⟨gb, 0, none⟩ = some (.func (.func 141) #[] #[.pointer (some ⟨pb, 0, none⟩)]) ∧ OutIs w pa na xs ∧ OutIs w pb nb ys
theorem DifIs.below {w w' : World} {ga gb na nb : Nat} {xs ys : List Gt} (h : DifIs w ga gb na nb xs ys) (hb : Below w.heap.size w w') : DifIs w' ga gb na nb xs ys := by
  obtain ⟨h1, h2, pa, pb, c1, c2, o1, o2⟩ := h
  exact ⟨Nat.lt_of_lt_of_le h1 hb.size, Nat.lt_of_lt_of_le h2 hb.size, pa, pb, ((bcell hb).1 _ _ h1).trans c1, ((bcell hb).1 _ _ h2).trans c2, o1.below hb, o2.below hb⟩
set_option maxRecDepth 100000 in
set_option maxHeartbeats 4000000 in
theorem dif1_any (B : Option Addr) (m c2 ga gb na nb : Nat) (xs ys : List Gt) (ins : List Bool) (w : World) (ho : Hid (DifIs w ga gb na nb xs ys)) (HX : Hid (xs.length = na)) (hn : na ≤ 12) (HG : Hid (goodGB xs = true)) (HX2 : Hid (ys.length = nb)) (hn2 : nb ≤ 12) (HG2 : Hid (goodGB ys = true)) (hl2 : Hid (BLies w B ins)) (HY : Hid (ins.length = m)) (HM : Hid (m = (inpN xs na).length)) (HM2 : Hid (m = (inpN ys nb).length)) :
    Calls Try.prog 108 #[.slice B m c2, .pointer (some ⟨ga, 0, none⟩), .pointer (some ⟨gb, 0, none⟩)] w fun e w' => e = .returned (.bool (outG xs ins != outG ys ins)) ∧ Below w.heap.size w w' := by
  obtain ⟨hga, hgb, pa, pb, ca, cb, oa, ob⟩ := ho.out
  go_enter Try.func108, Try.ntmps108
  go_wp2_with fail
  refine wp_region_held_drew (S := fun W => W.cell? ⟨ga, 0, none⟩ = some (.func (.func 141) #[] #[.pointer (some ⟨pa, 0, none⟩)]) ∧ W.cell? ⟨gb, 0, none⟩ = some (.func (.func 141) #[] #[.pointer (some ⟨pb, 0, none⟩)])) (by kernel_rfl) ⟨ca, cb⟩ (fun hHeld => ?_)
  obtain ⟨w1, hw1⟩ : ∃ W, W = w.drew := ⟨_, rfl⟩
  have hb : Below w.heap.size w w1 := by rw [hw1]; exact (Below.refl _ _).drew
  rw [← hw1] at hHeld ⊢
  clear hw1
  have OA := Lib.hid (oa.below hb)
  have OB := Lib.hid (ob.below hb)
  have I1 := Lib.hid (hl2.out.below hb)
  have B1 := Lib.hid hb
  have G1 : Hid (ga < w1.heap.size ∧ gb < w1.heap.size) := Lib.hid ⟨Nat.lt_of_lt_of_le hga hb.size, Nat.lt_of_lt_of_le hgb hb.size⟩
  clear oa ob hb ca cb
  refine wpAnyH_take (i := 0) (v := ?_) rfl (by kernel_rfl) (by kernel_rfl) (by kernel_rfl) (fun _ _ _ h => h) (Or.inl ⟨by rfl, ?_⟩) (by assumption) ?_
  rotate_left
  · intro W hSw
    try dsimp only at hSw
    obtain ⟨hS1, hS2⟩ := hSw
    go_simp
    try with_reducible rfl
  simp only [Act.put, List.setIfInBounds_toArray]
  refine wpAnyH_take (i := 1) (v := ?_) rfl (by kernel_rfl) (by kernel_rfl) (by kernel_rfl) (fun _ _ _ h => h) (Or.inl ⟨by rfl, ?_⟩) (by assumption) ?_
  rotate_left
  · intro W hSw
    try dsimp only at hSw
    obtain ⟨hS1, hS2⟩ := hSw
    go_simp
    try with_reducible rfl
  simp only [Act.put]
  refine wpAnyH_take (i := 3) (v := ?_) rfl (by kernel_rfl) (by kernel_rfl) (by kernel_rfl) (fun _ _ _ h => h) (Or.inl ⟨by rfl, ?_⟩) (by assumption) ?_
  rotate_left
  · intro W hSw
    try dsimp only at hSw
    obtain ⟨hS1, hS2⟩ := hSw
    go_simp
    try with_reducible rfl
  simp only [Act.put]
  refine wpAnyH_take (i := 4) (v := ?_) rfl (by kernel_rfl) (by kernel_rfl) (by kernel_rfl) (fun _ _ _ h => h) (Or.inl ⟨by rfl, ?_⟩) (by assumption) ?_
  rotate_left
  · intro W hSw
    try dsimp only at hSw
    obtain ⟨hS1, hS2⟩ := hSw
    go_simp
    try with_reducible rfl
  simp only [Act.put]
  refine wpAnyH_ready (rs := [2]) (by kernel_rfl) (by simp) ?_
  refine AllReadyH.cons rfl (fun K hK => ?_) AllReadyH.nil
  · go_simp
    refine (out1_any _ m _ pa na xs ins _ OA HX hn HG I1 HY HM).mono ?_
    rintro e w2 ⟨rfl, hb2⟩
    have hH2 : w2.cell? ⟨ga, 0, none⟩ = _ ∧ w2.cell? ⟨gb, 0, none⟩ = _ := ⟨((bcell hb2).1 ga 0 G1.out.1).trans hHeld.1, ((bcell hb2).1 gb 0 G1.out.2).trans hHeld.2⟩
    have OA2 := Lib.hid (OA.out.below hb2)
    have OB2 := Lib.hid (OB.out.below hb2)
    have I2 := Lib.hid (I1.out.below hb2)
    have B2 := Lib.hid (Below.tr B1.out hb2)
    have G2 : Hid (ga < w2.heap.size ∧ gb < w2.heap.size) := Lib.hid ⟨Nat.lt_of_lt_of_le G1.out.1 hb2.size, Nat.lt_of_lt_of_le G1.out.2 hb2.size⟩
    clear hb2
    refine hK.out _ _ hH2 (fun hH3 => ?_)
    clear hK K hHeld hH2
    try simp only [Act.put, List.setIfInBounds_toArray, List.set_cons_zero, List.set_cons_succ]
    refine wpAnyH_ready (rs := [5]) (by kernel_rfl) (by simp) ?_
    refine AllReadyH.cons rfl (fun K hK => ?_) AllReadyH.nil
    go_simp
    refine (out1_any _ m _ pb nb ys ins _ OB2 HX2 hn2 HG2 I2 HY HM2).mono ?_
    rintro e w3 ⟨rfl, hb3⟩
    have hH4 : w3.cell? ⟨ga, 0, none⟩ = _ ∧ w3.cell? ⟨gb, 0, none⟩ = _ := ⟨((bcell hb3).1 ga 0 G2.out.1).trans hH3.1, ((bcell hb3).1 gb 0 G2.out.2).trans hH3.2⟩
    have B3 := Lib.hid (Below.tr B2.out hb3)
    clear hb3
    refine hK.out _ _ hH4 (fun hH5 => ?_)
    clear hK K hH3 hH4
    try simp only [Act.put, List.setIfInBounds_toArray, List.set_cons_zero, List.set_cons_succ]
    refine wpAnyH_ready (rs := [6]) (by kernel_rfl) (by simp) ?_
    refine AllReadyH.cons rfl (fun K hK => ?_) AllReadyH.nil
    go_simp
    refine hK.out _ _ hH5 (fun hH6 => ?_)
    clear hK K hH5
    try simp only [Act.put, List.setIfInBounds_toArray, List.set_cons_zero, List.set_cons_succ]
    refine wpAnyH_ready (rs := [7]) (by kernel_rfl) (by simp) ?_
    refine AllReadyH.cons rfl (fun K hK => ?_) AllReadyH.nil
    go_simp
    refine hK.out _ _ hH6 (fun hH7 => ?_)
    clear hK K hH6
    try simp only [Act.put, List.setIfInBounds_toArray, List.set_cons_zero, List.set_cons_succ]
    refine wpAnyH_done (by kernel_rfl) ?_ _
    clear hH7
    go_wp2
    go_ret
    exact ⟨rfl, B3.out⟩
set_option maxRecDepth 100000 in
set_option maxHeartbeats 4000000 in
theorem firstD_any (m : Nat) (ga gb na nb : Nat) (xs ys : List Gt) (w : World) (f : Bool) (l : List Bool) (hm : m ≤ 12) (HF : Hid (FindR (fun N => outG xs (modelN m N) != outG ys (modelN m N)) m (2 ^ m) f l)) (ho : Hid (DifIs w ga gb na nb xs ys)) (HX : Hid (xs.length = na)) (hn : na ≤ 12) (HG : Hid (goodGB xs = true)) (HX2 : Hid (ys.length = nb)) (hn2 : nb ≤ 12) (HG2 : Hid (goodGB ys = true)) (HM : Hid (m = (inpN xs na).length)) (HM2 : Hid (m = (inpN ys nb).length)) :
    Calls Try.prog 98 #[.int .i64 m, .func (.func 108) #[] #[.pointer (some ⟨ga, 0, none⟩), .pointer (some ⟨gb, 0, none⟩)]] w (GaveBB w f l) := by
  obtain ⟨T, hT⟩ : ∃ T : Nat, 2 ^ m = T := ⟨_, rfl⟩
  have hT2 : T ≤ 4096 := by rw [← hT]; exact pow_le hm
  have hsh := shl_one m hm
  rw [hT] at hsh HF
  have hsh2 : IntKind.i64.wrap (2 ^ m) = (T : Int) := by rw [← hsh, Int.one_mul]
  clear hT
  go_enter Try.func98, Try.ntmps98
  go_wp2_with fail
  go_loopw [10] (fun i wr => ∃ k : Nat, k ≤ T ∧ i = .int .i64 k ∧ (∀ j, j < k → (fun N => outG xs (modelN m N) != outG ys (modelN m N)) j = false) ∧ Below w.heap.size w wr) (fun i _ => T - (intOf i).toNat)
  case atStart => exact ⟨0, Nat.zero_le _, rfl, fun j hj => absurd hj (Nat.not_lt_zero _), Below.refl _ _⟩
  case round =>
    obtain ⟨k, hk, rfl, hno, hb⟩ := hrel
    have NO := Lib.hid hno
    have B1 := Lib.hid hb
    clear hno hb
    by_cases hlt : k < T
    · go_wp2_with fail
      refine (modelOf_any m k _ (by omega) (by omega)).mono ?_
      rintro e w1 ⟨rfl, hk1, hb1⟩
      have M1 := Lib.hid hk1.blies
      have B2 := Lib.hid (Below.tr B1.out hb1)
      have O1 := Lib.hid (own_baseG (own_of_vblk (n := m) hk1 (by rw [List.length_map, modelN_len]) (by omega)) B1.out.size)
      clear hk1 hb1

      cases q : (outG xs (modelN m k) != outG ys (modelN m k))
      · have N2 := Lib.hid (find_step NO.out q)
        go_wp2_with (go_at_call 108; refine (dif1_any _ m _ ga gb na nb xs ys (modelN m k) _ (Lib.hid (ho.out.below B2.out)) HX hn HG HX2 hn2 HG2 M1 (Lib.hid (modelN_len m k)) HM HM2).mono ?_; rintro e w2 ⟨rfl, hb2⟩; rw [q]; have B3 := Lib.hid hb2; have B4 := Lib.hid (Below.tr B2.out hb2); clear hb2)
        go_roundw
        case rel => exact ⟨k + 1, by omega, by go_num, N2.out, B4.out⟩
        case measure => simp [intOf]; omega
      · have E := Lib.hid (HF.out.at hlt NO.out q)
        go_wp2_with (go_at_call 108; refine (dif1_any _ m _ ga gb na nb xs ys (modelN m k) _ (Lib.hid (ho.out.below B2.out)) HX hn HG HX2 hn2 HG2 M1 (Lib.hid (modelN_len m k)) HM HM2).mono ?_; rintro e w2 ⟨rfl, hb2⟩; rw [q]; have B3 := Lib.hid hb2; have B4 := Lib.hid (Below.tr B2.out hb2); clear hb2)
        go_ret2
        exact ⟨_, m, by rw [E.out.1, E.out.2, modelN_len]; rfl, by rw [E.out.2, modelN_len]; exact own_below O1.out B3.out, B4.out⟩
    · obtain rfl : k = T := by omega
      have E := Lib.hid (HF.out.end_ NO.out)
      go_wp2
      go_ret2
      exact ⟨none, 0, by rw [E.out.1, E.out.2]; rfl, by rw [E.out.2]; exact World.ownsRow_nil _ _ _ _, B1.out⟩
end Go.Proofs.Ytklcfbjaodildaa
