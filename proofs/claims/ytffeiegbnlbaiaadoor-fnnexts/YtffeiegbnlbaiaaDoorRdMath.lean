/-
  Plain facts: reading what was written gives it back; what is read is what is written.
-/
import Derived.Test.YtffeiegbnlbaiaaDoorEnc2
import Derived.Test.YtffeiegbnlbaiaaDoorRead2
import Derived.Test.YtffeiegbnlbaiaaDoorProgB
namespace Go.Proofs.YtffeiegbnlbaiaaDoor
open Go.ChangeShapes Go.WideShapes Go.ChangeAt Go.RowKit

theorem byteAt_nums (l : List Int) (j : Nat) (x : Int) (h : l[j]? = some x) (h0 : 0 ≤ x) (h1 : x ≤ 255) : byteAt (strOfNums l) j = x := by
  unfold byteAt
  rw [strOfNums_data, List.getD_eq_getElem?_getD, List.getElem?_map, h]
  simp only [Option.map_some, Option.getD_some]
  rw [UInt8.toNat_ofNat']
  omega
theorem encS_units' (k o d s i t : Int) : (encS k o d s i t).size = if k = 4 then 8 else 4 := by
  rw [encS, strOfNums_size, encL]
  split <;> simp
/-- a step that stands encoded at a place is read there -/
theorem read_enc {s : ByteArray} {a : Nat} {y : Stp} (hy : okP y.k y.o y.d y.s y.i y.t) (hin : a + (encS y.k y.o y.d y.s y.i y.t).size ≤ s.size) (he : s.extract a (a + (encS y.k y.o y.d y.s y.i y.t).size) = encS y.k y.o y.d y.s y.i y.t) :
    szA s a = (encS y.k y.o y.d y.s y.i y.t).size ∧ yA s a = y ∧ okA s a = true := by
  obtain ⟨hk, ho, hd, hs, hi, ht⟩ := okP_bounds hy
  have hsz := encS_units' y.k y.o y.d y.s y.i y.t
  have hb : ∀ j, j < (encS y.k y.o y.d y.s y.i y.t).size → byteAt s (a + j) = byteAt (encS y.k y.o y.d y.s y.i y.t) j := fun j hj => by
    rw [← byteAt_extract s a (a + (encS y.k y.o y.d y.s y.i y.t).size) j (by omega), he]
  have e0 : byteAt (encS y.k y.o y.d y.s y.i y.t) 0 = y.k + 16 * y.o := byteAt_nums _ 0 _ (by unfold encL; split <;> rfl) (by omega) (by omega)
  have e1 : byteAt (encS y.k y.o y.d y.s y.i y.t) 1 = 16 * y.d + y.s := byteAt_nums _ 1 _ (by unfold encL; split <;> rfl) (by omega) (by omega)
  have e2 : byteAt (encS y.k y.o y.d y.s y.i y.t) 2 = y.t := byteAt_nums _ 2 _ (by unfold encL; split <;> rfl) (by omega) (by omega)
  have e3 : byteAt (encS y.k y.o y.d y.s y.i y.t) 3 = y.i % 256 := byteAt_nums _ 3 _ (by unfold encL; split <;> rfl) (by omega) (by omega)
  have h4 : 4 ≤ (encS y.k y.o y.d y.s y.i y.t).size := by rw [hsz]; split <;> omega
  have b0 := (hb 0 (by omega)).trans e0
  have b1 := (hb 1 (by omega)).trans e1
  have b2 := (hb 2 (by omega)).trans e2
  have b3 := (hb 3 (by omega)).trans e3
  rw [Nat.add_zero] at b0
  have hkm : byteAt s a % 16 = y.k := by rw [b0]; omega
  have hz : szA s a = (encS y.k y.o y.d y.s y.i y.t).size := by rw [szA, hkm, hsz]
  have hya : yA s a = y := by
    unfold yA
    rw [hkm, b0, b1, b2, b3]
    by_cases h : y.k = 4
    · rw [if_pos h] at hsz
      have e7 : byteAt (encS y.k y.o y.d y.s y.i y.t) 7 = y.i / 256 := byteAt_nums _ 7 _ (by unfold encL; rw [if_pos h]; rfl) (by omega) (by omega)
      have b7 := (hb 7 (by omega)).trans e7
      rw [if_pos h, b7]
      obtain ⟨k, o, d, s', i, t⟩ := y
      simp only [Stp.mk.injEq] at *
      refine ⟨?_, ?_, ?_, ?_, ?_, ?_⟩ <;> first | trivial | omega
    · rw [if_neg h]
      have hi' : y.i ≤ 255 := by unfold okP at hy; omega
      obtain ⟨k, o, d, s', i, t⟩ := y
      simp only [Stp.mk.injEq] at *
      refine ⟨?_, ?_, ?_, ?_, ?_, ?_⟩ <;> first | trivial | omega
  refine ⟨hz, hya, ?_⟩
  unfold okA cutA
  rw [hya, hz, he]
  simp [Stp.ok, okB_t hy]
theorem progL_split (xs : List Stp) (k : Nat) (x : Stp) (hx : xs[k]? = some x) : progL xs = progL (xs.take k) ++ (encL x.k x.o x.d x.s x.i x.t ++ progL (xs.drop (k + 1))) := by
  have hlt : k < xs.length := (List.getElem?_eq_some_iff.1 hx).1
  have e : xs[k] = x := (List.getElem?_eq_some_iff.1 hx).2
  have : xs = xs.take k ++ (x :: xs.drop (k + 1)) := by
    rw [← e, ← List.drop_eq_getElem_cons hlt, List.take_append_drop]
  conv => lhs; rw [this]
  simp [progL]
theorem cut_mid (A B C : List Int) : (strOfNums (A ++ (B ++ C))).extract A.length (A.length + B.length) = strOfNums B := by
  apply ByteArray.ext
  apply Array.toList_inj.1
  rw [extract_data, strOfNums_data, strOfNums_data, ← List.map_take, ← List.map_drop]
  congr 1
  rw [← List.append_assoc, List.take_append_of_le_length (by simp), List.take_of_length_le (by simp), List.drop_left]
/-- where a step stands in the program's bytes -/
theorem prog_at (xs : List Stp) (k : Nat) (x : Stp) (hx : xs[k]? = some x) :
    (progS xs).extract (progS (xs.take k)).size ((progS (xs.take k)).size + (encS x.k x.o x.d x.s x.i x.t).size) = encS x.k x.o x.d x.s x.i x.t ∧
    (progS (xs.take k)).size + (encS x.k x.o x.d x.s x.i x.t).size ≤ (progS xs).size := by
  have hs := progL_split xs k x hx
  constructor
  · rw [progS, progS, encS, strOfNums_size, strOfNums_size, hs]
    exact cut_mid _ _ _
  · rw [progS, progS, encS, strOfNums_size, strOfNums_size, strOfNums_size, hs]
    simp only [List.length_append]
    omega
theorem rd_prog (xs : List Stp) (hok : ∀ (i : Nat) (x : Stp), xs[i]? = some x → okP x.k x.o x.d x.s x.i x.t) : ∀ f k, k ≤ xs.length → xs.length - k ≤ f → rdF (progS xs) f (progS (xs.take k)).size (xs.take k) = (0, xs)
  | f, k, hk, hf => by
    rcases Nat.lt_or_ge k xs.length with h | h
    · have hx : xs[k]? = some xs[k] := List.getElem?_eq_getElem h
      obtain ⟨he, hin⟩ := prog_at xs k _ hx
      obtain ⟨hz, hy, ha⟩ := read_enc (hok k _ hx) hin he
      have h4 := encS_units' xs[k].k xs[k].o xs[k].d xs[k].s xs[k].i xs[k].t
      have hp : 0 < (encS xs[k].k xs[k].o xs[k].d xs[k].s xs[k].i xs[k].t).size := by rw [h4]; split <;> omega
      rw [rd_next (by omega) (by omega) (by rw [hz]; omega) ha, hz, hy]
      have e1 : xs.take k ++ [xs[k]] = xs.take (k + 1) := by rw [List.take_succ_eq_append_getElem h]
      have e2 : (progS (xs.take k)).size + (encS xs[k].k xs[k].o xs[k].d xs[k].s xs[k].i xs[k].t).size = (progS (xs.take (k + 1))).size := by
        rw [progS_snoc xs k _ hx, ByteArray.size_append]
      rw [e1, e2]
      exact rd_prog xs hok (f - 1) (k + 1) (by omega) (by omega)
    · have e : xs.take k = xs := List.take_of_length_le h
      rw [e]
      exact rd_end (Nat.le_refl _)
  termination_by _ k => xs.length - k
theorem prog_read {xs : List Stp} (h : Good xs) : ReadRes (progS xs) xs 0 true := by
  have hs := progS_size xs
  have h20 := h.1.2
  have hr := rd_prog xs (fun i x hx => okB_yes (h.2 i x hx).1) 41 0 (by omega) (by omega)
  have e0 : (progS (xs.take 0)).size = 0 := by simp [progS, progL, strOfNums_size]
  rw [e0, List.take_zero] at hr
  refine ⟨fun hb => by omega, fun _ => ?_⟩
  rw [hr]
  exact ⟨fun h' => absurd rfl h', fun _ _ => ⟨rfl, rfl, rfl⟩, fun _ hn => absurd h hn⟩
theorem rd_back (s : ByteArray) : ∀ f a ys ls, a ≤ s.size → s.size - a ≤ 4 * f → progS ys = s.extract 0 a → rdF s f a ys = (0, ls) → progS ls = s
  | 0, a, ys, ls, ha, hf, hp, h => by
    obtain rfl : ys = ls := congrArg Prod.snd h
    rw [hp, show a = s.size from by omega, extract_all]
  | f + 1, a, ys, ls, ha, hf, hp, h => by
    rw [rdF] at h
    by_cases he : s.size ≤ a
    · rw [if_pos he] at h
      obtain rfl : ys = ls := congrArg Prod.snd h
      rw [hp, show a = s.size from by omega, extract_all]
    · rw [if_neg he] at h
      by_cases hc : s.size - a < szA s a
      · rw [if_pos hc] at h
        exact absurd (congrArg Prod.fst h) (by simp)
      · rw [if_neg hc] at h
        by_cases hk : okA s a = true
        · rw [if_pos hk] at h
          have h4 := szA_or s a
          refine rd_back s f _ _ ls (by omega) (by omega) ?_ h
          have henc : encS (yA s a).k (yA s a).o (yA s a).d (yA s a).s (yA s a).i (yA s a).t = cutA s a := by
            unfold okA at hk
            simp only [Bool.and_eq_true, decide_eq_true_eq] at hk
            exact hk.2
          have e1 : progS (ys ++ [yA s a]) = progS ys ++ encS (yA s a).k (yA s a).o (yA s a).d (yA s a).s (yA s a).i (yA s a).t := by
            rw [progS, progS, encS, ← strOfNums_append]
            simp [progL]
          rw [e1, henc, hp, cutA]
          apply ByteArray.ext
          apply Array.toList_inj.1
          rw [ByteArray.data_append, Array.toList_append, extract_data, extract_data, extract_data]
          simp only [List.drop_zero]
          have hta := List.take_append_drop a (s.data.toList.take (a + szA s a))
          rw [List.take_take, Nat.min_eq_left (by omega)] at hta
          exact hta
        · rw [if_neg hk] at h
          exact absurd (congrArg Prod.fst h) (by simp)
theorem read_back {s : ByteArray} {l : List Stp} {code : Int} (h : ReadRes s l code true) : Good l ∧ progS l = s := by
  by_cases hb : 160 < s.size
  · exact absurd (h.1 hb).2.2 (by decide)
  · have hf := h.2 hb
    rcases Classical.em ((rdF s 41 0 []).1 = 0) with h0 | h0
    · rcases Classical.em (Good (rdF s 41 0 []).2) with hg | hg
      · obtain ⟨hl, _, _⟩ := hf.2.1 h0 hg
        subst hl
        refine ⟨hg, rd_back s 41 0 [] _ (by omega) (by omega) ?_ (Prod.ext h0 rfl)⟩
        apply ByteArray.ext
        apply Array.toList_inj.1
        rw [extract_data]
        simp [progS, progL, strOfNums]
      · exact absurd (hf.2.2 h0 hg).2.2 (by decide)
    · exact absurd (hf.1 h0).2.2 (by decide)
theorem bef_size (xs : List Stp) : ∀ k, k ≤ xs.length → ((progS (xs.take k)).size : Int) = 4 * bef xs k
  | 0, _ => by simp [progS, progL, strOfNums_size, bef]
  | k + 1, h => by
    have ih := bef_size xs k (by omega)
    have hx : xs[k]? = some (xs[k]'(by omega)) := List.getElem?_eq_getElem _
    rw [progS_snoc xs k _ hx, ByteArray.size_append, bef_succ xs k _ hx, encS_units]
    have := unitsI_bd (xs[k]'(by omega)).k
    omega
end Go.Proofs.YtffeiegbnlbaiaaDoor
