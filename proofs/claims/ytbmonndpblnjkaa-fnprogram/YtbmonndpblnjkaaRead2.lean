/-
  Reading a program from a string: what both readers come to; the contract of the program's.
-/
import Derived.Test.YtbmonndpblnjkaaRead1
namespace Go.Proofs.Ytbmonndpblnjkaa
open Go.ChangeShapes Go.WideShapes Go.ChangeAt Go.RowKit

/-- how many bytes the step at a place takes, the bytes, the step -/
def szA (s : ByteArray) (a : Nat) : Nat := if byteAt s a % 16 = 4 then 8 else 4
def cutA (s : ByteArray) (a : Nat) : ByteArray := s.extract a (a + szA s a)
def yA (s : ByteArray) (a : Nat) : Stp := ⟨byteAt s a % 16, byteAt s a / 16, byteAt s (a + 1) / 16, byteAt s (a + 1) % 16, if byteAt s a % 16 = 4 then byteAt s (a + 3) + 256 * byteAt s (a + 7) else byteAt s (a + 3), byteAt s (a + 2)⟩
def okA (s : ByteArray) (a : Nat) : Bool := (yA s a).ok && decide (encS (yA s a).k (yA s a).o (yA s a).d (yA s a).s (yA s a).i (yA s a).t = cutA s a)
/-- the reading from a place on: a code, and the steps -/
def rdF (s : ByteArray) : Nat → Nat → List Stp → Int × List Stp
  | 0, _, ys => (0, ys)
  | f + 1, a, ys => if s.size ≤ a then (0, ys) else if s.size - a < szA s a then (1, []) else if okA s a = true then rdF s f (a + szA s a) (ys ++ [yA s a]) else (2, [])
theorem rd_end {s : ByteArray} {f a : Nat} {ys : List Stp} (h : s.size ≤ a) : rdF s f a ys = (0, ys) := by
  cases f with
  | zero => rfl
  | succ f => rw [rdF, if_pos h]
theorem rd_cut {s : ByteArray} {f a : Nat} {ys : List Stp} (hf : 0 < f) (h : a < s.size) (hc : s.size - a < szA s a) : rdF s f a ys = (1, []) := by
  obtain ⟨f, rfl⟩ : ∃ g, f = g + 1 := ⟨f - 1, by omega⟩
  rw [rdF, if_neg (by omega), if_pos hc]
theorem rd_bad {s : ByteArray} {f a : Nat} {ys : List Stp} (hf : 0 < f) (h : a < s.size) (hc : ¬ s.size - a < szA s a) (hb : okA s a = false) : rdF s f a ys = (2, []) := by
  obtain ⟨f, rfl⟩ : ∃ g, f = g + 1 := ⟨f - 1, by omega⟩
  rw [rdF, if_neg (by omega), if_neg hc, if_neg (by simp [hb])]
theorem rd_next {s : ByteArray} {f a : Nat} {ys : List Stp} (hf : 0 < f) (h : a < s.size) (hc : ¬ s.size - a < szA s a) (hb : okA s a = true) : rdF s f a ys = rdF s (f - 1) (a + szA s a) (ys ++ [yA s a]) := by
  obtain ⟨f, rfl⟩ : ∃ g, f = g + 1 := ⟨f - 1, by omega⟩
  rw [rdF, if_neg (by omega), if_neg hc, if_pos hb]
  rfl
/-- what is answered behind such a reading -/
def FinR (R : Int × List Stp) (l : List Stp) (code : Int) (b : Bool) : Prop :=
  (R.1 ≠ 0 → l = [] ∧ code = R.1 ∧ b = false) ∧ (R.1 = 0 → Good R.2 → l = R.2 ∧ code = 0 ∧ b = true) ∧ (R.1 = 0 → ¬ Good R.2 → l = [] ∧ code = 3 ∧ b = false)
def ReadRes (s : ByteArray) (l : List Stp) (code : Int) (b : Bool) : Prop :=
  (160 < s.size → l = [] ∧ code = 0 ∧ b = false) ∧ (¬ 160 < s.size → FinR (rdF s 41 0 []) l code b)
theorem read_res (s : ByteArray) : ∃ l code b, ReadRes s l code b := by
  by_cases h : 160 < s.size
  · exact ⟨[], 0, false, fun _ => ⟨rfl, rfl, rfl⟩, fun h' => absurd h h'⟩
  · rcases Classical.em ((rdF s 41 0 []).1 = 0) with h0 | h0
    · rcases Classical.em (Good (rdF s 41 0 []).2) with hg | hg
      · exact ⟨_, _, _, fun h' => absurd h' h, fun _ => ⟨fun h' => absurd h0 h', fun _ _ => ⟨rfl, rfl, rfl⟩, fun _ h' => absurd hg h'⟩⟩
      · exact ⟨_, _, _, fun h' => absurd h' h, fun _ => ⟨fun h' => absurd h0 h', fun _ h' => absurd h' hg, fun _ _ => ⟨rfl, rfl, rfl⟩⟩⟩
    · exact ⟨_, _, _, fun h' => absurd h' h, fun _ => ⟨fun _ => ⟨rfl, rfl, rfl⟩, fun h' => absurd h' h0, fun h' => absurd h' h0⟩⟩

theorem extract_data (s : ByteArray) (a b : Nat) : (s.extract a b).data.toList = (s.data.toList.take b).drop a := by
  rw [ByteArray.data_extract]
  simp [Array.toList_extract, List.extract_eq_take_drop, List.drop_take]
theorem byteAt_extract (s : ByteArray) (a b j : Nat) (h : a + j < b) : byteAt (s.extract a b) j = byteAt s (a + j) := by
  unfold byteAt
  rw [extract_data, List.getD_eq_getElem?_getD, List.getD_eq_getElem?_getD, List.getElem?_drop, List.getElem?_take, if_pos h]
theorem extract_size (s : ByteArray) (a b : Nat) (h : b ≤ s.size) : (s.extract a b).size = b - a := by
  rw [ByteArray.size_extract]
  omega
theorem extract_head (s : ByteArray) (a z : Nat) (h : a + z ≤ s.size) : (s.extract a s.size).extract 0 z = s.extract a (a + z) := by
  apply ByteArray.ext
  apply Array.toList_inj.1
  rw [extract_data, extract_data, extract_data]
  apply List.ext_getElem?
  intro j
  simp only [List.drop_zero, List.getElem?_take, List.getElem?_drop]
  by_cases hj : j < z
  · rw [if_pos hj, if_pos (by omega), if_pos (by omega)]
  · rw [if_neg hj, if_neg (by omega)]
theorem extract_tail (s : ByteArray) (a z : Nat) : (s.extract a s.size).extract z (s.size - a) = s.extract (a + z) s.size := by
  apply ByteArray.ext
  apply Array.toList_inj.1
  rw [extract_data, extract_data, extract_data]
  apply List.ext_getElem?
  intro j
  simp only [List.getElem?_take, List.getElem?_drop]
  by_cases hj : z + j < s.size - a
  · rw [if_pos hj, if_pos (by omega), if_pos (by omega), Nat.add_assoc]
  · rw [if_neg hj, if_neg (by omega)]
theorem extract_all (s : ByteArray) : s.extract 0 s.size = s := by
  apply ByteArray.ext
  apply Array.toList_inj.1
  rw [extract_data, List.drop_zero, List.take_of_length_le (by rw [Array.length_toList]; exact Nat.le_refl _)]
theorem szA_or (s : ByteArray) (a : Nat) : szA s a = 4 ∨ szA s a = 8 := by unfold szA; split <;> simp

/-- the step of the bytes at a place -/
theorem stepFromA (s : ByteArray) (a : Nat) (w : World) (h : a + szA s a ≤ s.size) :
    Calls Try.prog 39 #[.string (cutA s a)] w fun e w' => e = .returned (.agg #[.int .i64 (yA s a).k, .int .i64 (yA s a).o, .int .i64 (yA s a).d, .int .i64 (yA s a).s, .int .i64 (yA s a).i, .int .i64 (yA s a).t]) ∧ Below w.heap.size w w' := by
  have hsz : (cutA s a).size = szA s a := by rw [cutA, extract_size _ _ _ h]; omega
  have hb : ∀ j, j < szA s a → byteAt (cutA s a) j = byteAt s (a + j) := fun j hj => byteAt_extract s a _ j (by omega)
  by_cases h4 : byteAt s a % 16 = 4
  · have h8 : szA s a = 8 := by rw [szA, if_pos h4]
    refine (stepFrom8 _ w (by omega)).mono fun e w' ⟨he, hw⟩ => ⟨?_, hw⟩
    rw [he, hb 0 (by omega), hb 1 (by omega), hb 2 (by omega), hb 3 (by omega), hb 7 (by omega)]
    simp only [yA, if_pos h4, Nat.add_zero]
  · have h8 : szA s a = 4 := by rw [szA, if_neg h4]
    refine (stepFrom4 _ w (by omega)).mono fun e w' ⟨he, hw⟩ => ⟨?_, hw⟩
    rw [he, hb 0 (by omega), hb 1 (by omega), hb 2 (by omega), hb 3 (by omega)]
    simp only [yA, if_neg h4, Nat.add_zero]

theorem stepFromY (s : ByteArray) (a : Nat) (y : Stp) (u : ByteArray) (w : World) (hy : yA s a = y) (hu : cutA s a = u) (h : a + szA s a ≤ s.size) :
    Calls Try.prog 39 #[.string u] w fun e w' => e = .returned (.agg #[.int .i64 y.k, .int .i64 y.o, .int .i64 y.d, .int .i64 y.s, .int .i64 y.i, .int .i64 y.t]) ∧ Below w.heap.size w w' := by
  subst hy hu
  exact stepFromA s a w h
theorem str_ne {a b : ByteArray} (h : ¬ a = b) : (a.toList == b.toList) = false := by
  refine beq_eq_false_iff_ne.2 fun e => h ?_
  rw [ByteArray.toList_eq, ByteArray.toList_eq] at e
  exact ByteArray.ext (Array.toList_inj.1 e)
theorem okA_no {s : ByteArray} {a : Nat} {y : Stp} {u : ByteArray} (hy : yA s a = y) (hu : cutA s a = u) (h : okB y.k y.o y.d y.s y.i y.t = false ∨ ¬ sbS y.k y.o y.d y.s y.i y.t = u) : okA s a = false := by
  unfold okA
  rw [hy, hu]
  rcases h with h | h
  · simp [Stp.ok, h]
  · cases hok : okB y.k y.o y.d y.s y.i y.t
    · simp [Stp.ok, hok]
    · rw [← sbS_yes hok] at h
      simp [h]
theorem okA_yes {s : ByteArray} {a : Nat} {y : Stp} {u : ByteArray} (hy : yA s a = y) (hu : cutA s a = u) (hok : okB y.k y.o y.d y.s y.i y.t = true) (h : sbS y.k y.o y.d y.s y.i y.t = u) : okA s a = true := by
  unfold okA
  rw [hy, hu]
  rw [← sbS_yes hok] at h
  simp [Stp.ok, hok, h]
theorem cells_one (y : Stp) : ∀ u ∈ y.cells, u.oneCell' = true := by
  intro u hu
  simp only [Stp.cells, List.mem_cons, List.mem_nil_iff, or_false] at hu
  rcases hu with rfl | rfl | rfl | rfl | rfl | rfl <;> rfl
/-- steps gathered in memory of its own -/
def GotS (base : Nat) (ys : List Stp) (v : Value) (w : World) : Prop :=
  ∃ A c, v = .slice A ys.length c ∧ w.ownsRow base 36 6 (.slice A ys.length c) ys.length (cellsOf ys)
/-- it answers steps of its own, a code and a bool -/
def GaveRead (w : World) (l : List Stp) (code : Int) (b : Bool) (e : Ending) (w' : World) : Prop :=
  ∃ A c, e = .returned (.tuple #[.slice A l.length c, .int .i64 code, .bool b]) ∧ w'.ownsRow w.heap.size 36 6 (.slice A l.length c) l.length (cellsOf l) ∧ Below w.heap.size w w'
theorem read_nil {w w1 : World} (code : Int) (h : Below w.heap.size w w1) : GaveRead w [] code false (.returned (.tuple #[.slice none 0 0, .int .i64 code, .bool false])) w1 :=
  ⟨none, 0, rfl, World.ownsRow_nil _ _ _ _, h⟩
def szV : Value → Nat
  | .string s => s.size
  | _ => 0
/-- the reading so far -/
def RdInv (base : Nat) (s : ByteArray) (R : Int × List Stp) (a : Nat) (ys : List Stp) (v : Value) (w : World) : Prop :=
  a ≤ s.size ∧ (∃ f, s.size - a ≤ 4 * f ∧ rdF s f a ys = R) ∧ ys.length * 4 ≤ a ∧ GotS base ys v w
theorem own_lies' {w : World} {base n c : Nat} {A : Option Addr} {t : TypeId} {xs : List Stp} (h : w.ownsRow base t 6 (.slice A n c) n (cellsOf xs)) : Lies w A xs := by
  intro i x hx
  have hlt : i < xs.length := (List.getElem?_eq_some_iff.1 hx).1
  have hl := h.1
  rw [cellsOf_len] at hl
  obtain ⟨g, cap, hv, _, hg⟩ := h.form (by omega)
  have hA : A = some ⟨g, 0, none⟩ := by injection hv
  subst hA
  exact own_lies h i x hx
/-- an append of one step -/
theorem gotS_step {w wr w3 : World} {ys : List Stp} {c2 g3 cap3 : Nat} {A2 : Option Addr} {y : Stp} {Bn : Obj}
    (O2 : wr.ownsRow w.heap.size 36 6 (.slice A2 ys.length c2) ys.length (cellsOf ys))
    (hown3 : w3.ownsRow w.heap.size 36 6 (.slice (some ⟨g3, 0, none⟩) (ys.length + 1) cap3) (ys.length + 1) (cellsOf ys ++ y.cells))
    (hg3 : (wr.alloc Bn).grownBy w3 (Value.slice A2 ys.length c2).ownBlock) (B2 : Below w.heap.size w wr) :
    GotS w.heap.size (ys ++ [y]) (.slice (some ⟨g3, 0, none⟩) (ys.length + 1) cap3) w3 ∧ Below w.heap.size w w3 := by
  have hlt := O2.lt
  refine ⟨⟨some ⟨g3, 0, none⟩, cap3, by simp, ?_⟩, ?_⟩
  · have e : cellsOf (ys ++ [y]) = cellsOf ys ++ y.cells := by simp [cellsOf]
    rw [e]
    simpa using hown3
  · exact ((Below.tr B2 (below1 wr _)).grown hg3 (by have := B2.size; simp; omega) (fun g hg => (hlt g hg).1))

set_option maxRecDepth 100000 in
set_option maxHeartbeats 4000000 in
theorem implRead_any (s : ByteArray) (w : World) (l : List Stp) (code : Int) (b : Bool) (hr : Hid (ReadRes s l code b)) (hs : s.size ≤ 1048576) :
    Calls Try.prog 14 #[.string s] w (GaveRead w l code b) := by
  obtain ⟨i0, hi0, hz0, hz1, hz2⟩ := info_parts info_step
  by_cases hbig : 160 < s.size
  · obtain ⟨rfl, rfl, rfl⟩ := hr.out.1 hbig
    have hb' : (160 : Int) < (s.size : Int) := by omega
    go_enter Try.func14, Try.ntmps14
    go_wp2
    go_ret3
    exact read_nil 0 (Below.refl _ _)
  · have HF := Lib.hid (hr.out.2 hbig)
    obtain ⟨R, hR⟩ : ∃ R, rdF s 41 0 [] = R := ⟨_, rfl⟩
    rw [hR] at HF
    have HR := Lib.hid hR
    clear hR
    have hb' : decide ((160 : Int) < (s.size : Int)) = false := by simp; omega
    have HALL := Lib.hid (extract_all s)
    go_enter Try.func14, Try.ntmps14
    go_wp2_with fail
    go_loopw [5, 6] (fun v rest wr => ∃ a ys, rest = .string (s.extract a s.size) ∧ RdInv w.heap.size s R a ys v wr ∧ Below w.heap.size w wr) (fun _ rest _ => szV rest)
    case atStart => exact ⟨0, [], by rw [HALL.out], ⟨Nat.zero_le _, ⟨41, by omega, HR.out⟩, by simp, ⟨none, 0, rfl, World.ownsRow_nil _ _ _ _⟩⟩, Below.refl _ _⟩
    case round =>
      obtain ⟨a, ys, rfl, ⟨ha, ⟨f, hf, hrd⟩, hys, ⟨A2, c2, rfl, hown⟩⟩, hbw⟩ := hrel
      have O2 := Lib.hid hown
      have B2 := Lib.hid hbw
      have RD := Lib.hid hrd
      clear hown hbw hrd
      obtain ⟨r, hr0⟩ : ∃ r, s.extract a s.size = r := ⟨_, rfl⟩
      have HRR := Lib.hid hr0
      have hrs : r.size = s.size - a := by rw [← hr0, extract_size _ _ _ (Nat.le_refl _)]
      rw [hr0]
      clear hr0
      obtain ⟨S, hS⟩ : ∃ S : Nat, s.size - a = S := ⟨_, rfl⟩
      rw [hS] at hrs
      have HSS := Lib.hid hS
      have hS160 : S ≤ 160 := by omega
      clear hS
      by_cases hend : a < s.size
      · have hSpos : 0 < S := by have := HSS.out; omega
        have j0 : ∀ w, (Instr.index 9 (.string r) (.int .i64 0)).run Try.prog w = .ok (.int .u8 (byteAt s a)) w := fun w => by
          have := index_run r 0 (by omega) w
          rw [← HRR.out, byteAt_extract s a _ 0 (by omega), Nat.add_zero, HRR.out] at this
          exact this
        have jb := byteAt_bd s a
        by_cases h4 : byteAt s a % 16 = 4
        · have hz : Hid (szA s a = 8) := if_pos h4
          have hun : unitsI (byteAt s a % 16) = 2 := if_pos h4
          clear h4
          by_cases hcut : S < 8
          · have HC : Hid (R = (1, [])) := RD.out.symm.trans (rd_cut (by omega) hend (by have := HSS.out; have := hz.out; omega))
            obtain ⟨hl0, hc0, hb0⟩ := HF.out.1 (by rw [HC.out]; decide)
            rw [HC.out] at hc0
            subst hl0 hc0 hb0
            go_wp2_with (go_at_call 38; refine (unitsOf_any _ _).mono ?_; rintro e w' ⟨rfl, rfl⟩)
            go_ret3
            exact read_nil 1 B2.out
          · have hS8 : 8 ≤ S := by omega
            have hin : a + szA s a ≤ s.size := by have := HSS.out; have := hz.out; omega
            have hnc : ¬ s.size - a < szA s a := by omega
            have HNC := Lib.hid hnc
            have HIN := Lib.hid hin
            clear hnc hin
            have hu : r.extract 0 8 = cutA s a := by
              have := extract_head s a 8 (by have := HSS.out; omega)
              rw [HRR.out] at this
              rw [this, cutA, hz.out]
            have hr1 : r.extract 8 S = s.extract (a + 8) s.size := by
              have := extract_tail s a 8
              rw [HRR.out, HSS.out] at this
              exact this
            obtain ⟨r1, hrr⟩ : ∃ r1, s.extract (a + 8) s.size = r1 := ⟨_, rfl⟩
            rw [hrr] at hr1
            have HR1 := Lib.hid hrr
            have hr1s : r1.size = S - 8 := by rw [← hrr, extract_size _ _ _ (Nat.le_refl _)]; have := HSS.out; omega
            clear hrr
            obtain ⟨y, hy⟩ : ∃ y, yA s a = y := ⟨_, rfl⟩
            have HY := Lib.hid hy
            clear hy
            obtain ⟨u, huu⟩ : ∃ u, cutA s a = u := ⟨_, rfl⟩
            rw [huu] at hu
            have HU := Lib.hid huu
            clear huu
            go_wp2_with fail
            refine (unitsOf_any _ _).mono ?_
            rintro e w' ⟨rfl, rfl⟩
            go_wp2_with fail
            refine (stepFromY s a y u _ HY.out HU.out HIN.out).mono ?_
            rintro e w3 ⟨rfl, hb3⟩
            have B3 := Lib.hid (Below.tr B2.out hb3)
            have O3 := Lib.hid (own_below O2.out hb3)
            clear hb3
            cases hok : okB y.k y.o y.d y.s y.i y.t
            · have HBAD : Hid (okA s a = false) := okA_no HY.out HU.out (Or.inl hok)
              have HC : Hid (R = (2, [])) := RD.out.symm.trans (rd_bad (by omega) hend HNC.out HBAD.out)
              obtain ⟨hl0, hc0, hb0⟩ := HF.out.1 (by rw [HC.out]; decide)
              rw [HC.out] at hc0
              subst hl0 hc0 hb0
              have HOK := Lib.hid hok
              clear hok
              go_wp2_with fail
              refine (stepBytes_any _ _ _ _ _ _ _ _ HOK.out).mono ?_
              rintro e w4 ⟨rfl, hb4⟩
              have B4 := Lib.hid (Below.tr B3.out ((below1 w3 _).trans (hb4.mono (by simp))))
              clear hb4
              go_wp2
              go_ret3
              exact read_nil 2 B4.out
            · have HOK := Lib.hid hok
              clear hok
              by_cases henc : sbS y.k y.o y.d y.s y.i y.t = u
              · have hq : ((sbS y.k y.o y.d y.s y.i y.t).toList == u.toList) = true := by rw [henc]; exact beq_self_eq_true _
                have HGOOD : Hid (okA s a = true) := okA_yes HY.out HU.out HOK.out henc
                have HC : Hid (rdF s (f - 1) (a + 8) (ys ++ [y]) = R) := by
                  have := rd_next (ys := ys) (f := f) (by omega) hend HNC.out HGOOD.out
                  rw [hz.out, HY.out] at this
                  exact this.symm.trans RD.out
                have HN : Hid (∀ u ∈ y.cells, u.oneCell' = true) := cells_one y
                clear henc
                go_wp2_with fail
                refine (stepBytes_any _ _ _ _ _ _ _ _ HOK.out).mono ?_
                rintro e w4 ⟨rfl, hb4⟩
                have H4 := Lib.hid (box_keep (box_new w3 36 y.k y.o y.d y.s y.i y.t) hb4)
                have B4 := Lib.hid (Below.tr B3.out H4.out.1)
                have O4 := Lib.hid (own_below O3.out H4.out.1)
                clear hb4
                obtain ⟨-, z4, d0, d1, d2, d3, d4, d5⟩ := H4.out
                go_wp2_with (at_builtin; (refine wpList_append_lies _ rfl _ _ 23 rfl w.heap.size 36 i0 _ 6 48 Try.underlying23 hi0 hz0 hz1 hz2 rfl (by omega) _ ys.length _ rfl (O4.out.alloc _) ⟨w4.heap.size, 0, none⟩ 1 1 y.cells rfl rfl (by exact World.news_of_block (heap_alloc_new w4 _)) HN.out (by omega) (by unfold maxLen; omega) (by omega) (by have := B4.out.size; first | omega | (simp; omega)) (w4.heap.size + 1) (by first | rfl | simp) ?_; intro g3 cap3 w5 hown3 hg3 hat3 hlt3; have H5 := Lib.hid (gotS_step (y := y) O4.out hown3 hg3 B4.out); clear hown3 hg3 hat3 hlt3))
                go_roundw
                case rel => exact ⟨a + 8, ys ++ [y], by rw [HR1.out], ⟨by have := HSS.out; omega, ⟨f - 1, by have := HSS.out; omega, HC.out⟩, by simp; omega, H5.out.1⟩, H5.out.2⟩
                case measure => simp [szV]; omega
              · have hq := str_ne henc
                have HBAD : Hid (okA s a = false) := okA_no HY.out HU.out (Or.inr henc)
                have HC : Hid (R = (2, [])) := RD.out.symm.trans (rd_bad (by omega) hend HNC.out HBAD.out)
                obtain ⟨hl0, hc0, hb0⟩ := HF.out.1 (by rw [HC.out]; decide)
                rw [HC.out] at hc0
                subst hl0 hc0 hb0
                clear henc
                go_wp2_with fail
                refine (stepBytes_any _ _ _ _ _ _ _ _ HOK.out).mono ?_
                rintro e w4 ⟨rfl, hb4⟩
                have B4 := Lib.hid (Below.tr B3.out ((below1 w3 _).trans (hb4.mono (by simp))))
                clear hb4
                go_wp2
                go_ret3
                exact read_nil 2 B4.out
        · have hz : Hid (szA s a = 4) := if_neg h4
          have hun : unitsI (byteAt s a % 16) = 1 := if_neg h4
          clear h4
          by_cases hcut : S < 4
          · have HC : Hid (R = (1, [])) := RD.out.symm.trans (rd_cut (by omega) hend (by have := HSS.out; have := hz.out; omega))
            obtain ⟨hl0, hc0, hb0⟩ := HF.out.1 (by rw [HC.out]; decide)
            rw [HC.out] at hc0
            subst hl0 hc0 hb0
            go_wp2_with (go_at_call 38; refine (unitsOf_any _ _).mono ?_; rintro e w' ⟨rfl, rfl⟩)
            go_ret3
            exact read_nil 1 B2.out
          · have hS8 : 4 ≤ S := by omega
            have hin : a + szA s a ≤ s.size := by have := HSS.out; have := hz.out; omega
            have hnc : ¬ s.size - a < szA s a := by omega
            have HNC := Lib.hid hnc
            have HIN := Lib.hid hin
            clear hnc hin
            have hu : r.extract 0 4 = cutA s a := by
              have := extract_head s a 4 (by have := HSS.out; omega)
              rw [HRR.out] at this
              rw [this, cutA, hz.out]
            have hr1 : r.extract 4 S = s.extract (a + 4) s.size := by
              have := extract_tail s a 4
              rw [HRR.out, HSS.out] at this
              exact this
            obtain ⟨r1, hrr⟩ : ∃ r1, s.extract (a + 4) s.size = r1 := ⟨_, rfl⟩
            rw [hrr] at hr1
            have HR1 := Lib.hid hrr
            have hr1s : r1.size = S - 4 := by rw [← hrr, extract_size _ _ _ (Nat.le_refl _)]; have := HSS.out; omega
            clear hrr
            obtain ⟨y, hy⟩ : ∃ y, yA s a = y := ⟨_, rfl⟩
            have HY := Lib.hid hy
            clear hy
            obtain ⟨u, huu⟩ : ∃ u, cutA s a = u := ⟨_, rfl⟩
            rw [huu] at hu
            have HU := Lib.hid huu
            clear huu
            go_wp2_with fail
            refine (unitsOf_any _ _).mono ?_
            rintro e w' ⟨rfl, rfl⟩
            go_wp2_with fail
            refine (stepFromY s a y u _ HY.out HU.out HIN.out).mono ?_
            rintro e w3 ⟨rfl, hb3⟩
            have B3 := Lib.hid (Below.tr B2.out hb3)
            have O3 := Lib.hid (own_below O2.out hb3)
            clear hb3
            cases hok : okB y.k y.o y.d y.s y.i y.t
            · have HBAD : Hid (okA s a = false) := okA_no HY.out HU.out (Or.inl hok)
              have HC : Hid (R = (2, [])) := RD.out.symm.trans (rd_bad (by omega) hend HNC.out HBAD.out)
              obtain ⟨hl0, hc0, hb0⟩ := HF.out.1 (by rw [HC.out]; decide)
              rw [HC.out] at hc0
              subst hl0 hc0 hb0
              have HOK := Lib.hid hok
              clear hok
              go_wp2_with fail
              refine (stepBytes_any _ _ _ _ _ _ _ _ HOK.out).mono ?_
              rintro e w4 ⟨rfl, hb4⟩
              have B4 := Lib.hid (Below.tr B3.out ((below1 w3 _).trans (hb4.mono (by simp))))
              clear hb4
              go_wp2
              go_ret3
              exact read_nil 2 B4.out
            · have HOK := Lib.hid hok
              clear hok
              by_cases henc : sbS y.k y.o y.d y.s y.i y.t = u
              · have hq : ((sbS y.k y.o y.d y.s y.i y.t).toList == u.toList) = true := by rw [henc]; exact beq_self_eq_true _
                have HGOOD : Hid (okA s a = true) := okA_yes HY.out HU.out HOK.out henc
                have HC : Hid (rdF s (f - 1) (a + 4) (ys ++ [y]) = R) := by
                  have := rd_next (ys := ys) (f := f) (by omega) hend HNC.out HGOOD.out
                  rw [hz.out, HY.out] at this
                  exact this.symm.trans RD.out
                have HN : Hid (∀ u ∈ y.cells, u.oneCell' = true) := cells_one y
                clear henc
                go_wp2_with fail
                refine (stepBytes_any _ _ _ _ _ _ _ _ HOK.out).mono ?_
                rintro e w4 ⟨rfl, hb4⟩
                have H4 := Lib.hid (box_keep (box_new w3 36 y.k y.o y.d y.s y.i y.t) hb4)
                have B4 := Lib.hid (Below.tr B3.out H4.out.1)
                have O4 := Lib.hid (own_below O3.out H4.out.1)
                clear hb4
                obtain ⟨-, z4, d0, d1, d2, d3, d4, d5⟩ := H4.out
                go_wp2_with (at_builtin; (refine wpList_append_lies _ rfl _ _ 23 rfl w.heap.size 36 i0 _ 6 48 Try.underlying23 hi0 hz0 hz1 hz2 rfl (by omega) _ ys.length _ rfl (O4.out.alloc _) ⟨w4.heap.size, 0, none⟩ 1 1 y.cells rfl rfl (by exact World.news_of_block (heap_alloc_new w4 _)) HN.out (by omega) (by unfold maxLen; omega) (by omega) (by have := B4.out.size; first | omega | (simp; omega)) (w4.heap.size + 1) (by first | rfl | simp) ?_; intro g3 cap3 w5 hown3 hg3 hat3 hlt3; have H5 := Lib.hid (gotS_step (y := y) O4.out hown3 hg3 B4.out); clear hown3 hg3 hat3 hlt3))
                go_roundw
                case rel => exact ⟨a + 4, ys ++ [y], by rw [HR1.out], ⟨by have := HSS.out; omega, ⟨f - 1, by have := HSS.out; omega, HC.out⟩, by simp; omega, H5.out.1⟩, H5.out.2⟩
                case measure => simp [szV]; omega
              · have hq := str_ne henc
                have HBAD : Hid (okA s a = false) := okA_no HY.out HU.out (Or.inr henc)
                have HC : Hid (R = (2, [])) := RD.out.symm.trans (rd_bad (by omega) hend HNC.out HBAD.out)
                obtain ⟨hl0, hc0, hb0⟩ := HF.out.1 (by rw [HC.out]; decide)
                rw [HC.out] at hc0
                subst hl0 hc0 hb0
                clear henc
                go_wp2_with fail
                refine (stepBytes_any _ _ _ _ _ _ _ _ HOK.out).mono ?_
                rintro e w4 ⟨rfl, hb4⟩
                have B4 := Lib.hid (Below.tr B3.out ((below1 w3 _).trans (hb4.mono (by simp))))
                clear hb4
                go_wp2
                go_ret3
                exact read_nil 2 B4.out
      · have hS0 : S = 0 := by have := HSS.out; omega
        subst hS0
        have HC : Hid (R = (0, ys)) := RD.out.symm.trans (rd_end (by omega))
        obtain ⟨gb, hgb⟩ := good_bool ys
        have HG := Lib.hid hgb
        clear hgb
        go_wp2_with fail
        refine (implGood_any _ _ _ ys _ gb HG (own_lies' O2.out) (Lib.hid rfl) (by omega)).mono ?_
        rintro e w3 ⟨rfl, hb3⟩
        have B3 := Lib.hid (Below.tr B2.out hb3)
        have O3 := Lib.hid (own_below O2.out hb3)
        clear hb3
        cases gb
        · obtain ⟨hl0, hc0, hb0⟩ := HF.out.2.2 (by rw [HC.out]) (by rw [HC.out]; intro hg; exact absurd (HG.out.2 hg) (by simp))
          subst hl0 hc0 hb0
          go_wp2
          go_ret3
          exact read_nil 3 B3.out
        · obtain ⟨hl0, hc0, hb0⟩ := HF.out.2.1 (by rw [HC.out]) (by rw [HC.out]; exact HG.out.1 rfl)
          rw [HC.out] at hl0
          subst hl0 hc0 hb0
          go_wp2
          go_ret3
          exact ⟨A2, c2, rfl, O3.out, B3.out⟩
end Go.Proofs.Ytbmonndpblnjkaa
