/-
  The clauses of gates: the program's and the model's.
-/
import Derived.Test.YtklcfbjaodildaaGi1
import Derived.Test.YtklcfbjaodildaaClean
import Derived.Test.YtklcfbjaodildaaReduce
import Derived.Test.YtklcfbjaodildaaDrawCl
import Derived.Test.YtklcfbjaodildaaSame
namespace Go.Proofs.Ytklcfbjaodildaa
open Go.ChangeShapes Go.WideShapes Go.ChangeAt Go.RowKit

/-- blocks laid one behind the other -/
def allocAll (w : World) : List Obj → World
  | [] => w
  | o :: t => allocAll (w.alloc o) t
theorem allocAll_size (os : List Obj) : ∀ w : World, (allocAll w os).heap.size = w.heap.size + os.length := by
  induction os with
  | nil => intro w; rfl
  | cons o t ih => intro w; rw [allocAll, ih]; simp; omega
theorem allocAll_below (os : List Obj) : ∀ (B : Nat) (a w : World), Below B a w → B ≤ w.heap.size → Below B a (allocAll w os) := by
  induction os with
  | nil => intro B a w h _; exact h
  | cons o t ih => intro B a w h hB; exact ih _ _ _ (h.alloc hB _) (by simp; omega)
theorem allocAll_blk {os : List Obj} : ∀ {w : World} {i : Nat} {vs : List Value} {t : TypeId}, os[i]? = some (.cells vs.toArray t) → Blk (allocAll w os) (w.heap.size + i) t vs := by
  induction os with
  | nil => intro w i vs t h; simp at h
  | cons o r ih =>
    intro w i vs t h
    cases i with
    | zero =>
      simp at h
      subst h
      exact Blk.below (heap_alloc_new w _) (allocAll_below r _ _ _ (Below.refl _ _) (Nat.le_refl _))
    | succ i =>
      have := ih (w := w.alloc o) (i := i) (by simpa using h)
      rw [show (w.alloc o).heap.size = w.heap.size + 1 by simp, show w.heap.size + 1 + i = w.heap.size + (i + 1) by omega] at this
      exact this
/-- rows that lie in blocks of their own read as the lists -/
theorem llies_of {w : World} {g : Nat} {vs : List Value} {L : List (List Int)} (h : Blk w g 55 vs) (hr : ∀ (i : Nat) (l : List Int), L[i]? = some l → ∃ b : Nat, vs[i]? = some (Value.slice (some ⟨b, 0, none⟩) l.length l.length) ∧ Blk w b 3 (l.map (Value.int .i64)) ∧ l.length ≤ 40) : LLies w (some ⟨g, 0, none⟩) L := by
  intro i l hl
  obtain ⟨b, h1, h2, h3⟩ := hr i l hl
  exact ⟨g, 0, some ⟨b, 0, none⟩, l.length, rfl, h.lt, by rw [Nat.zero_add, h.cell]; exact h1, Nat.le_refl _, by omega, h2.ilies⟩
def ic (l : List Int) : Obj := .cells (l.map (Value.int .i64)).toArray 3
def sl (g n : Nat) : Value := .slice (some ⟨g, 0, none⟩) n n
theorem lit2 (w : World) (c0 c1 : List Int) (l0 : c0.length ≤ 40) (l1 : c1.length ≤ 40) : LLies (allocAll w [ic c0, ic c1, .cells #[sl w.heap.size c0.length, sl (w.heap.size + 1) c1.length] 55]) (some ⟨w.heap.size + 2, 0, none⟩) [c0, c1] :=
  llies_of (allocAll_blk (i := 2) (vs := [sl w.heap.size c0.length, sl (w.heap.size + 1) c1.length]) rfl) fun i l hl => by
    match i, hl with
    | 0, hl => simp at hl; subst hl; exact ⟨_, rfl, allocAll_blk (i := 0) rfl, l0⟩
    | 1, hl => simp at hl; subst hl; exact ⟨_, rfl, allocAll_blk (i := 1) rfl, l1⟩
    | i + 2, hl => simp at hl
theorem lit3 (w : World) (c0 c1 c2 : List Int) (l0 : c0.length ≤ 40) (l1 : c1.length ≤ 40) (l2 : c2.length ≤ 40) : LLies (allocAll w [ic c0, ic c1, ic c2, .cells #[sl w.heap.size c0.length, sl (w.heap.size + 1) c1.length, sl (w.heap.size + 2) c2.length] 55]) (some ⟨w.heap.size + 3, 0, none⟩) [c0, c1, c2] :=
  llies_of (allocAll_blk (i := 3) (vs := [sl w.heap.size c0.length, sl (w.heap.size + 1) c1.length, sl (w.heap.size + 2) c2.length]) rfl) fun i l hl => by
    match i, hl with
    | 0, hl => simp at hl; subst hl; exact ⟨_, rfl, allocAll_blk (i := 0) rfl, l0⟩
    | 1, hl => simp at hl; subst hl; exact ⟨_, rfl, allocAll_blk (i := 1) rfl, l1⟩
    | 2, hl => simp at hl; subst hl; exact ⟨_, rfl, allocAll_blk (i := 2) rfl, l2⟩
    | i + 3, hl => simp at hl
theorem lit4 (w : World) (c0 c1 c2 c3 : List Int) (l0 : c0.length ≤ 40) (l1 : c1.length ≤ 40) (l2 : c2.length ≤ 40) (l3 : c3.length ≤ 40) : LLies (allocAll w [ic c0, ic c1, ic c2, ic c3, .cells #[sl w.heap.size c0.length, sl (w.heap.size + 1) c1.length, sl (w.heap.size + 2) c2.length, sl (w.heap.size + 3) c3.length] 55]) (some ⟨w.heap.size + 4, 0, none⟩) [c0, c1, c2, c3] :=
  llies_of (allocAll_blk (i := 4) (vs := [sl w.heap.size c0.length, sl (w.heap.size + 1) c1.length, sl (w.heap.size + 2) c2.length, sl (w.heap.size + 3) c3.length]) rfl) fun i l hl => by
    match i, hl with
    | 0, hl => simp at hl; subst hl; exact ⟨_, rfl, allocAll_blk (i := 0) rfl, l0⟩
    | 1, hl => simp at hl; subst hl; exact ⟨_, rfl, allocAll_blk (i := 1) rfl, l1⟩
    | 2, hl => simp at hl; subst hl; exact ⟨_, rfl, allocAll_blk (i := 2) rfl, l2⟩
    | 3, hl => simp at hl; subst hl; exact ⟨_, rfl, allocAll_blk (i := 3) rfl, l3⟩
    | i + 4, hl => simp at hl
/-- it answers a slice of clauses of its own -/
def GaveCL (w : World) (R : List (List Int)) (e : Ending) (w' : World) : Prop :=
  ∃ A c vs, e = .returned (.slice A R.length c) ∧ OwnSS w' w.heap.size (.slice A R.length c) vs R ∧ Below w.heap.size w w'
set_option maxRecDepth 100000 in
set_option maxHeartbeats 4000000 in
theorem cleanOnes_any (A : Option Addr) (n cap : Nat) (L : List (List Int)) (w : World) (hl : Hid (LLies w A L)) (HX : Hid (L.length = n)) (hn : n ≤ 1048576) :
    Calls Try.prog 138 #[.slice A n cap] w (GaveCL w (clsC L)) := by
  go_enter Try.func138, Try.ntmps138
  go_wp2_with fail
  go_loopw [3, 10] (fun v i wr => ∃ k m : Nat, k ≤ n ∧ i = .int .i64 k ∧ (clsC (L.take k)).length = m ∧ m ≤ k ∧ (∃ A2 c2 vs, v = .slice A2 m c2 ∧ OwnSS wr w.heap.size (.slice A2 m c2) vs (clsC (L.take k))) ∧ Below w.heap.size w wr) (fun _ i _ => n - (intOf i).toNat)
  case atStart => exact ⟨0, 0, Nat.zero_le _, rfl, by simp [clsC], Nat.le_refl _, ⟨none, 0, [], rfl, by rw [show clsC (L.take 0) = [] from rfl]; exact ⟨World.ownsRow_nil _ _ _ _, Inner.nil _ _, fun g _ e => by simp [Value.ownBlock] at e⟩⟩, Below.refl _ _⟩
  case round =>
    obtain ⟨k, m, hk, rfl, hm, hmk, ⟨A2, c2, vs, rfl, hown⟩, hbw⟩ := hrel
    have HM := Lib.hid hm
    have O2 := Lib.hid hown
    have B2 := Lib.hid hbw
    clear hm hown hbw
    by_cases hlt : k < n
    · obtain ⟨c, hx⟩ : ∃ x, L[k]? = some x := ⟨_, List.getElem?_eq_getElem (by have := HX.out; omega)⟩
      obtain ⟨b, off, a, cp, rfl, hbl, ha, hca, hma, hil⟩ := (hl.out.below B2.out) k c hx
      have HXK := Lib.hid hx
      have IL := Lib.hid hil
      clear hx hil
      obtain ⟨z, hz⟩ : ∃ m, c.length = m := ⟨_, rfl⟩
      rw [hz] at ha hca hma
      have HZ := Lib.hid hz
      clear hz
      obtain ⟨r, ok, hr⟩ := opt_any (cleanB c)
      have HR := Lib.hid hr
      clear hr
      go_wp2_with fail
      refine (implClean_any _ _ _ c _ r ok HR IL HZ hma).mono ?_
      rintro e w3 ⟨A3, c3, rfl, ho3, hb3⟩
      have O3 := Lib.hid ho3
      have B3 := Lib.hid hb3
      clear ho3 hb3
      cases ok
      · have E := Lib.hid (clsC_no HXK.out (HR.out.2 rfl).1)
        have O4 := Lib.hid (O2.out.below B3.out)
        go_wp2
        go_roundw
        case rel => exact ⟨k + 1, m, by omega, by go_num, by rw [E.out]; exact HM.out, by omega, ⟨A2, c2, vs, rfl, by rw [E.out]; exact O4.out⟩, Below.tr B2.out B3.out⟩
        case measure => simp [intOf]; omega
      · have E := Lib.hid (clsC_yes HXK.out (HR.out.1 rfl))
        have OU : Hid (w3.ownsRow w.heap.size 55 1 (.slice A2 m c2) m vs) := Lib.hid (by have := (O2.out.below B3.out).outer; rw [HM.out] at this; exact this)
        have O2' : Hid (OwnSS wr w.heap.size (.slice A2 m c2) vs (clsC (L.take k))) := O2
        obtain ⟨iS, hiS, hs0, hs1, hs2⟩ := info_parts info_ints
        go_wp2_with (at_builtin; (refine wpList_append_lies _ rfl _ _ 23 rfl w.heap.size 55 iS (.slice none 0 0) 1 24 Try.underlying23 hiS hs0 hs1 hs2 rfl (by omega) _ m _ rfl (OU.out.alloc _) ⟨w3.heap.size, 0, none⟩ 1 1 [.slice A3 r.length c3] rfl rfl (one_new1 w3 _ _) (by intro u hu; rw [List.mem_singleton.1 hu]; rfl) (by omega) (by unfold maxLen; omega) (by omega) (by have := (Below.tr B2.out B3.out).size; first | omega | (simp; omega)) (w3.heap.size + 1) (by first | rfl | simp) ?_; intro g4 cap4 w4 hown4 hg4 hat4 hlt4; have H4 := Lib.hid (OwnSS.grow HM.out O2'.out B2.out B3.out O3.out hown4 hg4 hat4); clear hown4 hg4 hat4 hlt4))
        go_roundw
        case rel => exact ⟨k + 1, m + 1, by omega, by go_num, by rw [E.out, List.length_append, HM.out]; rfl, by omega, ⟨some ⟨g4, 0, none⟩, cap4, _, rfl, by rw [E.out]; exact H4.out.1⟩, H4.out.2⟩
        case measure => simp [intOf]; omega
    · obtain rfl : k = n := by omega
      have E : Hid (L.take k = L) := Lib.hid (List.take_of_length_le (by have := HX.out; omega))
      rw [E.out] at HM O2
      go_wp2
      go_ret
      exact ⟨A2, c2, vs, by rw [HM.out]; rfl, by rw [HM.out]; exact O2.out, B2.out⟩
end Go.Proofs.Ytklcfbjaodildaa
