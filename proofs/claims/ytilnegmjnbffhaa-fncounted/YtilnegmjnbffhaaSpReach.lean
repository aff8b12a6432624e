/-
  The model's ReachedIn and what stands on it: l11Reached, l11There.
-/
import Derived.Test.YtilnegmjnbffhaaRfReach
import Derived.Test.YtilnegmjnbffhaaPutD
namespace Go.Proofs.Ytilnegmjnbffhaa
open Go.ChangeShapes Go.WideShapes Go.ChangeAt Go.RowKit

theorem rp_len (E : Nat → Nat → Bool) (n f m : Nat) : (castL (rpL E n f m)).length ≤ n := by
  rw [castL_len]
  have := List.length_filter_le (fun j => decide (j = f) || (List.range m).any (fun a => rb E f a && E a j)) (List.range n)
  rw [List.length_range] at this
  exact this
theorem putAll_short (E : Nat → Nat → Bool) (n f m : Nat) (nx : List Int) (k : Nat) (hn : n ≤ 20) (hx : nx.length ≤ 2) : (putAll (castL (rpL E n f m)) (nx.take k)).length ≤ 22 := by
  have h1 := putAll_len (nx.take k) (castL (rpL E n f m))
  have h2 := rp_len E n f m
  have h3 : (nx.take k).length ≤ nx.length := by rw [List.length_take]; exact Nat.min_le_right _ _
  omega
set_option maxRecDepth 100000 in
set_option maxHeartbeats 4000000 in
theorem l11Reached_any (A : Option Addr) (n cap f : Nat) (xs : List Stp) (w : World) (hg : Hid (Good xs)) (hl : Hid (Lies w A xs)) (hx : Hid (xs.length = n)) (hf : f < n) :
    Calls Try.prog 49 #[.slice A n cap, .int .i64 f] w (GaveRow w.heap.size w (castL (reachL (edg (ktOf xs)) n f))) := by
  obtain ⟨hn0, hn20⟩ := good_20 hg.out hx.out
  have HGK := Lib.hid (good_kt hg.out)
  have HKL : Hid ((ktOf xs).length = n) := Lib.hid (by rw [ktOf_len]; exact hx.out)
  obtain ⟨E, hE⟩ : ∃ E, edg (ktOf xs) = E := ⟨_, rfl⟩
  have HE := Lib.hid hE
  rw [hE]
  clear hE
  go_enter Try.func49, Try.ntmps49
  go_wp2
  go_loopw [5, 6] (fun ov iv wr => ∃ (m : Nat) (A2 : Option Addr) (c2 z : Nat), f ≤ m ∧ m ≤ n ∧ iv = .int .i64 m ∧ (castL (rpL E n f m)).length = z ∧ ov = .slice A2 z c2 ∧ wr.ownsRow w.heap.size 3 1 (.slice A2 z c2) z ((castL (rpL E n f m)).map (Value.int .i64)) ∧ Below w.heap.size w wr) (fun _ i _ => n - (intOf i).toNat)
  case atStart =>
    refine ⟨f, some ⟨w.heap.size, 0, none⟩, 1, 1, Nat.le_refl _, by omega, rfl, by rw [rp_start hf]; rfl, rfl, ?_, below1 _ _⟩
    rw [rp_start hf]
    exact own_row w [(f : Int)] _ (Nat.le_refl _) (by simp [maxLen])
  case round =>
    obtain ⟨m, A2, c2, z, hfm, hmn, rfl, hz, rfl, hown, hb⟩ := hrel
    have O1 := Lib.hid hown
    have B1 := Lib.hid hb
    have HZ := Lib.hid hz
    have hz20 : z ≤ 20 := by have := rp_len E n f m; omega
    clear hown hb hz
    by_cases hlt : m < n
    · have hlt' : (m : Int) < (n : Int) := by omega
      obtain ⟨x, hxm⟩ : ∃ x, xs[m]? = some x := ⟨_, List.getElem?_eq_getElem (by have := hx.out; omega)⟩
      have HXM := Lib.hid hxm
      clear hxm
      have IL := Lib.hid (own_ilies O1.out)
      have hdec : decide ((m : Int) ∈ castL (rpL E n f m)) = rb E f m := by
        cases q : rb E f m
        · exact decide_eq_false (fun h => by have := (rp_at hlt).1 (castL_mem'.1 h); rw [q] at this; cases this)
        · exact decide_eq_true (castL_mem'.2 ((rp_at hlt).2 q))
      have HDC := Lib.hid hdec
      clear hdec
      cases q : rb E f m
      · have HQ := Lib.hid q
        clear q
        go_wp2_with (go_at_call 51; refine (l1Has_any _ _ _ _ _ _ IL HZ (by omega)).mono ?_; rintro e w' ⟨rfl, rfl⟩; rw [HDC.out, HQ.out])
        go_roundw
        case rel => exact ⟨m + 1, A2, c2, z, by omega, by omega, by go_num, by rw [rp_skip HQ.out]; exact HZ.out, rfl, by rw [rp_skip HQ.out]; exact O1.out, B1.out⟩
        case measure => simp [intOf]; omega
      · have HQ := Lib.hid q
        clear q
        have HOK := Lib.hid (okB_yes (hg.out.2 m x HXM.out).1)
        have L1 := Lib.hid (hl.out.below B1.out)
        go_wp2_with (go_at_call 51; refine (l1Has_any _ _ _ _ _ _ IL HZ (by omega)).mono ?_; rintro e w' ⟨rfl, rfl⟩; rw [HDC.out, HQ.out])
        refine (l2Nexts_any _ _ _ m x _ xs L1 HXM HOK.out hlt (by omega)).mono ?_
        rintro e w2 ⟨A3, c3, rfl, hown3, hb3⟩
        obtain ⟨nx, hnx⟩ : ∃ nx, nextsI x.k x.t m = nx := ⟨_, rfl⟩
        have HNX := Lib.hid hnx
        have hn2 : nx.length ≤ 2 := by rw [← hnx]; exact nexts_len _ _ _
        rw [hnx] at hown3 ⊢
        obtain ⟨y, hy⟩ : ∃ y, nx.length = y := ⟨_, rfl⟩
        have HY := Lib.hid hy
        rw [hy] at hown3 hn2 ⊢
        have O3 := Lib.hid hown3
        have O2 := Lib.hid (own_below O1.out hb3)
        have B2 := Lib.hid (Below.tr B1.out hb3)
        have IX := Lib.hid (own_ilies hown3)
        clear hnx hy hown3 hb3
        go_wp2_with fail
        go_loopw [5, 25] (fun ov iv wq => ∃ (k : Nat) (A4 : Option Addr) (c4 v : Nat), k ≤ y ∧ iv = .int .i64 k ∧ (putAll (castL (rpL E n f m)) (nx.take k)).length = v ∧ ov = .slice A4 v c4 ∧ wq.ownsRow w.heap.size 3 1 (.slice A4 v c4) v ((putAll (castL (rpL E n f m)) (nx.take k)).map (Value.int .i64)) ∧ Below w.heap.size w wq ∧ Below w2.heap.size w2 wq) (fun _ i _ => y - (intOf i).toNat)
        case atStart => exact ⟨0, A2, c2, z, Nat.zero_le _, rfl, HZ.out, rfl, O2.out, B2.out, Below.refl _ _⟩
        case round =>
          obtain ⟨k, A4, c4, v, hk, rfl, hv, rfl, hown4, hb4, hb5⟩ := hrel
          have O4 := Lib.hid hown4
          have B4 := Lib.hid hb4
          have B5 := Lib.hid hb5
          have HV := Lib.hid hv
          have hv22 : v ≤ 22 := by have := putAll_short E n f m nx k hn20 (by have := HY.out; omega); omega
          clear hown4 hb4 hb5 hv
          by_cases hlk : k < y
          · obtain ⟨u, hu⟩ : ∃ u, nx[k]? = some u := ⟨_, List.getElem?_eq_getElem (by have := HY.out; omega)⟩
            obtain ⟨b5, off5, rfl, hb5, hc5⟩ := (IX.out.below B5.out) k u hu
            have HU := Lib.hid (putAll_at hu (s := castL (rpL E n f m)))
            have hlk' : (k : Int) < (y : Int) := by omega
            clear hu
            go_wp2_with fail
            refine (l1Put_any w.heap.size _ _ _ _ u _ O4 HV (by omega) B4.out.size).mono ?_
            rintro e w6 ⟨A6, c6, rfl, hown6, hb6⟩
            rw [← HU.out] at hown6 ⊢
            have O6 := Lib.hid hown6
            have B6 := Lib.hid (Below.tr B4.out hb6)
            have B7 := Lib.hid (Below.tr B5.out hb6)
            clear hown6 hb6
            go_wp2
            go_roundw
            case rel => exact ⟨k + 1, A6, c6, _, by omega, by go_num, rfl, rfl, O6.out, B6.out, B7.out⟩
            case measure => simp [intOf]; omega
          · obtain rfl : k = y := by omega
            have e : putAll (castL (rpL E n f m)) (nx.take k) = castL (rpL E n f (m + 1)) := by
              have h := rp_put HGK.out (f := f) (ktOf_at HXM.out) (by rw [HE.out]; exact HQ.out)
              rw [HKL.out, HE.out] at h
              rw [List.take_of_length_le (by rw [HY.out]; exact Nat.le_refl _), ← HNX.out]
              exact h
            rw [e] at HV O4
            go_wp2
            go_roundw
            case rel => exact ⟨m + 1, A4, c4, v, by omega, by omega, by go_num, HV.out, rfl, O4.out, B4.out⟩
            case measure => simp [intOf]; omega
    · obtain rfl : m = n := by omega
      have hEf : ∀ a b, E a b = true → a < b := by rw [← HE.out]; exact edg_fwd HGK.out
      have e := rp_end hEf m f
      rw [e] at HZ O1
      go_wp2
      go_ret
      rw [← HZ.out] at O1 ⊢
      exact ⟨A2, c2, rfl, O1.out, B1.out⟩
end Go.Proofs.Ytilnegmjnbffhaa
