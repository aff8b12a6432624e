/-
  The model's LeadersOf and WayCount.
-/
import Derived.Test.YtilnegmjnbffhaaSpOne
import Derived.Test.YtilnegmjnbffhaaRfLead
namespace Go.Proofs.Ytilnegmjnbffhaa
open Go.ChangeShapes Go.WideShapes Go.ChangeAt Go.RowKit

theorem leadQ_len (l : KT) (Q : List Nat) : (castL (leadQ l Q)).length ≤ l.length := by
  rw [castL_len]
  unfold leadQ
  have := List.length_filter_le (fun i : Nat => decide (i = 0) || Q.any (fun k => decide (ttA l k ≠ 0) && (decide ((i : Int) = (k : Int) + ttA l k + 1) || (decide (i = k + 1) && rb (edg l) 0 i)))) (List.range l.length)
  rw [List.length_range] at this
  exact this
theorem castL_get {a : List Nat} {k : Nat} {u : Int} (h : (castL a)[k]? = some u) : ∃ m, a[k]? = some m ∧ u = (m : Int) := by
  unfold castL at h
  rw [List.getElem?_map] at h
  cases q : a[k]? with
  | none => rw [q] at h; cases h
  | some m => rw [q] at h; exact ⟨m, rfl, (Option.some.inj h).symm⟩
set_option maxRecDepth 100000 in
set_option maxHeartbeats 4000000 in
theorem specLead_any (A : Option Addr) (n cap : Nat) (xs : List Stp) (w : World) (b : Bool) (l : List Int) (hr : Hid (TwoRes (Good xs) (leadR xs) b l)) (hl : Hid (Lies w A xs)) (hx : Hid (xs.length = n)) (hn : n ≤ 1048576) :
    Calls Try.prog 21 #[.slice A n cap] w (GaveTwo w l b) := by
  go_enter Try.func21, Try.ntmps21
  go_wp2_with fail
  refine (specGood_any _ _ _ xs _ b (Lib.hid hr.out.1) hl hx hn).mono ?_
  rintro e w0 ⟨rfl, hb0⟩
  have B0 := Lib.hid hb0
  clear hb0
  cases b
  · obtain rfl := hr.out.2.1 rfl
    go_wp2
    go_ret2
    exact two_nil w _ B0.out
  · have HGX := Lib.hid (hr.out.1.1 rfl)
    have hle := hr.out.2.2 rfl
    subst hle
    obtain ⟨hn0, hn20⟩ := good_20 HGX.out hx.out
    have HKL : Hid ((ktOf xs).length = n) := Lib.hid (by rw [ktOf_len]; exact hx.out)
    obtain ⟨R, hR⟩ : ∃ R, reachL (edg (ktOf xs)) n 0 = R := ⟨_, rfl⟩
    have HR := Lib.hid hR
    have hrl := reach_len (edg (ktOf xs)) n 0
    go_wp2_with fail
    have L0 := Lib.hid (hl.out.below (Below.tr B0.out (below1 w0 (.cells #[.int .i64 0] 3))))
    refine (l11Reached_any _ _ _ 0 xs _ HGX L0 hx hn0).mono ?_
    rintro e w1 ⟨A1, c1, rfl, hown1, hb1⟩
    rw [hR] at hown1 hrl ⊢
    obtain ⟨z, hz⟩ : ∃ z, (castL R).length = z := ⟨_, rfl⟩
    have HZ := Lib.hid hz
    rw [hz] at hown1 hrl ⊢
    have B1 := Lib.hid (Below.tr (below1 w0 _) hb1)
    have I1 := Lib.hid (own_ilies hown1)
    have OS := Lib.hid (own_below (own_row w0 [(0 : Int)] w0.heap.size (Nat.le_refl _) (by simp [maxLen])) hb1)
    clear hown1 hb1 hR hz
    go_wp2_with fail
    go_loopw [4, 16] (fun ov iv wr => ∃ (k : Nat) (A2 : Option Addr) (c2 v : Nat), k ≤ z ∧ iv = .int .i64 k ∧ (castL (leadQ (ktOf xs) (R.take k))).length = v ∧ ov = .slice A2 v c2 ∧ wr.ownsRow w0.heap.size 3 1 (.slice A2 v c2) v ((castL (leadQ (ktOf xs) (R.take k))).map (Value.int .i64)) ∧ Below w0.heap.size w0 wr ∧ Below w1.heap.size w1 wr) (fun _ i _ => z - (intOf i).toNat)
    case atStart =>
      have e0 : castL (leadQ (ktOf xs) (R.take 0)) = [(0 : Int)] := lead_start (by rw [HKL.out]; exact hn0)
      exact ⟨0, some ⟨w0.heap.size, 0, none⟩, 1, 1, Nat.zero_le _, rfl, by rw [e0]; rfl, rfl, by rw [e0]; exact OS.out, B1.out, Below.refl _ _⟩
    case round =>
      obtain ⟨k, A2, c2, v, hk, rfl, hv, rfl, hown, hb, hbb⟩ := hrel
      have O3 := Lib.hid hown
      have C3 := Lib.hid hb
      have D3 := Lib.hid hbb
      have HV := Lib.hid hv
      have hv20 : v ≤ 20 := by have := leadQ_len (ktOf xs) (R.take k); have := HKL.out; omega
      clear hown hb hbb hv
      by_cases hlt : k < z
      · obtain ⟨u, hu⟩ : ∃ u, (castL R)[k]? = some u := ⟨_, List.getElem?_eq_getElem (by have := HZ.out; omega)⟩
        obtain ⟨a, ha, rfl⟩ := castL_get hu
        obtain ⟨a2, e2, han, x, hxa⟩ := mem_row hx.out (by rw [HR.out]; exact hu)
        have e3 : a2 = a := by omega
        subst e3
        obtain ⟨b5, off5, rfl, hb5, hc5⟩ := (I1.out.below D3.out) k _ hu
        have HU : Hid (R.take (k + 1) = R.take k ++ [a2]) := Lib.hid (take_snocP ha)
        obtain ⟨b4, off4, rfl, hb4, ha4⟩ := (hl.out.below (Below.tr B0.out C3.out)) a2 x hxa
        obtain ⟨-, -, -, -, -, e5⟩ := ha4
        have ha' : (a2 : Int) < (n : Int) := by omega
        have TT := Lib.hid (ttA_at hxa)
        have HXA := Lib.hid hxa
        obtain ⟨t, ht⟩ := Int.eq_ofNat_of_zero_le (jmp_no HGX.out hxa).2
        rw [ht] at e5
        have HT := Lib.hid ht
        have hgood := (HGX.out).2 a2 x hxa
        clear e2 hu ha hxa ht
        by_cases h0 : t = 0
        · have HEE := Lib.hid (lead_skip (l := ktOf xs) (Q := R.take k) (k := a2) (by rw [TT.out, HT.out, h0]; rfl))
          have hd : ((t : Int) == (0 : Int)) = true := by simp [h0]
          clear h0
          go_wp2
          go_roundw
          case rel => exact ⟨k + 1, A2, c2, v, by omega, by go_num, by rw [HU.out, HEE.out]; exact HV.out, rfl, by rw [HU.out, HEE.out]; exact O3.out, C3.out, D3.out⟩
          case measure => simp [intOf]; omega
        · have hne : ttA (ktOf xs) a2 ≠ 0 := by rw [TT.out, HT.out]; omega
          have HP := Lib.hid (lead_put (good_kt HGX.out) (Q := R.take k) hne (by rw [HKL.out]; exact han))
          obtain ⟨j2, hj2, hj3, _⟩ := jump_to (good_kt HGX.out) hne
          have htn : a2 + t + 1 < n := by rw [HKL.out] at hj3; rw [TT.out, HT.out] at hj2; omega
          have hd : ((t : Int) == (0 : Int)) = false := by simp; omega
          have IR := Lib.hid (own_ilies O3.out)
          clear h0 hne hj2 hj3 hgood
          go_wp2_with fail
          refine (l1Put_any w0.heap.size _ _ _ _ ((a2 : Int) + (t : Int) + 1) _ O3 HV (by omega) C3.out.size).mono ?_
          rintro e w5 ⟨A5, c5, rfl, hown5, hb5'⟩
          obtain ⟨v5, hv5⟩ : ∃ v5, (putL ((a2 : Int) + (t : Int) + 1) (castL (leadQ (ktOf xs) (R.take k)))).length = v5 := ⟨_, rfl⟩
          have hv21 : v5 ≤ 21 := by have := putL_len ((a2 : Int) + (t : Int) + 1) (castL (leadQ (ktOf xs) (R.take k))); have := HV.out; omega
          have HV5 := Lib.hid hv5
          rw [hv5] at hown5 ⊢
          have O5 := Lib.hid hown5
          have C5 := Lib.hid (Below.tr C3.out hb5')
          have D5 := Lib.hid (Below.tr D3.out hb5')
          have I5 := Lib.hid (I1.out.below D5.out)
          clear hown5 hb5' hv5
          have hmem : Hid (decide (((a2 : Int) + 1) ∈ castL R) = decide (rb (edg (ktOf xs)) 0 (a2 + 1) = true ∧ a2 + 1 < n)) := Lib.hid (by
            rw [decide_eq_decide, show (a2 : Int) + 1 = ((a2 + 1 : Nat) : Int) by push_cast; rfl, castL_mem', ← HR.out, mem_reach]
            exact And.comm)
          have et : (a2 : Int) + ttA (ktOf xs) a2 + 1 = (a2 : Int) + (t : Int) + 1 := by rw [TT.out, HT.out]
          rw [et, HKL.out] at HP
          by_cases hq : rb (edg (ktOf xs)) 0 (a2 + 1) = true ∧ a2 + 1 < n
          · have hmt : decide (((a2 : Int) + 1) ∈ castL R) = true := by rw [hmem.out]; exact decide_eq_true hq
            have HEE := Lib.hid (HP.out.1 hq.1 hq.2)
            have HMT := Lib.hid hmt
            clear hmt hq
            go_wp2_with (go_at_call 51; refine (l1Has_any _ _ _ _ _ _ I5 HZ (by omega)).mono ?_; rintro e w' ⟨rfl, rfl⟩; rw [HMT.out])
            refine (l1Put_any w0.heap.size _ _ _ _ ((a2 : Int) + 1) _ O5 HV5 (by omega) C5.out.size).mono ?_
            rintro e w6 ⟨A6, c6, rfl, hown6, hb6⟩
            rw [← HEE.out] at hown6 ⊢
            have O6 := Lib.hid hown6
            have C6 := Lib.hid (Below.tr C5.out hb6)
            have D6 := Lib.hid (Below.tr D5.out hb6)
            clear hown6 hb6
            go_wp2
            go_roundw
            case rel => exact ⟨k + 1, A6, c6, _, by omega, by go_num, rfl, by rw [HU.out], by rw [HU.out]; exact O6.out, C6.out, D6.out⟩
            case measure => simp [intOf]; omega
          · have hmf : decide (((a2 : Int) + 1) ∈ castL R) = false := by rw [hmem.out]; exact decide_eq_false hq
            have HEE := Lib.hid (HP.out.2 hq)
            have HMF := Lib.hid hmf
            clear hmf hq
            go_wp2_with (go_at_call 51; refine (l1Has_any _ _ _ _ _ _ I5 HZ (by omega)).mono ?_; rintro e w' ⟨rfl, rfl⟩; rw [HMF.out])
            go_roundw
            case rel => exact ⟨k + 1, A5, c5, v5, by omega, by go_num, by rw [HU.out, HEE.out]; exact HV5.out, rfl, by rw [HU.out, HEE.out]; exact O5.out, C5.out, D5.out⟩
            case measure => simp [intOf]; omega
      · obtain rfl : k = z := by omega
        have e : castL (leadQ (ktOf xs) (R.take k)) = leadR xs := by
          rw [List.take_of_length_le (by have := HZ.out; rw [castL_len] at this; omega), ← HR.out]
          unfold leadR leadL
          rw [HKL.out]
        rw [e] at HV O3
        go_wp2
        go_ret2
        exact two_of HV.out (own_base O3.out B0.out.size) (Below.tr B0.out C3.out)
theorem wpV_zero (E : Nat → Nat → Bool) (n : Nat) : ((madeCells #[Value.int .i64 0] n).setIfInBounds 0 (Value.int .i64 1)) = (numsV n (fun j => ((wp E 0 j : Nat) : Int))).toArray := by
  rw [made_rep, numsV_const, List.setIfInBounds_toArray, numsV_set]
  refine congrArg List.toArray (numsV_ext (fun j _ => ?_))
  rw [wp_start]
  by_cases e : j = 0 <;> simp [e]
/-- the numbers while step m hands its own on -/
def wpI (E : Nat → Nat → Bool) (m : Nat) (t : List Int) (j : Nat) : Nat := wp E m j + if (j : Int) ∈ t then wc E m else 0
theorem wpI_snoc {E : Nat → Nat → Bool} {m b : Nat} {nx : List Int} {k n : Nat} (hk : nx[k]? = some (b : Int)) (hd : nx.Nodup) :
    (numsV n (fun j => ((wpI E m (nx.take k) j : Nat) : Int))).set b (.int .i64 ((wpI E m (nx.take k) b : Int) + (wc E m : Int))) = numsV n (fun j => ((wpI E m (nx.take (k + 1)) j : Nat) : Int)) := by
  rw [numsV_set]
  refine numsV_ext (fun j _ => ?_)
  have ht := take_snoc hk
  have hnot : ¬ (b : Int) ∈ nx.take k := by
    intro h
    have h2 : (nx.take (k + 1)).Nodup := hd.sublist (List.take_sublist _ _)
    rw [ht, List.nodup_append] at h2
    exact h2.2.2 _ h _ (by simp) rfl
  unfold wpI
  rw [ht]
  by_cases e : j = b
  · subst e
    rw [if_pos rfl, if_neg hnot, if_pos (by simp)]
    push_cast; omega
  · rw [if_neg e]
    have : ((j : Int) ∈ nx.take k ++ [(b : Int)]) ↔ ((j : Int) ∈ nx.take k) := by
      rw [List.mem_append, List.mem_singleton]
      constructor
      · rintro (h | h)
        · exact h
        · omega
      · exact .inl
    by_cases q : (j : Int) ∈ nx.take k
    · rw [if_pos q, if_pos (this.2 q)]
    · rw [if_neg q, if_neg (fun h => q (this.1 h))]
theorem pow20 {j : Nat} (h : j ≤ 20) : 2 ^ j ≤ 1048576 := by
  have h3 : 2 ^ j ≤ 2 ^ 20 := Nat.pow_le_pow_right (by omega) h
  have : (2 : Nat) ^ 20 = 1048576 := by decide
  omega
set_option maxRecDepth 100000 in
set_option maxHeartbeats 4000000 in
theorem specWay_any (A : Option Addr) (n cap : Nat) (at_ : Int) (xs : List Stp) (w : World) (b : Bool) (c : Int) (hr : Hid (OneRes (There xs n at_) (wayR xs at_) b c)) (hl : Hid (Lies w A xs)) (hx : Hid (xs.length = n)) (hn : n ≤ 1048576) :
    Calls Try.prog 13 #[.slice A n cap, .int .i64 at_] w (GaveOne w c b) := by
  go_enter Try.func13, Try.ntmps13
  go_wp2_with fail
  refine (l11There_any _ _ _ _ xs _ b (Lib.hid hr.out.1) hl hx hn).mono ?_
  rintro e w0 ⟨rfl, hb0⟩
  have B0 := Lib.hid hb0
  clear hb0
  cases b
  · obtain rfl := hr.out.2.1 rfl
    go_wp2
    go_ret2
    exact ⟨rfl, B0.out⟩
  · obtain ⟨GX, g0, g1⟩ := hr.out.1.1 rfl
    obtain ⟨f, rfl⟩ := Int.eq_ofNat_of_zero_le g0
    have HGX := Lib.hid GX
    have hle := hr.out.2.2 rfl
    subst hle
    obtain ⟨hn0, hn20⟩ := good_20 HGX.out hx.out
    have hfn : f < n := by omega
    obtain ⟨E, hE⟩ : ∃ E, edg (ktOf xs) = E := ⟨_, rfl⟩
    have HE := Lib.hid hE
    have HF : Hid (∀ a b, E a b = true → a < b) := Lib.hid (by rw [← hE]; exact edg_fwd (good_kt HGX.out))
    clear GX hE
    have hmk := fun w : World => run_make_row' (P := Try.prog) 28 3 (.int .i64 0) 8 Try.underlying28 info_int rfl .i64 .i64 n (by omega) (by omega) w
    have hm0 : (madeCells #[Value.int .i64 0] n)[0]? = some (.int .i64 0) := by rw [made_rep]; simp [hn0]
    go_wp2_with fail
    rw [wpV_zero E n]
    obtain ⟨w1, hw1⟩ : ∃ W, w0.alloc (.cells (numsV n (fun j => ((wp E 0 j : Nat) : Int))).toArray 3) = W := ⟨_, rfl⟩
    have r1 : Blk w1 w0.heap.size 3 (numsV n (fun j => ((wp E 0 j : Nat) : Int))) := by rw [← hw1]; exact heap_alloc_new w0 _
    have R1 := Lib.hid r1
    have B1 : Hid (Below w0.heap.size w0 w1) := Lib.hid (by rw [← hw1]; exact below1 _ _)
    rw [hw1]
    clear hw1 r1 hm0
    go_loopw [21] (fun iv wr => ∃ m : Nat, m ≤ n ∧ iv = .int .i64 m ∧ Blk wr w0.heap.size 3 (numsV n (fun j => ((wp E m j : Nat) : Int))) ∧ Below w0.heap.size w0 wr) (fun i _ => n - (intOf i).toNat)
    case atStart => exact ⟨0, Nat.zero_le _, rfl, R1.out, B1.out⟩
    case round =>
      obtain ⟨m, hm, rfl, hrow, hb⟩ := hrel
      have R2 := Lib.hid hrow
      have B2 := Lib.hid hb
      clear hrow hb
      by_cases hlt : m < n
      · have hlt' : (m : Int) < (n : Int) := by omega
        obtain ⟨x, hxm⟩ : ∃ x, xs[m]? = some x := ⟨_, List.getElem?_eq_getElem (by have := hx.out; omega)⟩
        have HXM := Lib.hid hxm
        have HOK := Lib.hid (okB_yes (HGX.out.2 m x hxm).1)
        have GN := Lib.hid (fun (y : Int) (hy : y ∈ nxI x.k x.t m) => nx_nat (good_kt HGX.out) (ktOf_at hxm) hy)
        have ND := Lib.hid (nx_nodup (good_kt HGX.out) (ktOf_at hxm))
        have EI := Lib.hid (fun j : Nat => edg_iff (ktOf_at hxm) (b := j))
        have L1 := Lib.hid (hl.out.below (Below.tr B0.out B2.out))
        clear hxm
        go_wp2_with fail
        refine (l2Nexts_any _ _ _ m x _ xs L1 HXM HOK.out hlt (by omega)).mono ?_
        rintro e w2 ⟨A3, c3, rfl, hown3, hb3⟩
        obtain ⟨nx, hnx⟩ : ∃ nx, nextsI x.k x.t m = nx := ⟨_, rfl⟩
        have hnx2 : nxI x.k x.t m = nx := hnx
        have hn2 : nx.length ≤ 2 := by rw [← hnx]; exact nexts_len _ _ _
        simp only [hnx2] at ND EI GN
        rw [hnx] at hown3 ⊢
        obtain ⟨y, hy⟩ : ∃ y, nx.length = y := ⟨_, rfl⟩
        have HY := Lib.hid hy
        rw [hy] at hown3 hn2 ⊢
        have IX := Lib.hid (own_ilies hown3)
        have O3 := Lib.hid hown3
        have R3 := Lib.hid (R2.out.below hb3)
        have B3 := Lib.hid (Below.tr B2.out hb3)
        have hsz : wr.heap.size ≤ w2.heap.size := hb3.size
        have hg0 : w0.heap.size < wr.heap.size := R2.out.lt
        clear hnx hnx2 hy hown3 hb3
        go_wp2_with fail
        go_loopw [28] (fun iv wq => ∃ k : Nat, k ≤ y ∧ iv = .int .i64 k ∧ Blk wq w0.heap.size 3 (numsV n (fun j => ((wpI E m (nx.take k) j : Nat) : Int))) ∧ Below w0.heap.size w0 wq ∧ Kept w2 wq (fun i => i = w0.heap.size)) (fun i _ => y - (intOf i).toNat)
        case atStart =>
          refine ⟨0, Nat.zero_le _, rfl, ?_, B3.out, Kept.refl _ _⟩
          rw [numsV_ext (q := fun j => ((wp E m j : Nat) : Int)) (fun j _ => by unfold wpI; simp)]
          exact R3.out
        case round =>
          obtain ⟨k, hk, rfl, hrow, hb, hkp⟩ := hrel
          have R4 := Lib.hid hrow
          have B4 := Lib.hid hb
          have K4 := Lib.hid hkp
          clear hrow hb hkp
          by_cases hlk : k < y
          · obtain ⟨u, hu⟩ : ∃ u, nx[k]? = some u := ⟨_, List.getElem?_eq_getElem (by have := HY.out; omega)⟩
            obtain ⟨d, rfl, hd1, hd2⟩ := GN.out u (List.mem_of_getElem? hu)
            rw [ktOf_len, hx.out] at hd2
            rw [HE.out] at hd1
            have hmd := HF.out m d hd1
            have hu4 := (own_ilies (K4.out.own O3.out (fun g hg => by have := (O3.out.lt g hg).1; omega))) k _ hu
            obtain ⟨b5, off5, rfl, hb5, hc5⟩ := hu4
            have hlk' : (k : Int) < (y : Int) := by omega
            have cm := (R4.out.cell m).trans (numsV_at _ hlt)
            have cd := (R4.out.cell d).trans (numsV_at _ hd2)
            have fd := R4.out.frozen d
            have hd2' : (d : Int) < (n : Int) := by omega
            have hwm : wpI E m (nx.take k) m = wc E m := by
              unfold wpI
              rw [wp_at, if_neg (fun h => by
                have h2 := (EI.out m).2 (List.mem_of_mem_take h)
                rw [HE.out] at h2
                have := HF.out m m h2; omega)]
              rfl
            have hws : wpI E m (nx.take k) d ≤ 2097152 := by
              unfold wpI
              have h1 := wp_le HF.out m d
              have h2 := wc_le (E := E) m
              have h3 := pow20 (j := d) (by omega)
              have h4 := pow20 (j := m) (by omega)
              split <;> omega
            have hwc : wc E m ≤ 1048576 := Nat.le_trans (wc_le m) (pow20 (by omega))
            have HSN := Lib.hid (wpI_snoc (E := E) (m := m) (n := n) hu ND.out)
            rw [hwm] at cm
            obtain ⟨p, hp⟩ : ∃ p : Int, ((wpI E m (nx.take k) d : Nat) : Int) = p := ⟨_, rfl⟩
            obtain ⟨q, hq⟩ : ∃ q : Int, ((wc E m : Nat) : Int) = q := ⟨_, rfl⟩
            rw [hp] at cd
            rw [hq] at cm
            rw [hp, hq] at HSN
            have hpb : 0 ≤ p ∧ p ≤ 2097152 := by omega
            have hqb : 0 ≤ q ∧ q ≤ 1048576 := by omega
            clear hu hd1 hwm hws hwc hp hq
            go_wp2_with fail
            go_still_tail 9, (by kernel_rfl)
            go_wp2
            go_roundw
            case rel =>
              have kz : Kept wr (wr.setCell ⟨w0.heap.size, d, none⟩ (.int .i64 (p + q))) (fun i => i = w0.heap.size) := Kept.set
              have kd : Kept (wr.setCell ⟨w0.heap.size, d, none⟩ (.int .i64 (p + q))) (wr.setCell ⟨w0.heap.size, d, none⟩ (.int .i64 (p + q))).drew (fun i => i = w0.heap.size) := ⟨rfl, rfl, rfl, Nat.le_refl _, fun _ _ _ => rfl⟩
              refine ⟨k + 1, by omega, by go_num, ?_, Below.drew (B4.out.setCell (Nat.le_refl _) _), K4.out.trans (kz.trans kd)⟩
              rw [← HSN.out]
              exact R4.out.set d (.int .i64 (p + q))
            case measure => simp [intOf]; omega
          · obtain rfl : k = y := by omega
            have e : numsV n (fun j => ((wpI E m (nx.take k) j : Nat) : Int)) = numsV n (fun j => ((wp E (m + 1) j : Nat) : Int)) := by
              rw [List.take_of_length_le (by rw [HY.out]; exact Nat.le_refl _)]
              refine numsV_ext (fun j _ => ?_)
              unfold wpI
              rw [wp_step]
              have h := EI.out j
              rw [HE.out] at h
              by_cases q : (j : Int) ∈ nx
              · rw [if_pos q, if_pos (h.2 q)]
              · rw [if_neg q, if_neg (fun r => q (h.1 r))]
            rw [e] at R4
            go_wp2
            go_roundw
            case rel => exact ⟨m + 1, by omega, by go_num, R4.out, B4.out⟩
            case measure => simp [intOf]; omega
      · obtain rfl : m = n := by omega
        have cf := (R2.out.cell f).trans (numsV_at _ hfn)
        rw [wp_end HF.out (by omega)] at cf
        have hf' : (f : Int) < (m : Int) := by omega
        go_wp2
        go_ret2
        refine ⟨?_, Below.tr B0.out B2.out⟩
        have er : wayR xs f = ((wc E f : Nat) : Int) := by unfold wayR; rw [HE.out, Int.toNat_natCast]
        rw [er]
        rfl
end Go.Proofs.Ytilnegmjnbffhaa
