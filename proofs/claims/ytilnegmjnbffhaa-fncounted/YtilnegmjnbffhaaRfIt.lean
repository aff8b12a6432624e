/-
  The program's iterator over the steps to which there is a path.
-/
import Derived.Test.YtilnegmjnbffhaaRfLaw
import Derived.Test.YtilnegmjnbffhaaRfMath
import Derived.Test.YtilnegmjnbffhaaSS
import Derived.Deep.OwnRows
namespace Go.Proofs.Ytilnegmjnbffhaa
open Go.ChangeShapes Go.WideShapes Go.ChangeAt Go.RowKit
attribute [local go_sem] Oper.semAt_some

theorem made_rep (v : Value) (n : Nat) : madeCells #[v] n = (List.replicate n v).toArray := by
  unfold madeCells
  apply Array.ext
  · simp
  · intro i h1 h2
    simp [Nat.mod_one]
set_option maxRecDepth 100000 in
set_option maxHeartbeats 2000000 in
theorem stepsFrom_any (A : Option Addr) (n c : Nat) (at_ : Int) (w : World) :
    Calls Try.prog 45 #[.slice A n c, .int .i64 at_] w fun e w' =>
      e = .returned (.func (.func 64) #[] #[.pointer (some ⟨w.heap.size, 0, none⟩), .pointer (some ⟨w.heap.size + 1, 0, none⟩)]) ∧
      w' = (w.alloc (.cells #[.slice A n c] 45)).alloc (.cells #[.int .i64 at_] 3) := by
  go_enter Try.func45, Try.ntmps45
  go_wp2
  go_ret
  exact ⟨rfl, rfl⟩

theorem tkept {w W : World} {T : Nat → Prop} {b : Nat} {t : TypeId} {cs : List Value} (hk : Kept w W (fun i => ¬ T i)) (hb : Blk w b t cs) (h : T b) : Blk W b t cs := hk.blk hb (fun q => q h)
theorem tbelow {w0 w W : World} {T : Nat → Prop} (hT : ∀ i, i < w0.heap.size → T i) (hb : Below w0.heap.size w0 w) (hk : Kept w W (fun i => ¬ T i)) : Below w0.heap.size w0 W :=
  hk.below hb hb.size (fun i h => by rcases Nat.lt_or_ge i w0.heap.size with q | q; exact absurd (hT i q) h; exact q)

set_option maxRecDepth 100000 in
set_option maxHeartbeats 4000000 in
theorem steps_seq (l : KT) (g : GoodKT l) (n f c b : Nat) (A : Option Addr) (w w0 : World) (T : Nat → Prop) (hn : Hid (l.length = n)) (h20 : n ≤ 20) (hf : f < n)
    (hl : Hid (LLies w0 A (nxsL l))) (hb0 : Hid (Below w0.heap.size w0 w)) (h1 : Hid (Blk w b 45 [.slice A n c])) (h2 : Hid (Blk w (b + 1) 3 [.int .i64 f]))
    (hT0 : ∀ i, i < w0.heap.size → T i) (hTb : T b) (hTb1 : T (b + 1)) (hTl : ∀ i, T i → i < w.heap.size) :
    SeqR Try.prog 64 #[.pointer (some ⟨b, 0, none⟩), .pointer (some ⟨b + 1, 0, none⟩)] (fun x : Int => #[.int .i64 x]) (castL (reachL (edg l) n f)) 1 T w := by
  intro lp J W hBW hJ hY h0
  have HJ := Lib.hid hJ
  have HY := Lib.hid hY
  have HT0 := Lib.hid hT0
  have HTl := Lib.hid hTl
  clear hJ hY hT0 hTl
  have KW := Lib.hid (Kept.of_below (S := fun i => ¬ T i) hBW)
  have c1 := (KW.out.blk h1.out (fun q => q hTb)).cell 0
  have c2 := (KW.out.blk h2.out (fun q => q hTb1)).cell 0
  simp only [List.getElem?_cons_zero] at c1 c2
  have hb2 : b + 1 < W.heap.size := (KW.out.blk h2.out (fun q => q hTb1)).lt
  have hb1 : b < W.heap.size := by omega
  have hf' : (f : Int) < (n : Int) := by omega
  have hm0 : (madeCells #[Value.bool false] n)[f]? = some (.bool false) := by rw [made_rep]; simp [hf]
  have hmk := fun w : World => run_make_row' (P := Try.prog) 58 4 (.bool false) 1 Try.underlying58 info_bool rfl .i64 .i64 n (by omega) (by omega) w
  refine (callsIn_wide (n := 0)).1 ?_
  refine callsIn_of_wp Try.func64 rfl trivial ?_ rfl
  simp only [Try.ntmps64, List.size_toArray, List.length_cons, List.length_nil, Nat.reduceAdd, Nat.reduceSub, Array.replicate_succ, Array.replicate_zero, List.push_toArray, List.append_toArray, List.nil_append, List.cons_append]
  gi_wp2
  have start := bitsV_zero n
  gi_loopw [17] (fun i wr => ∃ m : Nat, m ≤ n ∧ i = .int .i64 m ∧ J (castL (befL (edg l) f m)) wr ∧ Blk wr W.heap.size 4 (bitsV n (mkdB (edg l) n f m)) ∧ Kept w wr (fun i => ¬ T i) ∧ W.heap.size + 1 ≤ wr.heap.size) (fun i _ => n - (intOf i).toNat)
  case atStart =>
    have ea : ((madeCells #[Value.bool false] n).setIfInBounds f (Value.bool true)) = (bitsV n (mkdB (edg l) n f 0)).toArray := by
      rw [made_rep, start, List.setIfInBounds_toArray, bitsV_set]
      exact congrArg List.toArray (bitsV_ext (fun j _ => (mkd_start j hf).symm))
    refine ⟨0, Nat.zero_le _, rfl, HJ.out _ _ _ h0 (Kept.of_below (below1 W _)), ?_, KW.out.trans (Kept.of_below (below1 W _)), by simp⟩
    rw [ea]
    exact heap_alloc_new W _
  case round =>
    obtain ⟨m, hm, rfl, hj, hbl, hkw, hsz⟩ := hrel
    have HJ1 := Lib.hid hj
    have HB1 := Lib.hid hbl
    have HK1 := Lib.hid hkw
    clear hj hbl hkw
    by_cases hlt : m < n
    · obtain ⟨x, hx⟩ : ∃ x, l[m]? = some x := ⟨_, List.getElem?_eq_getElem (by have := hn.out; omega)⟩
      have HX := Lib.hid hx
      obtain ⟨b3, off3, a3, c3, hA, hb3, hc3, hle3, hmx3, hi3⟩ := hl.out m _ (nxs_at hx)
      have IL := Lib.hid hi3
      clear hx hi3
      have TB1 := Lib.hid (tbelow HT0.out hb0.out HK1.out)
      have t3 := ((bcell TB1.out).1 b3 (off3 + m) hb3).trans hc3
      have t1 := (HK1.out.blk h1.out (fun q => q hTb)).cell 0
      have hcm : wr.cell? ⟨W.heap.size, m, none⟩ = some (.bool (mkdB (edg l) n f m m)) := (HB1.out.cell m).trans (bitsV_at _ hlt)
      rw [mkd_at hlt] at hcm
      clear hc3
      subst hA
      cases q : rb (edg l) f m
      · rw [q] at hcm
        have HQ := Lib.hid q
        clear q
        gi_wp2
        go_roundw
        case rel => exact ⟨m + 1, by omega, by go_num, by rw [bef_no HQ.out]; exact HJ1.out, by rw [bitsV_ext (fun j _ => mkd_skip HQ.out j)]; exact HB1.out, HK1.out, hsz⟩
        case measure => simp [intOf]; omega
      · rw [q] at hcm
        have HQ := Lib.hid q
        clear q
        have hn9 := HX.out
        obtain ⟨z, hz⟩ : ∃ z, (nxI x.1 x.2 m).length = z := ⟨_, rfl⟩
        have HZ := Lib.hid hz
        have GX := Lib.hid (fun (y : Int) (hy : y ∈ nxI x.1 x.2 m) => nx_nat g hn9 hy)
        have HM := Lib.hid (fun j => mkd_lead g hn9 HQ.out (j := j))
        rw [hz] at t3
        obtain ⟨nx, hnx⟩ : ∃ nx, nxI x.1 x.2 m = nx := ⟨_, rfl⟩
        rw [hnx] at HZ GX HM IL
        have hz2 : z ≤ 2 := by rw [← hz]; exact nexts_len x.1 x.2 m
        clear hz hnx hn9
        gi_wp2
        gi_loopw [29] (fun i wr2 => ∃ k : Nat, k ≤ z ∧ i = .int .i64 k ∧ J (castL (befL (edg l) f m)) wr2 ∧ Blk wr2 W.heap.size 4 (bitsV n (fun j => mkdB (edg l) n f m j || decide ((j : Int) ∈ nx.take k))) ∧ Kept w wr2 (fun i => ¬ T i) ∧ W.heap.size + 1 ≤ wr2.heap.size) (fun i _ => z - (intOf i).toNat)
        case atStart =>
          refine ⟨0, Nat.zero_le _, rfl, HJ1.out, ?_, HK1.out, hsz⟩
          rw [bitsV_ext (q := mkdB (edg l) n f m) (fun j _ => by simp)]
          exact HB1.out
        case round =>
          obtain ⟨k, hk, rfl, hj, hbl, hkw, hsz2⟩ := hrel
          have HJ2 := Lib.hid hj
          have HB2 := Lib.hid hbl
          have HK2 := Lib.hid hkw
          clear hj hbl hkw
          by_cases hlt2 : k < z
          · obtain ⟨y, hy⟩ : ∃ y, nx[k]? = some y := ⟨_, List.getElem?_eq_getElem (by have := HZ.out; omega)⟩
            obtain ⟨v, rfl, -, hvn⟩ := GX.out y (List.mem_of_getElem? hy)
            rw [hn.out] at hvn
            have HV := Lib.hid hy
            obtain ⟨b4, off4, rfl, hb4, hc4⟩ := IL.out k _ hy
            clear hy
            have TB2 := Lib.hid (tbelow HT0.out hb0.out HK2.out)
            have t4 := ((bcell TB2.out).1 b4 (off4 + k) hb4).trans hc4
            clear hc4
            have hcv := (HB2.out.cell v).trans (bitsV_at _ hvn)
            have hfv := HB2.out.frozen v
            have hvn' : (v : Int) < (n : Int) := by omega
            gi_wp2
            go_roundw
            case rel =>
              refine ⟨k + 1, by omega, by go_num, HJ.out _ _ _ HJ2.out (Kept.set.mono (fun i h => by unfold Prv; omega)), ?_, HK2.out.trans (Kept.set.mono (fun i h q => by have := HTl.out i q; have := hBW.size; omega)), by simpa using hsz2⟩
              have e := HB2.out.set v (.bool true)
              rw [bitsV_set] at e
              rw [bitsV_ext (fun j _ => show (mkdB (edg l) n f m j || decide ((j : Int) ∈ nx.take (k + 1))) = ((mkdB (edg l) n f m j || decide ((j : Int) ∈ nx.take k)) || decide (j = v)) by
                rw [Bool.or_assoc, ← Bool.decide_or]
                congr 1
                rw [decide_eq_decide, take_mem_succ HV.out]
                constructor
                · rintro (h | h)
                  · exact .inl h
                  · exact .inr (by omega)
                · rintro (h | h)
                  · exact .inl h
                  · exact .inr (by omega))]
              exact e
            case measure => simp [intOf]; omega
          · obtain rfl : k = z := by omega
            obtain ⟨rest, hrest⟩ := bef_cut hlt HQ.out
            have hbm : Hid (Blk wr W.heap.size 4 (bitsV n (mkdB (edg l) n f (m + 1)))) := by
              have e := HB2.out
              rw [List.take_of_length_le (by have := HZ.out; omega)] at e
              rw [bitsV_ext (q := fun j => mkdB (edg l) n f m j || decide ((j : Int) ∈ nx)) (fun j _ => by have := HM.out j; rw [hn.out] at this; exact this)]
              exact e
            obtain ⟨fn, tmps, assign, body, hy, hR⟩ := HY.out 0 (castL (befL (edg l) f m)) m (castL rest) wr (by rw [hrest, castL_app]; rfl) HJ2.out hsz2
            gi_wp2
            refine ⟨rfl, hR.mono ?_⟩
            rintro e W3 ⟨rfl, hj3, hk3⟩
            have HJ3 := Lib.hid hj3
            have HB3 := Lib.hid (hk3.blk hbm.out (fun q => q.2 (by unfold Prv; omega)))
            have HK3 := Lib.hid (HK2.out.trans (hk3.mono (fun i h => h.1)))
            have hsz3 : W.heap.size + 1 ≤ W3.heap.size := Nat.le_trans hsz2 hk3.size
            clear hj3 hk3 hR hy
            gi_wp2
            go_roundw
            case rel => exact ⟨m + 1, by omega, by go_num, by rw [bef_yes HQ.out, castL_app]; exact HJ3.out, HB3.out, HK3.out, hsz3⟩
            case measure => simp [intOf]; omega
    · obtain rfl : m = n := by omega
      gi_wp2
      go_end0
      exact ⟨⟨_, rfl⟩, by have := HJ1.out; rw [bef_all] at this; exact this⟩
end Go.Proofs.Ytilnegmjnbffhaa
