/-
  Proofs checked clause by clause: the program's checker and the model's.
-/
import Derived.Test.YtkkoeeoalkjhoaaOnce
namespace Go.Proofs.Ytkkoeeoalkjhoaa
open Go.ChangeShapes Go.WideShapes Go.ChangeAt Go.RowKit

theorem rows_one {w : World} {lo : Nat} {a : Option Addr} {z cp : Nat} {c : List Int} (h : ILies w a c) (hz : c.length = z) (hc : z ≤ cp) (hm : z ≤ 9223372036854775807) (hb : ∀ ad, a = some ad → 0 < z → ad.block < lo) : Rows0 w (fun g => g < lo) [.slice a z cp] [c] := by
  refine ⟨rfl, fun i l hl => ?_⟩
  have hi : i < 1 := by have := (List.getElem?_eq_some_iff.1 hl).1; simpa using this
  obtain rfl : i = 0 := by omega
  simp at hl
  subst hl
  exact ⟨a, cp, by simp [hz], by omega, by omega, h, fun ad e p => hb ad e (by omega)⟩
theorem ILies.blk {w : World} {a : Option Addr} {c : List Int} (h : ILies w a c) : ∀ ad, a = some ad → 0 < c.length → ad.block < w.heap.size := by
  intro ad e p
  obtain ⟨b, off, hA, hlt, _⟩ := h 0 _ (List.getElem?_eq_getElem p)
  rw [hA] at e
  obtain rfl := Option.some.inj e
  exact hlt
theorem CR.base {w : World} {base base' : Nat} {v : Value} {vs : List Value} {L : List (List Int)} (h : CR w base v vs L) (hb : base' ≤ base) : CR w base' v vs L := ⟨own_base h.outer hb, h.rows⟩
theorem zeros_at {p : List (List Int)} {k : Nat} (h : k < p.length) : (zerosB p)[k]? = some false := by
  unfold zerosB
  rw [List.getElem?_replicate, if_pos h]
set_option maxRecDepth 100000 in
set_option maxHeartbeats 400000 in
theorem keep1_any (k : Nat) (w : World) : Calls Try.prog 46 #[.int .i64 k] w fun e w' => e = .returned (.bool true) ∧ w = w' := by
  go_enter Try.func46, Try.ntmps46
  go_wp2
  go_ret
  exact ⟨rfl, rfl⟩
/-- which clauses are removed, as the program keeps it: a variable with a slice of its own -/
def Removed (w : World) (g gr m : Nat) (d : List Bool) : Prop := w.cell? ⟨g, 0, none⟩ = some (.slice (some ⟨gr, 0, none⟩) m m) ∧ g < w.heap.size ∧ Blk w gr 4 (d.map Value.bool)
theorem Removed.below {w w' : World} {g gr m : Nat} {d : List Bool} (h : Removed w g gr m d) (hb : Below w.heap.size w w') : Removed w' g gr m d :=
  ⟨((bcell hb).1 _ _ h.2.1).trans h.1, Nat.lt_of_lt_of_le h.2.1 hb.size, h.2.2.below hb⟩
set_option maxRecDepth 100000 in
set_option maxHeartbeats 400000 in
theorem keep2_any (g gr m k : Nat) (d : List Bool) (b : Bool) (w : World) (hr : Hid (Removed w g gr m d)) (hb : Hid (d[k]? = some b)) (HD : Hid (d.length = m)) : Calls Try.prog 59 #[.int .i64 k, .pointer (some ⟨g, 0, none⟩)] w fun e w' => e = .returned (.bool !b) ∧ w = w' := by
  have hk : k < m := by have := (List.getElem?_eq_some_iff.1 hb.out).1; have := HD.out; omega
  have t0 := hr.out.1
  have t1 : w.cell? ⟨gr, k, none⟩ = some (.bool b) := hr.out.2.2.there (by rw [List.getElem?_map, hb.out]; rfl)
  go_enter Try.func59, Try.ntmps59
  go_wp2
  go_ret
  exact ⟨rfl, rfl⟩
set_option maxRecDepth 100000 in
set_option maxHeartbeats 4000000 in
theorem firstWrong1_any (v : Int) (A B : Option Addr) (n m cap c2 : Nat) (L p : List (List Int)) (w : World) (hl : Hid (LLies w A L)) (hl2 : Hid (LLies w B p)) (HX : Hid (L.length = n)) (HY : Hid (p.length = m)) (HN : Hid (A = none → n = 0 ∧ cap = 0)) (hn : n ≤ 60) (hm : m ≤ 300) (hv : v ≤ 12) (HL : Hid (∀ c ∈ L, clauseB v c = true)) (HP : Hid (∀ c ∈ p, clauseB v c = true)) :
    Calls Try.prog 47 #[.agg #[.slice A n cap, .slice B m c2, .func (.func 46) #[] #[]]] w fun e w' => e = .returned (.int .i64 (wrongF L p (zerosB p) : Nat)) ∧ Below w.heap.size w w' := by
  obtain ⟨W, hW⟩ : ∃ W, wrongF L p (zerosB p) = W := ⟨_, rfl⟩
  have WS : Hid (WInv v n p (zerosB p) W 0 L) := Lib.hid (by have := WInv.start (p := p) (d := (zerosB p)) HL.out; rw [hW, HX.out] at this; exact this)
  rw [hW]
  clear hW
  have A0 := below1 w (.cells #[.slice A n cap, .slice B m c2, .func (.func 46) #[] #[]] 63)
  have KB : Hid (Blk (w.alloc (.cells #[.slice A n cap, .slice B m c2, .func (.func 46) #[] #[]] 63)) w.heap.size 63 [.slice A n cap, .slice B m c2, .func (.func 46) #[] #[]]) := Lib.hid (heap_alloc_new w _)
  have B0 := Lib.hid A0
  have L0 := Lib.hid (hl.out.below A0)
  clear A0
  have k0 := KB.out.cell 0
  go_enter Try.func47, Try.ntmps47
  go_wp2_with fail
  refine (clone_any _ _ _ L _ L0 HX HN (by omega)).mono ?_
  rintro e w1 ⟨A2, d2, vs, rfl, ho1, hr1, hb1⟩
  have C1 : Hid (CR w1 (w.heap.size + 1) (.slice A2 n d2) vs L) := Lib.hid ⟨by rw [HX.out]; simpa using ho1, hr1.1, fun i l hl => by
    obtain ⟨a, c, h1, h2, h3, h4, h5⟩ := hr1.2 i l hl
    exact ⟨a, c, h1, h2, h3, h4, fun ad e p => ⟨by have := h5 ad e p; have := hb1.size; omega, fun q => by have := h5 ad e p; have := (ho1.lt _ q).1; omega⟩⟩⟩
  have KB1 := Lib.hid (KB.out.below hb1)
  have B1 := Lib.hid (Below.tr B0.out hb1)
  have t1 := KB1.out.cell 1
  clear ho1 hr1 hb1 KB L0 k0 B0
  go_wp2_with fail
  go_loopw [3, 12] (fun u i wr => ∃ (k q : Nat), k ≤ m ∧ i = .int .i64 k ∧ q ≤ n + k ∧ (∃ all A3 c3 ws, u = .slice A3 q c3 ∧ all.length = q ∧ CR wr (w.heap.size + 1) (.slice A3 q c3) ws all ∧ WInv v n p (zerosB p) W k all) ∧ Blk wr w.heap.size 63 [.slice A n cap, .slice B m c2, .func (.func 46) #[] #[]] ∧ Below w.heap.size w wr) (fun _ i _ => m - (intOf i).toNat)
  case atStart => exact ⟨0, n, Nat.zero_le _, rfl, by omega, ⟨L, A2, d2, vs, rfl, HX.out, C1.out, WS.out⟩, KB1.out, B1.out⟩
  case round =>
    clear C1 B1 KB1 WS t1
    obtain ⟨k, q, hk, rfl, hq, ⟨all, A3, c3, ws, rfl, hal, hcr, hwi⟩, hkb, hbw⟩ := hrel
    have CW := Lib.hid hcr
    have BW := Lib.hid hbw
    have WI := Lib.hid hwi
    have AL := Lib.hid hal
    have KW := Lib.hid hkb
    have LW := Lib.hid (hl2.out.below hbw)
    have hbsz : w.heap.size + 1 ≤ wr.heap.size := hkb.lt
    have LA := Lib.hid hcr.lies
    have HLA := Lib.hid hwi.2.1
    have t1 := hkb.cell 1
    have t2 := hkb.cell 2
    clear hcr hbw hwi hal hkb
    by_cases hlt : k < m
    · obtain ⟨c, hx⟩ : ∃ x, p[k]? = some x := ⟨_, List.getElem?_eq_getElem (by have := HY.out; omega)⟩
      obtain ⟨b, off, a, cp, rfl, hbl, ha, hca, hma, hil⟩ := LW.out k c hx
      have HCL := Lib.hid (HP.out c (List.mem_of_getElem? hx))
      have HXK := Lib.hid hx
      have IL := Lib.hid hil
      have IB : Hid (∀ ad, a = some ad → 0 < c.length → ad.block < w.heap.size) := Lib.hid (fun ad e pz => by
        obtain ⟨b', off', a', cp', hA', _, ha', _, _, hil'⟩ := hl2.out k c hx
        have hA'' : b = b' ∧ off = off' := by simpa using hA'
        obtain ⟨rfl, rfl⟩ := hA''
        have e2 := (bcell BW.out).1 b (off + k) (World.block_lt_of_cell? w _ ha')
        rw [ha, ha'] at e2
        simp at e2
        rw [e2.1] at e
        exact hil'.blk ad e pz)
      clear hx hil
      obtain ⟨z, hz⟩ : ∃ m, c.length = m := ⟨_, rfl⟩
      rw [hz] at ha hca hma
      have HZ := Lib.hid hz
      clear hz
      have HB : Hid ((zerosB p)[k]? = some false) := Lib.hid (zeros_at (by have := HY.out; omega))
      cases hat : atB all c
      · have E := Lib.hid (WI.out.wrong HXK.out HB.out hat)
        go_wp2_with (go_at_call 46; refine (keep1_any k _).mono ?_; rintro e w' ⟨rfl, rfl⟩)
        refine (isAtOnce_any v _ _ _ _ _ _ all c _ LA IL AL HZ (by omega) hv HCL HLA).mono ?_
        rintro e w3 ⟨rfl, hb3⟩
        rw [hat]
        have B3 := Lib.hid (Below.tr BW.out hb3)
        clear hb3
        go_wp2
        go_ret
        exact ⟨by rw [E.out]; rfl, B3.out⟩
      · have W1 := Lib.hid (WI.out.right HXK.out HB.out hat HCL.out)
        go_wp2_with (go_at_call 46; refine (keep1_any k _).mono ?_; rintro e w' ⟨rfl, rfl⟩)
        refine (isAtOnce_any v _ _ _ _ _ _ all c _ LA IL AL HZ (by omega) hv HCL HLA).mono ?_
        rintro e w3 ⟨rfl, hb3⟩
        rw [hat]
        have B3 := Lib.hid (Below.tr BW.out hb3)
        have S3 := hb3.size
        have hbx := below1 w3 (.cells #[.slice a z cp] 40)
        have C3 := Lib.hid ((CW.out.below hb3).below hbx)
        have K3 := Lib.hid ((KW.out.below hb3).below hbx)
        have B4 := Lib.hid (Below.tr B3.out hbx)
        have I3 := Lib.hid ((IL.out.below hb3).below hbx)
        have OU : Hid ((w3.alloc (.cells #[.slice a z cp] 40)).ownsRow (w.heap.size + 1) 40 1 (.slice A3 q c3) q ws) := Lib.hid (by have := C3.out.outer; rw [AL.out] at this; exact this)
        clear hb3 hbx
        go_wp2_with (at_builtin; (refine append_rowsN (w1 := w3.alloc (.cells #[.slice a z cp] 40)) (base := w.heap.size + 1) (xs := ws) (vs := [.slice a z cp]) _ _ rfl rfl rfl rfl OU.out (fun ad e j u hu => by cases e; exact one_new1 w3 _ _ j u hu) (fun u hu => by rw [List.mem_singleton.1 hu]; rfl) rfl (fun e => by cases e) (by simp; omega) (by omega) (by omega) ?_; intro A4 c4 w4 ho4 hk4 hat4; have C4 := Lib.hid (C3.out.append (L2 := [c]) AL.out rfl (rows_one I3.out HZ.out hca hma (fun ad e pz => IB.out ad e (by rw [HZ.out]; exact pz))) (Nat.le_succ _) (by simp; omega) ho4 hk4 hat4); have B5 := Lib.hid (hk4.below B4.out (by simp; omega) (fun i e => by have := (OU.out.lt i e).1; omega)); have K5 := Lib.hid (hk4.blk K3.out (fun e => by have := (OU.out.lt _ e).1; omega)); clear ho4 hk4 hat4))
        go_roundw
        case rel => exact ⟨k + 1, q + 1, by omega, by go_num, by omega, ⟨all ++ [c], A4, c4, _, rfl, by rw [List.length_append, AL.out]; rfl, C4.out, W1.out⟩, K5.out, B5.out⟩
        case measure => simp [intOf]; omega
    · obtain rfl : k = m := by omega
      have E : Hid (W = k) := Lib.hid (by have := WI.out; rw [← HY.out] at this; rw [this.done, HY.out])
      go_wp2
      go_ret
      exact ⟨by rw [E.out]; first | done | rfl, BW.out⟩
set_option maxRecDepth 100000 in
set_option maxHeartbeats 4000000 in
theorem firstWrong2_any (v : Int) (A B : Option Addr) (n m cap c2 : Nat) (L p : List (List Int)) (g gr : Nat) (d : List Bool) (w : World) (RM : Hid (Removed w g gr m d)) (HD : Hid (d.length = m)) (hl : Hid (LLies w A L)) (hl2 : Hid (LLies w B p)) (HX : Hid (L.length = n)) (HY : Hid (p.length = m)) (HN : Hid (A = none → n = 0 ∧ cap = 0)) (hn : n ≤ 60) (hm : m ≤ 300) (hv : v ≤ 12) (HL : Hid (∀ c ∈ L, clauseB v c = true)) (HP : Hid (∀ c ∈ p, clauseB v c = true)) :
    Calls Try.prog 47 #[.agg #[.slice A n cap, .slice B m c2, .func (.func 59) #[] #[.pointer (some ⟨g, 0, none⟩)]]] w fun e w' => e = .returned (.int .i64 (wrongF L p d : Nat)) ∧ Below w.heap.size w w' := by
  obtain ⟨W, hW⟩ : ∃ W, wrongF L p d = W := ⟨_, rfl⟩
  have WS : Hid (WInv v n p d W 0 L) := Lib.hid (by have := WInv.start (p := p) (d := d) HL.out; rw [hW, HX.out] at this; exact this)
  rw [hW]
  clear hW
  have A0 := below1 w (.cells #[.slice A n cap, .slice B m c2, .func (.func 59) #[] #[.pointer (some ⟨g, 0, none⟩)]] 63)
  have KB : Hid (Blk (w.alloc (.cells #[.slice A n cap, .slice B m c2, .func (.func 59) #[] #[.pointer (some ⟨g, 0, none⟩)]] 63)) w.heap.size 63 [.slice A n cap, .slice B m c2, .func (.func 59) #[] #[.pointer (some ⟨g, 0, none⟩)]]) := Lib.hid (heap_alloc_new w _)
  have B0 := Lib.hid A0
  have L0 := Lib.hid (hl.out.below A0)
  clear A0
  have k0 := KB.out.cell 0
  go_enter Try.func47, Try.ntmps47
  go_wp2_with fail
  refine (clone_any _ _ _ L _ L0 HX HN (by omega)).mono ?_
  rintro e w1 ⟨A2, d2, vs, rfl, ho1, hr1, hb1⟩
  have C1 : Hid (CR w1 (w.heap.size + 1) (.slice A2 n d2) vs L) := Lib.hid ⟨by rw [HX.out]; simpa using ho1, hr1.1, fun i l hl => by
    obtain ⟨a, c, h1, h2, h3, h4, h5⟩ := hr1.2 i l hl
    exact ⟨a, c, h1, h2, h3, h4, fun ad e p => ⟨by have := h5 ad e p; have := hb1.size; omega, fun q => by have := h5 ad e p; have := (ho1.lt _ q).1; omega⟩⟩⟩
  have KB1 := Lib.hid (KB.out.below hb1)
  have B1 := Lib.hid (Below.tr B0.out hb1)
  have t1 := KB1.out.cell 1
  clear ho1 hr1 hb1 KB L0 k0 B0
  go_wp2_with fail
  go_loopw [3, 12] (fun u i wr => ∃ (k q : Nat), k ≤ m ∧ i = .int .i64 k ∧ q ≤ n + k ∧ (∃ all A3 c3 ws, u = .slice A3 q c3 ∧ all.length = q ∧ CR wr (w.heap.size + 1) (.slice A3 q c3) ws all ∧ WInv v n p d W k all) ∧ Blk wr w.heap.size 63 [.slice A n cap, .slice B m c2, .func (.func 59) #[] #[.pointer (some ⟨g, 0, none⟩)]] ∧ Below w.heap.size w wr) (fun _ i _ => m - (intOf i).toNat)
  case atStart => exact ⟨0, n, Nat.zero_le _, rfl, by omega, ⟨L, A2, d2, vs, rfl, HX.out, C1.out, WS.out⟩, KB1.out, B1.out⟩
  case round =>
    clear C1 B1 KB1 WS t1
    obtain ⟨k, q, hk, rfl, hq, ⟨all, A3, c3, ws, rfl, hal, hcr, hwi⟩, hkb, hbw⟩ := hrel
    have CW := Lib.hid hcr
    have BW := Lib.hid hbw
    have WI := Lib.hid hwi
    have AL := Lib.hid hal
    have KW := Lib.hid hkb
    have LW := Lib.hid (hl2.out.below hbw)
    have hbsz : w.heap.size + 1 ≤ wr.heap.size := hkb.lt
    have LA := Lib.hid hcr.lies
    have HLA := Lib.hid hwi.2.1
    have t1 := hkb.cell 1
    have t2 := hkb.cell 2
    have RW := Lib.hid (RM.out.below hbw)
    clear hcr hbw hwi hal hkb
    by_cases hlt : k < m
    · obtain ⟨c, hx⟩ : ∃ x, p[k]? = some x := ⟨_, List.getElem?_eq_getElem (by have := HY.out; omega)⟩
      obtain ⟨b, off, a, cp, rfl, hbl, ha, hca, hma, hil⟩ := LW.out k c hx
      have HCL := Lib.hid (HP.out c (List.mem_of_getElem? hx))
      have HXK := Lib.hid hx
      have IL := Lib.hid hil
      have IB : Hid (∀ ad, a = some ad → 0 < c.length → ad.block < w.heap.size) := Lib.hid (fun ad e pz => by
        obtain ⟨b', off', a', cp', hA', _, ha', _, _, hil'⟩ := hl2.out k c hx
        have hA'' : b = b' ∧ off = off' := by simpa using hA'
        obtain ⟨rfl, rfl⟩ := hA''
        have e2 := (bcell BW.out).1 b (off + k) (World.block_lt_of_cell? w _ ha')
        rw [ha, ha'] at e2
        simp at e2
        rw [e2.1] at e
        exact hil'.blk ad e pz)
      clear hx hil
      obtain ⟨z, hz⟩ : ∃ m, c.length = m := ⟨_, rfl⟩
      rw [hz] at ha hca hma
      have HZ := Lib.hid hz
      clear hz
      obtain ⟨bd, hbd⟩ : ∃ x, d[k]? = some x := ⟨_, List.getElem?_eq_getElem (by have := HD.out; omega)⟩
      have HB := Lib.hid hbd
      clear hbd
      cases bd
      rotate_left
      · have W1 := Lib.hid (WI.out.skip HXK.out HB.out)
        go_wp2_with (go_at_call 59; refine (keep2_any g gr m k d true _ RW HB HD).mono ?_; rintro e w' ⟨rfl, rfl⟩)
        go_roundw
        case rel => exact ⟨k + 1, q, by omega, by go_num, by omega, ⟨all, A3, c3, ws, rfl, AL.out, CW.out, W1.out⟩, KW.out, BW.out⟩
        case measure => simp [intOf]; omega
      cases hat : atB all c
      · have E := Lib.hid (WI.out.wrong HXK.out HB.out hat)
        go_wp2_with (go_at_call 59; refine (keep2_any g gr m k d false _ RW HB HD).mono ?_; rintro e w' ⟨rfl, rfl⟩)
        refine (isAtOnce_any v _ _ _ _ _ _ all c _ LA IL AL HZ (by omega) hv HCL HLA).mono ?_
        rintro e w3 ⟨rfl, hb3⟩
        rw [hat]
        have B3 := Lib.hid (Below.tr BW.out hb3)
        clear hb3
        go_wp2
        go_ret
        exact ⟨by rw [E.out]; rfl, B3.out⟩
      · have W1 := Lib.hid (WI.out.right HXK.out HB.out hat HCL.out)
        go_wp2_with (go_at_call 59; refine (keep2_any g gr m k d false _ RW HB HD).mono ?_; rintro e w' ⟨rfl, rfl⟩)
        refine (isAtOnce_any v _ _ _ _ _ _ all c _ LA IL AL HZ (by omega) hv HCL HLA).mono ?_
        rintro e w3 ⟨rfl, hb3⟩
        rw [hat]
        have B3 := Lib.hid (Below.tr BW.out hb3)
        have S3 := hb3.size
        have hbx := below1 w3 (.cells #[.slice a z cp] 40)
        have C3 := Lib.hid ((CW.out.below hb3).below hbx)
        have K3 := Lib.hid ((KW.out.below hb3).below hbx)
        have B4 := Lib.hid (Below.tr B3.out hbx)
        have I3 := Lib.hid ((IL.out.below hb3).below hbx)
        have OU : Hid ((w3.alloc (.cells #[.slice a z cp] 40)).ownsRow (w.heap.size + 1) 40 1 (.slice A3 q c3) q ws) := Lib.hid (by have := C3.out.outer; rw [AL.out] at this; exact this)
        clear hb3 hbx
        go_wp2_with (at_builtin; (refine append_rowsN (w1 := w3.alloc (.cells #[.slice a z cp] 40)) (base := w.heap.size + 1) (xs := ws) (vs := [.slice a z cp]) _ _ rfl rfl rfl rfl OU.out (fun ad e j u hu => by cases e; exact one_new1 w3 _ _ j u hu) (fun u hu => by rw [List.mem_singleton.1 hu]; rfl) rfl (fun e => by cases e) (by simp; omega) (by omega) (by omega) ?_; intro A4 c4 w4 ho4 hk4 hat4; have C4 := Lib.hid (C3.out.append (L2 := [c]) AL.out rfl (rows_one I3.out HZ.out hca hma (fun ad e pz => IB.out ad e (by rw [HZ.out]; exact pz))) (Nat.le_succ _) (by simp; omega) ho4 hk4 hat4); have B5 := Lib.hid (hk4.below B4.out (by simp; omega) (fun i e => by have := (OU.out.lt i e).1; omega)); have K5 := Lib.hid (hk4.blk K3.out (fun e => by have := (OU.out.lt _ e).1; omega)); clear ho4 hk4 hat4))
        go_roundw
        case rel => exact ⟨k + 1, q + 1, by omega, by go_num, by omega, ⟨all ++ [c], A4, c4, _, rfl, by rw [List.length_append, AL.out]; rfl, C4.out, W1.out⟩, K5.out, B5.out⟩
        case measure => simp [intOf]; omega
    · obtain rfl : k = m := by omega
      have E : Hid (W = k) := Lib.hid (by have := WI.out; rw [← HY.out] at this; rw [this.done, HY.out])
      go_wp2
      go_ret
      exact ⟨by rw [E.out]; first | done | rfl, BW.out⟩
end Go.Proofs.Ytkkoeeoalkjhoaa
