/-
  The walk of the law FnBits.
-/
import Derived.Test.YtmfganodnlnjcaaDoorKn6
import Derived.Test.YtmfganodnlnjcaaDoorKnD3
import Derived.Test.YtmfganodnlnjcaaDoorNumOf
namespace Go.Proofs.YtmfganodnlnjcaaDoor.Op
open Go.Proofs.YtmfganodnlnjcaaDoor
open Go.ChangeShapes Go.WideShapes Go.ChangeAt Go.RowKit

theorem gK_knB {v m : Int} (h : gK v m = true) : goodK (kn v m) = true ∧ v = ((kn v m).v : Int) ∧ m = ((kn v m).m : Int) := by
  obtain ⟨a, b, rfl, rfl, g⟩ := gK_open h
  exact ⟨g, rfl, rfl⟩
theorem waysA_knB {v m : Int} (h : gK v m = true) : waysA v m = ((waysN (kn v m) : Int), true) := by unfold waysA; rw [h]; rfl
theorem mayA_kn {k : Kn} {n : Nat} (g : goodK k = true) (hn : n < 65536) : mayA (k.v : Int) (k.m : Int) (n : Int) = (mayK k n, true) := mayA_nat (v := k.v) (m := k.m) g hn
theorem mayA_in {v m : Int} {n : Nat} (g : gK v m = true) (hn : n < 65536) : mayA v m (n : Int) = (mayK (kn v m) n, true) := by
  obtain ⟨a, b, rfl, rfl, gg⟩ := gK_open g
  exact mayA_nat gg hn
theorem join_factsB {al ah bl bh : Int} (h : (joinA al ah bl bh).2 = true) : gK al ah = true ∧ gK bl bh = true ∧ (joinA al ah bl bh).1 = joinK (kn al ah) (kn bl bh) := by
  unfold joinA at h ⊢
  cases hg : (gK al ah && gK bl bh)
  · rw [hg] at h; simp at h
  · simp only [Bool.and_eq_true] at hg
    exact ⟨hg.1, hg.2, rfl⟩
theorem meet_factsB {al ah bl bh : Int} (g1 : gK al ah = true) (g2 : gK bl bh = true) : (meetA al ah bl bh).2 = metK (kn al ah) (kn bl bh) ∧ ((meetA al ah bl bh).2 = true → (meetA al ah bl bh).1 = meetK (kn al ah) (kn bl bh)) := by
  unfold meetA
  rw [g1, g2]
  cases hm : metK (kn al ah) (kn bl bh)
  · exact ⟨rfl, fun h => by simp at h⟩
  · exact ⟨rfl, fun _ => rfl⟩
/-- what holds of each word of a -/
theorem bits_round {al ah bl bh jl jh ml mh : Int} {mok : Bool} (g1 : gK al ah = true) (g2 : gK bl bh = true) (h1 : ((joinA al ah bl bh).1.v : Int) = jl) (h2 : ((joinA al ah bl bh).1.m : Int) = jh) (hj : (joinA al ah bl bh).2 = true)
    (h3 : ((meetA al ah bl bh).1.v : Int) = ml) (h4 : ((meetA al ah bl bh).1.m : Int) = mh) (h5 : (meetA al ah bl bh).2 = mok) (i : Int) (hi : 0 ≤ i) (hi2 : i < (waysN (kn al ah) : Int)) :
    ∃ (x : Int) (q : Bool), numA al ah i = (x, true) ∧ mayA jl jh x = (true, true) ∧ mayA bl bh x = (q, true) ∧ (mok = false → q = false) ∧ (mok = true → mayA ml mh x = (q, true)) := by
  obtain ⟨n, rfl⟩ := Int.eq_ofNat_of_zero_le hi
  have k1 := (gK_knB g1).1
  have k2 := (gK_knB g2).1
  have hx := numAt_lt k1 n
  have hm := numAt_may k1 n
  have jf := (join_factsB hj).2.2
  have mf := meet_factsB g1 g2
  refine ⟨(numAt (kn al ah) n : Int), mayK (kn bl bh) (numAt (kn al ah) n), ?_, ?_, mayA_in g2 hx, ?_, ?_⟩
  · unfold numA
    rw [g1, decide_eq_true (show (0 : Int) ≤ (n : Int) ∧ (n : Int) < (waysN (kn al ah) : Int) from ⟨hi, hi2⟩)]
    rfl
  · rw [← h1, ← h2, jf, mayA_kn (joinK_good k1 k2) hx, join_left hm]
  · intro h0
    rw [h0] at h5
    rw [mf.1] at h5
    cases hq : mayK (kn bl bh) (numAt (kn al ah) n)
    · rfl
    · exact absurd ⟨hm, hq⟩ (meet_none h5)
  · intro h0
    rw [h0] at h5
    have hk : metK (kn al ah) (kn bl bh) = true := by rw [← mf.1]; exact h5
    rw [← h3, ← h4, mf.2 h5, mayA_kn (meetK_good k1 k2 hk) hx]
    have e := meet_may (n := numAt (kn al ah) n) k1 k2 hk
    congr 1
    rw [Bool.eq_iff_iff, e, hm]
    simp
theorem bits_good {al ah bl bh jl jh ml mh : Int} (h1 : ((joinA al ah bl bh).1.v : Int) = jl) (h2 : ((joinA al ah bl bh).1.m : Int) = jh) (hj : (joinA al ah bl bh).2 = true)
    (h3 : ((meetA al ah bl bh).1.v : Int) = ml) (h4 : ((meetA al ah bl bh).1.m : Int) = mh) : gK jl jh = true ∧ ((meetA al ah bl bh).2 = true → gK ml mh = true) := by
  obtain ⟨g1, g2, jf⟩ := join_factsB hj
  have k1 := (gK_knB g1).1
  have k2 := (gK_knB g2).1
  constructor
  · rw [← h1, ← h2, jf, gK_nat]; exact joinK_good k1 k2
  · intro hm
    have mf := meet_factsB g1 g2
    rw [← h3, ← h4, mf.2 hm, gK_nat]
    exact meetK_good k1 k2 (by rw [← mf.1]; exact hm)
/-- each number is a word of the known that is made of all -/
theorem of_round {l : List Int} {kl kh : Int} (h : (ofA l).2 = true) (h1 : ((ofA l).1.v : Int) = kl) (h2 : ((ofA l).1.m : Int) = kh) : ∀ x ∈ l, mayA kl kh x = (true, true) := by
  intro x hx
  have hc : 1 ≤ l.length ∧ l.length ≤ 40 ∧ l.all isW = true := by
    unfold ofA at h
    cases hg : (decide (1 ≤ l.length ∧ l.length ≤ 40) && l.all isW)
    · rw [hg] at h; simp at h
    · simp only [Bool.and_eq_true, decide_eq_true_eq] at hg
      exact ⟨hg.1.1, hg.1.2, hg.2⟩
  have hw := (List.all_eq_true.1 hc.2.2) x hx
  obtain ⟨n, rfl, hn⟩ := isW_open hw
  obtain ⟨z, hz, hzl⟩ := word_at hc.2.2 (k := 0) (by omega)
  have e := ofA_join hc.2.2 hc.1 hc.2.1 hz
  have hin : n ∈ natsOf l := by
    unfold natsOf
    exact List.mem_map.2 ⟨(n : Int), hx, rfl⟩
  have hall : ∀ m ∈ natsOf l, m < 65536 := (nats_cast hc.2.2).2
  have hb := joinL_bit z (natsOf l)
  rw [e] at h1 h2
  simp only at h1 h2
  have hlt := joinL_lt hzl hall
  have key : ∀ i, ¬ ((joinL z (natsOf l)).v.testBit i = true ∧ (joinL z (natsOf l)).m.testBit i = true) := by
    rintro i ⟨p, q⟩
    rw [(hb i).2.2 q] at p; cases p
  have hgood : goodK (joinL z (natsOf l)) = true := by
    cases hj : joinL z (natsOf l) with
    | mk jv jm =>
      rw [hj] at key hlt
      exact goodK_mk hlt.1 hlt.2 key
  rw [← h1, ← h2, mayA_kn hgood hn]
  have : mayK (joinL z (natsOf l)) n = true := by
    rw [mayK_iff]; intro i
    cases hm : (joinL z (natsOf l)).m.testBit i
    · rw [(hb i).2.1 hm]
      have : n.testBit i = z.testBit i := by
        apply Classical.byContradiction
        intro hne
        have := (hb i).1.2 ⟨n, hin, hne⟩
        rw [this] at hm; cases hm
      rw [this]; simp
    · rw [(hb i).2.2 hm]; simp
  rw [this]
set_option maxRecDepth 100000 in
set_option maxHeartbeats 64000000 in
theorem lawBits (a0 : Option Addr) (len0 cap0 : Nat) (a1 : Option Addr) (len1 cap1 : Nat) (w : World) (h0 : Hid (Bytes w a0 len0)) (h1 : Hid (Bytes w a1 len1)) (HN : Hid (NibTab w)) :
    Calls Tryd.prog 4 #[.slice a0 len0 cap0, .slice a1 len1 cap1] w fun e w' => e = .returned (.bool true) ∧ Below w.heap.size w w' := by
  by_cases hbig : (1048576 : Int) < wrap64 ((len0 : Int) + (len1 : Int))
  · go_enter Tryd.func4, Tryd.ntmps4
    go_wp2
    go_ret
    exact ⟨rfl, Below.refl _ _⟩
  have hdec : decide ((1048576 : Int) < wrap64 ((len0 : Int) + (len1 : Int))) = false := decide_eq_false hbig
  clear hbig
  go_enter Tryd.func4, Tryd.ntmps4
  go_wp2_with fail
  refine (drawMeetK_any a0 len0 cap0 _ h0).mono ?_
  rintro e v1 ⟨al, ah, bl, bh, rfl, hb⟩
  have D1 := Lib.hid hb
  clear hb
  obtain ⟨ml, hml⟩ : ∃ x : Int, ((meetA al ah bl bh).1.v : Int) = x := ⟨_, rfl⟩
  obtain ⟨mh, hmh⟩ : ∃ x : Int, ((meetA al ah bl bh).1.m : Int) = x := ⟨_, rfl⟩
  obtain ⟨mok, hmok⟩ : ∃ x, (meetA al ah bl bh).2 = x := ⟨_, rfl⟩
  have M1 := Lib.hid hml
  have M2 := Lib.hid hmh
  have M3 := Lib.hid hmok
  clear hml hmh hmok
  obtain ⟨jl, hjl⟩ : ∃ x : Int, ((joinA al ah bl bh).1.v : Int) = x := ⟨_, rfl⟩
  obtain ⟨jh, hjh⟩ : ∃ x : Int, ((joinA al ah bl bh).1.m : Int) = x := ⟨_, rfl⟩
  obtain ⟨jok, hjok⟩ : ∃ x, (joinA al ah bl bh).2 = x := ⟨_, rfl⟩
  have J1 := Lib.hid hjl
  have J2 := Lib.hid hjh
  have J3 := Lib.hid hjok
  clear hjl hjh hjok
  have q0 := neq_kn ml mh ml mh
  simp only [and_self, decide_true, Bool.not_true] at q0
  have q1 := neq_kn jl jh jl jh
  simp only [and_self, decide_true, Bool.not_true] at q1
  have eok : (mok != mok) = false := by simp
  have eok2 : (jok != jok) = false := by simp
  go_wp2_with fail
  have NB := two_newk v1 al ah bl bh
  unfold kO at NB
  replace D1 := Lib.hid (Below.tr D1.out NB.out.2.2)
  have Fa := Lib.hid NB.out.1
  have Fb := Lib.hid NB.out.2.1
  clear NB
  generalize ((v1.alloc (.cells #[.int .i64 al, .int .i64 ah] 24)).alloc (.cells #[.int .i64 bl, .int .i64 bh] 24)) = u1 at Fa Fb D1 ⊢
  refine (meetI_any _ _ _ _ _).mono ?_
  rw [M1.out, M2.out, M3.out]
  rintro e v2 ⟨rfl, hb⟩
  replace Fa := Lib.hid (KB.below Fa.out hb)
  replace Fb := Lib.hid (KB.below Fb.out hb)
  have D2 := Lib.hid (Below.tr D1.out hb)
  clear hb D1
  have ca := Fa.out.c0
  have da := Fa.out.c1
  have za := Fa.out.lt
  have cb := Fb.out.c0
  have db := Fb.out.c1
  have zb := Fb.out.lt
  go_wp2_with fail
  have NB := one_newk v2 ml mh
  unfold kO at NB
  replace Fa := Lib.hid (KB.below Fa.out NB.out.2)
  replace Fb := Lib.hid (KB.below Fb.out NB.out.2)
  replace D2 := Lib.hid (Below.tr D2.out NB.out.2)
  have Fm := Lib.hid NB.out.1
  clear NB
  generalize (v2.alloc (.cells #[.int .i64 ml, .int .i64 mh] 24)) = u2 at Fa Fb Fm D2 ⊢
  refine (meetM_any _ _ _ _ _).mono ?_
  rw [M1.out, M2.out, M3.out]
  rintro e v3 ⟨rfl, hb⟩
  replace Fa := Lib.hid (KB.below Fa.out hb)
  replace Fb := Lib.hid (KB.below Fb.out hb)
  replace Fm := Lib.hid (KB.below Fm.out hb)
  have D3 := Lib.hid (Below.tr D2.out hb)
  clear hb D2
  clear ca da za cb db zb
  have ca := Fa.out.c0
  have da := Fa.out.c1
  have za := Fa.out.lt
  have cb := Fb.out.c0
  have db := Fb.out.c1
  have zb := Fb.out.lt
  have cm := Fm.out.c0
  have dm := Fm.out.c1
  have zm := Fm.out.lt
  go_wp2_with fail
  have NB := one_newk v3 ml mh
  unfold kO at NB
  replace Fa := Lib.hid (KB.below Fa.out NB.out.2)
  replace Fb := Lib.hid (KB.below Fb.out NB.out.2)
  replace Fm := Lib.hid (KB.below Fm.out NB.out.2)
  replace D3 := Lib.hid (Below.tr D3.out NB.out.2)
  have Fw := Lib.hid NB.out.1
  clear NB
  generalize (v3.alloc (.cells #[.int .i64 ml, .int .i64 mh] 24)) = u3 at Fa Fb Fm Fw D3 ⊢
  refine (joinI_any _ _ _ _ _).mono ?_
  rw [J1.out, J2.out, J3.out]
  rintro e v4 ⟨rfl, hb⟩
  replace Fa := Lib.hid (KB.below Fa.out hb)
  replace Fb := Lib.hid (KB.below Fb.out hb)
  replace Fm := Lib.hid (KB.below Fm.out hb)
  replace Fw := Lib.hid (KB.below Fw.out hb)
  have D4 := Lib.hid (Below.tr D3.out hb)
  clear hb D3
  clear ca da za cb db zb cm dm zm
  have ca := Fa.out.c0
  have da := Fa.out.c1
  have za := Fa.out.lt
  have cb := Fb.out.c0
  have db := Fb.out.c1
  have zb := Fb.out.lt
  have cm := Fm.out.c0
  have dm := Fm.out.c1
  have zm := Fm.out.lt
  have cw := Fw.out.c0
  have dw := Fw.out.c1
  have zw := Fw.out.lt
  go_wp2_with fail
  have NB := one_newk v4 jl jh
  unfold kO at NB
  replace Fa := Lib.hid (KB.below Fa.out NB.out.2)
  replace Fb := Lib.hid (KB.below Fb.out NB.out.2)
  replace Fm := Lib.hid (KB.below Fm.out NB.out.2)
  replace Fw := Lib.hid (KB.below Fw.out NB.out.2)
  replace D4 := Lib.hid (Below.tr D4.out NB.out.2)
  have Fj := Lib.hid NB.out.1
  clear NB
  generalize (v4.alloc (.cells #[.int .i64 jl, .int .i64 jh] 24)) = u4 at Fa Fb Fm Fw Fj D4 ⊢
  refine (joinM_any _ _ _ _ _).mono ?_
  rw [J1.out, J2.out, J3.out]
  rintro e v5 ⟨rfl, hb⟩
  replace Fa := Lib.hid (KB.below Fa.out hb)
  replace Fb := Lib.hid (KB.below Fb.out hb)
  replace Fm := Lib.hid (KB.below Fm.out hb)
  replace Fw := Lib.hid (KB.below Fw.out hb)
  replace Fj := Lib.hid (KB.below Fj.out hb)
  have D5 := Lib.hid (Below.tr D4.out hb)
  clear hb D4
  clear ca da za cb db zb cm dm zm cw dw zw
  have ca := Fa.out.c0
  have da := Fa.out.c1
  have za := Fa.out.lt
  have cb := Fb.out.c0
  have db := Fb.out.c1
  have zb := Fb.out.lt
  have cm := Fm.out.c0
  have dm := Fm.out.c1
  have zm := Fm.out.lt
  have cw := Fw.out.c0
  have dw := Fw.out.c1
  have zw := Fw.out.lt
  have cj := Fj.out.c0
  have dj := Fj.out.c1
  have zj := Fj.out.lt
  have NB := one_newk v5 jl jh
  unfold kO at NB
  cases jok
  · go_wp2_with fail
    replace D5 := Lib.hid (Below.tr D5.out NB.out.2)
    replace Fa := Lib.hid (KB.below Fa.out NB.out.2)
    replace Fb := Lib.hid (KB.below Fb.out NB.out.2)
    replace Fm := Lib.hid (KB.below Fm.out NB.out.2)
    replace Fw := Lib.hid (KB.below Fw.out NB.out.2)
    replace Fj := Lib.hid (KB.below Fj.out NB.out.2)
    clear NB q0 q1 eok eok2 ca da za cb db zb cm dm zm cw dw zw cj dj zj
    generalize (v5.alloc (.cells #[.int .i64 jl, .int .i64 jh] 24)) = v6 at Fa Fb Fm Fw Fj D5 ⊢
    clear Fa Fb Fm Fw Fj
    refine (drawOfK_any a1 len1 cap1 _ (Lib.hid (h1.out.below D5.out))).mono ?_
    rintro e t1 ⟨L, A, cL, rfl, hLL, hown, hb⟩
    have E := Lib.hid (Below.tr D5.out hb)
    have O := Lib.hid (own_base hown (Nat.zero_le _))
    clear hb hown
    obtain ⟨nL, hnL⟩ : ∃ n, L.length = n := ⟨_, rfl⟩
    rw [hnL] at hLL O ⊢
    have HL := Lib.hid hnL
    clear hnL
    obtain ⟨kl, hkl⟩ : ∃ x : Int, ((ofA L).1.v : Int) = x := ⟨_, rfl⟩
    obtain ⟨kh, hkh⟩ : ∃ x : Int, ((ofA L).1.m : Int) = x := ⟨_, rfl⟩
    obtain ⟨kok, hkok⟩ : ∃ x, (ofA L).2 = x := ⟨_, rfl⟩
    have K1 := Lib.hid hkl
    have K2 := Lib.hid hkh
    have K3 := Lib.hid hkok
    clear hkl hkh hkok
    have q2 := neq_kn kl kh kl kh
    simp only [and_self, decide_true, Bool.not_true] at q2
    have eok3 : (kok != kok) = false := by simp
    go_wp2_with fail
    refine (ofI_any _ _ _ L _ (Lib.hid (own_ilies O.out)) HL (by omega)).mono ?_
    rw [K1.out, K2.out, K3.out]
    rintro e t2 ⟨rfl, hb⟩
    replace O := Lib.hid (own_below O.out hb)
    replace E := Lib.hid (Below.tr E.out hb)
    clear hb
    go_wp2_with fail
    have NB := one_newk t2 kl kh
    unfold kO at NB
    replace O := Lib.hid (own_below O.out NB.out.2)
    replace E := Lib.hid (Below.tr E.out NB.out.2)
    have Fk := Lib.hid NB.out.1
    clear NB
    generalize (t2.alloc (.cells #[.int .i64 kl, .int .i64 kh] 24)) = t3 at  Fk O E ⊢
    refine (ofM_any _ _ _ L _ (Lib.hid (own_ilies O.out)) HL (by omega)).mono ?_
    rw [K1.out, K2.out, K3.out]
    rintro e t4 ⟨rfl, hb⟩
    replace Fk := Lib.hid (KB.below Fk.out hb)
    replace O := Lib.hid (own_below O.out hb)
    replace E := Lib.hid (Below.tr E.out hb)
    clear hb
    have ck := Fk.out.c0
    have dk := Fk.out.c1
    have zk := Fk.out.lt
    have NB := one_newk t4 kl kh
    unfold kO at NB
    cases kok
    · go_wp2_with fail
      replace Fk := Lib.hid (KB.below Fk.out NB.out.2)
      replace O := Lib.hid (own_below O.out NB.out.2)
      replace E := Lib.hid (Below.tr E.out NB.out.2)
      clear NB ck dk zk q2
      generalize (t4.alloc (.cells #[.int .i64 kl, .int .i64 kh] 24)) = t5 at Fk O E ⊢
      go_loopw [200] (fun i wr => ∃ k : Nat, k ≤ nL ∧ i = .int .i64 k ∧ KB wr t2.heap.size kl kh ∧ wr.ownsRow 0 3 1 (.slice A nL cL) nL (L.map (Value.int .i64)) ∧ Below w.heap.size w wr) (fun i _ => nL - (intOf i).toNat)
      case atStart => exact ⟨0, Nat.zero_le _, rfl, Fk.out, O.out, E.out⟩
      case round =>
        obtain ⟨k, hk, rfl, fk, fo, fe⟩ := hrel
        have RK := Lib.hid fk
        have RO := Lib.hid fo
        have RE := Lib.hid fe
        clear fk fo fe
        by_cases hlt : k < nL
        · obtain ⟨x, hx⟩ : ∃ x, L[k]? = some x := ⟨_, List.getElem?_eq_getElem (by have := HL.out; omega)⟩
          obtain ⟨bx, ox, ex, hbl, hcx⟩ := (own_ilies RO.out) k x hx
          subst ex
          clear hx
          go_wp2
          go_roundw
          case rel => exact ⟨k + 1, by omega, by go_num, RK.out, RO.out, RE.out⟩
          case measure => simp [intOf]; omega
        · obtain rfl : k = nL := by omega
          go_wp2_with fail
          refine (drawJoinK_any a1 len1 cap1 _ (Lib.hid (h1.out.below RE.out))).mono ?_
          rintro e s1 ⟨el, eh, fl, fh, rfl, hb⟩
          have E := Lib.hid (Below.tr RE.out hb)
          clear hb
          obtain ⟨gl, hgl⟩ : ∃ x : Int, ((joinA el eh fl fh).1.v : Int) = x := ⟨_, rfl⟩
          obtain ⟨gh, hgh⟩ : ∃ x : Int, ((joinA el eh fl fh).1.m : Int) = x := ⟨_, rfl⟩
          obtain ⟨gok, hgok⟩ : ∃ x, (joinA el eh fl fh).2 = x := ⟨_, rfl⟩
          have G1 := Lib.hid hgl
          have G2 := Lib.hid hgh
          have G3 := Lib.hid hgok
          clear hgl hgh hgok
          have q3 := eql_kn gl gh gl gh
          simp only [and_self, decide_true] at q3
          have eok4 : (gok == gok) = true := by simp
          go_wp2_with fail
          have NB2 := two_newk s1 el eh fl fh
          unfold kO at NB2
          have Fe := Lib.hid NB2.out.1
          have Ff := Lib.hid NB2.out.2.1
          replace E := Lib.hid (Below.tr E.out NB2.out.2.2)
          clear NB2
          generalize ((s1.alloc (.cells #[.int .i64 el, .int .i64 eh] 24)).alloc (.cells #[.int .i64 fl, .int .i64 fh] 24)) = s2 at Fe Ff E ⊢
          refine (joinI_any _ _ _ _ _).mono ?_
          rw [G1.out, G2.out, G3.out]
          rintro e s3 ⟨rfl, hb⟩
          replace Fe := Lib.hid (KB.below Fe.out hb)
          have ce := Fe.out.c0
          have de := Fe.out.c1
          have ze := Fe.out.lt
          replace Ff := Lib.hid (KB.below Ff.out hb)
          have cf := Ff.out.c0
          have df := Ff.out.c1
          have zf := Ff.out.lt
          replace E := Lib.hid (Below.tr E.out hb)
          clear hb
          go_wp2_with fail
          have NB2 := one_newk s3 gl gh
          unfold kO at NB2
          have Fg := Lib.hid NB2.out.1
          replace E := Lib.hid (Below.tr E.out NB2.out.2)
          clear NB2 ce de cf df
          generalize (s3.alloc (.cells #[.int .i64 gl, .int .i64 gh] 24)) = s4 at Fg E ⊢
          refine (joinM_any _ _ _ _ _).mono ?_
          rw [G1.out, G2.out, G3.out]
          rintro e s5 ⟨rfl, hb⟩
          replace Fg := Lib.hid (KB.below Fg.out hb)
          have cg := Fg.out.c0
          have dg := Fg.out.c1
          have zg := Fg.out.lt
          replace E := Lib.hid (Below.tr E.out hb)
          clear hb
          go_wp2
          go_ret
          exact ⟨rfl, Below.tr E.out (below1 _ _)⟩
    · go_wp2_with fail
      replace Fk := Lib.hid (KB.below Fk.out NB.out.2)
      replace O := Lib.hid (own_below O.out NB.out.2)
      replace E := Lib.hid (Below.tr E.out NB.out.2)
      clear NB ck dk zk q2
      generalize (t4.alloc (.cells #[.int .i64 kl, .int .i64 kh] 24)) = t5 at Fk O E ⊢
      have HR := Lib.hid (of_round K3.out K1.out K2.out)
      go_loopw [200] (fun i wr => ∃ k : Nat, k ≤ nL ∧ i = .int .i64 k ∧ KB wr t2.heap.size kl kh ∧ wr.ownsRow 0 3 1 (.slice A nL cL) nL (L.map (Value.int .i64)) ∧ Below w.heap.size w wr) (fun i _ => nL - (intOf i).toNat)
      case atStart => exact ⟨0, Nat.zero_le _, rfl, Fk.out, O.out, E.out⟩
      case round =>
        obtain ⟨k, hk, rfl, fk, fo, fe⟩ := hrel
        have RK := Lib.hid fk
        have RO := Lib.hid fo
        have RE := Lib.hid fe
        clear fk fo fe
        by_cases hlt : k < nL
        · obtain ⟨x, hx⟩ : ∃ x, L[k]? = some x := ⟨_, List.getElem?_eq_getElem (by have := HL.out; omega)⟩
          obtain ⟨bx, ox, ex, hbl, hcx⟩ := (own_ilies RO.out) k x hx
          subst ex
          have HX := Lib.hid (HR.out x (List.mem_of_getElem? hx))
          clear hx
          have ck := RK.out.c0
          have dk := RK.out.c1
          go_wp2_with fail
          refine (mayI_any _ _ _ _).mono ?_
          rw [HX.out]
          rintro e r1 ⟨rfl, hb⟩
          replace RK := Lib.hid (KB.below RK.out hb)
          replace RO := Lib.hid (own_below RO.out hb)
          replace RE := Lib.hid (Below.tr RE.out hb)
          clear hb
          go_wp2
          go_roundw
          case rel => exact ⟨k + 1, by omega, by go_num, RK.out, RO.out, RE.out⟩
          case measure => simp [intOf]; omega
        · obtain rfl : k = nL := by omega
          go_wp2_with fail
          refine (drawJoinK_any a1 len1 cap1 _ (Lib.hid (h1.out.below RE.out))).mono ?_
          rintro e s1 ⟨el, eh, fl, fh, rfl, hb⟩
          have E := Lib.hid (Below.tr RE.out hb)
          clear hb
          obtain ⟨gl, hgl⟩ : ∃ x : Int, ((joinA el eh fl fh).1.v : Int) = x := ⟨_, rfl⟩
          obtain ⟨gh, hgh⟩ : ∃ x : Int, ((joinA el eh fl fh).1.m : Int) = x := ⟨_, rfl⟩
          obtain ⟨gok, hgok⟩ : ∃ x, (joinA el eh fl fh).2 = x := ⟨_, rfl⟩
          have G1 := Lib.hid hgl
          have G2 := Lib.hid hgh
          have G3 := Lib.hid hgok
          clear hgl hgh hgok
          have q3 := eql_kn gl gh gl gh
          simp only [and_self, decide_true] at q3
          have eok4 : (gok == gok) = true := by simp
          go_wp2_with fail
          have NB2 := two_newk s1 el eh fl fh
          unfold kO at NB2
          have Fe := Lib.hid NB2.out.1
          have Ff := Lib.hid NB2.out.2.1
          replace E := Lib.hid (Below.tr E.out NB2.out.2.2)
          clear NB2
          generalize ((s1.alloc (.cells #[.int .i64 el, .int .i64 eh] 24)).alloc (.cells #[.int .i64 fl, .int .i64 fh] 24)) = s2 at Fe Ff E ⊢
          refine (joinI_any _ _ _ _ _).mono ?_
          rw [G1.out, G2.out, G3.out]
          rintro e s3 ⟨rfl, hb⟩
          replace Fe := Lib.hid (KB.below Fe.out hb)
          have ce := Fe.out.c0
          have de := Fe.out.c1
          have ze := Fe.out.lt
          replace Ff := Lib.hid (KB.below Ff.out hb)
          have cf := Ff.out.c0
          have df := Ff.out.c1
          have zf := Ff.out.lt
          replace E := Lib.hid (Below.tr E.out hb)
          clear hb
          go_wp2_with fail
          have NB2 := one_newk s3 gl gh
          unfold kO at NB2
          have Fg := Lib.hid NB2.out.1
          replace E := Lib.hid (Below.tr E.out NB2.out.2)
          clear NB2 ce de cf df
          generalize (s3.alloc (.cells #[.int .i64 gl, .int .i64 gh] 24)) = s4 at Fg E ⊢
          refine (joinM_any _ _ _ _ _).mono ?_
          rw [G1.out, G2.out, G3.out]
          rintro e s5 ⟨rfl, hb⟩
          replace Fg := Lib.hid (KB.below Fg.out hb)
          have cg := Fg.out.c0
          have dg := Fg.out.c1
          have zg := Fg.out.lt
          replace E := Lib.hid (Below.tr E.out hb)
          clear hb
          go_wp2
          go_ret
          exact ⟨rfl, Below.tr E.out (below1 _ _)⟩
  · obtain ⟨g1, g2, jf⟩ := join_factsB J3.out
    have GJ := bits_good J1.out J2.out J3.out M1.out M2.out
    have GA := Lib.hid g1
    have GB := Lib.hid g2
    have G3 := Lib.hid GJ.1
    have G4 := Lib.hid GJ.2
    have K1 := Lib.hid (gK_knB g1).1
    have bn := pow_small (pcF_le 16 (kn al ah).m)
    obtain ⟨NI, hNI⟩ : ∃ x : Int, (waysN (kn al ah) : Int) = x := ⟨_, rfl⟩
    have n1 : 1 ≤ NI := by rw [← hNI]; unfold waysN; omega
    have n2 : NI ≤ 65536 := by rw [← hNI]; unfold waysN; omega
    have W1 : Hid (waysA al ah = (NI, true)) := Lib.hid (by rw [waysA_knB g1, hNI])
    have BR : Hid (∀ i : Int, 0 ≤ i → i < NI → ∃ (x : Int) (q : Bool), numA al ah i = (x, true) ∧ mayA jl jh x = (true, true) ∧ mayA bl bh x = (q, true) ∧ (mok = false → q = false) ∧ (mok = true → mayA ml mh x = (q, true))) := Lib.hid (fun i h h' => bits_round g1 g2 J1.out J2.out J3.out M1.out M2.out M3.out i h (by rw [hNI]; exact h'))
    clear g1 g2 jf GJ bn hNI
    go_wp2_with fail
    replace D5 := Lib.hid (Below.tr D5.out NB.out.2)
    replace Fa := Lib.hid (KB.below Fa.out NB.out.2)
    replace Fb := Lib.hid (KB.below Fb.out NB.out.2)
    replace Fm := Lib.hid (KB.below Fm.out NB.out.2)
    replace Fw := Lib.hid (KB.below Fw.out NB.out.2)
    replace Fj := Lib.hid (KB.below Fj.out NB.out.2)
    clear NB q0 q1 eok eok2 ca da za cb db zb cm dm zm cw dw zw cj dj zj
    generalize (v5.alloc (.cells #[.int .i64 jl, .int .i64 jh] 24)) = v6 at Fa Fb Fm Fw Fj D5 ⊢
    have ca := Fa.out.c0
    have da := Fa.out.c1
    go_wp2_with fail
    have D6 := D5
    clear D5
    refine (waysI_any _ _ _ (Lib.hid (HN.out.bel D6.out))).mono ?_
    rw [W1.out]
    rintro e v7 ⟨rfl, hb⟩
    replace Fa := Lib.hid (KB.below Fa.out hb)
    replace Fb := Lib.hid (KB.below Fb.out hb)
    replace Fm := Lib.hid (KB.below Fm.out hb)
    replace Fw := Lib.hid (KB.below Fw.out hb)
    replace Fj := Lib.hid (KB.below Fj.out hb)
    have D7 := Lib.hid (Below.tr D6.out hb)
    clear hb D6
    clear ca da
    have ca := Fa.out.c0
    have da := Fa.out.c1
    have za := Fa.out.lt
    have cb := Fb.out.c0
    have db := Fb.out.c1
    have zb := Fb.out.lt
    have cm := Fm.out.c0
    have dm := Fm.out.c1
    have zm := Fm.out.lt
    have cj := Fj.out.c0
    have dj := Fj.out.c1
    have zj := Fj.out.lt
    go_wp2_with fail
    refine (goodKI_any _ _ _).mono ?_
    rw [G3.out]
    rintro e v8 ⟨rfl, hb⟩
    replace Fa := Lib.hid (KB.below Fa.out hb)
    replace Fb := Lib.hid (KB.below Fb.out hb)
    replace Fm := Lib.hid (KB.below Fm.out hb)
    replace Fw := Lib.hid (KB.below Fw.out hb)
    replace Fj := Lib.hid (KB.below Fj.out hb)
    have D8 := Lib.hid (Below.tr D7.out hb)
    clear hb D7
    clear ca da za cb db zb cm dm zm cj dj zj
    have ca := Fa.out.c0
    have da := Fa.out.c1
    have za := Fa.out.lt
    have cb := Fb.out.c0
    have db := Fb.out.c1
    have zb := Fb.out.lt
    have cm := Fm.out.c0
    have dm := Fm.out.c1
    have zm := Fm.out.lt
    have cj := Fj.out.c0
    have dj := Fj.out.c1
    have zj := Fj.out.lt
    cases mok
    · skip
      go_wp2_with fail
      clear ca da za cb db zb cm dm zm cj dj zj
      go_loopw [17] (fun i wr => ∃ k : Nat, k ≤ 32 ∧ i = .int .i64 k ∧ KB wr (v1.heap.size) al ah ∧ KB wr (v1.heap.size + 1) bl bh ∧ KB wr (v4.heap.size) jl jh ∧ KB wr (v2.heap.size) ml mh ∧ Below w.heap.size w wr) (fun i _ => 32 - (intOf i).toNat)
      case atStart => exact ⟨0, by omega, rfl, Fa.out, Fb.out, Fj.out, Fm.out, D8.out⟩
      case round =>
        obtain ⟨k, hk, rfl, fa, fb, fj, fm, fd⟩ := hrel
        have Ra := Lib.hid fa
        have Rb := Lib.hid fb
        have Rj := Lib.hid fj
        have Rm := Lib.hid fm
        have RD := Lib.hid fd
        clear fa fb fj fm fd
        by_cases hlt : k < 32
        · have ra := Ra.out.c0
          have ra1 := Ra.out.c1
          have nz : ¬ (NI = 0) := by omega
          go_upto_region 17 with fail
          refine wp_region_held_drew (S := fun W => W.cell? ⟨v1.heap.size, 0, none⟩ = some (.int .i64 al) ∧ W.cell? ⟨v1.heap.size, 1, none⟩ = some (.int .i64 ah)) (by kernel_rfl) ?_ (fun hHeld => ?_)
          · exact ⟨(Ra.out).c0, (Ra.out).c1⟩
          refine wpAnyH_take (i := 0) (v := ?_) rfl (by kernel_rfl) (by kernel_rfl) (by kernel_rfl) (fun _ _ _ h => h) (Or.inl ⟨by rfl, ?_⟩) (by assumption) ?_
          rotate_left
          · intro W hSw
            try dsimp only at hSw
            go_simp
            try with_reducible rfl
          refine wpAnyH_take (i := 1) (v := ?_) rfl (by kernel_rfl) (by kernel_rfl) (by kernel_rfl) (fun _ _ _ h => h) (Or.inl ⟨by rfl, ?_⟩) (by assumption) ?_
          rotate_left
          · intro W hSw
            try dsimp only at hSw
            go_simp
            try with_reducible rfl
          refine wpAnyH_take (i := 3) (v := ?_) rfl (by kernel_rfl) (by kernel_rfl) (by kernel_rfl) (fun _ _ _ h => h) (Or.inl ⟨by rfl, ?_⟩) (by assumption) ?_
          rotate_left
          · intro W hSw
            try dsimp only at hSw
            go_simp
            try with_reducible rfl
          refine wpAnyH_take (i := 6) (v := ?_) rfl (by kernel_rfl) (by kernel_rfl) (by kernel_rfl) (fun _ _ _ h => h) (Or.inl ⟨by rfl, ?_⟩) (by assumption) ?_
          rotate_left
          · intro W hSw
            try dsimp only at hSw
            go_simp
            try with_reducible rfl
          refine wpAnyH_take (i := 4) (v := ?_) rfl (by kernel_rfl) (by kernel_rfl) (by kernel_rfl) (fun _ _ _ h => h) (Or.inl ⟨by rfl, ?_⟩) (by assumption) ?_
          rotate_left
          · intro W hSw
            try dsimp only at hSw
            go_simp
            try with_reducible rfl
          refine wpAnyH_ready (rs := [2]) (by kernel_rfl) (by simp) ?_
          refine AllReadyH.cons rfl (fun K hK => ?_) AllReadyH.nil
          go_simp
          refine (number_any a1 len1 cap1 _ (Lib.hid (h1.out.below (Below.drew RD.out)))).mono ?_
          rintro e v9 ⟨⟨NN, rfl, hNN⟩, rfl⟩
          refine hK.out _ _ (by assumption) (fun hHeld2 => ?_)
          clear hK K
          have n0 : 0 ≤ (NN : Int) + (k : Int) * 31 := by omega
          have n5 : (NN : Int) + (k : Int) * 31 ≤ 2000000 := by omega
          obtain ⟨ix, hix⟩ : ∃ x : Int, ((NN : Int) + (k : Int) * 31) % NI = x := ⟨_, rfl⟩
          have i1 : 0 ≤ ix := by rw [← hix]; exact Int.emod_nonneg _ nz
          have i2 : ix < NI := by rw [← hix]; exact Int.emod_lt_of_pos _ (by omega)
          obtain ⟨x, q, f1, f2, f3, f4, f5⟩ := BR.out ix i1 i2
          have X1 := Lib.hid f1
          have X2 := Lib.hid f2
          have X3 := Lib.hid f3
          have X4 := Lib.hid f4
          have X5 := Lib.hid f5
          clear f1 f2 f3 f4 f5
          have hix2 : ((NN : Int) + (k : Int) * 31).tmod NI = ix := by rw [Int.tmod_eq_emod_of_nonneg n0]; exact hix
          have HIX := Lib.hid hix
          have HIX2 := Lib.hid hix2
          clear hix hix2
          refine wpAnyH_take (i := 5) (v := ?_) rfl (by kernel_rfl) (by kernel_rfl) (by kernel_rfl) (fun _ _ _ h => h) (Or.inl ⟨by rfl, ?_⟩) (by assumption) ?_
          rotate_left
          · intro W hSw
            try dsimp only at hSw
            go_simp
            try with_reducible rfl
          refine wpAnyH_take (i := 7) (v := ?_) rfl (by kernel_rfl) (by kernel_rfl) (by kernel_rfl) (fun _ _ _ h => h) (Or.inl ⟨by rfl, ?_⟩) (by assumption) ?_
          rotate_left
          · intro W hSw
            try dsimp only at hSw
            go_simp
            try with_reducible rfl
          refine wpAnyH_ready (rs := [8]) (by kernel_rfl) (by simp) ?_
          refine AllReadyH.cons rfl (fun K hK => ?_) AllReadyH.nil
          go_simp
          refine (numI_any _ _ _ _ (Lib.hid (HN.out.bel (Below.drew RD.out)))).mono ?_
          (first | rw [show IntKind.i64.wrap ((NN : Int) + IntKind.i64.wrap ((k : Int) * 31)) = (NN : Int) + (k : Int) * 31 by rw [IntKind.wrap_i64, IntKind.wrap_i64]; omega] | skip); (first | rw [HIX2.out] | rw [HIX.out] | skip); rw [X1.out]
          rintro e y1 ⟨rfl, hb⟩
          have Y1 := Lib.hid (Below.tr (Below.drew RD.out) hb)
          have Y1z := Y1.out.size
          have Y1_a := Lib.hid (KB.below (KB.drewn Ra.out) hb)
          have Y1_ax := Y1_a.out.c0
          have Y1_ay := Y1_a.out.c1
          have Y1_af := Y1_a.out.f 0
          have Y1_ah := Y1_a.out.f 1
          have Y1_al := Y1_a.out.lt
          have Y1_b := Lib.hid (KB.below (KB.drewn Rb.out) hb)
          have Y1_bx := Y1_b.out.c0
          have Y1_by := Y1_b.out.c1
          have Y1_bf := Y1_b.out.f 0
          have Y1_bh := Y1_b.out.f 1
          have Y1_bl := Y1_b.out.lt
          have Y1_j := Lib.hid (KB.below (KB.drewn Rj.out) hb)
          have Y1_jx := Y1_j.out.c0
          have Y1_jy := Y1_j.out.c1
          have Y1_jf := Y1_j.out.f 0
          have Y1_jh := Y1_j.out.f 1
          have Y1_jl := Y1_j.out.lt
          have Y1_m := Lib.hid (KB.below (KB.drewn Rm.out) hb)
          have Y1_mx := Y1_m.out.c0
          have Y1_my := Y1_m.out.c1
          have Y1_mf := Y1_m.out.f 0
          have Y1_mh := Y1_m.out.f 1
          have Y1_ml := Y1_m.out.lt
          clear hb
          refine hK.out _ _ ⟨(Y1_a.out).c0, (Y1_a.out).c1⟩ (fun hHeld2 => ?_)
          clear hK K
          refine wpAnyH_take (i := 9) (v := ?_) rfl (by kernel_rfl) (by kernel_rfl) (by kernel_rfl) (fun _ _ _ h => h) (Or.inl ⟨by rfl, ?_⟩) (by assumption) ?_
          rotate_left
          · intro W hSw
            try dsimp only at hSw
            go_simp
            try with_reducible rfl
          refine wpAnyH_take (i := 10) (v := ?_) rfl (by kernel_rfl) (by kernel_rfl) (by kernel_rfl) (fun _ _ _ h => h) (Or.inl ⟨by rfl, ?_⟩) (by assumption) ?_
          rotate_left
          · intro W hSw
            try dsimp only at hSw
            go_simp
            try with_reducible rfl
          refine wpAnyH_take (i := 11) (v := ?_) rfl (by kernel_rfl) (by kernel_rfl) (by kernel_rfl) (fun _ _ _ h => h) (Or.inl ⟨by rfl, ?_⟩) (by assumption) ?_
          rotate_left
          · intro W hSw
            try dsimp only at hSw
            go_simp
            try with_reducible rfl
          refine wpAnyH_ready (rs := [12]) (by kernel_rfl) (by simp) ?_
          refine AllReadyH.cons rfl (fun K hK => ?_) AllReadyH.nil
          go_simp
          refine hK.out _ _ ⟨(Y1_a.out).c0, (Y1_a.out).c1⟩ (fun hHeld2 => ?_)
          clear hK K
          refine wpAnyH_ready (rs := [13]) (by kernel_rfl) (by simp) ?_
          refine AllReadyH.cons rfl (fun K hK => ?_) AllReadyH.nil
          go_simp
          refine hK.out _ _ ⟨(Y1_a.out).c0, (Y1_a.out).c1⟩ (fun hHeld2 => ?_)
          clear hK K
          refine wpAnyH_done (by kernel_rfl) ?_ _
          replace Ra := Lib.hid (Y1_a.out)
          replace Rb := Lib.hid (Y1_b.out)
          replace Rj := Lib.hid (Y1_j.out)
          replace Rm := Lib.hid (Y1_m.out)
          replace RD := Lib.hid (Y1.out)
          have rb := Rb.out.c0
          have rb1 := Rb.out.c1
          have rj := Rj.out.c0
          have rj1 := Rj.out.c1
          have rm := Rm.out.c0
          have rm1 := Rm.out.c1
          go_wp2_with fail
          refine (mayI_any _ _ _ _).mono ?_
          rw [X2.out]
          rintro e z2 ⟨rfl, hb⟩
          replace Ra := Lib.hid (KB.below Ra.out hb)
          replace Rb := Lib.hid (KB.below Rb.out hb)
          replace Rj := Lib.hid (KB.below Rj.out hb)
          replace Rm := Lib.hid (KB.below Rm.out hb)
          replace RD := Lib.hid (Below.tr RD.out hb)
          clear hb
          replace rb := Rb.out.c0
          replace rb1 := Rb.out.c1
          replace rj := Rj.out.c0
          replace rj1 := Rj.out.c1
          replace rm := Rm.out.c0
          replace rm1 := Rm.out.c1
          go_wp2_with fail
          refine (mayI_any _ _ _ _).mono ?_
          rw [X3.out]
          rintro e z3 ⟨rfl, hb⟩
          replace Ra := Lib.hid (KB.below Ra.out hb)
          replace Rb := Lib.hid (KB.below Rb.out hb)
          replace Rj := Lib.hid (KB.below Rj.out hb)
          replace Rm := Lib.hid (KB.below Rm.out hb)
          replace RD := Lib.hid (Below.tr RD.out hb)
          clear hb
          replace rb := Rb.out.c0
          replace rb1 := Rb.out.c1
          replace rj := Rj.out.c0
          replace rj1 := Rj.out.c1
          replace rm := Rm.out.c0
          replace rm1 := Rm.out.c1
          have hq : q = false := X4.out (by first | rfl | trivial)
          subst hq
          go_wp2
          go_roundw
          case rel => exact ⟨k + 1, by omega, by go_num, Ra.out, Rb.out, Rj.out, Rm.out, RD.out⟩
          case measure => simp [intOf]; omega
        · obtain rfl : k = 32 := by omega
          go_wp2_with fail
          clear Ra Rb Rj Rm Fa Fb Fm Fw Fj
          refine (drawOfK_any a1 len1 cap1 _ (Lib.hid (h1.out.below RD.out))).mono ?_
          rintro e t1 ⟨L, A, cL, rfl, hLL, hown, hb⟩
          have E := Lib.hid (Below.tr RD.out hb)
          have O := Lib.hid (own_base hown (Nat.zero_le _))
          clear hb hown
          obtain ⟨nL, hnL⟩ : ∃ n, L.length = n := ⟨_, rfl⟩
          rw [hnL] at hLL O ⊢
          have HL := Lib.hid hnL
          clear hnL
          obtain ⟨kl, hkl⟩ : ∃ x : Int, ((ofA L).1.v : Int) = x := ⟨_, rfl⟩
          obtain ⟨kh, hkh⟩ : ∃ x : Int, ((ofA L).1.m : Int) = x := ⟨_, rfl⟩
          obtain ⟨kok, hkok⟩ : ∃ x, (ofA L).2 = x := ⟨_, rfl⟩
          have K1 := Lib.hid hkl
          have K2 := Lib.hid hkh
          have K3 := Lib.hid hkok
          clear hkl hkh hkok
          have q2 := neq_kn kl kh kl kh
          simp only [and_self, decide_true, Bool.not_true] at q2
          have eok3 : (kok != kok) = false := by simp
          go_wp2_with fail
          refine (ofI_any _ _ _ L _ (Lib.hid (own_ilies O.out)) HL (by omega)).mono ?_
          rw [K1.out, K2.out, K3.out]
          rintro e t2 ⟨rfl, hb⟩
          replace O := Lib.hid (own_below O.out hb)
          replace E := Lib.hid (Below.tr E.out hb)
          clear hb
          go_wp2_with fail
          have NB := one_newk t2 kl kh
          unfold kO at NB
          replace O := Lib.hid (own_below O.out NB.out.2)
          replace E := Lib.hid (Below.tr E.out NB.out.2)
          have Fk := Lib.hid NB.out.1
          clear NB
          generalize (t2.alloc (.cells #[.int .i64 kl, .int .i64 kh] 24)) = t3 at  Fk O E ⊢
          refine (ofM_any _ _ _ L _ (Lib.hid (own_ilies O.out)) HL (by omega)).mono ?_
          rw [K1.out, K2.out, K3.out]
          rintro e t4 ⟨rfl, hb⟩
          replace Fk := Lib.hid (KB.below Fk.out hb)
          replace O := Lib.hid (own_below O.out hb)
          replace E := Lib.hid (Below.tr E.out hb)
          clear hb
          have ck := Fk.out.c0
          have dk := Fk.out.c1
          have zk := Fk.out.lt
          have NB := one_newk t4 kl kh
          unfold kO at NB
          cases kok
          · go_wp2_with fail
            replace Fk := Lib.hid (KB.below Fk.out NB.out.2)
            replace O := Lib.hid (own_below O.out NB.out.2)
            replace E := Lib.hid (Below.tr E.out NB.out.2)
            clear NB ck dk zk q2
            generalize (t4.alloc (.cells #[.int .i64 kl, .int .i64 kh] 24)) = t5 at Fk O E ⊢
            go_loopw [200] (fun i wr => ∃ k : Nat, k ≤ nL ∧ i = .int .i64 k ∧ KB wr t2.heap.size kl kh ∧ wr.ownsRow 0 3 1 (.slice A nL cL) nL (L.map (Value.int .i64)) ∧ Below w.heap.size w wr) (fun i _ => nL - (intOf i).toNat)
            case atStart => exact ⟨0, Nat.zero_le _, rfl, Fk.out, O.out, E.out⟩
            case round =>
              obtain ⟨k, hk, rfl, fk, fo, fe⟩ := hrel
              have RK := Lib.hid fk
              have RO := Lib.hid fo
              have RE := Lib.hid fe
              clear fk fo fe
              by_cases hlt : k < nL
              · obtain ⟨x, hx⟩ : ∃ x, L[k]? = some x := ⟨_, List.getElem?_eq_getElem (by have := HL.out; omega)⟩
                obtain ⟨bx, ox, ex, hbl, hcx⟩ := (own_ilies RO.out) k x hx
                subst ex
                clear hx
                go_wp2
                go_roundw
                case rel => exact ⟨k + 1, by omega, by go_num, RK.out, RO.out, RE.out⟩
                case measure => simp [intOf]; omega
              · obtain rfl : k = nL := by omega
                go_wp2_with fail
                refine (drawJoinK_any a1 len1 cap1 _ (Lib.hid (h1.out.below RE.out))).mono ?_
                rintro e s1 ⟨el, eh, fl, fh, rfl, hb⟩
                have E := Lib.hid (Below.tr RE.out hb)
                clear hb
                obtain ⟨gl, hgl⟩ : ∃ x : Int, ((joinA el eh fl fh).1.v : Int) = x := ⟨_, rfl⟩
                obtain ⟨gh, hgh⟩ : ∃ x : Int, ((joinA el eh fl fh).1.m : Int) = x := ⟨_, rfl⟩
                obtain ⟨gok, hgok⟩ : ∃ x, (joinA el eh fl fh).2 = x := ⟨_, rfl⟩
                have G1 := Lib.hid hgl
                have G2 := Lib.hid hgh
                have G3 := Lib.hid hgok
                clear hgl hgh hgok
                have q3 := eql_kn gl gh gl gh
                simp only [and_self, decide_true] at q3
                have eok4 : (gok == gok) = true := by simp
                go_wp2_with fail
                have NB2 := two_newk s1 el eh fl fh
                unfold kO at NB2
                have Fe := Lib.hid NB2.out.1
                have Ff := Lib.hid NB2.out.2.1
                replace E := Lib.hid (Below.tr E.out NB2.out.2.2)
                clear NB2
                generalize ((s1.alloc (.cells #[.int .i64 el, .int .i64 eh] 24)).alloc (.cells #[.int .i64 fl, .int .i64 fh] 24)) = s2 at Fe Ff E ⊢
                refine (joinI_any _ _ _ _ _).mono ?_
                rw [G1.out, G2.out, G3.out]
                rintro e s3 ⟨rfl, hb⟩
                replace Fe := Lib.hid (KB.below Fe.out hb)
                have ce := Fe.out.c0
                have de := Fe.out.c1
                have ze := Fe.out.lt
                replace Ff := Lib.hid (KB.below Ff.out hb)
                have cf := Ff.out.c0
                have df := Ff.out.c1
                have zf := Ff.out.lt
                replace E := Lib.hid (Below.tr E.out hb)
                clear hb
                go_wp2_with fail
                have NB2 := one_newk s3 gl gh
                unfold kO at NB2
                have Fg := Lib.hid NB2.out.1
                replace E := Lib.hid (Below.tr E.out NB2.out.2)
                clear NB2 ce de cf df
                generalize (s3.alloc (.cells #[.int .i64 gl, .int .i64 gh] 24)) = s4 at Fg E ⊢
                refine (joinM_any _ _ _ _ _).mono ?_
                rw [G1.out, G2.out, G3.out]
                rintro e s5 ⟨rfl, hb⟩
                replace Fg := Lib.hid (KB.below Fg.out hb)
                have cg := Fg.out.c0
                have dg := Fg.out.c1
                have zg := Fg.out.lt
                replace E := Lib.hid (Below.tr E.out hb)
                clear hb
                go_wp2
                go_ret
                exact ⟨rfl, Below.tr E.out (below1 _ _)⟩
          · go_wp2_with fail
            replace Fk := Lib.hid (KB.below Fk.out NB.out.2)
            replace O := Lib.hid (own_below O.out NB.out.2)
            replace E := Lib.hid (Below.tr E.out NB.out.2)
            clear NB ck dk zk q2
            generalize (t4.alloc (.cells #[.int .i64 kl, .int .i64 kh] 24)) = t5 at Fk O E ⊢
            have HR := Lib.hid (of_round K3.out K1.out K2.out)
            go_loopw [200] (fun i wr => ∃ k : Nat, k ≤ nL ∧ i = .int .i64 k ∧ KB wr t2.heap.size kl kh ∧ wr.ownsRow 0 3 1 (.slice A nL cL) nL (L.map (Value.int .i64)) ∧ Below w.heap.size w wr) (fun i _ => nL - (intOf i).toNat)
            case atStart => exact ⟨0, Nat.zero_le _, rfl, Fk.out, O.out, E.out⟩
            case round =>
              obtain ⟨k, hk, rfl, fk, fo, fe⟩ := hrel
              have RK := Lib.hid fk
              have RO := Lib.hid fo
              have RE := Lib.hid fe
              clear fk fo fe
              by_cases hlt : k < nL
              · obtain ⟨x, hx⟩ : ∃ x, L[k]? = some x := ⟨_, List.getElem?_eq_getElem (by have := HL.out; omega)⟩
                obtain ⟨bx, ox, ex, hbl, hcx⟩ := (own_ilies RO.out) k x hx
                subst ex
                have HX := Lib.hid (HR.out x (List.mem_of_getElem? hx))
                clear hx
                have ck := RK.out.c0
                have dk := RK.out.c1
                go_wp2_with fail
                refine (mayI_any _ _ _ _).mono ?_
                rw [HX.out]
                rintro e r1 ⟨rfl, hb⟩
                replace RK := Lib.hid (KB.below RK.out hb)
                replace RO := Lib.hid (own_below RO.out hb)
                replace RE := Lib.hid (Below.tr RE.out hb)
                clear hb
                go_wp2
                go_roundw
                case rel => exact ⟨k + 1, by omega, by go_num, RK.out, RO.out, RE.out⟩
                case measure => simp [intOf]; omega
              · obtain rfl : k = nL := by omega
                go_wp2_with fail
                refine (drawJoinK_any a1 len1 cap1 _ (Lib.hid (h1.out.below RE.out))).mono ?_
                rintro e s1 ⟨el, eh, fl, fh, rfl, hb⟩
                have E := Lib.hid (Below.tr RE.out hb)
                clear hb
                obtain ⟨gl, hgl⟩ : ∃ x : Int, ((joinA el eh fl fh).1.v : Int) = x := ⟨_, rfl⟩
                obtain ⟨gh, hgh⟩ : ∃ x : Int, ((joinA el eh fl fh).1.m : Int) = x := ⟨_, rfl⟩
                obtain ⟨gok, hgok⟩ : ∃ x, (joinA el eh fl fh).2 = x := ⟨_, rfl⟩
                have G1 := Lib.hid hgl
                have G2 := Lib.hid hgh
                have G3 := Lib.hid hgok
                clear hgl hgh hgok
                have q3 := eql_kn gl gh gl gh
                simp only [and_self, decide_true] at q3
                have eok4 : (gok == gok) = true := by simp
                go_wp2_with fail
                have NB2 := two_newk s1 el eh fl fh
                unfold kO at NB2
                have Fe := Lib.hid NB2.out.1
                have Ff := Lib.hid NB2.out.2.1
                replace E := Lib.hid (Below.tr E.out NB2.out.2.2)
                clear NB2
                generalize ((s1.alloc (.cells #[.int .i64 el, .int .i64 eh] 24)).alloc (.cells #[.int .i64 fl, .int .i64 fh] 24)) = s2 at Fe Ff E ⊢
                refine (joinI_any _ _ _ _ _).mono ?_
                rw [G1.out, G2.out, G3.out]
                rintro e s3 ⟨rfl, hb⟩
                replace Fe := Lib.hid (KB.below Fe.out hb)
                have ce := Fe.out.c0
                have de := Fe.out.c1
                have ze := Fe.out.lt
                replace Ff := Lib.hid (KB.below Ff.out hb)
                have cf := Ff.out.c0
                have df := Ff.out.c1
                have zf := Ff.out.lt
                replace E := Lib.hid (Below.tr E.out hb)
                clear hb
                go_wp2_with fail
                have NB2 := one_newk s3 gl gh
                unfold kO at NB2
                have Fg := Lib.hid NB2.out.1
                replace E := Lib.hid (Below.tr E.out NB2.out.2)
                clear NB2 ce de cf df
                generalize (s3.alloc (.cells #[.int .i64 gl, .int .i64 gh] 24)) = s4 at Fg E ⊢
                refine (joinM_any _ _ _ _ _).mono ?_
                rw [G1.out, G2.out, G3.out]
                rintro e s5 ⟨rfl, hb⟩
                replace Fg := Lib.hid (KB.below Fg.out hb)
                have cg := Fg.out.c0
                have dg := Fg.out.c1
                have zg := Fg.out.lt
                replace E := Lib.hid (Below.tr E.out hb)
                clear hb
                go_wp2
                go_ret
                exact ⟨rfl, Below.tr E.out (below1 _ _)⟩
    · skip
      go_wp2_with fail
      have G5 := Lib.hid (G4.out M3.out)
      refine (goodKI_any _ _ _).mono ?_
      rw [G5.out]
      rintro e v9 ⟨rfl, hb⟩
      replace Fa := Lib.hid (KB.below Fa.out hb)
      replace Fb := Lib.hid (KB.below Fb.out hb)
      replace Fm := Lib.hid (KB.below Fm.out hb)
      replace Fw := Lib.hid (KB.below Fw.out hb)
      replace Fj := Lib.hid (KB.below Fj.out hb)
      have D9 := Lib.hid (Below.tr D8.out hb)
      clear hb D8
      clear ca da za cb db zb cm dm zm cj dj zj
      have ca := Fa.out.c0
      have da := Fa.out.c1
      have za := Fa.out.lt
      have cb := Fb.out.c0
      have db := Fb.out.c1
      have zb := Fb.out.lt
      have cm := Fm.out.c0
      have dm := Fm.out.c1
      have zm := Fm.out.lt
      have cj := Fj.out.c0
      have dj := Fj.out.c1
      have zj := Fj.out.lt
      go_wp2_with fail
      clear ca da za cb db zb cm dm zm cj dj zj
      go_loopw [17] (fun i wr => ∃ k : Nat, k ≤ 32 ∧ i = .int .i64 k ∧ KB wr (v1.heap.size) al ah ∧ KB wr (v1.heap.size + 1) bl bh ∧ KB wr (v4.heap.size) jl jh ∧ KB wr (v2.heap.size) ml mh ∧ Below w.heap.size w wr) (fun i _ => 32 - (intOf i).toNat)
      case atStart => exact ⟨0, by omega, rfl, Fa.out, Fb.out, Fj.out, Fm.out, D9.out⟩
      case round =>
        obtain ⟨k, hk, rfl, fa, fb, fj, fm, fd⟩ := hrel
        have Ra := Lib.hid fa
        have Rb := Lib.hid fb
        have Rj := Lib.hid fj
        have Rm := Lib.hid fm
        have RD := Lib.hid fd
        clear fa fb fj fm fd
        by_cases hlt : k < 32
        · have ra := Ra.out.c0
          have ra1 := Ra.out.c1
          have nz : ¬ (NI = 0) := by omega
          go_upto_region 17 with fail
          refine wp_region_held_drew (S := fun W => W.cell? ⟨v1.heap.size, 0, none⟩ = some (.int .i64 al) ∧ W.cell? ⟨v1.heap.size, 1, none⟩ = some (.int .i64 ah)) (by kernel_rfl) ?_ (fun hHeld => ?_)
          · exact ⟨(Ra.out).c0, (Ra.out).c1⟩
          refine wpAnyH_take (i := 0) (v := ?_) rfl (by kernel_rfl) (by kernel_rfl) (by kernel_rfl) (fun _ _ _ h => h) (Or.inl ⟨by rfl, ?_⟩) (by assumption) ?_
          rotate_left
          · intro W hSw
            try dsimp only at hSw
            go_simp
            try with_reducible rfl
          refine wpAnyH_take (i := 1) (v := ?_) rfl (by kernel_rfl) (by kernel_rfl) (by kernel_rfl) (fun _ _ _ h => h) (Or.inl ⟨by rfl, ?_⟩) (by assumption) ?_
          rotate_left
          · intro W hSw
            try dsimp only at hSw
            go_simp
            try with_reducible rfl
          refine wpAnyH_take (i := 3) (v := ?_) rfl (by kernel_rfl) (by kernel_rfl) (by kernel_rfl) (fun _ _ _ h => h) (Or.inl ⟨by rfl, ?_⟩) (by assumption) ?_
          rotate_left
          · intro W hSw
            try dsimp only at hSw
            go_simp
            try with_reducible rfl
          refine wpAnyH_take (i := 6) (v := ?_) rfl (by kernel_rfl) (by kernel_rfl) (by kernel_rfl) (fun _ _ _ h => h) (Or.inl ⟨by rfl, ?_⟩) (by assumption) ?_
          rotate_left
          · intro W hSw
            try dsimp only at hSw
            go_simp
            try with_reducible rfl
          refine wpAnyH_take (i := 4) (v := ?_) rfl (by kernel_rfl) (by kernel_rfl) (by kernel_rfl) (fun _ _ _ h => h) (Or.inl ⟨by rfl, ?_⟩) (by assumption) ?_
          rotate_left
          · intro W hSw
            try dsimp only at hSw
            go_simp
            try with_reducible rfl
          refine wpAnyH_ready (rs := [2]) (by kernel_rfl) (by simp) ?_
          refine AllReadyH.cons rfl (fun K hK => ?_) AllReadyH.nil
          go_simp
          refine (number_any a1 len1 cap1 _ (Lib.hid (h1.out.below (Below.drew RD.out)))).mono ?_
          rintro e v9 ⟨⟨NN, rfl, hNN⟩, rfl⟩
          refine hK.out _ _ (by assumption) (fun hHeld2 => ?_)
          clear hK K
          have n0 : 0 ≤ (NN : Int) + (k : Int) * 31 := by omega
          have n5 : (NN : Int) + (k : Int) * 31 ≤ 2000000 := by omega
          obtain ⟨ix, hix⟩ : ∃ x : Int, ((NN : Int) + (k : Int) * 31) % NI = x := ⟨_, rfl⟩
          have i1 : 0 ≤ ix := by rw [← hix]; exact Int.emod_nonneg _ nz
          have i2 : ix < NI := by rw [← hix]; exact Int.emod_lt_of_pos _ (by omega)
          obtain ⟨x, q, f1, f2, f3, f4, f5⟩ := BR.out ix i1 i2
          have X1 := Lib.hid f1
          have X2 := Lib.hid f2
          have X3 := Lib.hid f3
          have X4 := Lib.hid f4
          have X5 := Lib.hid f5
          clear f1 f2 f3 f4 f5
          have hix2 : ((NN : Int) + (k : Int) * 31).tmod NI = ix := by rw [Int.tmod_eq_emod_of_nonneg n0]; exact hix
          have HIX := Lib.hid hix
          have HIX2 := Lib.hid hix2
          clear hix hix2
          refine wpAnyH_take (i := 5) (v := ?_) rfl (by kernel_rfl) (by kernel_rfl) (by kernel_rfl) (fun _ _ _ h => h) (Or.inl ⟨by rfl, ?_⟩) (by assumption) ?_
          rotate_left
          · intro W hSw
            try dsimp only at hSw
            go_simp
            try with_reducible rfl
          refine wpAnyH_take (i := 7) (v := ?_) rfl (by kernel_rfl) (by kernel_rfl) (by kernel_rfl) (fun _ _ _ h => h) (Or.inl ⟨by rfl, ?_⟩) (by assumption) ?_
          rotate_left
          · intro W hSw
            try dsimp only at hSw
            go_simp
            try with_reducible rfl
          refine wpAnyH_ready (rs := [8]) (by kernel_rfl) (by simp) ?_
          refine AllReadyH.cons rfl (fun K hK => ?_) AllReadyH.nil
          go_simp
          refine (numI_any _ _ _ _ (Lib.hid (HN.out.bel (Below.drew RD.out)))).mono ?_
          (first | rw [show IntKind.i64.wrap ((NN : Int) + IntKind.i64.wrap ((k : Int) * 31)) = (NN : Int) + (k : Int) * 31 by rw [IntKind.wrap_i64, IntKind.wrap_i64]; omega] | skip); (first | rw [HIX2.out] | rw [HIX.out] | skip); rw [X1.out]
          rintro e y1 ⟨rfl, hb⟩
          have Y1 := Lib.hid (Below.tr (Below.drew RD.out) hb)
          have Y1z := Y1.out.size
          have Y1_a := Lib.hid (KB.below (KB.drewn Ra.out) hb)
          have Y1_ax := Y1_a.out.c0
          have Y1_ay := Y1_a.out.c1
          have Y1_af := Y1_a.out.f 0
          have Y1_ah := Y1_a.out.f 1
          have Y1_al := Y1_a.out.lt
          have Y1_b := Lib.hid (KB.below (KB.drewn Rb.out) hb)
          have Y1_bx := Y1_b.out.c0
          have Y1_by := Y1_b.out.c1
          have Y1_bf := Y1_b.out.f 0
          have Y1_bh := Y1_b.out.f 1
          have Y1_bl := Y1_b.out.lt
          have Y1_j := Lib.hid (KB.below (KB.drewn Rj.out) hb)
          have Y1_jx := Y1_j.out.c0
          have Y1_jy := Y1_j.out.c1
          have Y1_jf := Y1_j.out.f 0
          have Y1_jh := Y1_j.out.f 1
          have Y1_jl := Y1_j.out.lt
          have Y1_m := Lib.hid (KB.below (KB.drewn Rm.out) hb)
          have Y1_mx := Y1_m.out.c0
          have Y1_my := Y1_m.out.c1
          have Y1_mf := Y1_m.out.f 0
          have Y1_mh := Y1_m.out.f 1
          have Y1_ml := Y1_m.out.lt
          clear hb
          refine hK.out _ _ ⟨(Y1_a.out).c0, (Y1_a.out).c1⟩ (fun hHeld2 => ?_)
          clear hK K
          refine wpAnyH_take (i := 9) (v := ?_) rfl (by kernel_rfl) (by kernel_rfl) (by kernel_rfl) (fun _ _ _ h => h) (Or.inl ⟨by rfl, ?_⟩) (by assumption) ?_
          rotate_left
          · intro W hSw
            try dsimp only at hSw
            go_simp
            try with_reducible rfl
          refine wpAnyH_take (i := 10) (v := ?_) rfl (by kernel_rfl) (by kernel_rfl) (by kernel_rfl) (fun _ _ _ h => h) (Or.inl ⟨by rfl, ?_⟩) (by assumption) ?_
          rotate_left
          · intro W hSw
            try dsimp only at hSw
            go_simp
            try with_reducible rfl
          refine wpAnyH_take (i := 11) (v := ?_) rfl (by kernel_rfl) (by kernel_rfl) (by kernel_rfl) (fun _ _ _ h => h) (Or.inl ⟨by rfl, ?_⟩) (by assumption) ?_
          rotate_left
          · intro W hSw
            try dsimp only at hSw
            go_simp
            try with_reducible rfl
          refine wpAnyH_ready (rs := [12]) (by kernel_rfl) (by simp) ?_
          refine AllReadyH.cons rfl (fun K hK => ?_) AllReadyH.nil
          go_simp
          refine hK.out _ _ ⟨(Y1_a.out).c0, (Y1_a.out).c1⟩ (fun hHeld2 => ?_)
          clear hK K
          refine wpAnyH_ready (rs := [13]) (by kernel_rfl) (by simp) ?_
          refine AllReadyH.cons rfl (fun K hK => ?_) AllReadyH.nil
          go_simp
          refine hK.out _ _ ⟨(Y1_a.out).c0, (Y1_a.out).c1⟩ (fun hHeld2 => ?_)
          clear hK K
          refine wpAnyH_done (by kernel_rfl) ?_ _
          replace Ra := Lib.hid (Y1_a.out)
          replace Rb := Lib.hid (Y1_b.out)
          replace Rj := Lib.hid (Y1_j.out)
          replace Rm := Lib.hid (Y1_m.out)
          replace RD := Lib.hid (Y1.out)
          have rb := Rb.out.c0
          have rb1 := Rb.out.c1
          have rj := Rj.out.c0
          have rj1 := Rj.out.c1
          have rm := Rm.out.c0
          have rm1 := Rm.out.c1
          go_wp2_with fail
          refine (mayI_any _ _ _ _).mono ?_
          rw [X2.out]
          rintro e z2 ⟨rfl, hb⟩
          replace Ra := Lib.hid (KB.below Ra.out hb)
          replace Rb := Lib.hid (KB.below Rb.out hb)
          replace Rj := Lib.hid (KB.below Rj.out hb)
          replace Rm := Lib.hid (KB.below Rm.out hb)
          replace RD := Lib.hid (Below.tr RD.out hb)
          clear hb
          replace rb := Rb.out.c0
          replace rb1 := Rb.out.c1
          replace rj := Rj.out.c0
          replace rj1 := Rj.out.c1
          replace rm := Rm.out.c0
          replace rm1 := Rm.out.c1
          go_wp2_with fail
          refine (mayI_any _ _ _ _).mono ?_
          rw [X3.out]
          rintro e z3 ⟨rfl, hb⟩
          replace Ra := Lib.hid (KB.below Ra.out hb)
          replace Rb := Lib.hid (KB.below Rb.out hb)
          replace Rj := Lib.hid (KB.below Rj.out hb)
          replace Rm := Lib.hid (KB.below Rm.out hb)
          replace RD := Lib.hid (Below.tr RD.out hb)
          clear hb
          replace rb := Rb.out.c0
          replace rb1 := Rb.out.c1
          replace rj := Rj.out.c0
          replace rj1 := Rj.out.c1
          replace rm := Rm.out.c0
          replace rm1 := Rm.out.c1
          have X6 := Lib.hid (X5.out (by first | rfl | trivial))
          cases q
          · go_wp2_with fail
            refine (mayI_any _ _ _ _).mono ?_
            rw [X6.out]
            rintro e z4 ⟨rfl, hb⟩
            replace Ra := Lib.hid (KB.below Ra.out hb)
            replace Rb := Lib.hid (KB.below Rb.out hb)
            replace Rj := Lib.hid (KB.below Rj.out hb)
            replace Rm := Lib.hid (KB.below Rm.out hb)
            replace RD := Lib.hid (Below.tr RD.out hb)
            clear hb
            go_wp2
            go_roundw
            case rel => exact ⟨k + 1, by omega, by go_num, Ra.out, Rb.out, Rj.out, Rm.out, RD.out⟩
            case measure => simp [intOf]; omega
          · go_wp2_with fail
            refine (mayI_any _ _ _ _).mono ?_
            rw [X6.out]
            rintro e z4 ⟨rfl, hb⟩
            replace Ra := Lib.hid (KB.below Ra.out hb)
            replace Rb := Lib.hid (KB.below Rb.out hb)
            replace Rj := Lib.hid (KB.below Rj.out hb)
            replace Rm := Lib.hid (KB.below Rm.out hb)
            replace RD := Lib.hid (Below.tr RD.out hb)
            clear hb
            go_wp2
            go_roundw
            case rel => exact ⟨k + 1, by omega, by go_num, Ra.out, Rb.out, Rj.out, Rm.out, RD.out⟩
            case measure => simp [intOf]; omega
        · obtain rfl : k = 32 := by omega
          go_wp2_with fail
          clear Ra Rb Rj Rm Fa Fb Fm Fw Fj
          refine (drawOfK_any a1 len1 cap1 _ (Lib.hid (h1.out.below RD.out))).mono ?_
          rintro e t1 ⟨L, A, cL, rfl, hLL, hown, hb⟩
          have E := Lib.hid (Below.tr RD.out hb)
          have O := Lib.hid (own_base hown (Nat.zero_le _))
          clear hb hown
          obtain ⟨nL, hnL⟩ : ∃ n, L.length = n := ⟨_, rfl⟩
          rw [hnL] at hLL O ⊢
          have HL := Lib.hid hnL
          clear hnL
          obtain ⟨kl, hkl⟩ : ∃ x : Int, ((ofA L).1.v : Int) = x := ⟨_, rfl⟩
          obtain ⟨kh, hkh⟩ : ∃ x : Int, ((ofA L).1.m : Int) = x := ⟨_, rfl⟩
          obtain ⟨kok, hkok⟩ : ∃ x, (ofA L).2 = x := ⟨_, rfl⟩
          have K1 := Lib.hid hkl
          have K2 := Lib.hid hkh
          have K3 := Lib.hid hkok
          clear hkl hkh hkok
          have q2 := neq_kn kl kh kl kh
          simp only [and_self, decide_true, Bool.not_true] at q2
          have eok3 : (kok != kok) = false := by simp
          go_wp2_with fail
          refine (ofI_any _ _ _ L _ (Lib.hid (own_ilies O.out)) HL (by omega)).mono ?_
          rw [K1.out, K2.out, K3.out]
          rintro e t2 ⟨rfl, hb⟩
          replace O := Lib.hid (own_below O.out hb)
          replace E := Lib.hid (Below.tr E.out hb)
          clear hb
          go_wp2_with fail
          have NB := one_newk t2 kl kh
          unfold kO at NB
          replace O := Lib.hid (own_below O.out NB.out.2)
          replace E := Lib.hid (Below.tr E.out NB.out.2)
          have Fk := Lib.hid NB.out.1
          clear NB
          generalize (t2.alloc (.cells #[.int .i64 kl, .int .i64 kh] 24)) = t3 at  Fk O E ⊢
          refine (ofM_any _ _ _ L _ (Lib.hid (own_ilies O.out)) HL (by omega)).mono ?_
          rw [K1.out, K2.out, K3.out]
          rintro e t4 ⟨rfl, hb⟩
          replace Fk := Lib.hid (KB.below Fk.out hb)
          replace O := Lib.hid (own_below O.out hb)
          replace E := Lib.hid (Below.tr E.out hb)
          clear hb
          have ck := Fk.out.c0
          have dk := Fk.out.c1
          have zk := Fk.out.lt
          have NB := one_newk t4 kl kh
          unfold kO at NB
          cases kok
          · go_wp2_with fail
            replace Fk := Lib.hid (KB.below Fk.out NB.out.2)
            replace O := Lib.hid (own_below O.out NB.out.2)
            replace E := Lib.hid (Below.tr E.out NB.out.2)
            clear NB ck dk zk q2
            generalize (t4.alloc (.cells #[.int .i64 kl, .int .i64 kh] 24)) = t5 at Fk O E ⊢
            go_loopw [200] (fun i wr => ∃ k : Nat, k ≤ nL ∧ i = .int .i64 k ∧ KB wr t2.heap.size kl kh ∧ wr.ownsRow 0 3 1 (.slice A nL cL) nL (L.map (Value.int .i64)) ∧ Below w.heap.size w wr) (fun i _ => nL - (intOf i).toNat)
            case atStart => exact ⟨0, Nat.zero_le _, rfl, Fk.out, O.out, E.out⟩
            case round =>
              obtain ⟨k, hk, rfl, fk, fo, fe⟩ := hrel
              have RK := Lib.hid fk
              have RO := Lib.hid fo
              have RE := Lib.hid fe
              clear fk fo fe
              by_cases hlt : k < nL
              · obtain ⟨x, hx⟩ : ∃ x, L[k]? = some x := ⟨_, List.getElem?_eq_getElem (by have := HL.out; omega)⟩
                obtain ⟨bx, ox, ex, hbl, hcx⟩ := (own_ilies RO.out) k x hx
                subst ex
                clear hx
                go_wp2
                go_roundw
                case rel => exact ⟨k + 1, by omega, by go_num, RK.out, RO.out, RE.out⟩
                case measure => simp [intOf]; omega
              · obtain rfl : k = nL := by omega
                go_wp2_with fail
                refine (drawJoinK_any a1 len1 cap1 _ (Lib.hid (h1.out.below RE.out))).mono ?_
                rintro e s1 ⟨el, eh, fl, fh, rfl, hb⟩
                have E := Lib.hid (Below.tr RE.out hb)
                clear hb
                obtain ⟨gl, hgl⟩ : ∃ x : Int, ((joinA el eh fl fh).1.v : Int) = x := ⟨_, rfl⟩
                obtain ⟨gh, hgh⟩ : ∃ x : Int, ((joinA el eh fl fh).1.m : Int) = x := ⟨_, rfl⟩
                obtain ⟨gok, hgok⟩ : ∃ x, (joinA el eh fl fh).2 = x := ⟨_, rfl⟩
                have G1 := Lib.hid hgl
                have G2 := Lib.hid hgh
                have G3 := Lib.hid hgok
                clear hgl hgh hgok
                have q3 := eql_kn gl gh gl gh
                simp only [and_self, decide_true] at q3
                have eok4 : (gok == gok) = true := by simp
                go_wp2_with fail
                have NB2 := two_newk s1 el eh fl fh
                unfold kO at NB2
                have Fe := Lib.hid NB2.out.1
                have Ff := Lib.hid NB2.out.2.1
                replace E := Lib.hid (Below.tr E.out NB2.out.2.2)
                clear NB2
                generalize ((s1.alloc (.cells #[.int .i64 el, .int .i64 eh] 24)).alloc (.cells #[.int .i64 fl, .int .i64 fh] 24)) = s2 at Fe Ff E ⊢
                refine (joinI_any _ _ _ _ _).mono ?_
                rw [G1.out, G2.out, G3.out]
                rintro e s3 ⟨rfl, hb⟩
                replace Fe := Lib.hid (KB.below Fe.out hb)
                have ce := Fe.out.c0
                have de := Fe.out.c1
                have ze := Fe.out.lt
                replace Ff := Lib.hid (KB.below Ff.out hb)
                have cf := Ff.out.c0
                have df := Ff.out.c1
                have zf := Ff.out.lt
                replace E := Lib.hid (Below.tr E.out hb)
                clear hb
                go_wp2_with fail
                have NB2 := one_newk s3 gl gh
                unfold kO at NB2
                have Fg := Lib.hid NB2.out.1
                replace E := Lib.hid (Below.tr E.out NB2.out.2)
                clear NB2 ce de cf df
                generalize (s3.alloc (.cells #[.int .i64 gl, .int .i64 gh] 24)) = s4 at Fg E ⊢
                refine (joinM_any _ _ _ _ _).mono ?_
                rw [G1.out, G2.out, G3.out]
                rintro e s5 ⟨rfl, hb⟩
                replace Fg := Lib.hid (KB.below Fg.out hb)
                have cg := Fg.out.c0
                have dg := Fg.out.c1
                have zg := Fg.out.lt
                replace E := Lib.hid (Below.tr E.out hb)
                clear hb
                go_wp2
                go_ret
                exact ⟨rfl, Below.tr E.out (below1 _ _)⟩
          · go_wp2_with fail
            replace Fk := Lib.hid (KB.below Fk.out NB.out.2)
            replace O := Lib.hid (own_below O.out NB.out.2)
            replace E := Lib.hid (Below.tr E.out NB.out.2)
            clear NB ck dk zk q2
            generalize (t4.alloc (.cells #[.int .i64 kl, .int .i64 kh] 24)) = t5 at Fk O E ⊢
            have HR := Lib.hid (of_round K3.out K1.out K2.out)
            go_loopw [200] (fun i wr => ∃ k : Nat, k ≤ nL ∧ i = .int .i64 k ∧ KB wr t2.heap.size kl kh ∧ wr.ownsRow 0 3 1 (.slice A nL cL) nL (L.map (Value.int .i64)) ∧ Below w.heap.size w wr) (fun i _ => nL - (intOf i).toNat)
            case atStart => exact ⟨0, Nat.zero_le _, rfl, Fk.out, O.out, E.out⟩
            case round =>
              obtain ⟨k, hk, rfl, fk, fo, fe⟩ := hrel
              have RK := Lib.hid fk
              have RO := Lib.hid fo
              have RE := Lib.hid fe
              clear fk fo fe
              by_cases hlt : k < nL
              · obtain ⟨x, hx⟩ : ∃ x, L[k]? = some x := ⟨_, List.getElem?_eq_getElem (by have := HL.out; omega)⟩
                obtain ⟨bx, ox, ex, hbl, hcx⟩ := (own_ilies RO.out) k x hx
                subst ex
                have HX := Lib.hid (HR.out x (List.mem_of_getElem? hx))
                clear hx
                have ck := RK.out.c0
                have dk := RK.out.c1
                go_wp2_with fail
                refine (mayI_any _ _ _ _).mono ?_
                rw [HX.out]
                rintro e r1 ⟨rfl, hb⟩
                replace RK := Lib.hid (KB.below RK.out hb)
                replace RO := Lib.hid (own_below RO.out hb)
                replace RE := Lib.hid (Below.tr RE.out hb)
                clear hb
                go_wp2
                go_roundw
                case rel => exact ⟨k + 1, by omega, by go_num, RK.out, RO.out, RE.out⟩
                case measure => simp [intOf]; omega
              · obtain rfl : k = nL := by omega
                go_wp2_with fail
                refine (drawJoinK_any a1 len1 cap1 _ (Lib.hid (h1.out.below RE.out))).mono ?_
                rintro e s1 ⟨el, eh, fl, fh, rfl, hb⟩
                have E := Lib.hid (Below.tr RE.out hb)
                clear hb
                obtain ⟨gl, hgl⟩ : ∃ x : Int, ((joinA el eh fl fh).1.v : Int) = x := ⟨_, rfl⟩
                obtain ⟨gh, hgh⟩ : ∃ x : Int, ((joinA el eh fl fh).1.m : Int) = x := ⟨_, rfl⟩
                obtain ⟨gok, hgok⟩ : ∃ x, (joinA el eh fl fh).2 = x := ⟨_, rfl⟩
                have G1 := Lib.hid hgl
                have G2 := Lib.hid hgh
                have G3 := Lib.hid hgok
                clear hgl hgh hgok
                have q3 := eql_kn gl gh gl gh
                simp only [and_self, decide_true] at q3
                have eok4 : (gok == gok) = true := by simp
                go_wp2_with fail
                have NB2 := two_newk s1 el eh fl fh
                unfold kO at NB2
                have Fe := Lib.hid NB2.out.1
                have Ff := Lib.hid NB2.out.2.1
                replace E := Lib.hid (Below.tr E.out NB2.out.2.2)
                clear NB2
                generalize ((s1.alloc (.cells #[.int .i64 el, .int .i64 eh] 24)).alloc (.cells #[.int .i64 fl, .int .i64 fh] 24)) = s2 at Fe Ff E ⊢
                refine (joinI_any _ _ _ _ _).mono ?_
                rw [G1.out, G2.out, G3.out]
                rintro e s3 ⟨rfl, hb⟩
                replace Fe := Lib.hid (KB.below Fe.out hb)
                have ce := Fe.out.c0
                have de := Fe.out.c1
                have ze := Fe.out.lt
                replace Ff := Lib.hid (KB.below Ff.out hb)
                have cf := Ff.out.c0
                have df := Ff.out.c1
                have zf := Ff.out.lt
                replace E := Lib.hid (Below.tr E.out hb)
                clear hb
                go_wp2_with fail
                have NB2 := one_newk s3 gl gh
                unfold kO at NB2
                have Fg := Lib.hid NB2.out.1
                replace E := Lib.hid (Below.tr E.out NB2.out.2)
                clear NB2 ce de cf df
                generalize (s3.alloc (.cells #[.int .i64 gl, .int .i64 gh] 24)) = s4 at Fg E ⊢
                refine (joinM_any _ _ _ _ _).mono ?_
                rw [G1.out, G2.out, G3.out]
                rintro e s5 ⟨rfl, hb⟩
                replace Fg := Lib.hid (KB.below Fg.out hb)
                have cg := Fg.out.c0
                have dg := Fg.out.c1
                have zg := Fg.out.lt
                replace E := Lib.hid (Below.tr E.out hb)
                clear hb
                go_wp2
                go_ret
                exact ⟨rfl, Below.tr E.out (below1 _ _)⟩
end Go.Proofs.YtmfganodnlnjcaaDoor.Op
