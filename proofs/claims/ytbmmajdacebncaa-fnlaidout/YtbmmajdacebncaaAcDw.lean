/-
  Drawn walks; what the named laws draw.
-/
import Derived.Test.YtbmmajdacebncaaAcDr
import Derived.Deep.DeepCutAuto
namespace Go.Proofs.Ytbmmajdacebncaa
open Go.ChangeShapes Go.WideShapes Go.ChangeAt Go.RowKit

section
variable {w0 w w' : World} {c K z n cap : Nat} {t : TypeId} {cs : List Value} {A : Option Addr}
theorem pick0V (m : Nat) (h : Hid (PrV w0 c K t z cs n A cap w)) (hK : K ≤ 900000000000) (h2 : m ≤ 100000) :
    Calls Try.prog 53 #[.pointer (some ⟨c, 0, none⟩), .int .i64 m] w fun e w' => ∃ n' : Int, (0 ≤ n' ∧ n' ≤ m) ∧ e = .returned (.int .i64 n') ∧ PrV w0 c (K + 2) t z cs n A cap w' ∧ w.grownBy w' (some c) :=
  (pick0_any c K m w (Lib.hid h.out.1) hK h2).mono fun _ _ ⟨n, hp, he, hc, hg⟩ => ⟨n, hp, he, h.out.step hc hg, hg⟩
end
/-- a drawn walk -/
def GaveW (c K : Nat) (w : World) (e : Ending) (w' : World) : Prop :=
  ∃ (ks : List Int) (A : Option Addr) (cap : Nat), ks.length ≤ 8 ∧ e = .returned (.slice A ks.length cap) ∧ PrV w c K 3 1 (ks.map (Value.int .i64)) ks.length A cap w'
theorem gaveW_of {c K : Nat} {w w' : World} {z cap : Nat} {ks : List Int} {A : Option Addr} (h2 : ks.length = z) (h3 : z ≤ 8) (h : PrV w c K 3 1 (ks.map (Value.int .i64)) z A cap w') : GaveW c K w (.returned (.slice A z cap)) w' := by
  subst h2; exact ⟨ks, A, cap, h3, rfl, h⟩
set_option maxRecDepth 100000 in
set_option maxHeartbeats 8000000 in
theorem walk_any (c K N : Nat) (A : Option Addr) (m cp : Nat) (l : AL) (w : World) (h : Hid (Cur w c K)) (hK : K ≤ 700000000000) (hN : N ≤ 7) (HL : Hid (∀ w', w.grownBy w' (some c) → ALies w' A l)) (HX : Hid (l.length = m)) (hm : m ≤ 30) :
    Calls Try.prog 47 #[.pointer (some ⟨c, 0, none⟩), .int .i64 N, .slice A m cp] w (GaveW c (K + 1000) w) := by
  go_enter Try.func47, Try.ntmps47
  go_wp2_with fail
  refine (pick0_any c K N _ h (by omega) (by omega)).mono ?_
  rintro e w1 ⟨n1, ⟨l1, u1⟩, rfl, hc1, hg1⟩
  have P1 : Hid (PrV w c (K + 2) 3 1 (([n1] : List Int).map (Value.int .i64)) 1 (some ⟨w1.heap.size, 0, none⟩) 1 (w1.alloc (.cells #[.int .i64 n1] 3))) := Lib.hid ⟨hc1.alloc _, own_row w1 [n1] _ hg1.size (by simp [maxLen]), grownC_trans hg1 (World.grownBy_alloc _ _ _), h.out.lt⟩
  clear hc1 hg1
  go_wp2_with fail
  refine (pickV 8 P1 (by omega) (by omega) (by omega)).mono ?_
  rintro e w2 ⟨n2, ⟨l2, u2⟩, rfl, hp2, _⟩
  have P2 := Lib.hid hp2
  clear hp2
  obtain ⟨M, rfl⟩ := Int.eq_ofNat_of_zero_le l2
  have hM : M ≤ 7 := by omega
  clear l2 u2 P1
  go_wp2_with fail
  go_loopw [7, 8] (fun ov nv wr => ∃ (i r z : Nat) (ks : List Int) (A2 : Option Addr) (c2 : Nat), i + r = M ∧ nv = .int .i64 r ∧ ov = .slice A2 z c2 ∧ ks.length = z ∧ z = i + 1 ∧ PrV w c (K + 10 + 70 * i) 3 1 (ks.map (Value.int .i64)) z A2 c2 wr) (fun _ nv _ => (intOf nv).toNat)
  case atStart => exact ⟨0, M, 1, [n1], _, _, by omega, rfl, rfl, rfl, rfl, P2.out.mono (by omega)⟩
  case round =>
    obtain ⟨i, r, z, ks, A2, c2, hir, rfl, rfl, hz, hzi, hp⟩ := hrel
    have P3 := Lib.hid hp
    have Z3 := Lib.hid hz
    have IR := Lib.hid hir
    have hi7 : i ≤ 7 := by omega
    have ZI := Lib.hid hzi
    have hz8 : z ≤ 8 ∧ 1 ≤ z := by omega
    clear hp hz P2 hir hzi
    by_cases hr : 0 < r
    · have hi6 : i ≤ 6 := by have := IR.out; omega
      go_wp2_with fail
      refine (pick0V N P3 (by omega) (by omega)).mono ?_
      rintro e w4 ⟨n4, ⟨l4, u4⟩, rfl, hp4, _⟩
      have P4 := Lib.hid hp4
      clear hp4 l4 u4
      go_wp2_with fail
      go_loopw [9, 27] (fun tv jv wq => ∃ (j : Nat) (u : Int), j ≤ m ∧ jv = .int .i64 j ∧ tv = .int .i64 u ∧ PrV w c (K + 10 + 70 * i + 2 + 2 * j) 3 1 (ks.map (Value.int .i64)) z A2 c2 wq) (fun _ jv _ => m - (intOf jv).toNat)
      case atStart => exact ⟨0, n4, Nat.zero_le _, rfl, rfl, P4.out⟩
      case round =>
        obtain ⟨j, u, hj, rfl, rfl, hp⟩ := hrel
        have P5 := Lib.hid hp
        clear hp P4 P3
        by_cases hlt : j < m
        · obtain ⟨x, hx⟩ : ∃ x, l[j]? = some x := ⟨_, List.getElem?_eq_getElem (by have := HX.out; omega)⟩
          obtain ⟨bb, off, rfl, hbl, e0, e1⟩ := (HL.out _ P5.out.2.2.1) j x hx
          clear hx
          go_upto_region 9 with fail
          obtain ⟨w6, hw6⟩ : ∃ W, W = wr.alloc (.cells #[.int .i64 x.1, .int .i64 x.2] 36) := ⟨_, rfl⟩
          have hnb : Blk w6 wr.heap.size 36 [.int .i64 x.1, .int .i64 x.2] := by rw [hw6]; exact heap_alloc_new _ _
          have hp6 : PrV w c (K + 10 + 70 * i + 2 + 2 * j) 3 1 (ks.map (Value.int .i64)) z A2 c2 w6 := by rw [hw6]; exact P5.out.alloc _
          rw [← hw6]
          have hcx : c < wr.heap.size := P5.out.1.lt
          clear hw6 e0 e1 hbl P5
          obtain ⟨bx, hbx⟩ : ∃ bx, wr.heap.size = bx := ⟨_, rfl⟩
          rw [hbx] at hnb hcx ⊢
          have P6 := Lib.hid hp6
          have N6 := Lib.hid hnb
          have n0 : w6.cell? ⟨bx, 0, none⟩ = some (.int .i64 x.1) := hnb.cell 0
          obtain ⟨q, hq⟩ : ∃ q, z = q + 1 := ⟨z - 1, by omega⟩
          obtain ⟨v, hv⟩ : ∃ v, ks[q]? = some v := ⟨_, List.getElem?_eq_getElem (by have := Z3.out; omega)⟩
          obtain ⟨b7, o7, hA7, _, c7⟩ := own_ilies hp6.2.1 q v hv
          subst hA7
          have hqz : (q : Int) < (z : Int) := by omega
          have hzq : (z : Int) - 1 = (q : Int) := by omega
          have hqw : IntKind.i64.wrap (q : Int) = (q : Int) := by rw [IntKind.wrap_i64]; omega
          clear hbx hp6 hnb hq hv
          cases t : (x.1 == v) with
          | false =>
            go_quiet (fail)
            go_wp2
            go_roundw
            case rel => exact ⟨j + 1, u, by omega, by go_num, rfl, (P6.out.step (w' := w6.drewN _) (P6.out.1.drewN _) ⟨rfl, rfl, rfl, Nat.le_refl _, fun _ _ _ => rfl⟩).mono (by omega)⟩
            case measure => simp [intOf]; omega
          | true =>
            go_still_tail 10, (by kernel_rfl)
            change wpList _ _ _ _ _ w6.drew
            have P7 : Hid (PrV w c (K + 10 + 70 * i + 2 + 2 * j) 3 1 (ks.map (Value.int .i64)) z (some ⟨b7, o7, none⟩) c2 w6.drew) := Lib.hid (P6.out.step (w' := w6.drew) (P6.out.1.drewN 1) ⟨rfl, rfl, rfl, Nat.le_refl _, fun _ _ _ => rfl⟩)
            have N7 : Hid (Blk w6.drew bx 36 [.int .i64 x.1, .int .i64 x.2]) := N6
            generalize w6.drew = w7 at P7 N7 ⊢
            clear n0 c7
            go_wp2_with fail
            refine (oneV 2 P7 (by omega) (by omega) (by omega)).mono ?_
            rintro e w8 ⟨bb8, rfl, hp8, hg8⟩
            have P8 := Lib.hid hp8
            have n1' : w8.cell? ⟨bx, 1, none⟩ = some (.int .i64 x.2) := by
              have h1 : Blk w8 bx 36 [.int .i64 x.1, .int .i64 x.2] := (hg8.block bx N7.out.lt (fun e => by have := Option.some.inj e; omega)).trans N7.out
              exact h1.cell 1
            clear hp8 hg8
            cases bb8 with
            | false =>
              go_wp2
              go_roundw
              case rel => exact ⟨j + 1, u, by omega, by go_num, rfl, P8.out.mono (by omega)⟩
              case measure => simp [intOf]; omega
            | true =>
              go_wp2
              go_roundw
              case rel => exact ⟨j + 1, x.2, by omega, by go_num, rfl, P8.out.mono (by omega)⟩
              case measure => simp [intOf]; omega
        · obtain rfl : j = m := by omega
          have hs5 := P5.out.size
          obtain ⟨q, hq⟩ : ∃ q, r = q + 1 := ⟨r - 1, by omega⟩
          have hqi : (r : Int) - 1 = (q : Int) := by omega
          have hqw : IntKind.i64.wrap (q : Int) = (q : Int) := by rw [IntKind.wrap_i64]; have := IR.out; omega
          have hqr : q < r := by omega
          have IQ : Hid (i + 1 + q = M) := Lib.hid (by have := IR.out; omega)
          clear hq
          go_wp2_with (at_builtin; (refine append_oneG (x := u) (cs := ks.map (Value.int .i64)) _ _ wr.heap.size rfl rfl rfl rfl rfl P5.out.2.1 hs5 (by omega) ?_; intro g9 c9 w9 ho9 hg9; have P9 := Lib.hid (P5.out.app ho9 hg9); clear ho9 hg9))
          go_roundw
          case rel => exact ⟨i + 1, q, z + 1, ks ++ [u], _, _, IQ.out, rfl, rfl, by rw [List.length_append, Z3.out]; rfl, by have := ZI.out; omega, by rw [List.map_append]; exact P9.out.mono (by omega)⟩
          case measure => simp [intOf]; omega
    · go_wp2
      go_ret
      exact gaveW_of Z3.out hz8.1 (P3.out.mono (by omega))
end Go.Proofs.Ytbmmajdacebncaa
