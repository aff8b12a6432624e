/-
  What the named laws of chapter 12 draw.
-/
import Derived.Test.YtbmmajdacebncaaAcDw
namespace Go.Proofs.Ytbmmajdacebncaa
open Go.ChangeShapes Go.WideShapes Go.ChangeAt Go.RowKit

theorem PrV.lies {w0 w : World} {c K n cap : Nat} {A : Option Addr} {xs : AL} (h : PrV w0 c K 36 2 (acells xs) n A cap w) (hn : xs.length = n) : ∀ w', w.grownBy w' (some c) → ALies w' A xs := by
  intro w' hg
  obtain ⟨_, h1, _, h3⟩ := h
  exact own_alies hn (kept_of h1 hg (fun g hgb e => by have := (h1.lt g hgb).1; have := Option.some.inj e; omega))
theorem PrV.owns {w0 w w' : World} {c K z n cap : Nat} {t : TypeId} {A : Option Addr} {cs : List Value} (h : PrV w0 c K t z cs n A cap w) (hg : w.grownBy w' (some c)) : w'.ownsRow w0.heap.size t z (.slice A n cap) n cs := by
  obtain ⟨_, h1, _, h3⟩ := h
  exact kept_of h1 hg (fun g hgb e => by have := (h1.lt g hgb).1; have := Option.some.inj e; omega)
/-- a drawn graph and a list of vertices -/
def DrewIW (w : World) (e : Ending) (w' : World) : Prop :=
  ∃ (N : Nat) (xs : AL) (A : Option Addr) (cap : Nat) (ks : List Int) (B : Option Addr) (cb : Nat), N ≤ 7 ∧ xs.length ≤ 30 ∧ ks.length ≤ 8 ∧ e = .returned (.tuple #[.int .i64 N, .slice A xs.length cap, .slice B ks.length cb]) ∧
    w'.ownsRow w.heap.size 36 2 (.slice A xs.length cap) xs.length (acells xs) ∧ w'.ownsRow w.heap.size 3 1 (.slice B ks.length cb) ks.length (ks.map (Value.int .i64)) ∧ Below w.heap.size w w'
/-- a drawn graph and so many numbers -/
def DrewA1 (w : World) (e : Ending) (w' : World) : Prop :=
  ∃ (N : Nat) (xs : AL) (A : Option Addr) (cap : Nat) (a : Int), N ≤ 7 ∧ xs.length ≤ 30 ∧ e = .returned (.tuple #[.int .i64 N, .slice A xs.length cap, .int .i64 a]) ∧
    w'.ownsRow w.heap.size 36 2 (.slice A xs.length cap) xs.length (acells xs) ∧ Below w.heap.size w w'
def DrewA2 (w : World) (e : Ending) (w' : World) : Prop :=
  ∃ (N : Nat) (xs : AL) (A : Option Addr) (cap : Nat) (a b : Int), N ≤ 7 ∧ xs.length ≤ 30 ∧ e = .returned (.tuple #[.int .i64 N, .slice A xs.length cap, .int .i64 a, .int .i64 b]) ∧
    w'.ownsRow w.heap.size 36 2 (.slice A xs.length cap) xs.length (acells xs) ∧ Below w.heap.size w w'
def DrewA3 (w : World) (e : Ending) (w' : World) : Prop :=
  ∃ (N : Nat) (xs : AL) (A : Option Addr) (cap : Nat) (a b d : Int), N ≤ 7 ∧ xs.length ≤ 30 ∧ e = .returned (.tuple #[.int .i64 N, .slice A xs.length cap, .int .i64 a, .int .i64 b, .int .i64 d]) ∧
    w'.ownsRow w.heap.size 36 2 (.slice A xs.length cap) xs.length (acells xs) ∧ Below w.heap.size w w'
theorem results_tmp4A {fn : Func} {t u v x : Tmp} (h : fn.results = #[.tmp t, .tmp u, .tmp v, .tmp x]) (tmps : Array Value) (P : Program) (w : World) :
    (results fn tmps).run P w = .ok (.tuple #[tmps.getD t undef, tmps.getD u undef, tmps.getD v undef, tmps.getD x undef]) w := by
  simp [results, h]
theorem results_tmp5A {fn : Func} {t u v x y : Tmp} (h : fn.results = #[.tmp t, .tmp u, .tmp v, .tmp x, .tmp y]) (tmps : Array Value) (P : Program) (w : World) :
    (results fn tmps).run P w = .ok (.tuple #[tmps.getD t undef, tmps.getD u undef, tmps.getD v undef, tmps.getD x undef, tmps.getD y undef]) w := by
  simp [results, h]
theorem tdiv_20 {x : Int} (h : 0 ≤ x ∧ x < 20) : ∃ q : Int, Int.tdiv x 19 = q ∧ 0 ≤ q ∧ q ≤ 1 := ⟨_, rfl, by rw [Int.tdiv_eq_ediv_of_nonneg h.1]; omega, by rw [Int.tdiv_eq_ediv_of_nonneg h.1]; omega⟩
set_option maxRecDepth 100000 in
set_option maxHeartbeats 2000000 in
theorem drawIsW_any (a0 : Option Addr) (len cap : Nat) (w : World) (h : Hid (Bytes w a0 len)) :
    Calls Try.prog 13 #[.slice a0 len cap] w (DrewIW w) := by
  go_enter Try.func13, Try.ntmps13
  go_wp2_with fail
  refine (arcs_any w.heap.size 0 _ (Lib.hid (Cur.new h.out)) (by omega)).mono ?_
  rintro e w1 ⟨N, xs, A, cp, hN, hx30, rfl, hp⟩
  obtain ⟨n, hn⟩ : ∃ n, xs.length = n := ⟨_, rfl⟩
  rw [hn] at hp hx30 ⊢
  have P1 := Lib.hid hp
  have HX := Lib.hid hn
  clear hp hn
  go_wp2_with fail
  refine (walk_any w.heap.size (0 + 200) N A n cp xs _ (Lib.hid P1.out.1) (by omega) hN (Lib.hid (P1.out.lies HX.out)) HX hx30).mono ?_
  rintro e w2 ⟨ks, B, cb, hk8, rfl, hp2⟩
  have O2 := Lib.hid (P1.out.owns hp2.2.2.1)
  have P2 := Lib.hid hp2
  have B2 := Lib.hid (below_new (grownC_trans P1.out.2.2.1 hp2.2.2.1))
  clear hp2
  go_wp2
  go_ret3
  exact ⟨N, xs, A, cp, ks, B, cb, hN, by rw [HX.out]; exact hx30, hk8, by rw [HX.out]; rfl, by rw [HX.out]; exact own_base O2.out (by simp), own_base P2.out.2.1 (by have := P1.out.size; simp at this; omega), B2.out⟩
set_option maxRecDepth 100000 in
set_option maxHeartbeats 2000000 in
theorem drawLay_any (a0 : Option Addr) (len cap : Nat) (w : World) (h : Hid (Bytes w a0 len)) :
    Calls Try.prog 21 #[.slice a0 len cap] w (DrewA1 w) := by
  go_enter Try.func21, Try.ntmps21
  go_wp2_with fail
  refine (arcs_any w.heap.size 0 _ (Lib.hid (Cur.new h.out)) (by omega)).mono ?_
  rintro e w1 ⟨N, xs, A, cp, hN, hx30, rfl, hp⟩
  have P1 := Lib.hid hp
  clear hp
  go_wp2_with fail
  refine (pickV 10 P1 (by omega) (by omega) (by omega)).mono ?_
  rintro e w2 ⟨n2, ⟨l2, u2⟩, rfl, hp2, _⟩
  have P2 := Lib.hid hp2
  clear hp2
  go_wp2
  go_ret3
  exact ⟨N, xs, A, cp, n2, hN, hx30, rfl, own_base P2.out.2.1 (by simp), below_new P2.out.2.2.1⟩
set_option maxRecDepth 100000 in
set_option maxHeartbeats 2000000 in
theorem drawReach_any (a0 : Option Addr) (len cap : Nat) (w : World) (h : Hid (Bytes w a0 len)) :
    Calls Try.prog 34 #[.slice a0 len cap] w (DrewA2 w) := by
  go_enter Try.func34, Try.ntmps34
  go_wp2_with fail
  refine (arcs_any w.heap.size 0 _ (Lib.hid (Cur.new h.out)) (by omega)).mono ?_
  rintro e w1 ⟨N, xs, A, cp, hN, hx30, rfl, hp⟩
  have P1 := Lib.hid hp
  clear hp
  go_wp2_with fail
  refine (pickV ((N : Int) + 1) P1 (by omega) (by omega) (by omega)).mono ?_
  rintro e w2 ⟨n2, ⟨l2, u2⟩, rfl, hp2, _⟩
  have P2 := Lib.hid hp2
  clear hp2
  go_wp2_with fail
  refine (pickV 20 P2 (by omega) (by omega) (by omega)).mono ?_
  rintro e w3 ⟨n3, ⟨l3, u3⟩, rfl, hp3, _⟩
  have P3 := Lib.hid hp3
  clear hp3
  obtain ⟨q, hq, hq0, hq1⟩ := tdiv_20 ⟨l3, u3⟩
  go_wp2_with fail
  refine (pickV 11 P3 (by omega) (by omega) (by omega)).mono ?_
  rintro e w4 ⟨n4, ⟨l4, u4⟩, rfl, hp4, _⟩
  have P4 := Lib.hid hp4
  clear hp4
  go_wp2
  refine bodyPost_ret (results_tmp4A rfl _ _ _) rfl ?_
  exact ⟨N, xs, A, cp, _, _, hN, hx30, rfl, own_base P4.out.2.1 (by simp), below_new P4.out.2.2.1⟩
set_option maxRecDepth 100000 in
set_option maxHeartbeats 2000000 in
theorem drawEno_any (a0 : Option Addr) (len cap : Nat) (w : World) (h : Hid (Bytes w a0 len)) :
    Calls Try.prog 27 #[.slice a0 len cap] w (DrewA1 w) := by
  go_enter Try.func27, Try.ntmps27
  go_wp2_with fail
  refine (drawReach_any a0 len cap _ h).mono ?_
  rintro e w1 ⟨N, xs, A, cp, f, t, hN, hx30, rfl, ho, hb⟩
  have O1 := Lib.hid ho
  have B1 := Lib.hid hb
  clear ho hb
  go_wp2
  go_ret3
  exact ⟨N, xs, A, cp, f, hN, hx30, rfl, O1.out, B1.out⟩
set_option maxRecDepth 100000 in
set_option maxHeartbeats 2000000 in
theorem drawWlk_any (a0 : Option Addr) (len cap : Nat) (w : World) (h : Hid (Bytes w a0 len)) :
    Calls Try.prog 31 #[.slice a0 len cap] w (DrewA3 w) := by
  go_enter Try.func31, Try.ntmps31
  go_wp2_with fail
  refine (arcs_any w.heap.size 0 _ (Lib.hid (Cur.new h.out)) (by omega)).mono ?_
  rintro e w1 ⟨N, xs, A, cp, hN, hx30, rfl, hp⟩
  have P1 := Lib.hid hp
  clear hp
  go_wp2_with fail
  refine (pick0V N P1 (by omega) (by omega)).mono ?_
  rintro e w2 ⟨n2, ⟨l2, u2⟩, rfl, hp2, _⟩
  have P2 := Lib.hid hp2
  clear hp2
  go_wp2_with fail
  refine (pickV 20 P2 (by omega) (by omega) (by omega)).mono ?_
  rintro e w3 ⟨n3, ⟨l3, u3⟩, rfl, hp3, _⟩
  have P3 := Lib.hid hp3
  clear hp3
  obtain ⟨q, hq, hq0, hq1⟩ := tdiv_20 ⟨l3, u3⟩
  obtain ⟨M, hM⟩ : ∃ M : Nat, (N : Int) + q = (M : Int) := ⟨((N : Int) + q).toNat, by omega⟩
  have hMw : IntKind.i64.wrap (M : Int) = (M : Int) := by rw [IntKind.wrap_i64]; omega
  have hM8 : M ≤ 8 := by omega
  go_wp2_with fail
  refine (pick0V M P3 (by omega) (by omega)).mono ?_
  rintro e w4 ⟨n4, ⟨l4, u4⟩, rfl, hp4, _⟩
  have P4 := Lib.hid hp4
  clear hp4
  go_wp2_with fail
  refine (pickV 10 P4 (by omega) (by omega) (by omega)).mono ?_
  rintro e w5 ⟨n5, ⟨l5, u5⟩, rfl, hp5, _⟩
  have P5 := Lib.hid hp5
  clear hp5
  go_wp2
  refine bodyPost_ret (results_tmp5A rfl _ _ _) rfl ?_
  exact ⟨N, xs, A, cp, _, _, _, hN, hx30, rfl, own_base P5.out.2.1 (by simp), below_new P5.out.2.2.1⟩
end Go.Proofs.Ytbmmajdacebncaa
