/-
  A step, whatever its kind: the model's and the program's do what doM says.
-/
import Derived.Test.YtilnegmjnbffhaaDoorAttempt
import Derived.Test.YtilnegmjnbffhaaDoorL3Do
namespace Go.Proofs.YtilnegmjnbffhaaDoor
open Go.ChangeShapes Go.WideShapes Go.ChangeAt Go.RowKit

theorem reg_nat (m : Mch) (j : Nat) : reg m (j : Int) = m.r.getD j 0 := by simp [reg]
theorem reg_bounds {m : Mch} (h : GoodM m) {j : Nat} (hj : j < 6) : 0 ≤ m.r.getD j 0 ∧ m.r.getD j 0 ≤ 65535 := by
  have := reg_word h (j := (j : Int)) (by omega) (by omega)
  rwa [reg_nat] at this
theorem isW_of {a : Int} (h : 0 ≤ a ∧ a ≤ 65535) : Op.isW a = true := by simp [Op.isW]; omega
theorem isOp_of {a : Int} (h : 1 ≤ a ∧ a ≤ 10) : Op.isOp a = true := by simp [Op.isOp]; omega
theorem ctx_at {w : World} {C : Option Addr} {ctx : List Int} (h : ILies w C ctx) (hl : ctx.length = 8) {j : Nat} (hj : j < 8) : ∃ cb co, C = some ⟨cb, co, none⟩ ∧ cb < w.heap.size ∧ w.cell? ⟨cb, co + j, none⟩ = some (.int .i64 (ctx.getD j 0)) := by
  obtain ⟨b, off, hA, hb, hc⟩ := h j (ctx.getD j 0) (by have : j < ctx.length := by omega
                                                        simp [List.getD, List.getElem?_eq_getElem this])
  exact ⟨b, off, hA, hb, hc⟩

set_option maxRecDepth 100000 in
set_option maxHeartbeats 2000000 in
theorem exec_any (C : Option Addr) (cn cc at_ : Nat) (ctx : List Int) (x : Stp) (base nb g1 g2 g3 c1 c2 c3 : Nat) (m : Mch) (w : World)
    (KB : Hid (Blk w nb 73 [.int .i64 at_, .slice (some ⟨g1, 0, none⟩) 6 c1, .slice (some ⟨g2, 0, none⟩) 16 c2, .slice (some ⟨g3, 0, none⟩) 16 c3])) (hne : nb ≠ g1 ∧ nb ≠ g2 ∧ nb ≠ g3) (hat : at_ < 20) (hma : Hid (m.a = at_)) (hm : Hid (GoodM m)) (HO : Hid (OwnM w base g1 g2 g3 c1 c2 c3 m)) (HT : Hid (Op.PowTab w)) (hok : okP x.k x.o x.d x.s x.i x.t) (hC : Hid (ILies w C ctx)) (hcl : ctx.length = 8) (hcn : cn = 8) :
    ((doM x ctx m).2.1 = 0 ∧ Calls Tryd.prog 67 #[.agg #[.int .i64 x.k, .int .i64 x.o, .int .i64 x.d, .int .i64 x.s, .int .i64 x.i, .int .i64 x.t], .slice C cn cc, .pointer (some ⟨nb, 0, none⟩)] w (GaveEx w base nb g1 g2 g3 c1 c2 c3 (doM x ctx m))) ∨
    ((doM x ctx m).2.1 ≠ 0 ∧ Calls Tryd.prog 67 #[.agg #[.int .i64 x.k, .int .i64 x.o, .int .i64 x.d, .int .i64 x.s, .int .i64 x.i, .int .i64 x.t], .slice C cn cc, .pointer (some ⟨nb, 0, none⟩)] w (fun e w' => e = .panicked (faultC (doM x ctx m).2.1) ∧ Below w.heap.size w w')) := by
  obtain ⟨k, o, dI, sI, i, t⟩ := x
  simp only at hok ⊢
  obtain ⟨⟨hd1, hd2⟩, ⟨hs1, hs2⟩, hc⟩ := hok
  obtain ⟨d, rfl⟩ := Int.eq_ofNat_of_zero_le hd1
  obtain ⟨s, rfl⟩ := Int.eq_ofNat_of_zero_le hs1
  have hd : d < 6 := by omega
  have hs : s < 6 := by omega
  have hrd := reg_bounds hm.out hd
  have hrs := reg_bounds hm.out hs
  clear hd1 hd2 hs1 hs2
  rcases hc with ⟨rfl, ho1, ho2, rfl, rfl⟩ | ⟨rfl, ho1, ho2, hs0, hi1, hi2, rfl⟩ | ⟨hk, rfl, hs0, hi1, hi2, rfl⟩ | ⟨rfl, rfl, hs0, hi1, hi2, rfl⟩ | ⟨rfl, rfl, hi1, hi2, rfl⟩ | ⟨rfl, rfl, hd0, hs0, rfl, ht1, ht2⟩ | ⟨hk, rfl, rfl, ht1, ht2⟩ | ⟨rfl, rfl, hd0, hs0, rfl, rfl⟩
  ·
    have e : doM ⟨1, o, d, s, 0, 0⟩ ctx m = (setR m d (Op.opv o (m.r.getD d 0) (m.r.getD s 0)), 0, false) := by simp [doM, reg]
    rw [e]
    exact .inl ⟨rfl, exec_op o d s C cn cc at_ base nb g1 g2 g3 c1 c2 c3 m _ _ w KB hne hat hma HO hd hs rfl rfl HT ⟨ho1, ho2⟩ (isW_of hrd) (isW_of hrs)⟩
  ·
    obtain rfl : s = 0 := by omega
    have e : doM ⟨2, o, d, ((0 : Nat) : Int), i, 0⟩ ctx m = (setR m d (Op.opv o (m.r.getD d 0) i), 0, false) := by simp [doM, reg]
    rw [e]
    exact .inl ⟨rfl, exec_opi o i d 0 C cn cc at_ base nb g1 g2 g3 c1 c2 c3 m _ _ w KB hne hat hma HO hd hs rfl rfl HT ⟨ho1, ho2⟩ (isW_of hrd) (isW_of ⟨hi1, by omega⟩)⟩
  · obtain rfl : s = 0 := by omega
    rcases hk with rfl | rfl | rfl
    ·
      have e : doM ⟨3, 0, d, ((0 : Nat) : Int), i, 0⟩ ctx m = (setR m d i, 0, false) := by simp [doM]
      rw [e]
      exact .inl ⟨rfl, exec_set3 i d 0 C cn cc at_ base nb g1 g2 g3 c1 c2 c3 m _ _ w KB hne hat hma HO hd hs rfl rfl⟩
    · by_cases h16 : 16 ≤ i
      ·
        have e : doM ⟨6, 0, d, ((0 : Nat) : Int), i, 0⟩ ctx m = (m, 2, false) := by simp [doM, h16]
        rw [e]
        exact .inr ⟨by simp, exec_loadF i d 0 C cn cc at_ base nb g1 g2 g3 c1 c2 c3 m _ _ w KB hne hat hma HO hd hs rfl rfl h16⟩
      · obtain ⟨iN, rfl⟩ := Int.eq_ofNat_of_zero_le hi1
        have hi16 : iN < 16 := by omega
        cases hu : m.s.getD iN false
        ·
          have e : doM ⟨6, 0, d, ((0 : Nat) : Int), iN, 0⟩ ctx m = (m, 3, false) := by simp [doM, h16, hu, -List.getD_eq_getElem?_getD]
          rw [e]
          exact .inr ⟨by simp, exec_loadU iN d 0 C cn cc at_ base nb g1 g2 g3 c1 c2 c3 m _ _ w KB hne hat hma HO hd hs rfl rfl hi16 hu⟩
        ·
          have e : doM ⟨6, 0, d, ((0 : Nat) : Int), iN, 0⟩ ctx m = (setR m d (m.c.getD iN 0), 0, false) := by simp [doM, h16, hu, -List.getD_eq_getElem?_getD]
          rw [e]
          exact .inl ⟨rfl, exec_load iN _ d 0 C cn cc at_ base nb g1 g2 g3 c1 c2 c3 m _ _ w KB hne hat hma HO hd hs rfl rfl hi16 hu rfl⟩
    · by_cases h16 : 16 ≤ i
      ·
        have e : doM ⟨7, 0, d, ((0 : Nat) : Int), i, 0⟩ ctx m = (m, 2, false) := by simp [doM, h16]
        rw [e]
        exact .inr ⟨by simp, exec_storeF i d 0 C cn cc at_ base nb g1 g2 g3 c1 c2 c3 m _ _ w KB hne hat hma HO hd hs rfl rfl h16⟩
      · obtain ⟨iN, rfl⟩ := Int.eq_ofNat_of_zero_le hi1
        have hi16 : iN < 16 := by omega
        have e : doM ⟨7, 0, d, ((0 : Nat) : Int), iN, 0⟩ ctx m = (⟨m.a + 1, m.r, m.c.set iN (m.r.getD d 0), m.s.set iN true⟩, 0, false) := by simp [doM, reg, h16]
        rw [e]
        exact .inl ⟨rfl, exec_store iN d 0 C cn cc at_ base nb g1 g2 g3 c1 c2 c3 m _ _ w KB hne hat hma HO hd hs rfl rfl hi16⟩
  ·
    obtain rfl : s = 0 := by omega
    have e : doM ⟨4, 0, d, ((0 : Nat) : Int), i, 0⟩ ctx m = (setR m d i, 0, false) := by simp [doM]
    rw [e]
    exact .inl ⟨rfl, exec_set4 i d 0 C cn cc at_ base nb g1 g2 g3 c1 c2 c3 m _ _ w KB hne hat hma HO hd hs rfl rfl⟩
  · by_cases h8 : 8 ≤ m.r.getD s 0 + i
    ·
      have e : doM ⟨5, 0, d, s, i, 0⟩ ctx m = (m, 1, false) := by simp [doM, reg, h8, -List.getD_eq_getElem?_getD]
      rw [e]
      exact .inr ⟨by simp, exec_ctxF i d s C cn cc at_ base nb g1 g2 g3 c1 c2 c3 m _ _ w KB hne hat hma HO hd hs rfl rfl ⟨hi1, hi2⟩ ⟨hrs.1, by omega⟩ h8⟩
    · obtain ⟨j, hj⟩ := Int.eq_ofNat_of_zero_le (show 0 ≤ m.r.getD s 0 + i by omega)
      have hj8 : j < 8 := by omega
      obtain ⟨cb, co, hCe, hcb, hcc⟩ := ctx_at hC.out hcl hj8
      have e : doM ⟨5, 0, d, s, i, 0⟩ ctx m = (setR m d (ctx.getD j 0), 0, false) := by simp [doM, reg, hj, show ¬ (8 : Int) ≤ (j : Int) by omega, -List.getD_eq_getElem?_getD]
      rw [e]
      exact .inl ⟨rfl, exec_ctx i cb co j _ d s C cn cc at_ base nb g1 g2 g3 c1 c2 c3 m _ _ w KB hne hat hma HO hd hs rfl rfl ⟨hi1, hi2⟩ ⟨hrs.1, by omega⟩ hj hj8 hcn hCe hcb hcc⟩
  · obtain rfl : d = 0 := by omega
    obtain rfl : s = 0 := by omega
    have e : doM ⟨8, 0, ((0 : Nat) : Int), ((0 : Nat) : Int), 0, t⟩ ctx m = (⟨(at_ : Int) + t + 1, m.r, m.c, m.s⟩, 0, false) := by simp [doM, reg, taken, hma.out]
    rw [e]
    exact .inl ⟨rfl, exec_jump t 0 0 C cn cc at_ base nb g1 g2 g3 c1 c2 c3 m _ _ w KB hne hat hma HO hd hs rfl rfl ⟨ht1, ht2⟩⟩
  · rcases hk with rfl | rfl
    · cases hq : (m.r.getD d 0 == m.r.getD s 0)
      ·
        have hq' : ¬ m.r.getD d 0 = m.r.getD s 0 := by simpa [-List.getD_eq_getElem?_getD] using hq
        have e : doM ⟨9, 0, d, s, 0, t⟩ ctx m = (⟨(at_ : Int) + 1, m.r, m.c, m.s⟩, 0, false) := by simp [doM, reg, taken, hma.out, hq', -List.getD_eq_getElem?_getD]
        rw [e]
        exact .inl ⟨rfl, exec_eqN t d s C cn cc at_ base nb g1 g2 g3 c1 c2 c3 m _ _ w KB hne hat hma HO hd hs rfl rfl ⟨ht1, ht2⟩ hq⟩
      ·
        have hq' : m.r.getD d 0 = m.r.getD s 0 := by simpa [-List.getD_eq_getElem?_getD] using hq
        have e : doM ⟨9, 0, d, s, 0, t⟩ ctx m = (⟨(at_ : Int) + t + 1, m.r, m.c, m.s⟩, 0, false) := by simp [doM, reg, taken, hma.out, hq', -List.getD_eq_getElem?_getD]
        rw [e]
        exact .inl ⟨rfl, exec_eqT t d s C cn cc at_ base nb g1 g2 g3 c1 c2 c3 m _ _ w KB hne hat hma HO hd hs rfl rfl ⟨ht1, ht2⟩ hq⟩
    · by_cases hq : m.r.getD d 0 < m.r.getD s 0
      ·
        have e : doM ⟨10, 0, d, s, 0, t⟩ ctx m = (⟨(at_ : Int) + t + 1, m.r, m.c, m.s⟩, 0, false) := by simp [doM, reg, taken, hma.out, hq, -List.getD_eq_getElem?_getD]
        rw [e]
        exact .inl ⟨rfl, exec_lessT t d s C cn cc at_ base nb g1 g2 g3 c1 c2 c3 m _ _ w KB hne hat hma HO hd hs rfl rfl ⟨ht1, ht2⟩ (decide_eq_true hq)⟩
      ·
        have e : doM ⟨10, 0, d, s, 0, t⟩ ctx m = (⟨(at_ : Int) + 1, m.r, m.c, m.s⟩, 0, false) := by simp [doM, reg, taken, hma.out, hq, -List.getD_eq_getElem?_getD]
        rw [e]
        exact .inl ⟨rfl, exec_lessN t d s C cn cc at_ base nb g1 g2 g3 c1 c2 c3 m _ _ w KB hne hat hma HO hd hs rfl rfl ⟨ht1, ht2⟩ (decide_eq_false hq)⟩
  · obtain rfl : d = 0 := by omega
    obtain rfl : s = 0 := by omega
    have e : doM ⟨11, 0, ((0 : Nat) : Int), ((0 : Nat) : Int), 0, 0⟩ ctx m = (m, 0, true) := by simp [doM]
    rw [e]
    exact .inl ⟨rfl, exec_exit 0 0 C cn cc at_ base nb g1 g2 g3 c1 c2 c3 m _ _ w KB hne hat hma HO hd hs rfl rfl⟩
end Go.Proofs.YtilnegmjnbffhaaDoor
