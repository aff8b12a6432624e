/-
  Graphs as lists of arcs: the loops that reach, count walks, lay layers out. Plain mathematics.
-/
import Derived.Test.YtbmmajdacebncaaGrMath
import Derived.Test.YtbmmajdacebncaaDmStep
namespace Go.Proofs.Ytbmmajdacebncaa

abbrev AL := List (Int × Int)
def arcE (l : AL) (a b : Nat) : Bool := decide (((a : Int), (b : Int)) ∈ l)
theorem arcE_iff {l : AL} {a b : Nat} : arcE l a b = true ↔ ((a : Int), (b : Int)) ∈ l := by unfold arcE; simp
/-- the order of arcs -/
def arcLt (p q : Int × Int) : Prop := p.1 < q.1 ∨ (p.1 = q.1 ∧ p.2 < q.2)
structure GoodA (n : Nat) (l : AL) : Prop where
  lo : 1 ≤ n
  hi : n ≤ 6
  len : l.length ≤ 30
  rng : ∀ p ∈ l, (0 ≤ p.1 ∧ p.1 < n) ∧ (0 ≤ p.2 ∧ p.2 < n)
  srt : l.Pairwise arcLt
theorem arcLt_trans {a b c : Int × Int} (h : arcLt a b) (k : arcLt b c) : arcLt a c := by unfold arcLt at *; omega
theorem arcLt_irr {a : Int × Int} (h : arcLt a a) : False := by unfold arcLt at h; omega
/-- each one below the next: sorted -/
theorem adj_sorted : ∀ {l : AL}, (∀ (i : Nat) p q, l[i]? = some p → l[i + 1]? = some q → arcLt p q) → l.Pairwise arcLt
  | [], _ => .nil
  | x :: l, h => by
    have ih := adj_sorted (l := l) (fun i p q hp hq => h (i + 1) p q (by simpa using hp) (by simpa using hq))
    refine List.pairwise_cons.2 ⟨fun q hq => ?_, ih⟩
    cases l with
    | nil => simp at hq
    | cons y l =>
      have h1 : arcLt x y := h 0 x y rfl rfl
      rcases List.mem_cons.1 hq with rfl | hq
      · exact h1
      · exact arcLt_trans h1 ((List.pairwise_cons.1 ih).1 q hq)
theorem sorted_adj {l : AL} (h : l.Pairwise arcLt) {i : Nat} {p q : Int × Int} (hp : l[i]? = some p) (hq : l[i + 1]? = some q) : arcLt p q := by
  obtain ⟨h1, rfl⟩ := List.getElem?_eq_some_iff.1 hp
  obtain ⟨h2, rfl⟩ := List.getElem?_eq_some_iff.1 hq
  exact List.pairwise_iff_getElem.1 h i (i + 1) h1 h2 (by omega)
theorem GoodA.nat {n : Nat} {l : AL} (g : GoodA n l) {p : Int × Int} (hp : p ∈ l) : ∃ a b : Nat, p = ((a : Int), (b : Int)) ∧ a < n ∧ b < n ∧ arcE l a b = true := by
  obtain ⟨⟨h1, h2⟩, h3, h4⟩ := g.rng p hp
  refine ⟨p.1.toNat, p.2.toNat, ?_, by omega, by omega, ?_⟩
  · rw [Int.toNat_of_nonneg h1, Int.toNat_of_nonneg h3]
  · rw [arcE_iff, Int.toNat_of_nonneg h1, Int.toNat_of_nonneg h3]; exact hp
theorem GoodA.lt {n : Nat} {l : AL} (g : GoodA n l) {a b : Nat} (h : arcE l a b = true) : a < n ∧ b < n := by
  have := g.rng _ (arcE_iff.1 h)
  simp only at this
  omega
/-- what is reached over k arcs, and by those of Q behind them -/
def rqL (n f k : Nat) (l Q : AL) : List Nat := (List.range n).filter (fun j => rw_ (arcE l) n f k j || Q.any (fun p => rw_ (arcE l) n f k p.1.toNat && decide (p.2 = (j : Int))))
theorem mem_rq {n f k : Nat} {l Q : AL} {j : Nat} : j ∈ rqL n f k l Q ↔ j < n ∧ (rw_ (arcE l) n f k j = true ∨ ∃ p, p ∈ Q ∧ rw_ (arcE l) n f k p.1.toNat = true ∧ p.2 = (j : Int)) := by
  unfold rqL
  simp only [List.mem_filter, List.mem_range, Bool.or_eq_true, List.any_eq_true, Bool.and_eq_true, decide_eq_true_eq]
theorem rq_start {n f k : Nat} {l : AL} : rqL n f k l [] = rwL (arcE l) n f k := by
  unfold rqL rwL
  apply List.filter_congr
  intro i _
  simp
theorem rq_skip {n f k : Nat} {l Q : AL} {p : Int × Int} (h : rw_ (arcE l) n f k p.1.toNat = false) : rqL n f k l (Q ++ [p]) = rqL n f k l Q := by
  unfold rqL
  apply List.filter_congr
  intro i _
  simp [h]
theorem rq_put {n f k : Nat} {l Q : AL} {p : Int × Int} (hb : 0 ≤ p.2 ∧ p.2 < n) (h : rw_ (arcE l) n f k p.1.toNat = true) : putL p.2 (castL (rqL n f k l Q)) = castL (rqL n f k l (Q ++ [p])) := by
  apply sorted_ext (putL_sorted _ (castL_sorted (filter_sorted _ _))) (castL_sorted (filter_sorted _ _))
  intro y
  rw [putL_mem, castL_mem, castL_mem]
  constructor
  · rintro (rfl | ⟨j, hj, rfl⟩)
    · exact ⟨p.2.toNat, mem_rq.2 ⟨by omega, .inr ⟨p, by simp, h, (Int.toNat_of_nonneg hb.1).symm⟩⟩, Int.toNat_of_nonneg hb.1⟩
    · obtain ⟨h1, h2⟩ := mem_rq.1 hj
      refine ⟨j, mem_rq.2 ⟨h1, ?_⟩, rfl⟩
      rcases h2 with h2 | ⟨q, hq, h3, h4⟩
      · exact .inl h2
      · exact .inr ⟨q, by simp [hq], h3, h4⟩
  · rintro ⟨j, hj, rfl⟩
    obtain ⟨h1, h2⟩ := mem_rq.1 hj
    rcases h2 with h2 | ⟨q, hq, h3, h4⟩
    · exact .inr ⟨j, mem_rq.2 ⟨h1, .inl h2⟩, rfl⟩
    · rw [List.mem_append, List.mem_singleton] at hq
      rcases hq with hq | rfl
      · exact .inr ⟨j, mem_rq.2 ⟨h1, .inr ⟨q, hq, h3, h4⟩⟩, rfl⟩
      · exact .inl h4.symm
theorem rq_end {n f k : Nat} {l : AL} (g : GoodA n l) : rqL n f k l l = rwL (arcE l) n f (k + 1) := by
  apply castL_ext
  intro j
  have e1 := mem_rq (n := n) (f := f) (k := k) (l := l) (Q := l) (j := j)
  have e2 := mem_rw (E := arcE l) (n := n) (f := f) (k := k + 1) (i := j)
  unfold rqL at e1
  unfold rwL at e2
  rw [e1, e2, rw_succ]
  constructor
  · rintro ⟨h1, h2 | ⟨p, hp, h3, h4⟩⟩
    · exact ⟨h1, .inl h2⟩
    · obtain ⟨a, b, rfl, ha, hb, he⟩ := g.nat hp
      simp only [Int.toNat_natCast] at h3 h4
      have : b = j := by omega
      subst this
      exact ⟨h1, .inr ⟨a, ha, h3, he⟩⟩
  · rintro ⟨h1, h2 | ⟨a, ha, h3, h4⟩⟩
    · exact ⟨h1, .inl h2⟩
    · exact ⟨h1, .inr ⟨_, arcE_iff.1 h4, by simpa using h3, rfl⟩⟩
theorem rq_has {n f k : Nat} {l : AL} {p : Int × Int} (h : 0 ≤ p.1 ∧ p.1 < n) : p.1 ∈ castL (rwL (arcE l) n f k) ↔ rw_ (arcE l) n f k p.1.toNat = true := by
  obtain ⟨a, ha⟩ := Int.eq_ofNat_of_zero_le h.1
  rw [ha, castL_mem', mem_rw, Int.toNat_natCast]
  exact ⟨fun h => h.2, fun k => ⟨by omega, k⟩⟩
/-- behind n arcs nothing further is reached -/
theorem rw_full {E : Nat → Nat → Bool} {n f k i : Nat} (hf : f < n) (hi : i < n) (h : rw_ E n f k i = true) : rw_ E n f n i = true := by
  obtain ⟨q, hq⟩ := enough_is (E := E) hf
  have hqn := enough_lt hf hq
  have h1 := rw_mono h n
  have e1 : rwL E n f (k + n) = rwL E n f q := rw_all hq.1 (by omega)
  have e2 : rwL E n f n = rwL E n f q := rw_all hq.1 (by omega)
  have : i ∈ rwL E n f (k + n) := mem_rw.2 ⟨hi, h1⟩
  rw [e1, ← e2] at this
  exact (mem_rw.1 this).2
/-- enough for all longer ones -/
theorem enough_all {E : Nat → Nat → Bool} {n f k m : Nat} (h : EnoughR E n f k) (hm : k ≤ m) : rwL E n f m = rwL E n f k := rw_all h.1 hm
/-- the arcs on a cycle, by index -/
def onC (n : Nat) (l : AL) (i : Nat) : Bool := match l[i]? with
  | some p => rw_ (arcE l) n p.2.toNat n p.1.toNat
  | none => false
def backL (n : Nat) (l : AL) (m : Nat) : List Nat := (List.range m).filter (onC n l)
theorem back_no {n m : Nat} {l : AL} (h : onC n l m = false) : backL n l (m + 1) = backL n l m := by unfold backL; rw [List.range_succ, List.filter_append]; simp [h]
theorem back_yes {n m : Nat} {l : AL} (h : onC n l m = true) : backL n l (m + 1) = backL n l m ++ [m] := by unfold backL; rw [List.range_succ, List.filter_append]; simp [h]
theorem onC_at {n i : Nat} {l : AL} {p : Int × Int} (h : l[i]? = some p) : onC n l i = rw_ (arcE l) n p.2.toNat n p.1.toNat := by unfold onC; rw [h]
theorem back_len (n : Nat) (l : AL) (m : Nat) : (backL n l m).length ≤ m := by
  have := List.length_filter_le (onC n l) (List.range m)
  simpa [backL] using this
/-- the walks of k + 1 arcs, as far as the arcs of Q count them -/
def wq (l : AL) (n f k : Nat) (Q : AL) (j : Nat) : Nat := (Q.map (fun p => if p.2 = (j : Int) then wk (arcE l) n f k p.1.toNat else 0)).sum
theorem wq_nil (l : AL) (n f k j : Nat) : wq l n f k [] j = 0 := rfl
theorem wq_snoc (l : AL) (n f k : Nat) (Q : AL) (p : Int × Int) (j : Nat) : wq l n f k (Q ++ [p]) j = wq l n f k Q j + (if p.2 = (j : Int) then wk (arcE l) n f k p.1.toNat else 0) := by
  unfold wq
  rw [List.map_append, List.sum_append]
  simp
theorem sumTo_add (f g : Nat → Nat) (k : Nat) : sumTo (fun a => f a + g a) k = sumTo f k + sumTo g k := by
  induction k with
  | zero => rfl
  | succ k ih => simp only [sumTo]; rw [ih]; omega
theorem sumTo_one (v : Nat) {i n : Nat} (h : i < n) : sumTo (fun a => if a = i then v else 0) n = v := by
  induction n with
  | zero => omega
  | succ n ih =>
    simp only [sumTo]
    rcases Nat.lt_or_ge i n with q | q
    · rw [ih q, if_neg (by omega)]; rfl
    · have : i = n := by omega
      subst this
      rw [if_pos rfl]
      have z : sumTo (fun a => if a = i then v else 0) i = sumTo (fun _ => 0) i := sumTo_congr i (fun a ha => by rw [if_neg (by omega)])
      have z2 : ∀ m, sumTo (fun _ => 0) m = 0 := by
        intro m
        induction m with
        | zero => rfl
        | succ m ihm => simp only [sumTo]; rw [ihm]
      rw [z, z2]
      omega
theorem sumTo_zero (m : Nat) : sumTo (fun _ => 0) m = 0 := by
  induction m with
  | zero => rfl
  | succ m ihm => simp only [sumTo]; rw [ihm]
/-- a sum over arcs that differ is a sum over the vertices that they come from -/
theorem sum_arcs (f : Nat → Nat) (j n : Nat) : ∀ {Q : AL}, Q.Pairwise (fun p q => p ≠ q) → (∀ p ∈ Q, 0 ≤ p.1 ∧ p.1 < n) →
    (Q.map (fun p => if p.2 = (j : Int) then f p.1.toNat else 0)).sum = sumTo (fun a => if arcE Q a j then f a else 0) n
  | [], _, _ => by
    have : sumTo (fun a => if arcE [] a j then f a else 0) n = sumTo (fun _ => 0) n := sumTo_congr n (fun a _ => by simp [arcE])
    rw [this, sumTo_zero]
    rfl
  | p :: Q, hd, hr => by
    obtain ⟨h1, h2⟩ := List.pairwise_cons.1 hd
    have ih := sum_arcs f j n h2 (fun q hq => hr q (by simp [hq]))
    obtain ⟨p1, p2⟩ := p
    obtain ⟨a, ha⟩ := Int.eq_ofNat_of_zero_le (hr (p1, p2) (by simp)).1
    have han : a < n := by have := (hr (p1, p2) (by simp)).2; simp only at this; simp only at ha; omega
    simp only at ha
    subst ha
    rw [List.map_cons, List.sum_cons, ih]
    simp only [Int.toNat_natCast]
    by_cases hp : p2 = (j : Int)
    · subst hp
      rw [if_pos rfl]
      have e : sumTo (fun b => if arcE (((a : Int), (j : Int)) :: Q) b j then f b else 0) n = sumTo (fun b => (if b = a then f a else 0) + (if arcE Q b j then f b else 0)) n := by
        apply sumTo_congr
        intro b _
        by_cases hb : b = a
        · subst hb
          have hno : arcE Q b j = false := by
            cases h : arcE Q b j with
            | false => rfl
            | true => exact absurd rfl (h1 _ (arcE_iff.1 h))
          have hyes : arcE (((b : Int), (j : Int)) :: Q) b j = true := arcE_iff.2 (by simp)
          rw [hyes, hno]; simp
        · have : arcE (((a : Int), (j : Int)) :: Q) b j = arcE Q b j := by
            rw [Bool.eq_iff_iff, arcE_iff, arcE_iff, List.mem_cons]
            constructor
            · rintro (h | h)
              · exact absurd (by have := (Prod.mk.inj h).1; omega) hb
              · exact h
            · exact .inr
          rw [this, if_neg hb]; omega
      rw [e, sumTo_add, sumTo_one _ han]
    · rw [if_neg hp, Nat.zero_add]
      apply sumTo_congr
      intro b _
      have : arcE (((a : Int), p2) :: Q) b j = arcE Q b j := by
        rw [Bool.eq_iff_iff, arcE_iff, arcE_iff, List.mem_cons]
        constructor
        · rintro (h | h)
          · exact absurd (Prod.mk.inj h).2.symm hp
          · exact h
        · exact .inr
      rw [this]
theorem wq_end {n f k : Nat} {l : AL} (g : GoodA n l) (j : Nat) : wq l n f k l j = wk (arcE l) n f (k + 1) j := by
  unfold wq
  rw [sum_arcs (fun a => wk (arcE l) n f k a) j n (g.srt.imp (fun h e => by subst e; exact arcLt_irr h)) (fun p hp => (g.rng p hp).1)]
  rfl
theorem wq_le {n f k : Nat} {l : AL} (g : GoodA n l) (m j : Nat) : wq l n f k (l.take m) j ≤ wk (arcE l) n f (k + 1) j := by
  rw [← wq_end g]
  unfold wq
  generalize (fun p : Int × Int => if p.2 = (j : Int) then wk (arcE l) n f k p.1.toNat else 0) = F
  have e : l = l.take m ++ l.drop m := (List.take_append_drop m l).symm
  conv => rhs; rw [e]
  rw [List.map_append, List.sum_append]
  omega
/-- what FnEnough asks of the counts -/
theorem wk_sum (E : Nat → Nat → Bool) (n f k j : Nat) : wk E n f (k + 1) j = sumTo (fun a => if E a j then wk E n f k a else 0) n := rfl
/-- the layers -/
def layer (n : Nat) (l : AL) (k : Nat) : AL := l.map (fun p => ((k : Int) * n + p.1, ((k : Int) + 1) * n + p.2))
def layL (n : Nat) (l : AL) : Nat → AL
  | 0 => []
  | m + 1 => layL n l m ++ layer n l m
theorem lay_len (n : Nat) (l : AL) (m : Nat) : (layL n l m).length = m * l.length := by
  induction m with
  | zero => simp [layL]
  | succ m ih => simp only [layL, List.length_append, ih, layer, List.length_map, Nat.succ_mul]
theorem lay_mem {n : Nat} {l : AL} {m : Nat} {x : Int × Int} : x ∈ layL n l m ↔ ∃ k, k < m ∧ ∃ p, p ∈ l ∧ x = ((k : Int) * n + p.1, ((k : Int) + 1) * n + p.2) := by
  induction m with
  | zero => simp [layL]
  | succ m ih =>
    simp only [layL, List.mem_append, ih, layer, List.mem_map]
    constructor
    · rintro (⟨k, hk, p, hp, rfl⟩ | ⟨p, hp, rfl⟩)
      · exact ⟨k, by omega, p, hp, rfl⟩
      · exact ⟨m, by omega, p, hp, rfl⟩
    · rintro ⟨k, hk, p, hp, rfl⟩
      rcases Nat.lt_or_ge k m with q | q
      · exact .inl ⟨k, q, p, hp, rfl⟩
      · have : k = m := by omega
        subst this
        exact .inr ⟨p, hp, rfl⟩
theorem layer_snoc (n : Nat) (l : AL) (k : Nat) {i : Nat} {p : Int × Int} (h : l[i]? = some p) : layer n (l.take (i + 1)) k = layer n (l.take i) k ++ [((k : Int) * n + p.1, ((k : Int) + 1) * n + p.2)] := by
  unfold layer
  rw [take_snocP h, List.map_append]
  rfl
/-- an arc between two layers is one of the graph: numbers of a walk -/
theorem lay_has {n : Nat} {l : AL} (g : GoodA n l) {m i : Nat} (hi : i < m) {a b : Int} (ha : 0 ≤ a ∧ a < n) (hb : 0 ≤ b ∧ b < n) :
    ((i : Int) * n + a, ((i : Int) + 1) * n + b) ∈ layL n l m ↔ (a, b) ∈ l := by
  rw [lay_mem]
  constructor
  · rintro ⟨k, _, p, hp, he⟩
    obtain ⟨x, y, rfl, hx, hy, _⟩ := g.nat hp
    obtain ⟨h1, h2⟩ := Prod.mk.inj he
    obtain ⟨a', rfl⟩ := Int.eq_ofNat_of_zero_le ha.1
    obtain ⟨b', rfl⟩ := Int.eq_ofNat_of_zero_le hb.1
    have q1 : i * n + a' = k * n + x := by
      have : ((i * n + a' : Nat) : Int) = ((k * n + x : Nat) : Int) := by push_cast; exact h1
      omega
    have q2 : (i + 1) * n + b' = (k + 1) * n + y := by
      have : (((i + 1) * n + b' : Nat) : Int) = (((k + 1) * n + y : Nat) : Int) := by push_cast; exact h2
      omega
    obtain ⟨_, rfl, rfl⟩ := (laid_arc (n := n) (a := x) (b := y) (k := k) (m := i) (x := a') (y := b') hx hy (by omega)).1 ⟨q1, q2⟩
    exact hp
  · intro h
    exact ⟨i, hi, (a, b), h, rfl⟩
/-- what FnLaidOut asks of each arc of the layers -/
theorem lay_each {n : Nat} {l : AL} (g : GoodA n l) {m : Nat} {x : Int × Int} (hx : x ∈ layL n l m) :
    ∃ (k a b : Nat), k < m ∧ a < n ∧ b < n ∧ x = (((k * n + a : Nat) : Int), (((k + 1) * n + b : Nat) : Int)) ∧ (k * n + a) / n = k ∧ ((k + 1) * n + b) / n = k + 1 ∧ (k * n + a) % n = a ∧ ((k + 1) * n + b) % n = b ∧ ((a : Int), (b : Int)) ∈ l := by
  obtain ⟨k, hk, p, hp, rfl⟩ := lay_mem.1 hx
  obtain ⟨a, b, rfl, ha, hb, _⟩ := g.nat hp
  exact ⟨k, a, b, hk, ha, hb, by push_cast; rfl, (laid_div ha).1, (laid_div hb).1, (laid_div ha).2, (laid_div hb).2, hp⟩
theorem lay_bound {n : Nat} {l : AL} (g : GoodA n l) {m : Nat} (hm : m ≤ 7) {x : Int × Int} (hx : x ∈ layL n l m) : (0 ≤ x.1 ∧ x.1 ≤ 47) ∧ (0 ≤ x.2 ∧ x.2 ≤ 47) := by
  obtain ⟨k, a, b, hk, ha, hb, rfl, -⟩ := lay_each g hx
  have h6 := g.hi
  have h1 : k * n ≤ 6 * 6 := Nat.mul_le_mul (by omega) h6
  have h2 : (k + 1) * n ≤ 7 * 6 := Nat.mul_le_mul (by omega) h6
  simp only
  omega
/-- a walk, as far as its first k steps -/
def walkB (l : AL) (w : List Int) (k : Nat) : Bool := (List.range k).all (fun i => decide ((w.getD i 0, w.getD (i + 1) 0) ∈ l))
theorem walk_zero (l : AL) (w : List Int) : walkB l w 0 = true := rfl
theorem walk_succ (l : AL) (w : List Int) (k : Nat) : walkB l w (k + 1) = (walkB l w k && decide ((w.getD k 0, w.getD (k + 1) 0) ∈ l)) := by
  unfold walkB
  rw [List.range_succ, List.all_append]
  simp
theorem walk_no {l : AL} {w : List Int} {k m : Nat} (h : k < m) (hn : (w.getD k 0, w.getD (k + 1) 0) ∉ l) : walkB l w m = false := by
  unfold walkB
  rw [List.all_eq_false]
  exact ⟨k, by simpa using h, by simpa using hn⟩
/-- the numbers of a walk's vertices -/
def laidW (n : Nat) (w : List Int) : List Int := (List.range w.length).map (fun (k : Nat) => (k : Int) * n + w.getD k 0)
theorem laidW_len (n : Nat) (w : List Int) : (laidW n w).length = w.length := by simp [laidW]
theorem laidW_at {n : Nat} {w : List Int} {k : Nat} {s : Int} (h : w[k]? = some s) : (laidW n w)[k]? = some ((k : Int) * n + s) := by
  have hk := (List.getElem?_eq_some_iff.1 h).1
  unfold laidW
  rw [List.getElem?_map, List.getElem?_range hk]
  simp [List.getD, h]
theorem laidW_take {n : Nat} {w : List Int} {k : Nat} {s : Int} (h : w[k]? = some s) : (laidW n w).take (k + 1) = (laidW n w).take k ++ [(k : Int) * n + s] := take_snocP (laidW_at h)
/-- a walk of the graph is a path through its layers -/
theorem walk_laid {n : Nat} {l : AL} (g : GoodA n l) {w : List Int} (hw : ∀ s ∈ w, 0 ≤ s ∧ s < n) {k : Nat} (hk : k + 1 ≤ w.length) : walkB (layL n l (w.length - 1)) (laidW n w) k = walkB l w k := by
  induction k with
  | zero => rfl
  | succ k ih =>
    rw [walk_succ, walk_succ, ih (by omega)]
    congr 1
    have h1 : w[k]? = some (w.getD k 0) := by rw [List.getD, List.getElem?_eq_getElem (by omega)]; rfl
    have h2 : w[k + 1]? = some (w.getD (k + 1) 0) := by rw [List.getD, List.getElem?_eq_getElem (by omega)]; rfl
    have e1 : (laidW n w).getD k 0 = (k : Int) * n + w.getD k 0 := by rw [List.getD, laidW_at h1]; rfl
    have e2 : (laidW n w).getD (k + 1) 0 = ((k : Int) + 1) * n + w.getD (k + 1) 0 := by rw [List.getD, laidW_at h2]; push_cast; rfl
    rw [e1, e2, decide_eq_decide]
    exact lay_has g (by omega) (hw _ (List.mem_of_getElem? h1)) (hw _ (List.mem_of_getElem? h2))
end Go.Proofs.Ytbmmajdacebncaa
