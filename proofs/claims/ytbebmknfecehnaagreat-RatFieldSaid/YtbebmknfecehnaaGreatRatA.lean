/- Fractions: mathematics (Lean's own Rat: its parts, what putting into lowest terms does to them, order), and what a value is that reads as a fraction. No program stands here. -/
import Derived.Test.YtbebmknfecehnaaGreatWhlA
namespace Go.Proofs.YtbebmknfecehnaaGreat.rat
open Go.RowKit Go.Proofs.YtbebmknfecehnaaGreat.num Go.Proofs.YtbebmknfecehnaaGreat.mem Go.Proofs.YtbebmknfecehnaaGreat.nat Go.Proofs.YtbebmknfecehnaaGreat.txt Go.Proofs.YtbebmknfecehnaaGreat.str Go.Proofs.YtbebmknfecehnaaGreat.flow Go.Proofs.YtbebmknfecehnaaGreat.whl
set_option linter.unusedVariables false

theorem div_parts (z : Int) (g : Nat) (hg : 0 < g) (h : g ∣ z.natAbs) : (z / (g : Int)).natAbs = z.natAbs / g ∧ (z / (g : Int) < 0 ↔ z < 0) := by
  obtain ⟨k, hk⟩ : (g : Int) ∣ z := Int.dvd_natAbs.1 (Int.natCast_dvd_natCast.2 h)
  have hg2 : (g : Int) ≠ 0 := by omega
  rw [hk, Int.mul_ediv_cancel_left _ hg2, Int.natAbs_mul, Int.natAbs_natCast, Nat.mul_div_cancel_left _ hg]
  refine ⟨rfl, ?_⟩
  have hg3 : (0 : Int) < g := by omega
  constructor
  · intro hk0
    exact Int.mul_neg_of_pos_of_neg hg3 hk0
  · intro hk0
    rcases (by omega : k < 0 ∨ 0 ≤ k) with h1 | h1
    · exact h1
    · have := Int.mul_nonneg (Int.le_of_lt hg3) h1
      omega
/-- In lowest terms. -/
theorem mk_num (z : Int) {d : Nat} (hd : d ≠ 0) : (mkRat z d).num.natAbs = z.natAbs / z.natAbs.gcd d := by
  rw [Rat.num_mkRat, if_neg hd, Nat.gcd_comm]
  exact (div_parts z _ (Nat.gcd_pos_of_pos_right _ (by omega)) (Nat.gcd_dvd_left _ _)).1
theorem mk_neg (z : Int) {d : Nat} (hd : d ≠ 0) : ngB (mkRat z d).num = ngB z := by
  rw [Rat.num_mkRat, if_neg hd, Nat.gcd_comm]
  unfold ngB
  rw [decide_eq_decide]
  exact (div_parts z _ (Nat.gcd_pos_of_pos_right _ (by omega)) (Nat.gcd_dvd_left _ _)).2
theorem mk_den (z : Int) {d : Nat} (hd : d ≠ 0) : (mkRat z d).den = d / z.natAbs.gcd d := by
  rw [Rat.den_mkRat, if_neg hd, Nat.gcd_comm]
theorem den_pos (q : Rat) : 0 < q.den := Nat.pos_of_ne_zero q.den_nz
/-- The parts of an answer. -/
theorem inv_parts {q : Rat} (h : q ≠ 0) : (q⁻¹).num = sg (ngB q.num) q.den ∧ (q⁻¹).den = q.num.natAbs := by
  have hn : q.num ≠ 0 := fun e => h (Rat.num_eq_zero.1 e)
  rw [Rat.num_inv, Rat.den_inv, if_neg hn]
  refine ⟨?_, rfl⟩
  unfold sg ngB
  rcases Int.lt_or_gt_of_ne hn with h1 | h1
  · rw [Int.sign_eq_neg_one_of_neg h1, if_pos (decide_eq_true h1)]; omega
  · rw [Int.sign_eq_one_of_pos h1, if_neg (by rw [decide_eq_true_eq]; omega)]; omega
theorem neg_parts (q : Rat) : (-q).num = -q.num ∧ (-q).den = q.den := ⟨Rat.neg_num q, Rat.neg_den q⟩

/-- -1, 0 or 1: less, the same, greater. -/
def ordq (x y : Rat) : Int := if x < y then -1 else if y < x then 1 else 0
theorem num_lt {q : Rat} : q.num < 0 ↔ q < 0 := by
  rw [← Rat.not_le, ← Rat.num_nonneg]; omega
theorem sub_lt {x y : Rat} : x - y < 0 ↔ x < y := by
  have h := @Rat.add_lt_add_right x y (-y)
  rw [Rat.add_neg_cancel] at h
  rw [Rat.sub_eq_add_neg]; exact h
theorem sub_num (x y : Rat) : (y - x).num = -(x - y).num := by
  rw [← Rat.neg_num, Rat.neg_sub]
theorem ordq_sub (x y : Rat) : ordz (x - y).num 0 = ordq x y := by
  have h1 : (x - y).num < 0 ↔ x < y := num_lt.trans sub_lt
  have h2 : (y - x).num < 0 ↔ y < x := num_lt.trans sub_lt
  rw [sub_num x y] at h2
  unfold ordz ordq
  by_cases a : x < y
  · rw [if_pos a, if_pos (h1.2 a)]
  · rw [if_neg a, if_neg (fun h => a (h1.1 h))]
    by_cases b : y < x
    · rw [if_pos b, if_pos (by have := h2.2 b; omega)]
    · rw [if_neg b, if_neg (fun h => b (h2.1 (by omega)))]
theorem ordq_add (a b c : Rat) : ordq (a + c) (b + c) = ordq a b := by
  unfold ordq; simp only [Rat.add_lt_add_right]
theorem ordq_zero {x y : Rat} : ordq x y = 0 ↔ x = y := by
  unfold ordq
  constructor
  · intro h
    by_cases a : x < y
    · rw [if_pos a] at h; omega
    · rw [if_neg a] at h
      by_cases b : y < x
      · rw [if_pos b] at h; omega
      · exact Rat.le_antisymm (Rat.not_lt.1 b) (Rat.not_lt.1 a)
  · rintro rfl
    rw [if_neg Rat.lt_irrefl, if_neg Rat.lt_irrefl]

theorem divInt_lt {n d : Int} (h : d < 0) : Rat.divInt n d = mkRat (-n) d.natAbs := by
  rw [← Rat.neg_divInt_neg, show -d = ((d.natAbs : Nat) : Int) by omega, Rat.divInt_ofNat]
theorem divInt_gt {n d : Int} (h : 0 < d) : Rat.divInt n d = mkRat n d.natAbs := by
  conv => lhs; rw [show d = ((d.natAbs : Nat) : Int) by omega, Rat.divInt_ofNat]
theorem mk_one {n : Int} {d : Nat} (hd : d ≠ 0) : mkRat n d = 1 ↔ n = d := by
  have h : (1 : Rat) = mkRat 1 1 := rfl
  rw [h, Rat.mkRat_eq_iff hd (by omega)]; omega
/-- Sizes: limbs of both parts. -/
def lenQ (q : Rat) (m : Nat) : Prop := lenZ q.num ≤ m ∧ (digs 4294967296 q.den).length ≤ m
theorem lenQ.mono {q : Rat} {m n : Nat} (h : lenQ q m) (hn : m ≤ n) : lenQ q n := ⟨Nat.le_trans h.1 hn, Nat.le_trans h.2 hn⟩
theorem lenQ_mk {z : Int} {d m : Nat} (hd : d ≠ 0) (hz : lenZ z ≤ m) (hl : (digs 4294967296 d).length ≤ m) : lenQ (mkRat z d) m := by
  refine ⟨Nat.le_trans (lenZ_mono ?_) hz, Nat.le_trans (digs_len_mono (by omega) ?_) hl⟩
  · rw [mk_num z hd]; exact Nat.div_le_self _ _
  · rw [mk_den z hd]; exact Nat.div_le_self _ _

theorem lenD (d : Nat) : lenZ (d : Int) = (digs 4294967296 d).length := by unfold lenZ; rw [Int.natAbs_natCast]
theorem lenQ_add {x y : Rat} {m n : Nat} (h : lenQ x m) (h' : lenQ y n) : lenQ (x + y) (2 * m + 2 * n + 1) := by
  rw [Rat.add_def']
  have e1 := lenZ_mul x.num y.den
  have e2 := lenZ_mul y.num x.den
  have e3 := lenZ_add (x.num * y.den) (y.num * x.den)
  have e4 := lenZ_mul x.den y.den
  have h1 := h.1; have h2 := h.2; have h3 := h'.1; have h4 := h'.2
  rw [lenD] at e1 e2
  rw [lenD, lenD, ← Int.natCast_mul, lenD] at e4
  exact lenQ_mk (Nat.mul_ne_zero x.den_nz y.den_nz) (by omega) (by omega)
theorem lenQ_mul {x y : Rat} {m n : Nat} (h : lenQ x m) (h' : lenQ y n) : lenQ (x * y) (m + n) := by
  rw [Rat.mul_def']
  have e1 := lenZ_mul x.num y.num
  have e4 := lenZ_mul x.den y.den
  have h1 := h.1; have h2 := h.2; have h3 := h'.1; have h4 := h'.2
  rw [lenD, lenD, ← Int.natCast_mul, lenD] at e4
  exact lenQ_mk (Nat.mul_ne_zero x.den_nz y.den_nz) (by omega) (by omega)
theorem lenQ_inv {q : Rat} {m : Nat} (hq : q ≠ 0) (h : lenQ q m) : lenQ q⁻¹ m := by
  unfold lenQ lenZ
  rw [(inv_parts hq).1, (inv_parts hq).2, sg_abs]
  exact ⟨h.2, h.1⟩
theorem lenQ_neg {q : Rat} {m : Nat} (h : lenQ q m) : lenQ (-q) m := by
  unfold lenQ
  rw [(neg_parts q).1, (neg_parts q).2, lenZ_neg]
  exact h
theorem lenQ_sub {x y : Rat} {m n : Nat} (h : lenQ x m) (h' : lenQ y n) : lenQ (x - y) (2 * m + 2 * n + 1) := by rw [Rat.sub_eq_add_neg]; exact lenQ_add h (lenQ_neg h')
theorem lenQ_div {x y : Rat} {m n : Nat} (hy : y ≠ 0) (h : lenQ x m) (h' : lenQ y n) : lenQ (x / y) (m + n) := by rw [Rat.div_def]; exact lenQ_mul h (lenQ_inv hy h')
/-- The value reads as this fraction: sign and size of its upper part, its lower part; limbs of the program. -/
def IsQ (w : World) (v : Value) (q : Rat) : Prop := ∃ u t, v = .agg #[.bool (ngB q.num), u, t] ∧ IsS w .u64 u (digs 4294967296 q.num.natAbs) ∧ IsS w .u64 t (digs 4294967296 q.den)
/-- The same of the document's own fractions. -/
def IsP (w : World) (v : Value) (q : Rat) : Prop := ∃ u t, v = .agg #[.bool (ngB q.num), u, t] ∧ IsS w .i64 u (digs 10000 q.num.natAbs) ∧ IsS w .i64 t (digs 10000 q.den)
def FreshQ (B : Nat) (v : Value) : Prop := ∀ n u t, v = .agg #[.bool n, u, t] → Fresh B u ∧ Fresh B t
theorem IsQ.below {w w' : World} {v : Value} {q : Rat} (h : IsQ w v q) (hb : Below w.heap.size w w') : IsQ w' v q := by
  obtain ⟨u, t, e, h1, h2⟩ := h
  exact ⟨u, t, e, h1.below hb, h2.below hb⟩
theorem IsP.below {w w' : World} {v : Value} {q : Rat} (h : IsP w v q) (hb : Below w.heap.size w w') : IsP w' v q := by
  obtain ⟨u, t, e, h1, h2⟩ := h
  exact ⟨u, t, e, h1.below hb, h2.below hb⟩
theorem isQ_mk {w : World} {b : Bool} {u t : Value} {x d : Nat} {q : Rat} (h : IsS w .u64 u (digs 4294967296 x)) (k : IsS w .u64 t (digs 4294967296 d)) (hb : b = ngB q.num) (hx : q.num.natAbs = x) (hd : q.den = d) : IsQ w (.agg #[.bool b, u, t]) q := by
  subst hb; subst hx; subst hd; exact ⟨u, t, rfl, h, k⟩
theorem isP_mk {w : World} {b : Bool} {u t : Value} {x d : Nat} {q : Rat} (h : IsS w .i64 u (digs 10000 x)) (k : IsS w .i64 t (digs 10000 d)) (hb : b = ngB q.num) (hx : q.num.natAbs = x) (hd : q.den = d) : IsP w (.agg #[.bool b, u, t]) q := by
  subst hb; subst hx; subst hd; exact ⟨u, t, rfl, h, k⟩
end Go.Proofs.YtbebmknfecehnaaGreat.rat
