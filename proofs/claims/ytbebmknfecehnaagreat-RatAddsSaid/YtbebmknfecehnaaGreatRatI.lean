/- Fractions: what the program reckons (sums over what the lower parts have in common, products put into lowest terms crosswise, the order by products). Mathematics alone. -/
import Derived.Test.YtbebmknfecehnaaGreatRatA
namespace Go.Proofs.YtbebmknfecehnaaGreat.rat
open Go.RowKit Go.Proofs.YtbebmknfecehnaaGreat.num Go.Proofs.YtbebmknfecehnaaGreat.mem Go.Proofs.YtbebmknfecehnaaGreat.nat Go.Proofs.YtbebmknfecehnaaGreat.txt Go.Proofs.YtbebmknfecehnaaGreat.str Go.Proofs.YtbebmknfecehnaaGreat.flow Go.Proofs.YtbebmknfecehnaaGreat.whl
set_option linter.unusedVariables false

theorem mk_num_eq (z : Int) {d : Nat} (hd : d ≠ 0) : (mkRat z d).num = z / ((z.natAbs.gcd d : Nat) : Int) := by
  rw [Rat.num_mkRat, if_neg hd, Nat.gcd_comm]
/-- The upper part, and what it divides. -/
theorem mk_upper (z : Int) {d : Nat} (hd : d ≠ 0) : z = (mkRat z d).num * ((z.natAbs.gcd d : Nat) : Int) := by
  rw [mk_num_eq z hd, Int.ediv_mul_cancel (Int.ofNat_dvd_left.2 (Nat.gcd_dvd_left _ _))]
theorem mk_lower (z : Int) {d : Nat} (hd : d ≠ 0) : d = (mkRat z d).den * (z.natAbs.gcd d) := by
  rw [mk_den z hd, Nat.div_mul_cancel (Nat.gcd_dvd_right _ _)]
/-- A fraction by its own parts, which nothing divides. -/
theorem parts_of {q : Rat} {n : Int} {d : Nat} (hd : d ≠ 0) (h : q = mkRat n d) (hc : Nat.gcd n.natAbs d = 1) : q.num = n ∧ q.den = d := by
  subst h
  constructor
  · rw [mk_num_eq n hd, hc]; exact Int.ediv_one n
  · rw [mk_den n hd, hc, Nat.div_one]
theorem mul_parts (x y : Rat) : (x * y).num = (mkRat x.num y.den).num * (mkRat y.num x.den).num ∧ (x * y).den = (mkRat y.num x.den).den * (mkRat x.num y.den).den := by
  have e1 := mk_upper x.num y.den_nz
  have e2 := mk_lower x.num y.den_nz
  have e3 := mk_upper y.num x.den_nz
  have e4 := mk_lower y.num x.den_nz
  have r1 := (mkRat x.num y.den).reduced
  have r2 := (mkRat y.num x.den).reduced
  have n1 := (mkRat x.num y.den).den_nz
  have n2 := (mkRat y.num x.den).den_nz
  have x1 := x.reduced
  have y1 := y.reduced
  refine parts_of (Nat.mul_ne_zero n2 n1) ?_ ?_
  · rw [Nat.mul_comm, ← Rat.mkRat_mul_mkRat, Rat.mkRat_self, Rat.mkRat_self, Rat.mkRat_mul_mkRat, Nat.mul_comm y.den, Rat.mul_def']
  · have d1 : (mkRat x.num y.den).num.natAbs ∣ x.num.natAbs := Int.natAbs_dvd_natAbs.2 ⟨_, e1⟩
    have d2 : (mkRat y.num x.den).den ∣ x.den := ⟨_, e4⟩
    have d3 : (mkRat y.num x.den).num.natAbs ∣ y.num.natAbs := Int.natAbs_dvd_natAbs.2 ⟨_, e3⟩
    have d4 : (mkRat x.num y.den).den ∣ y.den := ⟨_, e2⟩
    rw [Int.natAbs_mul]
    have c1 : Nat.Coprime (mkRat x.num y.den).num.natAbs (mkRat y.num x.den).den := Nat.Coprime.coprime_dvd_left d1 (Nat.Coprime.coprime_dvd_right d2 x1)
    have c2 : Nat.Coprime (mkRat y.num x.den).num.natAbs (mkRat x.num y.den).den := Nat.Coprime.coprime_dvd_left d3 (Nat.Coprime.coprime_dvd_right d4 y1)
    exact (Nat.Coprime.mul_right c1 r1).mul_left (Nat.Coprime.mul_right r2 c2)
theorem add_parts (x y : Rat) {g a b : Nat} (hg : g = x.den.gcd y.den) (ha : a = x.den / g) (hb : b = y.den / g) : (x + y).num = (mkRat (x.num * (b : Int) + y.num * (a : Int)) g).num ∧ (x + y).den = a * b * (mkRat (x.num * (b : Int) + y.num * (a : Int)) g).den := by
  have gp : 0 < g := by rw [hg]; exact Nat.gcd_pos_of_pos_left _ x.den_pos
  have haux := Rat.add.aux x y hg ha hb
  have e1 : x.den = a * g := by rw [ha, Nat.div_mul_cancel (by rw [hg]; exact Nat.gcd_dvd_left _ _)]
  have e2 : y.den = b * g := by rw [hb, Nat.div_mul_cancel (by rw [hg]; exact Nat.gcd_dvd_right _ _)]
  obtain ⟨S, hS⟩ : ∃ S, S = x.num * (b : Int) + y.num * (a : Int) := ⟨_, rfl⟩
  rw [← hS]
  have haux : S.natAbs.gcd g = S.natAbs.gcd (a * y.den) := by rw [hS]; exact haux
  have e3 : x + y = mkRat S (a * y.den) := by
    rw [Rat.add_def', show x.num * (y.den : Int) + y.num * (x.den : Int) = S * (g : Int) by rw [hS, e1, e2, Int.natCast_mul, Int.natCast_mul, Int.add_mul, Int.mul_assoc, Int.mul_assoc], show x.den * y.den = a * y.den * g by rw [e1]; rw [Nat.mul_assoc, Nat.mul_comm g, ← Nat.mul_assoc], Rat.mkRat_mul_right (by omega)]
  have ne : a * y.den ≠ 0 := Nat.mul_ne_zero (fun e => x.den_nz (by rw [e1, e, Nat.zero_mul])) y.den_nz
  rw [e3]
  constructor
  · rw [mk_num_eq S ne, mk_num_eq S (by omega), haux]
  · rw [mk_den S ne, mk_den S (by omega), ← haux, e2, ← Nat.mul_assoc, Nat.mul_div_assoc _ (Nat.gcd_dvd_right _ _)]
theorem neg_make (n : Int) (d : Nat) (hd : d ≠ 0) : mkRat (-n) d = -mkRat n d := Rat.neg_mkRat n d |>.symm
/-- The order by products crosswise. -/
theorem ordq_cross (x y : Rat) : ordq x y = ordz (x.num * ((y.den : Nat) : Int)) (y.num * ((x.den : Nat) : Int)) := by
  unfold ordq ordz
  simp only [Rat.lt_iff]
theorem eq_parts {x y : Rat} : x = y ↔ x.num = y.num ∧ x.den = y.den := ⟨fun h => by rw [h]; exact ⟨rfl, rfl⟩, fun h => Rat.ext h.1 h.2⟩
theorem lenQ_of {x : Rat} {m : Nat} (h1 : lenZ x.num ≤ m) (h2 : (digs 4294967296 x.den).length ≤ m) : lenQ x m := ⟨h1, h2⟩
end Go.Proofs.YtbebmknfecehnaaGreat.rat
