/- Plain mathematics of layer 4: a division bit by bit. No program stands here. -/
import Derived.Test.YtcgmbmiingppgaaDivN
namespace Go.Proofs.Ytcgmbmiingppgaa.num
set_option linter.unusedVariables false

/-- What Plain's loop keeps of the quotient while k bits are still to come. -/
def PL (B x y n : Nat) (O : List Nat) (k : Nat) : Prop := Lt B O ∧ O.length = n ∧ val B O = x / 2 ^ k / y * 2 ^ k
theorem split_at {B : Nat} {l : List Nat} (hl : Lt B l) {i d : Nat} (hd : l[i]? = some d) : val B l / B ^ i = d + B * val B (l.drop (i + 1)) := by
  have il : i < l.length := (List.getElem?_eq_some_iff.1 hd).1
  have h1 := val_append B (l.take i) (l.drop i)
  have h2 := val_lt (hl.take i)
  rw [List.take_append_drop] at h1
  rw [show (l.take i).length = i from by simp; omega] at h1 h2
  rw [h1, Nat.add_mul_div_left _ _ (by omega), Nat.div_eq_of_lt h2, Nat.zero_add, val_drop_step hd]
theorem two_split (j : Nat) : (2 : Nat) ^ j = 4294967296 ^ (j / 32) * 2 ^ (j % 32) := by
  rw [show (4294967296 : Nat) = 2 ^ 32 from by decide, ← Nat.pow_mul, ← Nat.pow_add, Nat.div_add_mod]
theorem base_split {b : Nat} (h : b < 32) : (4294967296 : Nat) = 2 ^ (b + 1) * 2 ^ (31 - b) := by
  rw [← Nat.pow_add, show b + 1 + (31 - b) = 32 by omega]
/-- A bit of a number is a bit of one of its limbs. -/
theorem bit_at {x j d : Nat} (hd : (digs 4294967296 x)[j / 32]? = some d) : d / 2 ^ (j % 32) % 2 = x / 2 ^ j % 2 := by
  have h1 := split_at (digs_lt (B := 4294967296) (by omega) x) hd
  rw [val_digs (by omega)] at h1
  rw [two_split j, ← Nat.div_div_eq_div_mul, h1]
  have hb := base_split (b := j % 32) (Nat.mod_lt _ (by omega))
  generalize val 4294967296 ((digs 4294967296 x).drop (j / 32 + 1)) = r
  rw [hb, Nat.pow_succ, Nat.mul_assoc, Nat.mul_assoc, Nat.add_mul_div_left _ _ (Nat.pow_pos (by omega))]
  omega
/-- The limb of the quotient in which a bit is set has noughts up to that bit. -/
theorem limb_even {O : List Nat} {j o q : Nat} (hO : Lt 4294967296 O) (ho : O[j / 32]? = some o) (hv : val 4294967296 O = q * 2 ^ (j + 1)) : ∃ t, o = 2 ^ (j % 32 + 1) * t := by
  have h1 := split_at hO ho
  have hb := base_split (b := j % 32) (Nat.mod_lt _ (by omega))
  have e : val 4294967296 O / 4294967296 ^ (j / 32) = 2 ^ (j % 32 + 1) * q := by
    rw [hv, Nat.pow_succ, two_split j, Nat.pow_succ]
    have : q * (4294967296 ^ (j / 32) * 2 ^ (j % 32) * 2) = 4294967296 ^ (j / 32) * (2 ^ (j % 32) * 2 * q) := by simp only [Nat.mul_assoc, Nat.mul_comm]
    rw [this, Nat.mul_div_cancel_left _ (Nat.pow_pos (by omega))]
  rw [e] at h1
  have h2 : 2 ^ (j % 32 + 1) ∣ o := by
    have a1 : 2 ^ (j % 32 + 1) ∣ 4294967296 * val 4294967296 (O.drop (j / 32 + 1)) := ⟨2 ^ (31 - j % 32) * val 4294967296 (O.drop (j / 32 + 1)), by rw [← Nat.mul_assoc, ← hb]⟩
    have a2 : 2 ^ (j % 32 + 1) ∣ o + 4294967296 * val 4294967296 (O.drop (j / 32 + 1)) := ⟨q, h1.symm⟩
    exact (Nat.dvd_add_left a1).1 a2
  exact h2
theorem or_add {b t : Nat} : (2 ^ (b + 1) * t) ||| 2 ^ b = 2 ^ (b + 1) * t + 2 ^ b := by
  rw [Nat.two_pow_add_eq_or_of_lt (Nat.pow_lt_pow_right (by omega) (by omega))]
theorem limb_room {b t : Nat} (hb : b < 32) (h : 2 ^ (b + 1) * t < 4294967296) : 2 ^ (b + 1) * t + 2 ^ b < 4294967296 := by
  have h1 := base_split hb
  rw [h1] at h ⊢
  have h2 : t < 2 ^ (31 - b) := Nat.lt_of_mul_lt_mul_left h
  have h3 := Nat.mul_le_mul_left (2 ^ (b + 1)) h2
  have h4 : 2 ^ b < 2 ^ (b + 1) := Nat.pow_lt_pow_right (by omega) (by omega)
  rw [Nat.mul_succ] at h3
  omega
theorem PL.start {B x y n k : Nat} (hB : 0 < B) (h : x < 2 ^ k) : PL B x y n (List.replicate n 0) k := by
  refine ⟨Lt.rep hB n, by simp, ?_⟩
  rw [val_rep, Nat.div_eq_of_lt h]; simp
theorem half_step (x j : Nat) : x / 2 ^ j = 2 * (x / 2 ^ (j + 1)) + x / 2 ^ j % 2 := by
  rw [Nat.pow_succ, ← Nat.div_div_eq_div_mul]; omega
/-- One bit more: the quotient and what is left of the number's upper bits. -/
theorem bit_less {x y j r b : Nat} (hy : 0 < y) (hr : r = x / 2 ^ (j + 1) % y) (hb : b = x / 2 ^ j % 2) (h : r * 2 + b < y) : x / 2 ^ j % y = r * 2 + b ∧ x / 2 ^ j / y = 2 * (x / 2 ^ (j + 1) / y) := by
  have h1 := half_step x j
  have h2 := Nat.mod_add_div (x / 2 ^ (j + 1)) y
  have h3 : 2 * (x / 2 ^ (j + 1) / y) * y + (r * 2 + b) = x / 2 ^ j := by
    rw [h1, ← hb, hr]
    have : 2 * (x / 2 ^ (j + 1) / y) * y = 2 * (y * (x / 2 ^ (j + 1) / y)) := by rw [Nat.mul_assoc, Nat.mul_comm y]
    omega
  constructor
  · rw [← h3, Nat.mul_comm _ y, Nat.mul_add_mod, Nat.mod_eq_of_lt h]
  · rw [← h3, Nat.mul_comm _ y, Nat.mul_add_div hy, Nat.div_eq_of_lt h, Nat.add_zero]
theorem bit_more {x y j r b : Nat} (hy : 0 < y) (hr : r = x / 2 ^ (j + 1) % y) (hb : b = x / 2 ^ j % 2) (h : y ≤ r * 2 + b) : x / 2 ^ j % y = r * 2 + b - y ∧ x / 2 ^ j / y = 2 * (x / 2 ^ (j + 1) / y) + 1 := by
  have h1 := half_step x j
  have h2 := Nat.mod_add_div (x / 2 ^ (j + 1)) y
  have hry : r < y := by rw [hr]; exact Nat.mod_lt _ hy
  have hlt : r * 2 + b - y < y := by omega
  have h3 : (2 * (x / 2 ^ (j + 1) / y) + 1) * y + (r * 2 + b - y) = x / 2 ^ j := by
    rw [h1, ← hb]
    have e : (2 * (x / 2 ^ (j + 1) / y) + 1) * y = 2 * (y * (x / 2 ^ (j + 1) / y)) + y := by rw [Nat.add_mul, Nat.mul_assoc, Nat.mul_comm y]; omega
    omega
  constructor
  · rw [← h3, Nat.mul_comm _ y, Nat.mul_add_mod, Nat.mod_eq_of_lt hlt]
  · rw [← h3, Nat.mul_comm _ y, Nat.mul_add_div hy, Nat.div_eq_of_lt hlt, Nat.add_zero]
theorem PL.stay {B x y n j : Nat} {O : List Nat} (h : PL B x y n O (j + 1)) (hq : x / 2 ^ j / y = 2 * (x / 2 ^ (j + 1) / y)) : PL B x y n O j := by
  obtain ⟨h1, h2, h3⟩ := h
  refine ⟨h1, h2, ?_⟩
  rw [h3, hq, Nat.pow_succ]; simp only [Nat.mul_assoc, Nat.mul_left_comm, Nat.mul_comm]
theorem PL.set {x y n j o : Nat} {O : List Nat} (h : PL 4294967296 x y n O (j + 1)) (ho : O[j / 32]? = some o) (hq : x / 2 ^ j / y = 2 * (x / 2 ^ (j + 1) / y) + 1) : (o ||| 2 ^ (j % 32) = o + 2 ^ (j % 32)) ∧ o + 2 ^ (j % 32) < 4294967296 ∧ PL 4294967296 x y n (O.set (j / 32) (o + 2 ^ (j % 32))) j := by
  obtain ⟨h1, h2, h3⟩ := h
  obtain ⟨t, ht⟩ := limb_even h1 ho h3
  have ho1 := h1.at ho
  have hr := limb_room (b := j % 32) (t := t) (Nat.mod_lt _ (by omega)) (by rw [← ht]; exact ho1)
  rw [← ht] at hr
  refine ⟨by rw [ht]; exact or_add, hr, h1.set hr _, by simpa using h2, ?_⟩
  have e := val_set (B := 4294967296) ho (o + 2 ^ (j % 32))
  rw [Nat.mul_add, ← two_split] at e
  rw [hq, Nat.add_mul]
  have e2 : 2 * (x / 2 ^ (j + 1) / y) * 2 ^ j = x / 2 ^ (j + 1) / y * 2 ^ (j + 1) := by rw [Nat.pow_succ]; simp only [Nat.mul_assoc, Nat.mul_left_comm, Nat.mul_comm]
  omega
theorem PL.done {B x y n : Nat} {O : List Nat} (h : PL B x y n O 0) : Lt B O ∧ O.length = n ∧ val B O = x / y := by
  obtain ⟨h1, h2, h3⟩ := h
  simp at h3
  exact ⟨h1, h2, h3⟩
end Go.Proofs.Ytcgmbmiingppgaa.num
