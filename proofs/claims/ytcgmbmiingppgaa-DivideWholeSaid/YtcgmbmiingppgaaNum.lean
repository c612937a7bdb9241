/- Plain mathematics of numbers as lists of digits, the lowest first: value, the canonical digits of a number, trimming, comparing. No program stands here. -/
import Derived.WalkKit
namespace Go.Proofs.Ytcgmbmiingppgaa.num
set_option linter.unusedVariables false

/-- The number that a list of digits is, by base B. -/
def val (B : Nat) : List Nat → Nat
  | [] => 0
  | d :: l => d + B * val B l
/-- All are digits. -/
def Lt (B : Nat) (l : List Nat) : Prop := ∀ d ∈ l, d < B
/-- The digits of x, none of 0. -/
def digs (B x : Nat) : List Nat := if h : x = 0 ∨ B < 2 then [] else x % B :: digs B (x / B)
termination_by x
decreasing_by exact Nat.div_lt_self (by omega) (by omega)
/-- Without noughts at the end. -/
def trim : List Nat → List Nat
  | [] => []
  | d :: l => if trim l = [] ∧ d = 0 then [] else d :: trim l

theorem Lt.nil (B : Nat) : Lt B [] := fun d h => by simp at h
theorem Lt.cons {B d : Nat} {l : List Nat} (h : d < B) (hl : Lt B l) : Lt B (d :: l) := by
  intro x hx
  rcases List.mem_cons.1 hx with rfl | hx
  · exact h
  · exact hl x hx
theorem Lt.head {B d : Nat} {l : List Nat} (h : Lt B (d :: l)) : d < B := h d (by simp)
theorem Lt.tail {B d : Nat} {l : List Nat} (h : Lt B (d :: l)) : Lt B l := fun x hx => h x (by simp [hx])
theorem Lt.append {B : Nat} {l m : List Nat} (h : Lt B l) (k : Lt B m) : Lt B (l ++ m) := by
  intro x hx
  rcases List.mem_append.1 hx with hx | hx
  · exact h x hx
  · exact k x hx
theorem Lt.snoc {B d : Nat} {l : List Nat} (h : Lt B l) (hd : d < B) : Lt B (l ++ [d]) := h.append (Lt.cons hd (Lt.nil B))
theorem Lt.take {B : Nat} {l : List Nat} (h : Lt B l) (n : Nat) : Lt B (l.take n) := fun x hx => h x (List.mem_of_mem_take hx)
theorem Lt.drop {B : Nat} {l : List Nat} (h : Lt B l) (n : Nat) : Lt B (l.drop n) := fun x hx => h x (List.mem_of_mem_drop hx)
theorem Lt.at {B : Nat} {l : List Nat} (h : Lt B l) {i d : Nat} (hd : l[i]? = some d) : d < B := h d (List.mem_of_getElem? hd)
theorem Lt.set {B d : Nat} {l : List Nat} (h : Lt B l) (hd : d < B) (i : Nat) : Lt B (l.set i d) := by
  intro x hx
  rcases List.mem_or_eq_of_mem_set hx with hx | rfl
  · exact h x hx
  · exact hd
theorem Lt.rep {B : Nat} (hB : 0 < B) (n : Nat) : Lt B (List.replicate n 0) := by
  intro x hx
  rw [List.eq_of_mem_replicate hx]; exact hB
theorem Lt.more {B C : Nat} {l : List Nat} (h : Lt B l) (hC : B ≤ C) : Lt C l := fun x hx => Nat.lt_of_lt_of_le (h x hx) hC

theorem val_nil (B : Nat) : val B [] = 0 := rfl
theorem val_cons (B d : Nat) (l : List Nat) : val B (d :: l) = d + B * val B l := rfl
theorem val_append (B : Nat) (l m : List Nat) : val B (l ++ m) = val B l + B ^ l.length * val B m := by
  induction l with
  | nil => simp [val]
  | cons d l ih => rw [List.cons_append, val_cons, ih, val_cons, List.length_cons, Nat.pow_succ, Nat.mul_add, Nat.mul_comm (B ^ l.length) B, Nat.mul_assoc]; omega
theorem val_snoc (B : Nat) (l : List Nat) (d : Nat) : val B (l ++ [d]) = val B l + B ^ l.length * d := by rw [val_append]; simp [val]
theorem val_rep (B n : Nat) : val B (List.replicate n 0) = 0 := by
  induction n with
  | zero => rfl
  | succ n ih => rw [List.replicate_succ, val_cons, ih]; omega
theorem val_lt {B : Nat} {l : List Nat} (h : Lt B l) : val B l < B ^ l.length := by
  induction l with
  | nil => simp [val]
  | cons d l ih =>
    have h1 := ih h.tail
    have h2 := h.head
    rw [val_cons, List.length_cons, Nat.pow_succ, Nat.mul_comm (B ^ l.length) B]
    have h3 : B * (val B l + 1) ≤ B * B ^ l.length := Nat.mul_le_mul_left _ h1
    rw [Nat.mul_add] at h3
    omega

theorem digs_zero (B : Nat) : digs B 0 = [] := by rw [digs]; simp
theorem digs_pos {B x : Nat} (hB : 2 ≤ B) (hx : 0 < x) : digs B x = x % B :: digs B (x / B) := by
  rw [digs]; rw [dif_neg (by omega)]
theorem digs_lt {B : Nat} (hB : 2 ≤ B) (x : Nat) : Lt B (digs B x) := by
  induction x using Nat.strongRecOn with
  | ind x ih =>
    by_cases hx : x = 0
    · subst hx; rw [digs_zero]; exact Lt.nil B
    · rw [digs_pos hB (by omega)]
      exact Lt.cons (Nat.mod_lt _ (by omega)) (ih _ (Nat.div_lt_self (by omega) (by omega)))
theorem val_digs {B : Nat} (hB : 2 ≤ B) (x : Nat) : val B (digs B x) = x := by
  induction x using Nat.strongRecOn with
  | ind x ih =>
    by_cases hx : x = 0
    · subst hx; rw [digs_zero]; rfl
    · rw [digs_pos hB (by omega), val_cons, ih _ (Nat.div_lt_self (by omega) (by omega))]
      exact Nat.mod_add_div x B
theorem digs_nil_iff {B : Nat} (hB : 2 ≤ B) (x : Nat) : digs B x = [] ↔ x = 0 := by
  constructor
  · intro h
    have := val_digs hB x
    rw [h] at this; exact this.symm
  · rintro rfl; exact digs_zero B
theorem digs_len0 {B : Nat} (hB : 2 ≤ B) {x : Nat} : (digs B x).length = 0 ↔ x = 0 := by rw [List.length_eq_zero_iff]; exact digs_nil_iff hB x
theorem trim_digs {B : Nat} (hB : 2 ≤ B) {l : List Nat} (h : Lt B l) : trim l = digs B (val B l) := by
  induction l with
  | nil => rw [val_nil, digs_zero]; rfl
  | cons d l ih =>
    have hd := h.head
    have e := ih h.tail
    rw [trim, e, val_cons]
    by_cases hv : val B l = 0
    · rw [hv, digs_zero]
      by_cases hd0 : d = 0
      · subst hd0; simp [digs_zero]
      · rw [if_neg (by simp [hd0]), digs_pos hB (by omega)]
        have e1 : (d + B * 0) % B = d := by rw [Nat.mul_zero, Nat.add_zero]; exact Nat.mod_eq_of_lt hd
        have e2 : (d + B * 0) / B = 0 := by rw [Nat.mul_zero, Nat.add_zero]; exact Nat.div_eq_of_lt hd
        rw [e1, e2, digs_zero]
    · have hp : 0 < B * val B l := Nat.mul_pos (by omega) (by omega)
      rw [if_neg (by rintro ⟨h1, _⟩; exact hv ((digs_nil_iff hB _).1 h1)), digs_pos hB (x := d + B * val B l) (by omega)]
      have e1 : (d + B * val B l) % B = d := by rw [Nat.add_mul_mod_self_left]; exact Nat.mod_eq_of_lt hd
      have e2 : (d + B * val B l) / B = val B l := by rw [Nat.add_mul_div_left _ _ (by omega), Nat.div_eq_of_lt hd]; omega
      rw [e1, e2]
theorem trim_lt {B : Nat} (hB : 2 ≤ B) {l : List Nat} (h : Lt B l) : Lt B (trim l) := by rw [trim_digs hB h]; exact digs_lt hB _
theorem trim_val {B : Nat} (hB : 2 ≤ B) {l : List Nat} (h : Lt B l) : val B (trim l) = val B l := by rw [trim_digs hB h, val_digs hB]
theorem trim_snoc0 (l : List Nat) : trim (l ++ [0]) = trim l := by
  induction l with
  | nil => simp [trim]
  | cons d l ih => rw [List.cons_append, trim, ih, trim]
theorem trim_snoc (l : List Nat) {d : Nat} (h : d ≠ 0) : trim (l ++ [d]) = l ++ [d] := by
  induction l with
  | nil => simp [trim, h]
  | cons c l ih => rw [List.cons_append, trim, ih, if_neg (by simp)]
theorem trim_len_le (l : List Nat) : (trim l).length ≤ l.length := by
  induction l with
  | nil => simp [trim]
  | cons d l ih => rw [trim]; split <;> simp; exact ih
theorem trim_of_take {l : List Nat} {n d : Nat} (hn : l[n]? = some d) (hd : d ≠ 0) : trim (l.take (n + 1)) = l.take (n + 1) := by
  rw [List.take_add_one, hn]; exact trim_snoc _ hd
theorem trim_take0 {l : List Nat} {n : Nat} (hn : l[n]? = some 0) : trim (l.take (n + 1)) = trim (l.take n) := by
  rw [List.take_add_one, hn]; exact trim_snoc0 _
theorem trim_prefix (l : List Nat) : trim l = l.take (trim l).length := by
  induction l with
  | nil => simp [trim]
  | cons d l ih =>
    rw [trim]
    split
    · simp
    · rw [List.length_cons, List.take_succ_cons, ← ih]

theorem digs_len_le {B : Nat} (hB : 2 ≤ B) {x k : Nat} (h : x < B ^ k) : (digs B x).length ≤ k := by
  induction k generalizing x with
  | zero => rw [Nat.pow_zero] at h; obtain rfl : x = 0 := by omega
            rw [digs_zero]; simp
  | succ k ih =>
    by_cases hx : x = 0
    · subst hx; rw [digs_zero]; simp
    · rw [digs_pos hB (by omega), List.length_cons]
      have : (digs B (x / B)).length ≤ k := ih (by rw [Nat.pow_succ] at h; exact Nat.div_lt_of_lt_mul (by rw [Nat.mul_comm]; exact h))
      omega
theorem digs_lt_pow {B : Nat} (hB : 2 ≤ B) (x : Nat) : x < B ^ (digs B x).length := by
  have := val_lt (digs_lt hB x)
  rwa [val_digs hB] at this
theorem digs_len_mono {B : Nat} (hB : 2 ≤ B) {x y : Nat} (h : x ≤ y) : (digs B x).length ≤ (digs B y).length :=
  digs_len_le hB (Nat.lt_of_le_of_lt h (digs_lt_pow hB y))
theorem digs_last {B : Nat} (hB : 2 ≤ B) (x : Nat) {n d : Nat} (hn : (digs B x).length = n + 1) (hd : (digs B x)[n]? = some d) : d ≠ 0 := by
  rintro rfl
  have e : digs B x = (digs B x).take n ++ [0] := by
    have h1 : (digs B x).take (n + 1) = digs B x := List.take_of_length_le (by omega)
    rw [List.take_add_one, hd] at h1
    exact h1.symm
  have h2 : trim (digs B x) = digs B x := by rw [trim_digs hB (digs_lt hB x), val_digs hB]
  rw [e, trim_snoc0] at h2
  have h3 := trim_len_le ((digs B x).take n)
  rw [h2] at h3
  simp at h3
  omega
theorem digs_pow_le {B : Nat} (hB : 2 ≤ B) (x : Nat) {n : Nat} (hn : (digs B x).length = n + 1) : B ^ n ≤ x := by
  rcases Nat.lt_or_ge x (B ^ n) with h | h
  · have := digs_len_le hB h; omega
  · exact h

/-- The order of two numbers, as Go tells it. -/
def ord (x y : Nat) : Int := if x < y then -1 else if y < x then 1 else 0
theorem ord_lt {x y : Nat} (h : x < y) : ord x y = -1 := by simp [ord, h]
theorem ord_gt {x y : Nat} (h : y < x) : ord x y = 1 := by rw [ord, if_neg (by omega), if_pos h]
theorem ord_eq (x : Nat) : ord x x = 0 := by simp [ord]
theorem ord_bd (x y : Nat) : -1 ≤ ord x y ∧ ord x y ≤ 1 := by unfold ord; split <;> (try split) <;> omega
theorem ord_neg (x y : Nat) : ord y x = - ord x y := by unfold ord; (repeat' split) <;> omega
theorem ord_zero {x y : Nat} : ord x y = 0 ↔ x = y := by unfold ord; (repeat' split) <;> omega
theorem ord_lt0 {x y : Nat} : ord x y < 0 ↔ x < y := by unfold ord; (repeat' split) <;> omega
theorem ord_le0 {x y : Nat} : ord x y ≤ 0 ↔ x ≤ y := by unfold ord; (repeat' split) <;> omega
theorem ord_add (x y z : Nat) : ord (x + z) (y + z) = ord x y := by unfold ord; (repeat' split) <;> omega
theorem len_lt_ord {B : Nat} (hB : 2 ≤ B) {x y : Nat} (h : (digs B x).length < (digs B y).length) : x < y := by
  rcases Nat.lt_or_ge x y with h1 | h1
  · exact h1
  · have := digs_len_mono hB h1; omega
/-- Digits that are the same from place i + 1 on: place i decides. -/
theorem at_lt_val {B : Nat} {l m : List Nat} (hl : Lt B l) (hm : Lt B m) (hlen : l.length = m.length) {i d e : Nat} (hd : l[i]? = some d) (he : m[i]? = some e) (hs : l.drop (i + 1) = m.drop (i + 1)) (h : d < e) : val B l < val B m := by
  have il : i < l.length := (List.getElem?_eq_some_iff.1 hd).1
  have el : l = l.take i ++ (d :: l.drop (i + 1)) := by
    rw [(List.getElem?_eq_some_iff.1 hd).2.symm, List.getElem_cons_drop, List.take_append_drop]
  have em : m = m.take i ++ (e :: m.drop (i + 1)) := by
    rw [(List.getElem?_eq_some_iff.1 he).2.symm, List.getElem_cons_drop, List.take_append_drop]
  have l1 : (l.take i).length = i := by simp; omega
  have l2 : (m.take i).length = i := by simp; omega
  rw [el, em, val_append, val_append, val_cons, val_cons, l1, l2, hs]
  have h1 := val_lt (hl.take i)
  rw [l1] at h1
  have h2 : B ^ i * (d + B * val B (m.drop (i + 1)) + 1) ≤ B ^ i * (e + B * val B (m.drop (i + 1))) := Nat.mul_le_mul_left _ (by omega)
  rw [Nat.mul_add, Nat.mul_one] at h2
  omega
theorem drop_step {l m : List Nat} {i d : Nat} (hd : l[i]? = some d) (he : m[i]? = some d) (hs : l.drop (i + 1) = m.drop (i + 1)) : l.drop i = m.drop i := by
  obtain ⟨i1, e1⟩ := List.getElem?_eq_some_iff.1 hd
  obtain ⟨i2, e2⟩ := List.getElem?_eq_some_iff.1 he
  rw [← List.getElem_cons_drop i1, ← List.getElem_cons_drop i2, e1, e2, hs]
theorem take_step {l : List Nat} {i d : Nat} (hd : l[i]? = some d) : l.take (i + 1) = l.take i ++ [d] := by rw [List.take_add_one, hd]; rfl
theorem drop_at {l : List Nat} {i d : Nat} (hd : l[i]? = some d) : l.drop i = d :: l.drop (i + 1) := by
  obtain ⟨i1, e1⟩ := List.getElem?_eq_some_iff.1 hd
  rw [← List.getElem_cons_drop i1, e1]
theorem val_take_step {B : Nat} {l : List Nat} {i d : Nat} (hd : l[i]? = some d) : val B (l.take (i + 1)) = val B (l.take i) + B ^ i * d := by
  have il : i < l.length := (List.getElem?_eq_some_iff.1 hd).1
  have e : (l.take i).length = i := by simp; omega
  rw [take_step hd, val_snoc, e]
theorem val_drop_step {B : Nat} {l : List Nat} {i d : Nat} (hd : l[i]? = some d) : val B (l.drop i) = d + B * val B (l.drop (i + 1)) := by rw [drop_at hd, val_cons]
theorem val_set {B : Nat} {l : List Nat} {i d : Nat} (hd : l[i]? = some d) (e : Nat) : val B (l.set i e) + B ^ i * d = val B l + B ^ i * e := by
  induction l generalizing i with
  | nil => simp at hd
  | cons c l ih =>
    cases i with
    | zero => simp at hd; subst hd; simp [val]; omega
    | succ i =>
      have := ih (i := i) (by simpa using hd)
      rw [List.set_cons_succ, val_cons, val_cons, Nat.pow_succ, Nat.mul_comm (B ^ i) B, Nat.mul_assoc, Nat.mul_assoc, Nat.add_assoc, ← Nat.mul_add, this, Nat.mul_add]; omega
/-- How many of the lowest bits are 0 ahead of the first 1; 0 of 0. -/
def tz (x : Nat) : Nat := if h : x = 0 ∨ x % 2 = 1 then 0 else tz (x / 2) + 1
termination_by x
decreasing_by exact Nat.div_lt_self (by omega) (by omega)
theorem tz_odd {x : Nat} (h : x % 2 = 1) : tz x = 0 := by rw [tz, dif_pos (Or.inr h)]
theorem tz_zero : tz 0 = 0 := by rw [tz, dif_pos (Or.inl rfl)]
theorem tz_even {x : Nat} (h0 : x ≠ 0) (h : x % 2 = 0) : tz x = tz (x / 2) + 1 := by rw [tz, dif_neg (by omega)]
theorem tz_of {x n : Nat} (h : x % 2 ^ n = 0) (h1 : x / 2 ^ n % 2 = 1) : tz x = n := by
  induction n generalizing x with
  | zero => rw [Nat.pow_zero, Nat.div_one] at h1; exact tz_odd h1
  | succ n ih =>
    have h2 : x % 2 = 0 := by
      have : 2 ∣ x := Nat.dvd_trans ⟨2 ^ n, by rw [Nat.pow_succ, Nat.mul_comm]⟩ (Nat.dvd_of_mod_eq_zero h)
      omega
    have h0 : x ≠ 0 := by rintro rfl; simp at h1
    have e : x / 2 ^ (n + 1) = x / 2 / 2 ^ n := by rw [Nat.div_div_eq_div_mul, Nat.pow_succ, Nat.mul_comm]
    rw [tz_even h0 h2, ih ?_ (by rw [← e]; exact h1)]
    obtain ⟨q, hq⟩ := Nat.dvd_of_mod_eq_zero h
    rw [hq, Nat.pow_succ, Nat.mul_comm (2 ^ n) 2, Nat.mul_assoc, Nat.mul_div_cancel_left _ (by omega)]
    exact Nat.mul_mod_right _ _
/-- how many bits x needs. -/
def nbits (x : Nat) : Nat := (digs 2 x).length
theorem nbits_zero : nbits 0 = 0 := by rw [nbits, digs_zero]; rfl
theorem nbits_half {x : Nat} (h : 0 < x) : nbits x = nbits (x / 2) + 1 := by rw [nbits, digs_pos (by omega) h]; rfl
theorem nbits_of {x n : Nat} (h : x < 2 ^ (n + 1)) (h1 : 2 ^ n ≤ x) : nbits x = n + 1 := by
  have h2 : nbits x ≤ n + 1 := digs_len_le (by omega) h
  have h3 : x < 2 ^ nbits x := digs_lt_pow (by omega) x
  rcases Nat.lt_or_ge (nbits x) (n + 1) with h4 | h4
  · have := Nat.pow_le_pow_right (n := 2) (by omega) (show nbits x ≤ n by omega); omega
  · omega
theorem nbits_lt {x : Nat} : x < 2 ^ nbits x := digs_lt_pow (by omega) x
theorem nbits_le {x : Nat} (h : 0 < x) : 2 ^ (nbits x - 1) ≤ x := by
  refine digs_pow_le (B := 2) (by omega) x ?_
  have : nbits x ≠ 0 := fun h2 => by have := (digs_len0 (B := 2) (by omega)).1 h2; omega
  unfold nbits at this ⊢; omega
theorem nbits_le_of {x n : Nat} (h : x < 2 ^ n) : nbits x ≤ n := digs_len_le (by omega) h
theorem len10000_le {x k : Nat} (h : x < 4294967296 ^ k) : (digs 10000 x).length ≤ 3 * k := by
  refine digs_len_le (by omega) (Nat.lt_of_lt_of_le h ?_)
  rw [Nat.pow_mul]
  exact Nat.pow_le_pow_left (by decide) k
theorem len10000_val {l : List Nat} (h : Lt 4294967296 l) : (digs 10000 (val 4294967296 l)).length ≤ 3 * l.length := len10000_le (val_lt h)
theorem len10000_pow {x k : Nat} (h : x < 2 ^ k) : (digs 10000 x).length ≤ k := digs_len_le (by omega) (Nat.lt_of_lt_of_le h (Nat.pow_le_pow_left (by decide) k))
theorem len32_pow {x k : Nat} (h : x < 2 ^ k) : (digs 4294967296 x).length ≤ k := digs_len_le (by omega) (Nat.lt_of_lt_of_le h (Nat.pow_le_pow_left (by decide) k))
theorem digs_div_len {B d x : Nat} (hB : 2 ≤ B) (hd : B ≤ d) (hx : 0 < x) : (digs B (x / d)).length < (digs B x).length := by
  have h1 : x / d ≤ x / B := Nat.div_le_div_left hd (by omega)
  have h2 := digs_len_mono hB h1
  rw [digs_pos hB hx, List.length_cons]; omega
theorem set_drop {l : List Nat} {i d : Nat} (hi : i < l.length) : (l.set i d).drop i = d :: l.drop (i + 1) := by
  rw [drop_at (d := d) (by simp [hi]), List.drop_set_of_lt (by omega)]
end Go.Proofs.Ytcgmbmiingppgaa.num
