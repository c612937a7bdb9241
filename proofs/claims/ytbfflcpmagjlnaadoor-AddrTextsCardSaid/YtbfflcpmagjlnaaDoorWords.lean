/- Plain mathematics of numbers as lists of digits, the lowest first: value, the canonical digits of a number, trimming, comparing. No program stands here.
Words for slices of numbers in memory: what reads as a list, what the call owns, and what the appends and stores do to it. No program stands here.
nat.trimmed and the document's Trim: a slice without the noughts at its end. Condition: the slice reads as a list of numbers. -/
import Derived.WalkKit
import Derived.ProofKit
import Derived.Lib.Hide
import Derived.Below
import Derived.OwnWalk
import Derived.Deep.Draws
import Derived.Deep.OwnRows
import Derived.Test.YtbfflcpmagjlnaaDoorRows
import Derived.Deep.QuietTactic
import Derived.BigQuiet
import Derived.Outline
namespace Go.Proofs.YtbfflcpmagjlnaaDoor.num
set_option linter.unusedVariables false

/-- The number that a list of digits is, by base B. -/
def val (B : Nat) : List Nat → Nat
  | [] => 0
  | d :: l => d + B * val B l
/-- All are digits. -/
def Lt (B : Nat) (l : List Nat) : Prop := ∀ d ∈ l, d < B
/-- The digits of x, none of 0. -/
def digs (B x : Nat) : List Nat := if h : x = 0 ∨ B < 2 then [] else x % B :: digs B (x / B)
termination_by x
decreasing_by exact Nat.div_lt_self (by omega) (by omega)
/-- Without noughts at the end. -/
def trim : List Nat → List Nat
  | [] => []
  | d :: l => if trim l = [] ∧ d = 0 then [] else d :: trim l

theorem Lt.nil (B : Nat) : Lt B [] := fun d h => by simp at h
theorem Lt.cons {B d : Nat} {l : List Nat} (h : d < B) (hl : Lt B l) : Lt B (d :: l) := by
  intro x hx
  rcases List.mem_cons.1 hx with rfl | hx
  · exact h
  · exact hl x hx
theorem Lt.head {B d : Nat} {l : List Nat} (h : Lt B (d :: l)) : d < B := h d (by simp)
theorem Lt.tail {B d : Nat} {l : List Nat} (h : Lt B (d :: l)) : Lt B l := fun x hx => h x (by simp [hx])
theorem Lt.append {B : Nat} {l m : List Nat} (h : Lt B l) (k : Lt B m) : Lt B (l ++ m) := by
  intro x hx
  rcases List.mem_append.1 hx with hx | hx
  · exact h x hx
  · exact k x hx
theorem Lt.snoc {B d : Nat} {l : List Nat} (h : Lt B l) (hd : d < B) : Lt B (l ++ [d]) := h.append (Lt.cons hd (Lt.nil B))
theorem Lt.take {B : Nat} {l : List Nat} (h : Lt B l) (n : Nat) : Lt B (l.take n) := fun x hx => h x (List.mem_of_mem_take hx)
theorem Lt.drop {B : Nat} {l : List Nat} (h : Lt B l) (n : Nat) : Lt B (l.drop n) := fun x hx => h x (List.mem_of_mem_drop hx)
theorem Lt.at {B : Nat} {l : List Nat} (h : Lt B l) {i d : Nat} (hd : l[i]? = some d) : d < B := h d (List.mem_of_getElem? hd)
theorem Lt.set {B d : Nat} {l : List Nat} (h : Lt B l) (hd : d < B) (i : Nat) : Lt B (l.set i d) := by
  intro x hx
  rcases List.mem_or_eq_of_mem_set hx with hx | rfl
  · exact h x hx
  · exact hd
theorem Lt.rep {B : Nat} (hB : 0 < B) (n : Nat) : Lt B (List.replicate n 0) := by
  intro x hx
  rw [List.eq_of_mem_replicate hx]; exact hB
theorem Lt.more {B C : Nat} {l : List Nat} (h : Lt B l) (hC : B ≤ C) : Lt C l := fun x hx => Nat.lt_of_lt_of_le (h x hx) hC

theorem val_nil (B : Nat) : val B [] = 0 := rfl
theorem val_cons (B d : Nat) (l : List Nat) : val B (d :: l) = d + B * val B l := rfl
theorem val_append (B : Nat) (l m : List Nat) : val B (l ++ m) = val B l + B ^ l.length * val B m := by
  induction l with
  | nil => simp [val]
  | cons d l ih => rw [List.cons_append, val_cons, ih, val_cons, List.length_cons, Nat.pow_succ, Nat.mul_add, Nat.mul_comm (B ^ l.length) B, Nat.mul_assoc]; omega
theorem val_snoc (B : Nat) (l : List Nat) (d : Nat) : val B (l ++ [d]) = val B l + B ^ l.length * d := by rw [val_append]; simp [val]
theorem val_rep (B n : Nat) : val B (List.replicate n 0) = 0 := by
  induction n with
  | zero => rfl
  | succ n ih => rw [List.replicate_succ, val_cons, ih]; omega
theorem val_lt {B : Nat} {l : List Nat} (h : Lt B l) : val B l < B ^ l.length := by
  induction l with
  | nil => simp [val]
  | cons d l ih =>
    have h1 := ih h.tail
    have h2 := h.head
    rw [val_cons, List.length_cons, Nat.pow_succ, Nat.mul_comm (B ^ l.length) B]
    have h3 : B * (val B l + 1) ≤ B * B ^ l.length := Nat.mul_le_mul_left _ h1
    rw [Nat.mul_add] at h3
    omega

theorem digs_zero (B : Nat) : digs B 0 = [] := by rw [digs]; simp
theorem digs_pos {B x : Nat} (hB : 2 ≤ B) (hx : 0 < x) : digs B x = x % B :: digs B (x / B) := by
  rw [digs]; rw [dif_neg (by omega)]
theorem digs_lt {B : Nat} (hB : 2 ≤ B) (x : Nat) : Lt B (digs B x) := by
  induction x using Nat.strongRecOn with
  | ind x ih =>
    by_cases hx : x = 0
    · subst hx; rw [digs_zero]; exact Lt.nil B
    · rw [digs_pos hB (by omega)]
      exact Lt.cons (Nat.mod_lt _ (by omega)) (ih _ (Nat.div_lt_self (by omega) (by omega)))
theorem val_digs {B : Nat} (hB : 2 ≤ B) (x : Nat) : val B (digs B x) = x := by
  induction x using Nat.strongRecOn with
  | ind x ih =>
    by_cases hx : x = 0
    · subst hx; rw [digs_zero]; rfl
    · rw [digs_pos hB (by omega), val_cons, ih _ (Nat.div_lt_self (by omega) (by omega))]
      exact Nat.mod_add_div x B
theorem digs_nil_iff {B : Nat} (hB : 2 ≤ B) (x : Nat) : digs B x = [] ↔ x = 0 := by
  constructor
  · intro h
    have := val_digs hB x
    rw [h] at this; exact this.symm
  · rintro rfl; exact digs_zero B
theorem digs_len0 {B : Nat} (hB : 2 ≤ B) {x : Nat} : (digs B x).length = 0 ↔ x = 0 := by rw [List.length_eq_zero_iff]; exact digs_nil_iff hB x
theorem trim_digs {B : Nat} (hB : 2 ≤ B) {l : List Nat} (h : Lt B l) : trim l = digs B (val B l) := by
  induction l with
  | nil => rw [val_nil, digs_zero]; rfl
  | cons d l ih =>
    have hd := h.head
    have e := ih h.tail
    rw [trim, e, val_cons]
    by_cases hv : val B l = 0
    · rw [hv, digs_zero]
      by_cases hd0 : d = 0
      · subst hd0; simp [digs_zero]
      · rw [if_neg (by simp [hd0]), digs_pos hB (by omega)]
        have e1 : (d + B * 0) % B = d := by rw [Nat.mul_zero, Nat.add_zero]; exact Nat.mod_eq_of_lt hd
        have e2 : (d + B * 0) / B = 0 := by rw [Nat.mul_zero, Nat.add_zero]; exact Nat.div_eq_of_lt hd
        rw [e1, e2, digs_zero]
    · have hp : 0 < B * val B l := Nat.mul_pos (by omega) (by omega)
      rw [if_neg (by rintro ⟨h1, _⟩; exact hv ((digs_nil_iff hB _).1 h1)), digs_pos hB (x := d + B * val B l) (by omega)]
      have e1 : (d + B * val B l) % B = d := by rw [Nat.add_mul_mod_self_left]; exact Nat.mod_eq_of_lt hd
      have e2 : (d + B * val B l) / B = val B l := by rw [Nat.add_mul_div_left _ _ (by omega), Nat.div_eq_of_lt hd]; omega
      rw [e1, e2]
theorem trim_lt {B : Nat} (hB : 2 ≤ B) {l : List Nat} (h : Lt B l) : Lt B (trim l) := by rw [trim_digs hB h]; exact digs_lt hB _
theorem trim_val {B : Nat} (hB : 2 ≤ B) {l : List Nat} (h : Lt B l) : val B (trim l) = val B l := by rw [trim_digs hB h, val_digs hB]
theorem trim_snoc0 (l : List Nat) : trim (l ++ [0]) = trim l := by
  induction l with
  | nil => simp [trim]
  | cons d l ih => rw [List.cons_append, trim, ih, trim]
theorem trim_snoc (l : List Nat) {d : Nat} (h : d ≠ 0) : trim (l ++ [d]) = l ++ [d] := by
  induction l with
  | nil => simp [trim, h]
  | cons c l ih => rw [List.cons_append, trim, ih, if_neg (by simp)]
theorem trim_len_le (l : List Nat) : (trim l).length ≤ l.length := by
  induction l with
  | nil => simp [trim]
  | cons d l ih => rw [trim]; split <;> simp; exact ih
theorem trim_of_take {l : List Nat} {n d : Nat} (hn : l[n]? = some d) (hd : d ≠ 0) : trim (l.take (n + 1)) = l.take (n + 1) := by
  rw [List.take_add_one, hn]; exact trim_snoc _ hd
theorem trim_take0 {l : List Nat} {n : Nat} (hn : l[n]? = some 0) : trim (l.take (n + 1)) = trim (l.take n) := by
  rw [List.take_add_one, hn]; exact trim_snoc0 _
theorem trim_prefix (l : List Nat) : trim l = l.take (trim l).length := by
  induction l with
  | nil => simp [trim]
  | cons d l ih =>
    rw [trim]
    split
    · simp
    · rw [List.length_cons, List.take_succ_cons, ← ih]

theorem digs_len_le {B : Nat} (hB : 2 ≤ B) {x k : Nat} (h : x < B ^ k) : (digs B x).length ≤ k := by
  induction k generalizing x with
  | zero => rw [Nat.pow_zero] at h; obtain rfl : x = 0 := by omega
            rw [digs_zero]; simp
  | succ k ih =>
    by_cases hx : x = 0
    · subst hx; rw [digs_zero]; simp
    · rw [digs_pos hB (by omega), List.length_cons]
      have : (digs B (x / B)).length ≤ k := ih (by rw [Nat.pow_succ] at h; exact Nat.div_lt_of_lt_mul (by rw [Nat.mul_comm]; exact h))
      omega
theorem digs_lt_pow {B : Nat} (hB : 2 ≤ B) (x : Nat) : x < B ^ (digs B x).length := by
  have := val_lt (digs_lt hB x)
  rwa [val_digs hB] at this
theorem digs_len_mono {B : Nat} (hB : 2 ≤ B) {x y : Nat} (h : x ≤ y) : (digs B x).length ≤ (digs B y).length :=
  digs_len_le hB (Nat.lt_of_le_of_lt h (digs_lt_pow hB y))
theorem digs_last {B : Nat} (hB : 2 ≤ B) (x : Nat) {n d : Nat} (hn : (digs B x).length = n + 1) (hd : (digs B x)[n]? = some d) : d ≠ 0 := by
  rintro rfl
  have e : digs B x = (digs B x).take n ++ [0] := by
    have h1 : (digs B x).take (n + 1) = digs B x := List.take_of_length_le (by omega)
    rw [List.take_add_one, hd] at h1
    exact h1.symm
  have h2 : trim (digs B x) = digs B x := by rw [trim_digs hB (digs_lt hB x), val_digs hB]
  rw [e, trim_snoc0] at h2
  have h3 := trim_len_le ((digs B x).take n)
  rw [h2] at h3
  simp at h3
  omega
theorem digs_pow_le {B : Nat} (hB : 2 ≤ B) (x : Nat) {n : Nat} (hn : (digs B x).length = n + 1) : B ^ n ≤ x := by
  rcases Nat.lt_or_ge x (B ^ n) with h | h
  · have := digs_len_le hB h; omega
  · exact h

/-- The order of two numbers, as Go tells it. -/
def ord (x y : Nat) : Int := if x < y then -1 else if y < x then 1 else 0
theorem ord_lt {x y : Nat} (h : x < y) : ord x y = -1 := by simp [ord, h]
theorem ord_gt {x y : Nat} (h : y < x) : ord x y = 1 := by rw [ord, if_neg (by omega), if_pos h]
theorem ord_eq (x : Nat) : ord x x = 0 := by simp [ord]
theorem ord_bd (x y : Nat) : -1 ≤ ord x y ∧ ord x y ≤ 1 := by unfold ord; split <;> (try split) <;> omega
theorem ord_neg (x y : Nat) : ord y x = - ord x y := by unfold ord; (repeat' split) <;> omega
theorem ord_zero {x y : Nat} : ord x y = 0 ↔ x = y := by unfold ord; (repeat' split) <;> omega
theorem ord_lt0 {x y : Nat} : ord x y < 0 ↔ x < y := by unfold ord; (repeat' split) <;> omega
theorem ord_le0 {x y : Nat} : ord x y ≤ 0 ↔ x ≤ y := by unfold ord; (repeat' split) <;> omega
theorem ord_add (x y z : Nat) : ord (x + z) (y + z) = ord x y := by unfold ord; (repeat' split) <;> omega
theorem len_lt_ord {B : Nat} (hB : 2 ≤ B) {x y : Nat} (h : (digs B x).length < (digs B y).length) : x < y := by
  rcases Nat.lt_or_ge x y with h1 | h1
  · exact h1
  · have := digs_len_mono hB h1; omega
/-- Digits that are the same from place i + 1 on: place i decides. -/
theorem at_lt_val {B : Nat} {l m : List Nat} (hl : Lt B l) (hm : Lt B m) (hlen : l.length = m.length) {i d e : Nat} (hd : l[i]? = some d) (he : m[i]? = some e) (hs : l.drop (i + 1) = m.drop (i + 1)) (h : d < e) : val B l < val B m := by
  have il : i < l.length := (List.getElem?_eq_some_iff.1 hd).1
  have el : l = l.take i ++ (d :: l.drop (i + 1)) := by
    rw [(List.getElem?_eq_some_iff.1 hd).2.symm, List.getElem_cons_drop, List.take_append_drop]
  have em : m = m.take i ++ (e :: m.drop (i + 1)) := by
    rw [(List.getElem?_eq_some_iff.1 he).2.symm, List.getElem_cons_drop, List.take_append_drop]
  have l1 : (l.take i).length = i := by simp; omega
  have l2 : (m.take i).length = i := by simp; omega
  rw [el, em, val_append, val_append, val_cons, val_cons, l1, l2, hs]
  have h1 := val_lt (hl.take i)
  rw [l1] at h1
  have h2 : B ^ i * (d + B * val B (m.drop (i + 1)) + 1) ≤ B ^ i * (e + B * val B (m.drop (i + 1))) := Nat.mul_le_mul_left _ (by omega)
  rw [Nat.mul_add, Nat.mul_one] at h2
  omega
theorem drop_step {l m : List Nat} {i d : Nat} (hd : l[i]? = some d) (he : m[i]? = some d) (hs : l.drop (i + 1) = m.drop (i + 1)) : l.drop i = m.drop i := by
  obtain ⟨i1, e1⟩ := List.getElem?_eq_some_iff.1 hd
  obtain ⟨i2, e2⟩ := List.getElem?_eq_some_iff.1 he
  rw [← List.getElem_cons_drop i1, ← List.getElem_cons_drop i2, e1, e2, hs]
theorem take_step {l : List Nat} {i d : Nat} (hd : l[i]? = some d) : l.take (i + 1) = l.take i ++ [d] := by rw [List.take_add_one, hd]; rfl
theorem drop_at {l : List Nat} {i d : Nat} (hd : l[i]? = some d) : l.drop i = d :: l.drop (i + 1) := by
  obtain ⟨i1, e1⟩ := List.getElem?_eq_some_iff.1 hd
  rw [← List.getElem_cons_drop i1, e1]
theorem val_take_step {B : Nat} {l : List Nat} {i d : Nat} (hd : l[i]? = some d) : val B (l.take (i + 1)) = val B (l.take i) + B ^ i * d := by
  have il : i < l.length := (List.getElem?_eq_some_iff.1 hd).1
  have e : (l.take i).length = i := by simp; omega
  rw [take_step hd, val_snoc, e]
theorem val_drop_step {B : Nat} {l : List Nat} {i d : Nat} (hd : l[i]? = some d) : val B (l.drop i) = d + B * val B (l.drop (i + 1)) := by rw [drop_at hd, val_cons]
theorem val_set {B : Nat} {l : List Nat} {i d : Nat} (hd : l[i]? = some d) (e : Nat) : val B (l.set i e) + B ^ i * d = val B l + B ^ i * e := by
  induction l generalizing i with
  | nil => simp at hd
  | cons c l ih =>
    cases i with
    | zero => simp at hd; subst hd; simp [val]; omega
    | succ i =>
      have := ih (i := i) (by simpa using hd)
      rw [List.set_cons_succ, val_cons, val_cons, Nat.pow_succ, Nat.mul_comm (B ^ i) B, Nat.mul_assoc, Nat.mul_assoc, Nat.add_assoc, ← Nat.mul_add, this, Nat.mul_add]; omega
/-- How many of the lowest bits are 0 ahead of the first 1; 0 of 0. -/
def tz (x : Nat) : Nat := if h : x = 0 ∨ x % 2 = 1 then 0 else tz (x / 2) + 1
termination_by x
decreasing_by exact Nat.div_lt_self (by omega) (by omega)
theorem tz_odd {x : Nat} (h : x % 2 = 1) : tz x = 0 := by rw [tz, dif_pos (Or.inr h)]
theorem tz_zero : tz 0 = 0 := by rw [tz, dif_pos (Or.inl rfl)]
theorem tz_even {x : Nat} (h0 : x ≠ 0) (h : x % 2 = 0) : tz x = tz (x / 2) + 1 := by rw [tz, dif_neg (by omega)]
theorem tz_of {x n : Nat} (h : x % 2 ^ n = 0) (h1 : x / 2 ^ n % 2 = 1) : tz x = n := by
  induction n generalizing x with
  | zero => rw [Nat.pow_zero, Nat.div_one] at h1; exact tz_odd h1
  | succ n ih =>
    have h2 : x % 2 = 0 := by
      have : 2 ∣ x := Nat.dvd_trans ⟨2 ^ n, by rw [Nat.pow_succ, Nat.mul_comm]⟩ (Nat.dvd_of_mod_eq_zero h)
      omega
    have h0 : x ≠ 0 := by rintro rfl; simp at h1
    have e : x / 2 ^ (n + 1) = x / 2 / 2 ^ n := by rw [Nat.div_div_eq_div_mul, Nat.pow_succ, Nat.mul_comm]
    rw [tz_even h0 h2, ih ?_ (by rw [← e]; exact h1)]
    obtain ⟨q, hq⟩ := Nat.dvd_of_mod_eq_zero h
    rw [hq, Nat.pow_succ, Nat.mul_comm (2 ^ n) 2, Nat.mul_assoc, Nat.mul_div_cancel_left _ (by omega)]
    exact Nat.mul_mod_right _ _
/-- how many bits x needs. -/
def nbits (x : Nat) : Nat := (digs 2 x).length
theorem nbits_zero : nbits 0 = 0 := by rw [nbits, digs_zero]; rfl
theorem nbits_half {x : Nat} (h : 0 < x) : nbits x = nbits (x / 2) + 1 := by rw [nbits, digs_pos (by omega) h]; rfl
theorem nbits_of {x n : Nat} (h : x < 2 ^ (n + 1)) (h1 : 2 ^ n ≤ x) : nbits x = n + 1 := by
  have h2 : nbits x ≤ n + 1 := digs_len_le (by omega) h
  have h3 : x < 2 ^ nbits x := digs_lt_pow (by omega) x
  rcases Nat.lt_or_ge (nbits x) (n + 1) with h4 | h4
  · have := Nat.pow_le_pow_right (n := 2) (by omega) (show nbits x ≤ n by omega); omega
  · omega
theorem nbits_lt {x : Nat} : x < 2 ^ nbits x := digs_lt_pow (by omega) x
theorem nbits_le {x : Nat} (h : 0 < x) : 2 ^ (nbits x - 1) ≤ x := by
  refine digs_pow_le (B := 2) (by omega) x ?_
  have : nbits x ≠ 0 := fun h2 => by have := (digs_len0 (B := 2) (by omega)).1 h2; omega
  unfold nbits at this ⊢; omega
theorem nbits_le_of {x n : Nat} (h : x < 2 ^ n) : nbits x ≤ n := digs_len_le (by omega) h
theorem len10000_le {x k : Nat} (h : x < 4294967296 ^ k) : (digs 10000 x).length ≤ 3 * k := by
  refine digs_len_le (by omega) (Nat.lt_of_lt_of_le h ?_)
  rw [Nat.pow_mul]
  exact Nat.pow_le_pow_left (by decide) k
theorem len10000_val {l : List Nat} (h : Lt 4294967296 l) : (digs 10000 (val 4294967296 l)).length ≤ 3 * l.length := len10000_le (val_lt h)
theorem len10000_pow {x k : Nat} (h : x < 2 ^ k) : (digs 10000 x).length ≤ k := digs_len_le (by omega) (Nat.lt_of_lt_of_le h (Nat.pow_le_pow_left (by decide) k))
theorem len32_pow {x k : Nat} (h : x < 2 ^ k) : (digs 4294967296 x).length ≤ k := digs_len_le (by omega) (Nat.lt_of_lt_of_le h (Nat.pow_le_pow_left (by decide) k))
theorem digs_div_len {B d x : Nat} (hB : 2 ≤ B) (hd : B ≤ d) (hx : 0 < x) : (digs B (x / d)).length < (digs B x).length := by
  have h1 : x / d ≤ x / B := Nat.div_le_div_left hd (by omega)
  have h2 := digs_len_mono hB h1
  rw [digs_pos hB hx, List.length_cons]; omega
theorem set_drop {l : List Nat} {i d : Nat} (hi : i < l.length) : (l.set i d).drop i = d :: l.drop (i + 1) := by
  rw [drop_at (d := d) (by simp [hi]), List.drop_set_of_lt (by omega)]
end Go.Proofs.YtbfflcpmagjlnaaDoor.num
namespace Go.Proofs.YtbfflcpmagjlnaaDoor.mem
open Go.RowKit
set_option linter.unusedVariables false

/-- The cells of a list of numbers. -/
def nv (k : IntKind) (l : List Nat) : List Value := l.map fun d : Nat => Value.int k (d : Int)
theorem nv_len (k : IntKind) (l : List Nat) : (nv k l).length = l.length := by simp [nv]
theorem nv_at (k : IntKind) {l : List Nat} {i d : Nat} (h : l[i]? = some d) : (nv k l)[i]? = some (.int k (d : Int)) := by simp [nv, h]
theorem nv_append (k : IntKind) (l m : List Nat) : nv k (l ++ m) = nv k l ++ nv k m := by simp [nv]
theorem nv_set (k : IntKind) (l : List Nat) (i d : Nat) : (nv k l).set i (.int k (d : Int)) = nv k (l.set i d) := by simp [nv, List.map_set]
theorem nv_one (k : IntKind) (l : List Nat) : ∀ u ∈ nv k l, u.oneCell' = true := by
  intro u hu
  obtain ⟨_, _, rfl⟩ := List.mem_map.1 hu
  rfl

/-- From address A on the memory reads as the list. -/
def Rd (w : World) (A : Option Addr) (k : IntKind) (l : List Nat) : Prop := ∀ (i d : Nat), l[i]? = some d → ∃ ad, A = some ad ∧ w.cell? (ad.add i) = some (.int k (d : Int))
/-- The slice reads as the list. -/
def IsS (w : World) (k : IntKind) (v : Value) (l : List Nat) : Prop := ∃ A c, v = .slice A l.length c ∧ l.length ≤ c ∧ c ≤ maxLen ∧ Rd w A k l

theorem block_add (a : Addr) (n : Nat) : (a.add n).block = a.block := by unfold Addr.add; split <;> rfl
theorem Rd.keep {w w' : World} {A : Option Addr} {k : IntKind} {l : List Nat} (h : Rd w A k l) (hk : ∀ p : Addr, p.block < w.heap.size → w'.cell? p = w.cell? p) : Rd w' A k l := by
  intro i d hd
  obtain ⟨ad, ha, hc⟩ := h i d hd
  exact ⟨ad, ha, (hk _ (World.block_lt_of_cell? w _ hc)).trans hc⟩
theorem Rd.below {w w' : World} {A : Option Addr} {k : IntKind} {l : List Nat} (h : Rd w A k l) (hb : Below w.heap.size w w') : Rd w' A k l := h.keep fun p hp => hb.cell hp
theorem IsS.below {w w' : World} {k : IntKind} {v : Value} {l : List Nat} (h : IsS w k v l) (hb : Below w.heap.size w w') : IsS w' k v l := by
  obtain ⟨A, c, e, h1, h2, h3⟩ := h
  exact ⟨A, c, e, h1, h2, h3.below hb⟩
theorem IsS.drewN {w : World} {k : IntKind} {v : Value} {l : List Nat} (h : IsS w k v l) (n : Nat) : IsS (w.drewN n) k v l := h
theorem Rd.at_ {w : World} {A : Option Addr} {k : IntKind} {l : List Nat} (h : Rd w A k l) {i : Nat} (hi : i < l.length) : ∃ ad d, A = some ad ∧ l[i]? = some d ∧ w.cell? (ad.add i) = some (.int k (d : Int)) := by
  obtain ⟨ad, ha, hc⟩ := h i _ (List.getElem?_eq_getElem hi)
  exact ⟨ad, _, ha, List.getElem?_eq_getElem hi, hc⟩
theorem Rd.take {w : World} {A : Option Addr} {k : IntKind} {l : List Nat} (h : Rd w A k l) (n : Nat) : Rd w A k (l.take n) := by
  intro i d hd
  rw [List.getElem?_take] at hd
  split at hd
  · exact h i d hd
  · cases hd
theorem Rd.nil {w : World} {A : Option Addr} {k : IntKind} : Rd w A k [] := by intro i d hd; simp at hd
theorem IsS.len {w : World} {k : IntKind} {v : Value} {l : List Nat} (h : IsS w k v l) : l.length ≤ maxLen := by
  obtain ⟨A, c, e, h1, h2, h3⟩ := h; omega
/-- A slice cut at its end. -/
theorem Rd.isTake {w : World} {A : Option Addr} {k : IntKind} {l : List Nat} {n c : Nat} (h : Rd w A k l) (hn : n ≤ l.length) (hc : l.length ≤ c) (hm : c ≤ maxLen) : IsS w k (.slice A n c) (l.take n) := by
  have e : (l.take n).length = n := by simp; omega
  exact ⟨A, c, by rw [e], by rw [e]; omega, hm, h.take n⟩
theorem isNil (w : World) (k : IntKind) : IsS w k (.slice none 0 0) [] := ⟨none, 0, rfl, by simp, by simp, Rd.nil⟩

/-- A row of the call's own that reads as the list. -/
def Own (w : World) (base : Nat) (e : TypeId) (k : IntKind) (v : Value) (l : List Nat) : Prop := w.ownsRow base e 1 v l.length (nv k l)
theorem Own.isS {w : World} {base : Nat} {e : TypeId} {k : IntKind} {v : Value} {l : List Nat} (h : Own w base e k v l) : IsS w k v l := by
  have hc := h.2
  rcases hc with ⟨rfl, h0⟩ | ⟨g, cap, cur, rfl, _, hg, hn, hm, _, _⟩
  · obtain rfl : l = [] := List.length_eq_zero_iff.1 h0
    exact isNil w k
  · refine ⟨_, _, rfl, hn, hm, ?_⟩
    intro i d hd
    exact ⟨_, rfl, World.ownsRow.cells h (g := g) rfl i _ (nv_at k hd)⟩
theorem Own.alloc {w : World} {base : Nat} {e : TypeId} {k : IntKind} {v : Value} {l : List Nat} (h : Own w base e k v l) (o : Obj) : Own (w.alloc o) base e k v l := World.ownsRow.alloc h o
theorem Own.drewN {w : World} {base : Nat} {e : TypeId} {k : IntKind} {v : Value} {l : List Nat} (h : Own w base e k v l) (n : Nat) : Own (w.drewN n) base e k v l := h
/-- What is owned is kept by what only makes new blocks. -/
theorem Own.below {w w' : World} {base : Nat} {e : TypeId} {k : IntKind} {v : Value} {l : List Nat} (h : Own w base e k v l) (hb : Below w.heap.size w w') : Own w' base e k v l :=
  World.ownsRow.kept (row := none) h ⟨hb.os, hb.tape, hb.output, hb.size, fun i hi _ => hb.block i hi⟩ (by cases hv : v.ownBlock <;> simp)
theorem Own.base_le {w : World} {base : Nat} {e : TypeId} {k : IntKind} {v : Value} {l : List Nat} (h : Own w base e k v l) : ∀ g, v.ownBlock = some g → base ≤ g := fun g hg => (World.ownsRow.lt h g hg).1
theorem Own.mono {w : World} {base base' : Nat} {e : TypeId} {k : IntKind} {v : Value} {l : List Nat} (h : Own w base e k v l) (hb : base' ≤ base) : Own w base' e k v l := by
  refine ⟨h.1, ?_⟩
  rcases h.2 with hn | ⟨g, cap, cur, hv, hg, rest⟩
  · exact Or.inl hn
  · exact Or.inr ⟨g, cap, cur, hv, by omega, rest⟩
theorem own_nil (w : World) (base : Nat) (e : TypeId) (k : IntKind) : Own w base e k (.slice none 0 0) [] := World.ownsRow_nil w base e 1
/-- A literal of numbers, made anew. -/
theorem own_lit (w : World) (base : Nat) (e : TypeId) (k : IntKind) (l : List Nat) (hb : base ≤ w.heap.size) (hm : l.length ≤ maxLen) :
    Own (w.alloc (.cells (nv k l).toArray e)) base e k (.slice (some ⟨w.heap.size, 0, none⟩) l.length l.length) l := by
  have h := World.ownsRow_lit (e := e) (size := 1) w (nv k l).toArray l.length hb hm (by simp [nv])
  simpa [Own] using h
theorem own_lit0 (w : World) (base : Nat) (e : TypeId) (k : IntKind) (hb : base ≤ w.heap.size) : Own (w.alloc (.cells #[] e)) base e k (.slice (some ⟨w.heap.size, 0, none⟩) 0 0) [] := own_lit w base e k [] hb (by simp)
theorem below_alloc {B : Nat} {w : World} (h : B ≤ w.heap.size) (o : Obj) : Below B w (w.alloc o) := (Below.refl B w).alloc h o
/-- Behind an append of one element. -/
theorem Own.snoc {w : World} {base : Nat} {e : TypeId} {k : IntKind} {v : Value} {l : List Nat} {d : Nat} (h : w.ownsRow base e 1 v (l.length + 1) (nv k l ++ [.int k (d : Int)])) : Own w base e k v (l ++ [d]) := by
  unfold Own
  rw [nv_append, List.length_append]
  exact h
theorem Own.more {w : World} {base : Nat} {e : TypeId} {k : IntKind} {v : Value} {l m : List Nat} (h : w.ownsRow base e 1 v (l.length + m.length) (nv k l ++ nv k m)) : Own w base e k v (l ++ m) := by
  unfold Own
  rw [nv_append, List.length_append]
  exact h
/-- The row's own place, where it is not nil. -/
theorem Own.place {w : World} {base : Nat} {e : TypeId} {k : IntKind} {v : Value} {l : List Nat} (h : Own w base e k v l) (hl : 0 < l.length) :
    ∃ g cap, v = .slice (some ⟨g, 0, none⟩) l.length cap ∧ l.length ≤ cap ∧ cap ≤ maxLen ∧ base ≤ g ∧ g < w.heap.size := by
  rcases h.2 with ⟨rfl, h0⟩ | ⟨g, cap, cur, rfl, hg, hh, hn, hm, _, _⟩
  · omega
  · exact ⟨g, cap, rfl, hn, hm, hg, (Array.getElem?_eq_some_iff.1 hh).1⟩
theorem Own.cellAt {w : World} {base : Nat} {e : TypeId} {k : IntKind} {g n cap : Nat} {l : List Nat} (h : Own w base e k (.slice (some ⟨g, 0, none⟩) n cap) l) {i d : Nat} (hd : l[i]? = some d) : w.cell? ⟨g, i, none⟩ = some (.int k (d : Int)) := by
  have := World.ownsRow.cells h (g := g) rfl i _ (nv_at k hd)
  have ha : (⟨g, 0, none⟩ : Addr).add i = ⟨g, i, none⟩ := by unfold Addr.add; split <;> simp_all
  rwa [ha] at this
theorem Own.len_eq {w : World} {base : Nat} {e : TypeId} {k : IntKind} {A : Option Addr} {n cap : Nat} {l : List Nat} (h : Own w base e k (.slice A n cap) l) : n = l.length := by
  rcases h.2 with ⟨h1, h0⟩ | ⟨g, cap', cur, h1, _⟩
  · injection h1 with _ h1 _; omega
  · injection h1 with _ h1 _
theorem Own.frozenAt {w : World} {base : Nat} {e : TypeId} {k : IntKind} {g n cap : Nat} {l : List Nat} (h : Own w base e k (.slice (some ⟨g, 0, none⟩) n cap) l) (i : Nat) : w.frozen? ⟨g, i, none⟩ = false := by
  obtain rfl := h.len_eq
  exact World.ownsRow.frozenAt h i
/-- A store into the row. -/
theorem Own.stored {w : World} {base : Nat} {e : TypeId} {k : IntKind} {g n cap : Nat} {l : List Nat} (h : Own w base e k (.slice (some ⟨g, 0, none⟩) n cap) l) (i d : Nat) : Own (w.setCell ⟨g, i, none⟩ (.int k (d : Int))) base e k (.slice (some ⟨g, 0, none⟩) n cap) (l.set i d) := by
  obtain rfl := h.len_eq
  have := (World.ownsRow.stored h i (.int k (d : Int))).1
  unfold Own
  rw [← nv_set, List.length_set]
  exact this
theorem Own.stored' {w : World} {base : Nat} {e : TypeId} {k : IntKind} {g n cap : Nat} {l : List Nat} (h : Own w base e k (.slice (some ⟨g, 0, none⟩) n cap) l) (i d : Nat) {x : Int} (hx : x = (d : Int)) : Own (w.setCell ⟨g, i, none⟩ (.int k x)) base e k (.slice (some ⟨g, 0, none⟩) n cap) (l.set i d) := by
  subst hx; exact h.stored i d
theorem ediv_cast {x : Int} {n d : Nat} (h : x = (n : Int)) : x / (d : Int) = ((n / d : Nat) : Int) := by subst h; exact (Int.natCast_ediv n d).symm
theorem emod_cast {x : Int} {n d : Nat} (h : x = (n : Int)) : x % (d : Int) = ((n % d : Nat) : Int) := by subst h; exact (Int.natCast_emod n d).symm
/-- How long the slice in a slot is: for a loop's measure. -/
def lenOf : Value → Nat | .slice _ n _ => n | _ => 0
theorem int_eq {k : IntKind} {a b : Int} (h : a = b) : Value.int k a = .int k b := by rw [h]
/-- make([]T, n). -/
theorem own_made (w : World) (base : Nat) (e : TypeId) (k : IntKind) (n : Nat) (hb : base ≤ w.heap.size) (hm : n ≤ maxLen) :
    Own (w.alloc (.cells (madeCells #[.int k 0] n) e)) base e k (.slice (some ⟨w.heap.size, 0, none⟩) n n) (List.replicate n 0) := by
  have e1 : (madeCells #[.int k 0] n) = (nv k (List.replicate n 0)).toArray := by
    apply Array.toList_inj.1
    rw [toList_madeCells_one]; simp [nv]
  rw [e1]
  have := own_lit w base e k (List.replicate n 0) hb (by simpa using hm)
  simpa using this
theorem own_of_make {w : World} {base : Nat} {e : TypeId} {k : IntKind} {g n : Nat} (h : w.ownsRow base e 1 (.slice (some ⟨g, 0, none⟩) n n) n (madeCells #[.int k 0] (n * 1)).toList) : Own w base e k (.slice (some ⟨g, 0, none⟩) n n) (List.replicate n 0) := by
  rw [Nat.mul_one, toList_madeCells_one] at h
  unfold Own
  simpa [nv] using h
theorem below_drewN {B : Nat} {a w : World} (h : Below B a w) (n : Nat) : Below B a (w.drewN n) := ⟨h.os, h.tape, h.output, h.size, h.block⟩
theorem below_size {w w' : World} (h : Below w.heap.size w w') : w.heap.size ≤ w'.heap.size := h.size

/-- The slice lies in blocks from B on. -/
def Fresh (B : Nat) (v : Value) : Prop := ∀ ad n c, v = .slice (some ad) n c → B ≤ ad.block
theorem Fresh.mono {B B' : Nat} {v : Value} (h : Fresh B v) (hb : B' ≤ B) : Fresh B' v := fun ad n c e => Nat.le_trans hb (h ad n c e)
theorem Own.fresh {w : World} {base : Nat} {e : TypeId} {k : IntKind} {v : Value} {l : List Nat} (h : Own w base e k v l) : Fresh base v := by
  rintro ad n c rfl
  exact h.base_le ad.block rfl
theorem Own.under {w : World} {base : Nat} {e : TypeId} {k : IntKind} {v : Value} {l : List Nat} (h : Own w base e k v l) : ∀ g, v.ownBlock = some g → g < w.heap.size := fun g hg => (World.ownsRow.lt h g hg).2
theorem grown_trans {a b c : World} {r : Option Nat} (h : a.grownBy b r) (k : b.grownBy c r) : a.grownBy c r :=
  ⟨k.os.trans h.os, k.tape.trans h.tape, k.output.trans h.output, Nat.le_trans h.size k.size, fun i hi hn => (k.block i (Nat.lt_of_lt_of_le hi h.size) hn).trans (h.block i hi hn)⟩
/-- A slice that lies elsewhere is kept where the row turned. -/
theorem IsS.apart {w w' : World} {k : IntKind} {v u : Value} {l : List Nat} {B : Nat} (h : IsS w k v l) (hf : Fresh B v) (hu : ∀ g, u.ownBlock = some g → g < B) (hg : w.grownBy w' u.ownBlock) : IsS w' k v l := by
  obtain ⟨A, c, rfl, h1, h2, h3⟩ := h
  refine ⟨A, c, rfl, h1, h2, ?_⟩
  intro i d hd
  obtain ⟨ad, rfl, hc⟩ := h3 i d hd
  refine ⟨ad, rfl, hg.cell hc ?_⟩
  rw [block_add]
  intro e
  have h4 := hu _ e.symm
  have h5 := hf ad _ _ rfl
  omega
theorem IsS.setCell {w : World} {k : IntKind} {v : Value} {l : List Nat} {B : Nat} (h : IsS w k v l) (hf : Fresh B v) {p : Addr} (hp : p.block < B) (x : Value) : IsS (w.setCell p x) k v l := by
  obtain ⟨A, c, rfl, h1, h2, h3⟩ := h
  refine ⟨A, c, rfl, h1, h2, ?_⟩
  intro i d hd
  obtain ⟨ad, rfl, hc⟩ := h3 i d hd
  refine ⟨ad, rfl, ?_⟩
  rw [World.cell?_setCell_other]
  · exact hc
  · intro e
    have h5 := hf ad _ _ rfl
    have := congrArg Addr.block e
    rw [block_add] at this
    omega

/-- The call ends with a new slice that reads as the list; what was there is as it was. -/
def RetS (k : IntKind) (l : List Nat) (w : World) (e : Ending) (w' : World) : Prop := ∃ v, e = .returned v ∧ IsS w' k v l ∧ Fresh w.heap.size v ∧ Below w.heap.size w w'
/-- The same, and the slice is a new row. -/
def RetOwn (t : TypeId) (k : IntKind) (l : List Nat) (w : World) (e : Ending) (w' : World) : Prop := ∃ v, e = .returned v ∧ Own w' w.heap.size t k v l ∧ Below w.heap.size w w'
/-- The same, with a number behind it. -/
def RetSI (k : IntKind) (l : List Nat) (n : Int) (w : World) (e : Ending) (w' : World) : Prop := ∃ v, e = .returned (.tuple #[v, .int .i64 n]) ∧ IsS w' k v l ∧ Fresh w.heap.size v ∧ Below w.heap.size w w'
/-- The call ends with this value; what was there is as it was. -/
def RetV (v : Value) (w : World) (e : Ending) (w' : World) : Prop := e = .returned v ∧ Below w.heap.size w w'
/-- The call ends with this value; it only read. -/
def RetQ (v : Value) (w : World) (e : Ending) (w' : World) : Prop := e = .returned v ∧ ∃ n, w' = w.drewN n

/-- Slice type t has elements of type e, numbers of kind k. -/
structure SliceT (P : Program) (t e : TypeId) (k : IntKind) : Prop where
  und : P.underlying t = some (.slice e)
  info : ∃ i, P.info? e = some i ∧ i.zero = some (.int k 0) ∧ i.size = 1 ∧ i.bytes = 8

section
variable {P : Program}
theorem run_append_rd {w : World} {base : Nat} {t ty e : TypeId} {k : IntKind} (hT : SliceT P t e k) {v : Value} {l news : List Nat} (hown : Own w base e k v l) {A : Option Addr} {m c : Nat} (hm : m = news.length) (hr : Rd w A k news)
    (hlen : l.length + m ≤ 10000000000000) (hbase : base ≤ w.heap.size) :
    ∃ v' w', (Builtin.append_ #[t, t] ty #[v, .slice A m c]).run P w = .ok v' w' ∧ Own w' base e k v' (l ++ news) ∧ w.grownBy w' v.ownBlock := by
  obtain ⟨i, hi, hz, hs, hb⟩ := hT.info
  subst hm
  rcases A with _ | ad
  · have hn : news = [] := by
      rcases news with _ | ⟨d, n⟩
      · rfl
      · obtain ⟨ad, h, _⟩ := hr 0 d (by simp); cases h
    subst hn
    refine ⟨v, w, ?_, by simpa using hown, World.grownBy.refl _ _⟩
    rcases hown.2 with ⟨rfl, h0⟩ | ⟨g, cap, cur, rfl, _, _, hnc, _⟩
    · simp [Builtin.append_, run_underlying hT.und, sizeOf, typeInfo, hi, Builtin.lenOf, Builtin.firstCells]
    · simp [Builtin.append_, run_underlying hT.und, sizeOf, typeInfo, hi, Builtin.lenOf, Builtin.firstCells, hnc, storeCells]
  · have hcells : ∀ j u, (nv k news)[j]? = some u → w.cell? (ad.add j) = some u := by
      intro j u hu
      simp only [nv, List.getElem?_map, Option.map_eq_some_iff] at hu
      obtain ⟨d, hd, rfl⟩ := hu
      obtain ⟨ad', h, hc⟩ := hr j d hd
      injection h with h; subst h; exact hc
    obtain ⟨v', w', h1, h2, h3, _⟩ := run_append_own (P := P) w base t ty e i (.int k 0) 1 8 hT.und hi hz hs hb rfl (by decide) v l.length (nv k l) hown ad news.length c (nv k news) (by simp [nv]) hcells (nv_one k news) (by unfold maxLen; omega) (by omega) hbase
    exact ⟨v', w', h1, Own.more h2, h3⟩

theorem wp_append_rd {w : World} {o : Oper} {a : Act} {K : Act → World → Prop} {Q : Exit → Act → World → Prop} (s x : Operand) {t : TypeId}
    (ho : o.op = .call { callee := .builtin .append, args := #[s, x], argTypes := #[t, t] })
    {base : Nat} {e : TypeId} {k : IntKind} (hT : SliceT P t e k) {v : Value} {l news : List Nat} (hs : a.eval s = v) (hown : Own w base e k v l) {A : Option Addr} {m c : Nat} (hx : a.eval x = .slice A m c) (hm : m = news.length) (hr : Rd w A k news)
    (hlen : l.length + m ≤ 10000000000000) (hbase : base ≤ w.heap.size)
    (h : ∀ v' w', Own w' base e k v' (l ++ news) → w.grownBy w' v.ownBlock → K (a.put o.dst v') w') : o.wp P a w K Q := by
  obtain ⟨v', w', hrun, h2, h3⟩ := run_append_rd (P := P) (ty := o.type) hT hown (c := c) hm hr hlen hbase
  unfold Oper.wp execOp
  simp only [ho, resolve, invoke, builtin, Sem.run_bind, Sem.run_pure, Result.andThen_ok, List.map_toArray, List.map_cons, List.map_nil, hs, hx, hrun]
  exact h v' w' h2 h3

theorem wpList_append_rd {w : World} {ops : Array Oper} {rest : List Oper} {o : Oper} {a : Act} {Q : Exit → Act → World → Prop} (hgd : o.guard = none) (s x : Operand) {t : TypeId}
    (ho : o.op = .call { callee := .builtin .append, args := #[s, x], argTypes := #[t, t] })
    {base : Nat} {e : TypeId} {k : IntKind} (hT : SliceT P t e k) {v : Value} {l news : List Nat} (hs : a.eval s = v) (hown : Own w base e k v l) {A : Option Addr} {m c : Nat} (hx : a.eval x = .slice A m c) (hm : m = news.length) (hr : Rd w A k news)
    (hlen : l.length + m ≤ 10000000000000) (hbase : base ≤ w.heap.size)
    (h : ∀ v' w', Own w' base e k v' (l ++ news) → Below base w w' → w.grownBy w' v.ownBlock → wpList P ops Q rest (a.put o.dst v') w') : wpList P ops Q (o :: rest) a w :=
  wpList_plain hgd fun _ hK => wp_append_rd s x ho hT hs hown hx hm hr hlen hbase fun v' w' h2 h3 => hK _ _ (h v' w' h2 ((Below.refl base w).grown h3 hbase (Own.base_le hown)) h3)

theorem rd_new (w : World) (e : TypeId) (k : IntKind) {x : Int} {d : Nat} (hd : x = (d : Int)) : Rd (w.alloc (.cells #[.int k x] e)) (some ⟨w.heap.size, 0, none⟩) k [d] := by
  intro i d' hd'
  rcases i with _ | i
  · simp at hd'; subst hd'; subst hd
    exact ⟨_, rfl, by simp [Addr.add, World.cell?_alloc_at]⟩
  · simp at hd'
/-- A literal of one number. -/
theorem own_lit1 (w : World) (base : Nat) (e : TypeId) (k : IntKind) {x : Int} {d : Nat} (hd : x = (d : Int)) (hb : base ≤ w.heap.size) : Own (w.alloc (.cells #[.int k x] e)) base e k (.slice (some ⟨w.heap.size, 0, none⟩) 1 1) [d] := by
  subst hd; exact own_lit w base e k [d] hb (by unfold maxLen; simp)
theorem own_lit2 (w : World) (base : Nat) (e : TypeId) (k : IntKind) {x y : Int} {d f : Nat} (hd : x = (d : Int)) (hf : y = (f : Int)) (hb : base ≤ w.heap.size) : Own (w.alloc (.cells #[.int k x, .int k y] e)) base e k (.slice (some ⟨w.heap.size, 0, none⟩) 2 2) [d, f] := by
  subst hd; subst hf; exact own_lit w base e k [d, f] hb (by unfold maxLen; simp)
theorem fresh_at {B g n c : Nat} (h : B ≤ g) : Fresh B (.slice (some ⟨g, 0, none⟩) n c) := by
  intro ad n' c' e
  injection e with e _ _
  injection e with e
  subst e; exact h
/-- 'out = append(out, x)'. -/
theorem wpList_append_one {w : World} {ops : Array Oper} {rest : List Oper} {o : Oper} {a : Act} {Q : Exit → Act → World → Prop} (hgd : o.guard = none) (s x : Operand) {t : TypeId}
    (ho : o.op = .call { callee := .builtin .append, args := #[s, x], argTypes := #[t, t] })
    {base : Nat} {e : TypeId} {k : IntKind} (hT : SliceT P t e k) {v : Value} {l : List Nat} (d : Nat) {y : Int} (hs : a.eval s = v) (hown : Own w base e k v l) (hx : a.eval x = .slice (some ⟨w.heap.size, 0, none⟩) 1 1) (hd : y = (d : Int))
    (hlen : l.length ≤ 1000000000000) (hbase : base ≤ w.heap.size)
    (h : ∀ v' w', Own w' base e k v' (l ++ [d]) → Below base w w' → w.grownBy w' v.ownBlock → wpList P ops Q rest (a.put o.dst v') w') : wpList P ops Q (o :: rest) a (w.alloc (.cells #[.int k y] e)) :=
  wpList_append_rd hgd s x ho hT hs (hown.alloc _) hx rfl (rd_new w e k hd) (by omega) (by simp; omega) fun v' w' h1 h2 h3 => h v' w' h1 (((Below.refl base w).alloc hbase _).trans h2) (grown_trans (World.grownBy_alloc w _ _) h3)

/-- 'make([]T, n)'. -/
theorem wpList_make_rd {w : World} {ops : Array Oper} {rest : List Oper} {o : Oper} {a : Act} {Q : Exit → Act → World → Prop} (hgd : o.guard = none) (lo co : Operand) {t : TypeId} (ho : o.op = Op.makeSlice t lo co)
    {base : Nat} {e : TypeId} {k : IntKind} (hT : SliceT P t e k) {kl kc : IntKind} {L C : Int} (n : Nat) (hl : a.eval lo = .int kl L) (hc : a.eval co = .int kc C) (hL : L = (n : Int)) (hC : C = (n : Int)) (hn : n ≤ 10000000000000) (hbase : base ≤ w.heap.size)
    (h : ∀ w', Own w' base e k (.slice (some ⟨w.heap.size, 0, none⟩) n n) (List.replicate n 0) → Below w.heap.size w w' → w.heap.size < w'.heap.size → wpList P ops Q rest (a.put o.dst (.slice (some ⟨w.heap.size, 0, none⟩) n n)) w') : wpList P ops Q (o :: rest) a w := by
  obtain ⟨i, hi, hz, hs, hb⟩ := hT.info
  refine wpList_make_full w hgd lo co t ho base e i (.int k 0) 1 hT.und hi hz hs kl kc L C n hl hc hL hC (by rw [hb]; omega) (by unfold maxLen; omega) hbase fun w' h1 h2 => ?_
  have hw := own_of_make h1
  refine h w' hw ((Below.refl _ w).grown h2 (Nat.le_refl _) (fun g hg => by cases hg)) ?_
  rcases h1.2 with ⟨h3, _⟩ | ⟨g, cap, cur, h3, _, h4, _⟩
  · cases h3
  · injection h3 with h3 _ _
    injection h3 with h3
    injection h3 with h3 _ _
    subst h3
    exact (Array.getElem?_eq_some_iff.1 h4).1
end
/-- The call ends with two new slices. -/
def RetSS (k : IntKind) (l m : List Nat) (w : World) (e : Ending) (w' : World) : Prop := ∃ v u, e = .returned (.tuple #[v, u]) ∧ IsS w' k v l ∧ IsS w' k u m ∧ Fresh w.heap.size v ∧ Fresh w.heap.size u ∧ Below w.heap.size w w'
end Go.Proofs.YtbfflcpmagjlnaaDoor.mem
namespace Go.Proofs.YtbfflcpmagjlnaaDoor.nat
open Go.RowKit Go.Proofs.YtbfflcpmagjlnaaDoor.num Go.Proofs.YtbfflcpmagjlnaaDoor.mem
set_option linter.unusedVariables false

/-- nat.trimmed ends with a slice that reads so, in the memory of the one that was handed in. -/
def RetTr (l : List Nat) (v : Value) (w : World) (e : Ending) (w' : World) : Prop := ∃ v', e = .returned v' ∧ IsS w .u64 v' l ∧ (∀ B, Fresh B v → Fresh B v') ∧ w = w'
theorem beq0 {d : Nat} (h : ((d : Int) == 0) = true) : d = 0 := by have := beq_iff_eq.1 h; omega
theorem nbeq0 {d : Nat} (h : ((d : Int) == 0) = false) : d ≠ 0 := by have := beq_eq_false_iff_ne.1 h; omega

end Go.Proofs.YtbfflcpmagjlnaaDoor.nat
