/- Plain mathematics of numbers as lists of digits, the lowest first: value, the canonical digits of a number, trimming, comparing. No program stands here.
Words for slices of numbers in memory: what reads as a list, what the call owns, and what the appends and stores do to it. No program stands here.
nat.trimmed and the document's Trim: a slice without the noughts at its end. Condition: the slice reads as a list of numbers.
Plain mathematics of numbers as texts: digits as letters, what a text's digits are, noughts ahead, stretches of digits put together and parted. No program stands here.
Strings: a string as a list of bytes; the library's strings.TrimLeft at one byte, strings.IndexByte and strings.IndexRune, walked. Condition: as each says.
strings.IndexRune at a text of ASCII: at any rune; and where a letter stands among the digits' letters. Condition: the text is ASCII.
strings.IndexRune at a text of ASCII, at any rune; where a letter stands among the digits' letters. Condition: the text is ASCII.
Where a rune stands among the digits' letters. Condition: a base from 2 to 36.
The document's own numbers of layer 2: MulAdd, DivSmall, Num, Of, Back, Power, Bits, Zeros. Condition: slices read as digits, numbers are within bounds.
The document's own numbers of layer 2: DivSmall. Condition: the slice reads as digits, the divisor is from 1 to 2 to the 32.
The document's own numbers of layer 2: Num, Of, Back, Power, Bits, Zeros. Condition: slices read as digits, numbers are within bounds.
The document's own May, Clean, Same, Cmp of layer 2. Condition: slices read as numbers.
The document's own Same, Cmp, Add, Sub of layer 2. Condition: slices read as numbers.
The document's own Sub and Mul of layer 2. Condition: slices read as digits; what is taken off is not greater.
The document's own Mul of layer 2. Condition: slices read as digits.
The document's own Div of layer 2. Condition: slices read as digits; the divisor is not 0.
Contracts of limb's low, split, Add, Sub, Mul, Bits, Zeros, as layer 2 calls them. Condition: the numbers handed in are uint64 (0 to 2^64 - 1).
Package nat: at, the comparisons of package cmp that it calls, May, Make, Of. Condition: slices read as limbs.
Package nat: Cmp, Make, Bits, Zeros, Small. Condition: slices read as limbs.
Package nat: Bits, Zeros, Small, Make. Condition: slices read as limbs.
Package nat: Sub. Condition: slices read as limbs.
Package nat: Shl, Shr. Condition: slices read as limbs.
Package nat: onto, Sum, Add. Condition: slices read as limbs.
Package nat: Sum, Add. Condition: slices read as limbs. -/
import Derived.WalkKit
import Derived.ProofKit
import Derived.Lib.Hide
import Derived.Below
import Derived.OwnWalk
import Derived.Deep.Draws
import Derived.Deep.OwnRows
import Derived.Test.YtpcllhdfalebbaaGreatDoorRows
import Derived.Deep.QuietTactic
import Derived.BigQuiet
import Derived.Outline
import Derived.Lib.Bytealg
import Derived.Lib.Strings
import Derived.Laws.RangeAny
import Derived.Laws.IdiomStrings
import Derived.WalkMore
import Derived.IntWalk
import Derived.WalkSmall
import Derived.Deep.RegionLaw
import Derived.Deep.RegionWith
import Derived.Deep.DrawnRows
namespace Go.Proofs.YtpcllhdfalebbaaGreatDoor.num
set_option linter.unusedVariables false
/-- The number that a list of digits is, by base B. -/
def val (B : Nat) : List Nat → Nat
  | [] => 0
  | d :: l => d + B * val B l
/-- All are digits. -/
def Lt (B : Nat) (l : List Nat) : Prop := ∀ d ∈ l, d < B
/-- The digits of x, none of 0. -/
def digs (B x : Nat) : List Nat := if h : x = 0 ∨ B < 2 then [] else x % B :: digs B (x / B)
termination_by x
decreasing_by exact Nat.div_lt_self (by omega) (by omega)
/-- Without noughts at the end. -/
def trim : List Nat → List Nat
  | [] => []
  | d :: l => if trim l = [] ∧ d = 0 then [] else d :: trim l
theorem Lt.nil (B : Nat) : Lt B [] := fun d h => by simp at h
theorem Lt.cons {B d : Nat} {l : List Nat} (h : d < B) (hl : Lt B l) : Lt B (d :: l) := by
  intro x hx
  rcases List.mem_cons.1 hx with rfl | hx
  · exact h
  · exact hl x hx
theorem Lt.head {B d : Nat} {l : List Nat} (h : Lt B (d :: l)) : d < B := h d (by simp)
theorem Lt.tail {B d : Nat} {l : List Nat} (h : Lt B (d :: l)) : Lt B l := fun x hx => h x (by simp [hx])
theorem Lt.append {B : Nat} {l m : List Nat} (h : Lt B l) (k : Lt B m) : Lt B (l ++ m) := by
  intro x hx
  rcases List.mem_append.1 hx with hx | hx
  · exact h x hx
  · exact k x hx
theorem Lt.snoc {B d : Nat} {l : List Nat} (h : Lt B l) (hd : d < B) : Lt B (l ++ [d]) := h.append (Lt.cons hd (Lt.nil B))
theorem Lt.take {B : Nat} {l : List Nat} (h : Lt B l) (n : Nat) : Lt B (l.take n) := fun x hx => h x (List.mem_of_mem_take hx)
theorem Lt.drop {B : Nat} {l : List Nat} (h : Lt B l) (n : Nat) : Lt B (l.drop n) := fun x hx => h x (List.mem_of_mem_drop hx)
theorem Lt.at {B : Nat} {l : List Nat} (h : Lt B l) {i d : Nat} (hd : l[i]? = some d) : d < B := h d (List.mem_of_getElem? hd)
theorem Lt.set {B d : Nat} {l : List Nat} (h : Lt B l) (hd : d < B) (i : Nat) : Lt B (l.set i d) := by
  intro x hx
  rcases List.mem_or_eq_of_mem_set hx with hx | rfl
  · exact h x hx
  · exact hd
theorem Lt.rep {B : Nat} (hB : 0 < B) (n : Nat) : Lt B (List.replicate n 0) := by
  intro x hx
  rw [List.eq_of_mem_replicate hx]; exact hB
theorem Lt.more {B C : Nat} {l : List Nat} (h : Lt B l) (hC : B ≤ C) : Lt C l := fun x hx => Nat.lt_of_lt_of_le (h x hx) hC
theorem val_nil (B : Nat) : val B [] = 0 := rfl
theorem val_cons (B d : Nat) (l : List Nat) : val B (d :: l) = d + B * val B l := rfl
theorem val_append (B : Nat) (l m : List Nat) : val B (l ++ m) = val B l + B ^ l.length * val B m := by
  induction l with
  | nil => simp [val]
  | cons d l ih => rw [List.cons_append, val_cons, ih, val_cons, List.length_cons, Nat.pow_succ, Nat.mul_add, Nat.mul_comm (B ^ l.length) B, Nat.mul_assoc]; omega
theorem val_snoc (B : Nat) (l : List Nat) (d : Nat) : val B (l ++ [d]) = val B l + B ^ l.length * d := by rw [val_append]; simp [val]
theorem val_rep (B n : Nat) : val B (List.replicate n 0) = 0 := by
  induction n with
  | zero => rfl
  | succ n ih => rw [List.replicate_succ, val_cons, ih]; omega
theorem val_lt {B : Nat} {l : List Nat} (h : Lt B l) : val B l < B ^ l.length := by
  induction l with
  | nil => simp [val]
  | cons d l ih =>
    have h1 := ih h.tail
    have h2 := h.head
    rw [val_cons, List.length_cons, Nat.pow_succ, Nat.mul_comm (B ^ l.length) B]
    have h3 : B * (val B l + 1) ≤ B * B ^ l.length := Nat.mul_le_mul_left _ h1
    rw [Nat.mul_add] at h3
    omega
theorem digs_zero (B : Nat) : digs B 0 = [] := by rw [digs]; simp
theorem digs_pos {B x : Nat} (hB : 2 ≤ B) (hx : 0 < x) : digs B x = x % B :: digs B (x / B) := by
  rw [digs]; rw [dif_neg (by omega)]
theorem digs_lt {B : Nat} (hB : 2 ≤ B) (x : Nat) : Lt B (digs B x) := by
  induction x using Nat.strongRecOn with
  | ind x ih =>
    by_cases hx : x = 0
    · subst hx; rw [digs_zero]; exact Lt.nil B
    · rw [digs_pos hB (by omega)]
      exact Lt.cons (Nat.mod_lt _ (by omega)) (ih _ (Nat.div_lt_self (by omega) (by omega)))
theorem val_digs {B : Nat} (hB : 2 ≤ B) (x : Nat) : val B (digs B x) = x := by
  induction x using Nat.strongRecOn with
  | ind x ih =>
    by_cases hx : x = 0
    · subst hx; rw [digs_zero]; rfl
    · rw [digs_pos hB (by omega), val_cons, ih _ (Nat.div_lt_self (by omega) (by omega))]
      exact Nat.mod_add_div x B
theorem digs_nil_iff {B : Nat} (hB : 2 ≤ B) (x : Nat) : digs B x = [] ↔ x = 0 := by
  constructor
  · intro h
    have := val_digs hB x
    rw [h] at this; exact this.symm
  · rintro rfl; exact digs_zero B
theorem digs_len0 {B : Nat} (hB : 2 ≤ B) {x : Nat} : (digs B x).length = 0 ↔ x = 0 := by rw [List.length_eq_zero_iff]; exact digs_nil_iff hB x
theorem trim_digs {B : Nat} (hB : 2 ≤ B) {l : List Nat} (h : Lt B l) : trim l = digs B (val B l) := by
  induction l with
  | nil => rw [val_nil, digs_zero]; rfl
  | cons d l ih =>
    have hd := h.head
    have e := ih h.tail
    rw [trim, e, val_cons]
    by_cases hv : val B l = 0
    · rw [hv, digs_zero]
      by_cases hd0 : d = 0
      · subst hd0; simp [digs_zero]
      · rw [if_neg (by simp [hd0]), digs_pos hB (by omega)]
        have e1 : (d + B * 0) % B = d := by rw [Nat.mul_zero, Nat.add_zero]; exact Nat.mod_eq_of_lt hd
        have e2 : (d + B * 0) / B = 0 := by rw [Nat.mul_zero, Nat.add_zero]; exact Nat.div_eq_of_lt hd
        rw [e1, e2, digs_zero]
    · have hp : 0 < B * val B l := Nat.mul_pos (by omega) (by omega)
      rw [if_neg (by rintro ⟨h1, _⟩; exact hv ((digs_nil_iff hB _).1 h1)), digs_pos hB (x := d + B * val B l) (by omega)]
      have e1 : (d + B * val B l) % B = d := by rw [Nat.add_mul_mod_self_left]; exact Nat.mod_eq_of_lt hd
      have e2 : (d + B * val B l) / B = val B l := by rw [Nat.add_mul_div_left _ _ (by omega), Nat.div_eq_of_lt hd]; omega
      rw [e1, e2]
theorem trim_snoc0 (l : List Nat) : trim (l ++ [0]) = trim l := by
  induction l with
  | nil => simp [trim]
  | cons d l ih => rw [List.cons_append, trim, ih, trim]
theorem trim_snoc (l : List Nat) {d : Nat} (h : d ≠ 0) : trim (l ++ [d]) = l ++ [d] := by
  induction l with
  | nil => simp [trim, h]
  | cons c l ih => rw [List.cons_append, trim, ih, if_neg (by simp)]
theorem trim_len_le (l : List Nat) : (trim l).length ≤ l.length := by
  induction l with
  | nil => simp [trim]
  | cons d l ih => rw [trim]; split <;> simp; exact ih
theorem trim_of_take {l : List Nat} {n d : Nat} (hn : l[n]? = some d) (hd : d ≠ 0) : trim (l.take (n + 1)) = l.take (n + 1) := by
  rw [List.take_add_one, hn]; exact trim_snoc _ hd
theorem trim_take0 {l : List Nat} {n : Nat} (hn : l[n]? = some 0) : trim (l.take (n + 1)) = trim (l.take n) := by
  rw [List.take_add_one, hn]; exact trim_snoc0 _
theorem trim_prefix (l : List Nat) : trim l = l.take (trim l).length := by
  induction l with
  | nil => simp [trim]
  | cons d l ih =>
    rw [trim]
    split
    · simp
    · rw [List.length_cons, List.take_succ_cons, ← ih]
theorem digs_len_le {B : Nat} (hB : 2 ≤ B) {x k : Nat} (h : x < B ^ k) : (digs B x).length ≤ k := by
  induction k generalizing x with
  | zero => rw [Nat.pow_zero] at h; obtain rfl : x = 0 := by omega
            rw [digs_zero]; simp
  | succ k ih =>
    by_cases hx : x = 0
    · subst hx; rw [digs_zero]; simp
    · rw [digs_pos hB (by omega), List.length_cons]
      have : (digs B (x / B)).length ≤ k := ih (by rw [Nat.pow_succ] at h; exact Nat.div_lt_of_lt_mul (by rw [Nat.mul_comm]; exact h))
      omega
theorem digs_lt_pow {B : Nat} (hB : 2 ≤ B) (x : Nat) : x < B ^ (digs B x).length := by
  have := val_lt (digs_lt hB x)
  rwa [val_digs hB] at this
theorem digs_len_mono {B : Nat} (hB : 2 ≤ B) {x y : Nat} (h : x ≤ y) : (digs B x).length ≤ (digs B y).length :=
  digs_len_le hB (Nat.lt_of_le_of_lt h (digs_lt_pow hB y))
theorem digs_last {B : Nat} (hB : 2 ≤ B) (x : Nat) {n d : Nat} (hn : (digs B x).length = n + 1) (hd : (digs B x)[n]? = some d) : d ≠ 0 := by
  rintro rfl
  have e : digs B x = (digs B x).take n ++ [0] := by
    have h1 : (digs B x).take (n + 1) = digs B x := List.take_of_length_le (by omega)
    rw [List.take_add_one, hd] at h1
    exact h1.symm
  have h2 : trim (digs B x) = digs B x := by rw [trim_digs hB (digs_lt hB x), val_digs hB]
  rw [e, trim_snoc0] at h2
  have h3 := trim_len_le ((digs B x).take n)
  rw [h2] at h3
  simp at h3
  omega
theorem digs_pow_le {B : Nat} (hB : 2 ≤ B) (x : Nat) {n : Nat} (hn : (digs B x).length = n + 1) : B ^ n ≤ x := by
  rcases Nat.lt_or_ge x (B ^ n) with h | h
  · have := digs_len_le hB h; omega
  · exact h
/-- The order of two numbers, as Go tells it. -/
def ord (x y : Nat) : Int := if x < y then -1 else if y < x then 1 else 0
theorem ord_lt {x y : Nat} (h : x < y) : ord x y = -1 := by simp [ord, h]
theorem ord_gt {x y : Nat} (h : y < x) : ord x y = 1 := by rw [ord, if_neg (by omega), if_pos h]
theorem ord_eq (x : Nat) : ord x x = 0 := by simp [ord]
theorem ord_bd (x y : Nat) : -1 ≤ ord x y ∧ ord x y ≤ 1 := by unfold ord; split <;> (try split) <;> omega
theorem ord_zero {x y : Nat} : ord x y = 0 ↔ x = y := by unfold ord; (repeat' split) <;> omega
theorem ord_lt0 {x y : Nat} : ord x y < 0 ↔ x < y := by unfold ord; (repeat' split) <;> omega
theorem ord_le0 {x y : Nat} : ord x y ≤ 0 ↔ x ≤ y := by unfold ord; (repeat' split) <;> omega
theorem len_lt_ord {B : Nat} (hB : 2 ≤ B) {x y : Nat} (h : (digs B x).length < (digs B y).length) : x < y := by
  rcases Nat.lt_or_ge x y with h1 | h1
  · exact h1
  · have := digs_len_mono hB h1; omega
/-- Digits that are the same from place i + 1 on: place i decides. -/
theorem at_lt_val {B : Nat} {l m : List Nat} (hl : Lt B l) (hm : Lt B m) (hlen : l.length = m.length) {i d e : Nat} (hd : l[i]? = some d) (he : m[i]? = some e) (hs : l.drop (i + 1) = m.drop (i + 1)) (h : d < e) : val B l < val B m := by
  have il : i < l.length := (List.getElem?_eq_some_iff.1 hd).1
  have el : l = l.take i ++ (d :: l.drop (i + 1)) := by
    rw [(List.getElem?_eq_some_iff.1 hd).2.symm, List.getElem_cons_drop, List.take_append_drop]
  have em : m = m.take i ++ (e :: m.drop (i + 1)) := by
    rw [(List.getElem?_eq_some_iff.1 he).2.symm, List.getElem_cons_drop, List.take_append_drop]
  have l1 : (l.take i).length = i := by simp; omega
  have l2 : (m.take i).length = i := by simp; omega
  rw [el, em, val_append, val_append, val_cons, val_cons, l1, l2, hs]
  have h1 := val_lt (hl.take i)
  rw [l1] at h1
  have h2 : B ^ i * (d + B * val B (m.drop (i + 1)) + 1) ≤ B ^ i * (e + B * val B (m.drop (i + 1))) := Nat.mul_le_mul_left _ (by omega)
  rw [Nat.mul_add, Nat.mul_one] at h2
  omega
theorem drop_step {l m : List Nat} {i d : Nat} (hd : l[i]? = some d) (he : m[i]? = some d) (hs : l.drop (i + 1) = m.drop (i + 1)) : l.drop i = m.drop i := by
  obtain ⟨i1, e1⟩ := List.getElem?_eq_some_iff.1 hd
  obtain ⟨i2, e2⟩ := List.getElem?_eq_some_iff.1 he
  rw [← List.getElem_cons_drop i1, ← List.getElem_cons_drop i2, e1, e2, hs]
theorem take_step {l : List Nat} {i d : Nat} (hd : l[i]? = some d) : l.take (i + 1) = l.take i ++ [d] := by rw [List.take_add_one, hd]; rfl
theorem drop_at {l : List Nat} {i d : Nat} (hd : l[i]? = some d) : l.drop i = d :: l.drop (i + 1) := by
  obtain ⟨i1, e1⟩ := List.getElem?_eq_some_iff.1 hd
  rw [← List.getElem_cons_drop i1, e1]
theorem val_take_step {B : Nat} {l : List Nat} {i d : Nat} (hd : l[i]? = some d) : val B (l.take (i + 1)) = val B (l.take i) + B ^ i * d := by
  have il : i < l.length := (List.getElem?_eq_some_iff.1 hd).1
  have e : (l.take i).length = i := by simp; omega
  rw [take_step hd, val_snoc, e]
theorem val_drop_step {B : Nat} {l : List Nat} {i d : Nat} (hd : l[i]? = some d) : val B (l.drop i) = d + B * val B (l.drop (i + 1)) := by rw [drop_at hd, val_cons]
theorem val_set {B : Nat} {l : List Nat} {i d : Nat} (hd : l[i]? = some d) (e : Nat) : val B (l.set i e) + B ^ i * d = val B l + B ^ i * e := by
  induction l generalizing i with
  | nil => simp at hd
  | cons c l ih =>
    cases i with
    | zero => simp at hd; subst hd; simp [val]; omega
    | succ i =>
      have := ih (i := i) (by simpa using hd)
      rw [List.set_cons_succ, val_cons, val_cons, Nat.pow_succ, Nat.mul_comm (B ^ i) B, Nat.mul_assoc, Nat.mul_assoc, Nat.add_assoc, ← Nat.mul_add, this, Nat.mul_add]; omega
/-- How many of the lowest bits are 0 ahead of the first 1; 0 of 0. -/
def tz (x : Nat) : Nat := if h : x = 0 ∨ x % 2 = 1 then 0 else tz (x / 2) + 1
termination_by x
decreasing_by exact Nat.div_lt_self (by omega) (by omega)
theorem tz_odd {x : Nat} (h : x % 2 = 1) : tz x = 0 := by rw [tz, dif_pos (Or.inr h)]
theorem tz_zero : tz 0 = 0 := by rw [tz, dif_pos (Or.inl rfl)]
theorem tz_even {x : Nat} (h0 : x ≠ 0) (h : x % 2 = 0) : tz x = tz (x / 2) + 1 := by rw [tz, dif_neg (by omega)]
theorem tz_of {x n : Nat} (h : x % 2 ^ n = 0) (h1 : x / 2 ^ n % 2 = 1) : tz x = n := by
  induction n generalizing x with
  | zero => rw [Nat.pow_zero, Nat.div_one] at h1; exact tz_odd h1
  | succ n ih =>
    have h2 : x % 2 = 0 := by
      have : 2 ∣ x := Nat.dvd_trans ⟨2 ^ n, by rw [Nat.pow_succ, Nat.mul_comm]⟩ (Nat.dvd_of_mod_eq_zero h)
      omega
    have h0 : x ≠ 0 := by rintro rfl; simp at h1
    have e : x / 2 ^ (n + 1) = x / 2 / 2 ^ n := by rw [Nat.div_div_eq_div_mul, Nat.pow_succ, Nat.mul_comm]
    rw [tz_even h0 h2, ih ?_ (by rw [← e]; exact h1)]
    obtain ⟨q, hq⟩ := Nat.dvd_of_mod_eq_zero h
    rw [hq, Nat.pow_succ, Nat.mul_comm (2 ^ n) 2, Nat.mul_assoc, Nat.mul_div_cancel_left _ (by omega)]
    exact Nat.mul_mod_right _ _
/-- how many bits x needs. -/
def nbits (x : Nat) : Nat := (digs 2 x).length
theorem nbits_zero : nbits 0 = 0 := by rw [nbits, digs_zero]; rfl
theorem nbits_half {x : Nat} (h : 0 < x) : nbits x = nbits (x / 2) + 1 := by rw [nbits, digs_pos (by omega) h]; rfl
theorem nbits_of {x n : Nat} (h : x < 2 ^ (n + 1)) (h1 : 2 ^ n ≤ x) : nbits x = n + 1 := by
  have h2 : nbits x ≤ n + 1 := digs_len_le (by omega) h
  have h3 : x < 2 ^ nbits x := digs_lt_pow (by omega) x
  rcases Nat.lt_or_ge (nbits x) (n + 1) with h4 | h4
  · have := Nat.pow_le_pow_right (n := 2) (by omega) (show nbits x ≤ n by omega); omega
  · omega
theorem nbits_lt {x : Nat} : x < 2 ^ nbits x := digs_lt_pow (by omega) x
theorem nbits_le {x : Nat} (h : 0 < x) : 2 ^ (nbits x - 1) ≤ x := by
  refine digs_pow_le (B := 2) (by omega) x ?_
  have : nbits x ≠ 0 := fun h2 => by have := (digs_len0 (B := 2) (by omega)).1 h2; omega
  unfold nbits at this ⊢; omega
theorem nbits_le_of {x n : Nat} (h : x < 2 ^ n) : nbits x ≤ n := digs_len_le (by omega) h
theorem len10000_le {x k : Nat} (h : x < 4294967296 ^ k) : (digs 10000 x).length ≤ 3 * k := by
  refine digs_len_le (by omega) (Nat.lt_of_lt_of_le h ?_)
  rw [Nat.pow_mul]
  exact Nat.pow_le_pow_left (by decide) k
theorem len10000_val {l : List Nat} (h : Lt 4294967296 l) : (digs 10000 (val 4294967296 l)).length ≤ 3 * l.length := len10000_le (val_lt h)
theorem digs_div_len {B d x : Nat} (hB : 2 ≤ B) (hd : B ≤ d) (hx : 0 < x) : (digs B (x / d)).length < (digs B x).length := by
  have h1 : x / d ≤ x / B := Nat.div_le_div_left hd (by omega)
  have h2 := digs_len_mono hB h1
  rw [digs_pos hB hx, List.length_cons]; omega
theorem set_drop {l : List Nat} {i d : Nat} (hi : i < l.length) : (l.set i d).drop i = d :: l.drop (i + 1) := by
  rw [drop_at (d := d) (by simp [hi]), List.drop_set_of_lt (by omega)]
end Go.Proofs.YtpcllhdfalebbaaGreatDoor.num
namespace Go.Proofs.YtpcllhdfalebbaaGreatDoor.mem
open Go.RowKit
set_option linter.unusedVariables false
/-- The cells of a list of numbers. -/
def nv (k : IntKind) (l : List Nat) : List Value := l.map fun d : Nat => Value.int k (d : Int)
theorem nv_len (k : IntKind) (l : List Nat) : (nv k l).length = l.length := by simp [nv]
theorem nv_at (k : IntKind) {l : List Nat} {i d : Nat} (h : l[i]? = some d) : (nv k l)[i]? = some (.int k (d : Int)) := by simp [nv, h]
theorem nv_append (k : IntKind) (l m : List Nat) : nv k (l ++ m) = nv k l ++ nv k m := by simp [nv]
theorem nv_set (k : IntKind) (l : List Nat) (i d : Nat) : (nv k l).set i (.int k (d : Int)) = nv k (l.set i d) := by simp [nv, List.map_set]
theorem nv_one (k : IntKind) (l : List Nat) : ∀ u ∈ nv k l, u.oneCell' = true := by
  intro u hu
  obtain ⟨_, _, rfl⟩ := List.mem_map.1 hu
  rfl
/-- From address A on the memory reads as the list. -/
def Rd (w : World) (A : Option Addr) (k : IntKind) (l : List Nat) : Prop := ∀ (i d : Nat), l[i]? = some d → ∃ ad, A = some ad ∧ w.cell? (ad.add i) = some (.int k (d : Int))
/-- The slice reads as the list. -/
def IsS (w : World) (k : IntKind) (v : Value) (l : List Nat) : Prop := ∃ A c, v = .slice A l.length c ∧ l.length ≤ c ∧ c ≤ maxLen ∧ Rd w A k l
theorem block_add (a : Addr) (n : Nat) : (a.add n).block = a.block := by unfold Addr.add; split <;> rfl
theorem Rd.keep {w w' : World} {A : Option Addr} {k : IntKind} {l : List Nat} (h : Rd w A k l) (hk : ∀ p : Addr, p.block < w.heap.size → w'.cell? p = w.cell? p) : Rd w' A k l := by
  intro i d hd
  obtain ⟨ad, ha, hc⟩ := h i d hd
  exact ⟨ad, ha, (hk _ (World.block_lt_of_cell? w _ hc)).trans hc⟩
theorem Rd.below {w w' : World} {A : Option Addr} {k : IntKind} {l : List Nat} (h : Rd w A k l) (hb : Below w.heap.size w w') : Rd w' A k l := h.keep fun p hp => hb.cell hp
theorem IsS.below {w w' : World} {k : IntKind} {v : Value} {l : List Nat} (h : IsS w k v l) (hb : Below w.heap.size w w') : IsS w' k v l := by
  obtain ⟨A, c, e, h1, h2, h3⟩ := h
  exact ⟨A, c, e, h1, h2, h3.below hb⟩
theorem IsS.drewN {w : World} {k : IntKind} {v : Value} {l : List Nat} (h : IsS w k v l) (n : Nat) : IsS (w.drewN n) k v l := h
theorem Rd.at_ {w : World} {A : Option Addr} {k : IntKind} {l : List Nat} (h : Rd w A k l) {i : Nat} (hi : i < l.length) : ∃ ad d, A = some ad ∧ l[i]? = some d ∧ w.cell? (ad.add i) = some (.int k (d : Int)) := by
  obtain ⟨ad, ha, hc⟩ := h i _ (List.getElem?_eq_getElem hi)
  exact ⟨ad, _, ha, List.getElem?_eq_getElem hi, hc⟩
theorem Rd.take {w : World} {A : Option Addr} {k : IntKind} {l : List Nat} (h : Rd w A k l) (n : Nat) : Rd w A k (l.take n) := by
  intro i d hd
  rw [List.getElem?_take] at hd
  split at hd
  · exact h i d hd
  · cases hd
theorem Rd.nil {w : World} {A : Option Addr} {k : IntKind} : Rd w A k [] := by intro i d hd; simp at hd
theorem IsS.len {w : World} {k : IntKind} {v : Value} {l : List Nat} (h : IsS w k v l) : l.length ≤ maxLen := by
  obtain ⟨A, c, e, h1, h2, h3⟩ := h; omega
/-- A slice cut at its end. -/
theorem Rd.isTake {w : World} {A : Option Addr} {k : IntKind} {l : List Nat} {n c : Nat} (h : Rd w A k l) (hn : n ≤ l.length) (hc : l.length ≤ c) (hm : c ≤ maxLen) : IsS w k (.slice A n c) (l.take n) := by
  have e : (l.take n).length = n := by simp; omega
  exact ⟨A, c, by rw [e], by rw [e]; omega, hm, h.take n⟩
theorem isNil (w : World) (k : IntKind) : IsS w k (.slice none 0 0) [] := ⟨none, 0, rfl, by simp, by simp, Rd.nil⟩
/-- A row of the call's own that reads as the list. -/
def Own (w : World) (base : Nat) (e : TypeId) (k : IntKind) (v : Value) (l : List Nat) : Prop := w.ownsRow base e 1 v l.length (nv k l)
theorem Own.isS {w : World} {base : Nat} {e : TypeId} {k : IntKind} {v : Value} {l : List Nat} (h : Own w base e k v l) : IsS w k v l := by
  have hc := h.2
  rcases hc with ⟨rfl, h0⟩ | ⟨g, cap, cur, rfl, _, hg, hn, hm, _, _⟩
  · obtain rfl : l = [] := List.length_eq_zero_iff.1 h0
    exact isNil w k
  · refine ⟨_, _, rfl, hn, hm, ?_⟩
    intro i d hd
    exact ⟨_, rfl, World.ownsRow.cells h (g := g) rfl i _ (nv_at k hd)⟩
theorem Own.alloc {w : World} {base : Nat} {e : TypeId} {k : IntKind} {v : Value} {l : List Nat} (h : Own w base e k v l) (o : Obj) : Own (w.alloc o) base e k v l := World.ownsRow.alloc h o
theorem Own.drewN {w : World} {base : Nat} {e : TypeId} {k : IntKind} {v : Value} {l : List Nat} (h : Own w base e k v l) (n : Nat) : Own (w.drewN n) base e k v l := h
/-- What is owned is kept by what only makes new blocks. -/
theorem Own.below {w w' : World} {base : Nat} {e : TypeId} {k : IntKind} {v : Value} {l : List Nat} (h : Own w base e k v l) (hb : Below w.heap.size w w') : Own w' base e k v l :=
  World.ownsRow.kept (row := none) h ⟨hb.os, hb.tape, hb.output, hb.size, fun i hi _ => hb.block i hi⟩ (by cases hv : v.ownBlock <;> simp)
theorem Own.base_le {w : World} {base : Nat} {e : TypeId} {k : IntKind} {v : Value} {l : List Nat} (h : Own w base e k v l) : ∀ g, v.ownBlock = some g → base ≤ g := fun g hg => (World.ownsRow.lt h g hg).1
theorem Own.mono {w : World} {base base' : Nat} {e : TypeId} {k : IntKind} {v : Value} {l : List Nat} (h : Own w base e k v l) (hb : base' ≤ base) : Own w base' e k v l := by
  refine ⟨h.1, ?_⟩
  rcases h.2 with hn | ⟨g, cap, cur, hv, hg, rest⟩
  · exact Or.inl hn
  · exact Or.inr ⟨g, cap, cur, hv, by omega, rest⟩
/-- A literal of numbers, made anew. -/
theorem own_lit (w : World) (base : Nat) (e : TypeId) (k : IntKind) (l : List Nat) (hb : base ≤ w.heap.size) (hm : l.length ≤ maxLen) :
    Own (w.alloc (.cells (nv k l).toArray e)) base e k (.slice (some ⟨w.heap.size, 0, none⟩) l.length l.length) l := by
  have h := World.ownsRow_lit (e := e) (size := 1) w (nv k l).toArray l.length hb hm (by simp [nv])
  simpa [Own] using h
theorem own_lit0 (w : World) (base : Nat) (e : TypeId) (k : IntKind) (hb : base ≤ w.heap.size) : Own (w.alloc (.cells #[] e)) base e k (.slice (some ⟨w.heap.size, 0, none⟩) 0 0) [] := own_lit w base e k [] hb (by simp)
theorem below_alloc {B : Nat} {w : World} (h : B ≤ w.heap.size) (o : Obj) : Below B w (w.alloc o) := (Below.refl B w).alloc h o
/-- Behind an append of one element. -/
theorem Own.snoc {w : World} {base : Nat} {e : TypeId} {k : IntKind} {v : Value} {l : List Nat} {d : Nat} (h : w.ownsRow base e 1 v (l.length + 1) (nv k l ++ [.int k (d : Int)])) : Own w base e k v (l ++ [d]) := by
  unfold Own
  rw [nv_append, List.length_append]
  exact h
theorem Own.more {w : World} {base : Nat} {e : TypeId} {k : IntKind} {v : Value} {l m : List Nat} (h : w.ownsRow base e 1 v (l.length + m.length) (nv k l ++ nv k m)) : Own w base e k v (l ++ m) := by
  unfold Own
  rw [nv_append, List.length_append]
  exact h
/-- The row's own place, where it is not nil. -/
theorem Own.place {w : World} {base : Nat} {e : TypeId} {k : IntKind} {v : Value} {l : List Nat} (h : Own w base e k v l) (hl : 0 < l.length) :
    ∃ g cap, v = .slice (some ⟨g, 0, none⟩) l.length cap ∧ l.length ≤ cap ∧ cap ≤ maxLen ∧ base ≤ g ∧ g < w.heap.size := by
  rcases h.2 with ⟨rfl, h0⟩ | ⟨g, cap, cur, rfl, hg, hh, hn, hm, _, _⟩
  · omega
  · exact ⟨g, cap, rfl, hn, hm, hg, (Array.getElem?_eq_some_iff.1 hh).1⟩
theorem Own.cellAt {w : World} {base : Nat} {e : TypeId} {k : IntKind} {g n cap : Nat} {l : List Nat} (h : Own w base e k (.slice (some ⟨g, 0, none⟩) n cap) l) {i d : Nat} (hd : l[i]? = some d) : w.cell? ⟨g, i, none⟩ = some (.int k (d : Int)) := by
  have := World.ownsRow.cells h (g := g) rfl i _ (nv_at k hd)
  have ha : (⟨g, 0, none⟩ : Addr).add i = ⟨g, i, none⟩ := by unfold Addr.add; split <;> simp_all
  rwa [ha] at this
theorem Own.len_eq {w : World} {base : Nat} {e : TypeId} {k : IntKind} {A : Option Addr} {n cap : Nat} {l : List Nat} (h : Own w base e k (.slice A n cap) l) : n = l.length := by
  rcases h.2 with ⟨h1, h0⟩ | ⟨g, cap', cur, h1, _⟩
  · injection h1 with _ h1 _; omega
  · injection h1 with _ h1 _
theorem Own.frozenAt {w : World} {base : Nat} {e : TypeId} {k : IntKind} {g n cap : Nat} {l : List Nat} (h : Own w base e k (.slice (some ⟨g, 0, none⟩) n cap) l) (i : Nat) : w.frozen? ⟨g, i, none⟩ = false := by
  obtain rfl := h.len_eq
  exact World.ownsRow.frozenAt h i
/-- A store into the row. -/
theorem Own.stored {w : World} {base : Nat} {e : TypeId} {k : IntKind} {g n cap : Nat} {l : List Nat} (h : Own w base e k (.slice (some ⟨g, 0, none⟩) n cap) l) (i d : Nat) : Own (w.setCell ⟨g, i, none⟩ (.int k (d : Int))) base e k (.slice (some ⟨g, 0, none⟩) n cap) (l.set i d) := by
  obtain rfl := h.len_eq
  have := (World.ownsRow.stored h i (.int k (d : Int))).1
  unfold Own
  rw [← nv_set, List.length_set]
  exact this
theorem Own.stored' {w : World} {base : Nat} {e : TypeId} {k : IntKind} {g n cap : Nat} {l : List Nat} (h : Own w base e k (.slice (some ⟨g, 0, none⟩) n cap) l) (i d : Nat) {x : Int} (hx : x = (d : Int)) : Own (w.setCell ⟨g, i, none⟩ (.int k x)) base e k (.slice (some ⟨g, 0, none⟩) n cap) (l.set i d) := by
  subst hx; exact h.stored i d
theorem ediv_cast {x : Int} {n d : Nat} (h : x = (n : Int)) : x / (d : Int) = ((n / d : Nat) : Int) := by subst h; exact (Int.natCast_ediv n d).symm
theorem emod_cast {x : Int} {n d : Nat} (h : x = (n : Int)) : x % (d : Int) = ((n % d : Nat) : Int) := by subst h; exact (Int.natCast_emod n d).symm
/-- How long the slice in a slot is: for a loop's measure. -/
def lenOf : Value → Nat | .slice _ n _ => n | _ => 0
theorem int_eq {k : IntKind} {a b : Int} (h : a = b) : Value.int k a = .int k b := by rw [h]
/-- make([]T, n). -/
theorem own_made (w : World) (base : Nat) (e : TypeId) (k : IntKind) (n : Nat) (hb : base ≤ w.heap.size) (hm : n ≤ maxLen) :
    Own (w.alloc (.cells (madeCells #[.int k 0] n) e)) base e k (.slice (some ⟨w.heap.size, 0, none⟩) n n) (List.replicate n 0) := by
  have e1 : (madeCells #[.int k 0] n) = (nv k (List.replicate n 0)).toArray := by
    apply Array.toList_inj.1
    rw [toList_madeCells_one]; simp [nv]
  rw [e1]
  have := own_lit w base e k (List.replicate n 0) hb (by simpa using hm)
  simpa using this
theorem own_of_make {w : World} {base : Nat} {e : TypeId} {k : IntKind} {g n : Nat} (h : w.ownsRow base e 1 (.slice (some ⟨g, 0, none⟩) n n) n (madeCells #[.int k 0] (n * 1)).toList) : Own w base e k (.slice (some ⟨g, 0, none⟩) n n) (List.replicate n 0) := by
  rw [Nat.mul_one, toList_madeCells_one] at h
  unfold Own
  simpa [nv] using h
theorem below_drewN {B : Nat} {a w : World} (h : Below B a w) (n : Nat) : Below B a (w.drewN n) := ⟨h.os, h.tape, h.output, h.size, h.block⟩
/-- The slice lies in blocks from B on. -/
def Fresh (B : Nat) (v : Value) : Prop := ∀ ad n c, v = .slice (some ad) n c → B ≤ ad.block
theorem Fresh.mono {B B' : Nat} {v : Value} (h : Fresh B v) (hb : B' ≤ B) : Fresh B' v := fun ad n c e => Nat.le_trans hb (h ad n c e)
theorem Own.fresh {w : World} {base : Nat} {e : TypeId} {k : IntKind} {v : Value} {l : List Nat} (h : Own w base e k v l) : Fresh base v := by
  rintro ad n c rfl
  exact h.base_le ad.block rfl
theorem Own.under {w : World} {base : Nat} {e : TypeId} {k : IntKind} {v : Value} {l : List Nat} (h : Own w base e k v l) : ∀ g, v.ownBlock = some g → g < w.heap.size := fun g hg => (World.ownsRow.lt h g hg).2
theorem grown_trans {a b c : World} {r : Option Nat} (h : a.grownBy b r) (k : b.grownBy c r) : a.grownBy c r :=
  ⟨k.os.trans h.os, k.tape.trans h.tape, k.output.trans h.output, Nat.le_trans h.size k.size, fun i hi hn => (k.block i (Nat.lt_of_lt_of_le hi h.size) hn).trans (h.block i hi hn)⟩
/-- A slice that lies elsewhere is kept where the row turned. -/
theorem IsS.apart {w w' : World} {k : IntKind} {v u : Value} {l : List Nat} {B : Nat} (h : IsS w k v l) (hf : Fresh B v) (hu : ∀ g, u.ownBlock = some g → g < B) (hg : w.grownBy w' u.ownBlock) : IsS w' k v l := by
  obtain ⟨A, c, rfl, h1, h2, h3⟩ := h
  refine ⟨A, c, rfl, h1, h2, ?_⟩
  intro i d hd
  obtain ⟨ad, rfl, hc⟩ := h3 i d hd
  refine ⟨ad, rfl, hg.cell hc ?_⟩
  rw [block_add]
  intro e
  have h4 := hu _ e.symm
  have h5 := hf ad _ _ rfl
  omega
theorem IsS.setCell {w : World} {k : IntKind} {v : Value} {l : List Nat} {B : Nat} (h : IsS w k v l) (hf : Fresh B v) {p : Addr} (hp : p.block < B) (x : Value) : IsS (w.setCell p x) k v l := by
  obtain ⟨A, c, rfl, h1, h2, h3⟩ := h
  refine ⟨A, c, rfl, h1, h2, ?_⟩
  intro i d hd
  obtain ⟨ad, rfl, hc⟩ := h3 i d hd
  refine ⟨ad, rfl, ?_⟩
  rw [World.cell?_setCell_other]
  · exact hc
  · intro e
    have h5 := hf ad _ _ rfl
    have := congrArg Addr.block e
    rw [block_add] at this
    omega
/-- The call ends with a new slice that reads as the list; what was there is as it was. -/
def RetS (k : IntKind) (l : List Nat) (w : World) (e : Ending) (w' : World) : Prop := ∃ v, e = .returned v ∧ IsS w' k v l ∧ Fresh w.heap.size v ∧ Below w.heap.size w w'
/-- The same, and the slice is a new row. -/
def RetOwn (t : TypeId) (k : IntKind) (l : List Nat) (w : World) (e : Ending) (w' : World) : Prop := ∃ v, e = .returned v ∧ Own w' w.heap.size t k v l ∧ Below w.heap.size w w'
/-- The same, with a number behind it. -/
def RetSI (k : IntKind) (l : List Nat) (n : Int) (w : World) (e : Ending) (w' : World) : Prop := ∃ v, e = .returned (.tuple #[v, .int .i64 n]) ∧ IsS w' k v l ∧ Fresh w.heap.size v ∧ Below w.heap.size w w'
/-- The call ends with this value; what was there is as it was. -/
def RetV (v : Value) (w : World) (e : Ending) (w' : World) : Prop := e = .returned v ∧ Below w.heap.size w w'
/-- The call ends with this value; it only read. -/
def RetQ (v : Value) (w : World) (e : Ending) (w' : World) : Prop := e = .returned v ∧ ∃ n, w' = w.drewN n
/-- Slice type t has elements of type e, numbers of kind k. -/
structure SliceT (P : Program) (t e : TypeId) (k : IntKind) : Prop where
  und : P.underlying t = some (.slice e)
  info : ∃ i, P.info? e = some i ∧ i.zero = some (.int k 0) ∧ i.size = 1 ∧ i.bytes = 8
section
variable {P : Program}
theorem run_append_rd {w : World} {base : Nat} {t ty e : TypeId} {k : IntKind} (hT : SliceT P t e k) {v : Value} {l news : List Nat} (hown : Own w base e k v l) {A : Option Addr} {m c : Nat} (hm : m = news.length) (hr : Rd w A k news)
    (hlen : l.length + m ≤ 10000000000000) (hbase : base ≤ w.heap.size) :
    ∃ v' w', (Builtin.append_ #[t, t] ty #[v, .slice A m c]).run P w = .ok v' w' ∧ Own w' base e k v' (l ++ news) ∧ w.grownBy w' v.ownBlock := by
  obtain ⟨i, hi, hz, hs, hb⟩ := hT.info
  subst hm
  rcases A with _ | ad
  · have hn : news = [] := by
      rcases news with _ | ⟨d, n⟩
      · rfl
      · obtain ⟨ad, h, _⟩ := hr 0 d (by simp); cases h
    subst hn
    refine ⟨v, w, ?_, by simpa using hown, World.grownBy.refl _ _⟩
    rcases hown.2 with ⟨rfl, h0⟩ | ⟨g, cap, cur, rfl, _, _, hnc, _⟩
    · simp [Builtin.append_, run_underlying hT.und, sizeOf, typeInfo, hi, Builtin.lenOf, Builtin.firstCells]
    · simp [Builtin.append_, run_underlying hT.und, sizeOf, typeInfo, hi, Builtin.lenOf, Builtin.firstCells, hnc, storeCells]
  · have hcells : ∀ j u, (nv k news)[j]? = some u → w.cell? (ad.add j) = some u := by
      intro j u hu
      simp only [nv, List.getElem?_map, Option.map_eq_some_iff] at hu
      obtain ⟨d, hd, rfl⟩ := hu
      obtain ⟨ad', h, hc⟩ := hr j d hd
      injection h with h; subst h; exact hc
    obtain ⟨v', w', h1, h2, h3, _⟩ := run_append_own (P := P) w base t ty e i (.int k 0) 1 8 hT.und hi hz hs hb rfl (by decide) v l.length (nv k l) hown ad news.length c (nv k news) (by simp [nv]) hcells (nv_one k news) (by unfold maxLen; omega) (by omega) hbase
    exact ⟨v', w', h1, Own.more h2, h3⟩
theorem wp_append_rd {w : World} {o : Oper} {a : Act} {K : Act → World → Prop} {Q : Exit → Act → World → Prop} (s x : Operand) {t : TypeId}
    (ho : o.op = .call { callee := .builtin .append, args := #[s, x], argTypes := #[t, t] })
    {base : Nat} {e : TypeId} {k : IntKind} (hT : SliceT P t e k) {v : Value} {l news : List Nat} (hs : a.eval s = v) (hown : Own w base e k v l) {A : Option Addr} {m c : Nat} (hx : a.eval x = .slice A m c) (hm : m = news.length) (hr : Rd w A k news)
    (hlen : l.length + m ≤ 10000000000000) (hbase : base ≤ w.heap.size)
    (h : ∀ v' w', Own w' base e k v' (l ++ news) → w.grownBy w' v.ownBlock → K (a.put o.dst v') w') : o.wp P a w K Q := by
  obtain ⟨v', w', hrun, h2, h3⟩ := run_append_rd (P := P) (ty := o.type) hT hown (c := c) hm hr hlen hbase
  unfold Oper.wp execOp
  simp only [ho, resolve, invoke, builtin, Sem.run_bind, Sem.run_pure, Result.andThen_ok, List.map_toArray, List.map_cons, List.map_nil, hs, hx, hrun]
  exact h v' w' h2 h3
theorem wpList_append_rd {w : World} {ops : Array Oper} {rest : List Oper} {o : Oper} {a : Act} {Q : Exit → Act → World → Prop} (hgd : o.guard = none) (s x : Operand) {t : TypeId}
    (ho : o.op = .call { callee := .builtin .append, args := #[s, x], argTypes := #[t, t] })
    {base : Nat} {e : TypeId} {k : IntKind} (hT : SliceT P t e k) {v : Value} {l news : List Nat} (hs : a.eval s = v) (hown : Own w base e k v l) {A : Option Addr} {m c : Nat} (hx : a.eval x = .slice A m c) (hm : m = news.length) (hr : Rd w A k news)
    (hlen : l.length + m ≤ 10000000000000) (hbase : base ≤ w.heap.size)
    (h : ∀ v' w', Own w' base e k v' (l ++ news) → Below base w w' → w.grownBy w' v.ownBlock → wpList P ops Q rest (a.put o.dst v') w') : wpList P ops Q (o :: rest) a w :=
  wpList_plain hgd fun _ hK => wp_append_rd s x ho hT hs hown hx hm hr hlen hbase fun v' w' h2 h3 => hK _ _ (h v' w' h2 ((Below.refl base w).grown h3 hbase (Own.base_le hown)) h3)
theorem rd_new (w : World) (e : TypeId) (k : IntKind) {x : Int} {d : Nat} (hd : x = (d : Int)) : Rd (w.alloc (.cells #[.int k x] e)) (some ⟨w.heap.size, 0, none⟩) k [d] := by
  intro i d' hd'
  rcases i with _ | i
  · simp at hd'; subst hd'; subst hd
    exact ⟨_, rfl, by simp [Addr.add, World.cell?_alloc_at]⟩
  · simp at hd'
/-- A literal of one number. -/
theorem own_lit1 (w : World) (base : Nat) (e : TypeId) (k : IntKind) {x : Int} {d : Nat} (hd : x = (d : Int)) (hb : base ≤ w.heap.size) : Own (w.alloc (.cells #[.int k x] e)) base e k (.slice (some ⟨w.heap.size, 0, none⟩) 1 1) [d] := by
  subst hd; exact own_lit w base e k [d] hb (by unfold maxLen; simp)
theorem own_lit2 (w : World) (base : Nat) (e : TypeId) (k : IntKind) {x y : Int} {d f : Nat} (hd : x = (d : Int)) (hf : y = (f : Int)) (hb : base ≤ w.heap.size) : Own (w.alloc (.cells #[.int k x, .int k y] e)) base e k (.slice (some ⟨w.heap.size, 0, none⟩) 2 2) [d, f] := by
  subst hd; subst hf; exact own_lit w base e k [d, f] hb (by unfold maxLen; simp)
theorem fresh_at {B g n c : Nat} (h : B ≤ g) : Fresh B (.slice (some ⟨g, 0, none⟩) n c) := by
  intro ad n' c' e
  injection e with e _ _
  injection e with e
  subst e; exact h
/-- 'out = append(out, x)'. -/
theorem wpList_append_one {w : World} {ops : Array Oper} {rest : List Oper} {o : Oper} {a : Act} {Q : Exit → Act → World → Prop} (hgd : o.guard = none) (s x : Operand) {t : TypeId}
    (ho : o.op = .call { callee := .builtin .append, args := #[s, x], argTypes := #[t, t] })
    {base : Nat} {e : TypeId} {k : IntKind} (hT : SliceT P t e k) {v : Value} {l : List Nat} (d : Nat) {y : Int} (hs : a.eval s = v) (hown : Own w base e k v l) (hx : a.eval x = .slice (some ⟨w.heap.size, 0, none⟩) 1 1) (hd : y = (d : Int))
    (hlen : l.length ≤ 1000000000000) (hbase : base ≤ w.heap.size)
    (h : ∀ v' w', Own w' base e k v' (l ++ [d]) → Below base w w' → w.grownBy w' v.ownBlock → wpList P ops Q rest (a.put o.dst v') w') : wpList P ops Q (o :: rest) a (w.alloc (.cells #[.int k y] e)) :=
  wpList_append_rd hgd s x ho hT hs (hown.alloc _) hx rfl (rd_new w e k hd) (by omega) (by simp; omega) fun v' w' h1 h2 h3 => h v' w' h1 (((Below.refl base w).alloc hbase _).trans h2) (grown_trans (World.grownBy_alloc w _ _) h3)
/-- 'make([]T, n)'. -/
theorem wpList_make_rd {w : World} {ops : Array Oper} {rest : List Oper} {o : Oper} {a : Act} {Q : Exit → Act → World → Prop} (hgd : o.guard = none) (lo co : Operand) {t : TypeId} (ho : o.op = Op.makeSlice t lo co)
    {base : Nat} {e : TypeId} {k : IntKind} (hT : SliceT P t e k) {kl kc : IntKind} {L C : Int} (n : Nat) (hl : a.eval lo = .int kl L) (hc : a.eval co = .int kc C) (hL : L = (n : Int)) (hC : C = (n : Int)) (hn : n ≤ 10000000000000) (hbase : base ≤ w.heap.size)
    (h : ∀ w', Own w' base e k (.slice (some ⟨w.heap.size, 0, none⟩) n n) (List.replicate n 0) → Below w.heap.size w w' → w.heap.size < w'.heap.size → wpList P ops Q rest (a.put o.dst (.slice (some ⟨w.heap.size, 0, none⟩) n n)) w') : wpList P ops Q (o :: rest) a w := by
  obtain ⟨i, hi, hz, hs, hb⟩ := hT.info
  refine wpList_make_full w hgd lo co t ho base e i (.int k 0) 1 hT.und hi hz hs kl kc L C n hl hc hL hC (by rw [hb]; omega) (by unfold maxLen; omega) hbase fun w' h1 h2 => ?_
  have hw := own_of_make h1
  refine h w' hw ((Below.refl _ w).grown h2 (Nat.le_refl _) (fun g hg => by cases hg)) ?_
  rcases h1.2 with ⟨h3, _⟩ | ⟨g, cap, cur, h3, _, h4, _⟩
  · cases h3
  · injection h3 with h3 _ _
    injection h3 with h3
    injection h3 with h3 _ _
    subst h3
    exact (Array.getElem?_eq_some_iff.1 h4).1
end
/-- The call ends with two new slices. -/
def RetSS (k : IntKind) (l m : List Nat) (w : World) (e : Ending) (w' : World) : Prop := ∃ v u, e = .returned (.tuple #[v, u]) ∧ IsS w' k v l ∧ IsS w' k u m ∧ Fresh w.heap.size v ∧ Fresh w.heap.size u ∧ Below w.heap.size w w'
end Go.Proofs.YtpcllhdfalebbaaGreatDoor.mem
namespace Go.Proofs.YtpcllhdfalebbaaGreatDoor.nat
open Go.RowKit Go.Proofs.YtpcllhdfalebbaaGreatDoor.num Go.Proofs.YtpcllhdfalebbaaGreatDoor.mem
set_option linter.unusedVariables false
theorem sl33 : SliceT Tryz.prog 32 3 .i64 := ⟨Tryz.underlying32, info_parts (P := Tryz.prog) (e := 3) (z := .int .i64 0) (size := 1) (bytes := 8) (by kernel_rfl)⟩
theorem sl24 : SliceT Tryz.prog 23 60 .u64 := ⟨Tryz.underlying23, info_parts (P := Tryz.prog) (e := 60) (z := .int .u64 0) (size := 1) (bytes := 8) (by kernel_rfl)⟩
theorem sl22 : SliceT Tryz.prog 22 60 .u64 := ⟨Tryz.underlying22, info_parts (P := Tryz.prog) (e := 60) (z := .int .u64 0) (size := 1) (bytes := 8) (by kernel_rfl)⟩
/-- nat.trimmed ends with a slice that reads so, in the memory of the one that was handed in. -/
def RetTr (l : List Nat) (v : Value) (w : World) (e : Ending) (w' : World) : Prop := ∃ v', e = .returned v' ∧ IsS w .u64 v' l ∧ (∀ B, Fresh B v → Fresh B v') ∧ w = w'
theorem beq0 {d : Nat} (h : ((d : Int) == 0) = true) : d = 0 := by have := beq_iff_eq.1 h; omega
theorem nbeq0 {d : Nat} (h : ((d : Int) == 0) = false) : d ≠ 0 := by have := beq_eq_false_iff_ne.1 h; omega
set_option maxHeartbeats 400000 in
theorem trimmed_any (v : Value) (l : List Nat) (w : World) (h : IsS w .u64 v l) :
    Calls Tryz.prog 101 #[v] w (RetTr (trim l) v w) := by
  obtain ⟨A, c, rfl, hc, hm, hr⟩ := h
  have hm' := hm
  unfold maxLen at hm'
  go_enter Tryz.func101, Tryz.ntmps101
  go_wp2
  go_loop [3] (fun vn => ∃ n : Nat, n ≤ l.length ∧ Hid (trim (l.take n) = trim l) ∧ vn = .int .i64 (n : Int)) (fun vn => (intOf vn).toNat)
  case atStart => exact ⟨l.length, Nat.le_refl _, by rw [List.take_length]; rfl, rfl⟩
  case round =>
    obtain ⟨n, hn, ht, rfl⟩ := hrel
    by_cases hp : 0 < n
    · obtain ⟨n, rfl⟩ : ∃ m, n = m + 1 := ⟨n - 1, by omega⟩
      obtain ⟨ad, d, rfl, hd, hcell⟩ := hr.at_ (i := n) (by omega)
      have HD := Lib.hid hd
      clear hd
      go_wp2
      · have hz : d = 0 := by have h : ((d : Int) == 0) = true := by assumption
                              exact beq0 h
        subst hz
        go_round
        case rel => exact ⟨n, by omega, by have h1 := ht.out; rw [trim_take0 HD.out] at h1; exact h1, by go_num⟩
        case measure => simp [intOf]
      · have hz : d ≠ 0 := by have h : ((d : Int) == 0) = false := by assumption
                              exact nbeq0 h
        have e : trim l = l.take (n + 1) := by have h1 := ht.out; rw [trim_of_take HD.out hz] at h1; exact h1.symm
        have el : (trim l).length = n + 1 := by rw [e]; simp; omega
        have hs := hr.isTake hn hc hm
        rw [← e, ← el] at hs
        have HEL := Lib.hid el
        clear e el
        go_ret
        rw [HEL.out] at hs
        exact ⟨_, rfl, hs, fun B hf ad' n' c' e => by injection e with e1 _ _; injection e1 with e1; subst e1; exact hf _ _ _ rfl, rfl⟩
    · obtain rfl : n = 0 := by omega
      have e : trim l = [] := by have h1 := ht.out; rw [List.take_zero] at h1; exact h1.symm
      have hs := hr.isTake (Nat.zero_le _) hc hm
      rw [List.take_zero] at hs
      have HE := Lib.hid e
      clear e
      go_wp2
      go_ret
      rw [HE.out]
      exact ⟨_, rfl, hs, fun B hf ad' n' c' e => by injection e with e1 _ _; subst e1; exact hf _ _ _ rfl, rfl⟩
set_option maxHeartbeats 400000 in
theorem refTrim_list (v : Value) (l : List Nat) (w : World) (h : IsS w .i64 v l) (hl : l.length ≤ 1000000000000) :
    Calls Tryz.prog 74 #[v] w (RetS .i64 (trim l) w) := by
  obtain ⟨A, c, rfl, hc, hm, hr⟩ := h
  have hm' := hm
  unfold maxLen at hm'
  go_enter Tryz.func74, Tryz.ntmps74
  go_wp2
  go_loop [3] (fun vn => ∃ n : Nat, n ≤ l.length ∧ Hid (trim (l.take n) = trim l) ∧ vn = .int .i64 (n : Int)) (fun vn => (intOf vn).toNat)
  case atStart => exact ⟨l.length, Nat.le_refl _, by rw [List.take_length]; rfl, rfl⟩
  case round =>
    obtain ⟨n, hn, ht, rfl⟩ := hrel
    by_cases hp : 0 < n
    · obtain ⟨n, rfl⟩ : ∃ m, n = m + 1 := ⟨n - 1, by omega⟩
      obtain ⟨ad, d, rfl, hd, hcell⟩ := hr.at_ (i := n) (by omega)
      have HD := Lib.hid hd
      clear hd
      have htk : n + 1 = (l.take (n + 1)).length := by simp; omega
      have HT := Lib.hid htk
      clear htk
      go_wp2_with (at_builtin; refine wpList_append_rd rfl (.tmp 18) (.tmp 21) rfl sl33 rfl (own_lit0 w w.heap.size _ .i64 (Nat.le_refl _)) rfl (news := l.take (n + 1)) HT.out ((hr.take (n + 1)).below (below_alloc (Nat.le_refl _) _)) (by simp; omega) (by simp) ?_; intro v' w1 hown1 hb1 hg1)
      · have hz : d = 0 := by have h : ((d : Int) == 0) = true := by assumption
                              exact beq0 h
        subst hz
        go_round
        case rel => exact ⟨n, by omega, by have h1 := ht.out; rw [trim_take0 HD.out] at h1; exact h1, by go_num⟩
        case measure => simp [intOf]
      · have hz : d ≠ 0 := by have h : ((d : Int) == 0) = false := by assumption
                              exact nbeq0 h
        have e : trim l = l.take (n + 1) := by have h1 := ht.out; rw [trim_of_take HD.out hz] at h1; exact h1.symm
        have HE := Lib.hid e
        clear e
        go_ret
        exact ⟨_, rfl, by have := hown1.isS; rwa [List.nil_append, ← HE.out] at this, hown1.fresh, (below_alloc (Nat.le_refl _) _).trans hb1⟩
    · obtain rfl : n = 0 := by omega
      have e : trim l = [] := by have h1 := ht.out; rw [List.take_zero] at h1; exact h1.symm
      have HE := Lib.hid e
      clear e
      go_wp2_with (at_builtin; refine wpList_append_rd rfl (.tmp 18) (.tmp 21) rfl sl33 rfl (own_lit0 w w.heap.size _ .i64 (Nat.le_refl _)) rfl (news := []) rfl Rd.nil (by simp) (by simp) ?_; intro v' w1 hown1 hb1 hg1)
      go_ret
      exact ⟨_, rfl, by have := hown1.isS; rwa [List.nil_append, ← HE.out] at this, hown1.fresh, (below_alloc (Nat.le_refl _) _).trans hb1⟩
end Go.Proofs.YtpcllhdfalebbaaGreatDoor.nat
namespace Go.Proofs.YtpcllhdfalebbaaGreatDoor.txt
open Go.Proofs.YtpcllhdfalebbaaGreatDoor.num
set_option linter.unusedVariables false
/-- The letters of the digits. -/
def figs : List UInt8 := [48, 49, 50, 51, 52, 53, 54, 55, 56, 57, 97, 98, 99, 100, 101, 102, 103, 104, 105, 106, 107, 108, 109, 110, 111, 112, 113, 114, 115, 116, 117, 118, 119, 120, 121, 122]
/-- A digit's letter. -/
def ch (d : Nat) : UInt8 := figs.getD d 0
/-- What a letter counts; 99: it is no digit. -/
def dv (c : UInt8) : Nat := if 48 ≤ c.toNat ∧ c.toNat ≤ 57 then c.toNat - 48 else if 97 ≤ c.toNat ∧ c.toNat ≤ 122 then c.toNat - 87 else 99
theorem dv_ch {d : Nat} (h : d < 36) : dv (ch d) = d := by
  have : ∀ i : Fin 36, dv (ch i.1) = i.1 := by decide
  exact this ⟨d, h⟩
theorem ch_dv {c : UInt8} (h : dv c < 36) : ch (dv c) = c := by
  have : ∀ i : Fin 256, dv (UInt8.ofNat i.1) < 36 → ch (dv (UInt8.ofNat i.1)) = UInt8.ofNat i.1 := by decide +kernel
  have h1 := this ⟨c.toNat, c.toNat_lt⟩
  simp only [UInt8.ofNat_toNat] at h1
  exact h1 h
theorem ch48 {d : Nat} (h : d < 36) : ch d = 48 ↔ d = 0 := by
  have : ∀ i : Fin 36, ch i.1 = 48 ↔ i.1 = 0 := by decide
  exact this ⟨d, h⟩
theorem dv_zero {c : UInt8} : dv c = 0 ↔ c = 48 := by
  have : ∀ i : Fin 256, dv (UInt8.ofNat i.1) = 0 ↔ UInt8.ofNat i.1 = 48 := by decide +kernel
  have h1 := this ⟨c.toNat, c.toNat_lt⟩
  simp only [UInt8.ofNat_toNat] at h1
  exact h1
theorem ch_toNat {d : Nat} (h : d < 36) : (ch d).toNat = if d < 10 then 48 + d else 87 + d := by
  have : ∀ i : Fin 36, (ch i.1).toNat = if i.1 < 10 then 48 + i.1 else 87 + i.1 := by decide
  exact this ⟨d, h⟩
/-- The digits of x as a text, the highest first. -/
def txt (b x : Nat) : List UInt8 := if x = 0 then [48] else (digs b x).reverse.map ch
/-- All letters are digits, and there are some. -/
def okS (b : Nat) (s : List UInt8) : Prop := s ≠ [] ∧ ∀ c ∈ s, dv c < b
/-- The number of a text's digits. -/
def numS (b : Nat) (s : List UInt8) : Nat := val b (s.reverse.map dv)
theorem numS_snoc (b : Nat) (s : List UInt8) (c : UInt8) : numS b (s ++ [c]) = numS b s * b + dv c := by
  unfold numS
  rw [List.reverse_append, List.map_append]
  simp [val]
  rw [Nat.mul_comm]; omega
theorem numS_nil (b : Nat) : numS b [] = 0 := rfl
theorem numS_cons0 {b : Nat} (s : List UInt8) {c : UInt8} (h : dv c = 0) : numS b (c :: s) = numS b s := by
  unfold numS
  rw [List.reverse_cons, List.map_append, val_append]
  simp [val, h]
theorem txt_pos {b x : Nat} (h : x ≠ 0) : txt b x = (digs b x).reverse.map ch := if_neg h
theorem txt_zero (b : Nat) : txt b 0 = [48] := if_pos rfl
theorem txt_ne {b : Nat} (hb : 2 ≤ b) (x : Nat) : txt b x ≠ [] := by
  unfold txt
  split
  · simp
  · rename_i h
    intro h1
    have h2 : digs b x = [] := by simpa using h1
    exact h ((digs_nil_iff hb x).1 h2)
theorem txt_ok {b : Nat} (hb : 2 ≤ b) (hb2 : b ≤ 36) (x : Nat) : okS b (txt b x) := by
  refine ⟨txt_ne hb x, ?_⟩
  unfold txt
  split
  · intro c hc
    have h1 : c = 48 := by simpa using hc
    subst h1
    have h2 : dv 48 = 0 := by decide
    omega
  · intro c hc
    obtain ⟨d, hd, rfl⟩ := List.mem_map.1 hc
    have h1 : d < b := digs_lt hb x d (List.mem_reverse.1 hd)
    rw [dv_ch (by omega)]; exact h1
theorem map_dv_ch {b : Nat} (hb2 : b ≤ 36) {l : List Nat} (h : Lt b l) : (l.map ch).map dv = l := by
  rw [List.map_map]
  conv => rhs; rw [← List.map_id l]
  refine List.map_congr_left fun d hd => ?_
  have := h d hd
  exact dv_ch (by omega)
theorem map_ch_dv {b : Nat} (hb2 : b ≤ 36) {s : List UInt8} (h : ∀ c ∈ s, dv c < b) : (s.map dv).map ch = s := by
  rw [List.map_map]
  conv => rhs; rw [← List.map_id s]
  refine List.map_congr_left fun c hc => ?_
  have := h c hc
  exact ch_dv (by omega)
theorem num_txt {b : Nat} (hb : 2 ≤ b) (hb2 : b ≤ 36) (x : Nat) : numS b (txt b x) = x := by
  unfold numS txt
  split
  · rename_i h; subst h
    have h2 : dv 48 = 0 := by decide
    simp [val, h2]
  · rw [← List.map_reverse, List.reverse_reverse, map_dv_ch hb2 (digs_lt hb x), val_digs hb]
theorem okS.lt {b : Nat} {s : List UInt8} (h : okS b s) : Lt b (s.reverse.map dv) := by
  intro d hd
  obtain ⟨c, hc, rfl⟩ := List.mem_map.1 hd
  exact h.2 c (List.mem_reverse.1 hc)
/-- No nought ahead: the number's digits are the text. -/
theorem txt_num {b : Nat} (hb : 2 ≤ b) (hb2 : b ≤ 36) {c : UInt8} {s : List UInt8} (h : okS b (c :: s)) (hc : dv c ≠ 0) : txt b (numS b (c :: s)) = c :: s := by
  have e : digs b (numS b (c :: s)) = (c :: s).reverse.map dv := by
    unfold numS
    rw [← trim_digs hb h.lt, List.reverse_cons, List.map_append]
    exact trim_snoc _ hc
  have hne : numS b (c :: s) ≠ 0 := by
    intro h0
    rw [h0, digs_zero] at e
    have := congrArg List.length e
    simp at this
  rw [txt_pos hne, e, ← List.map_reverse, List.reverse_reverse]
  exact map_ch_dv hb2 h.2
/-- One letter alone. -/
theorem txt_one {b : Nat} (hb : 2 ≤ b) (hb2 : b ≤ 36) {c : UInt8} (h : dv c < b) : txt b (numS b [c]) = [c] := by
  by_cases hc : dv c = 0
  · rw [numS_cons0 _ hc, numS_nil, txt_zero, dv_zero.1 hc]
  · exact txt_num hb hb2 ⟨by simp, by simpa using h⟩ hc
/-- Noughts ahead, all but one, counted from the text's start: what is left has the same number. -/
def Led (b : Nat) (s : List UInt8) (n : Nat) : Prop := n < s.length ∧ numS b (s.drop n) = numS b s
theorem Led.start {b : Nat} {s : List UInt8} (h : s ≠ []) : Led b s 0 := ⟨by have := List.length_pos_iff.2 h; omega, rfl⟩
theorem Led.step {b : Nat} {s : List UInt8} {n : Nat} (h : Led b s n) (hn : n + 1 < s.length) (hc : s[n]? = some 48) : Led b s (n + 1) := by
  refine ⟨hn, ?_⟩
  obtain ⟨i1, e1⟩ := List.getElem?_eq_some_iff.1 hc
  rw [← h.2, ← List.getElem_cons_drop i1, e1, numS_cons0 _ (dv_zero.2 rfl)]
theorem Led.done {b : Nat} (hb : 2 ≤ b) (hb2 : b ≤ 36) {s : List UInt8} (ho : okS b s) {n : Nat} (h : Led b s n) (he : n + 1 = s.length ∨ ∃ c, s[n]? = some c ∧ c ≠ 48) : txt b (numS b s) = s.drop n := by
  have i1 := h.1
  have e : s.drop n = s[n] :: s.drop (n + 1) := (List.getElem_cons_drop i1).symm
  have hc : dv s[n] < b := ho.2 _ (List.getElem_mem i1)
  rw [← h.2, e]
  rcases he with he | ⟨c, h1, h2⟩
  · have e2 : s.drop (n + 1) = [] := List.drop_of_length_le (by omega)
    rw [e2]
    exact txt_one hb hb2 hc
  · obtain ⟨_, h3⟩ := List.getElem?_eq_some_iff.1 h1
    refine txt_num hb hb2 ⟨List.cons_ne_nil _ _, ?_⟩ (fun h0 => h2 (by rw [← h3]; exact dv_zero.1 h0))
    intro d hd
    rw [← e] at hd
    exact ho.2 d (List.mem_of_mem_drop hd)
/-- n digits of x, the lowest first. -/
def pad (b : Nat) : Nat → Nat → List Nat
  | 0, _ => []
  | n + 1, x => x % b :: pad b n (x / b)
theorem pad_len (b n x : Nat) : (pad b n x).length = n := by
  induction n generalizing x with
  | zero => rfl
  | succ n ih => simp [pad, ih]
theorem pad_lt {b : Nat} (hb : 0 < b) (n x : Nat) : Lt b (pad b n x) := by
  induction n generalizing x with
  | zero => exact Lt.nil b
  | succ n ih => exact Lt.cons (Nat.mod_lt _ hb) (ih _)
theorem pad_val {b n x : Nat} (h : x < b ^ n) : val b (pad b n x) = x := by
  induction n generalizing x with
  | zero => rw [Nat.pow_zero] at h; simp [pad, val]; omega
  | succ n ih =>
    rw [pad, val_cons, ih (by rw [Nat.pow_succ] at h; exact Nat.div_lt_of_lt_mul (by rw [Nat.mul_comm]; exact h))]
    exact Nat.mod_add_div x b
theorem pad_snoc (b n x : Nat) : pad b (n + 1) x = pad b n x ++ [x / b ^ n % b] := by
  induction n generalizing x with
  | zero => simp [pad]
  | succ n ih =>
    rw [pad, ih (x / b), pad, List.cons_append, Nat.div_div_eq_div_mul, Nat.pow_succ, Nat.mul_comm b]
/-- Stretches, one behind the other. -/
def pads (b n : Nat) (xs : List Nat) : List Nat := xs.flatMap (pad b n)
theorem pads_snoc (b n : Nat) (xs : List Nat) (x : Nat) : pads b n (xs ++ [x]) = pads b n xs ++ pad b n x := by simp [pads]
theorem pads_lt {b : Nat} (hb : 0 < b) (n : Nat) (xs : List Nat) : Lt b (pads b n xs) := by
  intro d hd
  obtain ⟨x, _, hx⟩ := List.mem_flatMap.1 hd
  exact pad_lt hb n x d hx
theorem pads_val {b n : Nat} {xs : List Nat} (h : Lt (b ^ n) xs) : val b (pads b n xs) = val (b ^ n) xs := by
  induction xs with
  | nil => simp [pads, val]
  | cons x xs ih =>
    have e : pads b n (x :: xs) = pad b n x ++ pads b n xs := by simp [pads]
    rw [e, val_append, pad_len, pad_val h.head, ih h.tail, val_cons]
theorem trim_rev (r : List Nat) : trim r.reverse = (r.dropWhile (· == 0)).reverse := by
  induction r with
  | nil => rfl
  | cons d r ih =>
    rw [List.reverse_cons]
    by_cases h : d = 0
    · subst h; rw [trim_snoc0, ih]; simp
    · rw [trim_snoc _ h]; simp [h]
theorem dropWhile_map {f : Nat → UInt8} {p : UInt8 → Bool} {q : Nat → Bool} (l : List Nat) (h : ∀ d ∈ l, p (f d) = q d) : (l.map f).dropWhile p = (l.dropWhile q).map f := by
  induction l with
  | nil => rfl
  | cons d l ih =>
    rw [List.map_cons, List.dropWhile_cons, List.dropWhile_cons, h d (by simp)]
    split
    · exact ih fun x hx => h x (by simp [hx])
    · rfl
/-- Noughts ahead taken off. -/
theorem strip {b : Nat} (hb : 2 ≤ b) (hb2 : b ≤ 36) {l : List Nat} (h : Lt b l) : (l.reverse.map ch).dropWhile (· == 48) = (digs b (val b l)).reverse.map ch := by
  rw [dropWhile_map (q := (· == 0)) l.reverse]
  · rw [← trim_digs hb h]
    have := trim_rev l.reverse
    rw [List.reverse_reverse] at this
    rw [this, List.reverse_reverse]
  · intro d hd
    have hd2 : d < b := h d (List.mem_reverse.1 hd)
    rw [Bool.eq_iff_iff]
    simp only [beq_iff_eq]
    exact ch48 (by omega)
/-- Neighbours put together. -/
def pairs (p : Nat) : List Nat → List Nat
  | x :: y :: r => (x + y * p) :: pairs p r
  | [x] => [x]
  | [] => []
theorem pairs_len (p : Nat) : ∀ xs : List Nat, (pairs p xs).length = (xs.length + 1) / 2
  | x :: y :: r => by have := pairs_len p r; simp [pairs, this]; omega
  | [x] => by simp [pairs]
  | [] => by simp [pairs]
theorem pairs_val (p : Nat) : ∀ xs : List Nat, val (p * p) (pairs p xs) = val p xs
  | x :: y :: r => by
    have := pairs_val p r
    rw [pairs, val_cons, val_cons, val_cons, this, Nat.mul_add, ← Nat.mul_assoc, Nat.mul_comm y p]; omega
  | [x] => by simp [pairs, val]
  | [] => by simp [pairs, val]
theorem pair_lt {p x y : Nat} (hx : x < p) (hy : y < p) : x + y * p < p * p := by
  have h : (y + 1) * p ≤ p * p := Nat.mul_le_mul_right _ hy
  rw [Nat.add_mul] at h; omega
theorem pairs_lt {p : Nat} : ∀ {xs : List Nat}, Lt p xs → Lt (p * p) (pairs p xs)
  | x :: y :: r, h => Lt.cons (pair_lt h.head h.tail.head) (pairs_lt h.tail.tail)
  | [x], h => by
    have hx := h.head
    have : p ≤ p * p := Nat.le_mul_self p
    exact Lt.cons (by omega) (Lt.nil _)
  | [], h => Lt.nil _
/-- Each parted in two. -/
def halves (p : Nat) (ys : List Nat) : List Nat := ys.flatMap fun y => [y % p, y / p]
theorem halves_snoc (p : Nat) (ys : List Nat) (y : Nat) : halves p (ys ++ [y]) = halves p ys ++ [y % p] ++ [y / p] := by simp [halves]
theorem halves_len (p : Nat) (ys : List Nat) : (halves p ys).length = 2 * ys.length := by
  induction ys with
  | nil => rfl
  | cons y ys ih =>
    have e : halves p (y :: ys) = y % p :: y / p :: halves p ys := by simp [halves]
    rw [e, List.length_cons, List.length_cons, ih, List.length_cons]; omega
theorem halves_val (p : Nat) (ys : List Nat) : val p (halves p ys) = val (p * p) ys := by
  induction ys with
  | nil => rfl
  | cons y ys ih =>
    have e : halves p (y :: ys) = y % p :: y / p :: halves p ys := by simp [halves]
    rw [e, val_cons, val_cons, ih, val_cons, Nat.mul_add, ← Nat.mul_assoc, ← Nat.add_assoc, Nat.mod_add_div]
theorem halves_lt {p : Nat} (hp : 0 < p) {ys : List Nat} (h : Lt (p * p) ys) : Lt p (halves p ys) := by
  intro d hd
  obtain ⟨y, hy, hd⟩ := List.mem_flatMap.1 hd
  have := h y hy
  simp at hd
  rcases hd with rfl | rfl
  · exact Nat.mod_lt _ hp
  · exact Nat.div_lt_of_lt_mul this
/-- What a number parts into, below p: so many, each below p. -/
def Parts (p a : Nat) (xs : List Nat) : Prop := Lt p xs ∧ val p xs = a ∧ (xs.length = 1 ∨ p ^ xs.length ≤ a * a)
theorem Parts.one {p a : Nat} (h : a < p) : Parts p a [a] := ⟨Lt.cons h (Lt.nil _), by simp [val], Or.inl rfl⟩
theorem Parts.more {p a : Nat} {ys : List Nat} (hp : 0 < p) (hpa : p ≤ a) (h : Parts (p * p) a ys) : Parts p a (halves p ys) := by
  refine ⟨halves_lt hp h.1, by rw [halves_val]; exact h.2.1, Or.inr ?_⟩
  rw [halves_len]
  rcases h.2.2 with h1 | h1
  · rw [h1, Nat.mul_one, Nat.pow_two]; exact Nat.mul_le_mul hpa hpa
  · rwa [Nat.pow_mul, Nat.pow_two]
theorem Parts.len {p a n : Nat} {xs : List Nat} (hp : 2 ≤ p) (h : Parts p a xs) (ha : a < 2 ^ n) : xs.length ≤ 2 * n + 1 := by
  rcases h.2.2 with h1 | h1
  · omega
  · have h2 : 2 ^ xs.length ≤ p ^ xs.length := Nat.pow_le_pow_left hp _
    have h3 : a * a < 2 ^ n * 2 ^ n := Nat.mul_lt_mul'' ha ha
    rw [← Nat.pow_add] at h3
    have h4 : 2 ^ xs.length < 2 ^ (n + n) := by omega
    have := (Nat.pow_lt_pow_iff_right (by omega : 1 < 2)).1 h4
    omega
/-- How far the digits have been read, from the highest one down to place m: each stretch has its own number. -/
def ST (b size : Nat) (L : List Nat) (m : Nat) (C : List Nat) : Prop := ∀ p c, C[p]? = some c → c = val b ((L.take ((p + 1) * size)).drop (max (p * size) m))
theorem ST.start {b size : Nat} {L : List Nat} (k : Nat) (hk : k * size ≤ L.length + size) : ST b size L L.length (List.replicate k 0) := by
  intro p c hc
  have h1 : c = 0 := by
    have := List.mem_of_getElem? hc
    exact List.eq_of_mem_replicate this
  rw [List.drop_of_length_le (by rw [List.length_take]; omega), h1]; rfl
theorem ST.step {b size : Nat} {L C : List Nat} {j d c : Nat} (hs : 0 < size) (h : ST b size L (j + 1) C) (hd : L[j]? = some d) (hc : C[j / size]? = some c) : ST b size L j (C.set (j / size) (c * b + d)) := by
  intro p x hx
  have hm := Nat.div_add_mod j size
  have hr := Nat.mod_lt j hs
  have hjs : j / size * size ≤ j := Nat.div_mul_le_self j size
  have hjs2 : j < (j / size + 1) * size := by rw [Nat.add_mul, Nat.mul_comm (j / size)]; omega
  by_cases hp : p = j / size
  · subst hp
    have il : j / size < C.length := (List.getElem?_eq_some_iff.1 hc).1
    rw [List.getElem?_set_self il] at hx
    injection hx with hx
    subst hx
    rw [h _ _ hc, Nat.max_eq_right (by omega), Nat.max_eq_right (by omega)]
    have e : (L.take ((j / size + 1) * size))[j]? = some d := by rw [List.getElem?_take_of_lt hjs2]; exact hd
    rw [val_drop_step e, Nat.mul_comm b]; omega
  · rw [List.getElem?_set_ne (by omega)] at hx
    rw [h _ _ hx]
    rcases Nat.lt_or_ge p (j / size) with h1 | h1
    · have h2 : (p + 1) * size ≤ j / size * size := Nat.mul_le_mul_right _ h1
      rw [List.drop_of_length_le (by rw [List.length_take]; omega), List.drop_of_length_le (by rw [List.length_take]; omega)]
    · have h2 : (j / size + 1) * size ≤ p * size := Nat.mul_le_mul_right _ (by omega)
      rw [Nat.max_eq_left (by omega), Nat.max_eq_left (by omega)]
/-- Cut in stretches. -/
theorem ST.done {b size : Nat} (hb : 0 < b) (hs : 0 < size) {L C : List Nat} (hL : Lt b L) (h : ST b size L 0 C) (hlen : L.length ≤ C.length * size) : Lt (b ^ size) C ∧ val (b ^ size) C = val b L := by
  induction C generalizing L with
  | nil =>
    have : L = [] := List.length_eq_zero_iff.1 (by simpa using hlen)
    subst this
    exact ⟨Lt.nil _, rfl⟩
  | cons c C ih =>
    have h0 : c = val b (L.take size) := by
      have := h 0 c (by simp)
      simpa using this
    have h1 : ST b size (L.drop size) 0 C := by
      intro p x hx
      have := h (p + 1) x (by simpa using hx)
      rw [Nat.max_eq_left (by omega)] at this ⊢
      rw [this]
      congr 1
      rw [List.take_drop, List.drop_drop]
      congr 1
      · rw [Nat.add_mul p 1]; omega
      · congr 1
        rw [Nat.add_mul (p + 1) 1]; omega
    obtain ⟨g1, g2⟩ := ih (hL.drop size) h1 (by rw [List.length_drop, List.length_cons, Nat.add_mul] at *; omega)
    have hlt : c < b ^ size := by
      rw [h0]
      have k1 := val_lt (hL.take size)
      have k2 : (L.take size).length ≤ size := List.length_take_le _ _
      exact Nat.lt_of_lt_of_le k1 (Nat.pow_le_pow_right hb k2)
    refine ⟨Lt.cons hlt g1, ?_⟩
    rw [val_cons, g2, h0]
    by_cases hl : L.length ≤ size
    · rw [List.take_of_length_le hl, List.drop_of_length_le hl]; simp [val]
    · have e : L = L.take size ++ L.drop size := (List.take_append_drop _ _).symm
      have e2 : (L.take size).length = size := by rw [List.length_take]; omega
      conv => rhs; rw [e, val_append, e2]
/-- A stretch has no more digits than it may. -/
theorem ST.bound {b size : Nat} {L C : List Nat} {m p c : Nat} (hb : 0 < b) (h : ST b size L m C) (hL : Lt b (L.drop m)) (hc : C[p]? = some c) : c < b ^ size := by
  rw [h p c hc]
  have e : ((L.take ((p + 1) * size)).drop (max (p * size) m)) = ((L.drop (max (p * size) m)).take ((p + 1) * size - max (p * size) m)) := by rw [List.drop_take]
  have hl2 : Lt b (L.drop (max (p * size) m)) := by
    have e2 : L.drop (max (p * size) m) = (L.drop m).drop (max (p * size) m - m) := by rw [List.drop_drop]; congr 1; omega
    rw [e2]; exact hL.drop _
  rw [e]
  have k1 := val_lt (hl2.take ((p + 1) * size - max (p * size) m))
  refine Nat.lt_of_lt_of_le k1 (Nat.pow_le_pow_right hb ?_)
  rw [List.length_take, Nat.add_mul]; omega
theorem Lt.dropStep {B : Nat} {l : List Nat} {i d : Nat} (h : Lt B (l.drop (i + 1))) (hd : l[i]? = some d) (hB : d < B) : Lt B (l.drop i) := by
  rw [drop_at hd]; exact Lt.cons hB h
end Go.Proofs.YtpcllhdfalebbaaGreatDoor.txt
namespace Go.Proofs.YtpcllhdfalebbaaGreatDoor.str
open Go.RowKit Go.Proofs.YtpcllhdfalebbaaGreatDoor.num Go.Proofs.YtpcllhdfalebbaaGreatDoor.mem Go.Proofs.YtpcllhdfalebbaaGreatDoor.txt
set_option linter.unusedVariables false
/-- The string's bytes. -/
def StrIs (S : ByteArray) (l : List UInt8) : Prop := S.data.toList = l
theorem StrIs.mk (l : List UInt8) : StrIs ⟨l.toArray⟩ l := rfl
theorem StrIs.size {S : ByteArray} {l : List UInt8} (h : StrIs S l) : S.size = l.length := by rw [← h]; exact Lib.size_eq S
theorem StrIs.eq {S T : ByteArray} {l : List UInt8} (h : StrIs S l) (k : StrIs T l) : S = T := by
  rw [← Lib.mk_data S, ← Lib.mk_data T, h, k]
theorem StrIs.is {S : ByteArray} {l : List UInt8} (h : StrIs S l) : S = ⟨l.toArray⟩ := by rw [← Lib.mk_data S, h]
theorem StrIs.at_ {S : ByteArray} {l : List UInt8} (h : StrIs S l) {i : Nat} (hi : i < S.size) : l[i]? = some (S[i]'hi) := by
  subst h
  obtain ⟨⟨l⟩⟩ := S
  exact List.getElem?_eq_getElem _
theorem StrIs.cut {S : ByteArray} {l : List UInt8} (h : StrIs S l) (a b : Nat) : StrIs (S.extract a b) ((l.drop a).take (b - a)) := by
  unfold StrIs; rw [Lib.extract_data, h]
theorem StrIs.from_ {S : ByteArray} {l : List UInt8} (h : StrIs S l) (a : Nat) : StrIs (S.extract a S.size) (l.drop a) := by
  have := h.cut a S.size
  rwa [List.take_of_length_le (by rw [List.length_drop, h.size]; omega)] at this
theorem StrIs.to_ {S : ByteArray} {l : List UInt8} (h : StrIs S l) (b : Nat) : StrIs (S.extract 0 b) (l.take b) := by
  have := h.cut 0 b
  simpa using this
/-- The call ends with a string of these bytes; the world is as it was. -/
def RetStr (l : List UInt8) (w : World) (e : Ending) (w' : World) : Prop := ∃ R, e = .returned (.string R) ∧ StrIs R l ∧ w = w'
/-- Behind noughts. -/
theorem drop_nought {l : List UInt8} {k : Nat} (hk : (l.drop k).dropWhile (· == 48) = l.dropWhile (· == 48)) (h : l[k]? = some 48) : (l.drop (k + 1)).dropWhile (· == 48) = l.dropWhile (· == 48) := by
  obtain ⟨i1, e1⟩ := List.getElem?_eq_some_iff.1 h
  rw [← hk, ← List.getElem_cons_drop i1, e1, List.dropWhile_cons]
  simp
theorem stop_nought {l : List UInt8} {k : Nat} {c : UInt8} (hk : (l.drop k).dropWhile (· == 48) = l.dropWhile (· == 48)) (h : l[k]? = some c) (hc : c ≠ 48) : l.drop k = l.dropWhile (· == 48) := by
  obtain ⟨i1, e1⟩ := List.getElem?_eq_some_iff.1 h
  rw [← hk, ← List.getElem_cons_drop i1, e1, List.dropWhile_cons]
  simp [hc]
set_option maxHeartbeats 800000 in
theorem trimByte_any (S : ByteArray) (l : List UInt8) (w : World) (hS : StrIs S l) :
    Calls Tryz.prog 137 #[.string S, .int .u8 48] w (RetStr (l.dropWhile (· == 48)) w) := by
  go_enter Tryz.func137, Tryz.ntmps137
  go_wp2
  go_loop [0] (fun v => ∃ (T : ByteArray) (k : Nat), k ≤ l.length ∧ v = .string T ∧ StrIs T (l.drop k) ∧ Hid ((l.drop k).dropWhile (· == 48) = l.dropWhile (· == 48))) (fun v => match v with | .string T => T.size | _ => 0)
  case atStart => exact ⟨S, 0, Nat.zero_le _, rfl, hS, rfl⟩
  case round =>
    obtain ⟨T, k, hk, rfl, hT, HK⟩ := hrel
    have hsz : T.size = l.length - k := by rw [hT.size, List.length_drop]
    by_cases h0 : 0 < T.size
    · have hat := hT.at_ h0
      rw [List.getElem?_drop] at hat
      by_cases hc : T[0]'h0 = 48
      · have hc2 : ((T[0]'h0).toNat : Int) = 48 := by rw [hc]; rfl
        have HAT := Lib.hid hat
        have HSZ := Lib.hid hsz
        have HC := Lib.hid hc
        have hx : T.extract 1 T.size = T.extract 1 T.size := rfl
        clear hat hsz hc hx
        have hT1 := hT.from_ 1
        rw [List.drop_drop] at hT1
        go_wp2
        go_round
        case rel => exact ⟨_, k + 1, by have := HSZ.out; omega, rfl, hT1, drop_nought HK.out (by have := HAT.out; rw [HC.out] at this; simpa using this)⟩
        case measure =>
          have := hT1.size
          rw [List.length_drop] at this
          have := HSZ.out
          simp; omega
      · have hc2 : (((T[0]'h0).toNat : Int) == 48) = false := by
          rw [beq_eq_false_iff_ne]
          intro e
          exact hc (UInt8.toNat_inj.1 (by exact_mod_cast e))
        have HE : Hid (l.drop k = l.dropWhile (· == 48)) := stop_nought HK.out (by simpa using hat) hc
        clear hat hsz
        go_wp2
        go_ret
        exact ⟨_, rfl, by rw [← HE.out]; exact hT, rfl⟩
    · have HE : Hid (l.drop k = l.dropWhile (· == 48)) := by
        have e : l.drop k = [] := List.drop_of_length_le (by omega)
        have h1 := HK.out
        show _ = _
        rw [← h1, e]; rfl
      clear hsz
      go_wp2
      go_ret
      exact ⟨_, rfl, by rw [← HE.out]; exact hT, rfl⟩
set_option maxHeartbeats 800000 in
set_option maxRecDepth 100000 in
theorem trimLeft_any (S : ByteArray) (l : List UInt8) (w : World) (hS : StrIs S l) :
    Calls Tryz.prog 113 #[.string S, .string ⟨#[48]⟩] w (RetStr (l.dropWhile (· == 48)) w) := by
  have hcmp : (S.toList == []) = (l == []) := by rw [Lib.toList_data, hS]
  by_cases hl : l = []
  · have h1 : (l == []) = true := by rw [hl]; rfl
    rw [h1] at hcmp
    go_enter Tryz.func113, Tryz.ntmps113
    go_wp2
    go_ret
    exact ⟨_, rfl, by rw [hl] at hS ⊢; exact hS, rfl⟩
  · have h1 : (l == []) = false := by rw [beq_eq_false_iff_ne]; exact hl
    rw [h1] at hcmp
    have hne : S.toList ≠ [] := by simpa using hcmp
    go_enter Tryz.func113, Tryz.ntmps113
    go_wp2_with fail
    refine (trimByte_any S l _ hS).mono ?_
    rintro e w' ⟨R, rfl, hR, rfl⟩
    go_wp2
    go_ret
    exact ⟨_, rfl, hR, rfl⟩
set_option maxHeartbeats 1600000 in
set_option maxRecDepth 100000 in
theorem sliteByte_any (S : ByteArray) (l : List UInt8) (c : Int) (w : World) (hS : StrIs S l) :
    Calls Tryz.prog 142 #[.string S, .int .u8 c] w fun e w' => e = .returned (.int .i64 (Lib.indexByte l c.toNat.toUInt8)) ∧ w = w' := by
  subst hS
  go_enter Tryz.func142, Tryz.ntmps142
  go_wp2
  rw [run_callFunc_extern Tryz.func160 (by kernel_rfl) (by kernel_rfl) (by kernel_rfl) (e := Extern.BytealgIndexByte.indexByte) (by kernel_rfl), Lib.run_indexByteString]
  simp only [Result.andThen]
  rw [Oper.upon_value]
  go_wp2
  go_ret
  exact ⟨rfl, rfl⟩
set_option maxHeartbeats 800000 in
theorem indexByte_any (S : ByteArray) (l : List UInt8) (c : Int) (w : World) (hS : StrIs S l) :
    Calls Tryz.prog 126 #[.string S, .int .u8 c] w fun e w' => e = .returned (.int .i64 (Lib.indexByte l c.toNat.toUInt8)) ∧ w = w' := by
  go_enter Tryz.func126, Tryz.ntmps126
  go_wp2_with fail
  refine (sliteByte_any S l c _ hS).mono ?_
  rintro e w' ⟨rfl, rfl⟩
  go_wp2
  go_ret
  exact ⟨rfl, rfl⟩
/-- The call ends with a bool; the world is as it was. -/
def RetBool (w : World) (e : Ending) (w' : World) : Prop := ∃ b, e = .returned (.bool b) ∧ w = w'
set_option maxHeartbeats 800000 in
theorem validRune_any (r : Int) (w : World) : Calls Tryz.prog 127 #[.int .i32 r] w (RetBool w) := by
  by_cases h1 : 0 ≤ r <;> by_cases h2 : r < 55296 <;> by_cases h3 : 57343 < r <;> by_cases h4 : r ≤ 1114111
  all_goals
    go_enter Tryz.func127, Tryz.ntmps127
    go_wp2
    go_ret
    exact ⟨_, rfl, rfl⟩
end Go.Proofs.YtpcllhdfalebbaaGreatDoor.str
namespace Go.Proofs.YtpcllhdfalebbaaGreatDoor.str
open Go.RowKit Go.Proofs.YtpcllhdfalebbaaGreatDoor.num Go.Proofs.YtpcllhdfalebbaaGreatDoor.mem Go.Proofs.YtpcllhdfalebbaaGreatDoor.txt
set_option linter.unusedVariables false
theorem indexByte_none {l : List UInt8} {c : UInt8} (h : ∀ b ∈ l, b ≠ c) : Lib.indexByte l c = -1 := by
  induction l with
  | nil => rfl
  | cons b l ih =>
    have h1 : (b == c) = false := by rw [beq_eq_false_iff_ne]; exact h b (by simp)
    rw [Lib.indexByte, h1, ih fun x hx => h x (by simp [hx])]; rfl
theorem indexByte_no (S : ByteArray) (l : List UInt8) (c : Int) (w : World) (hS : StrIs S l) (hn : ∀ b ∈ l, b ≠ c.toNat.toUInt8) :
    Calls Tryz.prog 126 #[.string S, .int .u8 c] w fun e w' => e = .returned (.int .i64 (-1)) ∧ w' = w := by
  refine (indexByte_any S l c w hS).mono ?_
  rintro e w' ⟨rfl, rfl⟩
  rw [indexByte_none hn]
  exact ⟨rfl, rfl⟩
/-- A rune above ASCII as a string: more than one byte, the last one above ASCII. -/
theorem encode_high (r : Int) (h : 128 ≤ r) : ∃ R : ByteArray, Utf8.encode r = R ∧ 2 ≤ R.size ∧ R.size ≤ 4 ∧ ∀ hl : R.size - 1 < R.size, 128 ≤ (R[R.size - 1]'hl).toNat ∧ (R[R.size - 1]'hl).toNat < 256 := by
  refine ⟨_, rfl, ?_⟩
  have hv : 128 ≤ (if Utf8.valid r then r.toNat else Utf8.runeError) := by
    split
    · omega
    · decide
  unfold Utf8.encode
  generalize (if Utf8.valid r then r.toNat else Utf8.runeError) = c at hv ⊢
  have hv2 : ¬ c < 128 := by omega
  have hb : ∀ n, n < 256 → 128 ≤ n → 128 ≤ (UInt8.ofNat n).toNat ∧ (UInt8.ofNat n).toNat < 256 := by
    intro n h1 h2
    rw [UInt8.toNat_ofNat_of_lt' (by simpa using h1)]; omega
  have hm : 128 ≤ 128 + c % 64 ∧ 128 + c % 64 < 256 := by omega
  by_cases h2 : c < 2048
  · simp only [hv2, h2, if_false, if_true]
    exact ⟨by simp [ByteArray.size], by simp [ByteArray.size], fun hl => hb (128 + c % 64) hm.2 hm.1⟩
  · by_cases h3 : c < 65536
    · simp only [hv2, h2, h3, if_false, if_true]
      exact ⟨by simp [ByteArray.size], by simp [ByteArray.size], fun hl => hb (128 + c % 64) hm.2 hm.1⟩
    · simp only [hv2, h2, h3, if_false]
      exact ⟨by simp [ByteArray.size], by simp [ByteArray.size], fun hl => hb (128 + c % 64) hm.2 hm.1⟩
theorem run_rune_string (r : Int) (w : World) : (convert 21 9 (.int .i32 r)).run Tryz.prog w = .ok (.string (Utf8.encode r)) w := by
  simp [convert, run_underlying Tryz.underlying21, run_underlying Tryz.underlying9, Conv.intToString]
/-- A text of ASCII. -/
def Asc (l : List UInt8) : Prop := ∀ c ∈ l, c.toNat < 128
set_option maxHeartbeats 1600000 in
set_option maxRecDepth 100000 in
theorem idxRune_err (S : ByteArray) (l : List UInt8) (w : World) (hS : StrIs S l) (ha : Asc l) :
    Calls Tryz.prog 105 #[.string S, .int .i32 65533] w (RetV (.int .i64 (-1)) w) := by
  go_enter Tryz.func105, Tryz.ntmps105
  go_wp2
  go_loopw [5, 6] (fun v5 v6 wr => ∃ (pos : Nat), wr = w.iter S pos) (fun _ _ wr => S.size - wr.iterPos w.heap.size)
  case atStart => exact ⟨0, rfl⟩
  case round =>
    obtain ⟨pos, rfl⟩ := hrel
    by_cases hp : pos < S.size
    · have hlow : (S[pos]'hp).toNat < 128 := ha _ (List.mem_of_getElem? (hS.at_ hp))
      have hnx : ∀ ty, (Instr.next (.pointer (some ⟨w.heap.size, 0, none⟩)) true ty).run Tryz.prog (w.iter S pos) = _ := fun ty => run_next_ascii w S pos ty hp hlow
      have hne : (((S[pos]'hp).toNat : Int) == 65533) = false := by rw [beq_eq_false_iff_ne]; omega
      go_wp2
      go_roundw
      case rel => exact ⟨pos + 1, rfl⟩
      case measure => simp; omega
    · have hnx : ∀ ty, (Instr.next (.pointer (some ⟨w.heap.size, 0, none⟩)) true ty).run Tryz.prog (w.iter S pos) = _ := fun ty => run_next_end w S pos ty hp
      go_wp2
      go_ret
      exact ⟨rfl, below_alloc (Nat.le_refl _) _⟩
end Go.Proofs.YtpcllhdfalebbaaGreatDoor.str
namespace Go.Proofs.YtpcllhdfalebbaaGreatDoor.str
open Go.RowKit Go.Proofs.YtpcllhdfalebbaaGreatDoor.num Go.Proofs.YtpcllhdfalebbaaGreatDoor.mem Go.Proofs.YtpcllhdfalebbaaGreatDoor.txt
set_option linter.unusedVariables false
theorem quiet_add_same {P : Program} {f : FuncId} {args : Array Value} {w : World} {a n : Nat} {v : Value}
    (h : Calls P f args (w.drewN (a + n)) fun e w' => e = .returned v ∧ w' = w.drewN (a + n)) :
    Calls P f args (w.drewN (a + n)) fun e w'' => e = .returned v ∧ ∃ m, w'' = w.drewN (a + m) :=
  h.mono fun _ _ ⟨he, hm⟩ => ⟨he, n, hm⟩
set_option maxHeartbeats 3200000 in
set_option maxRecDepth 100000 in
theorem idxRune_high (S : ByteArray) (l : List UInt8) (r : Int) (w : World) (hS : StrIs S l) (ha : Asc l) (hl : l.length ≤ 1000000) (h0 : 128 ≤ r) (hr : r ≤ 2147483647) (he : r ≠ 65533) :
    Calls Tryz.prog 105 #[.string S, .int .i32 r] w (RetV (.int .i64 (-1)) w) := by
  have heq : (r == 65533) = false := by rw [beq_eq_false_iff_ne]; exact he
  have hsz := hS.size
  obtain ⟨R, hR, h2, h4, hlast⟩ := encode_high r h0
  have hconv := fun w => run_rune_string r w
  rw [hR] at hconv
  clear hR he
  have hl1 : R.size - 1 < R.size := by omega
  obtain ⟨hb1, hb2⟩ := hlast hl1
  clear hlast
  obtain ⟨n, hn⟩ : ∃ n, R.size = n + 1 := ⟨R.size - 1, by omega⟩
  have hi1 : (R.size : Int) - 1 = (n : Int) := by omega
  go_enter Tryz.func105, Tryz.ntmps105
  go_wp2_with fail
  refine (validRune_any r _).mono ?_
  rintro e w' ⟨b, rfl, rfl⟩
  cases b
  · go_wp2
    go_ret
    exact ⟨rfl, Below.refl _ _⟩
  · go_wp2_with fail
    go_step3
    go_wp2
    go_loop [9, 10] (fun v9 v10 => v9 = .int .i64 (n : Int) ∧ v10 = .int .i64 0) (fun _ _ => 0)
    case atStart => exact ⟨rfl, rfl⟩
    case round =>
      obtain ⟨rfl, rfl⟩ := hrel
      by_cases hlt : n < S.size
      · have hidx : n < R.size := by omega
        have e1 : R.size - 1 = n := by omega
        have hc1 : 128 ≤ (R[n]'hidx).toNat := by simpa only [e1] using hb1
        have hc2 : (R[n]'hidx).toNat < 256 := by simpa only [e1] using hb2
        have hlow : (S[n]'hlt).toNat < 128 := ha _ (List.mem_of_getElem? (hS.at_ hlt))
        have hne : (((S[n]'hlt).toNat : Int) == ((R[n]'hidx).toNat : Int)) = false := by rw [beq_eq_false_iff_ne]; omega
        have hnoT : ∀ b ∈ l.drop (n + 1), b ≠ (((R[n]'hidx).toNat : Int)).toNat.toUInt8 := by
          intro b hb e
          have h1 := ha b (List.mem_of_mem_drop hb)
          rw [e] at h1
          have h3 : ((((R[n]'hidx).toNat : Int)).toNat.toUInt8).toNat = (R[n]'hidx).toNat := by
            rw [Int.toNat_natCast]; simp [Nat.toUInt8]
          rw [h3] at h1; omega
        have hT := hS.from_ (n + 1)
        have HN := Lib.hid hnoT
        have HT := Lib.hid hT
        have HNN := Lib.hid hn
        have HSZ := Lib.hid hsz
        have hne2 : (((S[n]'hlt).toNat : Int) != ((R[n]'hidx).toNat : Int)) = true := by rw [bne, hne]; rfl
        clear hnoT hT hb1 hb2 e1 hn hsz hne
        go_wp2
        go_step3
        go_wp2
        go_quiet (fail)
        go_wp2
        have k1 : IntKind.i64.wrap ((n : Int) + 1) = (n : Int) + 1 := IntWalk.i64_in _ (by omega)
        have k2 : (0 : Int) ≤ (n : Int) + 1 := by omega
        have k3 : (n : Int) + 1 ≤ (S.size : Int) := by omega
        have k4 : ((n : Int) + 1).toNat = n + 1 := by omega
        clear hlow hc1
        go_quiet ((go_at_call 126; exact quiet_add_same (indexByte_no _ _ _ _ HT.out HN.out)))
        go_wp2
        rw [Exit.noGoto_ret]
        go_wp2
        go_ret
        exact ⟨rfl, below_drewN (Below.refl _ _) _⟩
      · go_wp2
        go_ret
        exact ⟨rfl, Below.refl _ _⟩
end Go.Proofs.YtpcllhdfalebbaaGreatDoor.str
namespace Go.Proofs.YtpcllhdfalebbaaGreatDoor.str
open Go.RowKit Go.Proofs.YtpcllhdfalebbaaGreatDoor.num Go.Proofs.YtpcllhdfalebbaaGreatDoor.mem Go.Proofs.YtpcllhdfalebbaaGreatDoor.txt
set_option linter.unusedVariables false
set_option maxHeartbeats 1600000 in
set_option maxRecDepth 100000 in
theorem idxRune_low (S : ByteArray) (l : List UInt8) (r : Int) (w : World) (hS : StrIs S l) (h0 : 0 ≤ r) (h1 : r < 128) :
    Calls Tryz.prog 105 #[.string S, .int .i32 r] w (RetV (.int .i64 (Lib.indexByte l r.toNat.toUInt8)) w) := by
  go_enter Tryz.func105, Tryz.ntmps105
  go_wp2_with fail
  refine (indexByte_any S l _ _ hS).mono ?_
  rintro e w' ⟨rfl, rfl⟩
  go_wp2
  go_ret
  exact ⟨rfl, Below.refl _ _⟩
theorem indexByte_take (l : List UInt8) (b : Nat) (c : UInt8) : Lib.indexByte (l.take b) c = if Lib.indexByte l c < b then Lib.indexByte l c else -1 := by
  induction l generalizing b with
  | nil => rw [List.take_nil]; unfold Lib.indexByte; split <;> rfl
  | cons d l ih =>
    have hg := Lib.indexByte_ge l c
    cases b with
    | zero =>
      rw [List.take_zero]
      have := Lib.indexByte_ge (d :: l) c
      split
      · unfold Lib.indexByte at *; omega
      · rfl
    | succ b =>
      rw [List.take_succ_cons]
      rw [Lib.indexByte, Lib.indexByte, ih b]
      by_cases h : (d == c) = true
      · rw [if_pos h, if_pos h, if_pos (by omega)]
      · rw [if_neg h, if_neg h]
        generalize Lib.indexByte l c = i at hg ⊢
        simp only [beq_iff_eq]
        by_cases h3 : i < (b : Int)
        · simp only [if_pos h3]
          (repeat' split) <;> omega
        · rw [if_neg h3, if_pos rfl]
          (repeat' split) <;> omega
theorem figs_at (b : Nat) (hb : b ≤ 36) (c : UInt8) : Lib.indexByte (figs.take b) c = if dv c < b then (dv c : Int) else -1 := by
  have h : ∀ j : Fin 256, Lib.indexByte figs (UInt8.ofNat j.1) = if dv (UInt8.ofNat j.1) < 36 then (dv (UInt8.ofNat j.1) : Int) else -1 := by decide +kernel
  have h1 := h ⟨c.toNat, c.toNat_lt⟩
  simp only [UInt8.ofNat_toNat] at h1
  rw [indexByte_take, h1]
  by_cases h2 : dv c < 36
  · rw [if_pos h2]
    by_cases h3 : dv c < b
    · rw [if_pos h3, if_pos (by omega)]
    · rw [if_neg h3, if_neg (by omega)]
  · rw [if_neg h2, if_neg (by omega : ¬ dv c < b)]
    split <;> rfl
theorem figs_asc (b : Nat) : Asc (figs.take b) := by
  intro c hc
  have h : ∀ c ∈ figs, c.toNat < 128 := by decide
  exact h c (List.mem_of_mem_take hc)
/-- What a rune counts among the digits of base b; -1: it is none. -/
def dvi (b : Nat) (r : Int) : Int := if r < 128 ∧ dv r.toNat.toUInt8 < b then (dv r.toNat.toUInt8 : Int) else -1
theorem idxFig_any (S : ByteArray) (b : Nat) (r t : Int) (w : World) (hS : StrIs S (figs.take b)) (hb : b ≤ 36) (h0 : 0 ≤ r) (h1 : r ≤ 2147483647) (ht : t = dvi b r) :
    Calls Tryz.prog 105 #[.string S, .int .i32 r] w (RetV (.int .i64 t) w) := by
  subst ht
  unfold dvi
  by_cases hr : r < 128
  · have := idxRune_low S _ r w hS h0 hr
    rw [figs_at b hb] at this
    by_cases hd : dv r.toNat.toUInt8 < b
    · rw [if_pos ⟨hr, hd⟩]; rw [if_pos hd] at this; exact this
    · rw [if_neg (fun h => hd h.2)]; rw [if_neg hd] at this; exact this
  · rw [if_neg (fun h => hr h.1)]
    by_cases he : r = 65533
    · subst he
      exact idxRune_err S _ w hS (figs_asc b)
    · exact idxRune_high S _ r w hS (figs_asc b) (by have := List.length_take_le b figs; have e : figs.length = 36 := rfl; simp; omega) (by omega) h1 he
end Go.Proofs.YtpcllhdfalebbaaGreatDoor.str
namespace Go.Proofs.YtpcllhdfalebbaaGreatDoor.nat
open Go.RowKit Go.Proofs.YtpcllhdfalebbaaGreatDoor.num Go.Proofs.YtpcllhdfalebbaaGreatDoor.mem
set_option linter.unusedVariables false
theorem refTrim_any (v : Value) (l : List Nat) (w : World) (h : IsS w .i64 v l) (hlt : Lt 10000 l) (hl : l.length ≤ 1000000000000) :
    Calls Tryz.prog 74 #[v] w (RetS .i64 (digs 10000 (val 10000 l)) w) := by
  rw [← trim_digs (by omega) hlt]; exact refTrim_list v l w h hl
/-- What MulAdd's first loop keeps behind k rounds. -/
def MA (l : List Nat) (m c0 k c : Nat) (o : List Nat) : Prop := Lt 10000 o ∧ o.length = k ∧ val 10000 o + 10000 ^ k * c = val 10000 (l.take k) * m + c0
theorem MA.start (l : List Nat) (m c0 : Nat) : MA l m c0 0 c0 [] := by
  unfold MA; exact ⟨Lt.nil _, rfl, by simp [val]⟩
theorem MA.step {l o : List Nat} {m c0 k c d : Nat} (h : MA l m c0 k c o) (hd : l[k]? = some d) : MA l m c0 (k + 1) ((c + d * m) / 10000) (o ++ [(c + d * m) % 10000]) := by
  unfold MA at h ⊢
  obtain ⟨h1, h2, h3⟩ := h
  refine ⟨h1.snoc (by omega), by simp [h2], ?_⟩
  rw [val_snoc, h2, val_take_step hd, Nat.add_mul, Nat.pow_succ, Nat.mul_assoc (10000 ^ k) d m, Nat.mul_assoc (10000 ^ k) 10000]
  have e : 10000 ^ k * ((c + d * m) % 10000) + 10000 ^ k * (10000 * ((c + d * m) / 10000)) = 10000 ^ k * c + 10000 ^ k * (d * m) := by
    rw [← Nat.mul_add, ← Nat.mul_add]; congr 1; omega
  omega
/-- What its second loop keeps. -/
def MB (T c : Nat) (o : List Nat) : Prop := Lt 10000 o ∧ val 10000 o + 10000 ^ o.length * c = T
theorem MA.done {l o : List Nat} {m c0 c : Nat} (h : MA l m c0 l.length c o) : MB (val 10000 l * m + c0) c o := by
  unfold MA at h; unfold MB
  obtain ⟨h1, h2, h3⟩ := h
  rw [List.take_length] at h3
  exact ⟨h1, by rw [h2]; exact h3⟩
theorem MB.step {T c : Nat} {o : List Nat} (h : MB T c o) : MB T (c / 10000) (o ++ [c % 10000]) := by
  unfold MB at h ⊢
  obtain ⟨h1, h3⟩ := h
  refine ⟨h1.snoc (by omega), ?_⟩
  rw [val_snoc, List.length_append, List.length_singleton, Nat.pow_succ, Nat.mul_assoc, Nat.add_assoc, ← Nat.mul_add, Nat.mod_add_div]
  exact h3
theorem MB.done {T : Nat} {o : List Nat} (h : MB T 0 o) : Lt 10000 o ∧ val 10000 o = T := by
  unfold MB at h; obtain ⟨h1, h3⟩ := h; exact ⟨h1, by simpa using h3⟩
set_option maxHeartbeats 800000 in
theorem mulAdd_list (v : Value) (l : List Nat) (mI cI : Int) (m c : Nat) (w : World) (hm : mI = (m : Int)) (hc : cI = (c : Int)) (h : IsS w .i64 v l) (hlt : Lt 10000 l) (hl : l.length ≤ 1000000) (m1 : m ≤ 4294967296) (c1 : c ≤ 4294967296) :
    Calls Tryz.prog 72 #[v, .int .i64 mI, .int .i64 cI] w (RetS .i64 (digs 10000 (val 10000 l * m + c)) w) := by
  subst hm; subst hc
  obtain ⟨A, cap, rfl, hcap, hcm, hr⟩ := h
  go_enter Tryz.func72, Tryz.ntmps72
  go_wp2
  go_loopw [2, 7, 8] (fun vc vo vi wr => ∃ (k c' : Nat) (o : List Nat), k ≤ l.length ∧ c' ≤ 4294967296 ∧ MA l m c k c' o ∧ Own wr w.heap.size 3 .i64 vo o ∧ o.length ≤ k ∧ Below w.heap.size w wr ∧ vc = .int .i64 (c' : Int) ∧ vi = .int .i64 (k : Int)) (fun _ _ vi _ => l.length - (intOf vi).toNat)
  case atStart => exact ⟨0, c, [], by omega, c1, MA.start l m c, own_lit0 w _ _ .i64 (Nat.le_refl _), by simp, below_alloc (Nat.le_refl _) _, rfl, rfl⟩
  case round =>
    obtain ⟨k, c', o, hk, hc', hM, hown, hok, hb, rfl, rfl⟩ := hrel
    by_cases hlt2 : k < l.length
    · obtain ⟨ad, d, rfl, hd, hcell⟩ := (hr.below hb).at_ hlt2
      have hd1 := hlt.at hd
      have hp : d * m ≤ 9999 * 4294967296 := Nat.mul_le_mul (by omega) m1
      have HM := Lib.hid (hM.step hd)
      clear hd hM
      have hsz := hb.size
      go_wp2_with (at_builtin; refine wpList_append_one rfl (.tmp 24) (.tmp 27) rfl sl33 ((c' + d * m) % 10000) rfl hown rfl (by omega) (by omega) (by omega) ?_; intro v' w1 hown1 hb1 hg1)
      go_roundw
      case rel => exact ⟨k + 1, _, _, by omega, by omega, HM.out, hown1, by simp; omega, hb.trans hb1, int_eq (by omega), by go_num⟩
      case measure => simp [intOf]; omega
    · obtain rfl : k = l.length := by omega
      have HM := hM.done
      clear hM
      go_wp2
      go_loopw [2, 7] (fun vc vo wr => ∃ (c' : Nat) (o : List Nat), c' ≤ 4294967296 ∧ MB (val 10000 l * m + c) c' o ∧ Own wr w.heap.size 3 .i64 vo o ∧ o.length + c' ≤ l.length + 4294967296 ∧ Below w.heap.size w wr ∧ vc = .int .i64 (c' : Int)) (fun vc _ _ => (intOf vc).toNat)
      case atStart => exact ⟨c', o, hc', HM, hown, by omega, hb, rfl⟩
      case round =>
        clear hown hb hok hlt2 HM hc'
        obtain ⟨c2, o2, hc', hM, hown, hok, hb, rfl⟩ := hrel
        have hsz := hb.size
        by_cases hp : 0 < c2
        · have HM := Lib.hid hM.step
          clear hM
          go_wp2_with (at_builtin; refine wpList_append_one rfl (.tmp 33) (.tmp 36) rfl sl33 (c2 % 10000) rfl hown rfl (by omega) (by omega) (by omega) ?_; intro v' w1 hown1 hb1 hg1)
          go_roundw
          case rel => exact ⟨_, _, by omega, HM.out, hown1, by simp; omega, hb.trans hb1, int_eq (by omega)⟩
          case measure => simp [intOf]; omega
        · obtain rfl : c2 = 0 := by omega
          obtain ⟨h1, h2⟩ := hM.done
          have HV := Lib.hid h2
          clear h2 hM
          go_wp2_with fail
          refine (refTrim_any _ _ _ hown.isS h1 (by omega)).mono ?_
          rintro e w' ⟨v', rfl, hv, hf, hb2⟩
          go_wp2
          go_ret
          exact ⟨_, rfl, by rw [HV.out] at hv; exact hv, hf.mono hsz, hb.trans (hb2.mono hsz)⟩
end Go.Proofs.YtpcllhdfalebbaaGreatDoor.nat
namespace Go.Proofs.YtpcllhdfalebbaaGreatDoor.nat
open Go.RowKit Go.Proofs.YtpcllhdfalebbaaGreatDoor.num Go.Proofs.YtpcllhdfalebbaaGreatDoor.mem
set_option linter.unusedVariables false
/-- What DivSmall's loop keeps while k digits are still to come. -/
def DS (l : List Nat) (d k r : Nat) (o : List Nat) : Prop := Lt 10000 o ∧ o.length = l.length ∧ val 10000 (o.drop k) * d + r = val 10000 (l.drop k) ∧ r < d
theorem DS.start (l : List Nat) {d : Nat} (hd : 1 ≤ d) : DS l d l.length 0 (List.replicate l.length 0) := by
  unfold DS; exact ⟨Lt.rep (by omega) _, by simp, by simp [val], by omega⟩
theorem DS.digit {l o : List Nat} {d j r a : Nat} (h : DS l d (j + 1) r o) (ha : a < 10000) : (10000 * r + a) / d < 10000 ∧ (10000 * r + a) % d < d := by
  unfold DS at h
  exact ⟨Nat.div_lt_of_lt_mul (by omega), Nat.mod_lt _ (by omega)⟩
theorem DS.step {l o : List Nat} {d j r a : Nat} (h : DS l d (j + 1) r o) (hl : l[j]? = some a) (ha : a < 10000) : DS l d j ((10000 * r + a) % d) (o.set j ((10000 * r + a) / d)) := by
  have hq := h.digit ha
  unfold DS at h ⊢
  obtain ⟨h1, h2, h3, h4⟩ := h
  have hj : j < l.length := (List.getElem?_eq_some_iff.1 hl).1
  refine ⟨h1.set hq.1 j, by simpa using h2, ?_, hq.2⟩
  rw [set_drop (by omega), val_cons, val_drop_step hl, ← h3, Nat.add_mul, Nat.mul_assoc]
  have e := Nat.mod_add_div (10000 * r + a) d
  rw [Nat.mul_comm d] at e
  omega
theorem DS.done {l o : List Nat} {d r : Nat} (h : DS l d 0 r o) : Lt 10000 o ∧ o.length = l.length ∧ val 10000 o = val 10000 l / d ∧ r = val 10000 l % d := by
  unfold DS at h
  obtain ⟨h1, h2, h3, h4⟩ := h
  simp only [List.drop_zero] at h3
  refine ⟨h1, h2, ?_, ?_⟩
  · rw [← h3, Nat.mul_comm, Nat.mul_add_div (by omega), Nat.div_eq_of_lt h4, Nat.add_zero]
  · rw [← h3, Nat.mul_comm, Nat.mul_add_mod, Nat.mod_eq_of_lt h4]
set_option maxHeartbeats 800000 in
theorem divSmall_list (v : Value) (l : List Nat) (dI : Int) (d : Nat) (w : World) (hd : dI = (d : Int)) (h : IsS w .i64 v l) (hlt : Lt 10000 l) (hl : l.length ≤ 1000000) (d0 : 1 ≤ d) (d1 : d ≤ 4294967296) :
    Calls Tryz.prog 58 #[v, .int .i64 dI] w (RetSI .i64 (digs 10000 (val 10000 l / d)) ((val 10000 l % d : Nat) : Int) w) := by
  subst hd
  obtain ⟨A, cap, rfl, hcap, hcm, hr⟩ := h
  go_enter Tryz.func58, Tryz.ntmps58
  go_wp2_with (at_make; refine wpList_make_rd rfl (.tmp 10) (.tmp 10) rfl sl33 l.length rfl rfl rfl rfl (by omega) (Nat.le_refl _) ?_; intro w1 hown1 hb1 hz1)
  go_loopw [7, 8] (fun vr vi wr => ∃ (k r : Nat) (o : List Nat), k ≤ l.length ∧ r ≤ 4294967295 ∧ DS l d k r o ∧ Own wr w.heap.size 3 .i64 (.slice (some ⟨w.heap.size, 0, none⟩) l.length l.length) o ∧ Below w.heap.size w wr ∧ vr = .int .i64 (r : Int) ∧ vi = .int .i64 ((k : Int) - 1)) (fun _ vi _ => (intOf vi + 1).toNat)
  case atStart => exact ⟨l.length, 0, _, by omega, by omega, DS.start l d0, hown1, hb1, rfl, rfl⟩
  case round =>
    clear hown1 hb1
    obtain ⟨k, r, o, hk, hr1, hD, hown, hb, rfl, rfl⟩ := hrel
    by_cases hp : 0 < k
    · obtain ⟨j, rfl⟩ : ∃ j, k = j + 1 := ⟨k - 1, by omega⟩
      obtain ⟨ad, a, rfl, ha, hcell⟩ := (hr.below hb).at_ (i := j) (by omega)
      have ha1 := hlt.at ha
      have hS := hD.step ha ha1
      obtain ⟨q1, q2⟩ := hD.digit ha1
      have HS := Lib.hid hS
      have hlen : j < o.length := by have := hD.2.1; omega
      obtain ⟨a', ha'⟩ : ∃ a', o[j]? = some a' := ⟨_, List.getElem?_eq_getElem hlen⟩
      have hc' := hown.cellAt ha'
      have hf' := hown.frozenAt j
      clear ha ha' hS hD
      have eq := ediv_cast (x := 10000 * (r : Int) + (a : Int)) (n := 10000 * r + a) (d := d) (by omega)
      have er := emod_cast (x := 10000 * (r : Int) + (a : Int)) (n := 10000 * r + a) (d := d) (by omega)
      have EQ := Lib.hid eq
      have ER := Lib.hid er
      clear eq er
      go_wp2
      go_roundw
      case rel => exact ⟨j, (10000 * r + a) % d, o.set j ((10000 * r + a) / d), by omega, by omega, HS.out, hown.stored' j _ EQ.out, hb.setCell (Nat.le_refl _) _, int_eq ER.out, by go_num⟩
      case measure => simp [intOf]
    · obtain rfl : k = 0 := by omega
      obtain ⟨h1, h2, h3, h4⟩ := hD.done
      have H2 := Lib.hid h2
      have H3 := Lib.hid h3
      have H4 := Lib.hid h4
      clear h2 h3 h4 hD
      have hsz := hb.size
      go_wp2_with fail
      refine (refTrim_any _ _ _ hown.isS h1 (by have := H2.out; omega)).mono ?_
      rintro e w' ⟨v', rfl, hv, hf, hb2⟩
      go_wp2
      go_ret2
      rw [H4.out]
      exact ⟨_, rfl, by rw [H3.out] at hv; exact hv, hf.mono hsz, hb.trans (hb2.mono hsz)⟩
/-! ### The same, of numbers -/
theorem mulAdd_any (v : Value) (x : Nat) (mI cI : Int) (m c : Nat) (w : World) (hm : mI = (m : Int)) (hc : cI = (c : Int)) (h : IsS w .i64 v (digs 10000 x)) (hl : (digs 10000 x).length ≤ 1000000) (m1 : m ≤ 4294967296) (c1 : c ≤ 4294967296) (y : Nat) (hy : y = x * m + c) :
    Calls Tryz.prog 72 #[v, .int .i64 mI, .int .i64 cI] w (RetS .i64 (digs 10000 y) w) := by
  have := mulAdd_list v _ mI cI m c w hm hc h (digs_lt (by omega) x) hl m1 c1
  rw [val_digs (by omega)] at this
  rw [hy]; exact this
theorem divSmall_any (v : Value) (x : Nat) (dI : Int) (d q r : Nat) (w : World) (hd : dI = (d : Int)) (h : IsS w .i64 v (digs 10000 x)) (hl : (digs 10000 x).length ≤ 1000000) (d0 : 1 ≤ d) (d1 : d ≤ 4294967296) (hq : q = x / d) (hr : r = x % d) :
    Calls Tryz.prog 58 #[v, .int .i64 dI] w (RetSI .i64 (digs 10000 q) (r : Int) w) := by
  have := divSmall_list v _ dI d w hd h (digs_lt (by omega) x) hl d0 d1
  rw [val_digs (by omega)] at this
  rw [hq, hr]; exact this
end Go.Proofs.YtpcllhdfalebbaaGreatDoor.nat
namespace Go.Proofs.YtpcllhdfalebbaaGreatDoor.nat
open Go.RowKit Go.Proofs.YtpcllhdfalebbaaGreatDoor.num Go.Proofs.YtpcllhdfalebbaaGreatDoor.mem
set_option linter.unusedVariables false
set_option maxHeartbeats 400000 in
theorem refNum_any (nI : Int) (n : Nat) (w : World) (hn : nI = (n : Int)) (n1 : n ≤ 4294967296) :
    Calls Tryz.prog 28 #[.int .i64 nI] w (RetS .i64 (digs 10000 n) w) := by
  subst hn
  go_enter Tryz.func28, Tryz.ntmps28
  go_wp2_with fail
  refine (mulAdd_any _ 0 _ _ 1 n _ (by omega) rfl (by rw [digs_zero]; exact (own_lit0 w w.heap.size _ .i64 (Nat.le_refl _)).isS) (by simp [digs_zero]) (by omega) n1 n (by omega)).mono ?_
  rintro e w' ⟨v', rfl, hv, hf, hb⟩
  go_wp2
  go_ret
  exact ⟨_, rfl, hv, hf.mono (by simp), (below_alloc (Nat.le_refl _) _).trans (hb.mono (by simp))⟩
set_option maxHeartbeats 400000 in
theorem refOf_list (v : Value) (l : List Nat) (w : World) (h : IsS w .u64 v l) (hlt : Lt 4294967296 l) (hl : l.length ≤ 100000) :
    Calls Tryz.prog 41 #[v] w (RetS .i64 (digs 10000 (val 4294967296 l)) w) := by
  obtain ⟨A, cap, rfl, hcap, hcm, hr⟩ := h
  go_enter Tryz.func41, Tryz.ntmps41
  go_wp2
  go_loopw [3, 4] (fun vo vi wr => ∃ k : Nat, k ≤ l.length ∧ IsS wr .i64 vo (digs 10000 (val 4294967296 (l.drop k))) ∧ Fresh w.heap.size vo ∧ Below w.heap.size w wr ∧ vi = .int .i64 ((k : Int) - 1)) (fun _ vi _ => (intOf vi + 1).toNat)
  case atStart => exact ⟨l.length, by omega, by rw [List.drop_length, val_nil, digs_zero]; exact (own_lit0 w w.heap.size _ .i64 (Nat.le_refl _)).isS, (own_lit0 w w.heap.size 3 .i64 (Nat.le_refl _)).fresh, below_alloc (Nat.le_refl _) _, rfl⟩
  case round =>
    obtain ⟨k, hk, ho, hfo, hb, rfl⟩ := hrel
    have hsz := hb.size
    by_cases hp : 0 < k
    · obtain ⟨j, rfl⟩ : ∃ j, k = j + 1 := ⟨k - 1, by omega⟩
      obtain ⟨ad, a, rfl, ha, hcell⟩ := (hr.below hb).at_ (i := j) (by omega)
      have ha1 := hlt.at ha
      have HY := Lib.hid (val_drop_step (B := 4294967296) ha)
      clear ha
      have hl2 : (digs 10000 (val 4294967296 (l.drop (j + 1)))).length ≤ 1000000 := by
        have h1 := len10000_val (hlt.drop (j + 1))
        have h2 : (l.drop (j + 1)).length ≤ l.length := by simp
        omega
      go_wp2_with fail
      refine (mulAdd_any _ _ _ _ 4294967296 a _ (by omega) (by omega) ho hl2 (by omega) (by omega) (val 4294967296 (l.drop j)) (by have := HY.out; omega)).mono ?_
      rintro e w' ⟨v', rfl, hv, hf, hb2⟩
      go_wp2
      go_roundw
      case rel => exact ⟨j, by omega, hv, hf.mono hsz, hb.trans (hb2.mono hsz), by go_num⟩
      case measure => simp [intOf]
    · obtain rfl : k = 0 := by omega
      go_wp2
      go_ret
      exact ⟨_, rfl, by simpa using ho, hfo, hb⟩
theorem refOf_any (v : Value) (x : Nat) (w : World) (h : IsS w .u64 v (digs 4294967296 x)) (hl : (digs 4294967296 x).length ≤ 100000) :
    Calls Tryz.prog 41 #[v] w (RetS .i64 (digs 10000 x) w) := by
  have := refOf_list v _ w h (digs_lt (by omega) x) hl
  rwa [val_digs (by omega)] at this
set_option maxHeartbeats 800000 in
theorem refBack_any (v : Value) (x : Nat) (w : World) (h : IsS w .i64 v (digs 10000 x)) (hl : (digs 10000 x).length ≤ 100000) (hl2 : (digs 4294967296 x).length ≤ 100000) :
    Calls Tryz.prog 37 #[v] w (RetS .u64 (digs 4294967296 x) w) := by
  go_enter Tryz.func37, Tryz.ntmps37
  go_wp2
  go_loopw [0, 3] (fun va vo wr => ∃ (y : Nat) (o : List Nat), IsS wr .i64 va (digs 10000 y) ∧ Own wr w.heap.size 60 .u64 vo o ∧ Hid (o ++ digs 4294967296 y = digs 4294967296 x) ∧ (digs 10000 y).length ≤ 100000 ∧ Below w.heap.size w wr) (fun va _ _ => lenOf va)
  case atStart => exact ⟨x, [], h.below (below_alloc (Nat.le_refl _) _), own_lit0 w _ _ .u64 (Nat.le_refl _), rfl, hl, below_alloc (Nat.le_refl _) _⟩
  case round =>
    obtain ⟨y, o, hy, hown, HO, hly, hb⟩ := hrel
    have hsz := hb.size
    obtain ⟨A, c, rfl, hc1, hc2, hr⟩ := id hy
    have hol : o.length ≤ 100000 := by
      have := congrArg List.length HO.out
      rw [List.length_append] at this; omega
    by_cases hy0 : y = 0
    · have hz : (digs 10000 y).length ≤ 0 := by rw [hy0, digs_zero]; simp
      have HE : Hid (o = digs 4294967296 x) := by have := HO.out; rw [hy0, digs_zero, List.append_nil] at this; exact this
      clear hy0
      go_wp2
      go_ret
      exact ⟨_, rfl, by have := hown.isS; rw [HE.out] at this; exact this, hown.fresh, hb⟩
    · have hz : 0 < (digs 10000 y).length := by have := (digs_len0 (B := 10000) (by omega) (x := y)).1; omega
      obtain ⟨r, hr'⟩ : ∃ r, r = y % 4294967296 := ⟨_, rfl⟩
      have hr1 : r < 4294967296 := by omega
      have HS : Hid ((o ++ [r]) ++ digs 4294967296 (y / 4294967296) = digs 4294967296 x) := by
        have := HO.out
        rw [digs_pos (by omega) (by omega)] at this
        rw [hr', List.append_assoc]; exact this
      have hdl := digs_div_len (B := 10000) (d := 4294967296) (by omega) (by omega) (show 0 < y by omega)
      have HR := Lib.hid hr'
      clear hr'
      go_wp2_with fail
      refine (divSmall_any _ y _ 4294967296 (y / 4294967296) r _ (by omega) hy (by omega) (by omega) (by omega) rfl HR.out).mono ?_
      rintro e w' ⟨vq, rfl, hq, hfq, hb2⟩
      have hown2 := hown.below hb2
      have hsz2 := hb2.size
      have hun := hown.under
      clear hown
      go_wp2_with (at_builtin; refine wpList_append_one rfl (.tmp 15) (.tmp 18) rfl sl24 r rfl hown2 rfl (by omega) (by omega) (by omega) ?_; intro v' w1 hown1 hb1 hg1)
      have hq1 := hq.apart hfq hun hg1
      go_roundw
      case rel => exact ⟨_, _, hq1, hown1, HS, by omega, (hb.trans (hb2.mono hsz)).trans hb1⟩
      case measure =>
        obtain ⟨A', c', rfl, _⟩ := hq1
        exact hdl
set_option maxHeartbeats 400000 in
theorem refBits_any (v : Value) (x : Nat) (w : World) (h : IsS w .i64 v (digs 10000 x)) (hl : (digs 10000 x).length ≤ 100000) (hbx : nbits x ≤ 10000000) :
    Calls Tryz.prog 48 #[v] w (RetV (.int .i64 (nbits x : Int)) w) := by
  go_enter Tryz.func48, Tryz.ntmps48
  go_wp2
  go_loopw [0, 3] (fun va vn wr => ∃ (y n : Nat), y ≤ x ∧ n + nbits y ≤ nbits x ∧ nbits x ≤ n + nbits y ∧ IsS wr .i64 va (digs 10000 y) ∧ Below w.heap.size w wr ∧ vn = .int .i64 (n : Int)) (fun _ vn _ => nbits x - (intOf vn).toNat)
  case atStart => exact ⟨x, 0, Nat.le_refl _, by omega, by omega, h, Below.refl _ _, rfl⟩
  case round =>
    obtain ⟨y, n, hyx, hn1, hn2, hy, hb, rfl⟩ := hrel
    have hsz := hb.size
    have hly := digs_len_mono (B := 10000) (by omega) hyx
    obtain ⟨A, c, rfl, hc1, hc2, hr⟩ := id hy
    by_cases hy0 : y = 0
    · have hz : (digs 10000 y).length ≤ 0 := by rw [hy0, digs_zero]; simp
      have hb0 : nbits y ≤ 0 := by rw [hy0, nbits_zero]; omega
      obtain rfl : n = nbits x := by omega
      clear hy0
      go_wp2
      go_ret
      exact ⟨rfl, hb⟩
    · have hz : 0 < (digs 10000 y).length := by have := (digs_len0 (B := 10000) (by omega) (x := y)).1; omega
      have hh := nbits_half (show 0 < y by omega)
      have HH := Lib.hid hh
      have hh1 : nbits (y / 2) + 1 ≤ nbits y := by omega
      have hh2 : nbits y ≤ nbits (y / 2) + 1 := by omega
      have hy2 : y / 2 ≤ x := by omega
      clear hh
      go_wp2_with fail
      refine (divSmall_any _ y _ 2 (y / 2) (y % 2) _ (by omega) hy (by omega) (by omega) (by omega) rfl rfl).mono ?_
      rintro e w' ⟨vq, rfl, hq, hfq, hb2⟩
      go_wp2
      go_roundw
      case rel => exact ⟨_, n + 1, hy2, by omega, by omega, hq, hb.trans (hb2.mono hsz), by go_num⟩
      case measure => simp [intOf]; omega
end Go.Proofs.YtpcllhdfalebbaaGreatDoor.nat
namespace Go.Proofs.YtpcllhdfalebbaaGreatDoor.nat
open Go.RowKit Go.Proofs.YtpcllhdfalebbaaGreatDoor.num Go.Proofs.YtpcllhdfalebbaaGreatDoor.mem
set_option linter.unusedVariables false
section
open Classical
end
/-- The limbs that Clean looks at. -/
def clipped (l : List Nat) (most : Nat) : List Nat := (l.take most).map (· % 4294967296)
theorem clipped_lt (l : List Nat) (most : Nat) : Lt 4294967296 (clipped l most) := by
  intro d hd
  obtain ⟨a, _, rfl⟩ := List.mem_map.1 hd
  exact Nat.mod_lt _ (by omega)
theorem clipped_len (l : List Nat) (most : Nat) : (clipped l most).length ≤ most := by simp [clipped]; omega
theorem clipped_step {l : List Nat} {n d : Nat} (hd : l[n]? = some d) : clipped l (n + 1) = clipped l n ++ [d % 4294967296] := by unfold clipped; rw [take_step hd, List.map_append]; rfl
theorem clipped_all {l : List Nat} {n most : Nat} (h : n = l.length ∨ n = most) (hl : n ≤ l.length) (hm : n ≤ most) : clipped l n = clipped l most := by
  rcases h with rfl | rfl
  · unfold clipped; rw [List.take_of_length_le (by omega), List.take_of_length_le (by omega)]
  · rfl
set_option maxHeartbeats 800000 in
theorem refClean_list (v : Value) (l : List Nat) (mI : Int) (most : Nat) (w : World) (hmI : mI = (most : Int)) (h : IsS w .u64 v l) (hu : Lt 18446744073709551616 l) (hmost : most ≤ 1000000) :
    Calls Tryz.prog 38 #[v, .int .i64 mI] w (RetS .u64 (trim (clipped l most)) w) := by
  subst hmI
  obtain ⟨A, c, rfl, hc, hm, hr⟩ := h
  have hm' := hm
  unfold maxLen at hm'
  go_enter Tryz.func38, Tryz.ntmps38
  go_wp2
  go_loopw [5, 6] (fun vo vi wr => ∃ (k : Nat) (o : List Nat), k ≤ l.length ∧ k ≤ most ∧ Own wr w.heap.size 60 .u64 vo o ∧ Hid (o = clipped l k) ∧ o.length ≤ k ∧ Below w.heap.size w wr ∧ vi = .int .i64 (k : Int)) (fun _ vi _ => l.length - (intOf vi).toNat)
  case atStart => exact ⟨0, [], by omega, by omega, own_lit0 w _ _ .u64 (Nat.le_refl _), by show _ = _; simp [clipped], by simp, below_alloc (Nat.le_refl _) _, rfl⟩
  case round =>
    obtain ⟨k, o, hk, hk2, hown, HO, hok, hb, rfl⟩ := hrel
    have hsz := hb.size
    by_cases hlt : k < l.length ∧ k < most
    · obtain ⟨hlt1, hlt2⟩ := hlt
      obtain ⟨ad, d, rfl, hd, hcell⟩ := (hr.below hb).at_ hlt1
      have hd2 : (d : Int) ≤ 18446744073709551615 := by have := hu.at hd; omega
      have HN : Hid (o ++ [d % 4294967296] = clipped l (k + 1)) := by show _ = _; rw [clipped_step hd, HO.out]
      clear hd
      go_wp2_with (at_builtin; refine wpList_append_one rfl (.tmp 19) (.tmp 25) rfl sl24 (d % 4294967296) rfl hown rfl (by omega) (by omega) (by omega) ?_; intro v' w1 hown1 hb1 hg1)
      go_roundw
      case rel => exact ⟨k + 1, _, by omega, by omega, hown1, HN, by simp; omega, hb.trans hb1, by go_num⟩
      case measure => simp [intOf]; omega
    · have HC : Hid (o = clipped l most) := by show _ = _; rw [HO.out]; exact clipped_all (by omega) hk hk2
      have hv := hown.isS
      have hf := hown.fresh
      clear HO hown
      rcases (show (k < l.length ∧ ¬ k < most) ∨ ¬ k < l.length from by omega) with ⟨hlt1, hlt2⟩ | hlt1
      all_goals
        clear hlt
        go_wp2
        go_loopw [5] (fun vo wr => ∃ m : List Nat, IsS wr .u64 vo m ∧ Hid (trim m = trim o) ∧ Fresh w.heap.size vo ∧ Below w.heap.size w wr) (fun vo _ => lenOf vo)
        case atStart => exact ⟨o, hv, rfl, hf, hb⟩
        case round =>
          clear hv hf hb hsz
          obtain ⟨m, hv, HM, hf, hb⟩ := hrel
          obtain ⟨A', c', rfl, hc1, hc2, hr1⟩ := id hv
          unfold maxLen at hc2
          by_cases hl0 : 0 < m.length
          · obtain ⟨ad, d, rfl, hd, hcell⟩ := hr1.at_ (i := m.length - 1) (by omega)
            by_cases hd0 : d = 0
            · subst hd0
              have HN : Hid (trim (m.take (m.length - 1)) = trim o) := by
                have h1 := trim_take0 hd
                rw [show m.length - 1 + 1 = m.length from by omega, List.take_length] at h1
                show _ = _
                rw [← h1]; exact HM.out
              have hv2 := hr1.isTake (n := m.length - 1) (by omega) hc1 (by unfold maxLen; omega)
              clear hd
              go_wp2
              go_roundw
              case rel => exact ⟨_, hv2, HN, fun ad' n' c'' e => by injection e with e1 _ _; injection e1 with e1; subst e1; exact hf _ _ _ rfl, hb⟩
              case measure => simp [lenOf]; omega
            · have HN : Hid (m = trim o) := by
                have h1 := trim_of_take hd hd0
                rw [show m.length - 1 + 1 = m.length from by omega, List.take_length] at h1
                show _ = _
                rw [← h1]; exact HM.out
              have hz : ((d : Int) == 0) = false := by rw [beq_eq_false_iff_ne]; omega
              clear hd hd0
              go_wp2
              go_ret
              exact ⟨_, rfl, by rw [← HC.out, ← HN.out]; exact hv, hf, hb⟩
          · obtain rfl : m = [] := List.length_eq_zero_iff.1 (by omega)
            have HN : Hid (([] : List Nat) = trim o) := HM.out
            go_wp2
            go_ret
            exact ⟨_, rfl, by rw [← HC.out, ← HN.out]; exact hv, hf, hb⟩
end Go.Proofs.YtpcllhdfalebbaaGreatDoor.nat
namespace Go.Proofs.YtpcllhdfalebbaaGreatDoor.nat
open Go.RowKit Go.Proofs.YtpcllhdfalebbaaGreatDoor.num Go.Proofs.YtpcllhdfalebbaaGreatDoor.mem
set_option linter.unusedVariables false
/-- The same limbs? -/
def sameB (l m : List Nat) : Bool := decide (l = m)
theorem sameB_refl (l : List Nat) : sameB l l = true := by simp [sameB]
theorem sameB_of_len {l m : List Nat} (h : ¬ l.length = m.length) : sameB l m = false := by
  unfold sameB; rw [decide_eq_false_iff_not]; rintro rfl; exact h rfl
theorem sameB_at {l m : List Nat} {i d e : Nat} (hd : l[i]? = some d) (he : m[i]? = some e) (h : ¬ d = e) : sameB l m = false := by
  unfold sameB; rw [decide_eq_false_iff_not]; rintro rfl; rw [hd] at he; injection he with he; exact h he
set_option maxHeartbeats 400000 in
theorem refSame_any (v u : Value) (l m : List Nat) (w : World) (h : IsS w .u64 v l) (h' : IsS w .u64 u m) (hu : Lt 18446744073709551616 l) (hu' : Lt 18446744073709551616 m) :
    Calls Tryz.prog 35 #[v, u] w (RetV (.bool (sameB l m)) w) := by
  obtain ⟨A, c, rfl, hc, hm, hr⟩ := h
  obtain ⟨A', c', rfl, hc', hmm, hr'⟩ := h'
  unfold maxLen at hm hmm
  by_cases hne : l.length = m.length
  · have hb1 : ((l.length : Int) != (m.length : Int)) = false := by rw [hne]; simp
    have HL := Lib.hid hne
    have hl1 : l.length ≤ m.length := by omega
    have hl2 : m.length ≤ l.length := by omega
    clear hne
    go_enter Tryz.func35, Tryz.ntmps35
    go_wp2
    go_loopw [5] (fun vi wr => ∃ k : Nat, k ≤ l.length ∧ Hid (l.take k = m.take k) ∧ Below w.heap.size w wr ∧ vi = .int .i64 (k : Int)) (fun vi _ => l.length - (intOf vi).toNat)
    case atStart => exact ⟨0, by omega, by show _ = _; simp, Below.refl _ _, rfl⟩
    case round =>
      obtain ⟨k, hk, HT, hb, rfl⟩ := hrel
      by_cases hlt : k < l.length
      · obtain ⟨ad, d, rfl, hd, hcell⟩ := (hr.below hb).at_ hlt
        obtain ⟨ad', e, rfl, he, hcell'⟩ := (hr'.below hb).at_ (i := k) (by omega)
        by_cases hde : d = e
        · subst hde
          have HN : Hid (l.take (k + 1) = m.take (k + 1)) := by show _ = _; rw [take_step hd, take_step he, HT.out]
          have hz : ((d : Int) != (d : Int)) = false := by simp
          clear hd he
          go_wp2
          go_quiet (fail)
          go_wp2
          go_roundw
          case rel => exact ⟨k + 1, by omega, HN, below_drewN hb _, by go_num⟩
          case measure => simp [intOf]; omega
        · have HN : Hid (sameB l m = false) := sameB_at hd he hde
          have hz : ((d : Int) != (e : Int)) = true := by rw [bne_iff_ne]; omega
          clear hd he hde
          go_wp2
          go_quiet (fail)
          go_wp2
          go_ret
          exact ⟨by rw [HN.out]; rfl, below_drewN hb _⟩
      · obtain rfl : k = l.length := by omega
        have HN : Hid (sameB l m = true) := by
          have := HT.out
          rw [List.take_length, List.take_of_length_le hl2] at this
          rw [this]; exact sameB_refl m
        go_wp2
        go_ret
        exact ⟨by rw [HN.out]; rfl, hb⟩
  · have hb1 : ((l.length : Int) != (m.length : Int)) = true := by rw [bne_iff_ne]; omega
    have HN : Hid (sameB l m = false) := sameB_of_len hne
    clear hne
    go_enter Tryz.func35, Tryz.ntmps35
    go_wp2
    go_ret
    exact ⟨by rw [HN.out]; rfl, Below.refl _ _⟩
set_option maxHeartbeats 400000 in
theorem refCmp_any (v u : Value) (x y : Nat) (w : World) (h : IsS w .i64 v (digs 10000 x)) (h' : IsS w .i64 u (digs 10000 y)) :
    Calls Tryz.prog 55 #[v, u] w (RetV (.int .i64 (ord x y)) w) := by
  have lt1 := digs_lt (B := 10000) (by omega) x
  have lt2 := digs_lt (B := 10000) (by omega) y
  obtain ⟨A, c, rfl, hc, hm, hr⟩ := h
  obtain ⟨A', c', rfl, hc', hmm, hr'⟩ := h'
  unfold maxLen at hm hmm
  by_cases hne : (digs 10000 x).length = (digs 10000 y).length
  · have hb1 : (((digs 10000 x).length : Int) != ((digs 10000 y).length : Int)) = false := by rw [hne]; simp
    have HL := Lib.hid hne
    have hl1 : (digs 10000 x).length ≤ (digs 10000 y).length := by omega
    have hl2 : (digs 10000 y).length ≤ (digs 10000 x).length := by omega
    clear hne
    go_enter Tryz.func55, Tryz.ntmps55
    go_wp2
    go_loopw [5] (fun vi wr => ∃ k : Nat, k ≤ (digs 10000 x).length ∧ Hid ((digs 10000 x).drop k = (digs 10000 y).drop k) ∧ Below w.heap.size w wr ∧ vi = .int .i64 ((k : Int) - 1)) (fun vi _ => (intOf vi + 1).toNat)
    case atStart => exact ⟨(digs 10000 x).length, by omega, by show _ = _; rw [List.drop_length, List.drop_of_length_le hl2], Below.refl _ _, rfl⟩
    case round =>
      obtain ⟨k, hk, HT, hb, rfl⟩ := hrel
      by_cases hlt : 0 < k
      · obtain ⟨j, rfl⟩ : ∃ j, k = j + 1 := ⟨k - 1, by omega⟩
        obtain ⟨ad, d, rfl, hd, hcell⟩ := (hr.below hb).at_ (i := j) (by omega)
        obtain ⟨ad', e, rfl, he, hcell'⟩ := (hr'.below hb).at_ (i := j) (by omega)
        rcases Nat.lt_trichotomy d e with hde | hde | hde
        · have HN : Hid (ord x y = -1) := by
            have := at_lt_val lt1 lt2 HL.out hd he HT.out hde
            rw [val_digs (by omega), val_digs (by omega)] at this
            exact ord_lt this
          clear hd he
          go_wp2
          go_quiet (fail)
          go_wp2
          go_ret
          exact ⟨by rw [HN.out]; rfl, below_drewN hb _⟩
        · subst hde
          have HN : Hid ((digs 10000 x).drop j = (digs 10000 y).drop j) := drop_step hd he HT.out
          clear hd he
          go_wp2
          go_quiet (fail)
          go_wp2
          go_quiet (fail)
          go_wp2
          go_roundw
          case rel => exact ⟨j, by omega, HN, below_drewN hb _, by go_num⟩
          case measure => simp [intOf]
        · have HN : Hid (ord x y = 1) := by
            have := at_lt_val lt2 lt1 HL.out.symm he hd HT.out.symm hde
            rw [val_digs (by omega), val_digs (by omega)] at this
            exact ord_gt this
          clear hd he
          go_wp2
          go_quiet (fail)
          go_wp2
          go_quiet (fail)
          go_wp2
          go_ret
          exact ⟨by rw [HN.out]; rfl, below_drewN (below_drewN hb _) _⟩
      · obtain rfl : k = 0 := by omega
        have HN : Hid (ord x y = 0) := by
          have := HT.out
          rw [List.drop_zero, List.drop_zero] at this
          have e := congrArg (val 10000) this
          rw [val_digs (by omega), val_digs (by omega)] at e
          rw [e]; exact ord_eq y
        go_wp2
        go_ret
        exact ⟨by rw [HN.out]; rfl, hb⟩
  · have hb1 : (((digs 10000 x).length : Int) != ((digs 10000 y).length : Int)) = true := by rw [bne_iff_ne]; omega
    by_cases hlt : (digs 10000 x).length < (digs 10000 y).length
    · have HN : Hid (ord x y = -1) := ord_lt (len_lt_ord (by omega) hlt)
      clear hne
      go_enter Tryz.func55, Tryz.ntmps55
      go_wp2
      go_ret
      exact ⟨by rw [HN.out]; rfl, Below.refl _ _⟩
    · have HN : Hid (ord x y = 1) := ord_gt (len_lt_ord (B := 10000) (by omega) (by omega))
      clear hne
      go_enter Tryz.func55, Tryz.ntmps55
      go_wp2
      go_ret
      exact ⟨by rw [HN.out]; rfl, Below.refl _ _⟩
/-- What Add's loop keeps behind k rounds. -/
def AD (l m : List Nat) (k c : Nat) (o : List Nat) : Prop := Lt 10000 o ∧ o.length = k ∧ val 10000 o + 10000 ^ k * c = val 10000 (l.take k) + val 10000 (m.take k)
theorem val_take_over {B : Nat} {l : List Nat} {k : Nat} (h : l.length ≤ k) : val B (l.take (k + 1)) = val B (l.take k) := by rw [List.take_of_length_le h, List.take_of_length_le (by omega)]
theorem AD.step {l m o : List Nat} {k c d e : Nat} (h : AD l m k c o) (hd : l[k]? = some d ∨ l.length ≤ k ∧ d = 0) (he : m[k]? = some e ∨ m.length ≤ k ∧ e = 0) :
    AD l m (k + 1) ((c + d + e) / 10000) (o ++ [(c + d + e) % 10000]) := by
  unfold AD at h ⊢
  obtain ⟨h1, h2, h3⟩ := h
  have ed : val 10000 (l.take (k + 1)) = val 10000 (l.take k) + 10000 ^ k * d := by
    rcases hd with hd | ⟨hd, rfl⟩
    · exact val_take_step hd
    · rw [val_take_over hd]; omega
  have ee : val 10000 (m.take (k + 1)) = val 10000 (m.take k) + 10000 ^ k * e := by
    rcases he with he | ⟨he, rfl⟩
    · exact val_take_step he
    · rw [val_take_over he]; omega
  refine ⟨h1.snoc (by omega), by simp [h2], ?_⟩
  rw [val_snoc, h2, ed, ee, Nat.pow_succ, Nat.mul_assoc]
  have e1 : 10000 ^ k * ((c + d + e) % 10000) + 10000 ^ k * (10000 * ((c + d + e) / 10000)) = 10000 ^ k * c + 10000 ^ k * d + 10000 ^ k * e := by
    rw [← Nat.mul_add, ← Nat.mul_add, ← Nat.mul_add]; congr 1; omega
  omega
theorem AD.done {l m o : List Nat} {k c : Nat} (h : AD l m k c o) (hl : l.length ≤ k) (hm : m.length ≤ k) (hc : c < 10000) : Lt 10000 (o ++ [c]) ∧ val 10000 (o ++ [c]) = val 10000 l + val 10000 m := by
  unfold AD at h
  obtain ⟨h1, h2, h3⟩ := h
  rw [List.take_of_length_le hl, List.take_of_length_le hm] at h3
  exact ⟨h1.snoc hc, by rw [val_snoc, h2]; exact h3⟩
set_option maxHeartbeats 1600000 in
theorem refAdd_list (v u : Value) (l m : List Nat) (w : World) (h : IsS w .i64 v l) (h' : IsS w .i64 u m) (lt1 : Lt 10000 l) (lt2 : Lt 10000 m) (hl : l.length ≤ 1000000) (hl' : m.length ≤ 1000000) :
    Calls Tryz.prog 33 #[v, u] w (RetS .i64 (digs 10000 (val 10000 l + val 10000 m)) w) := by
  obtain ⟨A, c, rfl, hc, hm, hr⟩ := h
  obtain ⟨A', c', rfl, hc', hmm, hr'⟩ := h'
  go_enter Tryz.func33, Tryz.ntmps33
  go_wp2
  go_loopw [5, 6, 7] (fun vo vc vi wr => ∃ (k cy : Nat) (o : List Nat), (k ≤ l.length ∨ k ≤ m.length) ∧ cy ≤ 1 ∧ AD l m k cy o ∧ Own wr w.heap.size 3 .i64 vo o ∧ o.length ≤ k ∧ Below w.heap.size w wr ∧ vc = .int .i64 (cy : Int) ∧ vi = .int .i64 (k : Int)) (fun _ _ vi _ => l.length + m.length - (intOf vi).toNat)
  case atStart => exact ⟨0, 0, [], by omega, by omega, by unfold AD; exact ⟨Lt.nil _, rfl, by simp [val]⟩, own_lit0 w _ _ .i64 (Nat.le_refl _), by simp, below_alloc (Nat.le_refl _) _, rfl, rfl⟩
  case round =>
    obtain ⟨k, cy, o, hk, hcy, hA, hown, hok, hb, rfl, rfl⟩ := hrel
    have hsz := hb.size
    by_cases h1 : k < l.length
    · obtain ⟨ad, d, rfl, hd, hcell⟩ := (hr.below hb).at_ h1
      have hd1 := lt1.at hd
      by_cases h2 : k < m.length
      · obtain ⟨ad', e, rfl, he, hcell'⟩ := (hr'.below hb).at_ h2
        have he1 := lt2.at he
        have HS := Lib.hid (hA.step (.inl hd) (.inl he))
        clear hd he hA
        go_wp2_with (at_builtin; refine wpList_append_one rfl (.tmp 38) (.tmp 41) rfl sl33 ((cy + d + e) % 10000) rfl hown rfl (by omega) (by omega) (by omega) ?_; intro v' w1 hown1 hb1 hg1)
        go_roundw
        case rel => exact ⟨k + 1, _, _, by omega, by omega, HS.out, hown1, by simp; omega, hb.trans hb1, int_eq (by omega), by go_num⟩
        case measure => simp [intOf]; omega
      · have hlm : ¬ l.length < m.length := by omega
        have HS := Lib.hid (hA.step (.inl hd) (e := 0) (.inr ⟨by omega, rfl⟩))
        clear hd hA
        go_wp2_with (at_builtin; refine wpList_append_one rfl (.tmp 38) (.tmp 41) rfl sl33 ((cy + d + 0) % 10000) rfl hown rfl (by omega) (by omega) (by omega) ?_; intro v' w1 hown1 hb1 hg1)
        go_roundw
        case rel => exact ⟨k + 1, _, _, by omega, by omega, HS.out, hown1, by simp; omega, hb.trans hb1, int_eq (by omega), by go_num⟩
        case measure => simp [intOf]; omega
    · by_cases h2 : k < m.length
      · obtain ⟨ad', e, rfl, he, hcell'⟩ := (hr'.below hb).at_ h2
        have he1 := lt2.at he
        have hlm : l.length < m.length := by omega
        have HS := Lib.hid (hA.step (d := 0) (.inr ⟨by omega, rfl⟩) (.inl he))
        clear he hA
        go_wp2_with (at_builtin; refine wpList_append_one rfl (.tmp 38) (.tmp 41) rfl sl33 ((cy + 0 + e) % 10000) rfl hown rfl (by omega) (by omega) (by omega) ?_; intro v' w1 hown1 hb1 hg1)
        go_roundw
        case rel => exact ⟨k + 1, _, _, by omega, by omega, HS.out, hown1, by simp; omega, hb.trans hb1, int_eq (by omega), by go_num⟩
        case measure => simp [intOf]; omega
      · obtain ⟨g1, g2⟩ := hA.done (by omega) (by omega) (by omega)
        have HV := Lib.hid g2
        clear g2 hA
        by_cases hlm : l.length < m.length
        all_goals
          go_wp2_with (at_builtin; refine wpList_append_one rfl (.tmp 45) (.tmp 47) rfl sl33 cy rfl hown rfl rfl (by omega) (by omega) ?_; intro v' w1 hown1 hb1 hg1)
          have hsz1 := (hb.trans hb1).size
          refine (refTrim_any _ _ _ hown1.isS g1 (by simp; omega)).mono ?_
          rintro e w' ⟨v2, rfl, hv, hf, hb2⟩
          go_wp2
          go_ret
          exact ⟨_, rfl, by rw [HV.out] at hv; exact hv, hf.mono hsz1, (hb.trans hb1).trans (hb2.mono hsz1)⟩
theorem refAdd_any (v u : Value) (x y : Nat) (w : World) (h : IsS w .i64 v (digs 10000 x)) (h' : IsS w .i64 u (digs 10000 y)) (hl : (digs 10000 x).length ≤ 1000000) (hl' : (digs 10000 y).length ≤ 1000000) :
    Calls Tryz.prog 33 #[v, u] w (RetS .i64 (digs 10000 (x + y)) w) := by
  have := refAdd_list v u _ _ w h h' (digs_lt (by omega) x) (digs_lt (by omega) y) hl hl'
  rwa [val_digs (by omega), val_digs (by omega)] at this
end Go.Proofs.YtpcllhdfalebbaaGreatDoor.nat
namespace Go.Proofs.YtpcllhdfalebbaaGreatDoor.nat
open Go.RowKit Go.Proofs.YtpcllhdfalebbaaGreatDoor.num Go.Proofs.YtpcllhdfalebbaaGreatDoor.mem
set_option linter.unusedVariables false
/-- What Sub's loop keeps behind k rounds, by base B. -/
def SB (B : Nat) (l m : List Nat) (k c : Nat) (o : List Nat) : Prop := Lt B o ∧ o.length = k ∧ val B o + val B (m.take k) = val B (l.take k) + B ^ k * c
theorem SB.start (B : Nat) (l m : List Nat) : SB B l m 0 0 [] := by unfold SB; exact ⟨Lt.nil _, rfl, by simp [val]⟩
theorem SB.step {B : Nat} {l m o : List Nat} {k c d e x c' : Nat} (h : SB B l m k c o) (hd : l[k]? = some d) (he : m[k]? = some e ∨ m.length ≤ k ∧ e = 0) (hx : x < B) (hs : x + e + c = d + B * c') : SB B l m (k + 1) c' (o ++ [x]) := by
  unfold SB at h ⊢
  obtain ⟨h1, h2, h3⟩ := h
  have ee : val B (m.take (k + 1)) = val B (m.take k) + B ^ k * e := by
    rcases he with he | ⟨he, rfl⟩
    · exact val_take_step he
    · rw [val_take_over he]; omega
  refine ⟨h1.snoc hx, by simp [h2], ?_⟩
  rw [val_snoc, h2, val_take_step hd, ee, Nat.pow_succ, Nat.mul_assoc]
  have e1 : B ^ k * x + B ^ k * e + B ^ k * c = B ^ k * d + B ^ k * (B * c') := by
    rw [← Nat.mul_add, ← Nat.mul_add, ← Nat.mul_add, hs]
  omega
theorem SB.done {B : Nat} {l m o : List Nat} {c : Nat} (h : SB B l m l.length c o) (hm : m.length ≤ l.length) (hle : val B m ≤ val B l) : Lt B o ∧ val B o = val B l - val B m := by
  unfold SB at h
  obtain ⟨h1, h2, h3⟩ := h
  rw [List.take_length, List.take_of_length_le hm] at h3
  have h4 := val_lt h1
  rw [h2] at h4
  have hc : c = 0 := by
    rcases Nat.eq_zero_or_pos c with h5 | h5
    · exact h5
    · have := Nat.mul_le_mul_left (B ^ l.length) h5
      omega
  subst hc
  exact ⟨h1, by omega⟩
set_option maxHeartbeats 1600000 in
theorem refSub_list (v u : Value) (l m : List Nat) (w : World) (h : IsS w .i64 v l) (h' : IsS w .i64 u m) (lt1 : Lt 10000 l) (lt2 : Lt 10000 m) (hl : l.length ≤ 1000000) (hml : m.length ≤ l.length) (hle : val 10000 m ≤ val 10000 l) :
    Calls Tryz.prog 84 #[v, u] w (RetS .i64 (digs 10000 (val 10000 l - val 10000 m)) w) := by
  obtain ⟨A, c, rfl, hc, hm, hr⟩ := h
  obtain ⟨A', c', rfl, hc', hmm, hr'⟩ := h'
  have HLE := Lib.hid hle
  clear hle
  go_enter Tryz.func84, Tryz.ntmps84
  go_wp2
  go_loopw [5, 6, 7] (fun vo vc vi wr => ∃ (k cy : Nat) (o : List Nat), k ≤ l.length ∧ cy ≤ 1 ∧ SB 10000 l m k cy o ∧ Own wr w.heap.size 3 .i64 vo o ∧ o.length ≤ k ∧ Below w.heap.size w wr ∧ vc = .int .i64 (cy : Int) ∧ vi = .int .i64 (k : Int)) (fun _ _ vi _ => l.length - (intOf vi).toNat)
  case atStart => exact ⟨0, 0, [], by omega, by omega, SB.start _ _ _, own_lit0 w _ _ .i64 (Nat.le_refl _), by simp, below_alloc (Nat.le_refl _) _, rfl, rfl⟩
  case round =>
    obtain ⟨k, cy, o, hk, hcy, hA, hown, hok, hb, rfl, rfl⟩ := hrel
    have hsz := hb.size
    by_cases h1 : k < l.length
    · obtain ⟨ad, d, rfl, hd, hcell⟩ := (hr.below hb).at_ h1
      have hd1 := lt1.at hd
      by_cases h2 : k < m.length
      · obtain ⟨ad', e, rfl, he, hcell'⟩ := (hr'.below hb).at_ h2
        have he1 := lt2.at he
        by_cases hn : d < e + cy
        · have HS := Lib.hid (hA.step hd (.inl he) (x := d + 10000 - e - cy) (c' := 1) (by omega) (by omega))
          clear hd he hA
          go_wp2_with (at_builtin; refine wpList_append_one rfl _ _ rfl sl33 (d + 10000 - e - cy) rfl hown rfl (by omega) (by omega) (by omega) ?_; intro v' w1 hown1 hb1 hg1)
          go_roundw
          case rel => exact ⟨k + 1, 1, _, by omega, by omega, HS.out, hown1, by simp; omega, hb.trans hb1, rfl, by go_num⟩
          case measure => simp [intOf]; omega
        · have HS := Lib.hid (hA.step hd (.inl he) (x := d - e - cy) (c' := 0) (by omega) (by omega))
          clear hd he hA
          go_wp2_with (at_builtin; refine wpList_append_one rfl _ _ rfl sl33 (d - e - cy) rfl hown rfl (by omega) (by omega) (by omega) ?_; intro v' w1 hown1 hb1 hg1)
          go_roundw
          case rel => exact ⟨k + 1, 0, _, by omega, by omega, HS.out, hown1, by simp; omega, hb.trans hb1, rfl, by go_num⟩
          case measure => simp [intOf]; omega
      · by_cases hn : d < cy
        · have HS := Lib.hid (hA.step hd (e := 0) (.inr ⟨by omega, rfl⟩) (x := d + 10000 - cy) (c' := 1) (by omega) (by omega))
          clear hd hA
          go_wp2_with (at_builtin; refine wpList_append_one rfl _ _ rfl sl33 (d + 10000 - cy) rfl hown rfl (by omega) (by omega) (by omega) ?_; intro v' w1 hown1 hb1 hg1)
          go_roundw
          case rel => exact ⟨k + 1, 1, _, by omega, by omega, HS.out, hown1, by simp; omega, hb.trans hb1, rfl, by go_num⟩
          case measure => simp [intOf]; omega
        · have HS := Lib.hid (hA.step hd (e := 0) (.inr ⟨by omega, rfl⟩) (x := d - cy) (c' := 0) (by omega) (by omega))
          clear hd hA
          go_wp2_with (at_builtin; refine wpList_append_one rfl _ _ rfl sl33 (d - cy) rfl hown rfl (by omega) (by omega) (by omega) ?_; intro v' w1 hown1 hb1 hg1)
          go_roundw
          case rel => exact ⟨k + 1, 0, _, by omega, by omega, HS.out, hown1, by simp; omega, hb.trans hb1, rfl, by go_num⟩
          case measure => simp [intOf]; omega
    · obtain rfl : k = l.length := by omega
      obtain ⟨g1, g2⟩ := hA.done hml HLE.out
      have HV := Lib.hid g2
      clear g2 hA
      go_wp2_with fail
      refine (refTrim_any _ _ _ hown.isS g1 (by omega)).mono ?_
      rintro e w' ⟨v2, rfl, hv, hf, hb2⟩
      go_wp2
      go_ret
      exact ⟨_, rfl, by rw [HV.out] at hv; exact hv, hf.mono hsz, hb.trans (hb2.mono hsz)⟩
theorem refSub_any (v u : Value) (x y : Nat) (w : World) (h : IsS w .i64 v (digs 10000 x)) (h' : IsS w .i64 u (digs 10000 y)) (hl : (digs 10000 x).length ≤ 1000000) (hle : y ≤ x) (z : Nat) (hz : z = x - y) :
    Calls Tryz.prog 84 #[v, u] w (RetS .i64 (digs 10000 z) w) := by
  have := refSub_list v u _ _ w h h' (digs_lt (by omega) x) (digs_lt (by omega) y) hl (digs_len_mono (by omega) hle) (by rw [val_digs (by omega), val_digs (by omega)]; exact hle)
  rw [val_digs (by omega), val_digs (by omega)] at this
  rw [hz]; exact this
end Go.Proofs.YtpcllhdfalebbaaGreatDoor.nat
namespace Go.Proofs.YtpcllhdfalebbaaGreatDoor.nat
open Go.RowKit Go.Proofs.YtpcllhdfalebbaaGreatDoor.num Go.Proofs.YtpcllhdfalebbaaGreatDoor.mem
set_option linter.unusedVariables false
/-- What Mul's outer loop keeps: behind i digits of the first number. -/
def MO (l m : List Nat) (i : Nat) (o : List Nat) : Prop := Lt 10000 o ∧ o.length = l.length + m.length + 1 ∧ val 10000 o = val 10000 (l.take i) * val 10000 m
/-- What its inner loop keeps: behind j digits of the second one. -/
def MI (l m : List Nat) (i a j c : Nat) (o : List Nat) : Prop := Lt 10000 o ∧ o.length = l.length + m.length + 1 ∧ val 10000 o + 10000 ^ (i + j) * c = val 10000 (l.take i) * val 10000 m + 10000 ^ i * (a * val 10000 (m.take j))
/-- What the loop behind keeps, which carries on at place k. -/
def MC (l m : List Nat) (i k c : Nat) (o : List Nat) : Prop := Lt 10000 o ∧ o.length = l.length + m.length + 1 ∧ val 10000 o + 10000 ^ k * c = val 10000 (l.take (i + 1)) * val 10000 m
theorem MO.start (l m : List Nat) : MO l m 0 (List.replicate (l.length + m.length + 1) 0) := by
  unfold MO; exact ⟨Lt.rep (by omega) _, by simp, by rw [val_rep]; simp [val]⟩
theorem MO.inner {l m o : List Nat} {i a : Nat} (h : MO l m i o) : MI l m i a 0 0 o := by
  unfold MO at h; unfold MI
  exact ⟨h.1, h.2.1, by simp [h.2.2, val]⟩
theorem MI.step {l m o : List Nat} {i a j c d b : Nat} (h : MI l m i a j c o) (hd : o[i + j]? = some d) (hb : m[j]? = some b) : MI l m i a (j + 1) ((c + d + a * b) / 10000) (o.set (i + j) ((c + d + a * b) % 10000)) := by
  unfold MI at h ⊢
  obtain ⟨h1, h2, h3⟩ := h
  refine ⟨h1.set (by omega) _, by simpa using h2, ?_⟩
  have hs := val_set (B := 10000) hd ((c + d + a * b) % 10000)
  rw [val_take_step hb, Nat.mul_add, Nat.mul_add, ← Nat.add_assoc (val 10000 (l.take i) * val 10000 m), ← h3, ← Nat.add_assoc i j 1, Nat.pow_succ, Nat.mul_assoc (10000 ^ (i + j))]
  have e1 : 10000 ^ (i + j) * ((c + d + a * b) % 10000) + 10000 ^ (i + j) * (10000 * ((c + d + a * b) / 10000)) = 10000 ^ (i + j) * c + 10000 ^ (i + j) * d + 10000 ^ (i + j) * (a * b) := by
    rw [← Nat.mul_add, ← Nat.mul_add, ← Nat.mul_add]; congr 1; omega
  have e2 : 10000 ^ i * (a * (10000 ^ j * b)) = 10000 ^ (i + j) * (a * b) := by rw [Nat.pow_add, Nat.mul_assoc, Nat.mul_left_comm a]
  rw [e2]; omega
theorem MI.carry {l m o : List Nat} {i a c : Nat} (h : MI l m i a m.length c o) (ha : l[i]? = some a) : MC l m i (i + m.length) c o := by
  unfold MI at h; unfold MC
  obtain ⟨h1, h2, h3⟩ := h
  refine ⟨h1, h2, ?_⟩
  rw [List.take_length] at h3
  rw [h3, val_take_step ha, Nat.add_mul, Nat.mul_assoc]
theorem MC.place {l m o : List Nat} {i k c : Nat} (h : MC l m i k c o) (lt1 : Lt 10000 l) (lt2 : Lt 10000 m) (hi : i < l.length) (hc : 0 < c) : k < i + 1 + m.length := by
  unfold MC at h
  obtain ⟨h1, h2, h3⟩ := h
  have h4 := val_lt (lt1.take (i + 1))
  have h5 := val_lt lt2
  rw [show (l.take (i + 1)).length = i + 1 from by simp; omega] at h4
  have h6 : val 10000 (l.take (i + 1)) * val 10000 m < 10000 ^ (i + 1) * 10000 ^ m.length := Nat.mul_lt_mul'' h4 h5
  rw [← Nat.pow_add] at h6
  have h7 := Nat.mul_le_mul_left (10000 ^ k) hc
  rcases Nat.lt_or_ge k (i + 1 + m.length) with h8 | h8
  · exact h8
  · have := Nat.pow_le_pow_right (n := 10000) (by omega) h8
    omega
theorem MC.step {l m o : List Nat} {i k c d : Nat} (h : MC l m i k c o) (hd : o[k]? = some d) : MC l m i (k + 1) ((c + d) / 10000) (o.set k ((c + d) % 10000)) := by
  unfold MC at h ⊢
  obtain ⟨h1, h2, h3⟩ := h
  refine ⟨h1.set (by omega) _, by simpa using h2, ?_⟩
  have hs := val_set (B := 10000) hd ((c + d) % 10000)
  rw [← h3, Nat.pow_succ, Nat.mul_assoc (10000 ^ k)]
  have e1 : 10000 ^ k * ((c + d) % 10000) + 10000 ^ k * (10000 * ((c + d) / 10000)) = 10000 ^ k * c + 10000 ^ k * d := by
    rw [← Nat.mul_add, ← Nat.mul_add]; congr 1; omega
  omega
theorem MC.done {l m o : List Nat} {i k : Nat} (h : MC l m i k 0 o) : MO l m (i + 1) o := by
  unfold MC at h; unfold MO
  exact ⟨h.1, h.2.1, by simpa using h.2.2⟩
theorem MO.done {l m o : List Nat} (h : MO l m l.length o) : Lt 10000 o ∧ val 10000 o = val 10000 l * val 10000 m := by
  unfold MO at h
  rw [List.take_length] at h
  exact ⟨h.1, h.2.2⟩
set_option maxHeartbeats 1600000 in
theorem refMul_list (v u : Value) (l m : List Nat) (w : World) (h : IsS w .i64 v l) (h' : IsS w .i64 u m) (lt1 : Lt 10000 l) (lt2 : Lt 10000 m) (hl : l.length ≤ 1000000) (hl' : m.length ≤ 1000000) :
    Calls Tryz.prog 31 #[v, u] w (RetS .i64 (digs 10000 (val 10000 l * val 10000 m)) w) := by
  obtain ⟨A, cA, rfl, hc, hm, hr⟩ := h
  obtain ⟨A', cA', rfl, hc', hmm, hr'⟩ := h'
  go_enter Tryz.func31, Tryz.ntmps31
  go_wp2_with (at_make; refine wpList_make_rd rfl _ _ rfl sl33 (l.length + m.length + 1) rfl rfl (by omega) (by omega) (by omega) (Nat.le_refl _) ?_; intro w1 hown1 hb1 hz1)
  go_loopw [6] (fun vi wr => ∃ (i : Nat) (o : List Nat), i ≤ l.length ∧ MO l m i o ∧ Own wr w.heap.size 3 .i64 (.slice (some ⟨w.heap.size, 0, none⟩) (l.length + m.length + 1) (l.length + m.length + 1)) o ∧ Below w.heap.size w wr ∧ vi = .int .i64 (i : Int)) (fun vi _ => l.length - (intOf vi).toNat)
  case atStart => exact ⟨0, _, by omega, MO.start l m, hown1, hb1, rfl⟩
  case round =>
    clear hown1 hb1 hz1
    obtain ⟨i, o, hi, hM, hown, hb, rfl⟩ := hrel
    obtain ⟨wo, rfl⟩ : ∃ wo : World, wo = wr := ⟨_, rfl⟩
    by_cases hlt : i < l.length
    · obtain ⟨ad, a, rfl, ha, hcell⟩ := hr.at_ hlt
      have ha1 := lt1.at ha
      have HA := Lib.hid ha
      have HI := hM.inner (a := a)
      clear hM ha
      go_wp2
      go_loopw [7, 8] (fun vc vj wr => ∃ (j c : Nat) (o : List Nat), j ≤ m.length ∧ c ≤ 9999 ∧ MI l m i a j c o ∧ Own wr w.heap.size 3 .i64 (.slice (some ⟨w.heap.size, 0, none⟩) (l.length + m.length + 1) (l.length + m.length + 1)) o ∧ Below w.heap.size w wr ∧ vc = .int .i64 (c : Int) ∧ vj = .int .i64 (j : Int)) (fun _ vj _ => m.length - (intOf vj).toNat)
      case atStart => exact ⟨0, 0, o, by omega, by omega, HI, hown, hb, rfl, rfl⟩
      case round =>
        clear HI hown hb
        obtain ⟨j, c, o2, hj, hc9, hI, hown, hb, rfl, rfl⟩ := hrel
        have hcl := (hr.below hb).at_ hlt
        by_cases hlt2 : j < m.length
        · obtain ⟨ad', b, rfl, hbj, hcell'⟩ := (hr'.below hb).at_ hlt2
          have hb1 := lt2.at hbj
          obtain ⟨d, hd⟩ : ∃ d, o2[i + j]? = some d := ⟨_, List.getElem?_eq_getElem (by have := hI.2.1; omega)⟩
          have hd1 := hI.1.at hd
          have hc0 := hown.cellAt hd
          have hf0 := hown.frozenAt (i + j)
          have hcell0 := (hb.cell (World.block_lt_of_cell? w _ hcell)).trans hcell
          have HS := Lib.hid (hI.step hd hbj)
          have hpr : a * b ≤ 9999 * 9999 := Nat.mul_le_mul (by omega) (by omega)
          clear hd hbj hI hcl
          have w1 : IntKind.i64.wrap ((i : Int) + (j : Int)) = (i : Int) + (j : Int) := IntWalk.i64_in _ (by omega)
          have w2 : IntKind.i64.wrap ((c : Int) + (d : Int)) = (c : Int) + (d : Int) := IntWalk.i64_in _ (by omega)
          have w3 : IntKind.i64.wrap ((a : Int) * (b : Int)) = (a : Int) * (b : Int) := IntWalk.i64_in _ (by omega)
          have w4 : IntKind.i64.wrap ((c : Int) + (d : Int) + (a : Int) * (b : Int)) = (c : Int) + (d : Int) + (a : Int) * (b : Int) := IntWalk.i64_in _ (by omega)
          go_wp2
          go_quiet (fail)
          clear w1 w2 w3 w4
          go_wp2
          go_roundw
          case rel => exact ⟨j + 1, (c + d + a * b) / 10000, _, by omega, by omega, HS.out, (hown.drewN _).stored' (i + j) ((c + d + a * b) % 10000) (by omega), (below_drewN hb _).setCell (Nat.le_refl _) _, int_eq (by omega), by go_num⟩
          case measure => simp [intOf]; omega
        · obtain rfl : j = m.length := by omega
          have HC := hI.carry HA.out
          clear hI hcl
          go_wp2
          go_loopw [7, 9] (fun vc vk wr => ∃ (k c : Nat) (o : List Nat), k ≤ l.length + m.length ∧ c ≤ 9999 ∧ MC l m i k c o ∧ Own wr w.heap.size 3 .i64 (.slice (some ⟨w.heap.size, 0, none⟩) (l.length + m.length + 1) (l.length + m.length + 1)) o ∧ Below w.heap.size w wr ∧ vc = .int .i64 (c : Int) ∧ vk = .int .i64 (k : Int)) (fun _ vk _ => l.length + m.length + 1 - (intOf vk).toNat)
          case atStart => exact ⟨i + m.length, c, o2, by omega, hc9, HC, hown, hb, rfl, int_eq (by omega)⟩
          case round =>
            clear HC hown hb
            obtain ⟨k, c2, o3, hk, hc9, hC, hown, hb, rfl, rfl⟩ := hrel
            by_cases hp : 0 < c2
            · have hpl := hC.place lt1 lt2 hlt hp
              obtain ⟨d, hd⟩ : ∃ d, o3[k]? = some d := ⟨_, List.getElem?_eq_getElem (by have := hC.2.1; omega)⟩
              have hd1 := hC.1.at hd
              have hc0 := hown.cellAt hd
              have hf0 := hown.frozenAt k
              have HS := Lib.hid (hC.step hd)
              clear hd hC
              go_wp2
              go_roundw
              case rel => exact ⟨k + 1, (c2 + d) / 10000, _, by omega, by omega, HS.out, hown.stored' k ((c2 + d) % 10000) (by omega), hb.setCell (Nat.le_refl _) _, int_eq (by omega), by go_num⟩
              case measure => simp [intOf]; omega
            · obtain rfl : c2 = 0 := by omega
              have HO := hC.done
              clear hC
              go_wp2
              go_roundw
              case rel => exact ⟨i + 1, o3, by omega, HO, hown, hb, by go_num⟩
              case measure => simp [intOf]; omega
    · obtain rfl : i = l.length := by omega
      obtain ⟨g1, g2⟩ := hM.done
      have HV := Lib.hid g2
      have hol : o.length ≤ 1000000000000 := by have := hM.2.1; omega
      have hsz := hb.size
      clear g2 hM
      go_wp2_with fail
      refine (refTrim_any _ _ _ hown.isS g1 hol).mono ?_
      rintro e w' ⟨v2, rfl, hv, hf, hb2⟩
      go_wp2
      go_ret
      exact ⟨_, rfl, by rw [HV.out] at hv; exact hv, hf.mono hsz, hb.trans (hb2.mono hsz)⟩
theorem refMul_any (v u : Value) (x y : Nat) (w : World) (h : IsS w .i64 v (digs 10000 x)) (h' : IsS w .i64 u (digs 10000 y)) (hl : (digs 10000 x).length ≤ 1000000) (hl' : (digs 10000 y).length ≤ 1000000) :
    Calls Tryz.prog 31 #[v, u] w (RetS .i64 (digs 10000 (x * y)) w) := by
  have := refMul_list v u _ _ w h h' (digs_lt (by omega) x) (digs_lt (by omega) y) hl hl'
  rwa [val_digs (by omega), val_digs (by omega)] at this
end Go.Proofs.YtpcllhdfalebbaaGreatDoor.nat
namespace Go.Proofs.YtpcllhdfalebbaaGreatDoor.nat
open Go.RowKit Go.Proofs.YtpcllhdfalebbaaGreatDoor.num Go.Proofs.YtpcllhdfalebbaaGreatDoor.mem
set_option linter.unusedVariables false
theorem refCmp_at (v u : Value) (x y : Nat) (t : Int) (w : World) (h : IsS w .i64 v (digs 10000 x)) (h' : IsS w .i64 u (digs 10000 y)) (ht : t = ord x y) :
    Calls Tryz.prog 55 #[v, u] w (RetV (.int .i64 t) w) := by rw [ht]; exact refCmp_any v u x y w h h'
/-- What the search of a digit keeps. -/
def BS (y R lo hi : Nat) : Prop := y * lo ≤ R ∧ R < y * hi
theorem BS.done {y R lo : Nat} (h : BS y R lo (lo + 1)) : lo = R / y := by
  unfold BS at h
  obtain ⟨h1, h2⟩ := h
  have hy : 0 < y := by
    rcases Nat.eq_zero_or_pos y with h3 | h3
    · subst h3; omega
    · exact h3
  have h4 := Nat.div_lt_of_lt_mul h2
  have h5 := (Nat.le_div_iff_mul_le hy).2 (by rw [Nat.mul_comm]; exact h1)
  omega
theorem len_digit {y R : Nat} (h : R < 10000 * y) : (digs 10000 R).length ≤ (digs 10000 y).length + 1 := by
  refine digs_len_le (by omega) ?_
  have := digs_lt_pow (B := 10000) (by omega) y
  rw [Nat.pow_succ]; omega
set_option maxHeartbeats 3200000 in
theorem refDiv_list (v u : Value) (l : List Nat) (y : Nat) (w : World) (h : IsS w .i64 v l) (h' : IsS w .i64 u (digs 10000 y)) (lt1 : Lt 10000 l) (hl : l.length ≤ 100000) (hl' : (digs 10000 y).length ≤ 100000) (hy : 0 < y) :
    Calls Tryz.prog 49 #[v, u] w (RetSS .i64 (digs 10000 (val 10000 l / y)) (digs 10000 (val 10000 l % y)) w) := by
  obtain ⟨A, cA, rfl, hc, hm, hr⟩ := h
  go_enter Tryz.func49, Tryz.ntmps49
  go_wp2_with (at_make; refine wpList_make_rd rfl _ _ rfl sl33 l.length rfl rfl rfl rfl (by omega) (Nat.le_refl _) ?_; intro w1 hown1 hb1 hz1)
  go_loopw [7, 8] (fun vr vi wr => ∃ (k r : Nat) (o : List Nat), k ≤ l.length ∧ r < y ∧ DS l y k r o ∧ Own wr w.heap.size 3 .i64 (.slice (some ⟨w.heap.size, 0, none⟩) l.length l.length) o ∧ w.heap.size < wr.heap.size ∧ IsS wr .i64 vr (digs 10000 r) ∧ Fresh (w.heap.size + 1) vr ∧ Below w.heap.size w wr ∧ vi = .int .i64 ((k : Int) - 1)) (fun _ vi _ => (intOf vi + 1).toNat)
  case atStart => exact ⟨l.length, 0, _, by omega, hy, DS.start l hy, hown1.alloc _, by simp; omega, by rw [digs_zero]; exact (own_lit0 w1 w1.heap.size _ .i64 (Nat.le_refl _)).isS, fresh_at (by omega), hb1.trans (below_alloc (by omega) _), rfl⟩
  case round =>
    clear hown1 hb1 hz1
    obtain ⟨k, r, o, hk, hry, hD, hown, hz, hvr, hfr, hb, rfl⟩ := hrel
    obtain ⟨wo, rfl⟩ : ∃ wo : World, wo = wr := ⟨_, rfl⟩
    by_cases hp : 0 < k
    · obtain ⟨j, rfl⟩ : ∃ j, k = j + 1 := ⟨k - 1, by omega⟩
      obtain ⟨ad, a, rfl, ha, hcell⟩ := (hr.below hb).at_ (i := j) (by omega)
      have ha1 := lt1.at ha
      obtain ⟨R, hR⟩ : ∃ R, R = 10000 * r + a := ⟨_, rfl⟩
      have HD := hD.step ha ha1
      rw [← hR] at HD
      have HR := Lib.hid hR
      have hRy : R < 10000 * y := by omega
      have hlr := digs_len_mono (B := 10000) (by omega) (show r ≤ y by omega)
      have hlR := len_digit hRy
      obtain ⟨A2, c2, rfl, hc2, hm2, hr2⟩ := id hvr
      clear hR hD ha
      have hb0 : Below wo.heap.size wo (wo.alloc (.cells #[.int .i64 (a : Int)] 3)) := below_alloc (Nat.le_refl _) _
      go_wp2_with (at_builtin; refine wpList_append_rd rfl _ _ rfl sl33 rfl (own_lit1 (d := a) wo wo.heap.size _ .i64 rfl (Nat.le_refl _)) rfl (news := digs 10000 r) rfl (hr2.below hb0) (by simp; omega) (by simp) ?_; intro v' w1 hown1 hb1 hg1)
      have hb2 := hb0.trans hb1
      have hsz2 := hb2.size
      have hv1 := hown1.isS
      have hd1 : Lt 10000 ([a] ++ digs 10000 r) := (Lt.cons ha1 (Lt.nil _)).append (digs_lt (by omega) r)
      have he1 : val 10000 ([a] ++ digs 10000 r) = R := by rw [val_append, val_digs (by omega), HR.out]; simp [val]; omega
      have HE := Lib.hid he1
      clear he1
      refine (refTrim_any _ _ _ hv1 hd1 (by simp; omega)).mono ?_
      rintro e w2 ⟨v2, rfl, hv2, hf2, hb3⟩
      rw [HE.out] at hv2
      have hb4 := hb2.trans (hb3.mono hsz2)
      have hsz4 := hb4.size
      have hsz3 := hb3.size
      have hown2 := hown.below hb4
      have hf3 : Fresh (w.heap.size + 1) v2 := hf2.mono (by omega)
      have hb5 := hb.trans (hb4.mono (by omega))
      have hz5 : w.heap.size < w2.heap.size := by omega
      clear hb0 hb1 hg1 hown1 hv1 hd1 hb2 hb3 hb4 hf2 hr2 hvr hfr hcell hown HE hb
      go_wp2
      go_loopw [9, 10] (fun vlo vhi wr => ∃ (lo hi : Nat), lo < hi ∧ hi ≤ 10000 ∧ BS y R lo hi ∧ Below w2.heap.size w2 wr ∧ vlo = .int .i64 (lo : Int) ∧ vhi = .int .i64 (hi : Int)) (fun vlo vhi _ => (intOf vhi - intOf vlo).toNat)
      case atStart => exact ⟨0, 10000, by omega, by omega, by unfold BS; omega, Below.refl _ _, rfl, rfl⟩
      case round =>
        obtain ⟨lo, hi, hlh, hhi, hB, hbi, rfl, rfl⟩ := hrel
        have hszi := hbi.size
        have hui := h'.below (hb5.trans (hbi.mono (by omega)) |>.mono (by omega))
        have hvi := hv2.below hbi
        by_cases hgo : 1 < hi - lo
        · obtain ⟨mid, hmid⟩ : ∃ mid, mid = (lo + hi) / 2 := ⟨_, rfl⟩
          have hm1 : lo < mid := by omega
          have hm2 : mid < hi := by omega
          have hm3 : (lo + hi) / 2 ≤ mid := by omega
          have hm4 : mid ≤ (lo + hi) / 2 := by omega
          clear hmid
          go_wp2_with fail
          refine (mulAdd_any _ y _ _ mid 0 _ (by omega) rfl hui (by omega) (by omega) (by omega) (y * mid) (by omega)).mono ?_
          rintro e w3 ⟨v3, rfl, hv3, hf3', hb6⟩
          have hvi3 := hvi.below hb6
          have hsz6 := hb6.size
          by_cases hle : y * mid ≤ R
          · obtain ⟨t, ht⟩ : ∃ t, t = ord (y * mid) R := ⟨_, rfl⟩
            have ht0 : t ≤ 0 := by rw [ht]; exact ord_le0.2 hle
            have HT := Lib.hid ht
            have HB : BS y R mid hi := by unfold BS at hB ⊢; exact ⟨hle, hB.2⟩
            clear ht hB hle
            go_wp2_with fail
            refine (refCmp_at _ _ _ _ t _ hv3 hvi3 HT.out).mono ?_
            rintro e w4 ⟨rfl, hb7⟩
            go_wp2
            go_roundw
            case rel => exact ⟨mid, hi, by omega, by omega, HB, hbi.trans ((hb6.trans (hb7.mono hsz6)).mono hszi), int_eq (by omega), rfl⟩
            case measure => simp [intOf]; omega
          · obtain ⟨t, ht⟩ : ∃ t, t = ord (y * mid) R := ⟨_, rfl⟩
            have ht0 : 0 < t := by
              have := (ord_le0 (x := y * mid) (y := R)).1
              rw [ht]; omega
            have HT := Lib.hid ht
            have HB : BS y R lo mid := by unfold BS at hB ⊢; exact ⟨hB.1, by omega⟩
            clear ht hB hle
            go_wp2_with fail
            refine (refCmp_at _ _ _ _ t _ hv3 hvi3 HT.out).mono ?_
            rintro e w4 ⟨rfl, hb7⟩
            go_wp2
            go_roundw
            case rel => exact ⟨lo, mid, by omega, by omega, HB, hbi.trans ((hb6.trans (hb7.mono hsz6)).mono hszi), rfl, int_eq (by omega)⟩
            case measure => simp [intOf]; omega
        · obtain rfl : hi = lo + 1 := by omega
          have hq := hB.done
          clear hB
          have HQ := Lib.hid hq
          rw [← hq] at HD
          clear hq
          have hownI := hown2.below hbi
          obtain ⟨x, hx⟩ : ∃ x, o[j]? = some x := ⟨_, List.getElem?_eq_getElem (by have := HD.2.1; rw [List.length_set] at this; omega)⟩
          have hc0 := hownI.cellAt hx
          have hf0 := hownI.frozenAt j
          have hownS := hownI.stored j lo
          have hbS : Below w.heap.size w (wr.setCell ⟨w.heap.size, j, none⟩ (.int .i64 (lo : Int))) := (hb5.trans (hbi.mono (by omega))).setCell (Nat.le_refl _) _
          have hviS := hvi.setCell (p := ⟨w.heap.size, j, none⟩) hf3 (Nat.lt_succ_self _) (.int .i64 (lo : Int))
          have hrm : R % y < y := Nat.mod_lt _ hy
          have hszS : (wr.setCell ⟨w.heap.size, j, none⟩ (.int .i64 (lo : Int))).heap.size = wr.heap.size := by simp [World.setCell]
          have HSZ := Lib.hid hszS
          clear hx hszS hownI
          go_wp2_with fail
          refine (mulAdd_any _ y _ _ lo 0 _ (by omega) rfl (h'.below hbS) (by omega) (by omega) (by omega) (y * lo) (by omega)).mono ?_
          rintro e w3 ⟨v3, rfl, hv3, hf3', hb6⟩
          have hsz6 := hb6.size
          rw [HSZ.out] at hsz6
          go_wp2_with fail
          refine (refSub_any _ _ R (y * lo) _ (hviS.below hb6) hv3 (by omega) (by rw [HQ.out]; exact Nat.mul_div_le R y) (R % y) (by have := Nat.mod_add_div R y; rw [HQ.out]; omega)).mono ?_
          rintro e w4 ⟨v4, rfl, hv4, hf4, hb7⟩
          have hsz7 := hb7.size
          have hb8 := hbS.trans ((hb6.mono (by rw [HSZ.out]; omega)).trans (hb7.mono (by omega)))
          have hown4 := (hownS.below hb6).below hb7
          go_wp2
          go_roundw
          case rel => exact ⟨j, R % y, _, by omega, hrm, HD, hown4, by omega, hv4, hf4.mono (by omega), hb8, by go_num⟩
          case measure => simp [intOf]
    · obtain rfl : k = 0 := by omega
      obtain ⟨g1, g2, g3, g4⟩ := hD.done
      have H3 := Lib.hid g3
      have H4 := Lib.hid g4
      have hol : o.length ≤ 1000000000000 := by omega
      have hsz := hb.size
      clear g2 g3 g4 hD
      go_wp2_with fail
      refine (refTrim_any _ _ _ hown.isS g1 hol).mono ?_
      rintro e w' ⟨v2, rfl, hv, hf, hb2⟩
      go_wp2
      go_ret2
      exact ⟨_, _, rfl, by rw [H3.out] at hv; exact hv, by rw [← H4.out]; exact hvr.below hb2, hf.mono hsz, hfr.mono (by omega), hb.trans (hb2.mono hsz)⟩
theorem refDiv_any (v u : Value) (x y : Nat) (w : World) (h : IsS w .i64 v (digs 10000 x)) (h' : IsS w .i64 u (digs 10000 y)) (hl : (digs 10000 x).length ≤ 100000) (hl' : (digs 10000 y).length ≤ 100000) (hy : 0 < y) :
    Calls Tryz.prog 49 #[v, u] w (RetSS .i64 (digs 10000 (x / y)) (digs 10000 (x % y)) w) := by
  have := refDiv_list v u _ y w h h' (digs_lt (by omega) x) hl hl' hy
  rwa [val_digs (by omega)] at this
end Go.Proofs.YtpcllhdfalebbaaGreatDoor.nat
namespace Go.Proofs.YtpcllhdfalebbaaGreatDoor.limb
open Go.RowKit
set_option linter.unusedVariables false
set_option maxRecDepth 100000
def AddSpec (a b c s o : Int) : Prop := 0 ≤ s ∧ s < 4294967296 ∧ 0 ≤ o ∧ o ≤ 2 ∧ s + 4294967296 * o = a % 4294967296 + b % 4294967296 + c % 4294967296
def SubSpec (a b c s o : Int) : Prop := 0 ≤ s ∧ s < 4294967296 ∧ 0 ≤ o ∧ o ≤ 2 ∧ s - 4294967296 * o = a % 4294967296 - b % 4294967296 - c % 4294967296
def MulSpec (a b c d s o : Int) : Prop := 0 ≤ s ∧ s < 4294967296 ∧ 0 ≤ o ∧ o < 4294967296 ∧ s + 4294967296 * o = (a % 4294967296) * (b % 4294967296) + c % 4294967296 + d % 4294967296
theorem AddSpec.one {a b c s o s' o' : Int} (h : AddSpec a b c s o) (h' : AddSpec a b c s' o') : s' = s ∧ o' = o := by
  unfold AddSpec at h h'; omega
theorem SubSpec.one {a b c s o s' o' : Int} (h : SubSpec a b c s o) (h' : SubSpec a b c s' o') : s' = s ∧ o' = o := by
  unfold SubSpec at h h'; omega
theorem MulSpec.one {a b c d s o s' o' : Int} (h : MulSpec a b c d s o) (h' : MulSpec a b c d s' o') : s' = s ∧ o' = o := by
  unfold MulSpec at h h'; omega
theorem mul_bd (x y : Int) (hx : 0 ≤ x) (hx' : x ≤ 4294967295) (hy : 0 ≤ y) (hy' : y ≤ 4294967295) : 0 ≤ x * y ∧ x * y ≤ 18446744065119617025 := by
  refine ⟨Int.mul_nonneg hx hy, ?_⟩
  have := Int.mul_le_mul hx' hy' hy (by omega)
  omega
theorem low_any (a : Int) (h0 : 0 ≤ a) (h1 : a ≤ 18446744073709551615) (w : World) :
    Calls Tryz.prog 92 #[.int .u64 a] w fun e w' => e = .returned (.int .u64 (a % 4294967296)) ∧ w = w' := by
  go_enter Tryz.func92, Tryz.ntmps92
  go_wp2
  go_ret
  exact ⟨rfl, rfl⟩
theorem split_any (a : Int) (h0 : 0 ≤ a) (h1 : a ≤ 18446744073709551615) (w : World) :
    Calls Tryz.prog 91 #[.int .u64 a] w fun e w' => e = .returned (.tuple #[.int .u64 (a % 4294967296), .int .u64 (a / 4294967296)]) ∧ w = w' := by
  go_enter Tryz.func91, Tryz.ntmps91
  go_wp2
  go_ret2
  exact ⟨rfl, rfl⟩
theorem add_any (a b c : Int) (a0 : 0 ≤ a) (a1 : a ≤ 18446744073709551615) (b0 : 0 ≤ b) (b1 : b ≤ 18446744073709551615) (c0 : 0 ≤ c) (c1 : c ≤ 18446744073709551615) (w : World) :
    Calls Tryz.prog 64 #[.int .u64 a, .int .u64 b, .int .u64 c] w fun e w' =>
      ∃ s o, e = .returned (.tuple #[.int .u64 s, .int .u64 o]) ∧ AddSpec a b c s o ∧ w = w' := by
  go_enter Tryz.func64, Tryz.ntmps64
  go_wp2_with (first | (go_at_call 92; refine (low_any _ (by omega) (by omega) _).mono ?_; rintro e w' ⟨rfl, rfl⟩) | (go_at_call 91; refine (split_any _ (by omega) (by omega) _).mono ?_; rintro e w' ⟨rfl, rfl⟩))
  go_ret2
  exact ⟨_, _, rfl, by unfold AddSpec; omega, rfl⟩
theorem sub_any (a b c : Int) (a0 : 0 ≤ a) (a1 : a ≤ 18446744073709551615) (b0 : 0 ≤ b) (b1 : b ≤ 18446744073709551615) (c0 : 0 ≤ c) (c1 : c ≤ 18446744073709551615) (w : World) :
    Calls Tryz.prog 152 #[.int .u64 a, .int .u64 b, .int .u64 c] w fun e w' =>
      ∃ s o, e = .returned (.tuple #[.int .u64 s, .int .u64 o]) ∧ SubSpec a b c s o ∧ w = w' := by
  go_enter Tryz.func152, Tryz.ntmps152
  go_wp2_with (first | (go_at_call 92; refine (low_any _ (by omega) (by omega) _).mono ?_; rintro e w' ⟨rfl, rfl⟩))
  go_loop [8, 10] (fun x y => ∃ o : Int, 0 ≤ o ∧ o ≤ 2 ∧ a % 4294967296 + 4294967296 * o < b % 4294967296 + c % 4294967296 + 4294967296 ∧ x = .int .u64 (a % 4294967296 + 4294967296 * o) ∧ y = .int .u64 o) (fun x _ => (b % 4294967296 + c % 4294967296 - intOf x).toNat)
  case atStart => exact ⟨0, by omega, by omega, by omega, by simp, rfl⟩
  case round =>
    obtain ⟨o, o0, o1, ho, rfl, rfl⟩ := hrel
    by_cases hlt : a % 4294967296 + 4294967296 * o < b % 4294967296 + c % 4294967296
    · go_wp2
      go_round
      case rel => exact ⟨o + 1, by omega, by omega, by omega, by congr 1; omega, rfl⟩
      case measure => simp [intOf]; omega
    · go_wp2
      go_ret2
      exact ⟨_, _, rfl, by unfold SubSpec; omega, rfl⟩
theorem mul_any (a b c d : Int) (a0 : 0 ≤ a) (a1 : a ≤ 18446744073709551615) (b0 : 0 ≤ b) (b1 : b ≤ 18446744073709551615) (c0 : 0 ≤ c) (c1 : c ≤ 18446744073709551615) (d0 : 0 ≤ d) (d1 : d ≤ 18446744073709551615) (w : World) :
    Calls Tryz.prog 65 #[.int .u64 a, .int .u64 b, .int .u64 c, .int .u64 d] w fun e w' =>
      ∃ s o, e = .returned (.tuple #[.int .u64 s, .int .u64 o]) ∧ MulSpec a b c d s o ∧ w = w' := by
  have hm := mul_bd (a % 4294967296) (b % 4294967296) (by omega) (by omega) (by omega) (by omega)
  go_enter Tryz.func65, Tryz.ntmps65
  go_wp2_with (first | (go_at_call 92; refine (low_any _ (by omega) (by omega) _).mono ?_; rintro e w' ⟨rfl, rfl⟩) | (go_at_call 91; refine (split_any _ (by omega) (by omega) _).mono ?_; rintro e w' ⟨rfl, rfl⟩))
  go_ret2
  exact ⟨_, _, rfl, by unfold MulSpec; omega, rfl⟩
def BitsSpec (A : Int) (n : Nat) : Prop := A < 2 ^ n ∧ (n = 0 ∨ 2 ^ (n - 1) ≤ A)
def ZerosSpec (A : Int) (n : Nat) : Prop := n ≤ 32 ∧ A % 2 ^ n = 0 ∧ (n = 32 ∨ A / 2 ^ n % 2 = 1)
theorem pow_pos2 (n : Nat) : (0 : Int) < 2 ^ n := Int.pow_pos (by omega)
theorem pow_le {m n : Nat} (h : m ≤ n) : (2 : Int) ^ m ≤ 2 ^ n := by
  have h1 : (2 : Nat) ^ m ≤ 2 ^ n := Nat.pow_le_pow_right (by omega) h
  have h2 := Int.ofNat_le.2 h1
  simpa using h2
theorem BitsSpec.one {A : Int} {n m : Nat} (h : BitsSpec A n) (g : BitsSpec A m) : m = n := by
  unfold BitsSpec at h g
  rcases Nat.lt_trichotomy m n with h1 | h1 | h1
  · have := pow_le (show m ≤ n - 1 by omega); omega
  · exact h1
  · have := pow_le (show n ≤ m - 1 by omega); omega
theorem dvd_down {A : Int} {m n : Nat} (h : m < n) (hn : A % 2 ^ n = 0) : A / 2 ^ m % 2 = 0 := by
  obtain ⟨j, rfl⟩ : ∃ j, n = m + 1 + j := ⟨n - m - 1, by omega⟩
  obtain ⟨q, hq⟩ := Int.dvd_of_emod_eq_zero hn
  have e : A = 2 ^ m * (2 * (2 ^ j * q)) := by rw [hq, Int.pow_add, Int.pow_succ]; simp only [Int.mul_assoc]
  rw [e, Int.mul_ediv_cancel_left _ (by have := pow_pos2 m; omega)]; omega
theorem ZerosSpec.one {A : Int} {n m : Nat} (h : ZerosSpec A n) (g : ZerosSpec A m) : m = n := by
  unfold ZerosSpec at h g
  rcases Nat.lt_trichotomy m n with h1 | h1 | h1
  · have := dvd_down h1 h.2.1; omega
  · exact h1
  · have := dvd_down h1 g.2.1; omega
theorem mod_up {A : Int} {k : Nat} (h : A % 2 ^ k = 0) (h2 : A / 2 ^ k % 2 = 0) : A % 2 ^ (k + 1) = 0 := by
  obtain ⟨q, rfl⟩ := Int.dvd_of_emod_eq_zero h
  rw [Int.mul_ediv_cancel_left _ (by have := pow_pos2 k; omega)] at h2
  obtain ⟨r, rfl⟩ : ∃ r, q = 2 * r := ⟨q / 2, by omega⟩
  apply Int.emod_eq_zero_of_dvd
  exact ⟨r, by rw [Int.pow_succ, Int.mul_assoc]⟩
theorem ZerosSpec.low {a : Int} {n : Nat} (h : ZerosSpec a n) : ZerosSpec (a % 4294967296) n := by
  unfold ZerosSpec at h ⊢
  obtain ⟨h0, h1, h2⟩ := h
  obtain ⟨j, hj⟩ : ∃ j, 32 = n + j := ⟨32 - n, by omega⟩
  have e : (4294967296 : Int) = 2 ^ n * 2 ^ j := by rw [← Int.pow_add, ← hj]; decide
  have e2 : a = a % 4294967296 + 2 ^ n * (2 ^ j * (a / 4294967296)) := by rw [← Int.mul_assoc, ← e]; omega
  refine ⟨h0, ?_, ?_⟩
  · rw [e2, Int.add_mul_emod_self_left] at h1; exact h1
  · rcases h2 with h2 | h2
    · exact Or.inl h2
    · by_cases hn : n = 32
      · exact Or.inl hn
      · right
        obtain ⟨i, rfl⟩ : ∃ i, j = i + 1 := ⟨j - 1, by omega⟩
        rw [e2, Int.add_mul_ediv_left _ _ (by have := pow_pos2 n; omega), Int.pow_succ, Int.mul_comm (2 ^ i) 2, Int.mul_assoc] at h2
        omega
theorem bits_any (a : Int) (a0 : 0 ≤ a) (a1 : a ≤ 18446744073709551615) (w : World) :
    Calls Tryz.prog 148 #[.int .u64 a] w fun e w' => ∃ n : Nat, e = .returned (.int .i64 n) ∧ n ≤ 32 ∧ BitsSpec (a % 4294967296) n ∧ w = w' := by
  go_enter Tryz.func148, Tryz.ntmps148
  go_wp2_with (first | (go_at_call 92; refine (low_any _ (by omega) (by omega) _).mono ?_; rintro e w' ⟨rfl, rfl⟩))
  go_loop [6] (fun vk => ∃ k : Nat, k ≤ 32 ∧ (k = 0 ∨ 2 ^ (k - 1) ≤ a % 4294967296) ∧ vk = .int .i64 (k : Int)) (fun vk => 32 - (intOf vk).toNat)
  case atStart => exact ⟨0, by omega, by omega, rfl⟩
  case round =>
    obtain ⟨k, hk, hb, rfl⟩ := hrel
    have HB := Lib.hid hb
    clear hb
    by_cases hlt : k < 32
    · by_cases hz : (a % 4294967296 / 2 ^ k == 0) = true
      · go_wp2
        go_ret
        exact ⟨k, rfl, hk, ⟨by have := Int.lt_mul_ediv_self_add (x := a % 4294967296) (pow_pos2 k); rw [beq_iff_eq] at hz; rw [hz] at this; omega, HB.out⟩, rfl⟩
      · have hz' : (a % 4294967296 / 2 ^ k == 0) = false := by simpa using hz
        clear hz
        go_wp2
        go_round
        case rel =>
          refine ⟨k + 1, by omega, Or.inr ?_, by go_num⟩
          have h1 : ¬ a % 4294967296 / 2 ^ k = 0 := by simpa using hz'
          have h2 : 0 ≤ a % 4294967296 / 2 ^ k := Int.ediv_nonneg (by omega) (by have := pow_pos2 k; omega)
          have h3 : 1 ≤ a % 4294967296 / 2 ^ k := by omega
          have h4 := (Int.le_ediv_iff_mul_le (pow_pos2 k)).1 h3
          simpa using h4
        case measure => simp [intOf]; omega
    · go_wp2
      go_ret
      obtain rfl : k = 32 := by omega
      exact ⟨32, rfl, by omega, ⟨by have e : (2 : Int) ^ 32 = 4294967296 := by decide
                                    rw [e]; omega, HB.out⟩, rfl⟩
theorem zeros_any (a : Int) (a0 : 0 ≤ a) (a1 : a ≤ 18446744073709551615) (w : World) :
    Calls Tryz.prog 162 #[.int .u64 a] w fun e w' => ∃ n : Nat, e = .returned (.int .i64 n) ∧ n ≤ 32 ∧ ZerosSpec (a % 4294967296) n ∧ w = w' := by
  go_enter Tryz.func162, Tryz.ntmps162
  go_wp2_with (first | (go_at_call 92; refine (low_any _ (by omega) (by omega) _).mono ?_; rintro e w' ⟨rfl, rfl⟩))
  go_loop [6] (fun vk => ∃ k : Nat, k ≤ 32 ∧ (a % 4294967296 % 2 ^ k = 0) ∧ vk = .int .i64 (k : Int)) (fun vk => 32 - (intOf vk).toNat)
  case atStart => exact ⟨0, by omega, by omega, rfl⟩
  case round =>
    obtain ⟨k, hk, hb, rfl⟩ := hrel
    have HB := Lib.hid hb
    clear hb
    by_cases hlt : k < 32
    · have hand : bits BinOp.and IntKind.u64 (a % 4294967296 / 2 ^ k) 1 = a % 4294967296 / 2 ^ k % 2 := by
        have h0 : 0 ≤ a % 4294967296 / 2 ^ k := Int.ediv_nonneg (by omega) (by have := pow_pos2 k; omega)
        have h1 : a % 4294967296 / 2 ^ k ≤ a % 4294967296 := Int.ediv_le_self _ (by omega)
        exact and_one_u64 _ (by omega) (by omega)
      by_cases hz : a % 4294967296 / 2 ^ k % 2 = 1
      · have hz' : (bits BinOp.and IntKind.u64 (a % 4294967296 / 2 ^ k) 1 == 1) = true := by rw [hand, hz]; rfl
        have HZ := Lib.hid hz
        clear hz hand
        go_wp2
        go_ret
        exact ⟨k, rfl, hk, ⟨hk, HB.out, Or.inr HZ.out⟩, rfl⟩
      · have hz' : (bits BinOp.and IntKind.u64 (a % 4294967296 / 2 ^ k) 1 == 1) = false := by rw [hand]; simpa using hz
        have HZ := Lib.hid hz
        clear hz hand
        go_wp2
        go_round
        case rel => exact ⟨k + 1, by omega, mod_up HB.out (by have := HZ.out; omega), by go_num⟩
        case measure => simp [intOf]; omega
    · go_wp2
      go_ret
      obtain rfl : k = 32 := by omega
      exact ⟨32, rfl, by omega, ⟨by omega, HB.out, Or.inl rfl⟩, rfl⟩
end Go.Proofs.YtpcllhdfalebbaaGreatDoor.limb
namespace Go.Proofs.YtpcllhdfalebbaaGreatDoor.nat
open Go.RowKit Go.Proofs.YtpcllhdfalebbaaGreatDoor.num Go.Proofs.YtpcllhdfalebbaaGreatDoor.mem
set_option linter.unusedVariables false
set_option maxRecDepth 100000
theorem trimmed_digs (v : Value) (l : List Nat) (x : Nat) (w : World) (h : IsS w .u64 v l) (hlt : Lt 4294967296 l) (hx : x = val 4294967296 l) :
    Calls Tryz.prog 101 #[v] w (RetTr (digs 4294967296 x) v w) := by
  rw [hx, ← trim_digs (by omega) hlt]; exact trimmed_any v l w h
/-- Place i of the list, 0 behind it. -/
def AtD (l : List Nat) (i d : Nat) : Prop := l[i]? = some d ∨ l.length ≤ i ∧ d = 0
theorem AtD.of (l : List Nat) (i : Nat) : ∃ d, AtD l i d := by
  by_cases h : i < l.length
  · exact ⟨_, .inl (List.getElem?_eq_getElem h)⟩
  · exact ⟨0, .inr ⟨by omega, rfl⟩⟩
theorem AtD.lt {B : Nat} {l : List Nat} {i d : Nat} (h : AtD l i d) (hl : Lt B l) (hB : 0 < B) : d < B := by
  rcases h with h | ⟨_, rfl⟩
  · exact hl.at h
  · exact hB
set_option maxHeartbeats 400000 in
theorem at_any (v : Value) (l : List Nat) (iI : Int) (i d : Nat) (w : World) (hi : iI = (i : Int)) (h : IsS w .u64 v l) (hd : AtD l i d) :
    Calls Tryz.prog 153 #[v, .int .i64 iI] w fun e w' => e = .returned (.int .u64 (d : Int)) ∧ w' = w := by
  subst hi
  obtain ⟨A, c, rfl, hc, hm, hr⟩ := h
  unfold maxLen at hm
  rcases hd with hd | ⟨hd, rfl⟩
  · have hil : i < l.length := (List.getElem?_eq_some_iff.1 hd).1
    obtain ⟨ad, rfl, hcell⟩ := hr i d hd
    clear hd
    go_enter Tryz.func153, Tryz.ntmps153
    go_wp2
    go_ret
    exact ⟨rfl, rfl⟩
  · go_enter Tryz.func153, Tryz.ntmps153
    go_wp2
    go_ret
    exact ⟨rfl, rfl⟩
set_option maxHeartbeats 400000 in
theorem cmpInt_any (a b : Int) (x y : Nat) (t : Int) (w : World) (ha : a = (x : Int)) (hb : b = (y : Int)) (ht : t = ord x y) :
    Calls Tryz.prog 99 #[.int .i64 a, .int .i64 b] w fun e w' => e = .returned (.int .i64 t) ∧ w' = w := by
  subst ha; subst hb
  have z1 : ((x : Int) != (x : Int)) = false := by simp
  have z2 : ((y : Int) != (y : Int)) = false := by simp
  rcases Nat.lt_trichotomy x y with h | h | h
  · rw [ord_lt h] at ht; subst ht
    go_enter Tryz.func99, Tryz.ntmps99
    go_wp2
    go_ret
    exact ⟨rfl, rfl⟩
  · subst h; rw [ord_eq] at ht; subst ht
    go_enter Tryz.func99, Tryz.ntmps99
    go_wp2
    go_ret
    exact ⟨rfl, rfl⟩
  · rw [ord_gt h] at ht; subst ht
    go_enter Tryz.func99, Tryz.ntmps99
    go_wp2
    go_ret
    exact ⟨rfl, rfl⟩
set_option maxHeartbeats 400000 in
theorem cmpU_any (a b : Int) (x y : Nat) (t : Int) (w : World) (ha : a = (x : Int)) (hb : b = (y : Int)) (ht : t = ord x y) :
    Calls Tryz.prog 100 #[.int .u64 a, .int .u64 b] w fun e w' => e = .returned (.int .i64 t) ∧ w' = w := by
  subst ha; subst hb
  have z1 : ((x : Int) != (x : Int)) = false := by simp
  have z2 : ((y : Int) != (y : Int)) = false := by simp
  rcases Nat.lt_trichotomy x y with h | h | h
  · rw [ord_lt h] at ht; subst ht
    go_enter Tryz.func100, Tryz.ntmps100
    go_wp2
    go_ret
    exact ⟨rfl, rfl⟩
  · subst h; rw [ord_eq] at ht; subst ht
    go_enter Tryz.func100, Tryz.ntmps100
    go_wp2
    go_ret
    exact ⟨rfl, rfl⟩
  · rw [ord_gt h] at ht; subst ht
    go_enter Tryz.func100, Tryz.ntmps100
    go_wp2
    go_ret
    exact ⟨rfl, rfl⟩
set_option maxHeartbeats 400000 in
theorem of_any (nI : Int) (n : Nat) (w : World) (hn : nI = (n : Int)) (n1 : nI ≤ 18446744073709551615) :
    Calls Tryz.prog 79 #[.int .u64 nI] w (RetS .u64 (digs 4294967296 n) w) := by
  subst hn
  go_enter Tryz.func79, Tryz.ntmps79
  go_wp2_with fail
  refine (trimmed_digs _ [n % 4294967296, n / 4294967296] n _ (own_lit2 w w.heap.size _ .u64 (by omega) (by omega) (Nat.le_refl _)).isS (Lt.cons (by omega) (Lt.cons (by omega) (Lt.nil _))) (by simp [val]; omega)).mono ?_
  rintro e w' ⟨v', rfl, hv, hf, rfl⟩
  go_wp2
  go_ret
  exact ⟨_, rfl, hv, hf _ (fresh_at (Nat.le_refl _)), below_alloc (Nat.le_refl _) _⟩
end Go.Proofs.YtpcllhdfalebbaaGreatDoor.nat
namespace Go.Proofs.YtpcllhdfalebbaaGreatDoor.nat
open Go.RowKit Go.Proofs.YtpcllhdfalebbaaGreatDoor.num Go.Proofs.YtpcllhdfalebbaaGreatDoor.mem
set_option linter.unusedVariables false
set_option maxRecDepth 100000
/-- What Cmp's loop keeps while k limbs are still to come. -/
def CR (x y k : Nat) (t : Int) : Prop := (t = 0 → (digs 4294967296 x).length = (digs 4294967296 y).length ∧ (digs 4294967296 x).drop k = (digs 4294967296 y).drop k) ∧ (¬ t = 0 → t = ord x y)
theorem CR.start (x y : Nat) : CR x y (digs 4294967296 x).length (ord (digs 4294967296 x).length (digs 4294967296 y).length) := by
  unfold CR
  constructor
  · intro h
    have e := ord_zero.1 h
    exact ⟨e, by rw [List.drop_length, List.drop_of_length_le (by omega)]⟩
  · intro h
    rcases Nat.lt_trichotomy (digs 4294967296 x).length (digs 4294967296 y).length with h1 | h1 | h1
    · rw [ord_lt h1, ord_lt (len_lt_ord (by omega) h1)]
    · exact absurd (ord_zero.2 h1) h
    · rw [ord_gt h1, ord_gt (len_lt_ord (by omega) h1)]
theorem CR.step {x y j d e : Nat} (h : CR x y (j + 1) 0) (hd : (digs 4294967296 x)[j]? = some d) (he : (digs 4294967296 y)[j]? = some e) : CR x y j (ord d e) := by
  unfold CR at h ⊢
  obtain ⟨h1, h2⟩ := h.1 rfl
  constructor
  · intro h3
    have e3 := ord_zero.1 h3
    subst e3
    exact ⟨h1, drop_step hd he h2⟩
  · intro h3
    rcases Nat.lt_trichotomy d e with h4 | h4 | h4
    · have := at_lt_val (digs_lt (by omega) x) (digs_lt (by omega) y) h1 hd he h2 h4
      rw [val_digs (by omega), val_digs (by omega)] at this
      rw [ord_lt h4, ord_lt this]
    · exact absurd (ord_zero.2 h4) h3
    · have := at_lt_val (digs_lt (by omega) y) (digs_lt (by omega) x) h1.symm he hd h2.symm h4
      rw [val_digs (by omega), val_digs (by omega)] at this
      rw [ord_gt h4, ord_gt this]
theorem CR.done {x y k : Nat} {t : Int} (h : CR x y k t) (hk : k = 0 ∨ ¬ t = 0) : t = ord x y := by
  unfold CR at h
  by_cases h0 : t = 0
  · obtain ⟨_, h2⟩ := h.1 h0
    rcases hk with rfl | hk
    · rw [List.drop_zero, List.drop_zero] at h2
      have e := congrArg (val 4294967296) h2
      rw [val_digs (by omega), val_digs (by omega)] at e
      rw [h0, e, ord_eq]
    · exact absurd h0 hk
  · exact h.2 h0
set_option maxHeartbeats 800000 in
theorem cmp_any (v u : Value) (x y : Nat) (t : Int) (w : World) (h : IsS w .u64 v (digs 4294967296 x)) (h' : IsS w .u64 u (digs 4294967296 y)) (ht : t = ord x y) :
    Calls Tryz.prog 78 #[v, u] w (RetV (.int .i64 t) w) := by
  have HT := Lib.hid ht
  clear ht
  have lt1 := digs_lt (B := 4294967296) (by omega) x
  have lt2 := digs_lt (B := 4294967296) (by omega) y
  obtain ⟨A, c, rfl, hc, hm, hr⟩ := h
  obtain ⟨A', c', rfl, hc', hmm, hr'⟩ := h'
  unfold maxLen at hm hmm
  obtain ⟨t0, ht0⟩ : ∃ t0, t0 = ord (digs 4294967296 x).length (digs 4294967296 y).length := ⟨_, rfl⟩
  have hcr := CR.start x y
  rw [← ht0] at hcr
  have HT0 := Lib.hid ht0
  have htb := ord_bd (digs 4294967296 x).length (digs 4294967296 y).length
  rw [← ht0] at htb
  clear ht0
  go_enter Tryz.func78, Tryz.ntmps78
  go_wp2_with fail
  refine (cmpInt_any _ _ _ _ t0 _ rfl rfl HT0.out).mono ?_
  rintro e w' ⟨rfl, rfl⟩
  go_wp2
  go_loopw [5, 6] (fun vo vi wr => ∃ (k : Nat) (q : Int), k ≤ (digs 4294967296 x).length ∧ CR x y k q ∧ Below w'.heap.size w' wr ∧ vo = .int .i64 q ∧ vi = .int .i64 ((k : Int) - 1)) (fun _ vi _ => (intOf vi + 1).toNat)
  case atStart => exact ⟨_, t0, Nat.le_refl _, hcr, Below.refl _ _, rfl, rfl⟩
  case round =>
    clear hcr
    obtain ⟨k, q, hk, hC, hb, rfl, rfl⟩ := hrel
    by_cases hq : q = 0
    · subst hq
      by_cases hlt : 0 < k
      · obtain ⟨j, rfl⟩ : ∃ j, k = j + 1 := ⟨k - 1, by omega⟩
        have hlen : (digs 4294967296 x).length ≤ (digs 4294967296 y).length := by have := (hC.1 rfl).1; omega
        obtain ⟨ad, d, rfl, hd, hcell⟩ := (hr.below hb).at_ (i := j) (by omega)
        obtain ⟨ad', e, rfl, he, hcell'⟩ := (hr'.below hb).at_ (i := j) (by omega)
        have HC := hC.step hd he
        obtain ⟨t1, ht1⟩ : ∃ t1, t1 = ord d e := ⟨_, rfl⟩
        rw [← ht1] at HC
        have HT1 := Lib.hid ht1
        clear hd he ht1 hC
        go_wp2
        go_quiet ((go_at_call 100; exact Calls.quiet_of_same (cmpU_any _ _ d e t1 _ rfl rfl HT1.out)))
        go_wp2
        go_roundw
        case rel => exact ⟨j, t1, by omega, HC, below_drewN hb _, rfl, by go_num⟩
        case measure => simp [intOf]
      · have HE : Hid ((0 : Int) = t) := by have := hC.done (.inl (by omega)); show _ = _; rw [this, HT.out]
        go_wp2
        go_ret
        exact ⟨by rw [← HE.out]; rfl, hb⟩
    · have HE : Hid (q = t) := by have := hC.done (.inr hq); show _ = _; rw [this, HT.out]
      have hqb : (q == 0) = false := by rw [beq_eq_false_iff_ne]; exact hq
      clear hq
      by_cases hlt : 0 < k
      · go_wp2
        go_ret
        exact ⟨by rw [← HE.out]; rfl, hb⟩
      · go_wp2
        go_ret
        exact ⟨by rw [← HE.out]; rfl, hb⟩
end Go.Proofs.YtpcllhdfalebbaaGreatDoor.nat
namespace Go.Proofs.YtpcllhdfalebbaaGreatDoor.nat
open Go.RowKit Go.Proofs.YtpcllhdfalebbaaGreatDoor.num Go.Proofs.YtpcllhdfalebbaaGreatDoor.mem Go.Proofs.YtpcllhdfalebbaaGreatDoor.limb
set_option linter.unusedVariables false
set_option maxRecDepth 100000
theorem two_cast (n : Nat) : ((2 ^ n : Nat) : Int) = (2 : Int) ^ n := by simp
theorem pow32 (n : Nat) : (4294967296 : Nat) ^ n = 2 ^ (32 * n) := by rw [Nat.pow_mul]
theorem BitsSpec.nat {d n : Nat} (hd : d < 4294967296) (h : BitsSpec ((d : Int) % 4294967296) n) : d < 2 ^ n ∧ (n = 0 ∨ 2 ^ (n - 1) ≤ d) := by
  unfold BitsSpec at h
  rw [show (d : Int) % 4294967296 = (d : Int) from by omega, ← two_cast, ← two_cast] at h
  omega
/-- The bits of a number: those of its last limb, and 32 for each one ahead of it. -/
theorem nbits_top {x n d b : Nat} (hn : (digs 4294967296 x).length = n + 1) (hd : (digs 4294967296 x)[n]? = some d) (h : BitsSpec ((d : Int) % 4294967296) b) : nbits x = n * 32 + b := by
  have hd0 := digs_last (by omega) x hn hd
  have hd1 := (digs_lt (by omega) x).at hd
  obtain ⟨h1, h2⟩ := BitsSpec.nat hd1 h
  have hb : b ≠ 0 := by rintro rfl; simp at h1; omega
  obtain ⟨c, rfl⟩ : ∃ c, b = c + 1 := ⟨b - 1, by omega⟩
  have h3 : 2 ^ c ≤ d := by simpa using h2
  have e := val_take_step (B := 4294967296) hd
  have hlow := val_lt ((digs_lt (B := 4294967296) (by omega) x).take n)
  rw [show ((digs 4294967296 x).take n).length = n from by simp; omega] at hlow
  rw [← hn, List.take_length, val_digs (by omega)] at e
  rw [pow32] at e hlow
  have e1 := Nat.mul_le_mul_left (2 ^ (32 * n)) h3
  have e2 := Nat.mul_le_mul_left (2 ^ (32 * n)) h1
  rw [← Nat.pow_add] at e1 e2
  rw [Nat.mul_succ] at e2
  rw [show n * 32 + (c + 1) = (32 * n + c) + 1 from by omega]
  refine nbits_of ?_ ?_
  · rw [show 32 * n + c + 1 = 32 * n + (c + 1) from by omega]; omega
  · omega
set_option maxHeartbeats 400000 in
theorem bits_any (v : Value) (x b : Nat) (w : World) (h : IsS w .u64 v (digs 4294967296 x)) (hl : (digs 4294967296 x).length ≤ 1000000) (hb : b = nbits x) :
    Calls Tryz.prog 159 #[v] w fun e w' => e = .returned (.int .i64 (b : Int)) ∧ w = w' := by
  have hlt := digs_lt (B := 4294967296) (by omega) x
  have HB := Lib.hid hb
  clear hb
  obtain ⟨A, c, rfl, hc, hm, hr⟩ := h
  by_cases hl0 : 0 < (digs 4294967296 x).length
  · have hne : ¬ digs 4294967296 x = [] := by intro e; rw [e] at hl0; simp at hl0
    have hlb : (((digs 4294967296 x).length : Int) == 0) = false := by rw [beq_eq_false_iff_ne]; omega
    obtain ⟨ad, d, rfl, hd, hcell⟩ := hr.at_ (i := (digs 4294967296 x).length - 1) (by omega)
    have hd1 := hlt.at hd
    have HT : Hid (∀ k, BitsSpec ((d : Int) % 4294967296) k → nbits x = ((digs 4294967296 x).length - 1) * 32 + k) := fun k hk => nbits_top (by omega) hd hk
    clear hd
    go_enter Tryz.func159, Tryz.ntmps159
    go_wp2_with fail
    refine (limb.bits_any _ (by omega) (by omega) _).mono ?_
    rintro e w' ⟨n, rfl, hn, hs, rfl⟩
    have HS := Lib.hid hs
    clear hs
    go_wp2
    go_ret
    refine ⟨?_, rfl⟩
    have e1 := HT.out n HS.out
    have e2 := HB.out
    show Ending.returned (.int .i64 _) = .returned (.int .i64 _)
    rw [show (((digs 4294967296 x).length : Int) - 1) * 32 + (n : Int) = (b : Int) from by omega]
  · have hz : (digs 4294967296 x).length = 0 := by omega
    have hx : x = 0 := (digs_len0 (by omega)).1 hz
    have HZ : Hid (b = 0) := by have := HB.out; rw [hx, nbits_zero] at this; exact this
    rw [hx, digs_zero] at hr ⊢
    clear hl0 hz hx hl hlt hc
    go_enter Tryz.func159, Tryz.ntmps159
    go_wp2
    go_ret
    exact ⟨by rw [HZ.out]; rfl, rfl⟩
theorem tz_shift (k : Nat) {y : Nat} (hy : 0 < y) : tz (2 ^ k * y) = k + tz y := by
  induction k with
  | zero => simp
  | succ k ih =>
    have e : 2 ^ (k + 1) * y = 2 * (2 ^ k * y) := by rw [Nat.pow_succ, Nat.mul_comm (2 ^ k) 2, Nat.mul_assoc]
    have hp : 0 < 2 ^ k * y := Nat.mul_pos (Nat.pow_pos (by omega)) hy
    rw [e, tz_even (by omega) (by omega), Nat.mul_div_cancel_left _ (by omega), ih]; omega
theorem ZerosSpec.nat {d z : Nat} (hd : d < 4294967296) (hd0 : d ≠ 0) (h : ZerosSpec ((d : Int) % 4294967296) z) : z < 32 ∧ d % 2 ^ z = 0 ∧ d / 2 ^ z % 2 = 1 := by
  unfold ZerosSpec at h
  rw [show (d : Int) % 4294967296 = (d : Int) from by omega, ← two_cast] at h
  obtain ⟨h1, h2, h3⟩ := h
  have h2' : d % 2 ^ z = 0 := by exact_mod_cast h2
  have hz : z ≠ 32 := by
    rintro rfl
    rw [show (2 : Nat) ^ 32 = 4294967296 from by decide] at h2'
    omega
  refine ⟨by omega, h2', ?_⟩
  rcases h3 with h3 | h3
  · exact absurd h3 hz
  · have h4 : ((d / 2 ^ z % 2 : Nat) : Int) = 1 := by rw [Int.natCast_emod, Int.natCast_ediv]; exact h3
    omega
/-- The lowest bits of a number: those of its first limb that is not 0, and 32 for each one ahead of it. -/
theorem tz_first {x k d z : Nat} (h0 : val 4294967296 ((digs 4294967296 x).take k) = 0) (hd : (digs 4294967296 x)[k]? = some d) (hd0 : d ≠ 0) (h : ZerosSpec ((d : Int) % 4294967296) z) : tz x = k * 32 + z := by
  have hd1 := (digs_lt (by omega) x).at hd
  obtain ⟨h1, h2, h3⟩ := ZerosSpec.nat hd1 hd0 h
  have hk : k < (digs 4294967296 x).length := (List.getElem?_eq_some_iff.1 hd).1
  obtain ⟨r, hr⟩ : ∃ r, r = val 4294967296 ((digs 4294967296 x).drop (k + 1)) := ⟨_, rfl⟩
  have e : x = 2 ^ (32 * k) * (d + 4294967296 * r) := by
    have e1 := val_digs (B := 4294967296) (by omega) x
    rw [← List.take_append_drop k (digs 4294967296 x), val_append, h0, val_drop_step hd, ← hr, show ((digs 4294967296 x).take k).length = k from by simp; omega, pow32] at e1
    omega
  obtain ⟨j, hj⟩ : ∃ j, 32 = z + (j + 1) := ⟨31 - z, by omega⟩
  have e32 : (4294967296 : Nat) = 2 ^ z * 2 ^ (j + 1) := by rw [← Nat.pow_add, ← hj]
  have et : tz (d + 4294967296 * r) = z := by
    rw [e32, Nat.mul_assoc]
    refine tz_of ?_ ?_
    · rw [Nat.add_mul_mod_self_left]; exact h2
    · rw [Nat.add_mul_div_left _ _ (Nat.pow_pos (by omega)), Nat.pow_succ, Nat.mul_comm (2 ^ j) 2, Nat.mul_assoc]; omega
  rw [e, tz_shift _ (by omega), et]; omega
set_option maxHeartbeats 400000 in
theorem zeros_any (v : Value) (x b : Nat) (w : World) (h : IsS w .u64 v (digs 4294967296 x)) (hl : (digs 4294967296 x).length ≤ 1000000) (hb : b = tz x) :
    Calls Tryz.prog 145 #[v] w fun e w' => e = .returned (.int .i64 (b : Int)) ∧ w = w' := by
  have hlt := digs_lt (B := 4294967296) (by omega) x
  have HB := Lib.hid hb
  clear hb
  obtain ⟨A, c, rfl, hc, hm, hr⟩ := h
  go_enter Tryz.func145, Tryz.ntmps145
  go_wp2
  go_loop [7] (fun vn => ∃ n : Nat, n ≤ (digs 4294967296 x).length ∧ Hid (val 4294967296 ((digs 4294967296 x).take n) = 0) ∧ vn = .int .i64 (n : Int)) (fun vn => (digs 4294967296 x).length - (intOf vn).toNat)
  case atStart => exact ⟨0, Nat.zero_le _, by show _ = _; simp [val], rfl⟩
  case round =>
    obtain ⟨k, hk, hV, rfl⟩ := hrel
    by_cases hp : k < (digs 4294967296 x).length
    · obtain ⟨ad, d, rfl, hd, hcell⟩ := hr.at_ hp
      have hd1 := hlt.at hd
      by_cases hd0 : d = 0
      · subst hd0
        have HN : Hid (val 4294967296 ((digs 4294967296 x).take (k + 1)) = 0) := by show _ = _; rw [val_take_step hd, hV.out]; rfl
        clear hd
        go_wp2
        go_round
        case rel => exact ⟨k + 1, by omega, HN, by go_num⟩
        case measure => simp [intOf]; omega
      · have hz : ((d : Int) == 0) = false := by rw [beq_eq_false_iff_ne]; omega
        have hz2 : ((d : Int) != 0) = true := by rw [bne_iff_ne]; omega
        have HT : Hid (∀ z, ZerosSpec ((d : Int) % 4294967296) z → tz x = k * 32 + z) := fun z hz => tz_first hV.out hd hd0 hz
        clear hd hd0
        go_wp2_with fail
        refine (limb.zeros_any _ (by omega) (by omega) _).mono ?_
        rintro e w' ⟨n, rfl, hn, hs, rfl⟩
        have HS := Lib.hid hs
        clear hs
        go_wp2
        go_ret
        refine ⟨?_, rfl⟩
        have e1 := HT.out n HS.out
        have e2 := HB.out
        show Ending.returned (.int .i64 _) = .returned (.int .i64 _)
        rw [show (k : Int) * 32 + (n : Int) = (b : Int) from by omega]
    · have HZ : Hid (b = 0) := by
        have h1 := hV.out
        rw [List.take_of_length_le (by omega), val_digs (by omega)] at h1
        have := HB.out; rw [h1, tz_zero] at this; exact this
      go_wp2
      go_ret
      exact ⟨by rw [HZ.out]; rfl, rfl⟩
theorem nbits_big {x : Nat} : 63 < nbits x ↔ 9223372036854775808 ≤ x := by
  constructor
  · intro h
    have h1 := nbits_le (x := x) (by
      rcases Nat.eq_zero_or_pos x with h0 | h0
      · rw [h0, nbits_zero] at h; omega
      · exact h0)
    have h2 : (2 : Nat) ^ 63 ≤ 2 ^ (nbits x - 1) := Nat.pow_le_pow_right (by omega) (by omega)
    have h3 : (2 : Nat) ^ 63 = 9223372036854775808 := by decide
    omega
  · intro h
    rcases Nat.lt_or_ge 63 (nbits x) with h1 | h1
    · exact h1
    · have h2 := nbits_lt (x := x)
      have h3 : (2 : Nat) ^ nbits x ≤ 2 ^ 63 := Nat.pow_le_pow_right (by omega) h1
      have h4 : (2 : Nat) ^ 63 = 9223372036854775808 := by decide
      omega
theorem at_digs0 (x : Nat) : AtD (digs 4294967296 x) 0 (x % 4294967296) := by
  rcases Nat.eq_zero_or_pos x with h | h
  · subst h; exact .inr ⟨by rw [digs_zero]; simp, rfl⟩
  · left; rw [digs_pos (by omega) h]; rfl
theorem at_digs1 (x : Nat) : AtD (digs 4294967296 x) 1 (x / 4294967296 % 4294967296) := by
  rcases Nat.eq_zero_or_pos x with h | h
  · subst h; exact .inr ⟨by rw [digs_zero]; simp, rfl⟩
  · rcases at_digs0 (x / 4294967296) with h1 | ⟨h1, h2⟩
    · left; rw [digs_pos (by omega) h]; exact h1
    · right; exact ⟨by rw [digs_pos (by omega) h]; simpa using h1, h2⟩
set_option maxHeartbeats 400000 in
theorem small_yes (v : Value) (x : Nat) (w : World) (h : IsS w .u64 v (digs 4294967296 x)) (hl : (digs 4294967296 x).length ≤ 1000000) (hx : nbits x ≤ 63) :
    Calls Tryz.prog 141 #[v] w fun e w' => e = .returned (.tuple #[.int .u64 (x : Int), .bool true]) ∧ w = w' := by
  have hx2 : x < 9223372036854775808 := by have := (nbits_big (x := x)).2; omega
  have HX := Lib.hid hx2
  obtain ⟨d0, hd0⟩ : ∃ d, d = x % 4294967296 := ⟨_, rfl⟩
  obtain ⟨d1, hd1⟩ : ∃ d, d = x / 4294967296 % 4294967296 := ⟨_, rfl⟩
  have ha0 := at_digs0 x
  have ha1 := at_digs1 x
  rw [← hd0] at ha0
  rw [← hd1] at ha1
  have b0 : (d0 : Int) ≤ 4294967295 := by omega
  have b1 : (d1 : Int) ≤ 2147483647 := by omega
  have he : (d0 : Int) + (d1 : Int) * 4294967296 = (x : Int) := by omega
  have HE := Lib.hid he
  clear hd0 hd1 he hx2
  go_enter Tryz.func141, Tryz.ntmps141
  go_wp2_with fail
  refine (bits_any _ x _ _ h hl rfl).mono ?_
  rintro e w' ⟨rfl, rfl⟩
  go_wp2_with fail
  refine (at_any _ _ _ 0 d0 _ rfl h ha0).mono ?_
  rintro e w' ⟨rfl, rfl⟩
  go_wp2_with fail
  refine (at_any _ _ _ 1 d1 _ rfl h ha1).mono ?_
  rintro e w' ⟨rfl, rfl⟩
  go_wp2
  go_ret2
  rw [← HE.out]
  exact ⟨rfl, rfl⟩
end Go.Proofs.YtpcllhdfalebbaaGreatDoor.nat
namespace Go.Proofs.YtpcllhdfalebbaaGreatDoor.nat
open Go.RowKit Go.Proofs.YtpcllhdfalebbaaGreatDoor.num Go.Proofs.YtpcllhdfalebbaaGreatDoor.mem Go.Proofs.YtpcllhdfalebbaaGreatDoor.limb
set_option linter.unusedVariables false
set_option maxRecDepth 100000
theorem fresh_nil (B : Nat) : Fresh B (.slice none 0 0) := fun ad n c e => by injection e with e _ _; injection e
theorem take_set_step {o : List Nat} {k s : Nat} (hk : k < o.length) : (o.set k s).take (k + 1) = o.take k ++ [s] := by
  rw [take_step (l := o.set k s) (d := s) (List.getElem?_set_self hk), List.take_set_of_le (Nat.le_refl _)]
set_option maxHeartbeats 800000 in
theorem sub_ok (v u : Value) (x y : Nat) (w : World) (h : IsS w .u64 v (digs 4294967296 x)) (h' : IsS w .u64 u (digs 4294967296 y)) (hl : (digs 4294967296 x).length ≤ 1000000) (hxy : y ≤ x) (z : Nat) (hz : z = x - y) :
    Calls Tryz.prog 125 #[v, u] w (RetSI .u64 (digs 4294967296 z) 0 w) := by
  obtain ⟨t, ht⟩ : ∃ t, t = ord x y := ⟨_, rfl⟩
  have ht0 : ¬ t < 0 := by rw [ht, ord_lt0]; omega
  have HO := Lib.hid ht
  have HZ := Lib.hid hz
  have HXY := Lib.hid hxy
  clear ht hz hxy
  have lt1 := digs_lt (B := 4294967296) (by omega) x
  have lt2 := digs_lt (B := 4294967296) (by omega) y
  have hv := h
  obtain ⟨A, c, rfl, hc, hm, hr⟩ := h
  go_enter Tryz.func125, Tryz.ntmps125
  go_wp2_with fail
  refine (cmp_any _ _ _ _ t _ hv h' HO.out).mono ?_
  rintro e w1 ⟨rfl, hb1⟩
  have hsz1 := hb1.size
  go_wp2_with (at_make; refine wpList_make_rd rfl _ _ rfl sl24 (digs 4294967296 x).length rfl rfl rfl rfl (by omega) (Nat.le_refl _) ?_; intro w2 hown2 hb2 hz2)
  go_loopw [7, 19] (fun vc vi wr => ∃ (k cy : Nat) (o : List Nat), k ≤ (digs 4294967296 x).length ∧ cy ≤ 1 ∧ o.length ≤ (digs 4294967296 x).length ∧ (digs 4294967296 x).length ≤ o.length ∧ SB 4294967296 (digs 4294967296 x) (digs 4294967296 y) k cy (o.take k) ∧ Own wr w1.heap.size 60 .u64 (.slice (some ⟨w1.heap.size, 0, none⟩) (digs 4294967296 x).length (digs 4294967296 x).length) o ∧ Below w1.heap.size w1 wr ∧ vc = .int .u64 (cy : Int) ∧ vi = .int .i64 (k : Int)) (fun _ vi _ => (digs 4294967296 x).length - (intOf vi).toNat)
  case atStart => exact ⟨0, 0, List.replicate (digs 4294967296 x).length 0, by omega, by omega, by simp, by simp, SB.start _ _ _, hown2, hb2, rfl, rfl⟩
  case round =>
    clear hown2 hb2 hz2
    obtain ⟨k, cy, o, hk, hcy, ho1, ho2, hS, hown, hb, rfl, rfl⟩ := hrel
    have hsz := hb.size
    by_cases hp : k < (digs 4294967296 x).length
    · obtain ⟨ad, d, rfl, hd, hcell⟩ := ((hr.below hb1).below hb).at_ hp
      have hd1 := lt1.at hd
      obtain ⟨e, he⟩ := AtD.of (digs 4294967296 y) k
      have he1 := he.lt lt2 (by omega)
      obtain ⟨a', ha'⟩ : ∃ a', o[k]? = some a' := ⟨_, List.getElem?_eq_getElem (by omega)⟩
      have hc' := hown.cellAt ha'
      have hf' := hown.frozenAt k
      have HS : Hid (∀ s c', s < 4294967296 → s + e + cy = d + 4294967296 * c' → SB 4294967296 (digs 4294967296 x) (digs 4294967296 y) (k + 1) c' ((o.set k s).take (k + 1))) := by
        intro s c' hs heq
        rw [take_set_step (by omega)]
        exact hS.step hd he hs heq
      have HE := Lib.hid he
      clear hd ha' he hS
      go_wp2_with fail
      refine (at_any _ _ _ k e _ rfl ((h'.below hb1).below hb) HE.out).mono ?_
      rintro e' w3 ⟨rfl, rfl⟩
      go_wp2_with fail
      refine (limb.sub_any _ _ _ (by omega) (by omega) (by omega) (by omega) (by omega) (by omega) _).mono ?_
      rintro e' w4 ⟨s, c2, rfl, H, rfl⟩
      unfold SubSpec at H
      obtain ⟨s0, s1, c0, c1, heq⟩ := H
      obtain ⟨s, rfl⟩ := Int.eq_ofNat_of_zero_le s0
      obtain ⟨c2, rfl⟩ := Int.eq_ofNat_of_zero_le c0
      have HQ : Hid (s + e + cy = d + 4294967296 * c2) := by show _ = _; omega
      have c3 : c2 ≤ 1 := by omega
      clear heq
      go_wp2
      go_roundw
      case rel => exact ⟨k + 1, c2, o.set k s, by omega, c3, by simpa using ho1, by simpa using ho2, HS.out s c2 (by omega) HQ.out, hown.stored k s, hb.setCell (Nat.le_refl _) _, rfl, by go_num⟩
      case measure => simp [intOf]; omega
    · obtain rfl : k = (digs 4294967296 x).length := by omega
      have hml := digs_len_mono (B := 4294967296) (by omega) HXY.out
      rw [List.take_of_length_le ho1] at hS
      obtain ⟨g1, g2⟩ := hS.done hml (by rw [val_digs (by omega), val_digs (by omega)]; exact HXY.out)
      rw [val_digs (by omega), val_digs (by omega)] at g2
      have HV : Hid (z = val 4294967296 o) := by show _ = _; rw [g2]; exact HZ.out
      clear g2 hS
      go_wp2_with fail
      refine (trimmed_digs _ o z _ hown.isS g1 HV.out).mono ?_
      rintro e w' ⟨v', rfl, hv', hf, rfl⟩
      go_wp2
      go_ret2
      exact ⟨_, rfl, hv', (hf _ (fresh_at (Nat.le_refl _))).mono hsz1, hb1.trans (hb.mono hsz1)⟩
/-- What raised keeps behind k rounds. -/
def RA (l : List Nat) (n k up : Nat) (o : List Nat) : Prop := Lt 4294967296 o ∧ o.length = k ∧ val 4294967296 o + 4294967296 ^ k * up = val 4294967296 (l.take k) * 2 ^ n
theorem RA.start (l : List Nat) (n : Nat) : RA l n 0 0 [] := by unfold RA; exact ⟨Lt.nil _, rfl, by simp [val]⟩
theorem RA.step {l o : List Nat} {n k up d s c : Nat} (h : RA l n k up o) (hd : l[k]? = some d) (hs : s < 4294967296) (he : s + 4294967296 * c = d * 2 ^ n + up) : RA l n (k + 1) c (o ++ [s]) := by
  unfold RA at h ⊢
  obtain ⟨h1, h2, h3⟩ := h
  refine ⟨h1.snoc hs, by simp [h2], ?_⟩
  rw [val_snoc, h2, val_take_step hd, Nat.add_mul, ← h3, Nat.pow_succ, Nat.mul_assoc, Nat.mul_assoc, Nat.add_assoc, ← Nat.mul_add, he, Nat.mul_add]; omega
theorem RA.done {l o : List Nat} {n up : Nat} (h : RA l n l.length up o) (hu : up < 4294967296) : Lt 4294967296 (o ++ [up]) ∧ (o ++ [up]).length = l.length + 1 ∧ val 4294967296 (o ++ [up]) = val 4294967296 l * 2 ^ n := by
  unfold RA at h
  obtain ⟨h1, h2, h3⟩ := h
  rw [List.take_length] at h3
  exact ⟨h1.snoc hu, by simp [h2], by rw [val_snoc, h2]; exact h3⟩
/-- raised ends with a new slice of one limb more, times 2 to the n. -/
def RetRa (x n len : Nat) (w : World) (e : Ending) (w' : World) : Prop := ∃ v r, e = .returned v ∧ IsS w' .u64 v r ∧ Lt 4294967296 r ∧ r.length = len + 1 ∧ val 4294967296 r = x * 2 ^ n ∧ Fresh w.heap.size v ∧ Below w.heap.size w w'
set_option maxHeartbeats 800000 in
theorem raised_any (v : Value) (x : Nat) (nI : Int) (n : Nat) (w : World) (hn : nI = (n : Int)) (h : IsS w .u64 v (digs 4294967296 x)) (hl : (digs 4294967296 x).length ≤ 1000000) (hn31 : n ≤ 31) :
    Calls Tryz.prog 165 #[v, .int .i64 nI] w (RetRa x n (digs 4294967296 x).length w) := by
  subst hn
  have lt1 := digs_lt (B := 4294967296) (by omega) x
  obtain ⟨p, hp⟩ : ∃ p, p = 2 ^ n := ⟨_, rfl⟩
  have hpb : p ≤ 2147483648 := by rw [hp]; exact Nat.pow_le_pow_right (j := 31) (by omega) hn31
  have HP := Lib.hid hp
  have hw : IntKind.u64.wrap ((2 : Int) ^ n) = (p : Int) := by
    rw [← two_cast, ← hp, IntKind.wrap_u64]; omega
  clear hp
  obtain ⟨A, c, rfl, hc, hm, hr⟩ := h
  go_enter Tryz.func165, Tryz.ntmps165
  go_wp2_with (at_make; refine wpList_make_rd rfl _ _ rfl sl24 ((digs 4294967296 x).length + 1) rfl rfl (by omega) (by omega) (by omega) (Nat.le_refl _) ?_; intro w2 hown2 hb2 hz2)
  go_loopw [6, 15] (fun vc vi wr => ∃ (k cy : Nat) (o : List Nat), k ≤ (digs 4294967296 x).length ∧ cy < 4294967296 ∧ o.length ≤ (digs 4294967296 x).length + 1 ∧ (digs 4294967296 x).length + 1 ≤ o.length ∧ RA (digs 4294967296 x) n k cy (o.take k) ∧ Own wr w.heap.size 60 .u64 (.slice (some ⟨w.heap.size, 0, none⟩) ((digs 4294967296 x).length + 1) ((digs 4294967296 x).length + 1)) o ∧ Below w.heap.size w wr ∧ vc = .int .u64 (cy : Int) ∧ vi = .int .i64 (k : Int)) (fun _ vi _ => (digs 4294967296 x).length - (intOf vi).toNat)
  case atStart => exact ⟨0, 0, List.replicate ((digs 4294967296 x).length + 1) 0, by omega, by omega, by simp, by simp, RA.start _ _, hown2, hb2, rfl, rfl⟩
  case round =>
    clear hown2 hb2 hz2
    obtain ⟨k, cy, o, hk, hcy, ho1, ho2, hS, hown, hb, rfl, rfl⟩ := hrel
    have hsz := hb.size
    by_cases hp : k < (digs 4294967296 x).length
    · obtain ⟨ad, d, rfl, hd, hcell⟩ := (hr.below hb).at_ hp
      have hd1 := lt1.at hd
      obtain ⟨a', ha'⟩ : ∃ a', o[k]? = some a' := ⟨_, List.getElem?_eq_getElem (by omega)⟩
      have hc' := hown.cellAt ha'
      have hf' := hown.frozenAt k
      have HS : Hid (∀ s c', s < 4294967296 → s + 4294967296 * c' = d * 2 ^ n + cy → RA (digs 4294967296 x) n (k + 1) c' ((o.set k s).take (k + 1))) := by
        intro s c' hs heq
        rw [take_set_step (by omega)]
        exact hS.step hd hs heq
      have hpo : d * p ≤ 4294967295 * 2147483648 := Nat.mul_le_mul (by omega) hpb
      clear hd ha' hS
      go_wp2_with fail
      refine (limb.mul_any _ _ _ _ (by omega) (by omega) (by omega) (by omega) (by omega) (by omega) (by omega) (by omega) _).mono ?_
      rintro e' w4 ⟨s, c2, rfl, H, rfl⟩
      unfold MulSpec at H
      rw [show (d : Int) % 4294967296 = (d : Int) from by omega, show (p : Int) % 4294967296 = (p : Int) from by omega] at H
      obtain ⟨s0, s1, c0, c1, heq⟩ := H
      obtain ⟨s, rfl⟩ := Int.eq_ofNat_of_zero_le s0
      obtain ⟨c2, rfl⟩ := Int.eq_ofNat_of_zero_le c0
      have HQ : Hid (s + 4294967296 * c2 = d * 2 ^ n + cy) := by
        show _ = _
        rw [← HP.out]
        have e1 : ((d * p : Nat) : Int) = (d : Int) * (p : Int) := by simp
        rw [← e1] at heq
        omega
      clear heq hpo
      go_wp2
      go_roundw
      case rel => exact ⟨k + 1, c2, o.set k s, by omega, by omega, by simpa using ho1, by simpa using ho2, HS.out s c2 (by omega) HQ.out, hown.stored k s, hb.setCell (Nat.le_refl _) _, rfl, by go_num⟩
      case measure => simp [intOf]; omega
    · obtain rfl : k = (digs 4294967296 x).length := by omega
      obtain ⟨a', ha'⟩ : ∃ a', o[(digs 4294967296 x).length]? = some a' := ⟨_, List.getElem?_eq_getElem (by omega)⟩
      have hc' := hown.cellAt ha'
      have hf' := hown.frozenAt (digs 4294967296 x).length
      obtain ⟨g1, g2, g3⟩ := hS.done hcy
      rw [← take_set_step (by omega), List.take_of_length_le (by rw [List.length_set]; exact ho1)] at g1 g2 g3
      rw [val_digs (by omega)] at g3
      have hown' := hown.stored (digs 4294967296 x).length cy
      have hb' : Below w.heap.size w (wr.setCell ⟨w.heap.size, (digs 4294967296 x).length, none⟩ (.int .u64 (cy : Int))) := hb.setCell (Nat.le_refl _) _
      have G2 := Lib.hid g2
      have G3 := Lib.hid g3
      clear g2 g3 hS ha'
      go_wp2
      go_ret
      exact ⟨_, _, rfl, hown'.isS, g1, G2.out, G3.out, hown'.fresh, hb'⟩
end Go.Proofs.YtpcllhdfalebbaaGreatDoor.nat
namespace Go.Proofs.YtpcllhdfalebbaaGreatDoor.mem
open Go.RowKit
set_option linter.unusedVariables false
set_option maxRecDepth 100000
/-- A slice cut at its head. -/
theorem Rd.drop {w : World} {A : Option Addr} {k : IntKind} {l : List Nat} (h : Rd w A k l) (n : Nat) : Rd w (A.map (·.add n)) k (l.drop n) := by
  intro i d hd
  rw [List.getElem?_drop] at hd
  obtain ⟨ad, rfl, hc⟩ := h _ d hd
  refine ⟨ad.add n, rfl, ?_⟩
  have e : (ad.add n).add i = ad.add (n + i) := by
    unfold Addr.add
    by_cases hn : n = 0 <;> by_cases hi : i = 0 <;> simp [hn, hi, Nat.add_assoc]
  rw [e]; exact hc
theorem Rd.isDrop {w : World} {A : Option Addr} {k : IntKind} {l : List Nat} (h : Rd w A k l) {n c : Nat} (hc : l.length ≤ c) (hm : c ≤ maxLen) (hn : n ≤ l.length) : IsS w k (.slice (A.map fun x => x.add n) (l.length - n) (c - n)) (l.drop n) :=
  ⟨_, _, by rw [List.length_drop], by rw [List.length_drop]; omega, by omega, h.drop n⟩
theorem isEmpty_ {w : World} {A : Option Addr} {k : IntKind} {l : List Nat} {n m c : Nat} (hm : m = 0) (hl : l.length ≤ n) (hc : c ≤ maxLen) : IsS w k (.slice A m c) (l.drop n) := by
  rw [List.drop_of_length_le hl, hm]
  exact ⟨_, _, rfl, by simp, hc, Rd.nil⟩
theorem Fresh.drop {B : Nat} {A : Option Addr} {n c : Nat} (h : Fresh B (.slice A n c)) (i m d : Nat) : Fresh B (.slice (A.map fun x => x.add i) m d) := by
  intro ad n' c' e
  rcases A with _ | a
  · injection e with e _ _; cases e
  · injection e with e _ _
    injection e with e
    subst e
    rw [block_add]; exact h a _ _ rfl
theorem Fresh.cut {B : Nat} {A : Option Addr} {n c : Nat} (h : Fresh B (.slice A n c)) (m d : Nat) : Fresh B (.slice A m d) := by
  rintro ad n' c' e
  injection e with e _ _
  subst e; exact h ad _ _ rfl
end Go.Proofs.YtpcllhdfalebbaaGreatDoor.mem
namespace Go.Proofs.YtpcllhdfalebbaaGreatDoor.nat
open Go.RowKit Go.Proofs.YtpcllhdfalebbaaGreatDoor.num Go.Proofs.YtpcllhdfalebbaaGreatDoor.mem Go.Proofs.YtpcllhdfalebbaaGreatDoor.limb
set_option linter.unusedVariables false
set_option maxRecDepth 100000
theorem step_append_rd {P : Program} {w : World} {ops : Array Oper} {o : Oper} {a : Act} {K : Act → World → Prop} {Q : Exit → Act → World → Prop} {E : Prop} (hgd : o.guard = none) (s x : Operand) {t : TypeId}
    (ho : o.op = .call { callee := .builtin .append, args := #[s, x], argTypes := #[t, t] })
    {base : Nat} {e : TypeId} {k : IntKind} (hT : SliceT P t e k) {v : Value} {l news : List Nat} (hs : a.eval s = v) (hown : Own w base e k v l) {A : Option Addr} {m c : Nat} (hx : a.eval x = .slice A m c) (hm : m = news.length) (hr : Rd w A k news)
    (hlen : l.length + m ≤ 10000000000000) (hbase : base ≤ w.heap.size)
    (h : ∀ v' w', Own w' base e k v' (l ++ news) → Below base w w' → K (a.put o.dst v') w') :
    if Region.wanted o (yielded ops a.tmps) = true then Oper.wp P o a w K Q else E := by
  have hw : Region.wanted o (yielded ops a.tmps) = true := by simp [Region.wanted, hgd]
  rw [if_pos hw]
  exact wp_append_rd s x ho hT hs hown hx hm hr hlen hbase fun v' w' h1 h2 => h v' w' h1 ((Below.refl base w).grown h2 hbase hown.base_le)
theorem run_make24 (n : Nat) (hn : n ≤ 10000000000000) (w : World) :
    (Instr.makeSlice 23 (.int .i64 (n : Int)) (.int .i64 (n : Int))).run Tryz.prog w = .ok (.slice (some ⟨w.heap.size, 0, none⟩) n n) (w.alloc (.cells (madeCells #[.int .u64 0] n) 60)) := by
  obtain ⟨i, hi, hz, hs, hb⟩ := sl24.info
  have h := run_make (P := Tryz.prog) w 23 60 i (.int .u64 0) sl24.und hi hz .i64 .i64 n n (by omega) (Int.le_refl _) (by rw [hb]; omega) (by omega)
  rw [hs, Nat.mul_one] at h
  simp only [Int.toNat_natCast] at h
  exact h
set_option maxHeartbeats 1600000 in
theorem shl_ok (v : Value) (x : Nat) (nI : Int) (n : Nat) (w : World) (hn : nI = (n : Int)) (h : IsS w .u64 v (digs 4294967296 x)) (hl : (digs 4294967296 x).length ≤ 1000000) (hn2 : n ≤ 100000) (y : Nat) (hy : y = x * 2 ^ n) :
    Calls Tryz.prog 163 #[v, .int .i64 nI] w (RetSI .u64 (digs 4294967296 y) 0 w) := by
  subst hn
  obtain ⟨q, hq⟩ : ∃ q, q = n / 32 := ⟨_, rfl⟩
  obtain ⟨r, hr⟩ : ∃ r, r = n % 32 := ⟨_, rfl⟩
  have hmk := run_make24 q (by omega)
  have hn0 : (0 : Int) ≤ (n : Int) := by omega
  have hn3 : (n : Int) ≤ 100000 := by omega
  have e1 : IntKind.i64.wrap ((n : Int) / 32) = (q : Int) := by rw [IntWalk.i64_in _ (by omega)]; omega
  have e2 : ((n : Int)).tmod 32 = (r : Int) := by rw [Int.tmod_eq_emod_of_nonneg (by omega)]; omega
  have hqb : q ≤ 3125 := by omega
  have hrb : r ≤ 31 := by omega
  have HQ := Lib.hid hq
  have HR := Lib.hid hr
  have HY := Lib.hid hy
  have HV : Hid (∀ m : List Nat, val 4294967296 m = x * 2 ^ r → y = val 4294967296 (List.replicate q 0 ++ m)) := by
    intro m hm
    rw [val_append, val_rep, hm, List.length_replicate, pow32, HY.out, Nat.zero_add, Nat.mul_left_comm, ← Nat.pow_add]
    congr 2; omega
  have HL : Hid (∀ m : List Nat, Lt 4294967296 m → Lt 4294967296 (List.replicate q 0 ++ m)) := fun m hm => (Lt.rep (by omega) q).append hm
  clear hq hr hy
  go_enter Tryz.func163, Tryz.ntmps163
  go_wp2
  go_region_law (first
    | (refine step_append_rd rfl (.tmp 14) (.tmp 18) rfl sl24 (by rfl) (base := w.heap.size) (l := List.replicate q 0) (by first | exact own_made w2 w.heap.size _ .u64 q hsz2 (by unfold maxLen; omega) | exact Own.below (w := (w.alloc _).drew) (own_made w w.heap.size _ .u64 q (Nat.le_refl _) (by unfold maxLen; omega)) hb2) (by rfl) (news := r2) rfl (by first | exact hr2 | exact hr2.below (below_alloc (Nat.le_refl _) _)) (by simp; omega) (by first | exact hsz2 | exact Nat.le_trans hsz2 (by simp)) ?_; intro v' w4 hown4 hb4)
    | (go_simp; go_at_call 165; refine (raised_any _ x _ r _ rfl (by first | exact h | exact h.below ((below_alloc (Nat.le_refl _) _).drew)) hl hrb).mono ?_; rintro e w2 ⟨v2, r2, rfl, hv2, hlt2, hlen2, hval2, hf2, hb2⟩; obtain ⟨A2, c2, rfl, hc2, hm2, hr2⟩ := hv2; have hlb : r2.length ≤ 1000001 := (by omega); have HV2 := Lib.hid hval2; have hsz2 : w.heap.size ≤ w2.heap.size := (by have h0 := hb2.size; first | exact h0 | exact Nat.le_trans (by simp) h0); clear hlen2 hval2)
    | (go_simp; go_at_call 101; refine (trimmed_digs _ _ y _ hown4.isS (HL.out _ hlt2) (HV.out _ HV2.out)).mono ?_; rintro e w3 ⟨v3, rfl, hv3, hf3, rfl⟩))
  all_goals
    go_wp2
    go_ret2
    refine ⟨_, rfl, hv3, hf3 _ hown4.fresh, ?_⟩
    first
    | exact ((below_alloc (Nat.le_refl _) _).drew.trans (hb2.mono (by simp))).trans hb4
    | exact (((Below.refl _ w).drew.trans hb2).alloc hsz2 _).trans hb4
theorem val_drop_div {B : Nat} (hB : 2 ≤ B) {l : List Nat} (h : Lt B l) (n : Nat) : val B (l.drop n) = val B l / B ^ n := by
  by_cases hn : n ≤ l.length
  · have h1 := val_append B (l.take n) (l.drop n)
    have h2 := val_lt (h.take n)
    rw [List.take_append_drop] at h1
    rw [show (l.take n).length = n from by simp; omega] at h1 h2
    rw [h1, Nat.add_mul_div_left _ _ (Nat.pow_pos (by omega)), Nat.div_eq_of_lt h2, Nat.zero_add]
  · rw [List.drop_of_length_le (by omega), val_nil]
    have h2 := val_lt h
    have h3 := Nat.pow_le_pow_right (n := B) (by omega) (show l.length ≤ n by omega)
    rw [Nat.div_eq_of_lt (by omega)]
theorem shr_val {x n g : Nat} (hg : n ≤ g * 32) : x * 2 ^ (g * 32 - n) / 4294967296 ^ g = x / 2 ^ n := by
  have e : (4294967296 : Nat) ^ g = 2 ^ n * 2 ^ (g * 32 - n) := by rw [pow32, ← Nat.pow_add]; congr 1; omega
  rw [e, Nat.mul_div_mul_right _ _ (Nat.pow_pos (by omega))]
set_option maxHeartbeats 800000 in
theorem shr_ok (v : Value) (x : Nat) (nI : Int) (n : Nat) (w : World) (hn : nI = (n : Int)) (h : IsS w .u64 v (digs 4294967296 x)) (hl : (digs 4294967296 x).length ≤ 1000000) (hn2 : n ≤ 100000) (y : Nat) (hy : y = x / 2 ^ n) :
    Calls Tryz.prog 150 #[v, .int .i64 nI] w (RetSI .u64 (digs 4294967296 y) 0 w) := by
  subst hn
  have HY : Hid (y = x * 2 ^ ((n + 31) / 32 * 32 - n) / 4294967296 ^ ((n + 31) / 32)) := by show _ = _; rw [hy, shr_val (by omega)]
  clear hy
  go_enter Tryz.func150, Tryz.ntmps150
  go_wp2_with fail
  refine (raised_any _ x _ ((n + 31) / 32 * 32 - n) _ (by omega) h hl (by omega)).mono ?_
  rintro e w2 ⟨v2, r2, rfl, hv2, hlt2, hlen2, hval2, hf2, hb2⟩
  obtain ⟨A2, c2, rfl, hc2, hm2, hr2⟩ := hv2
  have hlb : r2.length ≤ 1000001 := by omega
  have HV : Hid (y = val 4294967296 (r2.drop ((n + 31) / 32))) := by show _ = _; rw [val_drop_div (by omega) hlt2, hval2]; exact HY.out
  have hlt3 := hlt2.drop ((n + 31) / 32)
  clear hlen2 hval2
  have hm3 := hm2
  unfold maxLen at hm2
  by_cases hgl : (n + 31) / 32 ≤ r2.length
  · go_wp2_with fail
    all_goals
      refine (trimmed_digs _ (r2.drop ((n + 31) / 32)) y _ (by first | exact hr2.isDrop hc2 hm3 hgl | exact isEmpty_ (by omega) (by omega) (by omega)) hlt3 HV.out).mono ?_
      rintro e w3 ⟨v3, rfl, hv3, hf3, rfl⟩
      go_wp2
      go_ret2
      exact ⟨_, rfl, hv3, hf3 _ (by first | exact hf2.drop _ _ _ | exact hf2.cut _ _), hb2⟩
  · go_wp2_with fail
    all_goals
      refine (trimmed_digs _ (r2.drop ((n + 31) / 32)) y _ (isEmpty_ (by omega) (by omega) (by omega)) hlt3 HV.out).mono ?_
      rintro e w3 ⟨v3, rfl, hv3, hf3, rfl⟩
      go_wp2
      go_ret2
      exact ⟨_, rfl, hv3, hf3 _ (by first | exact hf2.drop _ _ _ | exact hf2.cut _ _), hb2⟩
end Go.Proofs.YtpcllhdfalebbaaGreatDoor.nat
namespace Go.Proofs.YtpcllhdfalebbaaGreatDoor.nat
open Go.RowKit Go.Proofs.YtpcllhdfalebbaaGreatDoor.num Go.Proofs.YtpcllhdfalebbaaGreatDoor.mem Go.Proofs.YtpcllhdfalebbaaGreatDoor.limb
set_option linter.unusedVariables false
set_option maxRecDepth 100000
/-- The last limb is not 0. -/
def NZ (o : List Nat) : Prop := ∀ d, o[o.length - 1]? = some d → d ≠ 0
theorem NZ.trim {o : List Nat} (h : NZ o) : num.trim o = o := by
  by_cases hl : 0 < o.length
  · obtain ⟨d, hd⟩ : ∃ d, o[o.length - 1]? = some d := ⟨_, List.getElem?_eq_getElem (by omega)⟩
    have := trim_of_take hd (h d hd)
    rwa [show o.length - 1 + 1 = o.length from by omega, List.take_length] at this
  · obtain rfl : o = [] := List.length_eq_zero_iff.1 (by omega)
    rfl
theorem NZ.digs (x : Nat) : NZ (num.digs 4294967296 x) := by
  intro d hd
  have hl : (num.digs 4294967296 x).length - 1 < (num.digs 4294967296 x).length := (List.getElem?_eq_some_iff.1 hd).1
  exact digs_last (by omega) x (by omega) hd
/-- What onto keeps at place i. -/
def OT (x : Nat) (m : List Nat) (i up : Nat) (o : List Nat) : Prop :=
  Lt 4294967296 o ∧ val 4294967296 o + 4294967296 ^ i * up = x + val 4294967296 (m.take i) ∧ i ≤ o.length ∧ (NZ o ∨ (o.length = i ∧ (0 < up ∨ i < m.length)))
/-- What it keeps once place i is there. -/
def PR (x : Nat) (m : List Nat) (i up : Nat) (o : List Nat) : Prop :=
  Lt 4294967296 o ∧ val 4294967296 o + 4294967296 ^ i * up = x + val 4294967296 (m.take i) ∧ i < o.length ∧ ((i + 1 < o.length ∧ NZ o) ∨ (i + 1 = o.length ∧ ((∀ s, o[i]? = some s → s ≠ 0) ∨ 0 < up ∨ i < m.length)))
theorem OT.start (x : Nat) (m : List Nat) : OT x m 0 0 (num.digs 4294967296 x) := by
  unfold OT
  exact ⟨digs_lt (by omega) x, by rw [val_digs (by omega)]; simp [val], by omega, .inl (NZ.digs x)⟩
theorem OT.there {x i up : Nat} {m o : List Nat} (h : OT x m i up o) (hi : i < o.length) : PR x m i up o := by
  unfold OT at h; unfold PR
  obtain ⟨h1, h2, h3, h4⟩ := h
  have hz : NZ o := by
    rcases h4 with h4 | ⟨h4, _⟩
    · exact h4
    · omega
  refine ⟨h1, h2, hi, ?_⟩
  by_cases hl : i + 1 < o.length
  · exact .inl ⟨hl, hz⟩
  · refine .inr ⟨by omega, .inl fun s hs => hz s ?_⟩
    rw [show o.length - 1 = i from by omega]; exact hs
theorem OT.append {x up : Nat} {m o : List Nat} (h : OT x m o.length up o) (hc : 0 < up ∨ o.length < m.length) : PR x m o.length up (o ++ [0]) := by
  unfold OT at h; unfold PR
  obtain ⟨h1, h2, h3, h4⟩ := h
  refine ⟨h1.snoc (by omega), by rw [val_snoc]; omega, by simp, .inr ⟨by simp, .inr hc⟩⟩
theorem PR.step {x i up s e t up' : Nat} {m o : List Nat} (h : PR x m i up o) (hm : NZ m) (hs : o[i]? = some s) (he : AtD m i e) (ht : t < 4294967296) (heq : t + 4294967296 * up' = s + e + up) : OT x m (i + 1) up' (o.set i t) := by
  unfold PR at h; unfold OT
  obtain ⟨h1, h2, h3, h4⟩ := h
  have ee : val 4294967296 (m.take (i + 1)) = val 4294967296 (m.take i) + 4294967296 ^ i * e := by
    rcases he with he | ⟨he, rfl⟩
    · exact val_take_step he
    · rw [val_take_over he]; omega
  have hv := val_set (B := 4294967296) hs t
  refine ⟨h1.set ht i, ?_, by simp; omega, ?_⟩
  · rw [ee, Nat.pow_succ, Nat.mul_assoc]
    have e1 : 4294967296 ^ i * t + 4294967296 ^ i * (4294967296 * up') = 4294967296 ^ i * s + 4294967296 ^ i * e + 4294967296 ^ i * up := by
      rw [← Nat.mul_add, ← Nat.mul_add, ← Nat.mul_add, heq]
    omega
  · rcases h4 with ⟨h4, h5⟩ | ⟨h4, h5⟩
    · left
      intro d hd
      rw [List.length_set, List.getElem?_set_ne (by omega)] at hd
      exact h5 d hd
    · by_cases hu : 0 < up'
      · exact .inr ⟨by simp; omega, .inl hu⟩
      · by_cases ht0 : t = 0
        · right
          refine ⟨by simp; omega, .inr ?_⟩
          have hs0 : s = 0 := by omega
          have hu0 : up = 0 := by omega
          have he0 : e = 0 := by omega
          have him : i < m.length := by
            rcases h5 with h5 | h5 | h5
            · exact absurd hs0 (h5 s hs)
            · omega
            · exact h5
          rcases he with he | ⟨he, _⟩
          · by_cases hl : i + 1 < m.length
            · exact hl
            · exact absurd he0 (hm e (by rw [show m.length - 1 = i from by omega]; exact he))
          · omega
        · left
          intro d hd
          rw [List.length_set, show o.length - 1 = i from by omega, List.getElem?_set_self h3] at hd
          injection hd with hd
          omega
theorem val_take_le (B : Nat) (l : List Nat) (n : Nat) : val B (l.take n) ≤ val B l := by
  have := val_append B (l.take n) (l.drop n)
  rw [List.take_append_drop] at this; omega
theorem OT.bound {x y i up : Nat} {o : List Nat} (h : OT x (num.digs 4294967296 y) i up o) (hu : 0 < up) : i ≤ (num.digs 4294967296 x).length + (num.digs 4294967296 y).length := by
  unfold OT at h
  obtain ⟨h1, h2, h3, h4⟩ := h
  rcases Nat.lt_or_ge ((num.digs 4294967296 x).length + (num.digs 4294967296 y).length) i with h5 | h5
  · exfalso
    have a1 := digs_lt_pow (B := 4294967296) (by omega) x
    have a2 := digs_lt_pow (B := 4294967296) (by omega) y
    have a3 := val_take_le 4294967296 (num.digs 4294967296 y) i
    rw [val_digs (by omega)] at a3
    obtain ⟨L, hL⟩ : ∃ L, L = (num.digs 4294967296 x).length + (num.digs 4294967296 y).length := ⟨_, rfl⟩
    have b1 := Nat.pow_le_pow_right (n := 4294967296) (by omega) (show (num.digs 4294967296 x).length ≤ L by omega)
    have b2 := Nat.pow_le_pow_right (n := 4294967296) (by omega) (show (num.digs 4294967296 y).length ≤ L by omega)
    have b3 := Nat.pow_le_pow_right (n := 4294967296) (by omega) (show L + 1 ≤ i by omega)
    have b4 := Nat.mul_le_mul_left (4294967296 ^ i) hu
    rw [Nat.pow_succ] at b3
    omega
  · exact h5
theorem OT.done {x y i : Nat} {o : List Nat} (h : OT x (num.digs 4294967296 y) i 0 o) (hi : (num.digs 4294967296 y).length ≤ i) : o = num.digs 4294967296 (x + y) := by
  unfold OT at h
  obtain ⟨h1, h2, h3, h4⟩ := h
  rw [List.take_of_length_le hi, val_digs (by omega)] at h2
  have hz : NZ o := by
    rcases h4 with h4 | ⟨_, h4⟩
    · exact h4
    · omega
  have e := trim_digs (by omega) h1
  rw [hz.trim] at e
  have e2 : val 4294967296 o = x + y := by omega
  rw [e2] at e; exact e
/-- The call ends with the row of the call's own that was handed in, or a longer one. -/
def RetOn (w0 : World) (l : List Nat) (e : Ending) (w' : World) : Prop := ∃ v, e = .returned v ∧ Own w' w0.heap.size 60 .u64 v l ∧ Below w0.heap.size w0 w'
attribute [local go_sem ↓] Go.wp_at_zero Go.wp_at_succ
set_option maxHeartbeats 3200000 in
theorem onto_any (w0 : World) (v u : Value) (x y : Nat) (w : World) (h : Own w w0.heap.size 60 .u64 v (digs 4294967296 x)) (h' : IsS w0 .u64 u (digs 4294967296 y)) (hb : Below w0.heap.size w0 w) (hl : (digs 4294967296 x).length ≤ 1000000) (hl' : (digs 4294967296 y).length ≤ 1000000) :
    Calls Tryz.prog 166 #[v, u] w (RetOn w0 (digs 4294967296 (x + y))) := by
  have lt2 := digs_lt (B := 4294967296) (by omega) y
  have hu0 := h'
  obtain ⟨A, c, rfl, hc, hm, hr⟩ := h'
  go_enter Tryz.func166, Tryz.ntmps166
  go_wp2
  go_loopw [0, 5, 6] (fun vo vc vi wr => ∃ (i up : Nat) (o : List Nat), up ≤ 1 ∧ o.length ≤ (digs 4294967296 x).length + i ∧ i ≤ (digs 4294967296 x).length + (digs 4294967296 y).length + 1 ∧ OT x (digs 4294967296 y) i up o ∧ Own wr w0.heap.size 60 .u64 vo o ∧ Below w0.heap.size w0 wr ∧ vc = .int .u64 (up : Int) ∧ vi = .int .i64 (i : Int)) (fun _ _ vi _ => (digs 4294967296 x).length + (digs 4294967296 y).length + 1 - (intOf vi).toNat)
  case atStart => exact ⟨0, 0, _, by omega, by omega, by omega, OT.start x _, h, hb, rfl, rfl⟩
  case round =>
    clear h hb
    obtain ⟨i, up, o, hup, hol, hiL, hO, hown, hb, rfl, rfl⟩ := hrel
    have hsz := hb.size
    have hio := hO.2.2.1
    by_cases hcont : i < (digs 4294967296 y).length ∨ 0 < up
    · have hiL2 : i ≤ (digs 4294967296 x).length + (digs 4294967296 y).length := by
        rcases hcont with h1 | h1
        · omega
        · exact hO.bound h1
      obtain ⟨e, he⟩ := AtD.of (digs 4294967296 y) i
      have he1 := he.lt lt2 (by omega)
      have HE := Lib.hid he
      clear he
      by_cases happ : i = o.length
      · subst happ
        have HP : Hid (PR x (digs 4294967296 y) o.length up (o ++ [0])) := hO.append (by omega)
        clear hO
        rcases (show o.length < (digs 4294967296 y).length ∨ (¬ o.length < (digs 4294967296 y).length ∧ ((up : Int) != 0) = true) from by by_cases hx : o.length < (digs 4294967296 y).length; exact .inl hx; exact .inr ⟨hx, by rw [bne_iff_ne]; omega⟩) with hcc | ⟨hcc, hnz⟩
        all_goals
          obtain ⟨A2, c2, rfl, hc2, hm2, hr2⟩ := hown.isS
          go_wp2_with (at_builtin; refine wpList_append_one rfl _ _ rfl sl24 0 rfl hown rfl rfl (by omega) (by omega) ?_; intro v' w1 hown1 hb1 hg1)
          have hb2 := hb.trans hb1
          have hsz2 := hb2.size
          obtain ⟨g, cap, rfl, q1, q2, q3, q4⟩ := hown1.place (by simp)
          simp only [List.length_append, List.length_singleton] at hown1 q1
          clear hown hr2 hg1 hb1 hb
          obtain ⟨s, hs⟩ : ∃ s, (o ++ [0])[o.length]? = some s := ⟨_, List.getElem?_eq_getElem (by have := HP.out.2.2.1; exact this)⟩
          have hs1 : s < 4294967296 := HP.out.1.at hs
          have hc0 := hown1.cellAt hs
          have hf0 := hown1.frozenAt o.length
          have HS : Hid (∀ t c', t < 4294967296 → t + 4294967296 * c' = s + e + up → OT x (digs 4294967296 y) (o.length + 1) c' ((o ++ [0]).set o.length t)) := fun t c' h1 h2 => HP.out.step (NZ.digs y) hs HE.out h1 h2
          have hua := hu0.below hb2
          have b1 : (0 : Int) ≤ (o.length : Nat) := by omega
          have b2 : ((o.length : Nat) : Int) < (((o ++ [0]).length : Nat) : Int) := by have := HP.out.2.2.1; omega
          try simp only [List.length_append, List.length_singleton] at b2
          clear hs HP
          go_region_with (first
            | (go_at_call 153; refine (at_any _ _ _ o.length e _ rfl (by exact hua) HE.out).mono ?_; rintro e' w3 ⟨rfl, rfl⟩)
            | (go_at_call 64; refine (limb.add_any _ _ _ (by omega) (by omega) (by omega) (by omega) (by omega) (by omega) _).mono ?_; rintro e' w4 ⟨t, c3, rfl, H, rfl⟩))
          all_goals
            unfold AddSpec at H
            obtain ⟨s0, s1, c0, c1, heq⟩ := H
            obtain ⟨t, rfl⟩ := Int.eq_ofNat_of_zero_le s0
            obtain ⟨c3, rfl⟩ := Int.eq_ofNat_of_zero_le c0
            have HQ : Hid (t + 4294967296 * c3 = s + e + up) := by show _ = _; omega
            have hc3 : c3 ≤ 1 := by omega
            clear heq
            go_wp2
            go_roundw
            case rel => exact ⟨o.length + 1, c3, (o ++ [0]).set o.length t, hc3, (by rw [List.length_set]; first | omega | (simp; done) | (simp; omega)), by omega, HS.out t c3 (by omega) HQ.out, (by exact hown1.stored _ t), (hb2.setCell q3 _).drew, rfl, by go_num⟩
            case measure => simp [intOf]; omega
      · have HP : Hid (PR x (digs 4294967296 y) i up o) := hO.there (by omega)
        have hbf : ((i : Int) == (o.length : Int)) = false := by rw [beq_eq_false_iff_ne]; omega
        clear hO
        rcases (show i < (digs 4294967296 y).length ∨ (¬ i < (digs 4294967296 y).length ∧ ((up : Int) != 0) = true) from by by_cases hx : i < (digs 4294967296 y).length; exact .inl hx; exact .inr ⟨hx, by rw [bne_iff_ne]; omega⟩) with hcc | ⟨hcc, hnz⟩
        all_goals
          obtain ⟨g, cap, rfl, q1, q2, q3, q4⟩ := hown.place (by omega)
          have hown1 := hown
          have hb2 := hb
          clear hown hb
          go_wp2
          obtain ⟨s, hs⟩ : ∃ s, (o)[i]? = some s := ⟨_, List.getElem?_eq_getElem (by have := HP.out.2.2.1; exact this)⟩
          have hs1 : s < 4294967296 := HP.out.1.at hs
          have hc0 := hown1.cellAt hs
          have hf0 := hown1.frozenAt i
          have HS : Hid (∀ t c', t < 4294967296 → t + 4294967296 * c' = s + e + up → OT x (digs 4294967296 y) (i + 1) c' ((o).set i t)) := fun t c' h1 h2 => HP.out.step (NZ.digs y) hs HE.out h1 h2
          have hua := hu0.below hb2
          have b1 : (0 : Int) ≤ (i : Nat) := by omega
          have b2 : ((i : Nat) : Int) < (((o).length : Nat) : Int) := by have := HP.out.2.2.1; omega
          try simp only [List.length_append, List.length_singleton] at b2
          clear hs HP
          go_region_with (first
            | (go_at_call 153; refine (at_any _ _ _ i e _ rfl (by exact hua) HE.out).mono ?_; rintro e' w3 ⟨rfl, rfl⟩)
            | (go_at_call 64; refine (limb.add_any _ _ _ (by omega) (by omega) (by omega) (by omega) (by omega) (by omega) _).mono ?_; rintro e' w4 ⟨t, c3, rfl, H, rfl⟩))
          all_goals
            unfold AddSpec at H
            obtain ⟨s0, s1, c0, c1, heq⟩ := H
            obtain ⟨t, rfl⟩ := Int.eq_ofNat_of_zero_le s0
            obtain ⟨c3, rfl⟩ := Int.eq_ofNat_of_zero_le c0
            have HQ : Hid (t + 4294967296 * c3 = s + e + up) := by show _ = _; omega
            have hc3 : c3 ≤ 1 := by omega
            clear heq
            go_wp2
            go_roundw
            case rel => exact ⟨i + 1, c3, (o).set i t, hc3, (by rw [List.length_set]; first | omega | (simp; done) | (simp; omega)), by omega, HS.out t c3 (by omega) HQ.out, (by exact hown1.stored _ t), (hb2.setCell q3 _).drew, rfl, by go_num⟩
            case measure => simp [intOf]; omega
    · have hup0 : up = 0 := by omega
      subst hup0
      have HD : Hid (o = digs 4294967296 (x + y)) := hO.done (by omega)
      go_wp2
      go_ret
      exact ⟨_, rfl, by rw [← HD.out]; exact hown, hb⟩
end Go.Proofs.YtpcllhdfalebbaaGreatDoor.nat
namespace Go.Proofs.YtpcllhdfalebbaaGreatDoor.nat
open Go.RowKit Go.Proofs.YtpcllhdfalebbaaGreatDoor.num Go.Proofs.YtpcllhdfalebbaaGreatDoor.mem Go.Proofs.YtpcllhdfalebbaaGreatDoor.limb
set_option linter.unusedVariables false
set_option maxRecDepth 100000
/-- The slice holds these values. -/
def IsV (w : World) (v : Value) (vs : List Value) : Prop := ∃ A c, v = .slice A vs.length c ∧ vs.length ≤ c ∧ ∀ (i : Nat) (u : Value), vs[i]? = some u → ∃ ad, A = some ad ∧ w.cell? (ad.add i) = some u
/-- The values are slices that read as these numbers. -/
def Nums (w : World) (vs : List Value) (xs : List Nat) : Prop := vs.length = xs.length ∧ ∀ (i : Nat) (u : Value) (x : Nat), vs[i]? = some u → xs[i]? = some x → IsS w .u64 u (digs 4294967296 x)
theorem Nums.at_ {w : World} {vs : List Value} {xs : List Nat} (h : Nums w vs xs) {i : Nat} (hi : i < vs.length) : ∃ u x, vs[i]? = some u ∧ xs[i]? = some x ∧ IsS w .u64 u (digs 4294967296 x) := by
  have h1 := h.1
  exact ⟨_, _, List.getElem?_eq_getElem hi, List.getElem?_eq_getElem (by omega), h.2 i _ _ (List.getElem?_eq_getElem hi) (List.getElem?_eq_getElem (by omega))⟩
theorem sum_take_step {xs : List Nat} {k x : Nat} (h : xs[k]? = some x) : (xs.take (k + 1)).sum = (xs.take k).sum + x := by rw [take_step h, List.sum_append]; simp
theorem sum_take_le (xs : List Nat) (k : Nat) : (xs.take k).sum ≤ xs.sum := by
  have := congrArg List.sum (List.take_append_drop k xs)
  rw [List.sum_append] at this; omega
theorem sum_at_le {xs : List Nat} {k x : Nat} (h : xs[k]? = some x) : x ≤ xs.sum := by
  have h1 := sum_take_step h
  have h2 := sum_take_le xs (k + 1)
  omega
theorem isV_lit (w : World) (t : TypeId) (vs : List Value) : IsV (w.alloc (.cells vs.toArray t)) (.slice (some ⟨w.heap.size, 0, none⟩) vs.length vs.length) vs := by
  refine ⟨_, _, rfl, Nat.le_refl _, fun i u hu => ⟨_, rfl, ?_⟩⟩
  have ha : (⟨w.heap.size, 0, none⟩ : Addr).add i = ⟨w.heap.size, i, none⟩ := by unfold Addr.add; split <;> simp_all
  rw [ha, cell_of_row _ _ i vs.toArray t (0, 0) (heap_alloc_new w _)]
  simpa using hu
/-- 'make([]T, 0, n)'. -/
theorem wpList_make0_rd {P : Program} {w : World} {ops : Array Oper} {rest : List Oper} {o : Oper} {a : Act} {Q : Exit → Act → World → Prop} (hgd : o.guard = none) (lo co : Operand) {t : TypeId} (ho : o.op = Op.makeSlice t lo co)
    {base : Nat} {e : TypeId} {k : IntKind} (hT : SliceT P t e k) {kl kc : IntKind} {C : Int} (n : Nat) (hl : a.eval lo = .int kl 0) (hc : a.eval co = .int kc C) (hC : C = (n : Int)) (hn : n ≤ 10000000000000) (hbase : base ≤ w.heap.size)
    (h : ∀ w', Own w' base e k (.slice (some ⟨w.heap.size, 0, none⟩) 0 n) [] → Below w.heap.size w w' → wpList P ops Q rest (a.put o.dst (.slice (some ⟨w.heap.size, 0, none⟩) 0 n)) w') : wpList P ops Q (o :: rest) a w := by
  obtain ⟨i, hi, hz, hs, hb⟩ := hT.info
  refine wpList_make_own w hgd lo co t ho base e i (.int k 0) 1 hT.und hi hz hs kl kc C n hl hc hC (by rw [hb]; omega) (by unfold maxLen; omega) hbase fun w' h1 h2 => ?_
  exact h w' h1 ((Below.refl _ w).grown h2 (Nat.le_refl _) (fun g hg => by cases hg))
set_option maxHeartbeats 800000 in
theorem sum_any (V : Value) (vs : List Value) (xs : List Nat) (w : World) (hV : IsV w V vs) (hN : Nums w vs xs) (hl : vs.length ≤ 1000000) (hS : (digs 4294967296 xs.sum).length ≤ 1000000) :
    Calls Tryz.prog 151 #[V] w (RetS .u64 (digs 4294967296 xs.sum) w) := by
  obtain ⟨A, c, rfl, hc, hcells⟩ := hV
  have HC := Lib.hid hcells
  have HN := Lib.hid hN
  have HX : Hid (vs.length = xs.length) := hN.1
  clear hcells hN
  go_enter Tryz.func151, Tryz.ntmps151
  go_wp2
  go_loop [3, 11] (fun vl vi => ∃ (k L : Nat), k ≤ vs.length ∧ L ≤ 1000000 ∧ vl = .int .i64 (L : Int) ∧ vi = .int .i64 (k : Int)) (fun _ vi => vs.length - (intOf vi).toNat)
  case atStart => exact ⟨0, 0, by omega, by omega, rfl, rfl⟩
  case round =>
    obtain ⟨k, L, hk, hL, rfl, rfl⟩ := hrel
    by_cases hp : k < vs.length
    · obtain ⟨u, x, hu, hx, hv⟩ := HN.out.at_ hp
      obtain ⟨ad, rfl, hcell⟩ := HC.out k u hu
      have hxl := digs_len_mono (B := 4294967296) (by omega) (sum_at_le hx)
      obtain ⟨A2, c2, rfl, hc2, hm2, hr2⟩ := hv
      clear hu hx
      by_cases hmx : L < (digs 4294967296 x).length
      · go_wp2
        go_round
        case rel => exact ⟨k + 1, (digs 4294967296 x).length, by omega, by omega, rfl, by go_num⟩
        case measure => simp [intOf]; omega
      · go_wp2
        go_round
        case rel => exact ⟨k + 1, L, by omega, by omega, rfl, by go_num⟩
        case measure => simp [intOf]; omega
    · go_wp2_with (at_make; refine wpList_make0_rd rfl _ _ rfl sl24 (L + 1) rfl rfl (by omega) (by omega) (Nat.le_refl _) ?_; intro w1 hown1 hb1)
      go_loopw [6, 25] (fun vo vi wr => ∃ k : Nat, k ≤ vs.length ∧ Own wr w.heap.size 60 .u64 vo (digs 4294967296 (xs.take k).sum) ∧ Below w.heap.size w wr ∧ vi = .int .i64 (k : Int)) (fun _ vi _ => vs.length - (intOf vi).toNat)
      case atStart => exact ⟨0, by omega, by rw [List.take_zero, List.sum_nil, digs_zero]; exact hown1, hb1, rfl⟩
      case round =>
        clear hown1 hb1
        obtain ⟨k2, hk2, hown, hb, rfl⟩ := hrel
        by_cases hp2 : k2 < vs.length
        · obtain ⟨u, x, hu, hx, hv⟩ := HN.out.at_ hp2
          obtain ⟨ad, rfl, hcell⟩ := HC.out k2 u hu
          have hcell2 := (hb.cell (World.block_lt_of_cell? w _ hcell)).trans hcell
          have hxl := digs_len_mono (B := 4294967296) (by omega) (sum_at_le hx)
          have htl := digs_len_mono (B := 4294967296) (by omega) (sum_take_le xs k2)
          have HT := Lib.hid (sum_take_step hx)
          clear hu hx hcell
          go_wp2_with fail
          refine (onto_any w _ _ _ x _ hown hv hb (by omega) (by omega)).mono ?_
          rintro e w3 ⟨v3, rfl, hown3, hb3⟩
          rw [← HT.out] at hown3
          go_wp2
          go_roundw
          case rel => exact ⟨k2 + 1, by omega, hown3, hb3, by go_num⟩
          case measure => simp [intOf]; omega
        · rw [List.take_of_length_le (by have := HX.out; omega)] at hown
          go_wp2
          go_ret
          exact ⟨_, rfl, hown.isS, hown.fresh, hb⟩
theorem nums2 {w : World} {v u : Value} {x y : Nat} (h : IsS w .u64 v (digs 4294967296 x)) (h' : IsS w .u64 u (digs 4294967296 y)) : Nums w [v, u] [x, y] := by
  refine ⟨rfl, fun i a b ha hb => ?_⟩
  match i, ha, hb with
  | 0, ha, hb => simp at ha hb; subst ha; subst hb; exact h
  | 1, ha, hb => simp at ha hb; subst ha; subst hb; exact h'
theorem nums3 {w : World} {v u t : Value} {x y z : Nat} (h : IsS w .u64 v (digs 4294967296 x)) (h' : IsS w .u64 u (digs 4294967296 y)) (h'' : IsS w .u64 t (digs 4294967296 z)) : Nums w [v, u, t] [x, y, z] := by
  refine ⟨rfl, fun i a b ha hb => ?_⟩
  match i, ha, hb with
  | 0, ha, hb => simp at ha hb; subst ha; subst hb; exact h
  | 1, ha, hb => simp at ha hb; subst ha; subst hb; exact h'
  | 2, ha, hb => simp at ha hb; subst ha; subst hb; exact h''
set_option maxHeartbeats 400000 in
theorem add_any (v u : Value) (x y : Nat) (w : World) (h : IsS w .u64 v (digs 4294967296 x)) (h' : IsS w .u64 u (digs 4294967296 y)) (z : Nat) (hz : z = x + y) (hS : (digs 4294967296 z).length ≤ 1000000) :
    Calls Tryz.prog 124 #[v, u] w (RetS .u64 (digs 4294967296 z) w) := by
  have HZ : Hid (z = [x, y].sum) := by show _ = _; simp [hz]
  clear hz
  rw [HZ.out] at hS ⊢
  obtain ⟨A1, c1, rfl, _⟩ := id h
  obtain ⟨A2, c2, rfl, _⟩ := id h'
  go_enter Tryz.func124, Tryz.ntmps124
  go_wp2_with fail
  have hb := below_alloc (Nat.le_refl w.heap.size) (.cells #[.slice A1 (digs 4294967296 x).length c1, .slice A2 (digs 4294967296 y).length c2] 23)
  refine (sum_any _ [_, _] [x, y] _ (isV_lit w 23 [_, _]) (nums2 (h.below hb) (h'.below hb)) (by simp) hS).mono ?_
  rintro e w' ⟨v', rfl, hv, hf, hb2⟩
  go_wp2
  go_ret
  exact ⟨_, rfl, hv, hf.mono hb.size, hb.trans (hb2.mono hb.size)⟩
end Go.Proofs.YtpcllhdfalebbaaGreatDoor.nat
