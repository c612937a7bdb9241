/- Plain mathematics of numbers as texts: digits as letters, what a text's digits are, noughts ahead, stretches of digits put together and parted. No program stands here.
Strings: a string as a list of bytes; the library's strings.TrimLeft at one byte, strings.IndexByte and strings.IndexRune, walked. Condition: as each says.
strings.IndexRune at a text of ASCII: at any rune; and where a letter stands among the digits' letters. Condition: the text is ASCII.
strings.IndexRune at a text of ASCII, at any rune; where a letter stands among the digits' letters. Condition: the text is ASCII.
Where a rune stands among the digits' letters. Condition: a base from 2 to 36. -/
import Derived.Test.YtbfflcpmagjlnaaDoorWords
import Derived.Lib.Bytealg
import Derived.Lib.Strings
import Derived.Laws.RangeAny
import Derived.Laws.IdiomStrings
import Derived.WalkMore
import Derived.IntWalk
namespace Go.Proofs.YtbfflcpmagjlnaaDoor.txt
open Go.Proofs.YtbfflcpmagjlnaaDoor.num
set_option linter.unusedVariables false

/-- The letters of the digits. -/
def figs : List UInt8 := [48, 49, 50, 51, 52, 53, 54, 55, 56, 57, 97, 98, 99, 100, 101, 102, 103, 104, 105, 106, 107, 108, 109, 110, 111, 112, 113, 114, 115, 116, 117, 118, 119, 120, 121, 122]
/-- A digit's letter. -/
def ch (d : Nat) : UInt8 := figs.getD d 0
/-- What a letter counts; 99: it is no digit. -/
def dv (c : UInt8) : Nat := if 48 ≤ c.toNat ∧ c.toNat ≤ 57 then c.toNat - 48 else if 97 ≤ c.toNat ∧ c.toNat ≤ 122 then c.toNat - 87 else 99
theorem dv_ch {d : Nat} (h : d < 36) : dv (ch d) = d := by
  have : ∀ i : Fin 36, dv (ch i.1) = i.1 := by decide
  exact this ⟨d, h⟩
theorem ch_dv {c : UInt8} (h : dv c < 36) : ch (dv c) = c := by
  have : ∀ i : Fin 256, dv (UInt8.ofNat i.1) < 36 → ch (dv (UInt8.ofNat i.1)) = UInt8.ofNat i.1 := by decide +kernel
  have h1 := this ⟨c.toNat, c.toNat_lt⟩
  simp only [UInt8.ofNat_toNat] at h1
  exact h1 h
theorem ch48 {d : Nat} (h : d < 36) : ch d = 48 ↔ d = 0 := by
  have : ∀ i : Fin 36, ch i.1 = 48 ↔ i.1 = 0 := by decide
  exact this ⟨d, h⟩
theorem dv_zero {c : UInt8} : dv c = 0 ↔ c = 48 := by
  have : ∀ i : Fin 256, dv (UInt8.ofNat i.1) = 0 ↔ UInt8.ofNat i.1 = 48 := by decide +kernel
  have h1 := this ⟨c.toNat, c.toNat_lt⟩
  simp only [UInt8.ofNat_toNat] at h1
  exact h1
theorem ch_toNat {d : Nat} (h : d < 36) : (ch d).toNat = if d < 10 then 48 + d else 87 + d := by
  have : ∀ i : Fin 36, (ch i.1).toNat = if i.1 < 10 then 48 + i.1 else 87 + i.1 := by decide
  exact this ⟨d, h⟩

/-- The digits of x as a text, the highest first. -/
def txt (b x : Nat) : List UInt8 := if x = 0 then [48] else (digs b x).reverse.map ch
/-- All letters are digits, and there are some. -/
def okS (b : Nat) (s : List UInt8) : Prop := s ≠ [] ∧ ∀ c ∈ s, dv c < b
/-- The number of a text's digits. -/
def numS (b : Nat) (s : List UInt8) : Nat := val b (s.reverse.map dv)

theorem numS_snoc (b : Nat) (s : List UInt8) (c : UInt8) : numS b (s ++ [c]) = numS b s * b + dv c := by
  unfold numS
  rw [List.reverse_append, List.map_append]
  simp [val]
  rw [Nat.mul_comm]; omega
theorem numS_nil (b : Nat) : numS b [] = 0 := rfl
theorem numS_cons0 {b : Nat} (s : List UInt8) {c : UInt8} (h : dv c = 0) : numS b (c :: s) = numS b s := by
  unfold numS
  rw [List.reverse_cons, List.map_append, val_append]
  simp [val, h]
theorem txt_pos {b x : Nat} (h : x ≠ 0) : txt b x = (digs b x).reverse.map ch := if_neg h
theorem txt_zero (b : Nat) : txt b 0 = [48] := if_pos rfl
theorem txt_ne {b : Nat} (hb : 2 ≤ b) (x : Nat) : txt b x ≠ [] := by
  unfold txt
  split
  · simp
  · rename_i h
    intro h1
    have h2 : digs b x = [] := by simpa using h1
    exact h ((digs_nil_iff hb x).1 h2)
theorem txt_ok {b : Nat} (hb : 2 ≤ b) (hb2 : b ≤ 36) (x : Nat) : okS b (txt b x) := by
  refine ⟨txt_ne hb x, ?_⟩
  unfold txt
  split
  · intro c hc
    have h1 : c = 48 := by simpa using hc
    subst h1
    have h2 : dv 48 = 0 := by decide
    omega
  · intro c hc
    obtain ⟨d, hd, rfl⟩ := List.mem_map.1 hc
    have h1 : d < b := digs_lt hb x d (List.mem_reverse.1 hd)
    rw [dv_ch (by omega)]; exact h1
theorem map_dv_ch {b : Nat} (hb2 : b ≤ 36) {l : List Nat} (h : Lt b l) : (l.map ch).map dv = l := by
  rw [List.map_map]
  conv => rhs; rw [← List.map_id l]
  refine List.map_congr_left fun d hd => ?_
  have := h d hd
  exact dv_ch (by omega)
theorem map_ch_dv {b : Nat} (hb2 : b ≤ 36) {s : List UInt8} (h : ∀ c ∈ s, dv c < b) : (s.map dv).map ch = s := by
  rw [List.map_map]
  conv => rhs; rw [← List.map_id s]
  refine List.map_congr_left fun c hc => ?_
  have := h c hc
  exact ch_dv (by omega)
theorem num_txt {b : Nat} (hb : 2 ≤ b) (hb2 : b ≤ 36) (x : Nat) : numS b (txt b x) = x := by
  unfold numS txt
  split
  · rename_i h; subst h
    have h2 : dv 48 = 0 := by decide
    simp [val, h2]
  · rw [← List.map_reverse, List.reverse_reverse, map_dv_ch hb2 (digs_lt hb x), val_digs hb]
theorem okS.lt {b : Nat} {s : List UInt8} (h : okS b s) : Lt b (s.reverse.map dv) := by
  intro d hd
  obtain ⟨c, hc, rfl⟩ := List.mem_map.1 hd
  exact h.2 c (List.mem_reverse.1 hc)
/-- No nought ahead: the number's digits are the text. -/
theorem txt_num {b : Nat} (hb : 2 ≤ b) (hb2 : b ≤ 36) {c : UInt8} {s : List UInt8} (h : okS b (c :: s)) (hc : dv c ≠ 0) : txt b (numS b (c :: s)) = c :: s := by
  have e : digs b (numS b (c :: s)) = (c :: s).reverse.map dv := by
    unfold numS
    rw [← trim_digs hb h.lt, List.reverse_cons, List.map_append]
    exact trim_snoc _ hc
  have hne : numS b (c :: s) ≠ 0 := by
    intro h0
    rw [h0, digs_zero] at e
    have := congrArg List.length e
    simp at this
  rw [txt_pos hne, e, ← List.map_reverse, List.reverse_reverse]
  exact map_ch_dv hb2 h.2
/-- One letter alone. -/
theorem txt_one {b : Nat} (hb : 2 ≤ b) (hb2 : b ≤ 36) {c : UInt8} (h : dv c < b) : txt b (numS b [c]) = [c] := by
  by_cases hc : dv c = 0
  · rw [numS_cons0 _ hc, numS_nil, txt_zero, dv_zero.1 hc]
  · exact txt_num hb hb2 ⟨by simp, by simpa using h⟩ hc
/-- Noughts ahead, all but one, counted from the text's start: what is left has the same number. -/
def Led (b : Nat) (s : List UInt8) (n : Nat) : Prop := n < s.length ∧ numS b (s.drop n) = numS b s
theorem Led.start {b : Nat} {s : List UInt8} (h : s ≠ []) : Led b s 0 := ⟨by have := List.length_pos_iff.2 h; omega, rfl⟩
theorem Led.step {b : Nat} {s : List UInt8} {n : Nat} (h : Led b s n) (hn : n + 1 < s.length) (hc : s[n]? = some 48) : Led b s (n + 1) := by
  refine ⟨hn, ?_⟩
  obtain ⟨i1, e1⟩ := List.getElem?_eq_some_iff.1 hc
  rw [← h.2, ← List.getElem_cons_drop i1, e1, numS_cons0 _ (dv_zero.2 rfl)]
theorem Led.done {b : Nat} (hb : 2 ≤ b) (hb2 : b ≤ 36) {s : List UInt8} (ho : okS b s) {n : Nat} (h : Led b s n) (he : n + 1 = s.length ∨ ∃ c, s[n]? = some c ∧ c ≠ 48) : txt b (numS b s) = s.drop n := by
  have i1 := h.1
  have e : s.drop n = s[n] :: s.drop (n + 1) := (List.getElem_cons_drop i1).symm
  have hc : dv s[n] < b := ho.2 _ (List.getElem_mem i1)
  rw [← h.2, e]
  rcases he with he | ⟨c, h1, h2⟩
  · have e2 : s.drop (n + 1) = [] := List.drop_of_length_le (by omega)
    rw [e2]
    exact txt_one hb hb2 hc
  · obtain ⟨_, h3⟩ := List.getElem?_eq_some_iff.1 h1
    refine txt_num hb hb2 ⟨List.cons_ne_nil _ _, ?_⟩ (fun h0 => h2 (by rw [← h3]; exact dv_zero.1 h0))
    intro d hd
    rw [← e] at hd
    exact ho.2 d (List.mem_of_mem_drop hd)

/-- n digits of x, the lowest first. -/
def pad (b : Nat) : Nat → Nat → List Nat
  | 0, _ => []
  | n + 1, x => x % b :: pad b n (x / b)
theorem pad_len (b n x : Nat) : (pad b n x).length = n := by
  induction n generalizing x with
  | zero => rfl
  | succ n ih => simp [pad, ih]
theorem pad_lt {b : Nat} (hb : 0 < b) (n x : Nat) : Lt b (pad b n x) := by
  induction n generalizing x with
  | zero => exact Lt.nil b
  | succ n ih => exact Lt.cons (Nat.mod_lt _ hb) (ih _)
theorem pad_val {b n x : Nat} (h : x < b ^ n) : val b (pad b n x) = x := by
  induction n generalizing x with
  | zero => rw [Nat.pow_zero] at h; simp [pad, val]; omega
  | succ n ih =>
    rw [pad, val_cons, ih (by rw [Nat.pow_succ] at h; exact Nat.div_lt_of_lt_mul (by rw [Nat.mul_comm]; exact h))]
    exact Nat.mod_add_div x b
theorem pad_snoc (b n x : Nat) : pad b (n + 1) x = pad b n x ++ [x / b ^ n % b] := by
  induction n generalizing x with
  | zero => simp [pad]
  | succ n ih =>
    rw [pad, ih (x / b), pad, List.cons_append, Nat.div_div_eq_div_mul, Nat.pow_succ, Nat.mul_comm b]
/-- Stretches, one behind the other. -/
def pads (b n : Nat) (xs : List Nat) : List Nat := xs.flatMap (pad b n)
theorem pads_len (b n : Nat) (xs : List Nat) : (pads b n xs).length = n * xs.length := by
  induction xs with
  | nil => simp [pads]
  | cons x xs ih =>
    have e : pads b n (x :: xs) = pad b n x ++ pads b n xs := by simp [pads]
    rw [e, List.length_append, pad_len, ih, List.length_cons, Nat.mul_add]; omega
theorem pads_snoc (b n : Nat) (xs : List Nat) (x : Nat) : pads b n (xs ++ [x]) = pads b n xs ++ pad b n x := by simp [pads]
theorem pads_lt {b : Nat} (hb : 0 < b) (n : Nat) (xs : List Nat) : Lt b (pads b n xs) := by
  intro d hd
  obtain ⟨x, _, hx⟩ := List.mem_flatMap.1 hd
  exact pad_lt hb n x d hx
theorem pads_val {b n : Nat} {xs : List Nat} (h : Lt (b ^ n) xs) : val b (pads b n xs) = val (b ^ n) xs := by
  induction xs with
  | nil => simp [pads, val]
  | cons x xs ih =>
    have e : pads b n (x :: xs) = pad b n x ++ pads b n xs := by simp [pads]
    rw [e, val_append, pad_len, pad_val h.head, ih h.tail, val_cons]
theorem trim_rev (r : List Nat) : trim r.reverse = (r.dropWhile (· == 0)).reverse := by
  induction r with
  | nil => rfl
  | cons d r ih =>
    rw [List.reverse_cons]
    by_cases h : d = 0
    · subst h; rw [trim_snoc0, ih]; simp
    · rw [trim_snoc _ h]; simp [h]
theorem dropWhile_map {f : Nat → UInt8} {p : UInt8 → Bool} {q : Nat → Bool} (l : List Nat) (h : ∀ d ∈ l, p (f d) = q d) : (l.map f).dropWhile p = (l.dropWhile q).map f := by
  induction l with
  | nil => rfl
  | cons d l ih =>
    rw [List.map_cons, List.dropWhile_cons, List.dropWhile_cons, h d (by simp)]
    split
    · exact ih fun x hx => h x (by simp [hx])
    · rfl
/-- Noughts ahead taken off. -/
theorem strip {b : Nat} (hb : 2 ≤ b) (hb2 : b ≤ 36) {l : List Nat} (h : Lt b l) : (l.reverse.map ch).dropWhile (· == 48) = (digs b (val b l)).reverse.map ch := by
  rw [dropWhile_map (q := (· == 0)) l.reverse]
  · rw [← trim_digs hb h]
    have := trim_rev l.reverse
    rw [List.reverse_reverse] at this
    rw [this, List.reverse_reverse]
  · intro d hd
    have hd2 : d < b := h d (List.mem_reverse.1 hd)
    rw [Bool.eq_iff_iff]
    simp only [beq_iff_eq]
    exact ch48 (by omega)

/-- Neighbours put together. -/
def pairs (p : Nat) : List Nat → List Nat
  | x :: y :: r => (x + y * p) :: pairs p r
  | [x] => [x]
  | [] => []
theorem pairs_len (p : Nat) : ∀ xs : List Nat, (pairs p xs).length = (xs.length + 1) / 2
  | x :: y :: r => by have := pairs_len p r; simp [pairs, this]; omega
  | [x] => by simp [pairs]
  | [] => by simp [pairs]
theorem pairs_val (p : Nat) : ∀ xs : List Nat, val (p * p) (pairs p xs) = val p xs
  | x :: y :: r => by
    have := pairs_val p r
    rw [pairs, val_cons, val_cons, val_cons, this, Nat.mul_add, ← Nat.mul_assoc, Nat.mul_comm y p]; omega
  | [x] => by simp [pairs, val]
  | [] => by simp [pairs, val]
theorem pair_lt {p x y : Nat} (hx : x < p) (hy : y < p) : x + y * p < p * p := by
  have h : (y + 1) * p ≤ p * p := Nat.mul_le_mul_right _ hy
  rw [Nat.add_mul] at h; omega
theorem pairs_lt {p : Nat} : ∀ {xs : List Nat}, Lt p xs → Lt (p * p) (pairs p xs)
  | x :: y :: r, h => Lt.cons (pair_lt h.head h.tail.head) (pairs_lt h.tail.tail)
  | [x], h => by
    have hx := h.head
    have : p ≤ p * p := Nat.le_mul_self p
    exact Lt.cons (by omega) (Lt.nil _)
  | [], h => Lt.nil _
/-- Each parted in two. -/
def halves (p : Nat) (ys : List Nat) : List Nat := ys.flatMap fun y => [y % p, y / p]
theorem halves_snoc (p : Nat) (ys : List Nat) (y : Nat) : halves p (ys ++ [y]) = halves p ys ++ [y % p] ++ [y / p] := by simp [halves]
theorem halves_len (p : Nat) (ys : List Nat) : (halves p ys).length = 2 * ys.length := by
  induction ys with
  | nil => rfl
  | cons y ys ih =>
    have e : halves p (y :: ys) = y % p :: y / p :: halves p ys := by simp [halves]
    rw [e, List.length_cons, List.length_cons, ih, List.length_cons]; omega
theorem halves_val (p : Nat) (ys : List Nat) : val p (halves p ys) = val (p * p) ys := by
  induction ys with
  | nil => rfl
  | cons y ys ih =>
    have e : halves p (y :: ys) = y % p :: y / p :: halves p ys := by simp [halves]
    rw [e, val_cons, val_cons, ih, val_cons, Nat.mul_add, ← Nat.mul_assoc, ← Nat.add_assoc, Nat.mod_add_div]
theorem halves_lt {p : Nat} (hp : 0 < p) {ys : List Nat} (h : Lt (p * p) ys) : Lt p (halves p ys) := by
  intro d hd
  obtain ⟨y, hy, hd⟩ := List.mem_flatMap.1 hd
  have := h y hy
  simp at hd
  rcases hd with rfl | rfl
  · exact Nat.mod_lt _ hp
  · exact Nat.div_lt_of_lt_mul this
/-- What a number parts into, below p: so many, each below p. -/
def Parts (p a : Nat) (xs : List Nat) : Prop := Lt p xs ∧ val p xs = a ∧ (xs.length = 1 ∨ p ^ xs.length ≤ a * a)
theorem Parts.one {p a : Nat} (h : a < p) : Parts p a [a] := ⟨Lt.cons h (Lt.nil _), by simp [val], Or.inl rfl⟩
theorem Parts.more {p a : Nat} {ys : List Nat} (hp : 0 < p) (hpa : p ≤ a) (h : Parts (p * p) a ys) : Parts p a (halves p ys) := by
  refine ⟨halves_lt hp h.1, by rw [halves_val]; exact h.2.1, Or.inr ?_⟩
  rw [halves_len]
  rcases h.2.2 with h1 | h1
  · rw [h1, Nat.mul_one, Nat.pow_two]; exact Nat.mul_le_mul hpa hpa
  · rwa [Nat.pow_mul, Nat.pow_two]
theorem Parts.len {p a n : Nat} {xs : List Nat} (hp : 2 ≤ p) (h : Parts p a xs) (ha : a < 2 ^ n) : xs.length ≤ 2 * n + 1 := by
  rcases h.2.2 with h1 | h1
  · omega
  · have h2 : 2 ^ xs.length ≤ p ^ xs.length := Nat.pow_le_pow_left hp _
    have h3 : a * a < 2 ^ n * 2 ^ n := Nat.mul_lt_mul'' ha ha
    rw [← Nat.pow_add] at h3
    have h4 : 2 ^ xs.length < 2 ^ (n + n) := by omega
    have := (Nat.pow_lt_pow_iff_right (by omega : 1 < 2)).1 h4
    omega

/-- How far the digits have been read, from the highest one down to place m: each stretch has its own number. -/
def ST (b size : Nat) (L : List Nat) (m : Nat) (C : List Nat) : Prop := ∀ p c, C[p]? = some c → c = val b ((L.take ((p + 1) * size)).drop (max (p * size) m))
theorem ST.start {b size : Nat} {L : List Nat} (k : Nat) (hk : k * size ≤ L.length + size) : ST b size L L.length (List.replicate k 0) := by
  intro p c hc
  have h1 : c = 0 := by
    have := List.mem_of_getElem? hc
    exact List.eq_of_mem_replicate this
  rw [List.drop_of_length_le (by rw [List.length_take]; omega), h1]; rfl
theorem ST.step {b size : Nat} {L C : List Nat} {j d c : Nat} (hs : 0 < size) (h : ST b size L (j + 1) C) (hd : L[j]? = some d) (hc : C[j / size]? = some c) : ST b size L j (C.set (j / size) (c * b + d)) := by
  intro p x hx
  have hm := Nat.div_add_mod j size
  have hr := Nat.mod_lt j hs
  have hjs : j / size * size ≤ j := Nat.div_mul_le_self j size
  have hjs2 : j < (j / size + 1) * size := by rw [Nat.add_mul, Nat.mul_comm (j / size)]; omega
  by_cases hp : p = j / size
  · subst hp
    have il : j / size < C.length := (List.getElem?_eq_some_iff.1 hc).1
    rw [List.getElem?_set_self il] at hx
    injection hx with hx
    subst hx
    rw [h _ _ hc, Nat.max_eq_right (by omega), Nat.max_eq_right (by omega)]
    have e : (L.take ((j / size + 1) * size))[j]? = some d := by rw [List.getElem?_take_of_lt hjs2]; exact hd
    rw [val_drop_step e, Nat.mul_comm b]; omega
  · rw [List.getElem?_set_ne (by omega)] at hx
    rw [h _ _ hx]
    rcases Nat.lt_or_ge p (j / size) with h1 | h1
    · have h2 : (p + 1) * size ≤ j / size * size := Nat.mul_le_mul_right _ h1
      rw [List.drop_of_length_le (by rw [List.length_take]; omega), List.drop_of_length_le (by rw [List.length_take]; omega)]
    · have h2 : (j / size + 1) * size ≤ p * size := Nat.mul_le_mul_right _ (by omega)
      rw [Nat.max_eq_left (by omega), Nat.max_eq_left (by omega)]
/-- Cut in stretches. -/
theorem ST.done {b size : Nat} (hb : 0 < b) (hs : 0 < size) {L C : List Nat} (hL : Lt b L) (h : ST b size L 0 C) (hlen : L.length ≤ C.length * size) : Lt (b ^ size) C ∧ val (b ^ size) C = val b L := by
  induction C generalizing L with
  | nil =>
    have : L = [] := List.length_eq_zero_iff.1 (by simpa using hlen)
    subst this
    exact ⟨Lt.nil _, rfl⟩
  | cons c C ih =>
    have h0 : c = val b (L.take size) := by
      have := h 0 c (by simp)
      simpa using this
    have h1 : ST b size (L.drop size) 0 C := by
      intro p x hx
      have := h (p + 1) x (by simpa using hx)
      rw [Nat.max_eq_left (by omega)] at this ⊢
      rw [this]
      congr 1
      rw [List.take_drop, List.drop_drop]
      congr 1
      · rw [Nat.add_mul p 1]; omega
      · congr 1
        rw [Nat.add_mul (p + 1) 1]; omega
    obtain ⟨g1, g2⟩ := ih (hL.drop size) h1 (by rw [List.length_drop, List.length_cons, Nat.add_mul] at *; omega)
    have hlt : c < b ^ size := by
      rw [h0]
      have k1 := val_lt (hL.take size)
      have k2 : (L.take size).length ≤ size := List.length_take_le _ _
      exact Nat.lt_of_lt_of_le k1 (Nat.pow_le_pow_right hb k2)
    refine ⟨Lt.cons hlt g1, ?_⟩
    rw [val_cons, g2, h0]
    by_cases hl : L.length ≤ size
    · rw [List.take_of_length_le hl, List.drop_of_length_le hl]; simp [val]
    · have e : L = L.take size ++ L.drop size := (List.take_append_drop _ _).symm
      have e2 : (L.take size).length = size := by rw [List.length_take]; omega
      conv => rhs; rw [e, val_append, e2]
/-- A stretch has no more digits than it may. -/
theorem ST.bound {b size : Nat} {L C : List Nat} {m p c : Nat} (hb : 0 < b) (h : ST b size L m C) (hL : Lt b (L.drop m)) (hc : C[p]? = some c) : c < b ^ size := by
  rw [h p c hc]
  have e : ((L.take ((p + 1) * size)).drop (max (p * size) m)) = ((L.drop (max (p * size) m)).take ((p + 1) * size - max (p * size) m)) := by rw [List.drop_take]
  have hl2 : Lt b (L.drop (max (p * size) m)) := by
    have e2 : L.drop (max (p * size) m) = (L.drop m).drop (max (p * size) m - m) := by rw [List.drop_drop]; congr 1; omega
    rw [e2]; exact hL.drop _
  rw [e]
  have k1 := val_lt (hl2.take ((p + 1) * size - max (p * size) m))
  refine Nat.lt_of_lt_of_le k1 (Nat.pow_le_pow_right hb ?_)
  rw [List.length_take, Nat.add_mul]; omega
theorem Lt.dropStep {B : Nat} {l : List Nat} {i d : Nat} (h : Lt B (l.drop (i + 1))) (hd : l[i]? = some d) (hB : d < B) : Lt B (l.drop i) := by
  rw [drop_at hd]; exact Lt.cons hB h
end Go.Proofs.YtbfflcpmagjlnaaDoor.txt
namespace Go.Proofs.YtbfflcpmagjlnaaDoor.str
open Go.RowKit Go.Proofs.YtbfflcpmagjlnaaDoor.num Go.Proofs.YtbfflcpmagjlnaaDoor.mem Go.Proofs.YtbfflcpmagjlnaaDoor.txt
set_option linter.unusedVariables false

/-- The string's bytes. -/
def StrIs (S : ByteArray) (l : List UInt8) : Prop := S.data.toList = l
theorem StrIs.mk (l : List UInt8) : StrIs ⟨l.toArray⟩ l := rfl
theorem StrIs.size {S : ByteArray} {l : List UInt8} (h : StrIs S l) : S.size = l.length := by rw [← h]; exact Lib.size_eq S
theorem StrIs.eq {S T : ByteArray} {l : List UInt8} (h : StrIs S l) (k : StrIs T l) : S = T := by
  rw [← Lib.mk_data S, ← Lib.mk_data T, h, k]
theorem StrIs.is {S : ByteArray} {l : List UInt8} (h : StrIs S l) : S = ⟨l.toArray⟩ := by rw [← Lib.mk_data S, h]
theorem StrIs.at_ {S : ByteArray} {l : List UInt8} (h : StrIs S l) {i : Nat} (hi : i < S.size) : l[i]? = some (S[i]'hi) := by
  subst h
  obtain ⟨⟨l⟩⟩ := S
  exact List.getElem?_eq_getElem _
theorem StrIs.cut {S : ByteArray} {l : List UInt8} (h : StrIs S l) (a b : Nat) : StrIs (S.extract a b) ((l.drop a).take (b - a)) := by
  unfold StrIs; rw [Lib.extract_data, h]
theorem StrIs.from_ {S : ByteArray} {l : List UInt8} (h : StrIs S l) (a : Nat) : StrIs (S.extract a S.size) (l.drop a) := by
  have := h.cut a S.size
  rwa [List.take_of_length_le (by rw [List.length_drop, h.size]; omega)] at this
theorem StrIs.to_ {S : ByteArray} {l : List UInt8} (h : StrIs S l) (b : Nat) : StrIs (S.extract 0 b) (l.take b) := by
  have := h.cut 0 b
  simpa using this
/-- The comparison of two strings, as the walk asks it. -/
theorem StrIs.beq {S T : ByteArray} {l m : List UInt8} (h : StrIs S l) (k : StrIs T m) : (S.toList == T.toList) = (l == m) := by
  rw [Lib.toList_data, Lib.toList_data, h, k]

/-- The call ends with a string of these bytes; the world is as it was. -/
def RetStr (l : List UInt8) (w : World) (e : Ending) (w' : World) : Prop := ∃ R, e = .returned (.string R) ∧ StrIs R l ∧ w = w'
/-- Behind noughts. -/
theorem drop_nought {l : List UInt8} {k : Nat} (hk : (l.drop k).dropWhile (· == 48) = l.dropWhile (· == 48)) (h : l[k]? = some 48) : (l.drop (k + 1)).dropWhile (· == 48) = l.dropWhile (· == 48) := by
  obtain ⟨i1, e1⟩ := List.getElem?_eq_some_iff.1 h
  rw [← hk, ← List.getElem_cons_drop i1, e1, List.dropWhile_cons]
  simp
theorem stop_nought {l : List UInt8} {k : Nat} {c : UInt8} (hk : (l.drop k).dropWhile (· == 48) = l.dropWhile (· == 48)) (h : l[k]? = some c) (hc : c ≠ 48) : l.drop k = l.dropWhile (· == 48) := by
  obtain ⟨i1, e1⟩ := List.getElem?_eq_some_iff.1 h
  rw [← hk, ← List.getElem_cons_drop i1, e1, List.dropWhile_cons]
  simp [hc]

set_option maxHeartbeats 1600000 in
set_option maxRecDepth 100000 in
theorem sliteByte_any (S : ByteArray) (l : List UInt8) (c : Int) (w : World) (hS : StrIs S l) :
    Calls Tryd.prog 41 #[.string S, .int .u8 c] w fun e w' => e = .returned (.int .i64 (Lib.indexByte l c.toNat.toUInt8)) ∧ w = w' := by
  subst hS
  go_enter Tryd.func41, Tryd.ntmps41
  go_wp2
  rw [run_callFunc_extern Tryd.func51 (by kernel_rfl) (by kernel_rfl) (by kernel_rfl) (e := Extern.BytealgIndexByte.indexByte) (by kernel_rfl), Lib.run_indexByteString]
  simp only [Result.andThen]
  rw [Oper.upon_value]
  go_wp2
  go_ret
  exact ⟨rfl, rfl⟩
/-- The call ends with a bool; the world is as it was. -/
def RetBool (w : World) (e : Ending) (w' : World) : Prop := ∃ b, e = .returned (.bool b) ∧ w = w'
end Go.Proofs.YtbfflcpmagjlnaaDoor.str
namespace Go.Proofs.YtbfflcpmagjlnaaDoor.str
open Go.RowKit Go.Proofs.YtbfflcpmagjlnaaDoor.num Go.Proofs.YtbfflcpmagjlnaaDoor.mem Go.Proofs.YtbfflcpmagjlnaaDoor.txt
set_option linter.unusedVariables false

theorem indexByte_none {l : List UInt8} {c : UInt8} (h : ∀ b ∈ l, b ≠ c) : Lib.indexByte l c = -1 := by
  induction l with
  | nil => rfl
  | cons b l ih =>
    have h1 : (b == c) = false := by rw [beq_eq_false_iff_ne]; exact h b (by simp)
    rw [Lib.indexByte, h1, ih fun x hx => h x (by simp [hx])]; rfl
/-- A rune above ASCII as a string: more than one byte, the last one above ASCII. -/
theorem encode_high (r : Int) (h : 128 ≤ r) : ∃ R : ByteArray, Utf8.encode r = R ∧ 2 ≤ R.size ∧ R.size ≤ 4 ∧ ∀ hl : R.size - 1 < R.size, 128 ≤ (R[R.size - 1]'hl).toNat ∧ (R[R.size - 1]'hl).toNat < 256 := by
  refine ⟨_, rfl, ?_⟩
  have hv : 128 ≤ (if Utf8.valid r then r.toNat else Utf8.runeError) := by
    split
    · omega
    · decide
  unfold Utf8.encode
  generalize (if Utf8.valid r then r.toNat else Utf8.runeError) = c at hv ⊢
  have hv2 : ¬ c < 128 := by omega
  have hb : ∀ n, n < 256 → 128 ≤ n → 128 ≤ (UInt8.ofNat n).toNat ∧ (UInt8.ofNat n).toNat < 256 := by
    intro n h1 h2
    rw [UInt8.toNat_ofNat_of_lt' (by simpa using h1)]; omega
  have hm : 128 ≤ 128 + c % 64 ∧ 128 + c % 64 < 256 := by omega
  by_cases h2 : c < 2048
  · simp only [hv2, h2, if_false, if_true]
    exact ⟨by simp [ByteArray.size], by simp [ByteArray.size], fun hl => hb (128 + c % 64) hm.2 hm.1⟩
  · by_cases h3 : c < 65536
    · simp only [hv2, h2, h3, if_false, if_true]
      exact ⟨by simp [ByteArray.size], by simp [ByteArray.size], fun hl => hb (128 + c % 64) hm.2 hm.1⟩
    · simp only [hv2, h2, h3, if_false]
      exact ⟨by simp [ByteArray.size], by simp [ByteArray.size], fun hl => hb (128 + c % 64) hm.2 hm.1⟩
theorem run_rune_string (r : Int) (w : World) : (convert 21 9 (.int .i32 r)).run Tryd.prog w = .ok (.string (Utf8.encode r)) w := by
  simp [convert, run_underlying Tryd.underlying21, run_underlying Tryd.underlying9, Conv.intToString]
/-- A text of ASCII. -/
def Asc (l : List UInt8) : Prop := ∀ c ∈ l, c.toNat < 128

end Go.Proofs.YtbfflcpmagjlnaaDoor.str
namespace Go.Proofs.YtbfflcpmagjlnaaDoor.str
open Go.RowKit Go.Proofs.YtbfflcpmagjlnaaDoor.num Go.Proofs.YtbfflcpmagjlnaaDoor.mem Go.Proofs.YtbfflcpmagjlnaaDoor.txt
set_option linter.unusedVariables false

theorem quiet_add_same {P : Program} {f : FuncId} {args : Array Value} {w : World} {a n : Nat} {v : Value}
    (h : Calls P f args (w.drewN (a + n)) fun e w' => e = .returned v ∧ w' = w.drewN (a + n)) :
    Calls P f args (w.drewN (a + n)) fun e w'' => e = .returned v ∧ ∃ m, w'' = w.drewN (a + m) :=
  h.mono fun _ _ ⟨he, hm⟩ => ⟨he, n, hm⟩
end Go.Proofs.YtbfflcpmagjlnaaDoor.str
namespace Go.Proofs.YtbfflcpmagjlnaaDoor.str
open Go.RowKit Go.Proofs.YtbfflcpmagjlnaaDoor.num Go.Proofs.YtbfflcpmagjlnaaDoor.mem Go.Proofs.YtbfflcpmagjlnaaDoor.txt
set_option linter.unusedVariables false

theorem indexByte_take (l : List UInt8) (b : Nat) (c : UInt8) : Lib.indexByte (l.take b) c = if Lib.indexByte l c < b then Lib.indexByte l c else -1 := by
  induction l generalizing b with
  | nil => rw [List.take_nil]; unfold Lib.indexByte; split <;> rfl
  | cons d l ih =>
    have hg := Lib.indexByte_ge l c
    cases b with
    | zero =>
      rw [List.take_zero]
      have := Lib.indexByte_ge (d :: l) c
      split
      · unfold Lib.indexByte at *; omega
      · rfl
    | succ b =>
      rw [List.take_succ_cons]
      rw [Lib.indexByte, Lib.indexByte, ih b]
      by_cases h : (d == c) = true
      · rw [if_pos h, if_pos h, if_pos (by omega)]
      · rw [if_neg h, if_neg h]
        generalize Lib.indexByte l c = i at hg ⊢
        simp only [beq_iff_eq]
        by_cases h3 : i < (b : Int)
        · simp only [if_pos h3]
          (repeat' split) <;> omega
        · rw [if_neg h3, if_pos rfl]
          (repeat' split) <;> omega
theorem figs_at (b : Nat) (hb : b ≤ 36) (c : UInt8) : Lib.indexByte (figs.take b) c = if dv c < b then (dv c : Int) else -1 := by
  have h : ∀ j : Fin 256, Lib.indexByte figs (UInt8.ofNat j.1) = if dv (UInt8.ofNat j.1) < 36 then (dv (UInt8.ofNat j.1) : Int) else -1 := by decide +kernel
  have h1 := h ⟨c.toNat, c.toNat_lt⟩
  simp only [UInt8.ofNat_toNat] at h1
  rw [indexByte_take, h1]
  by_cases h2 : dv c < 36
  · rw [if_pos h2]
    by_cases h3 : dv c < b
    · rw [if_pos h3, if_pos (by omega)]
    · rw [if_neg h3, if_neg (by omega)]
  · rw [if_neg h2, if_neg (by omega : ¬ dv c < b)]
    split <;> rfl
theorem figs_asc (b : Nat) : Asc (figs.take b) := by
  intro c hc
  have h : ∀ c ∈ figs, c.toNat < 128 := by decide
  exact h c (List.mem_of_mem_take hc)
/-- What a rune counts among the digits of base b; -1: it is none. -/
def dvi (b : Nat) (r : Int) : Int := if r < 128 ∧ dv r.toNat.toUInt8 < b then (dv r.toNat.toUInt8 : Int) else -1
end Go.Proofs.YtbfflcpmagjlnaaDoor.str
