/- Plain mathematics of layer 4: a number divided by a limb, by a number limb by limb (Knuth's way), and bit by bit. No program stands here.
Plain mathematics of layer 4: a division bit by bit. No program stands here.
Package limb: Div; package divide: trimmed, Small. Condition: slices read as limbs.
Package divide: takeOff, putBack, guess, step. Condition: slices read as limbs; what is changed is a part of a row of the caller's own, and the divisor lies elsewhere.
Package divide: long, Div, Exact, Mod, Divides. Condition: slices read as limbs.
Package divide: Div, Exact, Mod, Divides. Condition: slices read as limbs.
Package divide: Plain. Condition: slices read as limbs.
The document's Div, Small, Exact, Divides of layer 4, and the chapter's example. Condition: slices read as limbs. -/
import Derived.Test.YtbebmknfecehnaaGreatMulT
import Derived.Laws.Bits64b
import Derived.Deep.AppendLies
import Derived.Maps.AppendAt
import Derived.IntWalk
import Derived.Test.YtbebmknfecehnaaGreatLawN
import Derived.Deep.RegionLaw
import Derived.Test.YtbebmknfecehnaaGreatRefM
import Derived.RegionTactic
namespace Go.Proofs.YtbebmknfecehnaaGreat.num
set_option linter.unusedVariables false

theorem set_drop_behind {l : List Nat} {i x : Nat} : (l.set i x).drop (i + 1) = l.drop (i + 1) := by
  apply List.ext_getElem?
  intro j
  rw [List.getElem?_drop, List.getElem?_drop, List.getElem?_set_ne (by omega)]
theorem setDrop {o : List Nat} {j x : Nat} (h : j < o.length) : (o.set j x).drop j = x :: o.drop (j + 1) := by
  rw [drop_at (List.getElem?_set_self h), set_drop_behind]
/-- What Small's loop keeps while k limbs are still to come. -/
def DQ (B : Nat) (l : List Nat) (d k r : Nat) (o : List Nat) : Prop := Lt B o ∧ o.length = l.length ∧ val B (o.drop k) * d + r = val B (l.drop k) ∧ r < d
theorem DQ.start {B : Nat} (hB : 0 < B) (l : List Nat) {d : Nat} (hd : 1 ≤ d) : DQ B l d l.length 0 (List.replicate l.length 0) := by
  unfold DQ; exact ⟨Lt.rep hB _, by simp, by simp [val], by omega⟩
theorem DQ.step {B : Nat} {l o : List Nat} {d j r a q s : Nat} (h : DQ B l d (j + 1) r o) (hl : l[j]? = some a) (hq : q < B) (hs : s < d) (he : q * d + s = B * r + a) : DQ B l d j s (o.set j q) := by
  unfold DQ at h ⊢
  obtain ⟨h1, h2, h3, h4⟩ := h
  have hj : j < l.length := (List.getElem?_eq_some_iff.1 hl).1
  refine ⟨h1.set hq j, by simpa using h2, ?_, hs⟩
  rw [setDrop (by omega), val_cons, val_drop_step hl, ← h3, Nat.add_mul, Nat.mul_assoc, Nat.mul_add]
  omega
theorem DQ.done {B : Nat} {l o : List Nat} {d r : Nat} (h : DQ B l d 0 r o) : Lt B o ∧ o.length = l.length ∧ val B o = val B l / d ∧ r = val B l % d := by
  unfold DQ at h
  obtain ⟨h1, h2, h3, h4⟩ := h
  simp only [List.drop_zero] at h3
  refine ⟨h1, h2, ?_, ?_⟩
  · rw [← h3, Nat.mul_comm, Nat.mul_add_div (by omega), Nat.div_eq_of_lt h4, Nat.add_zero]
  · rw [← h3, Nat.mul_comm, Nat.mul_add_mod, Nat.mod_eq_of_lt h4]

/-- What takeOff keeps behind i limbs: u is to be carried, kept is 1 as long as nothing is lent. -/
def TO (B : Nat) (p0 b p : List Nat) (t i u kept : Nat) : Prop := Lt B p ∧ p.length = p0.length ∧ p.drop i = p0.drop i ∧ u < B ∧ kept ≤ 1 ∧ val B (p.take i) + B ^ i * kept + val B (b.take i) * t = val B (p0.take i) + B ^ i + B ^ i * u
theorem TO.start {B : Nat} {p : List Nat} (hp : Lt B p) (hB : 0 < B) (b : List Nat) (t : Nat) : TO B p b p t 0 0 1 := ⟨hp, rfl, rfl, hB, by omega, by simp [val]⟩
theorem at_of_drop {l m : List Nat} {i d : Nat} (h : l.drop i = m.drop i) (hd : l[i]? = some d) : m[i]? = some d := by
  have e := congrArg (fun x => x[0]?) h
  simp only [List.getElem?_drop, Nat.add_zero] at e
  rw [← e]; exact hd
theorem set_take_self {l : List Nat} {i x : Nat} : (l.set i x).take i = l.take i := by
  apply List.ext_getElem?
  intro j
  rw [List.getElem?_take, List.getElem?_take]
  split
  · rw [List.getElem?_set_ne (by omega)]
  · rfl
theorem TO.next {B : Nat} {p0 b p : List Nat} {t i u kept d e low up s k' : Nat} (h : TO B p0 b p t i u kept) (hd : p[i]? = some d) (he : b[i]? = some e) (hlow : low < B) (hup : up < B) (hm : low + B * up = e * t + u) (hs : s < B) (hk : s + B * k' = d + (B - 1 - low) + kept) : TO B p0 b (p.set i s) t (i + 1) up k' := by
  obtain ⟨h1, h2, h3, h4, h5, h6⟩ := h
  have hi : i < p.length := (List.getElem?_eq_some_iff.1 hd).1
  have hd1 := h1.at hd
  have hk1 : k' ≤ 1 := by
    rcases Nat.lt_or_ge 1 k' with h | h
    · have := Nat.mul_le_mul_left B h; omega
    · exact h
  refine ⟨h1.set hs i, by simpa using h2, ?_, hup, hk1, ?_⟩
  · rw [set_drop_behind, ← List.drop_drop, ← List.drop_drop, h3]
  · have e0 := at_of_drop h3 hd
    have e1 : val B ((p.set i s).take (i + 1)) = val B (p.take i) + B ^ i * s := by
      rw [val_take_step (List.getElem?_set_self hi), set_take_self]
    have e2 := val_take_step (B := B) e0
    have e3 := val_take_step (B := B) he
    rw [e1, e2, e3, Nat.add_mul, Nat.pow_succ]
    have a1 : B ^ i * s + B ^ i * B * k' = B ^ i * d + B ^ i * (B - 1 - low) + B ^ i * kept := by
      rw [Nat.mul_assoc, ← Nat.mul_add, hk, Nat.mul_add, Nat.mul_add]
    have a2 : B ^ i * low + B ^ i * B * up = B ^ i * e * t + B ^ i * u := by
      rw [Nat.mul_assoc, ← Nat.mul_add, hm, Nat.mul_add, Nat.mul_assoc]
    have a3 : B ^ i * (B - 1 - low) + B ^ i + B ^ i * low = B ^ i * B := by
      have : B - 1 - low + 1 + low = B := by omega
      rw [← Nat.mul_succ, ← Nat.mul_add]; congr 1
    omega
theorem TO.last {B : Nat} {p0 b p : List Nat} {t u kept d s k' : Nat} (h : TO B p0 b p t b.length u kept) (hl : p0.length = b.length + 1) (hd : p[b.length]? = some d) (hs : s < B) (hk : s + B * k' = d + (B - 1 - u) + kept) : Lt B (p.set b.length s) ∧ (p.set b.length s).length = p0.length ∧ k' ≤ 1 ∧ val B (p.set b.length s) + B ^ p0.length * k' + val B b * t = val B p0 + B ^ p0.length := by
  obtain ⟨h1, h2, h3, h4, h5, h6⟩ := h
  have hi : b.length < p.length := (List.getElem?_eq_some_iff.1 hd).1
  have hd1 := h1.at hd
  have hk1 : k' ≤ 1 := by
    rcases Nat.lt_or_ge 1 k' with h | h
    · have := Nat.mul_le_mul_left B h; omega
    · exact h
  refine ⟨h1.set hs _, by simpa using h2, hk1, ?_⟩
  have e0 := at_of_drop h3 hd
  have e1 : val B (p.set b.length s) = val B (p.take b.length) + B ^ b.length * s := by
    have e := val_take_step (B := B) (List.getElem?_set_self (a := s) hi)
    rw [set_take_self, List.take_of_length_le (by rw [List.length_set]; omega)] at e
    exact e
  have e2 : val B p0 = val B (p0.take b.length) + B ^ b.length * d := by
    have e := val_take_step (B := B) e0
    rwa [List.take_of_length_le (by omega)] at e
  rw [List.take_length] at h6
  rw [e1, e2, hl, Nat.pow_succ]
  have a1 : B ^ b.length * s + B ^ b.length * B * k' = B ^ b.length * d + B ^ b.length * (B - 1 - u) + B ^ b.length * kept := by
    rw [Nat.mul_assoc, ← Nat.mul_add, hk, Nat.mul_add, Nat.mul_add]
  have a3 : B ^ b.length * (B - 1 - u) + B ^ b.length + B ^ b.length * u = B ^ b.length * B := by
    have : B - 1 - u + 1 + u = B := by omega
    rw [← Nat.mul_succ, ← Nat.mul_add]; congr 1
  omega

/-- What putBack keeps behind i limbs. -/
def PB (B : Nat) (p0 b p : List Nat) (i u : Nat) : Prop := Lt B p ∧ p.length = p0.length ∧ p.drop i = p0.drop i ∧ u < B ∧ val B (p.take i) + B ^ i * u = val B (p0.take i) + val B (b.take i)
theorem PB.start {B : Nat} {p : List Nat} (hp : Lt B p) (hB : 0 < B) (b : List Nat) : PB B p b p 0 0 := ⟨hp, rfl, rfl, hB, by simp [val]⟩
theorem PB.next {B : Nat} {p0 b p : List Nat} {i u d e s u' : Nat} (h : PB B p0 b p i u) (hd : p[i]? = some d) (he : b[i]? = some e) (hs : s < B) (hu : u' < B) (hk : s + B * u' = d + e + u) : PB B p0 b (p.set i s) (i + 1) u' := by
  obtain ⟨h1, h2, h3, h4, h6⟩ := h
  have hi : i < p.length := (List.getElem?_eq_some_iff.1 hd).1
  refine ⟨h1.set hs i, by simpa using h2, ?_, hu, ?_⟩
  · rw [set_drop_behind, ← List.drop_drop, ← List.drop_drop, h3]
  · have e0 := at_of_drop h3 hd
    have e1 : val B ((p.set i s).take (i + 1)) = val B (p.take i) + B ^ i * s := by
      rw [val_take_step (List.getElem?_set_self hi), set_take_self]
    have e2 := val_take_step (B := B) e0
    have e3 := val_take_step (B := B) he
    rw [e1, e2, e3, Nat.pow_succ]
    have a1 : B ^ i * s + B ^ i * B * u' = B ^ i * d + B ^ i * e + B ^ i * u := by
      rw [Nat.mul_assoc, ← Nat.mul_add, hk, Nat.mul_add, Nat.mul_add]
    omega
/-- Behind the last limb, of which what is carried on is left out. -/
theorem PB.last {B : Nat} {p0 b p : List Nat} {u d s k : Nat} (h : PB B p0 b p b.length u) (hl : p0.length = b.length + 1) (hd : p[b.length]? = some d) (hs : s < B) (hk : s + B * k = d + u) : Lt B (p.set b.length s) ∧ (p.set b.length s).length = p0.length ∧ val B (p.set b.length s) + B ^ p0.length * k = val B p0 + val B b := by
  obtain ⟨h1, h2, h3, h4, h6⟩ := h
  have hi : b.length < p.length := (List.getElem?_eq_some_iff.1 hd).1
  refine ⟨h1.set hs _, by simpa using h2, ?_⟩
  have e0 := at_of_drop h3 hd
  have e1 : val B (p.set b.length s) = val B (p.take b.length) + B ^ b.length * s := by
    have e := val_take_step (B := B) (List.getElem?_set_self (a := s) hi)
    rw [set_take_self, List.take_of_length_le (by rw [List.length_set]; omega)] at e
    exact e
  have e2 : val B p0 = val B (p0.take b.length) + B ^ b.length * d := by
    have e := val_take_step (B := B) e0
    rwa [List.take_of_length_le (by omega)] at e
  rw [List.take_length] at h6
  rw [e1, e2, hl, Nat.pow_succ]
  have a1 : B ^ b.length * s + B ^ b.length * B * k = B ^ b.length * d + B ^ b.length * u := by
    rw [Nat.mul_assoc, ← Nat.mul_add, hk, Nat.mul_add]
  omega

/-- A guess: the quotient, or one more. -/
def Guess (V D t : Nat) : Prop := V / D ≤ t ∧ t ≤ V / D + 1
/-- A guess that was not too much. -/
theorem Guess.right {V D t V' : Nat} (h : Guess V D t) (hD : 0 < D) (hv : V' + D * t = V) : t = V / D ∧ V' = V % D := by
  have h1 : t ≤ V / D := (Nat.le_div_iff_mul_le hD).2 (by rw [Nat.mul_comm]; omega)
  have h2 : t = V / D := Nat.le_antisymm h1 h.1
  refine ⟨h2, ?_⟩
  have := Nat.mod_add_div V D
  rw [← h2] at this
  omega
/-- One that was: what was lent is given back. -/
theorem Guess.more {V D t V' W M k : Nat} (h : Guess V D t) (hD : 0 < D) (hV' : V' < M) (hv : V' + D * t = V + M) (hW : W + M * k = V' + D) (hWM : W < M) (hVM : V < M) : t = V / D + 1 ∧ W = V % D := by
  have h1 : V < D * t := by omega
  have h2 : V / D < t := Nat.div_lt_of_lt_mul h1
  have h3 : t = V / D + 1 := by have := h.2; omega
  refine ⟨h3, ?_⟩
  have e := Nat.mod_add_div V D
  rw [h3, Nat.mul_add, Nat.mul_one] at hv
  have h4 : V' + D = V % D + M := by omega
  have h5 : V % D < M := Nat.lt_of_le_of_lt (Nat.mod_le _ _) hVM
  have hk : k = 1 := by
    rcases Nat.lt_or_ge k 1 with h | h
    · have : k = 0 := by omega
      subst this; omega
    · rcases Nat.lt_or_ge 1 k with h' | h'
      · have := Nat.mul_le_mul_left M h'; omega
      · omega
  subst hk
  omega

/-- A number by its last three limbs, and what lies below. -/
theorem three {B : Nat} {p : List Nat} {n a b c : Nat} (hp : p.length = n + 3) (ha : p[n + 2]? = some a) (hb : p[n + 1]? = some b) (hc : p[n]? = some c) : val B p = val B (p.take n) + B ^ n * ((a * B + b) * B + c) := by
  have e1 := val_take_step (B := B) ha
  have e2 := val_take_step (B := B) hb
  have e3 := val_take_step (B := B) hc
  rw [List.take_of_length_le (by omega)] at e1
  rw [e1, show n + 2 = n + 1 + 1 from rfl, e2, e3, Nat.add_mul, Nat.mul_add, Nat.mul_add]
  simp only [Nat.pow_succ]
  have x1 : B ^ n * B * B * a = B ^ n * (a * B * B) := by simp only [Nat.mul_assoc, Nat.mul_left_comm, Nat.mul_comm]
  have x2 : B ^ n * B * b = B ^ n * (b * B) := by simp only [Nat.mul_assoc, Nat.mul_left_comm, Nat.mul_comm]
  omega
theorem two {B : Nat} {p : List Nat} {n a b : Nat} (hp : p.length = n + 2) (ha : p[n + 1]? = some a) (hb : p[n]? = some b) : val B p = val B (p.take n) + B ^ n * (a * B + b) := by
  have e1 := val_take_step (B := B) ha
  have e2 := val_take_step (B := B) hb
  rw [List.take_of_length_le (by omega)] at e1
  rw [e1, e2, Nat.mul_add, Nat.pow_succ]
  have x2 : B ^ n * B * a = B ^ n * (a * B) := by simp only [Nat.mul_assoc, Nat.mul_left_comm, Nat.mul_comm]
  omega
/-- The guess while it is put right: t times v and left are the two highest limbs; t is never too little. -/
def GU (B V D u1 u0 v t left : Nat) : Prop := t * v + left = u1 * B + u0 ∧ V / D ≤ t ∧ t < B
/-- Where the guess is too much by the next limbs, it is by the whole. -/
theorem GU.step {B V D u1 u0 v t left c b2 n X Y : Nat} (h : GU B V D u1 u0 v t left) (hV : V = X + B ^ n * ((u1 * B + u0) * B + c)) (hX : X < B ^ n) (hD : D = Y + B ^ n * (v * B + b2)) (hc : left * B + c < t * b2) : 1 ≤ t ∧ GU B V D u1 u0 v (t - 1) (left + v) := by
  obtain ⟨h1, h2, h3⟩ := h
  have ht : 1 ≤ t := by
    rcases Nat.eq_zero_or_pos t with h | h
    · subst h; omega
    · exact h
  have hp : 0 < B ^ n := by omega
  have k1 : (u1 * B + u0) * B + c + 1 ≤ t * (v * B + b2) := by
    have : t * (v * B + b2) = (t * v) * B + t * b2 := by rw [Nat.mul_add, Nat.mul_assoc]
    rw [this, ← h1, Nat.add_mul]; omega
  have k2 := Nat.mul_le_mul_left (B ^ n) k1
  have k3 : V < D * t := by
    have : D * t = Y * t + B ^ n * (t * (v * B + b2)) := by rw [hD, Nat.add_mul, Nat.mul_assoc, Nat.mul_comm t]
    rw [this, hV]
    rw [Nat.mul_succ] at k2
    omega
  have k4 : V / D < t := Nat.div_lt_of_lt_mul k3
  refine ⟨ht, ?_, by omega, by omega⟩
  have : (t - 1) * v + v = t * v := by rw [← Nat.succ_mul]; congr 1; omega
  omega
/-- Where it isn't, it is one too much at most. -/
theorem GU.done {B V D u1 u0 v t left c b2 n X Y : Nat} (h : GU B V D u1 u0 v t left) (hV : V = X + B ^ n * ((u1 * B + u0) * B + c)) (hD : D = Y + B ^ n * (v * B + b2)) (hY : Y < B ^ n) (hv : 0 < v) (hc : t * b2 ≤ left * B + c) : Guess V D t := by
  obtain ⟨h1, h2, h3⟩ := h
  refine ⟨h2, ?_⟩
  have k1 : t * (v * B + b2) ≤ (u1 * B + u0) * B + c := by
    have : t * (v * B + b2) = (t * v) * B + t * b2 := by rw [Nat.mul_add, Nat.mul_assoc]
    rw [this, ← h1, Nat.add_mul]; omega
  have k2 := Nat.mul_le_mul_left (B ^ n) k1
  have hD0 : B ^ n * B ≤ D := by
    rw [hD]
    have := Nat.mul_le_mul_left (B ^ n) (show B ≤ v * B + b2 by have := Nat.mul_le_mul_right B hv; omega)
    omega
  have hp : 0 < B ^ n := by omega
  have hDp : 0 < D := by
    have : 0 < B ^ n * B := Nat.mul_pos hp (by omega)
    omega
  have k3 : D * t ≤ V + D := by
    have e : D * t = Y * t + B ^ n * (t * (v * B + b2)) := by rw [hD, Nat.add_mul, Nat.mul_assoc, Nat.mul_comm t]
    have g : Y * t ≤ B ^ n * B := Nat.mul_le_mul (by omega) (by omega)
    have e2 : B ^ n * (t * (v * B + b2)) ≤ V := by rw [hV]; omega
    rw [e]; omega
  rcases Nat.eq_zero_or_pos t with h | h
  · subst h; exact Nat.zero_le _
  · have : t - 1 ≤ V / D := by
      rw [Nat.le_div_iff_mul_le hDp]
      have : D * (t - 1) + D = D * t := by rw [← Nat.mul_succ]; congr 1; omega
      rw [Nat.mul_comm]; omega
    omega
theorem GU.start_div {B V D u1 u0 v c n X Y b2 : Nat} (hV : V = X + B ^ n * ((u1 * B + u0) * B + c)) (hX : X < B ^ n) (hc : c < B) (h0 : u0 < B) (hD : D = Y + B ^ n * (v * B + b2)) (hu : u1 < v) : GU B V D u1 u0 v ((u1 * B + u0) / v) ((u1 * B + u0) % v) := by
  have hq : (u1 * B + u0) / v < B := Nat.div_lt_of_lt_mul (by
    have : (u1 + 1) * B ≤ v * B := Nat.mul_le_mul_right B hu
    rw [Nat.add_mul] at this; omega)
  have hm : (u1 * B + u0) / v * v + (u1 * B + u0) % v = u1 * B + u0 := by rw [Nat.mul_comm]; exact Nat.div_add_mod _ _
  refine ⟨hm, ?_, hq⟩
  have hp : 0 < B ^ n := by omega
  have hDp : 0 < D := by
    have : 0 < B ^ n * (v * B + b2) := Nat.mul_pos hp (by have := Nat.mul_pos (show 0 < v by omega) (show 0 < B by omega); omega)
    omega
  refine Nat.le_of_lt_succ (Nat.div_lt_of_lt_mul ?_)
  have hr : (u1 * B + u0) % v < v := Nat.mod_lt _ (by omega)
  obtain ⟨q, hqe⟩ : ∃ q, q = (u1 * B + u0) / v := ⟨_, rfl⟩
  rw [← hqe] at hm ⊢
  have k1 : u1 * B + u0 + 1 ≤ (q + 1) * v := by rw [Nat.add_mul]; omega
  have k2 : (u1 * B + u0) * B + c + 1 ≤ (q + 1) * (v * B + b2) := by
    have a := Nat.mul_le_mul_right B k1
    rw [Nat.add_mul] at a
    rw [Nat.mul_add (q + 1), ← Nat.mul_assoc]; omega
  have k3 := Nat.mul_le_mul_left (B ^ n) k2
  have e : (Y + B ^ n * (v * B + b2)) * (q + 1) = Y * (q + 1) + B ^ n * ((q + 1) * (v * B + b2)) := by rw [Nat.add_mul, Nat.mul_assoc, Nat.mul_comm (v * B + b2)]
  show V < D * (q + 1)
  rw [hV, hD, e]
  rw [Nat.mul_succ] at k3
  omega
theorem GU.start_top {B V D u1 u0 v c n X Y b2 : Nat} (hV : V = X + B ^ n * ((u1 * B + u0) * B + c)) (hD : D = Y + B ^ n * (v * B + b2)) (hY : Y < B ^ n) (hb2 : b2 < B) (hVD : V < B * D) (hu : v ≤ u1) (hv : 0 < v) (hB : 0 < B) : u1 = v ∧ GU B V D u1 u0 v (B - 1) (u1 + u0) := by
  have hDp : 0 < D := by
    rcases Nat.eq_zero_or_pos D with h | h
    · subst h; omega
    · exact h
  have h1 : u1 = v := by
    rcases Nat.lt_or_ge v u1 with h | h
    · exfalso
      have a1 : D < B ^ n * (v * B + B) := by
        have := Nat.mul_le_mul_left (B ^ n) (show v * B + b2 + 1 ≤ v * B + B by omega)
        rw [Nat.mul_succ] at this
        omega
      have a2 : B * D < B * (B ^ n * ((v + 1) * B)) := Nat.mul_lt_mul_of_pos_left (by rw [Nat.add_mul, Nat.one_mul]; exact a1) hB
      have a3 : B * (B ^ n * ((v + 1) * B)) ≤ B ^ n * ((u1 * B + u0) * B + c) := by
        have e : B * (B ^ n * ((v + 1) * B)) = B ^ n * ((v + 1) * B * B) := by simp only [Nat.mul_left_comm, Nat.mul_comm]
        rw [e]
        refine Nat.mul_le_mul_left _ ?_
        have := Nat.mul_le_mul_right B (Nat.mul_le_mul_right B h)
        refine Nat.le_trans this ?_
        rw [Nat.add_mul (u1 * B)]
        exact Nat.le_trans (Nat.le_add_right _ _) (Nat.le_add_right _ _)
      omega
    · omega
  refine ⟨h1, ?_, ?_, by omega⟩
  · subst h1
    have : (B - 1) * u1 + u1 = u1 * B := by rw [← Nat.succ_mul, Nat.mul_comm]; congr 1; omega
    omega
  · have : V / D < B := Nat.div_lt_of_lt_mul (by rw [Nat.mul_comm]; exact hVD)
    omega

/-- What long's loop keeps while k limbs of the quotient are still to come. -/
def KD (B x D N : Nat) (P O : List Nat) (k : Nat) : Prop := Lt B P ∧ P.length = N ∧ Lt B O ∧ val B P + D * (B ^ k * val B (O.drop k)) = x ∧ val B (P.drop k) < D
theorem KD.start {B x D m Q : Nat} (hB : 2 ≤ B) (hD : B ^ (m - 1) ≤ D) (hQ : Q ≤ (digs B x).length) (hQm : (digs B x).length - Q ≤ m - 1) : KD B x D ((digs B x).length + 1) (digs B x ++ [0]) (List.replicate Q 0) Q := by
  have h0 := digs_lt hB x
  have e1 : (digs B x ++ [0]).drop Q = (digs B x).drop Q ++ [0] := List.drop_append_of_le_length hQ
  have h1 := val_lt (h0.drop Q)
  rw [List.length_drop] at h1
  have h2 := Nat.pow_le_pow_right (n := B) (by omega) hQm
  refine ⟨h0.snoc (by omega), by simp, Lt.rep (by omega) Q, ?_, ?_⟩
  · rw [val_snoc, val_digs hB, List.drop_of_length_le (by simp), val_nil]; simp
  · rw [e1, val_snoc]; omega
/-- The part that step divides. -/
def seg (P : List Nat) (s m : Nat) : List Nat := (P.drop s).take (m + 1)
theorem seg_len {P : List Nat} {s m N : Nat} (hN : P.length = N) (h : s + m + 1 ≤ N) : (seg P s m).length = m + 1 := by unfold seg; simp; omega
theorem seg_split {P : List Nat} {s m N : Nat} (hN : P.length = N) (h : s + m + 1 ≤ N) : P.take s ++ seg P s m ++ P.drop (s + m + 1) = P := by
  unfold seg
  have e : P.drop (s + m + 1) = (P.drop s).drop (m + 1) := by rw [List.drop_drop]; congr 1
  rw [e, List.append_assoc, List.take_append_drop, List.take_append_drop]
theorem KD.at {B x D N : Nat} {P O : List Nat} {s m : Nat} (h : KD B x D N P O (s + 1)) (hs : s + m + 1 ≤ N) (hD : D ≤ B ^ m) : Lt B (seg P s m) ∧ val B (seg P s m) < B * D ∧ val B (P.drop (s + m + 1)) = 0 := by
  obtain ⟨h1, h2, h3, h4, h5⟩ := h
  obtain ⟨d, hd⟩ : ∃ d, P[s]? = some d := ⟨_, List.getElem?_eq_getElem (by omega)⟩
  have e1 := val_drop_step (B := B) hd
  have hd1 := h1.at hd
  have e2 : val B (P.drop s) < B * D := by
    have := Nat.mul_le_mul_left B (show val B (P.drop (s + 1)) + 1 ≤ D by omega)
    rw [Nat.mul_add] at this; omega
  have e3 := val_append B (seg P s m) (P.drop (s + m + 1))
  have e4 : seg P s m ++ P.drop (s + m + 1) = P.drop s := by
    have e : P.drop (s + m + 1) = (P.drop s).drop (m + 1) := by rw [List.drop_drop]; congr 1
    unfold seg; rw [e, List.take_append_drop]
  rw [e4, seg_len h2 hs] at e3
  have e5 : B * D ≤ B ^ (m + 1) := by rw [Nat.pow_succ, Nat.mul_comm]; exact Nat.mul_le_mul_right B hD
  refine ⟨(h1.drop s).take _, by omega, ?_⟩
  rcases Nat.eq_zero_or_pos (val B (P.drop (s + m + 1))) with h | h
  · exact h
  · have := Nat.mul_le_mul_left (B ^ (m + 1)) h; omega
theorem KD.step {B x D N : Nat} {P O p' : List Nat} {s m t : Nat} (h : KD B x D N P O (s + 1)) (hs : s + m + 1 ≤ N) (hO : s < O.length) (hD : D ≤ B ^ m) (hDp : 0 < D) (ht : t = val B (seg P s m) / D) (htB : t < B) (hl : Lt B p') (hlen : p'.length = (seg P s m).length) (hv : val B p' = val B (seg P s m) % D) : KD B x D N (P.take s ++ p' ++ P.drop (s + m + 1)) (O.set s t) s := by
  obtain ⟨a1, a2, a3⟩ := h.at hs hD
  obtain ⟨h1, h2, h3, h4, h5⟩ := h
  have hpl := seg_len h2 hs
  have hX : (P.take s).length = s := by simp; omega
  have e0 := seg_split h2 hs
  have e1 : val B P = val B (P.take s) + B ^ s * val B (seg P s m) := by
    have := val_append B (P.take s ++ seg P s m) (P.drop (s + m + 1))
    rw [e0, a3, val_append, hX] at this; simpa using this
  have e2 : val B (P.take s ++ p' ++ P.drop (s + m + 1)) = val B (P.take s) + B ^ s * val B p' := by
    rw [val_append, val_append, a3, hX]; simp
  have e3 : val B ((P.take s ++ p' ++ P.drop (s + m + 1)).drop s) = val B p' := by
    rw [List.append_assoc, List.drop_left' hX, val_append, a3]; simp
  have e4 := Nat.mod_add_div (val B (seg P s m)) D
  rw [← ht, ← hv] at e4
  refine ⟨((h1.take s).append hl).append (h1.drop _), ?_, h3.set htB s, ?_, ?_⟩
  · simp only [List.length_append, hlen, hpl, hX, List.length_drop]; omega
  · rw [setDrop hO, val_cons, e2]
    rw [e1, ← e4, Nat.pow_succ] at h4
    have g1 : D * (B ^ s * (t + B * val B (O.drop (s + 1)))) = B ^ s * (D * t) + D * (B ^ s * B * val B (O.drop (s + 1))) := by
      rw [Nat.mul_add, Nat.mul_add, Nat.mul_left_comm, Nat.mul_assoc (B ^ s) B]
    rw [Nat.mul_add] at h4
    omega
  · rw [e3, hv]; exact Nat.mod_lt _ hDp
theorem KD.done {B x D N : Nat} {P O : List Nat} (h : KD B x D N P O 0) : Lt B P ∧ Lt B O ∧ val B O = x / D ∧ val B P = x % D := by
  obtain ⟨h1, h2, h3, h4, h5⟩ := h
  simp only [List.drop_zero, Nat.pow_zero, Nat.one_mul] at h4 h5
  refine ⟨h1, h3, ?_, ?_⟩
  · rw [← h4, Nat.add_mul_div_left _ _ (by omega), Nat.div_eq_of_lt h5, Nat.zero_add]
  · rw [← h4, Nat.add_mul_mod_self_left, Nat.mod_eq_of_lt h5]
end Go.Proofs.YtbebmknfecehnaaGreat.num
namespace Go.Proofs.YtbebmknfecehnaaGreat.num
set_option linter.unusedVariables false

/-- What Plain's loop keeps of the quotient while k bits are still to come. -/
def PL (B x y n : Nat) (O : List Nat) (k : Nat) : Prop := Lt B O ∧ O.length = n ∧ val B O = x / 2 ^ k / y * 2 ^ k
theorem split_at {B : Nat} {l : List Nat} (hl : Lt B l) {i d : Nat} (hd : l[i]? = some d) : val B l / B ^ i = d + B * val B (l.drop (i + 1)) := by
  have il : i < l.length := (List.getElem?_eq_some_iff.1 hd).1
  have h1 := val_append B (l.take i) (l.drop i)
  have h2 := val_lt (hl.take i)
  rw [List.take_append_drop] at h1
  rw [show (l.take i).length = i from by simp; omega] at h1 h2
  rw [h1, Nat.add_mul_div_left _ _ (by omega), Nat.div_eq_of_lt h2, Nat.zero_add, val_drop_step hd]
theorem two_split (j : Nat) : (2 : Nat) ^ j = 4294967296 ^ (j / 32) * 2 ^ (j % 32) := by
  rw [show (4294967296 : Nat) = 2 ^ 32 from by decide, ← Nat.pow_mul, ← Nat.pow_add, Nat.div_add_mod]
theorem base_split {b : Nat} (h : b < 32) : (4294967296 : Nat) = 2 ^ (b + 1) * 2 ^ (31 - b) := by
  rw [← Nat.pow_add, show b + 1 + (31 - b) = 32 by omega]
/-- A bit of a number is a bit of one of its limbs. -/
theorem bit_at {x j d : Nat} (hd : (digs 4294967296 x)[j / 32]? = some d) : d / 2 ^ (j % 32) % 2 = x / 2 ^ j % 2 := by
  have h1 := split_at (digs_lt (B := 4294967296) (by omega) x) hd
  rw [val_digs (by omega)] at h1
  rw [two_split j, ← Nat.div_div_eq_div_mul, h1]
  have hb := base_split (b := j % 32) (Nat.mod_lt _ (by omega))
  generalize val 4294967296 ((digs 4294967296 x).drop (j / 32 + 1)) = r
  rw [hb, Nat.pow_succ, Nat.mul_assoc, Nat.mul_assoc, Nat.add_mul_div_left _ _ (Nat.pow_pos (by omega))]
  omega
/-- The limb of the quotient in which a bit is set has noughts up to that bit. -/
theorem limb_even {O : List Nat} {j o q : Nat} (hO : Lt 4294967296 O) (ho : O[j / 32]? = some o) (hv : val 4294967296 O = q * 2 ^ (j + 1)) : ∃ t, o = 2 ^ (j % 32 + 1) * t := by
  have h1 := split_at hO ho
  have hb := base_split (b := j % 32) (Nat.mod_lt _ (by omega))
  have e : val 4294967296 O / 4294967296 ^ (j / 32) = 2 ^ (j % 32 + 1) * q := by
    rw [hv, Nat.pow_succ, two_split j, Nat.pow_succ]
    have : q * (4294967296 ^ (j / 32) * 2 ^ (j % 32) * 2) = 4294967296 ^ (j / 32) * (2 ^ (j % 32) * 2 * q) := by simp only [Nat.mul_assoc, Nat.mul_comm]
    rw [this, Nat.mul_div_cancel_left _ (Nat.pow_pos (by omega))]
  rw [e] at h1
  have h2 : 2 ^ (j % 32 + 1) ∣ o := by
    have a1 : 2 ^ (j % 32 + 1) ∣ 4294967296 * val 4294967296 (O.drop (j / 32 + 1)) := ⟨2 ^ (31 - j % 32) * val 4294967296 (O.drop (j / 32 + 1)), by rw [← Nat.mul_assoc, ← hb]⟩
    have a2 : 2 ^ (j % 32 + 1) ∣ o + 4294967296 * val 4294967296 (O.drop (j / 32 + 1)) := ⟨q, h1.symm⟩
    exact (Nat.dvd_add_left a1).1 a2
  exact h2
theorem or_add {b t : Nat} : (2 ^ (b + 1) * t) ||| 2 ^ b = 2 ^ (b + 1) * t + 2 ^ b := by
  rw [Nat.two_pow_add_eq_or_of_lt (Nat.pow_lt_pow_right (by omega) (by omega))]
theorem limb_room {b t : Nat} (hb : b < 32) (h : 2 ^ (b + 1) * t < 4294967296) : 2 ^ (b + 1) * t + 2 ^ b < 4294967296 := by
  have h1 := base_split hb
  rw [h1] at h ⊢
  have h2 : t < 2 ^ (31 - b) := Nat.lt_of_mul_lt_mul_left h
  have h3 := Nat.mul_le_mul_left (2 ^ (b + 1)) h2
  have h4 : 2 ^ b < 2 ^ (b + 1) := Nat.pow_lt_pow_right (by omega) (by omega)
  rw [Nat.mul_succ] at h3
  omega
theorem PL.start {B x y n k : Nat} (hB : 0 < B) (h : x < 2 ^ k) : PL B x y n (List.replicate n 0) k := by
  refine ⟨Lt.rep hB n, by simp, ?_⟩
  rw [val_rep, Nat.div_eq_of_lt h]; simp
theorem half_step (x j : Nat) : x / 2 ^ j = 2 * (x / 2 ^ (j + 1)) + x / 2 ^ j % 2 := by
  rw [Nat.pow_succ, ← Nat.div_div_eq_div_mul]; omega
/-- One bit more: the quotient and what is left of the number's upper bits. -/
theorem bit_less {x y j r b : Nat} (hy : 0 < y) (hr : r = x / 2 ^ (j + 1) % y) (hb : b = x / 2 ^ j % 2) (h : r * 2 + b < y) : x / 2 ^ j % y = r * 2 + b ∧ x / 2 ^ j / y = 2 * (x / 2 ^ (j + 1) / y) := by
  have h1 := half_step x j
  have h2 := Nat.mod_add_div (x / 2 ^ (j + 1)) y
  have h3 : 2 * (x / 2 ^ (j + 1) / y) * y + (r * 2 + b) = x / 2 ^ j := by
    rw [h1, ← hb, hr]
    have : 2 * (x / 2 ^ (j + 1) / y) * y = 2 * (y * (x / 2 ^ (j + 1) / y)) := by rw [Nat.mul_assoc, Nat.mul_comm y]
    omega
  constructor
  · rw [← h3, Nat.mul_comm _ y, Nat.mul_add_mod, Nat.mod_eq_of_lt h]
  · rw [← h3, Nat.mul_comm _ y, Nat.mul_add_div hy, Nat.div_eq_of_lt h, Nat.add_zero]
theorem bit_more {x y j r b : Nat} (hy : 0 < y) (hr : r = x / 2 ^ (j + 1) % y) (hb : b = x / 2 ^ j % 2) (h : y ≤ r * 2 + b) : x / 2 ^ j % y = r * 2 + b - y ∧ x / 2 ^ j / y = 2 * (x / 2 ^ (j + 1) / y) + 1 := by
  have h1 := half_step x j
  have h2 := Nat.mod_add_div (x / 2 ^ (j + 1)) y
  have hry : r < y := by rw [hr]; exact Nat.mod_lt _ hy
  have hlt : r * 2 + b - y < y := by omega
  have h3 : (2 * (x / 2 ^ (j + 1) / y) + 1) * y + (r * 2 + b - y) = x / 2 ^ j := by
    rw [h1, ← hb]
    have e : (2 * (x / 2 ^ (j + 1) / y) + 1) * y = 2 * (y * (x / 2 ^ (j + 1) / y)) + y := by rw [Nat.add_mul, Nat.mul_assoc, Nat.mul_comm y]; omega
    omega
  constructor
  · rw [← h3, Nat.mul_comm _ y, Nat.mul_add_mod, Nat.mod_eq_of_lt hlt]
  · rw [← h3, Nat.mul_comm _ y, Nat.mul_add_div hy, Nat.div_eq_of_lt hlt, Nat.add_zero]
theorem PL.stay {B x y n j : Nat} {O : List Nat} (h : PL B x y n O (j + 1)) (hq : x / 2 ^ j / y = 2 * (x / 2 ^ (j + 1) / y)) : PL B x y n O j := by
  obtain ⟨h1, h2, h3⟩ := h
  refine ⟨h1, h2, ?_⟩
  rw [h3, hq, Nat.pow_succ]; simp only [Nat.mul_assoc, Nat.mul_left_comm, Nat.mul_comm]
theorem PL.set {x y n j o : Nat} {O : List Nat} (h : PL 4294967296 x y n O (j + 1)) (ho : O[j / 32]? = some o) (hq : x / 2 ^ j / y = 2 * (x / 2 ^ (j + 1) / y) + 1) : (o ||| 2 ^ (j % 32) = o + 2 ^ (j % 32)) ∧ o + 2 ^ (j % 32) < 4294967296 ∧ PL 4294967296 x y n (O.set (j / 32) (o + 2 ^ (j % 32))) j := by
  obtain ⟨h1, h2, h3⟩ := h
  obtain ⟨t, ht⟩ := limb_even h1 ho h3
  have ho1 := h1.at ho
  have hr := limb_room (b := j % 32) (t := t) (Nat.mod_lt _ (by omega)) (by rw [← ht]; exact ho1)
  rw [← ht] at hr
  refine ⟨by rw [ht]; exact or_add, hr, h1.set hr _, by simpa using h2, ?_⟩
  have e := val_set (B := 4294967296) ho (o + 2 ^ (j % 32))
  rw [Nat.mul_add, ← two_split] at e
  rw [hq, Nat.add_mul]
  have e2 : 2 * (x / 2 ^ (j + 1) / y) * 2 ^ j = x / 2 ^ (j + 1) / y * 2 ^ (j + 1) := by rw [Nat.pow_succ]; simp only [Nat.mul_assoc, Nat.mul_left_comm, Nat.mul_comm]
  omega
theorem PL.done {B x y n : Nat} {O : List Nat} (h : PL B x y n O 0) : Lt B O ∧ O.length = n ∧ val B O = x / y := by
  obtain ⟨h1, h2, h3⟩ := h
  simp at h3
  exact ⟨h1, h2, h3⟩
end Go.Proofs.YtbebmknfecehnaaGreat.num
namespace Go.Proofs.YtbebmknfecehnaaGreat.limb
open Go.RowKit
set_option linter.unusedVariables false
def DivSpec (hi lo d q r e : Int) : Prop :=
  (d % 4294967296 = 0 ∧ q = 0 ∧ r = 0 ∧ e = 3) ∨ (0 < d % 4294967296 ∧ d % 4294967296 ≤ hi % 4294967296 ∧ q = 0 ∧ r = 0 ∧ e = 2) ∨
  (hi % 4294967296 < d % 4294967296 ∧ 0 ≤ q ∧ q < 4294967296 ∧ 0 ≤ r ∧ r < d % 4294967296 ∧ q * (d % 4294967296) + r = (hi % 4294967296) * 4294967296 + lo % 4294967296 ∧ e = 0)
theorem DivSpec.of {hi lo d : Int} (h0 : 0 ≤ hi % 4294967296) (h : hi % 4294967296 < d % 4294967296) (l0 : 0 ≤ lo % 4294967296 ∧ lo % 4294967296 < 4294967296) :
    DivSpec hi lo d ((hi % 4294967296 * 4294967296 + lo % 4294967296) / (d % 4294967296)) ((hi % 4294967296 * 4294967296 + lo % 4294967296) % (d % 4294967296)) 0 := by
  unfold DivSpec
  refine Or.inr (Or.inr ⟨h, Int.ediv_nonneg (by omega) (by omega), ?_, Int.emod_nonneg _ (by omega), Int.emod_lt_of_pos _ (by omega), ?_, rfl⟩)
  · exact Int.ediv_lt_of_lt_mul (by omega) (by omega)
  · rw [Int.mul_comm]; exact Int.mul_ediv_add_emod _ _
theorem div_any (hi lo d : Int) (a0 : 0 ≤ hi) (a1 : hi ≤ 18446744073709551615) (b0 : 0 ≤ lo) (b1 : lo ≤ 18446744073709551615) (c0 : 0 ≤ d) (c1 : d ≤ 18446744073709551615) (w : World) :
    Calls Tryz.prog 111 #[.int .u64 hi, .int .u64 lo, .int .u64 d] w fun e w' =>
      ∃ q r x, e = .returned (.tuple #[.int .u64 q, .int .u64 r, .int .i64 x]) ∧ DivSpec hi lo d q r x ∧ ∃ n, w' = w.drewN n := by
  by_cases hd : d % 4294967296 = 0
  · go_enter Tryz.func111, Tryz.ntmps111
    go_wp2_with (first | (go_at_call 113; refine (low_any _ (by omega) (by omega) _).mono ?_; rintro e w' ⟨rfl, rfl⟩))
    go_ret3
    exact ⟨_, _, _, rfl, by unfold DivSpec; omega, 0, rfl⟩
  · by_cases hh : d % 4294967296 ≤ hi % 4294967296
    · go_enter Tryz.func111, Tryz.ntmps111
      go_wp2_with (first | (go_at_call 113; refine (low_any _ (by omega) (by omega) _).mono ?_; rintro e w' ⟨rfl, rfl⟩))
      go_ret3
      exact ⟨_, _, _, rfl, by unfold DivSpec; omega, 0, rfl⟩
    · go_enter Tryz.func111, Tryz.ntmps111
      go_wp2_with (first | (go_at_call 113; refine (low_any _ (by omega) (by omega) _).mono ?_; rintro e w' ⟨rfl, rfl⟩))
      go_quiet (fail)
      go_wp2
      go_ret3
      exact ⟨_, _, _, rfl, DivSpec.of (by omega) (by omega) (by omega), nq, rfl⟩
end Go.Proofs.YtbebmknfecehnaaGreat.limb
namespace Go.Proofs.YtbebmknfecehnaaGreat.nat
open Go.RowKit Go.Proofs.YtbebmknfecehnaaGreat.num Go.Proofs.YtbebmknfecehnaaGreat.mem Go.Proofs.YtbebmknfecehnaaGreat.limb
set_option linter.unusedVariables false

theorem nat_divmod {D N q r : Nat} (hr : r < D) (h : q * D + r = N) : q = N / D ∧ r = N % D := by
  subst h
  constructor
  · rw [Nat.mul_comm, Nat.mul_add_div (by omega), Nat.div_eq_of_lt hr, Nat.add_zero]
  · rw [Nat.mul_comm, Nat.mul_add_mod, Nat.mod_eq_of_lt hr]
/-- limb.Div ends with a quotient that is a limb, and what is left. -/
theorem div_ok (hiI loI dI : Int) (hi lo d q r : Nat) (w : World) (h1 : hiI = (hi : Int)) (h2 : loI = (lo : Int)) (h3 : dI = (d : Int)) (lh : hi < d % 4294967296) (ll : lo < 4294967296) (ld : d < 18446744073709551616) (hr : r < d % 4294967296) (he : q * (d % 4294967296) + r = hi * 4294967296 + lo) :
    Calls Tryz.prog 111 #[.int .u64 hiI, .int .u64 loI, .int .u64 dI] w fun e w' => e = .returned (.tuple #[.int .u64 (q : Int), .int .u64 (r : Int), .int .i64 0]) ∧ ∃ n, w' = w.drewN n := by
  subst h1; subst h2; subst h3
  refine (limb.div_any _ _ _ (by omega) (by omega) (by omega) (by omega) (by omega) (by omega) w).mono ?_
  rintro e w' ⟨q', r', x, rfl, hs, hn⟩
  unfold DivSpec at hs
  rcases hs with ⟨g, _⟩ | ⟨_, g, _⟩ | ⟨g1, g2, g3, g4, g5, g6, rfl⟩
  · omega
  · omega
  · obtain ⟨q', rfl⟩ := Int.eq_ofNat_of_zero_le g2
    obtain ⟨r', rfl⟩ := Int.eq_ofNat_of_zero_le g4
    have e1 : (d : Int) % 4294967296 = ((d % 4294967296 : Nat) : Int) := by omega
    have e2 : ((q' * (d % 4294967296) : Nat) : Int) = (q' : Int) * ((d % 4294967296 : Nat) : Int) := Int.natCast_mul _ _
    rw [e1] at g5 g6
    rw [← e2] at g6
    have a := nat_divmod hr he
    have b := nat_divmod (q := q') (r := r') (D := d % 4294967296) (by omega) (N := hi * 4294967296 + lo) (by omega)
    rw [a.1, a.2, ← b.1, ← b.2]
    exact ⟨rfl, hn⟩
/-- limb.Div ends with ErrArg. -/
theorem div_top (hiI loI dI : Int) (hi lo d : Nat) (w : World) (h1 : hiI = (hi : Int)) (h2 : loI = (lo : Int)) (h3 : dI = (d : Int)) (lh : d ≤ hi) (lh2 : hi < 4294967296) (ll : lo < 4294967296) (hd : 0 < d) :
    Calls Tryz.prog 111 #[.int .u64 hiI, .int .u64 loI, .int .u64 dI] w fun e w' => e = .returned (.tuple #[.int .u64 0, .int .u64 0, .int .i64 2]) ∧ ∃ n, w' = w.drewN n := by
  subst h1; subst h2; subst h3
  refine (limb.div_any _ _ _ (by omega) (by omega) (by omega) (by omega) (by omega) (by omega) w).mono ?_
  rintro e w' ⟨q', r', x, rfl, hs, hn⟩
  unfold DivSpec at hs
  obtain ⟨rfl, rfl, rfl⟩ : q' = 0 ∧ r' = 0 ∧ x = 2 := by omega
  exact ⟨rfl, hn⟩

set_option maxHeartbeats 400000 in
theorem dtrimmed_any (A : Option Addr) (n c : Nat) (l : List Nat) (w : World) (hn : n = l.length) (hc : l.length ≤ c) (hm : c ≤ maxLen) (hr : Rd w A .u64 l) :
    Calls Tryz.prog 112 #[.slice A n c] w (RetCut A c l w) := by
  subst hn
  unfold maxLen at hm
  go_enter Tryz.func112, Tryz.ntmps112
  go_wp2
  go_loop [0] (fun vs => ∃ n : Nat, n ≤ l.length ∧ Hid (trim (l.take n) = trim l) ∧ vs = .slice A n c) (fun vs => lenOf vs)
  case atStart => exact ⟨l.length, Nat.le_refl _, by rw [List.take_length]; rfl, rfl⟩
  case round =>
    obtain ⟨n, hn, ht, rfl⟩ := hrel
    by_cases hp : 0 < n
    · obtain ⟨n, rfl⟩ : ∃ m, n = m + 1 := ⟨n - 1, by omega⟩
      obtain ⟨ad, d, rfl, hd, hcell⟩ := hr.at_ (i := n) (by omega)
      have HD := Lib.hid hd
      clear hd
      by_cases hz : d = 0
      · subst hz
        go_wp2
        go_round
        case rel => exact ⟨n, by omega, by have h1 := ht.out; rw [trim_take0 HD.out] at h1; exact h1, rfl⟩
        case measure => simp [lenOf]
      · have hz1 : ((d : Int) == 0) = false := by rw [beq_eq_false_iff_ne]; omega
        have e : trim l = l.take (n + 1) := by have h1 := ht.out; rw [trim_of_take HD.out hz] at h1; exact h1.symm
        have el : (trim l).length = n + 1 := by rw [e]; simp; omega
        have HEL := Lib.hid el
        clear e el hz
        go_wp2
        go_ret
        exact ⟨by rw [HEL.out]; rfl, rfl⟩
    · obtain rfl : n = 0 := by omega
      have e : trim l = [] := by have h1 := ht.out; rw [List.take_zero] at h1; exact h1.symm
      have HE := Lib.hid e
      clear e
      go_wp2
      go_ret
      exact ⟨by rw [HE.out]; rfl, rfl⟩

/-- The call ends with a new slice, a limb, and an error. -/
def RetSUE (l : List Nat) (r : Nat) (x : Int) (w : World) (e : Ending) (w' : World) : Prop := ∃ v, e = .returned (.tuple #[v, .int .u64 (r : Int), .int .i64 x]) ∧ IsS w' .u64 v l ∧ Fresh w.heap.size v ∧ Below w.heap.size w w'
/-- The call ends with two new slices, and an error. -/
def RetSSE (l m : List Nat) (x : Int) (w : World) (e : Ending) (w' : World) : Prop := ∃ v u, e = .returned (.tuple #[v, u, .int .i64 x]) ∧ IsS w' .u64 v l ∧ IsS w' .u64 u m ∧ Fresh w.heap.size v ∧ Fresh w.heap.size u ∧ Below w.heap.size w w'

set_option maxHeartbeats 400000 in
theorem dsmall_no (v : Value) (dI : Int) (d : Nat) (w : World) (hdI : dI = (d : Int)) (ld : d < 18446744073709551616) (hd : d % 4294967296 = 0) :
    Calls Tryz.prog 95 #[v, .int .u64 dI] w (RetSUE [] 0 3 w) := by
  subst hdI
  have h1 : (d : Int) ≤ 18446744073709551615 := by omega
  have h2 : (((d : Int) % 4294967296) == 0) = true := by rw [beq_iff_eq]; omega
  clear hd
  go_enter Tryz.func95, Tryz.ntmps95
  go_wp2
  go_ret3
  exact ⟨_, rfl, isNil _ _, fresh_nil _, Below.refl _ _⟩

set_option maxHeartbeats 1600000 in
theorem dsmall_ok (v : Value) (x : Nat) (dI : Int) (d q r : Nat) (w : World) (hdI : dI = (d : Int)) (ld : d < 18446744073709551616) (hd : 0 < d % 4294967296) (h : IsS w .u64 v (digs 4294967296 x)) (hl : (digs 4294967296 x).length ≤ 1000000) (hq : q = x / (d % 4294967296)) (hr : r = x % (d % 4294967296)) :
    Calls Tryz.prog 95 #[v, .int .u64 dI] w (RetSUE (digs 4294967296 q) r 0 w) := by
  subst hdI
  have lx := digs_lt (B := 4294967296) (by omega) x
  have HQ : Hid (q = val 4294967296 (digs 4294967296 x) / (d % 4294967296)) := by show _ = _; rw [val_digs (by omega)]; exact hq
  have HR : Hid (r = val 4294967296 (digs 4294967296 x) % (d % 4294967296)) := by show _ = _; rw [val_digs (by omega)]; exact hr
  clear hq hr
  generalize digs 4294967296 x = xl at h hl lx HQ HR
  obtain ⟨A, k, rfl, hk, hm, hr⟩ := h
  unfold maxLen at hm
  have h1 : (d : Int) ≤ 18446744073709551615 := by omega
  have h2 : (((d : Int) % 4294967296) == 0) = false := by rw [beq_eq_false_iff_ne]; omega
  go_enter Tryz.func95, Tryz.ntmps95
  go_wp2_with (at_make; refine wpList_make_rd rfl _ _ rfl sl24 xl.length rfl rfl (by omega) (by omega) (by omega) (Nat.le_refl _) ?_; intro w1 hown1 hb1 hsz1)
  go_loopw [8, 19] (fun vr vi wr => ∃ (i r : Nat) (P : List Nat), i ≤ xl.length ∧ r < d % 4294967296 ∧ Hid (DQ 4294967296 xl (d % 4294967296) (xl.length - i) r P) ∧ Own wr w.heap.size 55 .u64 (.slice (some ⟨w.heap.size, 0, none⟩) xl.length xl.length) P ∧ Below w.heap.size w wr ∧ vr = .int .u64 (r : Int) ∧ vi = .int .i64 (i : Int)) (fun _ vi _ => xl.length - (intOf vi).toNat)
  case atStart => exact ⟨0, 0, _, by omega, hd, DQ.start (by omega) xl hd, hown1, hb1, rfl, rfl⟩
  case round =>
    clear hown1 hb1 hsz1
    obtain ⟨i, r0, P, hi, hr0, HDQ, hown, hb, rfl, rfl⟩ := hrel
    by_cases hlt : i < xl.length
    · obtain ⟨j, hj⟩ : ∃ j, j = xl.length - 1 - i := ⟨_, rfl⟩
      have hj2 : xl.length - i = j + 1 := by omega
      have hjI : (xl.length : Int) - 1 - (i : Int) = (j : Int) := by omega
      have hjl : j < xl.length := by omega
      obtain ⟨ad, x, rfl, hx, hcell⟩ := (hr.below hb).at_ hjl
      have hx1 := lx.at hx
      have hD := HDQ.out
      rw [hj2] at hD
      have HJ : Hid (xl.length - (i + 1) = j) := by show _ = _; omega
      obtain ⟨a', ha'⟩ : ∃ a', P[j]? = some a' := ⟨_, List.getElem?_eq_getElem (by have := hD.2.1; omega)⟩
      have hc0 := hown.cellAt ha'
      have hf0 := hown.frozenAt j
      obtain ⟨q1, hq1⟩ : ∃ q1, q1 = (r0 * 4294967296 + x) / (d % 4294967296) := ⟨_, rfl⟩
      obtain ⟨s1, hs1⟩ : ∃ s1, s1 = (r0 * 4294967296 + x) % (d % 4294967296) := ⟨_, rfl⟩
      have hs2 : s1 < d % 4294967296 := by rw [hs1]; exact Nat.mod_lt _ hd
      have he : q1 * (d % 4294967296) + s1 = r0 * 4294967296 + x := by rw [hq1, hs1, Nat.mul_comm]; exact Nat.div_add_mod _ _
      have hq2 : q1 < 4294967296 := by rw [hq1]; exact Nat.div_lt_of_lt_mul (by omega)
      have HS : Hid (DQ 4294967296 xl (d % 4294967296) j s1 (P.set j q1)) := hD.step hx hq2 hs2 (by rw [Nat.mul_comm 4294967296]; exact he)
      have HE := Lib.hid he
      clear hj hj2 hx ha' hq1 hs1 he hD
      go_wp2_with fail
      refine (div_ok _ _ _ r0 x d q1 s1 _ rfl rfl rfl hr0 hx1 ld hs2 HE.out).mono ?_
      rintro e1 w2 ⟨rfl, n2, rfl⟩
      have hown2 := hown.stored j q1
      have hb2 : Below w.heap.size w (wr.setCell ⟨w.heap.size, j, none⟩ (.int .u64 (q1 : Int))) := hb.setCell (Nat.le_refl _) _
      go_wp2
      go_roundw
      case rel => exact ⟨i + 1, s1, _, by omega, hs2, by rw [HJ.out]; exact HS, hown2, below_drewN hb2 _, rfl, by go_num⟩
      case measure => simp [intOf]; omega
    · obtain rfl : i = xl.length := by omega
      have hD := HDQ.out
      rw [Nat.sub_self] at hD
      obtain ⟨g1, g2, g3, g4⟩ := hD.done
      rw [← HQ.out] at g3
      rw [← HR.out] at g4
      have hT := trim_digs (by omega) g1
      rw [g3] at hT
      have HT := Lib.hid hT
      have H4 := Lib.hid g4
      obtain ⟨A2, c2, e2, hc2, hm2, hr2⟩ := hown.isS
      injection e2 with e2 e3 e4
      subst e2; subst e4
      have hfr := hown.fresh
      have HL := Lib.hid e3
      clear hT g2 g3 g4 hD e3
      go_wp2_with fail
      refine (dtrimmed_any _ _ _ P _ HL.out hc2 hm2 hr2).mono ?_
      rintro e w' ⟨rfl, rfl⟩
      rw [HT.out]
      go_wp2
      go_ret3
      refine ⟨_, by rw [H4.out]; rfl, ?_, hfr.cut _ _, hb⟩
      have := hr2.isTake (trim_len_le P) hc2 hm2
      rw [← trim_prefix, HT.out] at this
      exact this
end Go.Proofs.YtbebmknfecehnaaGreat.nat
namespace Go.Proofs.YtbebmknfecehnaaGreat.mem
open Go.RowKit Go.Proofs.YtbebmknfecehnaaGreat.num
set_option linter.unusedVariables false
theorem mid_at {X p Y : List Nat} {i d : Nat} (h : p[i]? = some d) : (X ++ p ++ Y)[X.length + i]? = some d := by
  have hi : i < p.length := (List.getElem?_eq_some_iff.1 h).1
  rw [List.append_assoc, List.getElem?_append_right (by omega), Nat.add_sub_cancel_left, List.getElem?_append_left hi]; exact h
theorem mid_set {X p Y : List Nat} {i : Nat} (hi : i < p.length) (t : Nat) : (X ++ p ++ Y).set (X.length + i) t = X ++ p.set i t ++ Y := by
  rw [List.append_assoc, List.set_append_right _ _ (by omega), Nat.add_sub_cancel_left, List.set_append_left _ _ hi, List.append_assoc]
theorem grown_set (w : World) (g o : Nat) (v : Value) : w.grownBy (w.setCell ⟨g, o, none⟩ v) (some g) :=
  ⟨rfl, rfl, rfl, by simp [World.setCell], fun k _ hk => Below.heap_setCell _ _ _ k (fun e => hk (by rw [e]))⟩
theorem grown_drewN {a w : World} {row : Option Nat} (h : a.grownBy w row) (n : Nat) : a.grownBy (w.drewN n) row := ⟨h.os, h.tape, h.output, h.size, h.block⟩
/-- A slice of numbers that lies in another block than g. -/
def Apart (g : Nat) (v : Value) : Prop := ∀ ad n c, v = .slice (some ad) n c → 0 < n → ad.block ≠ g
theorem Rd.grown {w w' : World} {A : Option Addr} {k : IntKind} {l : List Nat} {g c : Nat} (h : Rd w A k l) (hf : Apart g (.slice A l.length c)) (hg : w.grownBy w' (some g)) : Rd w' A k l := by
  intro i d hd
  obtain ⟨ad, rfl, hc⟩ := h i d hd
  have hi : i < l.length := (List.getElem?_eq_some_iff.1 hd).1
  refine ⟨ad, rfl, hg.cell hc ?_⟩
  rw [block_add]
  intro e
  exact hf ad _ _ rfl (by omega) (by simpa using e)
theorem IsS.grown {w w' : World} {k : IntKind} {v : Value} {l : List Nat} {g : Nat} (h : IsS w k v l) (hf : Apart g v) (hg : w.grownBy w' (some g)) : IsS w' k v l := by
  obtain ⟨A, c, rfl, h1, h2, h3⟩ := h
  exact ⟨A, c, rfl, h1, h2, h3.grown hf hg⟩
/-- The part p, ahead of which lies X and behind which Y, of a row of the call's own. -/
def Mid (w : World) (base g n cap s : Nat) (X p Y : List Nat) : Prop := Own w base 55 .u64 (.slice (some ⟨g, 0, none⟩) n cap) (X ++ p ++ Y) ∧ s = X.length
theorem Mid.cellAt {w : World} {base g n cap s : Nat} {X p Y : List Nat} (h : Mid w base g n cap s X p Y) {i d : Nat} (hd : p[i]? = some d) : w.cell? ⟨g, s + i, none⟩ = some (.int .u64 (d : Int)) := by
  obtain ⟨h1, rfl⟩ := h
  exact h1.cellAt (mid_at hd)
theorem Mid.frozenAt {w : World} {base g n cap s : Nat} {X p Y : List Nat} (h : Mid w base g n cap s X p Y) (i : Nat) : w.frozen? ⟨g, s + i, none⟩ = false := h.1.frozenAt _
theorem Mid.stored {w : World} {base g n cap s : Nat} {X p Y : List Nat} (h : Mid w base g n cap s X p Y) {i : Nat} (hi : i < p.length) (d : Nat) : Mid (w.setCell ⟨g, s + i, none⟩ (.int .u64 (d : Int))) base g n cap s X (p.set i d) Y := by
  obtain ⟨h1, rfl⟩ := h
  have := h1.stored (X.length + i) d
  rw [mid_set hi] at this
  exact ⟨this, rfl⟩
theorem Mid.rd {w : World} {base g n cap s : Nat} {X p Y : List Nat} (h : Mid w base g n cap s X p Y) : Rd w (some ⟨g, s, none⟩) .u64 p := by
  intro i d hd
  refine ⟨_, rfl, ?_⟩
  rw [Addr.add_lit]
  exact h.cellAt hd
theorem Mid.drewN {w : World} {base g n cap s : Nat} {X p Y : List Nat} (h : Mid w base g n cap s X p Y) (k : Nat) : Mid (w.drewN k) base g n cap s X p Y := ⟨h.1.drewN k, h.2⟩
end Go.Proofs.YtbebmknfecehnaaGreat.mem
namespace Go.Proofs.YtbebmknfecehnaaGreat.nat
open Go.RowKit Go.Proofs.YtbebmknfecehnaaGreat.num Go.Proofs.YtbebmknfecehnaaGreat.mem Go.Proofs.YtbebmknfecehnaaGreat.limb
set_option linter.unusedVariables false

/-- limb.Add, over Nat. -/
theorem ladd_nat (aI bI cI : Int) (a b c : Nat) (w : World) (ha : aI = (a : Int)) (hb : bI = (b : Int)) (hc : cI = (c : Int)) (la : a < 4294967296) (lb : b < 4294967296) (lc : c < 4294967296) :
    Calls Tryz.prog 108 #[.int .u64 aI, .int .u64 bI, .int .u64 cI] w fun e w' => ∃ s o : Nat, e = .returned (.tuple #[.int .u64 (s : Int), .int .u64 (o : Int)]) ∧ s < 4294967296 ∧ s + 4294967296 * o = a + b + c ∧ w = w' := by
  subst ha; subst hb; subst hc
  refine (limb.add_any _ _ _ (by omega) (by omega) (by omega) (by omega) (by omega) (by omega) w).mono ?_
  rintro e w' ⟨s, o, rfl, hs, rfl⟩
  unfold AddSpec at hs
  obtain ⟨s0, s1, o0, o1, he⟩ := hs
  obtain ⟨s, rfl⟩ := Int.eq_ofNat_of_zero_le s0
  obtain ⟨o, rfl⟩ := Int.eq_ofNat_of_zero_le o0
  exact ⟨s, o, rfl, by omega, by omega, rfl⟩

/-- takeOff ends with true where more was taken off than there was. -/
def RetTO (base g n cap s : Nat) (X p Y bl : List Nat) (t : Nat) (w : World) (e : Ending) (w' : World) : Prop := ∃ (k : Nat) (p' : List Nat), k ≤ 1 ∧ e = .returned (.bool (k == 0)) ∧ Lt 4294967296 p' ∧ p'.length = p.length ∧ val 4294967296 p' + 4294967296 ^ p.length * k + val 4294967296 bl * t = val 4294967296 p + 4294967296 ^ p.length ∧ Mid w' base g n cap s X p' Y ∧ w.grownBy w' (some g)

set_option maxHeartbeats 1600000 in
theorem takeOff_any (base g n cap s c : Nat) (X p Y bl : List Nat) (vb : Value) (tI : Int) (t : Nat) (w : World) (htI : tI = (t : Int)) (lt : t < 4294967296) (hM : Mid w base g n cap s X p Y) (lp : Lt 4294967296 p) (hp : p.length = bl.length + 1) (hpl : p.length ≤ 1000000) (hb : IsS w .u64 vb bl) (lb : Lt 4294967296 bl) (hf : Apart g vb) :
    Calls Tryz.prog 121 #[.slice (some ⟨g, s, none⟩) p.length c, vb, .int .u64 tI] w (RetTO base g n cap s X p Y bl t w) := by
  subst htI
  obtain ⟨A, k, rfl, hk, hm, hr⟩ := hb
  unfold maxLen at hm
  have hpI : (p.length : Int) = (bl.length : Int) + 1 := by omega
  have HP := Lib.hid hp
  have hbp : bl.length < p.length := by omega
  have hbpI : (bl.length : Int) < (p.length : Int) := by omega
  clear hp hpI
  go_enter Tryz.func121, Tryz.ntmps121
  go_wp2
  go_loopw [8, 9, 14] (fun vu vk vi wr => ∃ (i u kept : Nat) (q : List Nat), i ≤ bl.length ∧ u < 4294967296 ∧ kept ≤ 1 ∧ Hid (TO 4294967296 p bl q t i u kept) ∧ Mid wr base g n cap s X q Y ∧ w.grownBy wr (some g) ∧ vu = .int .u64 (u : Int) ∧ vk = .int .u64 (kept : Int) ∧ vi = .int .i64 (i : Int)) (fun _ _ vi _ => bl.length - (intOf vi).toNat)
  case atStart => exact ⟨0, 0, 1, p, by omega, by omega, by omega, TO.start lp (by omega) bl t, hM, World.grownBy.refl _ _, rfl, rfl, rfl⟩
  case round =>
    clear hM
    obtain ⟨i, u, kept, q, hi, hu, hkept, HT, hM, hg, rfl, rfl, rfl⟩ := hrel
    have hql := HT.out.2.1
    have hqi : i < q.length := by omega
    obtain ⟨d, hd⟩ : ∃ d, q[i]? = some d := ⟨_, List.getElem?_eq_getElem hqi⟩
    have hd1 := HT.out.1.at hd
    have hc0 := hM.cellAt hd
    have hf0 := hM.frozenAt i
    have HD := Lib.hid hd
    have HQI := Lib.hid hqi
    have hip : i < p.length := by omega
    have hipI : (i : Int) < (p.length : Int) := by omega
    clear hql hd hqi
    by_cases hlt : i < bl.length
    · obtain ⟨ad, e, rfl, he, hcell⟩ := (hr.grown hf hg).at_ hlt
      have he1 := lb.at he
      have HE := Lib.hid he
      clear he
      go_wp2_with fail
      refine (mul_nat _ _ _ _ e t u 0 _ rfl rfl rfl rfl he1 (by omega) hu (by omega)).mono ?_
      rintro e1 w2 ⟨low, up, rfl, hlow, hup, hm2, rfl⟩
      rw [Nat.mod_eq_of_lt lt, Nat.add_zero] at hm2
      have HM2 := Lib.hid hm2
      clear hm2
      go_wp2_with fail
      refine (ladd_nat _ _ _ d (4294967296 - 1 - low) kept _ rfl (by omega) rfl hd1 (by omega) (by omega)).mono ?_
      rintro e1 w3 ⟨s1, k', rfl, hs1, hk', rfl⟩
      have HT2 : Hid (TO 4294967296 p bl (q.set i s1) t (i + 1) up k') := HT.out.next HD.out HE.out hlow hup HM2.out hs1 hk'
      have hk2 : k' ≤ 1 := HT2.out.2.2.2.2.1
      have hM2 := hM.stored HQI.out s1
      have hg2 := hg.trans (grown_set wr g (s + i) (.int .u64 (s1 : Int)))
      clear hk'
      go_wp2
      go_roundw
      case rel => exact ⟨i + 1, up, k', _, by omega, hup, hk2, HT2, hM2, hg2, rfl, rfl, by go_num⟩
      case measure => simp [intOf]; omega
    · obtain rfl : i = bl.length := by omega
      go_wp2_with fail
      refine (ladd_nat _ _ _ d (4294967296 - 1 - u) kept _ rfl (by omega) rfl hd1 (by omega) (by omega)).mono ?_
      rintro e1 w3 ⟨s1, k', rfl, hs1, hk', rfl⟩
      obtain ⟨z1, z2, z3, z4⟩ := HT.out.last HP.out HD.out hs1 hk'
      have hM2 := hM.stored HQI.out s1
      have hg2 := hg.trans (grown_set wr g (s + bl.length) (.int .u64 (s1 : Int)))
      have Z2 := Lib.hid z2
      have Z4 := Lib.hid z4
      clear hk' z2 z4
      rcases (show k' = 0 ∨ k' = 1 from by omega) with rfl | rfl
      all_goals
        go_wp2
        go_ret
        exact ⟨_, _, z3, rfl, z1, Z2.out, Z4.out, hM2, hg2⟩

/-- putBack ends with the sum, but for what is carried beyond. -/
def RetPB (base g n cap s : Nat) (X p Y bl : List Nat) (w : World) (e : Ending) (w' : World) : Prop := ∃ (k : Nat) (p' : List Nat), e = .returned (.tuple #[]) ∧ Lt 4294967296 p' ∧ p'.length = p.length ∧ val 4294967296 p' + 4294967296 ^ p.length * k = val 4294967296 p + val 4294967296 bl ∧ Mid w' base g n cap s X p' Y ∧ w.grownBy w' (some g)
set_option maxHeartbeats 1600000 in
theorem putBack_any (base g n cap s c : Nat) (X p Y bl : List Nat) (vb : Value) (w : World) (hM : Mid w base g n cap s X p Y) (lp : Lt 4294967296 p) (hp : p.length = bl.length + 1) (hpl : p.length ≤ 1000000) (hb : IsS w .u64 vb bl) (lb : Lt 4294967296 bl) (hf : Apart g vb) :
    Calls Tryz.prog 122 #[.slice (some ⟨g, s, none⟩) p.length c, vb] w (RetPB base g n cap s X p Y bl w) := by
  obtain ⟨A, k, rfl, hk, hm, hr⟩ := hb
  unfold maxLen at hm
  have HP := Lib.hid hp
  have hbp : bl.length < p.length := by omega
  have hbpI : (bl.length : Int) < (p.length : Int) := by omega
  clear hp
  go_enter Tryz.func122, Tryz.ntmps122
  go_wp2
  go_loopw [4, 9] (fun vu vi wr => ∃ (i u : Nat) (q : List Nat), i ≤ bl.length ∧ u < 4294967296 ∧ Hid (PB 4294967296 p bl q i u) ∧ Mid wr base g n cap s X q Y ∧ w.grownBy wr (some g) ∧ vu = .int .u64 (u : Int) ∧ vi = .int .i64 (i : Int)) (fun _ vi _ => bl.length - (intOf vi).toNat)
  case atStart => exact ⟨0, 0, p, by omega, by omega, PB.start lp (by omega) bl, hM, World.grownBy.refl _ _, rfl, rfl⟩
  case round =>
    clear hM
    obtain ⟨i, u, q, hi, hu, HT, hM, hg, rfl, rfl⟩ := hrel
    have hql := HT.out.2.1
    have hqi : i < q.length := by omega
    obtain ⟨d, hd⟩ : ∃ d, q[i]? = some d := ⟨_, List.getElem?_eq_getElem hqi⟩
    have hd1 := HT.out.1.at hd
    have hc0 := hM.cellAt hd
    have hf0 := hM.frozenAt i
    have HD := Lib.hid hd
    have HQI := Lib.hid hqi
    have hip : i < p.length := by omega
    have hipI : (i : Int) < (p.length : Int) := by omega
    clear hql hd hqi
    by_cases hlt : i < bl.length
    · obtain ⟨ad, e, rfl, he, hcell⟩ := (hr.grown hf hg).at_ hlt
      have he1 := lb.at he
      have HE := Lib.hid he
      clear he
      go_wp2_with fail
      refine (ladd_nat _ _ _ d e u _ rfl rfl rfl hd1 he1 (by omega)).mono ?_
      rintro e1 w3 ⟨s1, k', rfl, hs1, hk', rfl⟩
      have hk2 : k' < 4294967296 := by omega
      have HT2 : Hid (PB 4294967296 p bl (q.set i s1) (i + 1) k') := HT.out.next HD.out HE.out hs1 hk2 hk'
      have hM2 := hM.stored HQI.out s1
      have hg2 := hg.trans (grown_set wr g (s + i) (.int .u64 (s1 : Int)))
      clear hk'
      go_wp2
      go_roundw
      case rel => exact ⟨i + 1, k', _, by omega, hk2, HT2, hM2, hg2, rfl, by go_num⟩
      case measure => simp [intOf]; omega
    · obtain rfl : i = bl.length := by omega
      go_wp2_with fail
      refine (ladd_nat _ _ _ d u 0 _ rfl rfl rfl hd1 (by omega) (by omega)).mono ?_
      rintro e1 w3 ⟨s1, k', rfl, hs1, hk', rfl⟩
      obtain ⟨z1, z2, z4⟩ := HT.out.last HP.out HD.out hs1 (by rw [hk']; rfl)
      have hM2 := hM.stored HQI.out s1
      have hg2 := hg.trans (grown_set wr g (s + bl.length) (.int .u64 (s1 : Int)))
      have Z2 := Lib.hid z2
      have Z4 := Lib.hid z4
      clear hk' z2 z4
      go_wp2
      go_end0
      exact ⟨_, _, rfl, z1, Z2.out, Z4.out, hM2, hg2⟩

theorem GU.lefts {B V D u1 u0 v t left : Nat} (h : GU B V D u1 u0 v t left) : V / D ≤ t ∧ t < B := ⟨h.2.1, h.2.2⟩
/-- guess ends with the quotient, or one more; it only read. -/
def RetGu (V D : Nat) (w : World) (e : Ending) (w' : World) : Prop := ∃ t k : Nat, e = .returned (.int .u64 (t : Int)) ∧ Guess V D t ∧ t < 4294967296 ∧ w' = w.drewN k
/-- What the loop that puts the guess right finds in memory, and keeps. -/
theorem guess_loop_facts {t b2 left c : Nat} (ht : t < 4294967296) (hb : b2 < 4294967296) (hl : left < 4294967296) (hc : c < 4294967296) : t * b2 ≤ 18446744073709551615 ∧ left * 4294967296 ≤ 18446744073709551615 ∧ left * 4294967296 + c ≤ 18446744073709551615 := by
  have h1 : t * b2 ≤ 4294967295 * 4294967295 := Nat.mul_le_mul (by omega) (by omega)
  omega

set_option maxHeartbeats 3200000 in
theorem guess_any (vp vb : Value) (p bl : List Nat) (w : World) (h : IsS w .u64 vp p) (h' : IsS w .u64 vb bl) (lp : Lt 4294967296 p) (lb : Lt 4294967296 bl) (hp : p.length = bl.length + 1) (hb2 : 2 ≤ bl.length) (hbl : bl.length ≤ 1000000) (hnz : ∀ d, bl[bl.length - 1]? = some d → 0 < d) (hVD : val 4294967296 p < 4294967296 * val 4294967296 bl) :
    Calls Tryz.prog 120 #[vp, vb] w (RetGu (val 4294967296 p) (val 4294967296 bl) w) := by
  obtain ⟨A, k, rfl, hk, hm, hr⟩ := h
  obtain ⟨A', k', rfl, hk', hm', hr'⟩ := h'
  unfold maxLen at hm hm'
  obtain ⟨m, hm0⟩ : ∃ m, m = bl.length := ⟨_, rfl⟩
  have hpl : p.length = m + 1 := by omega
  rw [hpl, ← hm0]
  rw [hpl] at hk
  rw [← hm0] at hk' hb2 hbl hnz
  obtain ⟨ad, u1, rfl, hu1, cu1⟩ := hr.at_ (i := m) (by omega)
  obtain ⟨_, u0, e0, hu0, cu0⟩ := hr.at_ (i := m - 1) (by omega)
  injection e0 with e0; subst e0
  obtain ⟨_, c, e0, hc, cc⟩ := hr.at_ (i := m - 2) (by omega)
  injection e0 with e0; subst e0
  obtain ⟨ad', v, rfl, hv, cv⟩ := hr'.at_ (i := m - 1) (by omega)
  obtain ⟨_, b2, e0, hb2', cb2⟩ := hr'.at_ (i := m - 2) (by omega)
  injection e0 with e0; subst e0
  have hv0 := hnz v hv
  have eV := three (B := 4294967296) (n := m - 2) (by omega) (by rw [show m - 2 + 2 = m by omega]; exact hu1) (by rw [show m - 2 + 1 = m - 1 by omega]; exact hu0) hc
  have eD := two (B := 4294967296) (n := m - 2) (by omega) (by rw [show m - 2 + 1 = m - 1 by omega]; exact hv) hb2'
  have hX : val 4294967296 (p.take (m - 2)) < 4294967296 ^ (m - 2) := by
    have := val_lt (lp.take (m - 2)); rwa [show (p.take (m - 2)).length = m - 2 from by simp; omega] at this
  have hY : val 4294967296 (bl.take (m - 2)) < 4294967296 ^ (m - 2) := by
    have := val_lt (lb.take (m - 2)); rwa [show (bl.take (m - 2)).length = m - 2 from by simp; omega] at this
  have lu1 := lp.at hu1
  have lu0 := lp.at hu0
  have lc := lp.at hc
  have lv := lb.at hv
  have lb2 := lb.at hb2'
  obtain ⟨V, hV⟩ : ∃ V, V = val 4294967296 p := ⟨_, rfl⟩
  obtain ⟨D, hD⟩ : ∃ D, D = val 4294967296 bl := ⟨_, rfl⟩
  rw [← hV] at eV hVD ⊢
  rw [← hD] at eD hVD ⊢
  have HV := Lib.hid eV
  have HD := Lib.hid eD
  have HX := Lib.hid hX
  have HY := Lib.hid hY
  have HVD := Lib.hid hVD
  clear eV eD hX hY hVD hV hD hu1 hu0 hc hv hb2' hpl hm0 hr hr' hp hnz lp lb
  have hL : Hid (∀ t left : Nat, GU 4294967296 V D u1 u0 v t left → left * 4294967296 + c < t * b2 → 1 ≤ t ∧ GU 4294967296 V D u1 u0 v (t - 1) (left + v)) := fun t left h1 h2 => h1.step HV.out HX.out HD.out h2
  have hE : Hid (∀ t left : Nat, GU 4294967296 V D u1 u0 v t left → t * b2 ≤ left * 4294967296 + c → Guess V D t) := fun t left h1 h2 => h1.done HV.out HD.out HY.out hv0 h2
  have hS1 : Hid (u1 < v → GU 4294967296 V D u1 u0 v ((u1 * 4294967296 + u0) / v) ((u1 * 4294967296 + u0) % v)) := fun h => GU.start_div HV.out HX.out lc lu0 HD.out h
  have hS2 : Hid (v ≤ u1 → u1 = v ∧ GU 4294967296 V D u1 u0 v (4294967296 - 1) (u1 + u0)) := fun h => GU.start_top HV.out HD.out HY.out lb2 HVD.out h hv0 (by omega)
  clear HV HD HX HY HVD
  have i1 : IntKind.i64.wrap ((m : Int) - 1) = (m : Int) - 1 := IntWalk.i64_in _ (by omega)
  have i2 : IntKind.i64.wrap ((m : Int) - 2) = (m : Int) - 2 := IntWalk.i64_in _ (by omega)
  have i3 : (0 : Int) ≤ (m : Int) - 1 := by omega
  have i4 : (0 : Int) ≤ (m : Int) - 2 := by omega
  have i5 : ((m : Int) - 1).toNat = m - 1 := by omega
  have i6 : ((m : Int) - 2).toNat = m - 2 := by omega
  rcases Nat.lt_or_ge u1 v with hc1 | hc1
  · have hG := Lib.hid (hS1.out hc1)
    obtain ⟨t0, ht0⟩ : ∃ t, t = (u1 * 4294967296 + u0) / v := ⟨_, rfl⟩
    obtain ⟨r0, hr0⟩ : ∃ r, r = (u1 * 4294967296 + u0) % v := ⟨_, rfl⟩
    have hrv : r0 < v := by rw [hr0]; exact Nat.mod_lt _ hv0
    have he : Hid (t0 * (v % 4294967296) + r0 = u1 * 4294967296 + u0) := by show _ = _; rw [Nat.mod_eq_of_lt lv, ht0, hr0, Nat.mul_comm]; exact Nat.div_add_mod _ _
    rw [← ht0, ← hr0] at hG
    clear ht0 hr0 hS1 hS2
    go_enter Tryz.func120, Tryz.ntmps120
    go_wp2
    go_quiet ((go_at_call 111; exact Calls.quiet_of (div_ok _ _ _ u1 u0 v t0 r0 _ rfl rfl rfl (by omega) lu0 (by omega) (by omega) he.out)))
    go_wp2
    go_loopw [6, 7] (fun vt vl wr => ∃ (t left j : Nat), t < 4294967296 ∧ left < 8589934592 ∧ Hid (GU 4294967296 V D u1 u0 v t left) ∧ wr = w.drewN j ∧ vt = .int .u64 (t : Int) ∧ vl = .int .u64 (left : Int)) (fun _ vl _ => 4294967296 - (intOf vl).toNat)
    case atStart => exact ⟨t0, r0, nq, by have := hG.out.2.2; exact this, by omega, hG, rfl, rfl, rfl⟩
    case round =>
      clear hG
      obtain ⟨t, left, j, ht, hleft, hG, rfl, rfl, rfl⟩ := hrel
      by_cases hlt : left < 4294967296
      · obtain ⟨b1, b3, b4⟩ := guess_loop_facts ht lb2 hlt lc
        obtain ⟨M, hM⟩ : ∃ M, M = t * b2 := ⟨_, rfl⟩
        obtain ⟨S, hS⟩ : ∃ S, S = left * 4294967296 + c := ⟨_, rfl⟩
        have w1 : IntKind.u64.wrap ((t : Int) * (b2 : Int)) = (M : Int) := by rw [IntWalk.u64_in _ (by rw [← Int.natCast_mul]; omega), ← Int.natCast_mul, ← hM]
        have w2 : IntKind.u64.wrap ((left : Int) * 4294967296) = (left : Int) * 4294967296 := IntWalk.u64_in _ (by omega)
        have w3 : IntKind.u64.wrap ((left : Int) * 4294967296 + (c : Int)) = (S : Int) := by rw [IntWalk.u64_in _ (by omega)]; omega
        by_cases hcmp : S < M
        · obtain ⟨g1, g2⟩ := hL.out t left hG.out (by omega)
          have hG2 := Lib.hid g2
          have c1 : decide (S < M) = true := decide_eq_true hcmp
          have c2 : decide ((S : Int) < (M : Int)) = true := decide_eq_true (by omega)
          have T1 : Hid ((t : Int) - 1 = ((t - 1 : Nat) : Int)) := by show _ = _; omega
          have hn1 : ¬ (4294967296 : Int) ≤ (left : Int) := by omega
          have HLT := Lib.hid hlt
          have HLE := Lib.hid hleft
          clear b1 b3 b4 hM hS g2 hcmp hlt hleft
          go_wp2
          go_quiet (fail)
          go_wp2
          go_roundw
          case rel => exact ⟨t - 1, left + v, _, by omega, by have := HLT.out; omega, hG2, rfl, int_eq T1.out, by go_num⟩
          case measure => have := HLT.out; simp [intOf]; omega
        · have hGu := Lib.hid (hE.out t left hG.out (by omega))
          have c1 : decide (S < M) = false := decide_eq_false hcmp
          have c2 : decide ((S : Int) < (M : Int)) = false := decide_eq_false (by omega)
          have hn1 : ¬ (4294967296 : Int) ≤ (left : Int) := by omega
          clear b1 b3 b4 hM hS hcmp hlt hleft
          go_wp2
          go_quiet (fail)
          go_wp2
          go_ret
          exact ⟨t, _, rfl, hGu.out, ht, World.drewN_drewN _ _ _⟩
      · have hGu := Lib.hid (hE.out t left hG.out (by
          have h1 : t * b2 ≤ 4294967295 * 4294967295 := Nat.mul_le_mul (by omega) (by omega)
          omega))
        have c1 : decide (left < 4294967296) = false := decide_eq_false hlt
        have c2 : decide ((left : Int) < 4294967296) = false := decide_eq_false (by omega)
        go_wp2
        go_quiet (fail)
        go_wp2
        go_ret
        exact ⟨t, _, rfl, hGu.out, ht, World.drewN_drewN _ _ _⟩
  · obtain ⟨huv, hG0⟩ := hS2.out hc1
    have hG := Lib.hid hG0
    have hsum : IntKind.u64.wrap ((u1 : Int) + (u0 : Int)) = (u1 : Int) + (u0 : Int) := IntWalk.u64_in _ (by omega)
    clear hG0 huv hS1 hS2
    go_enter Tryz.func120, Tryz.ntmps120
    go_wp2
    go_quiet ((go_at_call 111; exact Calls.quiet_of (div_top _ _ _ u1 u0 v _ rfl rfl rfl hc1 (by omega) lu0 hv0)))
    go_wp2
    go_quiet (fail)
    go_wp2
    go_loopw [6, 7] (fun vt vl wr => ∃ (t left j : Nat), t < 4294967296 ∧ left < 8589934592 ∧ Hid (GU 4294967296 V D u1 u0 v t left) ∧ wr = w.drewN j ∧ vt = .int .u64 (t : Int) ∧ vl = .int .u64 (left : Int)) (fun _ vl _ => 4294967296 - (intOf vl).toNat)
    case atStart => exact ⟨4294967296 - 1, u1 + u0, _, by omega, by omega, hG, World.drewN_drewN _ _ _, rfl, by go_num⟩
    case round =>
      clear hG
      obtain ⟨t, left, j, ht, hleft, hG, rfl, rfl, rfl⟩ := hrel
      by_cases hlt : left < 4294967296
      · obtain ⟨b1, b3, b4⟩ := guess_loop_facts ht lb2 hlt lc
        obtain ⟨M, hM⟩ : ∃ M, M = t * b2 := ⟨_, rfl⟩
        obtain ⟨S, hS⟩ : ∃ S, S = left * 4294967296 + c := ⟨_, rfl⟩
        have w1 : IntKind.u64.wrap ((t : Int) * (b2 : Int)) = (M : Int) := by rw [IntWalk.u64_in _ (by rw [← Int.natCast_mul]; omega), ← Int.natCast_mul, ← hM]
        have w2 : IntKind.u64.wrap ((left : Int) * 4294967296) = (left : Int) * 4294967296 := IntWalk.u64_in _ (by omega)
        have w3 : IntKind.u64.wrap ((left : Int) * 4294967296 + (c : Int)) = (S : Int) := by rw [IntWalk.u64_in _ (by omega)]; omega
        by_cases hcmp : S < M
        · obtain ⟨g1, g2⟩ := hL.out t left hG.out (by omega)
          have hG2 := Lib.hid g2
          have c1 : decide (S < M) = true := decide_eq_true hcmp
          have c2 : decide ((S : Int) < (M : Int)) = true := decide_eq_true (by omega)
          have T1 : Hid ((t : Int) - 1 = ((t - 1 : Nat) : Int)) := by show _ = _; omega
          have hn1 : ¬ (4294967296 : Int) ≤ (left : Int) := by omega
          have HLT := Lib.hid hlt
          have HLE := Lib.hid hleft
          clear b1 b3 b4 hM hS g2 hcmp hlt hleft
          go_wp2
          go_quiet (fail)
          go_wp2
          go_roundw
          case rel => exact ⟨t - 1, left + v, _, by omega, by have := HLT.out; omega, hG2, rfl, int_eq T1.out, by go_num⟩
          case measure => have := HLT.out; simp [intOf]; omega
        · have hGu := Lib.hid (hE.out t left hG.out (by omega))
          have c1 : decide (S < M) = false := decide_eq_false hcmp
          have c2 : decide ((S : Int) < (M : Int)) = false := decide_eq_false (by omega)
          have hn1 : ¬ (4294967296 : Int) ≤ (left : Int) := by omega
          clear b1 b3 b4 hM hS hcmp hlt hleft
          go_wp2
          go_quiet (fail)
          go_wp2
          go_ret
          exact ⟨t, _, rfl, hGu.out, ht, World.drewN_drewN _ _ _⟩
      · have hGu := Lib.hid (hE.out t left hG.out (by
          have h1 : t * b2 ≤ 4294967295 * 4294967295 := Nat.mul_le_mul (by omega) (by omega)
          omega))
        have c1 : decide (left < 4294967296) = false := decide_eq_false hlt
        have c2 : decide ((left : Int) < 4294967296) = false := decide_eq_false (by omega)
        go_wp2
        go_quiet (fail)
        go_wp2
        go_ret
        exact ⟨t, _, rfl, hGu.out, ht, World.drewN_drewN _ _ _⟩

/-- step ends with the quotient, and leaves in the part what is left. -/
def RetSt (base g n cap s : Nat) (X p Y bl : List Nat) (w : World) (e : Ending) (w' : World) : Prop := ∃ (t : Nat) (p' : List Nat), e = .returned (.int .u64 (t : Int)) ∧ t = val 4294967296 p / val 4294967296 bl ∧ t < 4294967296 ∧ Lt 4294967296 p' ∧ p'.length = p.length ∧ val 4294967296 p' = val 4294967296 p % val 4294967296 bl ∧ Mid w' base g n cap s X p' Y ∧ w.grownBy w' (some g)
set_option maxHeartbeats 1600000 in
theorem step_any (base g n cap s c : Nat) (X p Y bl : List Nat) (vb : Value) (w : World) (hM : Mid w base g n cap s X p Y) (lp : Lt 4294967296 p) (hp : p.length = bl.length + 1) (hpc : p.length ≤ c) (hcm : c ≤ maxLen) (hb : IsS w .u64 vb bl) (lb : Lt 4294967296 bl) (hf : Apart g vb) (hb2 : 2 ≤ bl.length) (hbl : bl.length ≤ 900000) (hnz : ∀ d, bl[bl.length - 1]? = some d → 0 < d) (hVD : val 4294967296 p < 4294967296 * val 4294967296 bl) :
    Calls Tryz.prog 114 #[.slice (some ⟨g, s, none⟩) p.length c, vb] w (RetSt base g n cap s X p Y bl w) := by
  have hD : 0 < val 4294967296 bl := by
    rcases Nat.eq_zero_or_pos (val 4294967296 bl) with h | h
    · rw [h] at hVD; omega
    · exact h
  have hVM := val_lt lp
  have HP := Lib.hid hp
  have HNZ := Lib.hid hnz
  clear hp hnz
  go_enter Tryz.func114, Tryz.ntmps114
  go_wp2_with fail
  refine (guess_any _ vb p bl w ⟨_, c, rfl, hpc, hcm, hM.rd⟩ hb lp lb HP.out hb2 (by have := HP.out; omega) HNZ.out hVD).mono ?_
  rintro e w1 ⟨t, k1, rfl, hG, ht, rfl⟩
  have hM1 := hM.drewN k1
  have hb1 : IsS (w.drewN k1) .u64 vb bl := hb
  have hg1 : w.grownBy (w.drewN k1) (some g) := grown_drewN (World.grownBy.refl _ _) k1
  go_wp2_with fail
  refine (takeOff_any base g n cap s c X p Y bl vb _ t _ rfl ht hM1 lp HP.out (by have := HP.out; omega) hb1 lb hf).mono ?_
  rintro e w2 ⟨k, p', hk, rfl, z1, z2, z4, hM2, hg2⟩
  have hg3 := hg1.trans hg2
  rcases (show k = 0 ∨ k = 1 from by omega) with rfl | rfl
  · have hb3 := hb.grown hf hg3
    have Z2 := Lib.hid z2
    have Z4 : Hid (val 4294967296 p' + val 4294967296 bl * t = val 4294967296 p + 4294967296 ^ p.length) := by show _ = _; omega
    clear z2 z4
    go_wp2_with fail
    rw [← Z2.out]
    refine (putBack_any base g n cap s c X p' Y bl vb _ hM2 z1 (by rw [Z2.out]; exact HP.out) (by have := Z2.out; have := HP.out; omega) hb3 lb hf).mono ?_
    rintro e w3 ⟨k, p2, rfl, y1, y2, y4, hM3, hg4⟩
    rw [Z2.out] at y2 y4
    have hV' := val_lt z1
    have hW := val_lt y1
    rw [Z2.out] at hV'
    rw [y2] at hW
    obtain ⟨q1, q2⟩ := hG.more hD hV' Z4.out y4 hW hVM
    have Q1 : Hid (t - 1 = val 4294967296 p / val 4294967296 bl) := by show _ = _; rw [q1]; exact Nat.add_sub_cancel _ _
    have ht1 : 1 ≤ t := by rw [q1]; exact Nat.le_add_left _ _
    have T1 : Hid ((t : Int) - 1 = ((t - 1 : Nat) : Int)) := by show _ = _; omega
    have Q2 := Lib.hid q2
    have Y2 := Lib.hid y2
    clear y2 y4 q1 q2 hG
    go_wp2
    go_ret
    exact ⟨t - 1, p2, by rw [← T1.out]; rfl, Q1.out, by omega, y1, Y2.out, Q2.out, hM3, hg3.trans hg4⟩
  · obtain ⟨q1, q2⟩ := hG.right (V' := val 4294967296 p') hD (by omega)
    have Q1 := Lib.hid q1
    have Q2 := Lib.hid q2
    have Z2 := Lib.hid z2
    clear q1 q2 z2 z4 hG
    go_wp2
    go_ret
    exact ⟨t, p', rfl, Q1.out, ht, z1, Z2.out, Q2.out, hM2, hg3⟩
end Go.Proofs.YtbebmknfecehnaaGreat.nat
namespace Go.Proofs.YtbebmknfecehnaaGreat.mem
open Go.RowKit Go.Proofs.YtbebmknfecehnaaGreat.num
set_option linter.unusedVariables false
section
variable {P : Program}
/-- 'out = append(out, x)', and where the new slice lies. -/
theorem wpList_append_lie {w : World} {ops : Array Oper} {rest : List Oper} {o : Oper} {a : Act} {Q : Exit → Act → World → Prop} (hgd : o.guard = none) (s x : Operand) {t : TypeId}
    (ho : o.op = .call { callee := .builtin .append, args := #[s, x], argTypes := #[t, t] })
    {base : Nat} {e : TypeId} {k : IntKind} (hT : SliceT P t e k) {v : Value} {l : List Nat} (d : Nat) {y : Int} (hs : a.eval s = v) (hown : Own w base e k v l) (hx : a.eval x = .slice (some ⟨w.heap.size, 0, none⟩) 1 1) (hd : y = (d : Int))
    (hlen : l.length ≤ 1000000000) (hbase : base ≤ w.heap.size)
    (h : ∀ g cap w', Own w' base e k (.slice (some ⟨g, 0, none⟩) (l.length + 1) cap) (l ++ [d]) → Below base w w' → w.grownBy w' v.ownBlock → (v.ownBlock = some g ∨ w.heap.size ≤ g) → base ≤ g → g < w'.heap.size → wpList P ops Q rest (a.put o.dst (.slice (some ⟨g, 0, none⟩) (l.length + 1) cap)) w') : wpList P ops Q (o :: rest) a (w.alloc (.cells #[.int k y] e)) := by
  obtain ⟨i, hi, hz, hsz, hby⟩ := hT.info
  subst hd
  refine wpList_append_lies (w.alloc (.cells #[.int k (d : Int)] e)) hgd s x t ho base e i (.int k 0) 1 8 hT.und hi hz hsz hby rfl (by omega) v l.length (nv k l) hs (World.ownsRow.alloc hown _) ⟨w.heap.size, 0, none⟩ 1 1 [.int k (d : Int)] hx rfl ?_ ?_ (by omega) (by unfold maxLen; omega) (by omega) (by simp; omega) _ rfl ?_
  · exact World.news_of_block (heap_alloc_new w _)
  · intro u' hu'
    obtain rfl := List.mem_singleton.1 hu'
    rfl
  · intro g cap w' h1 h2 h3 h4
    have h5 : w.grownBy w' v.ownBlock := grown_trans (World.grownBy_alloc w _ _) h2
    have hown' : Own w' base e k (.slice (some ⟨g, 0, none⟩) (l.length + 1) cap) (l ++ [d]) := Own.snoc h1
    refine h g cap w' hown' ((Below.refl base w).grown h5 hbase hown.base_le) h5 ?_ (hown'.base_le g rfl) h4
    rcases h3 with h3 | h3
    · exact .inl h3
    · right; simp at h3; omega
end
/-- A slice of numbers of an old block lies elsewhere than what was made since. -/
theorem IsS.apartNew {w : World} {k : IntKind} {u : Value} {l : List Nat} {g : Nat} (h : IsS w k u l) (hg : w.heap.size ≤ g) : Apart g u := by
  rintro ad n c rfl hn e
  obtain ⟨A, c', e1, h1, h2, h3⟩ := h
  injection e1 with e1 e2 e3
  subst e1; subst e2
  obtain ⟨ad', he, hc⟩ := h3 0 _ (List.getElem?_eq_getElem hn)
  injection he with he; subst he
  have h4 := World.block_lt_of_cell? w _ hc
  rw [block_add] at h4
  omega
theorem IsS.grownFar {w w' : World} {k : IntKind} {u : Value} {l : List Nat} {row : Option Nat} (h : IsS w k u l) (hf : ∀ g, row = some g → Apart g u) (hg : w.grownBy w' row) : IsS w' k u l := by
  rcases row with _ | g
  · exact h.grown (g := w.heap.size) (h.apartNew (Nat.le_refl _)) ⟨hg.os, hg.tape, hg.output, hg.size, fun k hk _ => hg.block k hk (by simp)⟩
  · exact h.grown (hf g rfl) hg
theorem Own.grown {w w' : World} {base : Nat} {e : TypeId} {k : IntKind} {v : Value} {l : List Nat} {g : Nat} (h : Own w base e k v l) (hg : w.grownBy w' (some g)) (hne : v.ownBlock ≠ some g) : Own w' base e k v l := World.ownsRow.kept h hg (.inr hne)
theorem Fresh.apart {B g : Nat} {u : Value} (h : Fresh B u) (hg : g < B) : Apart g u := by
  rintro ad n c rfl hn e
  have := h ad n c rfl
  omega
end Go.Proofs.YtbebmknfecehnaaGreat.mem
namespace Go.Proofs.YtbebmknfecehnaaGreat.nat
open Go.RowKit Go.Proofs.YtbebmknfecehnaaGreat.num Go.Proofs.YtbebmknfecehnaaGreat.mem Go.Proofs.YtbebmknfecehnaaGreat.limb
set_option linter.unusedVariables false

theorem step_len (base g n cap s c ln : Nat) (X p Y bl : List Nat) (vb : Value) (w : World) (hln : ln = p.length) (hM : Mid w base g n cap s X p Y) (lp : Lt 4294967296 p) (hp : p.length = bl.length + 1) (hpc : p.length ≤ c) (hcm : c ≤ maxLen) (hb : IsS w .u64 vb bl) (lb : Lt 4294967296 bl) (hf : Apart g vb) (hb2 : 2 ≤ bl.length) (hbl : bl.length ≤ 900000) (hnz : ∀ d, bl[bl.length - 1]? = some d → 0 < d) (hVD : val 4294967296 p < 4294967296 * val 4294967296 bl) :
    Calls Tryz.prog 114 #[.slice (some ⟨g, s, none⟩) ln c, vb] w (RetSt base g n cap s X p Y bl w) := by
  rw [hln]; exact step_any base g n cap s c X p Y bl vb w hM lp hp hpc hcm hb lb hf hb2 hbl hnz hVD
set_option maxHeartbeats 3200000 in
theorem dlong_any (w0 : World) (v vb : Value) (x y : Nat) (w : World) (hown : Own w w0.heap.size 55 .u64 v (digs 4294967296 x)) (hb0 : Below w0.heap.size w0 w) (hvb : IsS w .u64 vb (digs 4294967296 y)) (hfar : ∀ g, v.ownBlock = some g → Apart g vb) (hl : (digs 4294967296 x).length ≤ 100000) (hl' : (digs 4294967296 y).length ≤ 100000) (h2 : 2 ≤ (digs 4294967296 y).length) :
    Calls Tryz.prog 97 #[v, vb] w (RetSS .u64 (digs 4294967296 (x / y)) (digs 4294967296 (x % y)) w0) := by
  obtain ⟨Q, hQ⟩ : ∃ Q, Q = (digs 4294967296 x).length + 1 - (digs 4294967296 y).length := ⟨_, rfl⟩
  have ly := digs_lt (B := 4294967296) (by omega) y
  have hyp := digs_pow_le (B := 4294967296) (by omega) y (n := (digs 4294967296 y).length - 1) (by omega)
  have hym := digs_lt_pow (B := 4294967296) (by omega) y
  have hy0 : 0 < y := Nat.lt_of_lt_of_le (Nat.pow_pos (by omega)) hyp
  have HKD : Hid (KD 4294967296 x y ((digs 4294967296 x).length + 1) (digs 4294967296 x ++ [0]) (List.replicate Q 0) Q) := KD.start (by omega) hyp (by omega) (by omega)
  have hlast : Hid (∀ d, (digs 4294967296 y)[(digs 4294967296 y).length - 1]? = some d → 0 < d) := fun d hd => by
    have := digs_last (B := 4294967296) (by omega) y (n := (digs 4294967296 y).length - 1) (by omega) hd
    omega
  have HYM := Lib.hid hym
  obtain ⟨A, k, rfl, hk, hmx, hr⟩ := id hvb
  have hsz0 := hb0.size
  have hQl : Q ≤ 100001 := by omega
  obtain ⟨Aa, ca, rfl, _, _, _⟩ := id hown.isS
  rcases (show ((digs 4294967296 y).length : Int) < (digs 4294967296 x).length + 1 ∨ ((digs 4294967296 x).length : Int) + 1 ≤ ((digs 4294967296 y).length : Int) from by omega) with hle | hle
  · have HQ : Hid ((max 0 (((digs 4294967296 x).length : Int) + 1 - ((digs 4294967296 y).length : Int))) = (Q : Int) ∧ (0 < Q → Q + (digs 4294967296 y).length = (digs 4294967296 x).length + 1)) := by refine ⟨?_, ?_⟩ <;> omega
    clear hQ hyp hym
    go_enter Tryz.func97, Tryz.ntmps97
    go_wp2_with (first
      | (at_builtin; refine wpList_append_lie rfl _ _ rfl sl24 0 (v := .slice Aa (digs 4294967296 x).length ca) rfl hown rfl rfl (by omega) hsz0 ?_; intro g cap w1 hown1 hb1 hg1 hlie hbg hgs)
      | (at_make; refine wpList_make_rd rfl _ _ rfl sl24 Q rfl rfl (by have := HQ.out.1; omega) (by have := HQ.out.1; omega) (by omega) (Nat.le_refl _) ?_; intro w2 hown2 hb2 hs2))
    have hap : Apart g (.slice A (digs 4294967296 y).length k) := by
      rcases hlie with h | h
      · exact hfar g h
      · exact hvb.apartNew h
    have hvb1 := hvb.grownFar hfar hg1
    have hap2 : Apart w1.heap.size (.slice A (digs 4294967296 y).length k) := hvb1.apartNew (Nat.le_refl _)
    have hvb2 := hvb1.below hb2
    have hownP := hown1.below hb2
    have B1 := hb0.trans hb1
    have hs1 := B1.size
    have B2 := B1.trans (hb2.mono hs1)
    have hcap : (digs 4294967296 x).length + 1 ≤ cap ∧ cap ≤ maxLen := by
      obtain ⟨_, _, e, h1, h2, _⟩ := hown1.isS
      injection e with _ e1 e2
      subst e2
      rw [List.length_append] at h1
      exact ⟨h1, h2⟩
    clear hown hfar hvb hr hown1 hvb1 hg1 hlie hb1 hb2 B1 hb0
    go_loopw [22] (fun vi wr => ∃ (i : Nat) (P O : List Nat), i ≤ Q ∧ Hid (KD 4294967296 x y ((digs 4294967296 x).length + 1) P O (Q - i) ∧ O.length = Q) ∧ Own wr w0.heap.size 55 .u64 (.slice (some ⟨g, 0, none⟩) ((digs 4294967296 x).length + 1) cap) P ∧ Own wr w1.heap.size 55 .u64 (.slice (some ⟨w1.heap.size, 0, none⟩) Q Q) O ∧ IsS wr .u64 (.slice A (digs 4294967296 y).length k) (digs 4294967296 y) ∧ Below w0.heap.size w0 wr ∧ vi = .int .i64 (i : Int)) (fun vi _ => Q - (intOf vi).toNat)
    case atStart => exact ⟨0, _, _, by omega, ⟨HKD.out, by simp⟩, hownP, hown2, hvb2, B2, rfl⟩
    case round =>
      clear hownP hown2 hvb2 B2 HKD
      obtain ⟨i, P, O, hi, HK, hownP, hownO, hvbr, Br, rfl⟩ := hrel
      by_cases hlt : i < Q
      · obtain ⟨s, hs⟩ : ∃ s, s = Q - 1 - i := ⟨_, rfl⟩
        have hsI : (Q : Int) - 1 - (i : Int) = (s : Int) := by omega
        have HS : Hid (Q - i = s + 1 ∧ Q - (i + 1) = s) := ⟨by omega, by omega⟩
        have hsq : s < Q := by omega
        have hfit : s + (digs 4294967296 y).length + 1 ≤ (digs 4294967296 x).length + 1 := by have := HQ.out.2 (by omega); omega
        have hfitI : (s : Int) + ((digs 4294967296 y).length : Int) + 1 ≤ (cap : Int) := by omega
        have hk1 := HK.out.1
        rw [HS.out.1] at hk1
        have HO : Hid (O.length = Q) := HK.out.2
        have HK1 := Lib.hid hk1
        have HPL : Hid ((seg P s (digs 4294967296 y).length).length = (digs 4294967296 y).length + 1) := seg_len hk1.2.1 hfit
        obtain ⟨q1, q2, q3⟩ := hk1.at hfit (Nat.le_of_lt HYM.out)
        have hM : Mid wr w0.heap.size g ((digs 4294967296 x).length + 1) cap s (P.take s) (seg P s (digs 4294967296 y).length) (P.drop (s + (digs 4294967296 y).length + 1)) := ⟨by rw [seg_split hk1.2.1 hfit]; exact hownP, by have := hk1.2.1; simp; omega⟩
        have Q2 : Hid (val 4294967296 (seg P s (digs 4294967296 y).length) < 4294967296 * val 4294967296 (digs 4294967296 y)) := by show _ < _; rw [val_digs (by omega)]; exact q2
        clear hs hk1 q2 q3 HK
        go_wp2_with fail
        refine (step_len w0.heap.size g _ cap s _ _ _ _ _ (digs 4294967296 y) _ _ (by rw [HPL.out]; omega) hM q1 HPL.out (by rw [HPL.out]; omega) (by omega) hvbr ly hap h2 (by omega) hlast.out Q2.out).mono ?_
        rintro e w3 ⟨t, p', rfl, ht, htB, lp', hlen', hv', hM3, hg3⟩
        rw [val_digs (by omega)] at ht hv'
        have HK2 : Hid (KD 4294967296 x y ((digs 4294967296 x).length + 1) (P.take s ++ p' ++ P.drop (s + (digs 4294967296 y).length + 1)) (O.set s t) s ∧ (O.set s t).length = Q) := ⟨HK1.out.step hfit (by rw [HO.out]; exact hsq) (Nat.le_of_lt HYM.out) hy0 ht htB lp' hlen' hv', by rw [List.length_set]; exact HO.out⟩
        have hne : g ≠ w1.heap.size := by omega
        have hownO3 := hownO.grown hg3 (by simp [Value.ownBlock]; omega)
        obtain ⟨a', ha'⟩ : ∃ a', O[s]? = some a' := ⟨_, List.getElem?_eq_getElem (by rw [HO.out]; exact hsq)⟩
        have hc0 := hownO3.cellAt ha'
        have hf0 := hownO3.frozenAt s
        have hgs := grown_set w3 w1.heap.size s (.int .u64 (t : Int))
        have hownO4 := hownO3.stored s t
        have hownP4 := Own.grown hM3.1 hgs (by simp [Value.ownBlock]; omega)
        have hvb4 := (hvbr.grown hap hg3).grown hap2 hgs
        have B4 : Below w0.heap.size w0 (w3.setCell ⟨w1.heap.size, s, none⟩ (.int .u64 (t : Int))) := (Br.grown hg3 Br.size (fun k hk => by injection hk with hk; omega)).setCell hs1 _
        clear ht hv' hlen' ha' hgs hg3
        go_wp2
        go_roundw
        case rel => exact ⟨i + 1, _, _, by omega, by rw [HS.out.2]; exact HK2, hownP4, hownO4, hvb4, B4, by go_num⟩
        case measure => simp [intOf]; omega
      · obtain rfl : i = Q := by omega
        have hk1 := HK.out.1
        rw [Nat.sub_self] at hk1
        obtain ⟨z1, z2, z3, z4⟩ := hk1.done
        have hT1 := trim_digs (by omega) z2
        have hT2 := trim_digs (by omega) z1
        rw [z3] at hT1
        rw [z4] at hT2
        have T1 := Lib.hid hT1
        have T2 := Lib.hid hT2
        obtain ⟨A1, c1, e1, hc1, hm1, hr1⟩ := hownO.isS
        obtain ⟨A2, c2, e2, hc2, hm2, hr2⟩ := hownP.isS
        injection e1 with e1 e3 e5
        injection e2 with e2 e4 e6
        subst e1; subst e2; subst e5; subst e6
        have hf1 := hownO.fresh
        have hf2 := hownP.fresh
        have L1 := Lib.hid e3
        have L2 := Lib.hid e4
        clear hk1 z3 z4 hT1 hT2 HK e3 e4
        go_wp2_with fail
        refine (dtrimmed_any _ _ _ O _ L1.out hc1 hm1 hr1).mono ?_
        rintro e w' ⟨rfl, rfl⟩
        rw [T1.out]
        go_wp2_with fail
        refine (dtrimmed_any _ _ _ P _ L2.out hc2 hm2 hr2).mono ?_
        rintro e w' ⟨rfl, rfl⟩
        rw [T2.out]
        go_wp2
        go_ret2
        refine ⟨_, _, rfl, ?_, ?_, (hf1.cut _ _).mono hs1, hf2.cut _ _, Br⟩
        · rw [← T1.out]; exact hr1.isTrim hc1 hm1
        · rw [← T2.out]; exact hr2.isTrim hc2 hm2
  · have HQ : Hid ((max 0 (((digs 4294967296 x).length : Int) + 1 - ((digs 4294967296 y).length : Int))) = (Q : Int) ∧ (0 < Q → Q + (digs 4294967296 y).length = (digs 4294967296 x).length + 1)) := by refine ⟨?_, ?_⟩ <;> omega
    clear hQ hyp hym
    go_enter Tryz.func97, Tryz.ntmps97
    go_wp2_with (first
      | (at_builtin; refine wpList_append_lie rfl _ _ rfl sl24 0 (v := .slice Aa (digs 4294967296 x).length ca) rfl hown rfl rfl (by omega) hsz0 ?_; intro g cap w1 hown1 hb1 hg1 hlie hbg hgs)
      | (at_make; refine wpList_make_rd rfl _ _ rfl sl24 Q rfl rfl (by have := HQ.out.1; omega) (by have := HQ.out.1; omega) (by omega) (Nat.le_refl _) ?_; intro w2 hown2 hb2 hs2))
    have hap : Apart g (.slice A (digs 4294967296 y).length k) := by
      rcases hlie with h | h
      · exact hfar g h
      · exact hvb.apartNew h
    have hvb1 := hvb.grownFar hfar hg1
    have hap2 : Apart w1.heap.size (.slice A (digs 4294967296 y).length k) := hvb1.apartNew (Nat.le_refl _)
    have hvb2 := hvb1.below hb2
    have hownP := hown1.below hb2
    have B1 := hb0.trans hb1
    have hs1 := B1.size
    have B2 := B1.trans (hb2.mono hs1)
    have hcap : (digs 4294967296 x).length + 1 ≤ cap ∧ cap ≤ maxLen := by
      obtain ⟨_, _, e, h1, h2, _⟩ := hown1.isS
      injection e with _ e1 e2
      subst e2
      rw [List.length_append] at h1
      exact ⟨h1, h2⟩
    clear hown hfar hvb hr hown1 hvb1 hg1 hlie hb1 hb2 B1 hb0
    go_loopw [22] (fun vi wr => ∃ (i : Nat) (P O : List Nat), i ≤ Q ∧ Hid (KD 4294967296 x y ((digs 4294967296 x).length + 1) P O (Q - i) ∧ O.length = Q) ∧ Own wr w0.heap.size 55 .u64 (.slice (some ⟨g, 0, none⟩) ((digs 4294967296 x).length + 1) cap) P ∧ Own wr w1.heap.size 55 .u64 (.slice (some ⟨w1.heap.size, 0, none⟩) Q Q) O ∧ IsS wr .u64 (.slice A (digs 4294967296 y).length k) (digs 4294967296 y) ∧ Below w0.heap.size w0 wr ∧ vi = .int .i64 (i : Int)) (fun vi _ => Q - (intOf vi).toNat)
    case atStart => exact ⟨0, _, _, by omega, ⟨HKD.out, by simp⟩, hownP, hown2, hvb2, B2, rfl⟩
    case round =>
      clear hownP hown2 hvb2 B2 HKD
      obtain ⟨i, P, O, hi, HK, hownP, hownO, hvbr, Br, rfl⟩ := hrel
      by_cases hlt : i < Q
      · exfalso; have := HQ.out.2 (by omega); omega
      · obtain rfl : i = Q := by omega
        have hk1 := HK.out.1
        rw [Nat.sub_self] at hk1
        obtain ⟨z1, z2, z3, z4⟩ := hk1.done
        have hT1 := trim_digs (by omega) z2
        have hT2 := trim_digs (by omega) z1
        rw [z3] at hT1
        rw [z4] at hT2
        have T1 := Lib.hid hT1
        have T2 := Lib.hid hT2
        obtain ⟨A1, c1, e1, hc1, hm1, hr1⟩ := hownO.isS
        obtain ⟨A2, c2, e2, hc2, hm2, hr2⟩ := hownP.isS
        injection e1 with e1 e3 e5
        injection e2 with e2 e4 e6
        subst e1; subst e2; subst e5; subst e6
        have hf1 := hownO.fresh
        have hf2 := hownP.fresh
        have L1 := Lib.hid e3
        have L2 := Lib.hid e4
        clear hk1 z3 z4 hT1 hT2 HK e3 e4
        go_wp2_with fail
        refine (dtrimmed_any _ _ _ O _ L1.out hc1 hm1 hr1).mono ?_
        rintro e w' ⟨rfl, rfl⟩
        rw [T1.out]
        go_wp2_with fail
        refine (dtrimmed_any _ _ _ P _ L2.out hc2 hm2 hr2).mono ?_
        rintro e w' ⟨rfl, rfl⟩
        rw [T2.out]
        go_wp2
        go_ret2
        refine ⟨_, _, rfl, ?_, ?_, (hf1.cut _ _).mono hs1, hf2.cut _ _, Br⟩
        · rw [← T1.out]; exact hr1.isTrim hc1 hm1
        · rw [← T2.out]; exact hr2.isTrim hc2 hm2
end Go.Proofs.YtbebmknfecehnaaGreat.nat
namespace Go.Proofs.YtbebmknfecehnaaGreat.mem
open Go.RowKit
theorem IsS.drew {w : World} {k : IntKind} {v : Value} {l : List Nat} (h : IsS w k v l) : IsS w.drew k v l := by
  obtain ⟨A, c, e, h1, h2, h3⟩ := h
  exact ⟨A, c, e, h1, h2, fun i d hd => h3 i d hd⟩
end Go.Proofs.YtbebmknfecehnaaGreat.mem
namespace Go.Proofs.YtbebmknfecehnaaGreat.nat
open Go.RowKit Go.Proofs.YtbebmknfecehnaaGreat.num Go.Proofs.YtbebmknfecehnaaGreat.mem Go.Proofs.YtbebmknfecehnaaGreat.limb
set_option linter.unusedVariables false

theorem up_bits {d n : Nat} (hd : d < 4294967296) (hd0 : d ≠ 0) (h : BitsSpec ((d : Int) % 4294967296) n) (hn : n ≤ 32) : 1 ≤ n ∧ n ≤ 32 := by
  obtain ⟨h1, h2⟩ := BitsSpec.nat hd h
  refine ⟨?_, hn⟩
  rcases Nat.eq_zero_or_pos n with h3 | h3
  · subst h3; simp at h1; omega
  · exact h3
theorem pow_up {u : Nat} (h : u ≤ 31) : 2 ^ u ≤ 2147483648 := Nat.pow_le_pow_right (n := 2) (j := 31) (by omega) h
theorem up_len {x u : Nat} (h : u ≤ 31) : (digs 4294967296 (x * 2 ^ u)).length ≤ (digs 4294967296 x).length + 1 := by
  have h1 := mul_len x (2 ^ u)
  have h2 : (digs 4294967296 (2 ^ u)).length ≤ 1 := digs_len_le (by omega) (by have := pow_up h; omega)
  omega
theorem up_len2 {x u : Nat} : (digs 4294967296 x).length ≤ (digs 4294967296 (x * 2 ^ u)).length := digs_len_mono (by omega) (Nat.le_mul_of_pos_right _ (Nat.pow_pos (by omega)))
theorem div_len (x y : Nat) : (digs 4294967296 (x / y)).length ≤ (digs 4294967296 x).length := digs_len_mono (by omega) (Nat.div_le_self _ _)
theorem mod_len (x y : Nat) : (digs 4294967296 (x % y)).length ≤ (digs 4294967296 x).length := digs_len_mono (by omega) (Nat.mod_le _ _)
theorem mod_len' {x y : Nat} (h : 0 < y) : (digs 4294967296 (x % y)).length ≤ (digs 4294967296 y).length := digs_len_mono (by omega) (Nat.le_of_lt (Nat.mod_lt _ h))

set_option maxHeartbeats 400000 in
theorem ddiv_zero (v vb : Value) (w : World) (h' : IsS w .u64 vb (digs 4294967296 0)) :
    Calls Tryz.prog 71 #[v, vb] w (RetSSE [] [] 3 w) := by
  go_enter Tryz.func71, Tryz.ntmps71
  go_wp2_with fail
  refine (small_any vb 0 _ _ 1 0 w h' (by rw [digs_zero]; simp) rfl rfl (by omega) (by omega) 0 (by omega)).mono ?_
  rintro e w1 ⟨v1, rfl, k1, f1, b1⟩
  rw [digs_zero] at k1
  obtain ⟨A, c, rfl, _⟩ := k1
  go_wp2
  go_ret3
  exact ⟨_, _, rfl, isNil _ _, isNil _ _, fresh_nil _, fresh_nil _, b1⟩

set_option maxHeartbeats 3200000 in
theorem ddiv_ok (v vb : Value) (x y : Nat) (w : World) (h : IsS w .u64 v (digs 4294967296 x)) (h' : IsS w .u64 vb (digs 4294967296 y)) (hl : (digs 4294967296 x).length ≤ 90000) (hl' : (digs 4294967296 y).length ≤ 90000) (hy : 0 < y) :
    Calls Tryz.prog 71 #[v, vb] w (RetSSE (digs 4294967296 (x / y)) (digs 4294967296 (x % y)) 0 w) := by
  have hyl : 0 < (digs 4294967296 y).length := by
    rcases Nat.eq_zero_or_pos (digs 4294967296 y).length with h0 | h0
    · have := (digs_len0 (B := 4294967296) (by omega)).1 h0; omega
    · exact h0
  have hyl2 : ¬ digs 4294967296 y = [] := by intro e; rw [e] at hyl; simp at hyl
  have hq1 := div_len x y
  have hq2 := mod_len x y
  by_cases hone : (digs 4294967296 y).length = 1
  · have hyB : y < 4294967296 := by have := digs_lt_pow (B := 4294967296) (by omega) y; rw [hone] at this; simpa using this
    have hdy := digs_one y hyB hy
    have DY := Lib.hid hdy
    have hym : y % 4294967296 = y := Nat.mod_eq_of_lt hyB
    have YM := Lib.hid hym
    have hr1 : x % y < 4294967296 := Nat.lt_trans (Nat.mod_lt _ hy) hyB
    have hz0 : ((digs 4294967296 y).length == 0) = false := by rw [hone]; rfl
    have hz1 : (((digs 4294967296 y).length : Int) == 0) = false := by rw [hone]; rfl
    have hz2 : (((digs 4294967296 y).length : Int) == 1) = true := by rw [hone]; rfl
    clear hdy hym hone
    obtain ⟨R, hR⟩ : ∃ R, R = x % y := ⟨_, rfl⟩
    rw [← hR] at hr1 hq2 ⊢
    have HR := Lib.hid hR
    have hRI : (R : Int) ≤ 18446744073709551615 := by omega
    clear hR
    go_enter Tryz.func71, Tryz.ntmps71
    go_wp2_with fail
    refine (small_any vb y _ _ 1 0 w h' (by omega) rfl rfl (by omega) (by omega) y (by omega)).mono ?_
    rintro e w1 ⟨v1, rfl, k1, f1, b1⟩
    have h1 := h.below b1
    obtain ⟨A, c, rfl, hc, hm, hr⟩ := id k1
    obtain ⟨ad, d, rfl, hd, hcell⟩ := hr.at_ (i := 0) (by omega)
    have hdy : d = y := by rw [DY.out] at hd; simpa using hd.symm
    subst hdy
    clear hd
    rw [Addr.add_zero'] at hcell
    go_wp2_with fail
    refine (dsmall_ok _ x _ d (x / d) R _ rfl (by omega) (by rw [YM.out]; exact hy) h1 (by omega) (by rw [YM.out]) (by rw [YM.out]; exact HR.out)).mono ?_
    rintro e w2 ⟨v2, rfl, k2, f2, b2⟩
    go_wp2_with fail
    refine (of_any _ R _ rfl hRI).mono ?_
    rintro e w3 ⟨v3, rfl, k3, f3, b3⟩
    have B2 := b1.trans (b2.mono b1.size)
    have B3 := B2.trans (b3.mono B2.size)
    go_wp2
    go_ret3
    exact ⟨_, _, rfl, k2.below b3, k3, f2.mono b1.size, f3.mono B2.size, B3⟩
  · obtain ⟨m, hm⟩ : ∃ m, m = (digs 4294967296 y).length - 1 := ⟨_, rfl⟩
    have hz1 : (((digs 4294967296 y).length : Int) == 0) = false := by rw [beq_eq_false_iff_ne]; omega
    have hz2 : (((digs 4294967296 y).length : Int) == 1) = false := by rw [beq_eq_false_iff_ne]; omega
    have h2 : 2 ≤ (digs 4294967296 y).length := by omega
    have HMod : Hid (∀ u, x * 2 ^ u % (y * 2 ^ u) / 2 ^ u = x % y) := fun u => by rw [Nat.mul_mod_mul_right, Nat.mul_div_cancel _ (Nat.pow_pos (by omega))]
    have HDiv : Hid (∀ u, x * 2 ^ u / (y * 2 ^ u) = x / y) := fun u => Nat.mul_div_mul_right _ _ (Nat.pow_pos (by omega))
    clear hone hm
    go_enter Tryz.func71, Tryz.ntmps71
    go_wp2_with fail
    refine (small_any vb y _ _ 1 0 w h' (by omega) rfl rfl (by omega) (by omega) y (by omega)).mono ?_
    rintro e w1 ⟨v1, rfl, k1, f1, b1⟩
    have h1 := h.below b1
    obtain ⟨A, c, rfl, hc, hmx, hr⟩ := id k1
    obtain ⟨ad, d, rfl, hd, hcell⟩ := hr.at_ (i := (digs 4294967296 y).length - 1) (by omega)
    have hd1 := (digs_lt (B := 4294967296) (by omega) y).at hd
    have hd0 := digs_last (B := 4294967296) (by omega) y (n := (digs 4294967296 y).length - 1) (by omega) hd
    have HD0 := Lib.hid hd0
    clear hd hd0
    go_wp2_with fail
    refine (limb.bits_any _ (by omega) (by omega) _).mono ?_
    rintro e w2 ⟨n, rfl, hn, hs, rfl⟩
    obtain ⟨hn1, _⟩ := up_bits hd1 HD0.out hs hn
    obtain ⟨u, hu⟩ : ∃ u, u = 32 - n := ⟨_, rfl⟩
    have hu31 : u ≤ 31 := by omega
    have huI : (32 : Int) - (n : Int) = (u : Int) := by omega
    obtain ⟨p, hp⟩ : ∃ p, p = 2 ^ u := ⟨_, rfl⟩
    have hpb : p ≤ 2147483648 := by rw [hp]; exact pow_up hu31
    have hw : IntKind.u64.wrap ((2 : Int) ^ u) = (p : Int) := by rw [← two_cast, ← hp, IntKind.wrap_u64]; omega
    have l1 := up_len (x := x) hu31
    have l2 := up_len (x := y) hu31
    have l3 := up_len2 (x := y) (u := u)
    have l4 := mod_len (x * 2 ^ u) (y * 2 ^ u)
    have hmd := HMod.out u
    have hdv := HDiv.out u
    rw [← hp] at l1 l2 l3 l4 hmd hdv
    have HP := Lib.hid hp
    have HMD := Lib.hid hmd
    have HDV := Lib.hid hdv
    clear hu hp hs hmd hdv
    have hz3 : p % 4294967296 = p := Nat.mod_eq_of_lt (by omega)
    have HZ3 := Lib.hid hz3
    clear hz3
    go_wp2
    have HZX : Hid (x * p = x * (p % 4294967296) + 0 % 4294967296) := by show _ = _; rw [HZ3.out]; omega
    have HZY : Hid (y * p = y * (p % 4294967296) + 0 % 4294967296) := by show _ = _; rw [HZ3.out]; omega
    have hx1 : (digs 4294967296 x).length ≤ 1000000 := by omega
    have hx2 : p < 18446744073709551616 := by omega
    have hx3 : 0 < 18446744073709551616 := by omega
    have hy1 : (digs 4294967296 y).length ≤ 1000000 := by omega
    have hxp : (digs 4294967296 (x * p)).length ≤ 100000 := by omega
    have hyp : (digs 4294967296 (y * p)).length ≤ 100000 := by omega
    have hyp2 : 2 ≤ (digs 4294967296 (y * p)).length := by omega
    have con := Lib.hid (small_own v x (p : Int) 0 p 0 w1.drew h1.drew hx1 rfl rfl hx2 hx3 (x * p) HZX.out)
    go_region_law (first
      | (go_simp; go_at_call 94; (with_reducible refine con.out.mono ?_); rintro e w3 ⟨v3, rfl, own3, b3⟩; have con2 := Lib.hid (small_any _ y (p : Int) 0 p 0 w3 (k1.drew.below b3) hy1 rfl rfl hx2 hx3 (y * p) HZY.out))
      | (go_simp; go_at_call 94; (with_reducible refine con2.out.mono ?_); rintro e w4 ⟨v4, rfl, k4, f4, b4⟩; have con3 := Lib.hid (dlong_any w1.drew v3 v4 (x * p) (y * p) w4 (own3.below b4) (b3.trans (b4.mono b3.size)) k4 (fun g hg => f4.apart (own3.under g hg)) hxp hyp hyp2))
      | (go_simp; go_at_call 97; (with_reducible refine con3.out.mono ?_); rintro e w5 ⟨v5, v6, rfl, k5, k6, f5, f6, b5⟩))
    all_goals
      have B1 : Below w.heap.size w w1.drew := b1.drew
      have B5 := B1.trans (b5.mono B1.size)
      rw [HDV.out] at k5
      go_wp2_with fail
      refine (shr_ok v6 (x * p % (y * p)) _ u _ rfl k6 (by omega) (by omega) (x % y) (by rw [← HP.out]; exact HMD.out.symm)).mono ?_
      rintro e w6 ⟨v7, rfl, k7, f7, b6⟩
      go_wp2
      go_ret3
      exact ⟨_, _, rfl, k5.below b6, k7, f5.mono B1.size, f7.mono B5.size, B5.trans (b6.mono B5.size)⟩

/-- The call ends with a new slice, and an error. -/
theorem isS_nil0 {w : World} {v : Value} (h : IsS w .u64 v []) : ∃ A c, v = .slice A 0 c := by
  obtain ⟨A, c, e, _⟩ := h
  exact ⟨A, c, e⟩

set_option maxHeartbeats 400000 in
theorem dexact_zero (v vb : Value) (w : World) (h' : IsS w .u64 vb (digs 4294967296 0)) :
    Calls Tryz.prog 38 #[v, vb] w (RetSI .u64 [] 3 w) := by
  go_enter Tryz.func38, Tryz.ntmps38
  go_wp2_with fail
  refine (ddiv_zero v vb w h').mono ?_
  rintro e w1 ⟨v1, v2, rfl, k1, k2, f1, f2, b1⟩
  go_wp2
  go_ret2
  exact ⟨_, rfl, isNil _ _, fresh_nil _, b1⟩
set_option maxHeartbeats 400000 in
theorem dexact_ok (v vb : Value) (x y : Nat) (w : World) (h : IsS w .u64 v (digs 4294967296 x)) (h' : IsS w .u64 vb (digs 4294967296 y)) (hl : (digs 4294967296 x).length ≤ 90000) (hl' : (digs 4294967296 y).length ≤ 90000) (hy : 0 < y) (q : Nat) (hm : x % y = 0) (hq : q = x / y) :
    Calls Tryz.prog 38 #[v, vb] w (RetSI .u64 (digs 4294967296 q) 0 w) := by
  have HM := Lib.hid hm
  have HQ := Lib.hid hq
  clear hm hq
  go_enter Tryz.func38, Tryz.ntmps38
  go_wp2_with fail
  refine (ddiv_ok v vb x y w h h' hl hl' hy).mono ?_
  rintro e w1 ⟨v1, v2, rfl, k1, k2, f1, f2, b1⟩
  rw [HM.out, digs_zero] at k2
  rw [← HQ.out] at k1
  obtain ⟨A2, c2, rfl⟩ := isS_nil0 k2
  go_wp2
  go_ret2
  exact ⟨_, rfl, k1, f1, b1⟩
set_option maxHeartbeats 400000 in
theorem dexact_rest (v vb : Value) (x y : Nat) (w : World) (h : IsS w .u64 v (digs 4294967296 x)) (h' : IsS w .u64 vb (digs 4294967296 y)) (hl : (digs 4294967296 x).length ≤ 90000) (hl' : (digs 4294967296 y).length ≤ 90000) (hy : 0 < y) (hm : x % y ≠ 0) :
    Calls Tryz.prog 38 #[v, vb] w (RetSI .u64 [] 4 w) := by
  have hlen : 0 < (digs 4294967296 (x % y)).length := by
    rcases Nat.eq_zero_or_pos (digs 4294967296 (x % y)).length with h0 | h0
    · exact absurd ((digs_len0 (B := 4294967296) (by omega)).1 h0) hm
    · exact h0
  have hlen2 : ¬ digs 4294967296 (x % y) = [] := by intro e; rw [e] at hlen; simp at hlen
  clear hm
  go_enter Tryz.func38, Tryz.ntmps38
  go_wp2_with fail
  refine (ddiv_ok v vb x y w h h' hl hl' hy).mono ?_
  rintro e w1 ⟨v1, v2, rfl, k1, k2, f1, f2, b1⟩
  obtain ⟨A2, c2, rfl, _⟩ := k2
  go_wp2
  go_ret2
  exact ⟨_, rfl, isNil _ _, fresh_nil _, b1⟩

set_option maxHeartbeats 400000 in
theorem dmod_zero (v vb : Value) (w : World) (h' : IsS w .u64 vb (digs 4294967296 0)) :
    Calls Tryz.prog 69 #[v, vb] w (RetSI .u64 [] 3 w) := by
  go_enter Tryz.func69, Tryz.ntmps69
  go_wp2_with fail
  refine (ddiv_zero v vb w h').mono ?_
  rintro e w1 ⟨v1, v2, rfl, k1, k2, f1, f2, b1⟩
  go_wp2
  go_ret2
  exact ⟨_, rfl, k2, f2, b1⟩
set_option maxHeartbeats 400000 in
theorem dmod_ok (v vb : Value) (x y : Nat) (w : World) (h : IsS w .u64 v (digs 4294967296 x)) (h' : IsS w .u64 vb (digs 4294967296 y)) (hl : (digs 4294967296 x).length ≤ 90000) (hl' : (digs 4294967296 y).length ≤ 90000) (hy : 0 < y) (r : Nat) (hr : r = x % y) :
    Calls Tryz.prog 69 #[v, vb] w (RetSI .u64 (digs 4294967296 r) 0 w) := by
  have HR := Lib.hid hr
  clear hr
  go_enter Tryz.func69, Tryz.ntmps69
  go_wp2_with fail
  refine (ddiv_ok v vb x y w h h' hl hl' hy).mono ?_
  rintro e w1 ⟨v1, v2, rfl, k1, k2, f1, f2, b1⟩
  rw [← HR.out] at k2
  go_wp2
  go_ret2
  exact ⟨_, rfl, k2, f2, b1⟩

/-- Does a divide b? 0 divides 0 alone. -/
def divB (a b : Nat) : Bool := decide (b % a = 0)
theorem len0_iff (x : Nat) : ((digs 4294967296 x).length = 0) = (x = 0) := propext (digs_len0 (by omega))
end Go.Proofs.YtbebmknfecehnaaGreat.nat
namespace Go.Proofs.YtbebmknfecehnaaGreat.nat
open Go.RowKit Go.Proofs.YtbebmknfecehnaaGreat.num Go.Proofs.YtbebmknfecehnaaGreat.mem Go.Proofs.YtbebmknfecehnaaGreat.limb
set_option linter.unusedVariables false

theorem or_u64 {o p : Nat} (ho : o < 4294967296) (hp : p < 4294967296) (h : o ||| p = o + p) : bits BinOp.or IntKind.u64 (o : Int) (p : Int) = ((o + p : Nat) : Int) := by
  rw [bits_or_u64_nat o p (by omega) (by omega), h]

end Go.Proofs.YtbebmknfecehnaaGreat.nat
namespace Go.Proofs.YtbebmknfecehnaaGreat.nat
open Go.RowKit Go.Proofs.YtbebmknfecehnaaGreat.num Go.Proofs.YtbebmknfecehnaaGreat.mem Go.Proofs.YtbebmknfecehnaaGreat.limb
set_option linter.unusedVariables false

theorem dec_div (x y : Nat) : (digs 10000 (x / y)).length ≤ (digs 10000 x).length := digs_len_mono (by omega) (Nat.div_le_self _ _)
theorem dec_mod (x y : Nat) : (digs 10000 (x % y)).length ≤ (digs 10000 x).length := digs_len_mono (by omega) (Nat.mod_le _ _)
theorem len_pos {y : Nat} (hy : 0 < y) : 0 < (digs 4294967296 y).length := by
  rcases Nat.eq_zero_or_pos (digs 4294967296 y).length with h0 | h0
  · have := (digs_len0 (B := 4294967296) (by omega)).1 h0; omega
  · exact h0
theorem len_eq0 (z : Nat) : (((digs 4294967296 z).length : Int) == 0) = decide (z = 0) := by
  by_cases hz : z = 0
  · subst hz; rw [digs_zero]; rfl
  · rw [decide_eq_false hz, beq_eq_false_iff_ne]
    have := len_pos (y := z) (by omega)
    omega
theorem digs_of {l : List Nat} (h : Lt 4294967296 l) (ht : trim l = l) : digs 4294967296 (val 4294967296 l) = l := by rw [← trim_digs (by omega) h, ht]
theorem lt_small {l : List Nat} (h : ∀ d ∈ l, d < 8) : Lt 4294967296 l := fun d hd => Nat.lt_trans (h d hd) (by omega)
theorem own_lit3 (w : World) (base : Nat) (e : TypeId) (k : IntKind) {x y z : Int} {d f g : Nat} (hd : x = (d : Int)) (hf : y = (f : Int)) (hg : z = (g : Int)) (hb : base ≤ w.heap.size) : Own (w.alloc (.cells #[.int k x, .int k y, .int k z] e)) base e k (.slice (some ⟨w.heap.size, 0, none⟩) 3 3) [d, f, g] := by
  subst hd; subst hf; subst hg; exact own_lit w base e k [d, f, g] hb (by unfold maxLen; simp)
end Go.Proofs.YtbebmknfecehnaaGreat.nat
