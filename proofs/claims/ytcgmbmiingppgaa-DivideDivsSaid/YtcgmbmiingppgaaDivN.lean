/- Plain mathematics of layer 4: a number divided by a limb, by a number limb by limb (Knuth's way), and bit by bit. No program stands here. -/
import Derived.Test.YtcgmbmiingppgaaMulN
import Derived.Laws.Bits64b
namespace Go.Proofs.Ytcgmbmiingppgaa.num
set_option linter.unusedVariables false

theorem set_drop_behind {l : List Nat} {i x : Nat} : (l.set i x).drop (i + 1) = l.drop (i + 1) := by
  apply List.ext_getElem?
  intro j
  rw [List.getElem?_drop, List.getElem?_drop, List.getElem?_set_ne (by omega)]
theorem setDrop {o : List Nat} {j x : Nat} (h : j < o.length) : (o.set j x).drop j = x :: o.drop (j + 1) := by
  rw [drop_at (List.getElem?_set_self h), set_drop_behind]
/-- What Small's loop keeps while k limbs are still to come. -/
def DQ (B : Nat) (l : List Nat) (d k r : Nat) (o : List Nat) : Prop := Lt B o ∧ o.length = l.length ∧ val B (o.drop k) * d + r = val B (l.drop k) ∧ r < d
theorem DQ.start {B : Nat} (hB : 0 < B) (l : List Nat) {d : Nat} (hd : 1 ≤ d) : DQ B l d l.length 0 (List.replicate l.length 0) := by
  unfold DQ; exact ⟨Lt.rep hB _, by simp, by simp [val], by omega⟩
theorem DQ.step {B : Nat} {l o : List Nat} {d j r a q s : Nat} (h : DQ B l d (j + 1) r o) (hl : l[j]? = some a) (hq : q < B) (hs : s < d) (he : q * d + s = B * r + a) : DQ B l d j s (o.set j q) := by
  unfold DQ at h ⊢
  obtain ⟨h1, h2, h3, h4⟩ := h
  have hj : j < l.length := (List.getElem?_eq_some_iff.1 hl).1
  refine ⟨h1.set hq j, by simpa using h2, ?_, hs⟩
  rw [setDrop (by omega), val_cons, val_drop_step hl, ← h3, Nat.add_mul, Nat.mul_assoc, Nat.mul_add]
  omega
theorem DQ.done {B : Nat} {l o : List Nat} {d r : Nat} (h : DQ B l d 0 r o) : Lt B o ∧ o.length = l.length ∧ val B o = val B l / d ∧ r = val B l % d := by
  unfold DQ at h
  obtain ⟨h1, h2, h3, h4⟩ := h
  simp only [List.drop_zero] at h3
  refine ⟨h1, h2, ?_, ?_⟩
  · rw [← h3, Nat.mul_comm, Nat.mul_add_div (by omega), Nat.div_eq_of_lt h4, Nat.add_zero]
  · rw [← h3, Nat.mul_comm, Nat.mul_add_mod, Nat.mod_eq_of_lt h4]

/-- What takeOff keeps behind i limbs: u is to be carried, kept is 1 as long as nothing is lent. -/
def TO (B : Nat) (p0 b p : List Nat) (t i u kept : Nat) : Prop := Lt B p ∧ p.length = p0.length ∧ p.drop i = p0.drop i ∧ u < B ∧ kept ≤ 1 ∧ val B (p.take i) + B ^ i * kept + val B (b.take i) * t = val B (p0.take i) + B ^ i + B ^ i * u
theorem TO.start {B : Nat} {p : List Nat} (hp : Lt B p) (hB : 0 < B) (b : List Nat) (t : Nat) : TO B p b p t 0 0 1 := ⟨hp, rfl, rfl, hB, by omega, by simp [val]⟩
theorem at_of_drop {l m : List Nat} {i d : Nat} (h : l.drop i = m.drop i) (hd : l[i]? = some d) : m[i]? = some d := by
  have e := congrArg (fun x => x[0]?) h
  simp only [List.getElem?_drop, Nat.add_zero] at e
  rw [← e]; exact hd
theorem set_take_self {l : List Nat} {i x : Nat} : (l.set i x).take i = l.take i := by
  apply List.ext_getElem?
  intro j
  rw [List.getElem?_take, List.getElem?_take]
  split
  · rw [List.getElem?_set_ne (by omega)]
  · rfl
theorem TO.next {B : Nat} {p0 b p : List Nat} {t i u kept d e low up s k' : Nat} (h : TO B p0 b p t i u kept) (hd : p[i]? = some d) (he : b[i]? = some e) (hlow : low < B) (hup : up < B) (hm : low + B * up = e * t + u) (hs : s < B) (hk : s + B * k' = d + (B - 1 - low) + kept) : TO B p0 b (p.set i s) t (i + 1) up k' := by
  obtain ⟨h1, h2, h3, h4, h5, h6⟩ := h
  have hi : i < p.length := (List.getElem?_eq_some_iff.1 hd).1
  have hd1 := h1.at hd
  have hk1 : k' ≤ 1 := by
    rcases Nat.lt_or_ge 1 k' with h | h
    · have := Nat.mul_le_mul_left B h; omega
    · exact h
  refine ⟨h1.set hs i, by simpa using h2, ?_, hup, hk1, ?_⟩
  · rw [set_drop_behind, ← List.drop_drop, ← List.drop_drop, h3]
  · have e0 := at_of_drop h3 hd
    have e1 : val B ((p.set i s).take (i + 1)) = val B (p.take i) + B ^ i * s := by
      rw [val_take_step (List.getElem?_set_self hi), set_take_self]
    have e2 := val_take_step (B := B) e0
    have e3 := val_take_step (B := B) he
    rw [e1, e2, e3, Nat.add_mul, Nat.pow_succ]
    have a1 : B ^ i * s + B ^ i * B * k' = B ^ i * d + B ^ i * (B - 1 - low) + B ^ i * kept := by
      rw [Nat.mul_assoc, ← Nat.mul_add, hk, Nat.mul_add, Nat.mul_add]
    have a2 : B ^ i * low + B ^ i * B * up = B ^ i * e * t + B ^ i * u := by
      rw [Nat.mul_assoc, ← Nat.mul_add, hm, Nat.mul_add, Nat.mul_assoc]
    have a3 : B ^ i * (B - 1 - low) + B ^ i + B ^ i * low = B ^ i * B := by
      have : B - 1 - low + 1 + low = B := by omega
      rw [← Nat.mul_succ, ← Nat.mul_add]; congr 1
    omega
theorem TO.last {B : Nat} {p0 b p : List Nat} {t u kept d s k' : Nat} (h : TO B p0 b p t b.length u kept) (hl : p0.length = b.length + 1) (hd : p[b.length]? = some d) (hs : s < B) (hk : s + B * k' = d + (B - 1 - u) + kept) : Lt B (p.set b.length s) ∧ (p.set b.length s).length = p0.length ∧ k' ≤ 1 ∧ val B (p.set b.length s) + B ^ p0.length * k' + val B b * t = val B p0 + B ^ p0.length := by
  obtain ⟨h1, h2, h3, h4, h5, h6⟩ := h
  have hi : b.length < p.length := (List.getElem?_eq_some_iff.1 hd).1
  have hd1 := h1.at hd
  have hk1 : k' ≤ 1 := by
    rcases Nat.lt_or_ge 1 k' with h | h
    · have := Nat.mul_le_mul_left B h; omega
    · exact h
  refine ⟨h1.set hs _, by simpa using h2, hk1, ?_⟩
  have e0 := at_of_drop h3 hd
  have e1 : val B (p.set b.length s) = val B (p.take b.length) + B ^ b.length * s := by
    have e := val_take_step (B := B) (List.getElem?_set_self (a := s) hi)
    rw [set_take_self, List.take_of_length_le (by rw [List.length_set]; omega)] at e
    exact e
  have e2 : val B p0 = val B (p0.take b.length) + B ^ b.length * d := by
    have e := val_take_step (B := B) e0
    rwa [List.take_of_length_le (by omega)] at e
  rw [List.take_length] at h6
  rw [e1, e2, hl, Nat.pow_succ]
  have a1 : B ^ b.length * s + B ^ b.length * B * k' = B ^ b.length * d + B ^ b.length * (B - 1 - u) + B ^ b.length * kept := by
    rw [Nat.mul_assoc, ← Nat.mul_add, hk, Nat.mul_add, Nat.mul_add]
  have a3 : B ^ b.length * (B - 1 - u) + B ^ b.length + B ^ b.length * u = B ^ b.length * B := by
    have : B - 1 - u + 1 + u = B := by omega
    rw [← Nat.mul_succ, ← Nat.mul_add]; congr 1
  omega

/-- What putBack keeps behind i limbs. -/
def PB (B : Nat) (p0 b p : List Nat) (i u : Nat) : Prop := Lt B p ∧ p.length = p0.length ∧ p.drop i = p0.drop i ∧ u < B ∧ val B (p.take i) + B ^ i * u = val B (p0.take i) + val B (b.take i)
theorem PB.start {B : Nat} {p : List Nat} (hp : Lt B p) (hB : 0 < B) (b : List Nat) : PB B p b p 0 0 := ⟨hp, rfl, rfl, hB, by simp [val]⟩
theorem PB.next {B : Nat} {p0 b p : List Nat} {i u d e s u' : Nat} (h : PB B p0 b p i u) (hd : p[i]? = some d) (he : b[i]? = some e) (hs : s < B) (hu : u' < B) (hk : s + B * u' = d + e + u) : PB B p0 b (p.set i s) (i + 1) u' := by
  obtain ⟨h1, h2, h3, h4, h6⟩ := h
  have hi : i < p.length := (List.getElem?_eq_some_iff.1 hd).1
  refine ⟨h1.set hs i, by simpa using h2, ?_, hu, ?_⟩
  · rw [set_drop_behind, ← List.drop_drop, ← List.drop_drop, h3]
  · have e0 := at_of_drop h3 hd
    have e1 : val B ((p.set i s).take (i + 1)) = val B (p.take i) + B ^ i * s := by
      rw [val_take_step (List.getElem?_set_self hi), set_take_self]
    have e2 := val_take_step (B := B) e0
    have e3 := val_take_step (B := B) he
    rw [e1, e2, e3, Nat.pow_succ]
    have a1 : B ^ i * s + B ^ i * B * u' = B ^ i * d + B ^ i * e + B ^ i * u := by
      rw [Nat.mul_assoc, ← Nat.mul_add, hk, Nat.mul_add, Nat.mul_add]
    omega
/-- Behind the last limb, of which what is carried on is left out. -/
theorem PB.last {B : Nat} {p0 b p : List Nat} {u d s k : Nat} (h : PB B p0 b p b.length u) (hl : p0.length = b.length + 1) (hd : p[b.length]? = some d) (hs : s < B) (hk : s + B * k = d + u) : Lt B (p.set b.length s) ∧ (p.set b.length s).length = p0.length ∧ val B (p.set b.length s) + B ^ p0.length * k = val B p0 + val B b := by
  obtain ⟨h1, h2, h3, h4, h6⟩ := h
  have hi : b.length < p.length := (List.getElem?_eq_some_iff.1 hd).1
  refine ⟨h1.set hs _, by simpa using h2, ?_⟩
  have e0 := at_of_drop h3 hd
  have e1 : val B (p.set b.length s) = val B (p.take b.length) + B ^ b.length * s := by
    have e := val_take_step (B := B) (List.getElem?_set_self (a := s) hi)
    rw [set_take_self, List.take_of_length_le (by rw [List.length_set]; omega)] at e
    exact e
  have e2 : val B p0 = val B (p0.take b.length) + B ^ b.length * d := by
    have e := val_take_step (B := B) e0
    rwa [List.take_of_length_le (by omega)] at e
  rw [List.take_length] at h6
  rw [e1, e2, hl, Nat.pow_succ]
  have a1 : B ^ b.length * s + B ^ b.length * B * k = B ^ b.length * d + B ^ b.length * u := by
    rw [Nat.mul_assoc, ← Nat.mul_add, hk, Nat.mul_add]
  omega

/-- A guess: the quotient, or one more. -/
def Guess (V D t : Nat) : Prop := V / D ≤ t ∧ t ≤ V / D + 1
/-- A guess that was not too much. -/
theorem Guess.right {V D t V' : Nat} (h : Guess V D t) (hD : 0 < D) (hv : V' + D * t = V) : t = V / D ∧ V' = V % D := by
  have h1 : t ≤ V / D := (Nat.le_div_iff_mul_le hD).2 (by rw [Nat.mul_comm]; omega)
  have h2 : t = V / D := Nat.le_antisymm h1 h.1
  refine ⟨h2, ?_⟩
  have := Nat.mod_add_div V D
  rw [← h2] at this
  omega
/-- One that was: what was lent is given back. -/
theorem Guess.more {V D t V' W M k : Nat} (h : Guess V D t) (hD : 0 < D) (hV' : V' < M) (hv : V' + D * t = V + M) (hW : W + M * k = V' + D) (hWM : W < M) (hVM : V < M) : t = V / D + 1 ∧ W = V % D := by
  have h1 : V < D * t := by omega
  have h2 : V / D < t := Nat.div_lt_of_lt_mul h1
  have h3 : t = V / D + 1 := by have := h.2; omega
  refine ⟨h3, ?_⟩
  have e := Nat.mod_add_div V D
  rw [h3, Nat.mul_add, Nat.mul_one] at hv
  have h4 : V' + D = V % D + M := by omega
  have h5 : V % D < M := Nat.lt_of_le_of_lt (Nat.mod_le _ _) hVM
  have hk : k = 1 := by
    rcases Nat.lt_or_ge k 1 with h | h
    · have : k = 0 := by omega
      subst this; omega
    · rcases Nat.lt_or_ge 1 k with h' | h'
      · have := Nat.mul_le_mul_left M h'; omega
      · omega
  subst hk
  omega

/-- A number by its last three limbs, and what lies below. -/
theorem three {B : Nat} {p : List Nat} {n a b c : Nat} (hp : p.length = n + 3) (ha : p[n + 2]? = some a) (hb : p[n + 1]? = some b) (hc : p[n]? = some c) : val B p = val B (p.take n) + B ^ n * ((a * B + b) * B + c) := by
  have e1 := val_take_step (B := B) ha
  have e2 := val_take_step (B := B) hb
  have e3 := val_take_step (B := B) hc
  rw [List.take_of_length_le (by omega)] at e1
  rw [e1, show n + 2 = n + 1 + 1 from rfl, e2, e3, Nat.add_mul, Nat.mul_add, Nat.mul_add]
  simp only [Nat.pow_succ]
  have x1 : B ^ n * B * B * a = B ^ n * (a * B * B) := by simp only [Nat.mul_assoc, Nat.mul_left_comm, Nat.mul_comm]
  have x2 : B ^ n * B * b = B ^ n * (b * B) := by simp only [Nat.mul_assoc, Nat.mul_left_comm, Nat.mul_comm]
  omega
theorem two {B : Nat} {p : List Nat} {n a b : Nat} (hp : p.length = n + 2) (ha : p[n + 1]? = some a) (hb : p[n]? = some b) : val B p = val B (p.take n) + B ^ n * (a * B + b) := by
  have e1 := val_take_step (B := B) ha
  have e2 := val_take_step (B := B) hb
  rw [List.take_of_length_le (by omega)] at e1
  rw [e1, e2, Nat.mul_add, Nat.pow_succ]
  have x2 : B ^ n * B * a = B ^ n * (a * B) := by simp only [Nat.mul_assoc, Nat.mul_left_comm, Nat.mul_comm]
  omega
/-- The guess while it is put right: t times v and left are the two highest limbs; t is never too little. -/
def GU (B V D u1 u0 v t left : Nat) : Prop := t * v + left = u1 * B + u0 ∧ V / D ≤ t ∧ t < B
/-- Where the guess is too much by the next limbs, it is by the whole. -/
theorem GU.step {B V D u1 u0 v t left c b2 n X Y : Nat} (h : GU B V D u1 u0 v t left) (hV : V = X + B ^ n * ((u1 * B + u0) * B + c)) (hX : X < B ^ n) (hD : D = Y + B ^ n * (v * B + b2)) (hc : left * B + c < t * b2) : 1 ≤ t ∧ GU B V D u1 u0 v (t - 1) (left + v) := by
  obtain ⟨h1, h2, h3⟩ := h
  have ht : 1 ≤ t := by
    rcases Nat.eq_zero_or_pos t with h | h
    · subst h; omega
    · exact h
  have hp : 0 < B ^ n := by omega
  have k1 : (u1 * B + u0) * B + c + 1 ≤ t * (v * B + b2) := by
    have : t * (v * B + b2) = (t * v) * B + t * b2 := by rw [Nat.mul_add, Nat.mul_assoc]
    rw [this, ← h1, Nat.add_mul]; omega
  have k2 := Nat.mul_le_mul_left (B ^ n) k1
  have k3 : V < D * t := by
    have : D * t = Y * t + B ^ n * (t * (v * B + b2)) := by rw [hD, Nat.add_mul, Nat.mul_assoc, Nat.mul_comm t]
    rw [this, hV]
    rw [Nat.mul_succ] at k2
    omega
  have k4 : V / D < t := Nat.div_lt_of_lt_mul k3
  refine ⟨ht, ?_, by omega, by omega⟩
  have : (t - 1) * v + v = t * v := by rw [← Nat.succ_mul]; congr 1; omega
  omega
/-- Where it isn't, it is one too much at most. -/
theorem GU.done {B V D u1 u0 v t left c b2 n X Y : Nat} (h : GU B V D u1 u0 v t left) (hV : V = X + B ^ n * ((u1 * B + u0) * B + c)) (hD : D = Y + B ^ n * (v * B + b2)) (hY : Y < B ^ n) (hv : 0 < v) (hc : t * b2 ≤ left * B + c) : Guess V D t := by
  obtain ⟨h1, h2, h3⟩ := h
  refine ⟨h2, ?_⟩
  have k1 : t * (v * B + b2) ≤ (u1 * B + u0) * B + c := by
    have : t * (v * B + b2) = (t * v) * B + t * b2 := by rw [Nat.mul_add, Nat.mul_assoc]
    rw [this, ← h1, Nat.add_mul]; omega
  have k2 := Nat.mul_le_mul_left (B ^ n) k1
  have hD0 : B ^ n * B ≤ D := by
    rw [hD]
    have := Nat.mul_le_mul_left (B ^ n) (show B ≤ v * B + b2 by have := Nat.mul_le_mul_right B hv; omega)
    omega
  have hp : 0 < B ^ n := by omega
  have hDp : 0 < D := by
    have : 0 < B ^ n * B := Nat.mul_pos hp (by omega)
    omega
  have k3 : D * t ≤ V + D := by
    have e : D * t = Y * t + B ^ n * (t * (v * B + b2)) := by rw [hD, Nat.add_mul, Nat.mul_assoc, Nat.mul_comm t]
    have g : Y * t ≤ B ^ n * B := Nat.mul_le_mul (by omega) (by omega)
    have e2 : B ^ n * (t * (v * B + b2)) ≤ V := by rw [hV]; omega
    rw [e]; omega
  rcases Nat.eq_zero_or_pos t with h | h
  · subst h; exact Nat.zero_le _
  · have : t - 1 ≤ V / D := by
      rw [Nat.le_div_iff_mul_le hDp]
      have : D * (t - 1) + D = D * t := by rw [← Nat.mul_succ]; congr 1; omega
      rw [Nat.mul_comm]; omega
    omega
theorem GU.start_div {B V D u1 u0 v c n X Y b2 : Nat} (hV : V = X + B ^ n * ((u1 * B + u0) * B + c)) (hX : X < B ^ n) (hc : c < B) (h0 : u0 < B) (hD : D = Y + B ^ n * (v * B + b2)) (hu : u1 < v) : GU B V D u1 u0 v ((u1 * B + u0) / v) ((u1 * B + u0) % v) := by
  have hq : (u1 * B + u0) / v < B := Nat.div_lt_of_lt_mul (by
    have : (u1 + 1) * B ≤ v * B := Nat.mul_le_mul_right B hu
    rw [Nat.add_mul] at this; omega)
  have hm : (u1 * B + u0) / v * v + (u1 * B + u0) % v = u1 * B + u0 := by rw [Nat.mul_comm]; exact Nat.div_add_mod _ _
  refine ⟨hm, ?_, hq⟩
  have hp : 0 < B ^ n := by omega
  have hDp : 0 < D := by
    have : 0 < B ^ n * (v * B + b2) := Nat.mul_pos hp (by have := Nat.mul_pos (show 0 < v by omega) (show 0 < B by omega); omega)
    omega
  refine Nat.le_of_lt_succ (Nat.div_lt_of_lt_mul ?_)
  have hr : (u1 * B + u0) % v < v := Nat.mod_lt _ (by omega)
  obtain ⟨q, hqe⟩ : ∃ q, q = (u1 * B + u0) / v := ⟨_, rfl⟩
  rw [← hqe] at hm ⊢
  have k1 : u1 * B + u0 + 1 ≤ (q + 1) * v := by rw [Nat.add_mul]; omega
  have k2 : (u1 * B + u0) * B + c + 1 ≤ (q + 1) * (v * B + b2) := by
    have a := Nat.mul_le_mul_right B k1
    rw [Nat.add_mul] at a
    rw [Nat.mul_add (q + 1), ← Nat.mul_assoc]; omega
  have k3 := Nat.mul_le_mul_left (B ^ n) k2
  have e : (Y + B ^ n * (v * B + b2)) * (q + 1) = Y * (q + 1) + B ^ n * ((q + 1) * (v * B + b2)) := by rw [Nat.add_mul, Nat.mul_assoc, Nat.mul_comm (v * B + b2)]
  show V < D * (q + 1)
  rw [hV, hD, e]
  rw [Nat.mul_succ] at k3
  omega
theorem GU.start_top {B V D u1 u0 v c n X Y b2 : Nat} (hV : V = X + B ^ n * ((u1 * B + u0) * B + c)) (hD : D = Y + B ^ n * (v * B + b2)) (hY : Y < B ^ n) (hb2 : b2 < B) (hVD : V < B * D) (hu : v ≤ u1) (hv : 0 < v) (hB : 0 < B) : u1 = v ∧ GU B V D u1 u0 v (B - 1) (u1 + u0) := by
  have hDp : 0 < D := by
    rcases Nat.eq_zero_or_pos D with h | h
    · subst h; omega
    · exact h
  have h1 : u1 = v := by
    rcases Nat.lt_or_ge v u1 with h | h
    · exfalso
      have a1 : D < B ^ n * (v * B + B) := by
        have := Nat.mul_le_mul_left (B ^ n) (show v * B + b2 + 1 ≤ v * B + B by omega)
        rw [Nat.mul_succ] at this
        omega
      have a2 : B * D < B * (B ^ n * ((v + 1) * B)) := Nat.mul_lt_mul_of_pos_left (by rw [Nat.add_mul, Nat.one_mul]; exact a1) hB
      have a3 : B * (B ^ n * ((v + 1) * B)) ≤ B ^ n * ((u1 * B + u0) * B + c) := by
        have e : B * (B ^ n * ((v + 1) * B)) = B ^ n * ((v + 1) * B * B) := by simp only [Nat.mul_left_comm, Nat.mul_comm]
        rw [e]
        refine Nat.mul_le_mul_left _ ?_
        have := Nat.mul_le_mul_right B (Nat.mul_le_mul_right B h)
        refine Nat.le_trans this ?_
        rw [Nat.add_mul (u1 * B)]
        exact Nat.le_trans (Nat.le_add_right _ _) (Nat.le_add_right _ _)
      omega
    · omega
  refine ⟨h1, ?_, ?_, by omega⟩
  · subst h1
    have : (B - 1) * u1 + u1 = u1 * B := by rw [← Nat.succ_mul, Nat.mul_comm]; congr 1; omega
    omega
  · have : V / D < B := Nat.div_lt_of_lt_mul (by rw [Nat.mul_comm]; exact hVD)
    omega

/-- What long's loop keeps while k limbs of the quotient are still to come. -/
def KD (B x D N : Nat) (P O : List Nat) (k : Nat) : Prop := Lt B P ∧ P.length = N ∧ Lt B O ∧ val B P + D * (B ^ k * val B (O.drop k)) = x ∧ val B (P.drop k) < D
theorem KD.start {B x D m Q : Nat} (hB : 2 ≤ B) (hD : B ^ (m - 1) ≤ D) (hQ : Q ≤ (digs B x).length) (hQm : (digs B x).length - Q ≤ m - 1) : KD B x D ((digs B x).length + 1) (digs B x ++ [0]) (List.replicate Q 0) Q := by
  have h0 := digs_lt hB x
  have e1 : (digs B x ++ [0]).drop Q = (digs B x).drop Q ++ [0] := List.drop_append_of_le_length hQ
  have h1 := val_lt (h0.drop Q)
  rw [List.length_drop] at h1
  have h2 := Nat.pow_le_pow_right (n := B) (by omega) hQm
  refine ⟨h0.snoc (by omega), by simp, Lt.rep (by omega) Q, ?_, ?_⟩
  · rw [val_snoc, val_digs hB, List.drop_of_length_le (by simp), val_nil]; simp
  · rw [e1, val_snoc]; omega
/-- The part that step divides. -/
def seg (P : List Nat) (s m : Nat) : List Nat := (P.drop s).take (m + 1)
theorem seg_len {P : List Nat} {s m N : Nat} (hN : P.length = N) (h : s + m + 1 ≤ N) : (seg P s m).length = m + 1 := by unfold seg; simp; omega
theorem seg_split {P : List Nat} {s m N : Nat} (hN : P.length = N) (h : s + m + 1 ≤ N) : P.take s ++ seg P s m ++ P.drop (s + m + 1) = P := by
  unfold seg
  have e : P.drop (s + m + 1) = (P.drop s).drop (m + 1) := by rw [List.drop_drop]; congr 1
  rw [e, List.append_assoc, List.take_append_drop, List.take_append_drop]
theorem KD.at {B x D N : Nat} {P O : List Nat} {s m : Nat} (h : KD B x D N P O (s + 1)) (hs : s + m + 1 ≤ N) (hD : D ≤ B ^ m) : Lt B (seg P s m) ∧ val B (seg P s m) < B * D ∧ val B (P.drop (s + m + 1)) = 0 := by
  obtain ⟨h1, h2, h3, h4, h5⟩ := h
  obtain ⟨d, hd⟩ : ∃ d, P[s]? = some d := ⟨_, List.getElem?_eq_getElem (by omega)⟩
  have e1 := val_drop_step (B := B) hd
  have hd1 := h1.at hd
  have e2 : val B (P.drop s) < B * D := by
    have := Nat.mul_le_mul_left B (show val B (P.drop (s + 1)) + 1 ≤ D by omega)
    rw [Nat.mul_add] at this; omega
  have e3 := val_append B (seg P s m) (P.drop (s + m + 1))
  have e4 : seg P s m ++ P.drop (s + m + 1) = P.drop s := by
    have e : P.drop (s + m + 1) = (P.drop s).drop (m + 1) := by rw [List.drop_drop]; congr 1
    unfold seg; rw [e, List.take_append_drop]
  rw [e4, seg_len h2 hs] at e3
  have e5 : B * D ≤ B ^ (m + 1) := by rw [Nat.pow_succ, Nat.mul_comm]; exact Nat.mul_le_mul_right B hD
  refine ⟨(h1.drop s).take _, by omega, ?_⟩
  rcases Nat.eq_zero_or_pos (val B (P.drop (s + m + 1))) with h | h
  · exact h
  · have := Nat.mul_le_mul_left (B ^ (m + 1)) h; omega
theorem KD.step {B x D N : Nat} {P O p' : List Nat} {s m t : Nat} (h : KD B x D N P O (s + 1)) (hs : s + m + 1 ≤ N) (hO : s < O.length) (hD : D ≤ B ^ m) (hDp : 0 < D) (ht : t = val B (seg P s m) / D) (htB : t < B) (hl : Lt B p') (hlen : p'.length = (seg P s m).length) (hv : val B p' = val B (seg P s m) % D) : KD B x D N (P.take s ++ p' ++ P.drop (s + m + 1)) (O.set s t) s := by
  obtain ⟨a1, a2, a3⟩ := h.at hs hD
  obtain ⟨h1, h2, h3, h4, h5⟩ := h
  have hpl := seg_len h2 hs
  have hX : (P.take s).length = s := by simp; omega
  have e0 := seg_split h2 hs
  have e1 : val B P = val B (P.take s) + B ^ s * val B (seg P s m) := by
    have := val_append B (P.take s ++ seg P s m) (P.drop (s + m + 1))
    rw [e0, a3, val_append, hX] at this; simpa using this
  have e2 : val B (P.take s ++ p' ++ P.drop (s + m + 1)) = val B (P.take s) + B ^ s * val B p' := by
    rw [val_append, val_append, a3, hX]; simp
  have e3 : val B ((P.take s ++ p' ++ P.drop (s + m + 1)).drop s) = val B p' := by
    rw [List.append_assoc, List.drop_left' hX, val_append, a3]; simp
  have e4 := Nat.mod_add_div (val B (seg P s m)) D
  rw [← ht, ← hv] at e4
  refine ⟨((h1.take s).append hl).append (h1.drop _), ?_, h3.set htB s, ?_, ?_⟩
  · simp only [List.length_append, hlen, hpl, hX, List.length_drop]; omega
  · rw [setDrop hO, val_cons, e2]
    rw [e1, ← e4, Nat.pow_succ] at h4
    have g1 : D * (B ^ s * (t + B * val B (O.drop (s + 1)))) = B ^ s * (D * t) + D * (B ^ s * B * val B (O.drop (s + 1))) := by
      rw [Nat.mul_add, Nat.mul_add, Nat.mul_left_comm, Nat.mul_assoc (B ^ s) B]
    rw [Nat.mul_add] at h4
    omega
  · rw [e3, hv]; exact Nat.mod_lt _ hDp
theorem KD.done {B x D N : Nat} {P O : List Nat} (h : KD B x D N P O 0) : Lt B P ∧ Lt B O ∧ val B O = x / D ∧ val B P = x % D := by
  obtain ⟨h1, h2, h3, h4, h5⟩ := h
  simp only [List.drop_zero, Nat.pow_zero, Nat.one_mul] at h4 h5
  refine ⟨h1, h3, ?_, ?_⟩
  · rw [← h4, Nat.add_mul_div_left _ _ (by omega), Nat.div_eq_of_lt h5, Nat.zero_add]
  · rw [← h4, Nat.add_mul_mod_self_left, Nat.mod_eq_of_lt h5]
end Go.Proofs.Ytcgmbmiingppgaa.num
