/- The document's own Mul of layer 2. Condition: slices read as digits. -/
import Derived.Test.YtcgmbmiingppgaaRefF
import Derived.IntWalk
namespace Go.Proofs.Ytcgmbmiingppgaa.nat
open Go.RowKit Go.Proofs.Ytcgmbmiingppgaa.num Go.Proofs.Ytcgmbmiingppgaa.mem
set_option linter.unusedVariables false

/-- What Mul's outer loop keeps: behind i digits of the first number. -/
def MO (l m : List Nat) (i : Nat) (o : List Nat) : Prop := Lt 10000 o ∧ o.length = l.length + m.length + 1 ∧ val 10000 o = val 10000 (l.take i) * val 10000 m
/-- What its inner loop keeps: behind j digits of the second one. -/
def MI (l m : List Nat) (i a j c : Nat) (o : List Nat) : Prop := Lt 10000 o ∧ o.length = l.length + m.length + 1 ∧ val 10000 o + 10000 ^ (i + j) * c = val 10000 (l.take i) * val 10000 m + 10000 ^ i * (a * val 10000 (m.take j))
/-- What the loop behind keeps, which carries on at place k. -/
def MC (l m : List Nat) (i k c : Nat) (o : List Nat) : Prop := Lt 10000 o ∧ o.length = l.length + m.length + 1 ∧ val 10000 o + 10000 ^ k * c = val 10000 (l.take (i + 1)) * val 10000 m
theorem MO.start (l m : List Nat) : MO l m 0 (List.replicate (l.length + m.length + 1) 0) := by
  unfold MO; exact ⟨Lt.rep (by omega) _, by simp, by rw [val_rep]; simp [val]⟩
theorem MO.inner {l m o : List Nat} {i a : Nat} (h : MO l m i o) : MI l m i a 0 0 o := by
  unfold MO at h; unfold MI
  exact ⟨h.1, h.2.1, by simp [h.2.2, val]⟩
theorem MI.step {l m o : List Nat} {i a j c d b : Nat} (h : MI l m i a j c o) (hd : o[i + j]? = some d) (hb : m[j]? = some b) : MI l m i a (j + 1) ((c + d + a * b) / 10000) (o.set (i + j) ((c + d + a * b) % 10000)) := by
  unfold MI at h ⊢
  obtain ⟨h1, h2, h3⟩ := h
  refine ⟨h1.set (by omega) _, by simpa using h2, ?_⟩
  have hs := val_set (B := 10000) hd ((c + d + a * b) % 10000)
  rw [val_take_step hb, Nat.mul_add, Nat.mul_add, ← Nat.add_assoc (val 10000 (l.take i) * val 10000 m), ← h3, ← Nat.add_assoc i j 1, Nat.pow_succ, Nat.mul_assoc (10000 ^ (i + j))]
  have e1 : 10000 ^ (i + j) * ((c + d + a * b) % 10000) + 10000 ^ (i + j) * (10000 * ((c + d + a * b) / 10000)) = 10000 ^ (i + j) * c + 10000 ^ (i + j) * d + 10000 ^ (i + j) * (a * b) := by
    rw [← Nat.mul_add, ← Nat.mul_add, ← Nat.mul_add]; congr 1; omega
  have e2 : 10000 ^ i * (a * (10000 ^ j * b)) = 10000 ^ (i + j) * (a * b) := by rw [Nat.pow_add, Nat.mul_assoc, Nat.mul_left_comm a]
  rw [e2]; omega
theorem MI.carry {l m o : List Nat} {i a c : Nat} (h : MI l m i a m.length c o) (ha : l[i]? = some a) : MC l m i (i + m.length) c o := by
  unfold MI at h; unfold MC
  obtain ⟨h1, h2, h3⟩ := h
  refine ⟨h1, h2, ?_⟩
  rw [List.take_length] at h3
  rw [h3, val_take_step ha, Nat.add_mul, Nat.mul_assoc]
theorem MC.place {l m o : List Nat} {i k c : Nat} (h : MC l m i k c o) (lt1 : Lt 10000 l) (lt2 : Lt 10000 m) (hi : i < l.length) (hc : 0 < c) : k < i + 1 + m.length := by
  unfold MC at h
  obtain ⟨h1, h2, h3⟩ := h
  have h4 := val_lt (lt1.take (i + 1))
  have h5 := val_lt lt2
  rw [show (l.take (i + 1)).length = i + 1 from by simp; omega] at h4
  have h6 : val 10000 (l.take (i + 1)) * val 10000 m < 10000 ^ (i + 1) * 10000 ^ m.length := Nat.mul_lt_mul'' h4 h5
  rw [← Nat.pow_add] at h6
  have h7 := Nat.mul_le_mul_left (10000 ^ k) hc
  rcases Nat.lt_or_ge k (i + 1 + m.length) with h8 | h8
  · exact h8
  · have := Nat.pow_le_pow_right (n := 10000) (by omega) h8
    omega
theorem MC.step {l m o : List Nat} {i k c d : Nat} (h : MC l m i k c o) (hd : o[k]? = some d) : MC l m i (k + 1) ((c + d) / 10000) (o.set k ((c + d) % 10000)) := by
  unfold MC at h ⊢
  obtain ⟨h1, h2, h3⟩ := h
  refine ⟨h1.set (by omega) _, by simpa using h2, ?_⟩
  have hs := val_set (B := 10000) hd ((c + d) % 10000)
  rw [← h3, Nat.pow_succ, Nat.mul_assoc (10000 ^ k)]
  have e1 : 10000 ^ k * ((c + d) % 10000) + 10000 ^ k * (10000 * ((c + d) / 10000)) = 10000 ^ k * c + 10000 ^ k * d := by
    rw [← Nat.mul_add, ← Nat.mul_add]; congr 1; omega
  omega
theorem MC.done {l m o : List Nat} {i k : Nat} (h : MC l m i k 0 o) : MO l m (i + 1) o := by
  unfold MC at h; unfold MO
  exact ⟨h.1, h.2.1, by simpa using h.2.2⟩
theorem MO.done {l m o : List Nat} (h : MO l m l.length o) : Lt 10000 o ∧ val 10000 o = val 10000 l * val 10000 m := by
  unfold MO at h
  rw [List.take_length] at h
  exact ⟨h.1, h.2.2⟩

end Go.Proofs.Ytcgmbmiingppgaa.nat
