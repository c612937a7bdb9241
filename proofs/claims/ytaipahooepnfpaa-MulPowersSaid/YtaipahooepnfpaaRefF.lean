/- The document's own Sub and Mul of layer 2. Condition: slices read as digits; what is taken off is not greater. -/
import Derived.Test.YtaipahooepnfpaaRefE
namespace Go.Proofs.Ytaipahooepnfpaa.nat
open Go.RowKit Go.Proofs.Ytaipahooepnfpaa.num Go.Proofs.Ytaipahooepnfpaa.mem
set_option linter.unusedVariables false

/-- What Sub's loop keeps behind k rounds, by base B. -/
def SB (B : Nat) (l m : List Nat) (k c : Nat) (o : List Nat) : Prop := Lt B o ∧ o.length = k ∧ val B o + val B (m.take k) = val B (l.take k) + B ^ k * c
theorem SB.start (B : Nat) (l m : List Nat) : SB B l m 0 0 [] := by unfold SB; exact ⟨Lt.nil _, rfl, by simp [val]⟩
theorem SB.step {B : Nat} {l m o : List Nat} {k c d e x c' : Nat} (h : SB B l m k c o) (hd : l[k]? = some d) (he : m[k]? = some e ∨ m.length ≤ k ∧ e = 0) (hx : x < B) (hs : x + e + c = d + B * c') : SB B l m (k + 1) c' (o ++ [x]) := by
  unfold SB at h ⊢
  obtain ⟨h1, h2, h3⟩ := h
  have ee : val B (m.take (k + 1)) = val B (m.take k) + B ^ k * e := by
    rcases he with he | ⟨he, rfl⟩
    · exact val_take_step he
    · rw [val_take_over he]; omega
  refine ⟨h1.snoc hx, by simp [h2], ?_⟩
  rw [val_snoc, h2, val_take_step hd, ee, Nat.pow_succ, Nat.mul_assoc]
  have e1 : B ^ k * x + B ^ k * e + B ^ k * c = B ^ k * d + B ^ k * (B * c') := by
    rw [← Nat.mul_add, ← Nat.mul_add, ← Nat.mul_add, hs]
  omega
theorem SB.done {B : Nat} {l m o : List Nat} {c : Nat} (h : SB B l m l.length c o) (hm : m.length ≤ l.length) (hle : val B m ≤ val B l) : Lt B o ∧ val B o = val B l - val B m := by
  unfold SB at h
  obtain ⟨h1, h2, h3⟩ := h
  rw [List.take_length, List.take_of_length_le hm] at h3
  have h4 := val_lt h1
  rw [h2] at h4
  have hc : c = 0 := by
    rcases Nat.eq_zero_or_pos c with h5 | h5
    · exact h5
    · have := Nat.mul_le_mul_left (B ^ l.length) h5
      omega
  subst hc
  exact ⟨h1, by omega⟩

end Go.Proofs.Ytaipahooepnfpaa.nat
