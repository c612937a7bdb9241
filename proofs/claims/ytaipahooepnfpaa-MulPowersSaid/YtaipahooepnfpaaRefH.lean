/- The document's own Div of layer 2. Condition: slices read as digits; the divisor is not 0. -/
import Derived.Test.YtaipahooepnfpaaRefG
namespace Go.Proofs.Ytaipahooepnfpaa.nat
open Go.RowKit Go.Proofs.Ytaipahooepnfpaa.num Go.Proofs.Ytaipahooepnfpaa.mem
set_option linter.unusedVariables false

/-- What the search of a digit keeps. -/
def BS (y R lo hi : Nat) : Prop := y * lo ≤ R ∧ R < y * hi
theorem BS.done {y R lo : Nat} (h : BS y R lo (lo + 1)) : lo = R / y := by
  unfold BS at h
  obtain ⟨h1, h2⟩ := h
  have hy : 0 < y := by
    rcases Nat.eq_zero_or_pos y with h3 | h3
    · subst h3; omega
    · exact h3
  have h4 := Nat.div_lt_of_lt_mul h2
  have h5 := (Nat.le_div_iff_mul_le hy).2 (by rw [Nat.mul_comm]; exact h1)
  omega
theorem len_digit {y R : Nat} (h : R < 10000 * y) : (digs 10000 R).length ≤ (digs 10000 y).length + 1 := by
  refine digs_len_le (by omega) ?_
  have := digs_lt_pow (B := 10000) (by omega) y
  rw [Nat.pow_succ]; omega

end Go.Proofs.Ytaipahooepnfpaa.nat
