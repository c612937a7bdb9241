/- Package mul: power, Pow, slices.Clone of numbers, Product. Condition: slices read as limbs. -/
import Derived.Test.YtcgmbmiingppgaaMulC
import Derived.Lib.SliceRun
namespace Go.Proofs.Ytcgmbmiingppgaa.nat
open Go.RowKit Go.Proofs.Ytcgmbmiingppgaa.num Go.Proofs.Ytcgmbmiingppgaa.mem Go.Proofs.Ytcgmbmiingppgaa.limb
set_option linter.unusedVariables false

theorem pow_len (x n : Nat) : (digs 4294967296 (x ^ n)).length ≤ (digs 4294967296 x).length * n + 1 := by
  induction n with
  | zero => rw [Nat.pow_zero, Nat.mul_zero]; exact digs_len_le (by omega) (by omega)
  | succ n ih =>
    rw [Nat.pow_succ]
    have h := mul_len (x ^ n) x
    rw [Nat.mul_succ]; omega
theorem pow_half {x n : Nat} : x ^ n = if n % 2 = 1 then x ^ (n / 2) * x ^ (n / 2) * x else x ^ (n / 2) * x ^ (n / 2) := by
  split
  · rw [← Nat.pow_add, ← Nat.pow_succ]; congr 1; omega
  · rw [← Nat.pow_add]; congr 1; omega

end Go.Proofs.Ytcgmbmiingppgaa.nat
