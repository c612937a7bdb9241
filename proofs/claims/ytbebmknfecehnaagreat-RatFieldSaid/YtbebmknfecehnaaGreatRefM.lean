/- The document's own Mul, Small, Pow of layer 3, and the chapter's example. Condition: slices read as limbs. -/
import Derived.Test.YtbebmknfecehnaaGreatMulT
import Derived.Test.YtbebmknfecehnaaGreatLawN
namespace Go.Proofs.YtbebmknfecehnaaGreat.nat
open Go.RowKit Go.Proofs.YtbebmknfecehnaaGreat.num Go.Proofs.YtbebmknfecehnaaGreat.mem Go.Proofs.YtbebmknfecehnaaGreat.limb
set_option linter.unusedVariables false

theorem dec_le (x : Nat) : (digs 10000 x).length ≤ 3 * (digs 4294967296 x).length := len10000_le (digs_lt_pow (by omega) x)

theorem small_len (x m c : Nat) : (digs 4294967296 (x * (m % 4294967296) + c % 4294967296)).length ≤ (digs 4294967296 x).length + 1 := by
  refine digs_len_le (by omega) ?_
  have h := digs_lt_pow (B := 4294967296) (by omega) x
  have h1 : x * (m % 4294967296) ≤ x * 4294967295 := Nat.mul_le_mul_left _ (by omega)
  have h2 : (x + 1) * 4294967296 ≤ 4294967296 ^ (digs 4294967296 x).length * 4294967296 := Nat.mul_le_mul_right _ h
  rw [Nat.pow_succ]; omega
theorem add_len (x y : Nat) : (digs 4294967296 (x + y)).length ≤ (digs 4294967296 x).length + (digs 4294967296 y).length + 1 := by
  refine digs_len_le (by omega) ?_
  have h1 := digs_lt_pow (B := 4294967296) (by omega) x
  have h2 := digs_lt_pow (B := 4294967296) (by omega) y
  have h3 := Nat.pow_le_pow_right (n := 4294967296) (by omega) (show (digs 4294967296 x).length ≤ (digs 4294967296 x).length + (digs 4294967296 y).length by omega)
  have h4 := Nat.pow_le_pow_right (n := 4294967296) (by omega) (show (digs 4294967296 y).length ≤ (digs 4294967296 x).length + (digs 4294967296 y).length by omega)
  rw [Nat.pow_succ]; omega

end Go.Proofs.YtbebmknfecehnaaGreat.nat
