/- Texts with a sign ahead: the document's texts. Condition: as each says. -/
import Derived.Test.YtbebmknfecehnaaGreatWhlN
namespace Go.Proofs.YtbebmknfecehnaaGreat.whl
open Go.RowKit Go.Proofs.YtbebmknfecehnaaGreat.num Go.Proofs.YtbebmknfecehnaaGreat.mem Go.Proofs.YtbebmknfecehnaaGreat.nat Go.Proofs.YtbebmknfecehnaaGreat.txt Go.Proofs.YtbebmknfecehnaaGreat.str Go.Proofs.YtbebmknfecehnaaGreat.flow
set_option linter.unusedVariables false

theorem u8_fig {r : Nat} (h : r < 10) : 48 + (r : Int) = (((ch r).toNat : Nat) : Int) := by
  rw [ch_toNat (by omega), if_pos h]; omega
theorem txt4_len (x : Nat) : (txt 10 x).length ≤ 4 * (digs 10000 x).length + 1 := by
  unfold txt
  split
  · simp
  · rw [List.length_map, List.length_reverse]
    refine Nat.le_succ_of_le (digs_len_le (by omega) ?_)
    have h1 : x < 10000 ^ (digs 10000 x).length := digs_lt_pow (by omega) x
    rw [Nat.pow_mul]
    exact h1
end Go.Proofs.YtbebmknfecehnaaGreat.whl
