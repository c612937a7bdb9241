/- Package whole and the document's whole numbers: the calls. Condition: as each says. -/
import Derived.Test.YtbebmknfecehnaaGreatWhlL
import Derived.Deep.Cut
namespace Go.Proofs.YtbebmknfecehnaaGreat.whl
open Go.RowKit Go.Proofs.YtbebmknfecehnaaGreat.num Go.Proofs.YtbebmknfecehnaaGreat.mem Go.Proofs.YtbebmknfecehnaaGreat.nat Go.Proofs.YtbebmknfecehnaaGreat.txt Go.Proofs.YtbebmknfecehnaaGreat.str Go.Proofs.YtbebmknfecehnaaGreat.flow
set_option linter.unusedVariables false
theorem fmod_zero {x y : Int} (hy : y ≠ 0) : x.fmod y = 0 ↔ x.natAbs % y.natAbs = 0 := by
  have hlt := Nat.mod_lt x.natAbs (show 0 < y.natAbs by omega)
  have key : (x.fmod y).natAbs = 0 ↔ x.natAbs % y.natAbs = 0 := by
    by_cases hs : ngB x = ngB y ∨ x.natAbs % y.natAbs = 0
    · obtain ⟨_, h3⟩ := floor_same hy hs
      rw [← h3, sg_abs]
    · have hp : 0 < x.natAbs % y.natAbs := by rcases Nat.eq_zero_or_pos (x.natAbs % y.natAbs) with h | h; exact absurd (Or.inr h) hs; exact h
      obtain ⟨_, h3⟩ := floor_off hy (fun h => hs (.inl h)) hp
      rw [← h3, sg_abs]
      omega
  constructor
  · intro h; exact key.1 (by rw [h]; rfl)
  · intro h; have := key.2 h; omega
end Go.Proofs.YtbebmknfecehnaaGreat.whl
