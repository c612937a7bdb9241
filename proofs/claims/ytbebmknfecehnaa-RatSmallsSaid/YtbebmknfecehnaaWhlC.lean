/- Package whole: difference, Mul. Condition: as each says. -/
import Derived.Test.YtbebmknfecehnaaWhlB
namespace Go.Proofs.Ytbebmknfecehnaa.whl
open Go.RowKit Go.Proofs.Ytbebmknfecehnaa.num Go.Proofs.Ytbebmknfecehnaa.mem Go.Proofs.Ytbebmknfecehnaa.nat Go.Proofs.Ytbebmknfecehnaa.txt Go.Proofs.Ytbebmknfecehnaa.str Go.Proofs.Ytbebmknfecehnaa.flow
set_option linter.unusedVariables false

theorem sg_mul (x y : Int) : sg (!(ngB x == ngB y)) (x.natAbs * y.natAbs) = x * y := by
  have e : ∀ z : Int, z = sg (ngB z) z.natAbs := fun z => (sg_self z).symm
  conv => rhs; rw [e x, e y]
  cases ngB x <;> cases ngB y <;> simp [sg, Int.neg_mul, Int.mul_neg]
/-- Variables of the call's own: two parameters, and the result. -/
theorem vars3 (w : World) (t1 t2 t3 : TypeId) (x y z : Array Value) : ∃ wx, ((w.alloc (.cells x t1)).alloc (.cells y t2)).alloc (.cells z t3) = wx ∧ Below w.heap.size w wx ∧ Blk wx w.heap.size t1 x ∧ Blk wx (w.heap.size + 1) t2 y ∧ Blk wx (w.heap.size + 1 + 1) t3 z ∧ w.heap.size + 1 + 1 < wx.heap.size := by
  refine ⟨_, rfl, ((below_alloc (Nat.le_refl _) _).alloc (by simp) _).alloc (by simp; omega) _, ((Blk.new w t1 x).alloc _).alloc _, ?_, ?_, by simp⟩
  · have := (Blk.new (w.alloc (.cells x t1)) t2 y).alloc (.cells z t3)
    simpa using this
  · have := Blk.new ((w.alloc (.cells x t1)).alloc (.cells y t2)) t3 z
    simpa using this
end Go.Proofs.Ytbebmknfecehnaa.whl
