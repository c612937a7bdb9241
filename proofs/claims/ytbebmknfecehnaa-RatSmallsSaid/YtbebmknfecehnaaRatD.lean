/- The document's own Clean of fractions. Condition: as it says. -/
import Derived.Test.YtbebmknfecehnaaRatC
namespace Go.Proofs.Ytbebmknfecehnaa.rat
open Go.RowKit Go.Proofs.Ytbebmknfecehnaa.num Go.Proofs.Ytbebmknfecehnaa.mem Go.Proofs.Ytbebmknfecehnaa.nat Go.Proofs.Ytbebmknfecehnaa.txt Go.Proofs.Ytbebmknfecehnaa.str Go.Proofs.Ytbebmknfecehnaa.flow Go.Proofs.Ytbebmknfecehnaa.whl
set_option linter.unusedVariables false
/-- The fraction that Clean makes of any. -/
def lowD (d : Nat) : Nat := if d = 0 then 1 else d
theorem lowD_pos (d : Nat) : lowD d ≠ 0 := by unfold lowD; split <;> omega
theorem lowD_len {d m : Nat} (h : (digs 4294967296 d).length ≤ m) (hm : 1 ≤ m) : (digs 4294967296 (lowD d)).length ≤ m := by
  unfold lowD
  split
  · exact Nat.le_trans (digs_len_le (k := 1) (by omega) (by omega)) hm
  · exact h
def cleanQ (b : Bool) (l m : List Nat) (most : Nat) : Rat := mkRat (cleanZ b l most) (lowD (cleaned m most))
theorem cleanQ_len (b : Bool) (l m : List Nat) {most : Nat} (hm : 1 ≤ most) : lenQ (cleanQ b l m most) most := lenQ_mk (lowD_pos _) (cleanZ_len _ _ _) (lowD_len (cleaned_len _ _) hm)

theorem qsame_eq (a0 a1 : Value) (x y : Rat) (w : World) (h0 : IsQ w a0 x) (h1 : IsQ w a1 y) (e : x = y) : Calls Try.prog 12 #[a0, a1] w (RetV (.bool true) w) := by subst e; exact qsame_one a0 a1 x w h0 h1
end Go.Proofs.Ytbebmknfecehnaa.rat
