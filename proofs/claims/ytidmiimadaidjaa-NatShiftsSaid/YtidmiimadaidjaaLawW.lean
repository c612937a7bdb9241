/- What the laws' walks offer at their calls: the document's Same on two numbers. Condition: slices read as limbs. -/
import Derived.Test.YtidmiimadaidjaaLawK
namespace Go.Proofs.Ytidmiimadaidjaa.nat
open Go.RowKit Go.Proofs.Ytidmiimadaidjaa.num Go.Proofs.Ytidmiimadaidjaa.mem Go.Proofs.Ytidmiimadaidjaa.limb
set_option linter.unusedVariables false
theorem digs_inj {x y : Nat} : digs 4294967296 x = digs 4294967296 y ↔ x = y := by
  constructor
  · intro h
    have e := congrArg (val 4294967296) h
    rwa [val_digs (by omega), val_digs (by omega)] at e
  · rintro rfl; rfl
theorem sameB_digs (x y : Nat) : sameB (digs 4294967296 x) (digs 4294967296 y) = decide (x = y) := by
  unfold sameB
  by_cases h : x = y
  · subst h; simp
  · rw [decide_eq_false h, decide_eq_false (fun e => h (digs_inj.1 e))]
theorem bits_ge_tz (x : Nat) : tz x ≤ nbits x := by
  induction x using Nat.strongRecOn with
  | ind x ih =>
    by_cases h0 : x = 0
    · rw [h0, tz_zero]; omega
    · by_cases h1 : x % 2 = 1
      · rw [tz_odd h1]; omega
      · rw [tz_even h0 (by omega), nbits_half (by omega)]
        have := ih (x / 2) (by omega)
        omega
theorem same_num (v u : Value) (x y : Nat) (b : Bool) (w : World) (h : IsS w .u64 v (digs 4294967296 x)) (h' : IsS w .u64 u (digs 4294967296 y)) (hb : b = decide (x = y)) :
    Calls Try.prog 15 #[v, u] w (RetV (.bool b) w) := by
  rw [hb, ← sameB_digs]
  exact refSame_any v u _ _ w h h' (digs_lt_u x) (digs_lt_u y)
theorem same_one (v u : Value) (x : Nat) (w : World) (h : IsS w .u64 v (digs 4294967296 x)) (h' : IsS w .u64 u (digs 4294967296 x)) :
    Calls Try.prog 15 #[v, u] w (RetV (.bool true) w) := same_num v u x x true w h h' (by simp)
end Go.Proofs.Ytidmiimadaidjaa.nat
