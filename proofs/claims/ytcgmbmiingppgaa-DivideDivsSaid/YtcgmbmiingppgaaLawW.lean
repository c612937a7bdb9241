/- What the laws' walks offer at their calls: the document's Same on two numbers. Condition: slices read as limbs. -/
import Derived.Test.YtcgmbmiingppgaaLawK
namespace Go.Proofs.Ytcgmbmiingppgaa.nat
open Go.RowKit Go.Proofs.Ytcgmbmiingppgaa.num Go.Proofs.Ytcgmbmiingppgaa.mem Go.Proofs.Ytcgmbmiingppgaa.limb
set_option linter.unusedVariables false
theorem digs_inj {x y : Nat} : digs 4294967296 x = digs 4294967296 y ↔ x = y := by
  constructor
  · intro h
    have e := congrArg (val 4294967296) h
    rwa [val_digs (by omega), val_digs (by omega)] at e
  · rintro rfl; rfl
theorem sameB_digs (x y : Nat) : sameB (digs 4294967296 x) (digs 4294967296 y) = decide (x = y) := by
  unfold sameB
  by_cases h : x = y
  · subst h; simp
  · rw [decide_eq_false h, decide_eq_false (fun e => h (digs_inj.1 e))]
theorem bits_ge_tz (x : Nat) : tz x ≤ nbits x := by
  induction x using Nat.strongRecOn with
  | ind x ih =>
    by_cases h0 : x = 0
    · rw [h0, tz_zero]; omega
    · by_cases h1 : x % 2 = 1
      · rw [tz_odd h1]; omega
      · rw [tz_even h0 (by omega), nbits_half (by omega)]
        have := ih (x / 2) (by omega)
        omega
theorem same_num (v u : Value) (x y : Nat) (b : Bool) (w : World) (h : IsS w .u64 v (digs 4294967296 x)) (h' : IsS w .u64 u (digs 4294967296 y)) (hb : b = decide (x = y)) :
    Calls Try.prog 11 #[v, u] w (RetV (.bool b) w) := by
  rw [hb, ← sameB_digs]
  exact refSame_any v u _ _ w h h' (digs_lt_u x) (digs_lt_u y)
theorem same_one (v u : Value) (x : Nat) (w : World) (h : IsS w .u64 v (digs 4294967296 x)) (h' : IsS w .u64 u (digs 4294967296 x)) :
    Calls Try.prog 11 #[v, u] w (RetV (.bool true) w) := same_num v u x x true w h h' (by simp)

/-- Is one of them no limb? -/
def badB (l : List Nat) : Bool := l.any fun d => decide (4294967296 ≤ d)
theorem badB_step {l : List Nat} {k d : Nat} (h : l[k]? = some d) : badB (l.take (k + 1)) = (badB (l.take k) || decide (4294967296 ≤ d)) := by
  unfold badB
  rw [take_step h, List.any_append]; simp
theorem badB_false {l : List Nat} (h : Lt 4294967296 l) : badB l = false := by
  unfold badB
  rw [List.any_eq_false]
  intro d hd
  have := h d hd
  simp; omega
theorem badB_true {l : List Nat} (h : ¬ Lt 4294967296 l) : badB l = true := by
  rcases hb : badB l with _ | _
  · exfalso
    refine h fun d hd => ?_
    unfold badB at hb
    rw [List.any_eq_false] at hb
    have := hb d hd
    simp at this; omega
  · rfl
theorem val_drop_le {B : Nat} (hB : 1 ≤ B) (l : List Nat) (n : Nat) : val B (l.drop n) ≤ val B l := by
  have h1 := val_append B (l.take n) (l.drop n)
  rw [List.take_append_drop] at h1
  have h2 := Nat.mul_le_mul_right (val B (l.drop n)) (Nat.pow_pos (n := (l.take n).length) (show 0 < B from hB))
  omega
theorem cleaned_val {l : List Nat} (h : Lt 4294967296 l) (hl : l.length ≤ 24) : cleaned l 24 = val 4294967296 l := by unfold cleaned; rw [clipped_same h hl]
theorem cleaned_two (n : Nat) (h : n < 18446744073709551616) : cleaned [n, n / 4294967296] 2 = n := by
  simp [cleaned, clipped, val]; omega
theorem ord_small {x : Nat} (h : nbits x ≤ 63) : ord x (2 ^ 63) < 0 := by
  rw [ord_lt0]
  exact Nat.lt_of_lt_of_le nbits_lt (Nat.pow_le_pow_right (by omega) h)
theorem ord_big {x : Nat} (h : 63 < nbits x) : ¬ ord x (2 ^ 63) < 0 := by
  rw [ord_lt0]
  have h1 := nbits_big.1 h
  have h2 : (2 : Nat) ^ 63 = 9223372036854775808 := by decide
  omega
end Go.Proofs.Ytcgmbmiingppgaa.nat
