/- digits.isBase, digits.stretch. Condition: as each says. -/
import Derived.Test.YtlepoheinemfcaaDoorStrD
namespace Go.Proofs.YtlepoheinemfcaaDoor.str
open Go.RowKit Go.Proofs.YtlepoheinemfcaaDoor.num Go.Proofs.YtlepoheinemfcaaDoor.mem Go.Proofs.YtlepoheinemfcaaDoor.txt
set_option linter.unusedVariables false

set_option maxHeartbeats 400000 in
theorem isBase_yes (b : Int) (w : World) (h2 : 2 ≤ b) (h36 : b ≤ 36) :
    Calls Tryd.prog 16 #[.int .i64 b] w fun e w' => e = .returned (.bool true) ∧ w = w' := by
  go_enter Tryd.func16, Tryd.ntmps16
  go_wp2
  go_ret
  exact ⟨rfl, rfl⟩
set_option maxHeartbeats 400000 in
theorem isBase_no (b : Int) (w : World) (h : b < 2 ∨ 36 < b) :
    Calls Tryd.prog 16 #[.int .i64 b] w fun e w' => e = .returned (.bool false) ∧ w = w' := by
  by_cases h2 : 2 ≤ b
  · have h36 : ¬ b ≤ 36 := by omega
    clear h
    go_enter Tryd.func16, Tryd.ntmps16
    go_wp2
    go_ret
    exact ⟨rfl, rfl⟩
  · clear h
    go_enter Tryd.func16, Tryd.ntmps16
    go_wp2
    go_ret
    exact ⟨rfl, rfl⟩
/-- How many digits are cut off at once, and the base to the power of so many. -/
def Strd (b k p : Nat) : Prop := 1 ≤ k ∧ k ≤ 32 ∧ p = b ^ k ∧ p < 4294967296
theorem Strd.next {b k p : Nat} (h : Strd b k p) (hb : 2 ≤ b) (hp : p * b < 4294967296) : Strd b (k + 1) (p * b) := by
  obtain ⟨h1, h2, rfl, h4⟩ := h
  refine ⟨by omega, ?_, by rw [Nat.pow_succ], hp⟩
  have h5 : 2 ^ (k + 1) ≤ b ^ (k + 1) := Nat.pow_le_pow_left hb _
  rw [Nat.pow_succ b] at h5
  have h6 : 2 ^ (k + 1) < 2 ^ 32 := Nat.lt_of_le_of_lt h5 hp
  have := (Nat.pow_lt_pow_iff_right (by omega : 1 < 2)).1 h6
  omega
def RetStrd (b : Nat) (w : World) (e : Ending) (w' : World) : Prop := ∃ k p : Nat, e = .returned (.tuple #[.int .i64 (k : Int), .int .u64 (p : Int)]) ∧ Strd b k p ∧ w = w'
set_option maxHeartbeats 800000 in
set_option maxRecDepth 100000 in
theorem stretch_any (bI : Int) (b : Nat) (w : World) (hbI : bI = (b : Int)) (h2 : 2 ≤ b) (h36 : b ≤ 36) :
    Calls Tryd.prog 17 #[.int .i64 bI] w (RetStrd b w) := by
  have hb0 : 2 ≤ bI := by omega
  have hb1 : bI ≤ 36 := by omega
  have HB := Lib.hid hbI
  have hs0 : Strd b 1 b := ⟨by omega, by omega, by rw [Nat.pow_one], by omega⟩
  clear hbI h36
  go_enter Tryd.func17, Tryd.ntmps17
  go_wp2
  go_loop [4, 5] (fun vk vp => ∃ (k p : Nat) (pI : Int), Strd b k p ∧ Hid (pI = (p : Int)) ∧ vk = .int .i64 (k : Int) ∧ vp = .int .u64 pI) (fun vk _ => (32 - intOf vk).toNat)
  case atStart => exact ⟨1, b, bI, hs0, HB, rfl, rfl⟩
  case round =>
    clear hs0
    obtain ⟨k, p, pI, hS, HP, rfl, rfl⟩ := hrel
    have h1 := hS.1
    have h32 := hS.2.1
    have hp := hS.2.2.2
    have q0 : 0 ≤ pI := by have := HP.out; omega
    have q1 : pI ≤ 4294967295 := by have := HP.out; omega
    have m0 : (0 : Int) ≤ pI * bI := Int.mul_nonneg (by omega) (by omega)
    have m1 : pI * bI ≤ 154618822620 := Int.le_trans (Int.mul_le_mul_of_nonneg_right q1 (by omega)) (by omega)
    have em : ((p * b : Nat) : Int) = pI * bI := by rw [HP.out, HB.out, Int.natCast_mul]
    have EM := Lib.hid em
    by_cases hlt : p * b < 4294967296
    · have hd : decide (pI * bI < 4294967296) = true := by rw [decide_eq_true_eq]; omega
      have hN := hS.next h2 hlt
      have hk2 := hN.2.1
      clear hlt hp em
      go_wp2
      go_round
      case rel => exact ⟨k + 1, p * b, _, hN, EM.out.symm, by go_num, rfl⟩
      case measure => simp [intOf]; omega
    · have hd : decide (pI * bI < 4294967296) = false := by rw [decide_eq_false_iff_not]; omega
      clear hlt hp em
      go_wp2
      go_ret2
      have ep := HP.out
      subst ep
      exact ⟨k, p, rfl, hS, rfl⟩
end Go.Proofs.YtlepoheinemfcaaDoor.str
