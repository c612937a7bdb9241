/- Contracts of limb's low, split, Add, Sub, Mul, Bits, Zeros, as layer 2 calls them. Condition: the numbers handed in are uint64 (0 to 2^64 - 1). -/
import Derived.Test.YtcgmbmiingppgaaRows
import Derived.WalkKit
import Derived.ProofKit
import Derived.Lib.Hide
import Derived.Deep.QuietTactic
import Derived.BigQuiet
import Derived.Outline
import Derived.WalkSmall
namespace Go.Proofs.Ytcgmbmiingppgaa.limb
open Go.RowKit
set_option linter.unusedVariables false

def AddSpec (a b c s o : Int) : Prop := 0 ≤ s ∧ s < 4294967296 ∧ 0 ≤ o ∧ o ≤ 2 ∧ s + 4294967296 * o = a % 4294967296 + b % 4294967296 + c % 4294967296

def SubSpec (a b c s o : Int) : Prop := 0 ≤ s ∧ s < 4294967296 ∧ 0 ≤ o ∧ o ≤ 2 ∧ s - 4294967296 * o = a % 4294967296 - b % 4294967296 - c % 4294967296

def MulSpec (a b c d s o : Int) : Prop := 0 ≤ s ∧ s < 4294967296 ∧ 0 ≤ o ∧ o < 4294967296 ∧ s + 4294967296 * o = (a % 4294967296) * (b % 4294967296) + c % 4294967296 + d % 4294967296

theorem AddSpec.one {a b c s o s' o' : Int} (h : AddSpec a b c s o) (h' : AddSpec a b c s' o') : s' = s ∧ o' = o := by
  unfold AddSpec at h h'; omega

theorem SubSpec.one {a b c s o s' o' : Int} (h : SubSpec a b c s o) (h' : SubSpec a b c s' o') : s' = s ∧ o' = o := by
  unfold SubSpec at h h'; omega

theorem MulSpec.one {a b c d s o s' o' : Int} (h : MulSpec a b c d s o) (h' : MulSpec a b c d s' o') : s' = s ∧ o' = o := by
  unfold MulSpec at h h'; omega

theorem mul_bd (x y : Int) (hx : 0 ≤ x) (hx' : x ≤ 4294967295) (hy : 0 ≤ y) (hy' : y ≤ 4294967295) : 0 ≤ x * y ∧ x * y ≤ 18446744065119617025 := by
  refine ⟨Int.mul_nonneg hx hy, ?_⟩
  have := Int.mul_le_mul hx' hy' hy (by omega)
  omega

theorem low_any (a : Int) (h0 : 0 ≤ a) (h1 : a ≤ 18446744073709551615) (w : World) :
    Calls Try.prog 45 #[.int .u64 a] w fun e w' => e = .returned (.int .u64 (a % 4294967296)) ∧ w = w' := by
  go_enter Try.func45, Try.ntmps45
  go_wp2
  go_ret
  exact ⟨rfl, rfl⟩

theorem split_any (a : Int) (h0 : 0 ≤ a) (h1 : a ≤ 18446744073709551615) (w : World) :
    Calls Try.prog 59 #[.int .u64 a] w fun e w' => e = .returned (.tuple #[.int .u64 (a % 4294967296), .int .u64 (a / 4294967296)]) ∧ w = w' := by
  go_enter Try.func59, Try.ntmps59
  go_wp2
  go_ret2
  exact ⟨rfl, rfl⟩

theorem add_any (a b c : Int) (a0 : 0 ≤ a) (a1 : a ≤ 18446744073709551615) (b0 : 0 ≤ b) (b1 : b ≤ 18446744073709551615) (c0 : 0 ≤ c) (c1 : c ≤ 18446744073709551615) (w : World) :
    Calls Try.prog 41 #[.int .u64 a, .int .u64 b, .int .u64 c] w fun e w' =>
      ∃ s o, e = .returned (.tuple #[.int .u64 s, .int .u64 o]) ∧ AddSpec a b c s o ∧ w = w' := by
  go_enter Try.func41, Try.ntmps41
  go_wp2_with (first | (go_at_call 45; refine (low_any _ (by omega) (by omega) _).mono ?_; rintro e w' ⟨rfl, rfl⟩) | (go_at_call 59; refine (split_any _ (by omega) (by omega) _).mono ?_; rintro e w' ⟨rfl, rfl⟩))
  go_ret2
  exact ⟨_, _, rfl, by unfold AddSpec; omega, rfl⟩

theorem sub_any (a b c : Int) (a0 : 0 ≤ a) (a1 : a ≤ 18446744073709551615) (b0 : 0 ≤ b) (b1 : b ≤ 18446744073709551615) (c0 : 0 ≤ c) (c1 : c ≤ 18446744073709551615) (w : World) :
    Calls Try.prog 52 #[.int .u64 a, .int .u64 b, .int .u64 c] w fun e w' =>
      ∃ s o, e = .returned (.tuple #[.int .u64 s, .int .u64 o]) ∧ SubSpec a b c s o ∧ w = w' := by
  go_enter Try.func52, Try.ntmps52
  go_wp2_with (first | (go_at_call 45; refine (low_any _ (by omega) (by omega) _).mono ?_; rintro e w' ⟨rfl, rfl⟩))
  go_loop [8, 10] (fun x y => ∃ o : Int, 0 ≤ o ∧ o ≤ 2 ∧ a % 4294967296 + 4294967296 * o < b % 4294967296 + c % 4294967296 + 4294967296 ∧ x = .int .u64 (a % 4294967296 + 4294967296 * o) ∧ y = .int .u64 o) (fun x _ => (b % 4294967296 + c % 4294967296 - intOf x).toNat)
  case atStart => exact ⟨0, by omega, by omega, by omega, by simp, rfl⟩
  case round =>
    obtain ⟨o, o0, o1, ho, rfl, rfl⟩ := hrel
    by_cases hlt : a % 4294967296 + 4294967296 * o < b % 4294967296 + c % 4294967296
    · go_wp2
      go_round
      case rel => exact ⟨o + 1, by omega, by omega, by omega, by congr 1; omega, rfl⟩
      case measure => simp [intOf]; omega
    · go_wp2
      go_ret2
      exact ⟨_, _, rfl, by unfold SubSpec; omega, rfl⟩

theorem mul_any (a b c d : Int) (a0 : 0 ≤ a) (a1 : a ≤ 18446744073709551615) (b0 : 0 ≤ b) (b1 : b ≤ 18446744073709551615) (c0 : 0 ≤ c) (c1 : c ≤ 18446744073709551615) (d0 : 0 ≤ d) (d1 : d ≤ 18446744073709551615) (w : World) :
    Calls Try.prog 42 #[.int .u64 a, .int .u64 b, .int .u64 c, .int .u64 d] w fun e w' =>
      ∃ s o, e = .returned (.tuple #[.int .u64 s, .int .u64 o]) ∧ MulSpec a b c d s o ∧ w = w' := by
  have hm := mul_bd (a % 4294967296) (b % 4294967296) (by omega) (by omega) (by omega) (by omega)
  go_enter Try.func42, Try.ntmps42
  go_wp2_with (first | (go_at_call 45; refine (low_any _ (by omega) (by omega) _).mono ?_; rintro e w' ⟨rfl, rfl⟩) | (go_at_call 59; refine (split_any _ (by omega) (by omega) _).mono ?_; rintro e w' ⟨rfl, rfl⟩))
  go_ret2
  exact ⟨_, _, rfl, by unfold MulSpec; omega, rfl⟩

def BitsSpec (A : Int) (n : Nat) : Prop := A < 2 ^ n ∧ (n = 0 ∨ 2 ^ (n - 1) ≤ A)

def ZerosSpec (A : Int) (n : Nat) : Prop := n ≤ 32 ∧ A % 2 ^ n = 0 ∧ (n = 32 ∨ A / 2 ^ n % 2 = 1)

theorem pow_pos2 (n : Nat) : (0 : Int) < 2 ^ n := Int.pow_pos (by omega)

theorem pow_le {m n : Nat} (h : m ≤ n) : (2 : Int) ^ m ≤ 2 ^ n := by
  have h1 : (2 : Nat) ^ m ≤ 2 ^ n := Nat.pow_le_pow_right (by omega) h
  have h2 := Int.ofNat_le.2 h1
  simpa using h2

theorem BitsSpec.one {A : Int} {n m : Nat} (h : BitsSpec A n) (g : BitsSpec A m) : m = n := by
  unfold BitsSpec at h g
  rcases Nat.lt_trichotomy m n with h1 | h1 | h1
  · have := pow_le (show m ≤ n - 1 by omega); omega
  · exact h1
  · have := pow_le (show n ≤ m - 1 by omega); omega

theorem dvd_down {A : Int} {m n : Nat} (h : m < n) (hn : A % 2 ^ n = 0) : A / 2 ^ m % 2 = 0 := by
  obtain ⟨j, rfl⟩ : ∃ j, n = m + 1 + j := ⟨n - m - 1, by omega⟩
  obtain ⟨q, hq⟩ := Int.dvd_of_emod_eq_zero hn
  have e : A = 2 ^ m * (2 * (2 ^ j * q)) := by rw [hq, Int.pow_add, Int.pow_succ]; simp only [Int.mul_assoc]
  rw [e, Int.mul_ediv_cancel_left _ (by have := pow_pos2 m; omega)]; omega

theorem ZerosSpec.one {A : Int} {n m : Nat} (h : ZerosSpec A n) (g : ZerosSpec A m) : m = n := by
  unfold ZerosSpec at h g
  rcases Nat.lt_trichotomy m n with h1 | h1 | h1
  · have := dvd_down h1 h.2.1; omega
  · exact h1
  · have := dvd_down h1 g.2.1; omega

theorem mod_up {A : Int} {k : Nat} (h : A % 2 ^ k = 0) (h2 : A / 2 ^ k % 2 = 0) : A % 2 ^ (k + 1) = 0 := by
  obtain ⟨q, rfl⟩ := Int.dvd_of_emod_eq_zero h
  rw [Int.mul_ediv_cancel_left _ (by have := pow_pos2 k; omega)] at h2
  obtain ⟨r, rfl⟩ : ∃ r, q = 2 * r := ⟨q / 2, by omega⟩
  apply Int.emod_eq_zero_of_dvd
  exact ⟨r, by rw [Int.pow_succ, Int.mul_assoc]⟩

theorem ZerosSpec.low {a : Int} {n : Nat} (h : ZerosSpec a n) : ZerosSpec (a % 4294967296) n := by
  unfold ZerosSpec at h ⊢
  obtain ⟨h0, h1, h2⟩ := h
  obtain ⟨j, hj⟩ : ∃ j, 32 = n + j := ⟨32 - n, by omega⟩
  have e : (4294967296 : Int) = 2 ^ n * 2 ^ j := by rw [← Int.pow_add, ← hj]; decide
  have e2 : a = a % 4294967296 + 2 ^ n * (2 ^ j * (a / 4294967296)) := by rw [← Int.mul_assoc, ← e]; omega
  refine ⟨h0, ?_, ?_⟩
  · rw [e2, Int.add_mul_emod_self_left] at h1; exact h1
  · rcases h2 with h2 | h2
    · exact Or.inl h2
    · by_cases hn : n = 32
      · exact Or.inl hn
      · right
        obtain ⟨i, rfl⟩ : ∃ i, j = i + 1 := ⟨j - 1, by omega⟩
        rw [e2, Int.add_mul_ediv_left _ _ (by have := pow_pos2 n; omega), Int.pow_succ, Int.mul_comm (2 ^ i) 2, Int.mul_assoc] at h2
        omega

theorem bits_any (a : Int) (a0 : 0 ≤ a) (a1 : a ≤ 18446744073709551615) (w : World) :
    Calls Try.prog 26 #[.int .u64 a] w fun e w' => ∃ n : Nat, e = .returned (.int .i64 n) ∧ n ≤ 32 ∧ BitsSpec (a % 4294967296) n ∧ w = w' := by
  go_enter Try.func26, Try.ntmps26
  go_wp2_with (first | (go_at_call 45; refine (low_any _ (by omega) (by omega) _).mono ?_; rintro e w' ⟨rfl, rfl⟩))
  go_loop [6] (fun vk => ∃ k : Nat, k ≤ 32 ∧ (k = 0 ∨ 2 ^ (k - 1) ≤ a % 4294967296) ∧ vk = .int .i64 (k : Int)) (fun vk => 32 - (intOf vk).toNat)
  case atStart => exact ⟨0, by omega, by omega, rfl⟩
  case round =>
    obtain ⟨k, hk, hb, rfl⟩ := hrel
    have HB := Lib.hid hb
    clear hb
    by_cases hlt : k < 32
    · by_cases hz : (a % 4294967296 / 2 ^ k == 0) = true
      · go_wp2
        go_ret
        exact ⟨k, rfl, hk, ⟨by have := Int.lt_mul_ediv_self_add (x := a % 4294967296) (pow_pos2 k); rw [beq_iff_eq] at hz; rw [hz] at this; omega, HB.out⟩, rfl⟩
      · have hz' : (a % 4294967296 / 2 ^ k == 0) = false := by simpa using hz
        clear hz
        go_wp2
        go_round
        case rel =>
          refine ⟨k + 1, by omega, Or.inr ?_, by go_num⟩
          have h1 : ¬ a % 4294967296 / 2 ^ k = 0 := by simpa using hz'
          have h2 : 0 ≤ a % 4294967296 / 2 ^ k := Int.ediv_nonneg (by omega) (by have := pow_pos2 k; omega)
          have h3 : 1 ≤ a % 4294967296 / 2 ^ k := by omega
          have h4 := (Int.le_ediv_iff_mul_le (pow_pos2 k)).1 h3
          simpa using h4
        case measure => simp [intOf]; omega
    · go_wp2
      go_ret
      obtain rfl : k = 32 := by omega
      exact ⟨32, rfl, by omega, ⟨by have e : (2 : Int) ^ 32 = 4294967296 := by decide
                                    rw [e]; omega, HB.out⟩, rfl⟩

end Go.Proofs.Ytcgmbmiingppgaa.limb
