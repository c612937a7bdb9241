/- Contracts of limb.Bits, limb.Zeros, limb.Gcd and of the document's answers for them, and of the chapter's example. Condition: the numbers handed in are uint64. -/
import Derived.Test.YtcneilkokgmbnaaLimb
import Derived.WalkSmall
namespace Go.Proofs.Ytcneilkokgmbnaa.limb
open Go.RowKit
set_option linter.unusedVariables false

/-- n is how many bits A needs. -/
def BitsSpec (A : Int) (n : Nat) : Prop := A < 2 ^ n ∧ (n = 0 ∨ 2 ^ (n - 1) ≤ A)
/-- n is how many of the lowest bits of A are 0, 32 at most. -/
def ZerosSpec (A : Int) (n : Nat) : Prop := n ≤ 32 ∧ A % 2 ^ n = 0 ∧ (n = 32 ∨ A / 2 ^ n % 2 = 1)

theorem pow_pos2 (n : Nat) : (0 : Int) < 2 ^ n := Int.pow_pos (by omega)
theorem pow_le {m n : Nat} (h : m ≤ n) : (2 : Int) ^ m ≤ 2 ^ n := by
  have h1 : (2 : Nat) ^ m ≤ 2 ^ n := Nat.pow_le_pow_right (by omega) h
  have h2 := Int.ofNat_le.2 h1
  simpa using h2
theorem BitsSpec.one {A : Int} {n m : Nat} (h : BitsSpec A n) (g : BitsSpec A m) : m = n := by
  unfold BitsSpec at h g
  rcases Nat.lt_trichotomy m n with h1 | h1 | h1
  · have := pow_le (show m ≤ n - 1 by omega); omega
  · exact h1
  · have := pow_le (show n ≤ m - 1 by omega); omega
theorem dvd_down {A : Int} {m n : Nat} (h : m < n) (hn : A % 2 ^ n = 0) : A / 2 ^ m % 2 = 0 := by
  obtain ⟨j, rfl⟩ : ∃ j, n = m + 1 + j := ⟨n - m - 1, by omega⟩
  obtain ⟨q, hq⟩ := Int.dvd_of_emod_eq_zero hn
  have e : A = 2 ^ m * (2 * (2 ^ j * q)) := by rw [hq, Int.pow_add, Int.pow_succ]; simp only [Int.mul_assoc]
  rw [e, Int.mul_ediv_cancel_left _ (by have := pow_pos2 m; omega)]; omega
theorem ZerosSpec.one {A : Int} {n m : Nat} (h : ZerosSpec A n) (g : ZerosSpec A m) : m = n := by
  unfold ZerosSpec at h g
  rcases Nat.lt_trichotomy m n with h1 | h1 | h1
  · have := dvd_down h1 h.2.1; omega
  · exact h1
  · have := dvd_down h1 g.2.1; omega
theorem mod_up {A : Int} {k : Nat} (h : A % 2 ^ k = 0) (h2 : A / 2 ^ k % 2 = 0) : A % 2 ^ (k + 1) = 0 := by
  obtain ⟨q, rfl⟩ := Int.dvd_of_emod_eq_zero h
  rw [Int.mul_ediv_cancel_left _ (by have := pow_pos2 k; omega)] at h2
  obtain ⟨r, rfl⟩ : ∃ r, q = 2 * r := ⟨q / 2, by omega⟩
  apply Int.emod_eq_zero_of_dvd
  exact ⟨r, by rw [Int.pow_succ, Int.mul_assoc]⟩
/-- The lowest 32 bits are those that count. -/
theorem ZerosSpec.low {a : Int} {n : Nat} (h : ZerosSpec a n) : ZerosSpec (a % 4294967296) n := by
  unfold ZerosSpec at h ⊢
  obtain ⟨h0, h1, h2⟩ := h
  obtain ⟨j, hj⟩ : ∃ j, 32 = n + j := ⟨32 - n, by omega⟩
  have e : (4294967296 : Int) = 2 ^ n * 2 ^ j := by rw [← Int.pow_add, ← hj]; decide
  have e2 : a = a % 4294967296 + 2 ^ n * (2 ^ j * (a / 4294967296)) := by rw [← Int.mul_assoc, ← e]; omega
  refine ⟨h0, ?_, ?_⟩
  · rw [e2, Int.add_mul_emod_self_left] at h1; exact h1
  · rcases h2 with h2 | h2
    · exact Or.inl h2
    · by_cases hn : n = 32
      · exact Or.inl hn
      · right
        obtain ⟨i, rfl⟩ : ∃ i, j = i + 1 := ⟨j - 1, by omega⟩
        rw [e2, Int.add_mul_ediv_left _ _ (by have := pow_pos2 n; omega), Int.pow_succ, Int.mul_comm (2 ^ i) 2, Int.mul_assoc] at h2
        omega

theorem bits_any (a : Int) (a0 : 0 ≤ a) (a1 : a ≤ 18446744073709551615) (w : World) :
    Calls Try.prog 17 #[.int .u64 a] w fun e w' => ∃ n : Nat, e = .returned (.int .i64 n) ∧ n ≤ 32 ∧ BitsSpec (a % 4294967296) n ∧ w = w' := by
  go_enter Try.func17, Try.ntmps17
  go_wp2_with (first | (go_at_call 24; refine (low_any _ (by omega) (by omega) _).mono ?_; rintro e w' ⟨rfl, rfl⟩))
  go_loop [6] (fun vk => ∃ k : Nat, k ≤ 32 ∧ (k = 0 ∨ 2 ^ (k - 1) ≤ a % 4294967296) ∧ vk = .int .i64 (k : Int)) (fun vk => 32 - (intOf vk).toNat)
  case atStart => exact ⟨0, by omega, by omega, rfl⟩
  case round =>
    obtain ⟨k, hk, hb, rfl⟩ := hrel
    have HB := Lib.hid hb
    clear hb
    by_cases hlt : k < 32
    · by_cases hz : (a % 4294967296 / 2 ^ k == 0) = true
      · go_wp2
        go_ret
        exact ⟨k, rfl, hk, ⟨by have := Int.lt_mul_ediv_self_add (x := a % 4294967296) (pow_pos2 k); rw [beq_iff_eq] at hz; rw [hz] at this; omega, HB.out⟩, rfl⟩
      · have hz' : (a % 4294967296 / 2 ^ k == 0) = false := by simpa using hz
        clear hz
        go_wp2
        go_round
        case rel =>
          refine ⟨k + 1, by omega, Or.inr ?_, by go_num⟩
          have h1 : ¬ a % 4294967296 / 2 ^ k = 0 := by simpa using hz'
          have h2 : 0 ≤ a % 4294967296 / 2 ^ k := Int.ediv_nonneg (by omega) (by have := pow_pos2 k; omega)
          have h3 : 1 ≤ a % 4294967296 / 2 ^ k := by omega
          have h4 := (Int.le_ediv_iff_mul_le (pow_pos2 k)).1 h3
          simpa using h4
        case measure => simp [intOf]; omega
    · go_wp2
      go_ret
      obtain rfl : k = 32 := by omega
      exact ⟨32, rfl, by omega, ⟨by have e : (2 : Int) ^ 32 = 4294967296 := by decide
                                    rw [e]; omega, HB.out⟩, rfl⟩

theorem refBits_any (a : Int) (a0 : 0 ≤ a) (a1 : a ≤ 18446744073709551615) (w : World) :
    Calls Try.prog 18 #[.int .u64 a] w fun e w' => ∃ n : Nat, e = .returned (.int .i64 n) ∧ n ≤ 32 ∧ BitsSpec (a % 4294967296) n ∧ w = w' := by
  go_enter Try.func18, Try.ntmps18
  go_wp2
  go_loop [0, 3] (fun va vk => ∃ (k : Nat) (x : Int), k ≤ 32 ∧ 0 ≤ x ∧ x ≤ 4294967295 ∧ (x = a % 4294967296 / 2 ^ k ∧ (k = 0 ∨ 2 ^ (k - 1) ≤ a % 4294967296)) ∧ va = .int .u64 x ∧ vk = .int .i64 (k : Int)) (fun va _ => (intOf va).toNat)
  case atStart => exact ⟨0, _, by omega, by omega, by omega, ⟨by rw [Int.pow_zero, Int.ediv_one], by omega⟩, rfl, rfl⟩
  case round =>
    obtain ⟨k, x, hk, x0, x1, hb, rfl, rfl⟩ := hrel
    have HB := Lib.hid hb
    clear hb
    by_cases hx : 0 < x
    · have hlt : k < 32 := by
        obtain ⟨h1, h2⟩ := HB.out
        by_cases h : k = 32
        · subst h
          have e : (2 : Int) ^ 32 = 4294967296 := by decide
          rw [e] at h1; omega
        · omega
      go_wp2
      go_round
      case rel =>
        refine ⟨k + 1, _, by omega, by omega, by omega, ⟨?_, Or.inr ?_⟩, rfl, by go_num⟩
        · rw [HB.out.1, Int.ediv_ediv_of_nonneg (by have := pow_pos2 k; omega), ← Int.pow_succ]
        · have h3 : 1 ≤ a % 4294967296 / 2 ^ k := by have := HB.out.1; omega
          have h4 := (Int.le_ediv_iff_mul_le (pow_pos2 k)).1 h3
          simpa using h4
      case measure => simp [intOf]; omega
    · go_wp2
      go_ret
      refine ⟨k, rfl, hk, ⟨?_, HB.out.2⟩, rfl⟩
      have hz : a % 4294967296 / 2 ^ k = 0 := by have := HB.out.1; omega
      have := Int.lt_mul_ediv_self_add (x := a % 4294967296) (pow_pos2 k); rw [hz] at this; omega

theorem zeros_any (a : Int) (a0 : 0 ≤ a) (a1 : a ≤ 18446744073709551615) (w : World) :
    Calls Try.prog 19 #[.int .u64 a] w fun e w' => ∃ n : Nat, e = .returned (.int .i64 n) ∧ n ≤ 32 ∧ ZerosSpec (a % 4294967296) n ∧ w = w' := by
  go_enter Try.func19, Try.ntmps19
  go_wp2_with (first | (go_at_call 24; refine (low_any _ (by omega) (by omega) _).mono ?_; rintro e w' ⟨rfl, rfl⟩))
  go_loop [6] (fun vk => ∃ k : Nat, k ≤ 32 ∧ (a % 4294967296 % 2 ^ k = 0) ∧ vk = .int .i64 (k : Int)) (fun vk => 32 - (intOf vk).toNat)
  case atStart => exact ⟨0, by omega, by omega, rfl⟩
  case round =>
    obtain ⟨k, hk, hb, rfl⟩ := hrel
    have HB := Lib.hid hb
    clear hb
    by_cases hlt : k < 32
    · have hand : bits BinOp.and IntKind.u64 (a % 4294967296 / 2 ^ k) 1 = a % 4294967296 / 2 ^ k % 2 := by
        have h0 : 0 ≤ a % 4294967296 / 2 ^ k := Int.ediv_nonneg (by omega) (by have := pow_pos2 k; omega)
        have h1 : a % 4294967296 / 2 ^ k ≤ a % 4294967296 := Int.ediv_le_self _ (by omega)
        exact and_one_u64 _ (by omega) (by omega)
      by_cases hz : a % 4294967296 / 2 ^ k % 2 = 1
      · have hz' : (bits BinOp.and IntKind.u64 (a % 4294967296 / 2 ^ k) 1 == 1) = true := by rw [hand, hz]; rfl
        have HZ := Lib.hid hz
        clear hz hand
        go_wp2
        go_ret
        exact ⟨k, rfl, hk, ⟨hk, HB.out, Or.inr HZ.out⟩, rfl⟩
      · have hz' : (bits BinOp.and IntKind.u64 (a % 4294967296 / 2 ^ k) 1 == 1) = false := by rw [hand]; simpa using hz
        have HZ := Lib.hid hz
        clear hz hand
        go_wp2
        go_round
        case rel => exact ⟨k + 1, by omega, mod_up HB.out (by have := HZ.out; omega), by go_num⟩
        case measure => simp [intOf]; omega
    · go_wp2
      go_ret
      obtain rfl : k = 32 := by omega
      exact ⟨32, rfl, by omega, ⟨by omega, HB.out, Or.inl rfl⟩, rfl⟩

theorem refZeros_any (a : Int) (a0 : 0 ≤ a) (a1 : a ≤ 18446744073709551615) (w : World) :
    Calls Try.prog 20 #[.int .u64 a] w fun e w' => ∃ n : Nat, e = .returned (.int .i64 n) ∧ n ≤ 32 ∧ ZerosSpec (a % 4294967296) n ∧ w = w' := by
  go_enter Try.func20, Try.ntmps20
  go_wp2
  go_loop [0, 3] (fun va vk => ∃ (k : Nat) (x : Int), k ≤ 32 ∧ 0 ≤ x ∧ x ≤ 18446744073709551615 ∧ (x = a / 2 ^ k ∧ a % 2 ^ k = 0) ∧ va = .int .u64 x ∧ vk = .int .i64 (k : Int)) (fun _ vk => 32 - (intOf vk).toNat)
  case atStart => exact ⟨0, _, by omega, by omega, by omega, ⟨by rw [Int.pow_zero, Int.ediv_one], by omega⟩, rfl, rfl⟩
  case round =>
    obtain ⟨k, x, hk, x0, x1, hb, rfl, rfl⟩ := hrel
    have HB := Lib.hid hb
    clear hb
    by_cases hlt : k < 32
    · by_cases hx : x % 2 = 0
      · go_wp2
        go_round
        case rel =>
          refine ⟨k + 1, _, by omega, by omega, by omega, ⟨?_, ?_⟩, rfl, by go_num⟩
          · rw [HB.out.1, Int.ediv_ediv_of_nonneg (by have := pow_pos2 k; omega), ← Int.pow_succ]
          · exact mod_up HB.out.2 (by have := HB.out.1; omega)
        case measure => simp [intOf]; omega
      · go_wp2
        go_ret
        refine ⟨k, rfl, hk, ZerosSpec.low ⟨hk, HB.out.2, Or.inr ?_⟩, rfl⟩
        have := HB.out.1; omega
    · go_wp2
      go_ret
      exact ⟨k, rfl, hk, ZerosSpec.low ⟨hk, HB.out.2, Or.inl (by omega)⟩, rfl⟩

/-- The greatest common divisor of the numbers' lowest 32 bits. -/
def gcdOf (a b : Int) : Nat := Nat.gcd (a % 4294967296).toNat (b % 4294967296).toNat

theorem gcd_any (a b : Int) (a0 : 0 ≤ a) (a1 : a ≤ 18446744073709551615) (b0 : 0 ≤ b) (b1 : b ≤ 18446744073709551615) (w : World) :
    Calls Try.prog 21 #[.int .u64 a, .int .u64 b] w fun e w' => e = .returned (.int .u64 (gcdOf a b)) ∧ ∃ n, w' = w.drewN n := by
  go_enter Try.func21, Try.ntmps21
  go_wp2_with (first | (go_at_call 24; refine (low_any _ (by omega) (by omega) _).mono ?_; rintro e w' ⟨rfl, rfl⟩))
  go_loopw [0, 1] (fun va vb wr => ∃ x y : Nat, Nat.gcd x y = gcdOf a b ∧ x ≤ 4294967295 ∧ y ≤ 4294967295 ∧ va = .int .u64 (x : Int) ∧ vb = .int .u64 (y : Int) ∧ ∃ n, wr = w.drewN n) (fun _ vb _ => (intOf vb).toNat)
  case atStart => exact ⟨_, _, rfl, by omega, by omega, by congr 1; omega, by congr 1; omega, 0, rfl⟩
  case round =>
    obtain ⟨x, y, hg, x1, y1, rfl, rfl, n, rfl⟩ := hrel
    have HG := Lib.hid hg
    clear hg
    by_cases hy : 0 < y
    · go_wp2
      go_quiet (fail)
      go_wp2
      go_roundw
      case rel =>
        refine ⟨y, x % y, ?_, by omega, by have := Nat.mod_lt x hy; omega, rfl, by congr 1, ?_⟩
        · rw [← HG.out, Nat.gcd_comm x y, Nat.gcd_rec y x, Nat.gcd_comm]
        · first | exact ⟨_, rfl⟩ | exact ⟨_, World.drewN_drewN ..⟩
      case measure =>
        have := Nat.mod_lt x hy
        simp [intOf]; omega
    · go_wp2
      go_ret
      obtain rfl : y = 0 := by omega
      refine ⟨?_, n, rfl⟩
      rw [← HG.out, Nat.gcd_zero_right]; rfl

theorem refGcd_any (a b : Int) (a0 : 0 ≤ a) (a1 : a ≤ 18446744073709551615) (b0 : 0 ≤ b) (b1 : b ≤ 18446744073709551615) (w : World) :
    Calls Try.prog 22 #[.int .u64 a, .int .u64 b] w fun e w' => e = .returned (.int .u64 (gcdOf a b)) ∧ ∃ n, w' = w.drewN n := by
  go_enter Try.func22, Try.ntmps22
  go_wp2
  go_loopw [0, 1] (fun va vb wr => ∃ x y : Nat, Nat.gcd x y = gcdOf a b ∧ x ≤ 4294967295 ∧ y ≤ 4294967295 ∧ va = .int .u64 (x : Int) ∧ vb = .int .u64 (y : Int) ∧ ∃ n, wr = w.drewN n) (fun _ vb _ => (intOf vb).toNat)
  case atStart => exact ⟨_, _, rfl, by omega, by omega, by congr 1; omega, by congr 1; omega, 0, rfl⟩
  case round =>
    obtain ⟨x, y, hg, x1, y1, rfl, rfl, n, rfl⟩ := hrel
    have HG := Lib.hid hg
    clear hg
    by_cases hy : 0 < y
    · go_wp2
      go_quiet (fail)
      go_wp2
      go_roundw
      case rel =>
        refine ⟨y, x % y, ?_, by omega, by have := Nat.mod_lt x hy; omega, rfl, by congr 1, ?_⟩
        · rw [← HG.out, Nat.gcd_comm x y, Nat.gcd_rec y x, Nat.gcd_comm]
        · first | exact ⟨_, rfl⟩ | exact ⟨_, World.drewN_drewN ..⟩
      case measure =>
        have := Nat.mod_lt x hy
        simp [intOf]; omega
    · go_wp2
      go_ret
      obtain rfl : y = 0 := by omega
      refine ⟨?_, n, rfl⟩
      rw [← HG.out, Nat.gcd_zero_right]; rfl

/-! ### The chapter's example -/
theorem works_any (w : World) :
    Calls Try.prog 12 #[] w fun e w' => e = .returned (.bool true) ∧ ∃ n, w' = w.drewN n := by
  go_enter Try.func12, Try.ntmps12
  go_wp2_with fail
  refine (mul_any _ _ _ _ (by omega) (by omega) (by omega) (by omega) (by omega) (by omega) (by omega) (by omega) _).mono ?_; rintro e w' ⟨s, o, rfl, H, rfl⟩
  obtain ⟨rfl, rfl⟩ : s = 1 ∧ o = 4294967294 := by unfold MulSpec at H; omega
  clear H
  go_wp2_with fail
  refine (div_any _ _ _ (by omega) (by omega) (by omega) (by omega) (by omega) (by omega) _).mono ?_; rintro e w' ⟨q, r, x, rfl, H, n, rfl⟩
  obtain ⟨rfl, rfl, rfl⟩ : q = 1431655765 ∧ r = 1 ∧ x = 0 := by unfold DivSpec at H; omega
  clear H
  go_wp2
  go_ret
  exact ⟨rfl, n, rfl⟩

end Go.Proofs.Ytcneilkokgmbnaa.limb
