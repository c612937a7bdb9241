/- Package nat: Bits, Zeros, Small, Make. Condition: slices read as limbs. -/
import Derived.Test.YtcgmbmiingppgaaNatB
namespace Go.Proofs.Ytcgmbmiingppgaa.nat
open Go.RowKit Go.Proofs.Ytcgmbmiingppgaa.num Go.Proofs.Ytcgmbmiingppgaa.mem Go.Proofs.Ytcgmbmiingppgaa.limb
set_option linter.unusedVariables false

theorem two_cast (n : Nat) : ((2 ^ n : Nat) : Int) = (2 : Int) ^ n := by simp
theorem pow32 (n : Nat) : (4294967296 : Nat) ^ n = 2 ^ (32 * n) := by rw [Nat.pow_mul]
theorem BitsSpec.nat {d n : Nat} (hd : d < 4294967296) (h : BitsSpec ((d : Int) % 4294967296) n) : d < 2 ^ n ∧ (n = 0 ∨ 2 ^ (n - 1) ≤ d) := by
  unfold BitsSpec at h
  rw [show (d : Int) % 4294967296 = (d : Int) from by omega, ← two_cast, ← two_cast] at h
  omega
/-- The bits of a number: those of its last limb, and 32 for each one ahead of it. -/
theorem nbits_top {x n d b : Nat} (hn : (digs 4294967296 x).length = n + 1) (hd : (digs 4294967296 x)[n]? = some d) (h : BitsSpec ((d : Int) % 4294967296) b) : nbits x = n * 32 + b := by
  have hd0 := digs_last (by omega) x hn hd
  have hd1 := (digs_lt (by omega) x).at hd
  obtain ⟨h1, h2⟩ := BitsSpec.nat hd1 h
  have hb : b ≠ 0 := by rintro rfl; simp at h1; omega
  obtain ⟨c, rfl⟩ : ∃ c, b = c + 1 := ⟨b - 1, by omega⟩
  have h3 : 2 ^ c ≤ d := by simpa using h2
  have e := val_take_step (B := 4294967296) hd
  have hlow := val_lt ((digs_lt (B := 4294967296) (by omega) x).take n)
  rw [show ((digs 4294967296 x).take n).length = n from by simp; omega] at hlow
  rw [← hn, List.take_length, val_digs (by omega)] at e
  rw [pow32] at e hlow
  have e1 := Nat.mul_le_mul_left (2 ^ (32 * n)) h3
  have e2 := Nat.mul_le_mul_left (2 ^ (32 * n)) h1
  rw [← Nat.pow_add] at e1 e2
  rw [Nat.mul_succ] at e2
  rw [show n * 32 + (c + 1) = (32 * n + c) + 1 from by omega]
  refine nbits_of ?_ ?_
  · rw [show 32 * n + c + 1 = 32 * n + (c + 1) from by omega]; omega
  · omega

set_option maxHeartbeats 400000 in
theorem bits_any (v : Value) (x b : Nat) (w : World) (h : IsS w .u64 v (digs 4294967296 x)) (hl : (digs 4294967296 x).length ≤ 1000000) (hb : b = nbits x) :
    Calls Try.prog 32 #[v] w fun e w' => e = .returned (.int .i64 (b : Int)) ∧ w = w' := by
  have hlt := digs_lt (B := 4294967296) (by omega) x
  have HB := Lib.hid hb
  clear hb
  obtain ⟨A, c, rfl, hc, hm, hr⟩ := h
  by_cases hl0 : 0 < (digs 4294967296 x).length
  · have hne : ¬ digs 4294967296 x = [] := by intro e; rw [e] at hl0; simp at hl0
    have hlb : (((digs 4294967296 x).length : Int) == 0) = false := by rw [beq_eq_false_iff_ne]; omega
    obtain ⟨ad, d, rfl, hd, hcell⟩ := hr.at_ (i := (digs 4294967296 x).length - 1) (by omega)
    have hd1 := hlt.at hd
    have HT : Hid (∀ k, BitsSpec ((d : Int) % 4294967296) k → nbits x = ((digs 4294967296 x).length - 1) * 32 + k) := fun k hk => nbits_top (by omega) hd hk
    clear hd
    go_enter Try.func32, Try.ntmps32
    go_wp2_with fail
    refine (limb.bits_any _ (by omega) (by omega) _).mono ?_
    rintro e w' ⟨n, rfl, hn, hs, rfl⟩
    have HS := Lib.hid hs
    clear hs
    go_wp2
    go_ret
    refine ⟨?_, rfl⟩
    have e1 := HT.out n HS.out
    have e2 := HB.out
    show Ending.returned (.int .i64 _) = .returned (.int .i64 _)
    rw [show (((digs 4294967296 x).length : Int) - 1) * 32 + (n : Int) = (b : Int) from by omega]
  · have hz : (digs 4294967296 x).length = 0 := by omega
    have hx : x = 0 := (digs_len0 (by omega)).1 hz
    have HZ : Hid (b = 0) := by have := HB.out; rw [hx, nbits_zero] at this; exact this
    rw [hx, digs_zero] at hr ⊢
    clear hl0 hz hx hl hlt hc
    go_enter Try.func32, Try.ntmps32
    go_wp2
    go_ret
    exact ⟨by rw [HZ.out]; rfl, rfl⟩

theorem tz_shift (k : Nat) {y : Nat} (hy : 0 < y) : tz (2 ^ k * y) = k + tz y := by
  induction k with
  | zero => simp
  | succ k ih =>
    have e : 2 ^ (k + 1) * y = 2 * (2 ^ k * y) := by rw [Nat.pow_succ, Nat.mul_comm (2 ^ k) 2, Nat.mul_assoc]
    have hp : 0 < 2 ^ k * y := Nat.mul_pos (Nat.pow_pos (by omega)) hy
    rw [e, tz_even (by omega) (by omega), Nat.mul_div_cancel_left _ (by omega), ih]; omega
theorem ZerosSpec.nat {d z : Nat} (hd : d < 4294967296) (hd0 : d ≠ 0) (h : ZerosSpec ((d : Int) % 4294967296) z) : z < 32 ∧ d % 2 ^ z = 0 ∧ d / 2 ^ z % 2 = 1 := by
  unfold ZerosSpec at h
  rw [show (d : Int) % 4294967296 = (d : Int) from by omega, ← two_cast] at h
  obtain ⟨h1, h2, h3⟩ := h
  have h2' : d % 2 ^ z = 0 := by exact_mod_cast h2
  have hz : z ≠ 32 := by
    rintro rfl
    rw [show (2 : Nat) ^ 32 = 4294967296 from by decide] at h2'
    omega
  refine ⟨by omega, h2', ?_⟩
  rcases h3 with h3 | h3
  · exact absurd h3 hz
  · have h4 : ((d / 2 ^ z % 2 : Nat) : Int) = 1 := by rw [Int.natCast_emod, Int.natCast_ediv]; exact h3
    omega
/-- The lowest bits of a number: those of its first limb that is not 0, and 32 for each one ahead of it. -/
theorem tz_first {x k d z : Nat} (h0 : val 4294967296 ((digs 4294967296 x).take k) = 0) (hd : (digs 4294967296 x)[k]? = some d) (hd0 : d ≠ 0) (h : ZerosSpec ((d : Int) % 4294967296) z) : tz x = k * 32 + z := by
  have hd1 := (digs_lt (by omega) x).at hd
  obtain ⟨h1, h2, h3⟩ := ZerosSpec.nat hd1 hd0 h
  have hk : k < (digs 4294967296 x).length := (List.getElem?_eq_some_iff.1 hd).1
  obtain ⟨r, hr⟩ : ∃ r, r = val 4294967296 ((digs 4294967296 x).drop (k + 1)) := ⟨_, rfl⟩
  have e : x = 2 ^ (32 * k) * (d + 4294967296 * r) := by
    have e1 := val_digs (B := 4294967296) (by omega) x
    rw [← List.take_append_drop k (digs 4294967296 x), val_append, h0, val_drop_step hd, ← hr, show ((digs 4294967296 x).take k).length = k from by simp; omega, pow32] at e1
    omega
  obtain ⟨j, hj⟩ : ∃ j, 32 = z + (j + 1) := ⟨31 - z, by omega⟩
  have e32 : (4294967296 : Nat) = 2 ^ z * 2 ^ (j + 1) := by rw [← Nat.pow_add, ← hj]
  have et : tz (d + 4294967296 * r) = z := by
    rw [e32, Nat.mul_assoc]
    refine tz_of ?_ ?_
    · rw [Nat.add_mul_mod_self_left]; exact h2
    · rw [Nat.add_mul_div_left _ _ (Nat.pow_pos (by omega)), Nat.pow_succ, Nat.mul_comm (2 ^ j) 2, Nat.mul_assoc]; omega
  rw [e, tz_shift _ (by omega), et]; omega

theorem nbits_big {x : Nat} : 63 < nbits x ↔ 9223372036854775808 ≤ x := by
  constructor
  · intro h
    have h1 := nbits_le (x := x) (by
      rcases Nat.eq_zero_or_pos x with h0 | h0
      · rw [h0, nbits_zero] at h; omega
      · exact h0)
    have h2 : (2 : Nat) ^ 63 ≤ 2 ^ (nbits x - 1) := Nat.pow_le_pow_right (by omega) (by omega)
    have h3 : (2 : Nat) ^ 63 = 9223372036854775808 := by decide
    omega
  · intro h
    rcases Nat.lt_or_ge 63 (nbits x) with h1 | h1
    · exact h1
    · have h2 := nbits_lt (x := x)
      have h3 : (2 : Nat) ^ nbits x ≤ 2 ^ 63 := Nat.pow_le_pow_right (by omega) h1
      have h4 : (2 : Nat) ^ 63 = 9223372036854775808 := by decide
      omega
theorem at_digs0 (x : Nat) : AtD (digs 4294967296 x) 0 (x % 4294967296) := by
  rcases Nat.eq_zero_or_pos x with h | h
  · subst h; exact .inr ⟨by rw [digs_zero]; simp, rfl⟩
  · left; rw [digs_pos (by omega) h]; rfl
theorem at_digs1 (x : Nat) : AtD (digs 4294967296 x) 1 (x / 4294967296 % 4294967296) := by
  rcases Nat.eq_zero_or_pos x with h | h
  · subst h; exact .inr ⟨by rw [digs_zero]; simp, rfl⟩
  · rcases at_digs0 (x / 4294967296) with h1 | ⟨h1, h2⟩
    · left; rw [digs_pos (by omega) h]; exact h1
    · right; exact ⟨by rw [digs_pos (by omega) h]; simpa using h1, h2⟩

end Go.Proofs.Ytcgmbmiingppgaa.nat
