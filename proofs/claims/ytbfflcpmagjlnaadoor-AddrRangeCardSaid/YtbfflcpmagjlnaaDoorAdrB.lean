/- Layer 18, mathematics: the bits of numbers of 32 bits, and what prefixes have. Condition: as each says. -/
import Derived.Test.YtbfflcpmagjlnaaDoorAdrA
import Derived.Laws.BitsLemmas
namespace Go.Proofs.YtbfflcpmagjlnaaDoor.adr
open Go.Proofs.YtbfflcpmagjlnaaDoor.num Go.Proofs.YtbfflcpmagjlnaaDoor.txt
set_option linter.unusedVariables false
theorem wraps_u32 (n : Int) (h0 : 0 ≤ n) (h1 : n < 2 ^ 32) : IntKind.u32.wrap n = n := by rw [IntKind.wrap_u32]; omega
/-- k bits 0, behind as many 1 as there are places. -/
def maskN (k : Nat) : Nat := 2 ^ 32 - 2 ^ k
theorem two_pow_le {k : Nat} (hk : k ≤ 32) : 2 ^ k ≤ 2 ^ 32 := Nat.pow_le_pow_right (by omega) hk
theorem maskN_lt (k : Nat) : maskN k < 4294967296 := by
  have := Nat.two_pow_pos k
  unfold maskN
  omega
theorem maskN_add {k : Nat} (hk : k ≤ 32) : maskN k + 2 ^ k = 4294967296 := by
  have := two_pow_le hk
  unfold maskN
  omega
theorem maskN_mul {k : Nat} (hk : k ≤ 32) : maskN k = (2 ^ (32 - k) - 1) * 2 ^ k := by
  unfold maskN
  rw [Nat.sub_mul, ← Nat.pow_add, show 32 - k + k = 32 by omega, Nat.one_mul]
theorem and_mask {a k : Nat} (ha : a < 2 ^ 32) (hk : k ≤ 32) : a &&& maskN k = a / 2 ^ k * 2 ^ k := by
  rw [maskN_mul hk]
  apply Nat.eq_of_testBit_eq
  intro i
  rw [Nat.testBit_and, Nat.testBit_mul_two_pow, Nat.testBit_mul_two_pow, Nat.testBit_two_pow_sub_one, Nat.testBit_div_two_pow]
  by_cases h : k ≤ i
  · simp only [h, decide_true, Bool.true_and]
    rw [show i - k + k = i by omega]
    by_cases h2 : i - k < 32 - k
    · simp [h2]
    · have : a.testBit i = false := Nat.testBit_lt_two_pow (Nat.lt_of_lt_of_le ha (Nat.pow_le_pow_right (by omega) (by omega)))
      simp [h2, this]
  · simp [h]
theorem and_low (a k : Nat) : a &&& (2 ^ k - 1) = a % 2 ^ k := Nat.and_two_pow_sub_one_eq_mod a k
theorem bits_and_mask {a k : Nat} (ha : a < 4294967296) (hk : k ≤ 32) : bits .and .u32 (a : Int) (maskN k : Nat) = ((a / 2 ^ k * 2 ^ k : Nat) : Int) := by
  rw [(bits_nat .u32 32 (by decide) wraps_u32 a (maskN k) ha (maskN_lt k)).1, and_mask ha hk]
theorem bits_not_mask {a k : Nat} (ha : a < 4294967296) (hk : k ≤ 32) : bits .andNot .u32 (a : Int) (maskN k : Nat) = ((a % 2 ^ k : Nat) : Int) := by
  have h1 := maskN_lt k
  have h2 := maskN_add hk
  have h3 := Nat.two_pow_pos k
  have e1 : a % 2 ^ 32 = a := Nat.mod_eq_of_lt ha
  have e2 : maskN k % 2 ^ 32 = maskN k := Nat.mod_eq_of_lt h1
  show IntKind.u32.wrap ((BitVec.ofInt 32 (a : Int) &&& ~~~ BitVec.ofInt 32 ((maskN k : Nat) : Int)).toNat : Int) = _
  rw [BitVec.toNat_and, BitVec.toNat_not, BitVec.ofInt_natCast, BitVec.ofInt_natCast, BitVec.toNat_ofNat, BitVec.toNat_ofNat, e1, e2, show 2 ^ 32 - 1 - maskN k = 2 ^ k - 1 by omega, and_low]
  have : a % 2 ^ k ≤ a := Nat.mod_le _ _
  exact wraps_u32 _ (by omega) (by omega)
theorem bits_flip {a : Nat} (ha : a < 4294967296) : bits .xor .u32 4294967295 (a : Int) = ((4294967295 - a : Nat) : Int) := by
  have e1 : a % 2 ^ 32 = a := Nat.mod_eq_of_lt ha
  show IntKind.u32.wrap ((BitVec.ofInt 32 (4294967295 : Int) ^^^ BitVec.ofInt 32 (a : Int)).toNat : Int) = _
  have e : (BitVec.ofInt 32 (4294967295 : Int)) = BitVec.allOnes 32 := by decide
  rw [e, BitVec.allOnes_xor, BitVec.toNat_not, BitVec.ofInt_natCast, BitVec.toNat_ofNat, e1]
  rw [wraps_u32 _ (by omega) (by omega)]
theorem bits_or_low {a k : Nat} (ha : a < 4294967296) (hk : k ≤ 32) (hm : a % 2 ^ k = 0) : bits .or .u32 (a : Int) ((2 ^ k - 1 : Nat) : Int) = ((a + (2 ^ k - 1) : Nat) : Int) := by
  have h3 := Nat.two_pow_pos k
  have h4 := two_pow_le hk
  rw [bits_join .u32 32 (by decide) wraps_u32 k (a : Int) ((2 ^ k - 1 : Nat) : Int) (by omega) (by exact_mod_cast hm) (by omega) (by omega) (by have : ((2 ^ k - 1 : Nat) : Int) < ((2 ^ k : Nat) : Int) := by omega
                                                                                                                                                exact_mod_cast this) (by omega)]
  omega
theorem bits_or_8 {a n : Nat} (ha : a < 16777216) (hn : n ≤ 255) : bits .or .u32 ((256 * a : Nat) : Int) (n : Int) = ((256 * a + n : Nat) : Int) := by
  rw [bits_join .u32 32 (by decide) wraps_u32 8 ((256 * a : Nat) : Int) (n : Int) (by omega) (by omega) (by omega) (by omega) (by omega) (by omega)]
  omega
theorem bits_byte {a : Nat} (ha : a < 4294967296) : bits .and .u32 (a : Int) 255 = ((a % 256 : Nat) : Int) := by
  have := bits_mask .u32 32 (by decide) wraps_u32 8 (by decide) (a : Int) (by omega) (by omega)
  rw [show ((2 : Int) ^ 8 - 1) = 255 by decide] at this
  rw [this]
  omega
/-- The mask's shift. -/
theorem shift_mask {k : Nat} (hk : k ≤ 32) : IntKind.u32.wrap (4294967295 * 2 ^ k) = ((maskN k : Nat) : Int) := by
  have h2 := maskN_add hk
  have h3 := Nat.two_pow_pos k
  obtain ⟨x, hx⟩ : ∃ x, x = 2 ^ k := ⟨_, rfl⟩
  have e : (2 : Int) ^ k = (x : Int) := by rw [hx]; simp
  rw [IntKind.wrap_u32, e]
  rw [← hx] at h2 h3
  omega
/-- May a prefix be? -/
def mayP (A : Nat) (L : Int) : Prop := 0 ≤ L ∧ L ≤ 32 ∧ A % 2 ^ (32 - L.toNat) = 0
instance (A : Nat) (L : Int) : Decidable (mayP A L) := inferInstanceAs (Decidable (_ ∧ _))
/-- Which addresses a prefix has. -/
def hasP (A : Nat) (L : Int) (a : Nat) : Prop := mayP A L ∧ A ≤ a ∧ a < A + 2 ^ (32 - L.toNat)
instance (A : Nat) (L : Int) (a : Nat) : Decidable (hasP A L a) := inferInstanceAs (Decidable (_ ∧ _))
/-- Begins as it: what has the same higher bits. -/
theorem begins {A a k : Nat} (h : A % 2 ^ k = 0) : a / 2 ^ k * 2 ^ k = A ↔ A ≤ a ∧ a < A + 2 ^ k := by
  have hp := Nat.two_pow_pos k
  have e := Nat.div_add_mod a (2 ^ k)
  have hl := Nat.mod_lt a hp
  rw [Nat.mul_comm] at e
  constructor
  · intro h1
    omega
  · rintro ⟨h1, h2⟩
    obtain ⟨q, hq⟩ : ∃ q, A = q * 2 ^ k := ⟨A / 2 ^ k, by have := Nat.div_add_mod A (2 ^ k); rw [Nat.mul_comm] at this; omega⟩
    have e1 : a / 2 ^ k = q := by
      rw [Nat.div_eq_iff hp]
      rw [hq] at h1 h2
      constructor
      · omega
      · rw [← Nat.succ_mul]at *
        omega
    rw [e1, hq]
theorem may_le {A : Nat} {k : Nat} (h : A % 2 ^ k = 0) (hA : A < 2 ^ 32) (hk : k ≤ 32) : A + 2 ^ k ≤ 2 ^ 32 := by
  have hp := Nat.two_pow_pos k
  obtain ⟨q, hq⟩ : ∃ q, A = q * 2 ^ k := ⟨A / 2 ^ k, by have := Nat.div_add_mod A (2 ^ k); rw [Nat.mul_comm] at this; omega⟩
  have e : 2 ^ 32 = 2 ^ (32 - k) * 2 ^ k := by rw [← Nat.pow_add, show 32 - k + k = 32 by omega]
  rw [hq, e] at hA
  rw [hq, e]
  have hlt : q < 2 ^ (32 - k) := Nat.lt_of_mul_lt_mul_right hA
  have := Nat.mul_le_mul_right (2 ^ k) (show q + 1 ≤ 2 ^ (32 - k) by omega)
  rw [Nat.succ_mul] at this
  exact this
end Go.Proofs.YtbfflcpmagjlnaaDoor.adr
