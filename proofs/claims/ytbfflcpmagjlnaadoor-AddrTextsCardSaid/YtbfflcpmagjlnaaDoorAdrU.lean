/- Layer 18, mathematics: two prefixes and an address; a range's ends; a mask bit by bit. Condition: as each says. -/
import Derived.Test.YtbfflcpmagjlnaaDoorAdrT
namespace Go.Proofs.YtbfflcpmagjlnaaDoor.adr
open Go.RowKit Go.Proofs.YtbfflcpmagjlnaaDoor.num Go.Proofs.YtbfflcpmagjlnaaDoor.txt
set_option linter.unusedVariables false
theorem within_has {A B a : Nat} {L M : Int} (h : withinP A L B M) (ha : hasP A L a) : hasP B M a := by
  have h1 := within_gap h
  have h2 := h.2.2.2.1
  exact ⟨h.2.2.1, by have := ha.2.1; omega, by have := ha.2.2; omega⟩
theorem has_le {A B a : Nat} {L M : Int} (hA : hasP A L a) (hB : hasP B M a) (hl : M ≤ L) : withinP A L B M := by
  obtain ⟨⟨a0, a1, a2⟩, h1, h2⟩ := hA
  obtain ⟨⟨b0, b1, b2⟩, h3, h4⟩ := hB
  have hk : 32 - L.toNat ≤ 32 - M.toNat := by omega
  have hBA : B ≤ A := by
    rcases Nat.lt_or_ge A B with h | h
    · have := mul_gap a2 (mod_of_mod b2 hk) h
      omega
    · exact h
  exact ⟨⟨a0, a1, a2⟩, hl, ⟨b0, b1, b2⟩, hBA, by omega⟩
theorem has_both {A B a : Nat} {L M : Int} (hA : hasP A L a) (hB : hasP B M a) : withinP A L B M ∨ withinP B M A L := by
  rcases Int.le_total M L with h | h
  · exact .inl (has_le hA hB h)
  · exact .inr (has_le hB hA h)
theorem has_range {A a g : Nat} {L : Int} (hm : mayP A L) (hg : g = A + (2 ^ (32 - L.toNat) - 1)) : hasP A L a ↔ A ≤ a ∧ a ≤ g := by
  have hp := Nat.two_pow_pos (32 - L.toNat)
  unfold hasP
  constructor
  · rintro ⟨_, h1, h2⟩
    exact ⟨h1, by omega⟩
  · rintro ⟨h1, h2⟩
    exact ⟨hm, h1, by omega⟩
/-- A mask, bit by bit. -/
def BitsTo (n : Int) (i M : Nat) : Prop := M + 2 ^ (i - min i n.toNat) = 2 ^ i
theorem bits_start (n : Int) : BitsTo n 0 0 := by simp [BitsTo]
theorem bits_more {n : Int} {i M : Nat} (h : BitsTo n i M) (hi : (i : Int) < n) : BitsTo n (i + 1) (2 * M + 1) := by
  unfold BitsTo at h ⊢
  have e1 : min i n.toNat = i := by omega
  have e2 : min (i + 1) n.toNat = i + 1 := by omega
  rw [e1, Nat.sub_self, Nat.pow_zero] at h
  rw [e2, Nat.sub_self, Nat.pow_zero, Nat.pow_succ, ← h]
  omega
theorem bits_same {n : Int} {i M : Nat} (h : BitsTo n i M) (hi : ¬ (i : Int) < n) : BitsTo n (i + 1) (2 * M) := by
  unfold BitsTo at h ⊢
  have e1 : min i n.toNat = n.toNat := by omega
  have e2 : min (i + 1) n.toNat = n.toNat := by omega
  rw [e1] at h
  rw [e2, Nat.pow_succ, show i + 1 - n.toNat = (i - n.toNat) + 1 by omega, Nat.pow_succ, ← h]
  omega
theorem bits_lt {n : Int} {i M : Nat} (h : BitsTo n i M) (hi : i ≤ 31) : M < 2147483648 := by
  unfold BitsTo at h
  have h1 := Nat.two_pow_pos (i - min i n.toNat)
  have h2 : 2 ^ i ≤ 2 ^ 31 := Nat.pow_le_pow_right (by omega) hi
  have h3 : (2 : Nat) ^ 31 = 2147483648 := rfl
  omega
theorem bits_done {n : Int} {M : Nat} (h : BitsTo n 32 M) : M = maskN (restN n) := by
  unfold BitsTo at h
  unfold maskN restN
  rw [show min n.toNat 32 = min 32 n.toNat by omega]
  omega
end Go.Proofs.YtbfflcpmagjlnaaDoor.adr
