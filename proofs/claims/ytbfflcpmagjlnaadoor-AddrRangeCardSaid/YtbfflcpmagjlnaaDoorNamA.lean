/- Package name: which texts are words, letter by letter; name.Word, and the document's. Condition: the text is of at most 1000000 bytes. -/
import Derived.Test.YtbfflcpmagjlnaaDoorStrT
import Derived.Lib.OthersKept
namespace Go.Proofs.YtbfflcpmagjlnaaDoor.txt
open Go.Proofs.YtbfflcpmagjlnaaDoor.num
set_option linter.unusedVariables false
def letB (c : UInt8) : Bool := decide (97 ≤ c.toNat ∧ c.toNat ≤ 122)
def furB (c : UInt8) : Bool := decide (48 ≤ c.toNat ∧ c.toNat ≤ 57 ∨ c.toNat = 45 ∨ c.toNat = 95)
/-- What a word may have at this place. -/
def okAt (i : Nat) (c : UInt8) : Prop := letB c = true ∨ (i ≠ 0 ∧ furB c = true)
def wordS (l : List UInt8) : Prop := l ≠ [] ∧ ∀ i c, l[i]? = some c → okAt i c
/-- So far. -/
def wordTo (l : List UInt8) (k : Nat) : Prop := ∀ i c, i < k → l[i]? = some c → okAt i c
theorem wordTo_succ {l : List UInt8} {k : Nat} {c : UInt8} (h : wordTo l k) (hc : l[k]? = some c) (ok : okAt k c) : wordTo l (k + 1) := fun i d hi hd => by
  by_cases e : i = k
  · subst e
    rw [hc] at hd
    injection hd with hd
    subst hd; exact ok
  · exact h i d (by omega) hd
theorem wordTo_all {l : List UInt8} (h : wordTo l l.length) : ∀ i c, l[i]? = some c → okAt i c := fun i c hc => h i c (List.getElem?_eq_some_iff.1 hc).1 hc
theorem not_word {l : List UInt8} {k : Nat} {c : UInt8} (hc : l[k]? = some c) (h : ¬ okAt k c) : ¬ wordS l := fun hw => h (hw.2 k c hc)
end Go.Proofs.YtbfflcpmagjlnaaDoor.txt
namespace Go.Proofs.YtbfflcpmagjlnaaDoor.str
open Go.RowKit Go.Proofs.YtbfflcpmagjlnaaDoor.num Go.Proofs.YtbfflcpmagjlnaaDoor.mem Go.Proofs.YtbfflcpmagjlnaaDoor.txt
set_option linter.unusedVariables false
def RetSame (v : Value) (w : World) (e : Ending) (w' : World) : Prop := e = .returned v ∧ w' = w
theorem letB_int (c : UInt8) : letB c = true ↔ 97 ≤ ((c.toNat : Nat) : Int) ∧ ((c.toNat : Nat) : Int) ≤ 122 := by
  unfold letB
  rw [decide_eq_true_iff]
  omega
theorem furB_int (c : UInt8) : furB c = true ↔ (48 ≤ ((c.toNat : Nat) : Int) ∧ ((c.toNat : Nat) : Int) ≤ 57 ∨ ((c.toNat : Nat) : Int) = 45 ∨ ((c.toNat : Nat) : Int) = 95) := by
  unfold furB
  rw [decide_eq_true_iff]
  omega
theorem letB_high {c : UInt8} (h : ¬ c.toNat < 128) : letB c = false := by
  unfold letB
  rw [decide_eq_false_iff_not]
  omega
theorem furB_high {c : UInt8} (h : ¬ c.toNat < 128) : furB c = false := by
  unfold furB
  rw [decide_eq_false_iff_not]
  omega
theorem okAt_not {i : Nat} {c : UInt8} (h : letB c = false) (h2 : i = 0 ∨ furB c = false) : ¬ okAt i c := by
  rintro (k | ⟨k1, k2⟩)
  · rw [h] at k; exact Bool.noConfusion k
  · rcases h2 with h2 | h2
    · exact k1 h2
    · rw [h2] at k2; exact Bool.noConfusion k2
end Go.Proofs.YtbfflcpmagjlnaaDoor.str
