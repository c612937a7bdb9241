/- Layer 18, mathematics: texts cut at a sign, numbers of one to three digits, addresses as numbers. Condition: as each says. -/
import Derived.Test.YtbfflcpmagjlnaaDoorStrT
import Derived.Lib.ItoaNum
namespace Go.Proofs.YtbfflcpmagjlnaaDoor.adr
open Go.Proofs.YtbfflcpmagjlnaaDoor.num Go.Proofs.YtbfflcpmagjlnaaDoor.txt
set_option linter.unusedVariables false
def pushC (b : UInt8) : List (List UInt8) → List (List UInt8)
  | [] => [[b]]
  | p :: r => (b :: p) :: r
/-- A text's parts between a sign. -/
def splitC (c : UInt8) : List UInt8 → List (List UInt8)
  | [] => [[]]
  | b :: l => if b = c then [] :: splitC c l else pushC b (splitC c l)
theorem splitC_ne (c : UInt8) (l : List UInt8) : splitC c l ≠ [] := by
  cases l with
  | nil => simp [splitC]
  | cons b l =>
    unfold splitC
    split
    · simp
    · cases splitC c l <;> simp [pushC]
theorem splitC_no {c : UInt8} {p : List UInt8} (h : c ∉ p) : splitC c p = [p] := by
  induction p with
  | nil => rfl
  | cons b p ih =>
    have h1 : ¬ b = c := fun e => h (by simp [e])
    rw [splitC, if_neg h1, ih fun x => h (by simp [x])]; rfl
theorem splitC_cut {c : UInt8} {p l : List UInt8} (h : c ∉ p) : splitC c (p ++ c :: l) = p :: splitC c l := by
  induction p with
  | nil => rw [List.nil_append, splitC, if_pos rfl]
  | cons b p ih =>
    have h1 : ¬ b = c := fun e => h (by simp [e])
    rw [List.cons_append, splitC, if_neg h1, ih fun x => h (by simp [x])]; rfl
/-- A text either has no such sign, or a first one. -/
theorem cut_ex (c : UInt8) (l : List UInt8) : c ∉ l ∨ ∃ p m, l = p ++ c :: m ∧ c ∉ p := by
  induction l with
  | nil => exact .inl (by simp)
  | cons b l ih =>
    by_cases hb : b = c
    · exact .inr ⟨[], l, by simp [hb], by simp⟩
    · rcases ih with h | ⟨p, m, rfl, h⟩
      · exact .inl (by simp [h]; exact fun e => hb e.symm)
      · exact .inr ⟨b :: p, m, by simp, by simp [h]; exact fun e => hb e.symm⟩
theorem splitC_one {c : UInt8} {l p : List UInt8} (h : splitC c l = [p]) : l = p ∧ c ∉ l := by
  rcases cut_ex c l with h1 | ⟨q, m, rfl, h1⟩
  · rw [splitC_no h1] at h
    injection h with h
    exact ⟨h, h1⟩
  · rw [splitC_cut h1] at h
    injection h with _ h
    exact absurd h (splitC_ne c m)
theorem splitC_more {c : UInt8} {l p q : List UInt8} {r : List (List UInt8)} (h : splitC c l = p :: q :: r) : ∃ m, l = p ++ c :: m ∧ c ∉ p ∧ splitC c m = q :: r := by
  rcases cut_ex c l with h1 | ⟨u, m, rfl, h1⟩
  · rw [splitC_no h1] at h
    injection h with _ h
    cases h
  · rw [splitC_cut h1] at h
    injection h with h2 h3
    subst h2
    exact ⟨m, rfl, h1, h3⟩
theorem splitC_drop {c : UInt8} {l m : List UInt8} {k : Nat} {p q : List UInt8} {r : List (List UInt8)} (h : splitC c m = (splitC c l).drop k) (hp : splitC c m = p :: q :: r) : ∃ n, m = p ++ c :: n ∧ c ∉ p ∧ splitC c n = (splitC c l).drop (k + 1) := by
  obtain ⟨n, h1, h2, h3⟩ := splitC_more hp
  refine ⟨n, h1, h2, ?_⟩
  rw [h3, ← List.drop_drop, ← h, hp]; rfl
/-- What is left to be cut, and how far. -/
def ToCut (c : UInt8) (l : List UInt8) (f i k : Nat) : Prop := f ≤ i ∧ i ≤ l.length ∧ k < (splitC c l).length ∧ splitC c (l.drop f) = (splitC c l).drop k ∧ c ∉ (l.drop f).take (i - f)
theorem ToCut.start (c : UInt8) (l : List UInt8) : ToCut c l 0 0 0 := ⟨Nat.le_refl _, by omega, List.length_pos_iff.2 (splitC_ne c l), by simp, by simp⟩
theorem drop_at {l : List UInt8} {f i : Nat} {b : UInt8} (hf : f ≤ i) (hb : l[i]? = some b) : l.drop f = (l.drop f).take (i - f) ++ b :: l.drop (i + 1) := by
  have hi := (List.getElem?_eq_some_iff.1 hb).1
  have e := (List.take_append_drop (i - f) (l.drop f)).symm
  rw [List.drop_drop, show f + (i - f) = i by omega, List.drop_eq_getElem_cons hi] at e
  have hb2 : l[i] = b := (List.getElem?_eq_some_iff.1 hb).2
  rw [hb2] at e
  exact e
theorem ToCut.pass {c b : UInt8} {l : List UInt8} {f i k : Nat} (h : ToCut c l f i k) (hb : l[i]? = some b) (hne : b ≠ c) : ToCut c l f (i + 1) k := by
  obtain ⟨h1, h2, h3, h4, h5⟩ := h
  have hi := (List.getElem?_eq_some_iff.1 hb).1
  refine ⟨by omega, by omega, h3, h4, ?_⟩
  rw [show i + 1 - f = (i - f) + 1 by omega, List.take_add_one]
  have e : (l.drop f)[i - f]? = some b := by rw [List.getElem?_drop, show f + (i - f) = i by omega]; exact hb
  rw [e]
  simp [h5]
  exact fun e => hne e.symm
theorem ToCut.hit {c : UInt8} {l : List UInt8} {f i k : Nat} (h : ToCut c l f i k) (hb : l[i]? = some c) : ToCut c l (i + 1) (i + 1) (k + 1) ∧ (splitC c l)[k]? = some ((l.drop f).take (i - f)) := by
  obtain ⟨h1, h2, h3, h4, h5⟩ := h
  have hi := (List.getElem?_eq_some_iff.1 hb).1
  have e := drop_at h1 hb
  have e2 := splitC_cut (l := l.drop (i + 1)) h5
  rw [← e, h4] at e2
  have e3 : (splitC c l)[k]? = some ((l.drop f).take (i - f)) := by
    have := congrArg (fun x => x[0]?) e2
    simpa using this
  have e4 : splitC c (l.drop (i + 1)) = (splitC c l).drop (k + 1) := by
    have := congrArg List.tail e2
    simpa [List.tail_drop] using this.symm
  have e5 : k + 1 < (splitC c l).length := by
    have hne := splitC_ne c (l.drop (i + 1))
    rw [e4] at hne
    rcases Nat.lt_or_ge (k + 1) (splitC c l).length with x | x
    · exact x
    · exact absurd (List.drop_of_length_le x) hne
  exact ⟨⟨Nat.le_refl _, by omega, e5, e4, by simp⟩, e3⟩
theorem ToCut.done {c : UInt8} {l : List UInt8} {f k : Nat} (h : ToCut c l f l.length k) : k + 1 = (splitC c l).length ∧ (splitC c l)[k]? = some (l.drop f) := by
  obtain ⟨h1, h2, h3, h4, h5⟩ := h
  rw [List.take_of_length_le (by simp)] at h5
  rw [splitC_no h5] at h4
  have e := congrArg List.length h4
  simp at e
  refine ⟨by omega, ?_⟩
  have := congrArg (fun x => x[0]?) h4
  simpa using this.symm
/-- One to three digits, the first of which is 0 only if it is the only one. -/
def digB (c : UInt8) : Bool := decide (48 ≤ c.toNat ∧ c.toNat ≤ 57)
def formOk (l : List UInt8) : Prop := 1 ≤ l.length ∧ l.length ≤ 3 ∧ ¬ (2 ≤ l.length ∧ l[0]? = some 48)
def numOk (l : List UInt8) : Prop := formOk l ∧ ∀ c ∈ l, digB c = true
instance (l : List UInt8) : Decidable (formOk l) := inferInstanceAs (Decidable (_ ∧ _))
instance (l : List UInt8) : Decidable (numOk l) := inferInstanceAs (Decidable (_ ∧ _))
def numV (l : List UInt8) : Nat := l.foldl (fun n c => 10 * n + (c.toNat - 48)) 0
theorem numV_snoc (l : List UInt8) (c : UInt8) : numV (l ++ [c]) = 10 * numV l + (c.toNat - 48) := by simp [numV]
theorem digB_le {c : UInt8} (h : digB c = true) : c.toNat - 48 ≤ 9 := by
  have := of_decide_eq_true h
  omega
theorem numV_from : ∀ (l : List UInt8) (n : Nat), (∀ c ∈ l, digB c = true) → l.foldl (fun n c => 10 * n + (c.toNat - 48)) n + 1 ≤ (n + 1) * 10 ^ l.length
  | [], n, _ => by simp
  | c :: l, n, h => by
    have h1 := numV_from l (10 * n + (c.toNat - 48)) fun x hx => h x (by simp [hx])
    have h2 := digB_le (h c (by simp))
    rw [List.foldl_cons, List.length_cons, Nat.pow_succ]
    refine Nat.le_trans h1 ?_
    rw [Nat.mul_comm (10 ^ l.length) 10, ← Nat.mul_assoc]
    exact Nat.mul_le_mul_right _ (by omega)
theorem numV_lt {l : List UInt8} (h : ∀ c ∈ l, digB c = true) : numV l < 10 ^ l.length := by
  have := numV_from l 0 h
  unfold numV
  omega
theorem numV_le {l : List UInt8} (h : numOk l) : numV l ≤ 999 := by
  have h1 := numV_lt h.2
  have h2 : 10 ^ l.length ≤ 10 ^ 3 := Nat.pow_le_pow_right (by omega) h.1.2.1
  omega
def digTo (l : List UInt8) (k : Nat) : Prop := ∀ c ∈ l.take k, digB c = true
theorem digTo_succ {l : List UInt8} {k : Nat} {c : UInt8} (h : digTo l k) (hc : l[k]? = some c) (hd : digB c = true) : digTo l (k + 1) ∧ numV (l.take (k + 1)) = 10 * numV (l.take k) + (c.toNat - 48) := by
  have e : l.take (k + 1) = l.take k ++ [c] := by rw [List.take_add_one, hc]; rfl
  refine ⟨fun x hx => ?_, by rw [e, numV_snoc]⟩
  rw [e, List.mem_append, List.mem_singleton] at hx
  rcases hx with hx | rfl
  · exact h x hx
  · exact hd
theorem numV_take {l : List UInt8} {k : Nat} (h : digTo l k) (hl : l.length ≤ 3) : numV (l.take k) ≤ 999 := by
  have h1 := numV_lt h
  have h2 : 10 ^ (l.take k).length ≤ 10 ^ 3 := Nat.pow_le_pow_right (by omega) (by rw [List.length_take]; omega)
  omega
theorem not_dig {l : List UInt8} {k : Nat} {c : UInt8} (hc : l[k]? = some c) (hd : digB c = false) : ¬ numOk l := fun h => by
  rw [h.2 c (List.mem_of_getElem? hc)] at hd
  exact Bool.noConfusion hd
theorem numOk_of {l : List UInt8} {k : Nat} (hf : formOk l) (h : digTo l k) (hk : l.length ≤ k) : numOk l := ⟨hf, by unfold digTo at h; rw [List.take_of_length_le hk] at h; exact h⟩
/-- Four numbers as one. -/
def adrV (ps : List (List UInt8)) : Nat := ps.foldl (fun a p => 256 * a + numV p) 0
theorem adrV_snoc (ps : List (List UInt8)) (p : List UInt8) : adrV (ps ++ [p]) = 256 * adrV ps + numV p := by simp [adrV]
def allOk (ps : List (List UInt8)) : Prop := ∀ p ∈ ps, numOk p
def allLow (ps : List (List UInt8)) : Prop := ∀ p ∈ ps, numV p ≤ 255
instance (ps : List (List UInt8)) : Decidable (allOk ps) := inferInstanceAs (Decidable (∀ p ∈ ps, numOk p))
instance (ps : List (List UInt8)) : Decidable (allLow ps) := inferInstanceAs (Decidable (∀ p ∈ ps, numV p ≤ 255))
theorem adrV_from : ∀ (ps : List (List UInt8)) (a : Nat), allLow ps → ps.foldl (fun a p => 256 * a + numV p) a + 1 ≤ (a + 1) * 256 ^ ps.length
  | [], a, _ => by simp
  | p :: ps, a, h => by
    have h1 := adrV_from ps (256 * a + numV p) fun x hx => h x (by simp [hx])
    have h2 := h p (by simp)
    rw [List.foldl_cons, List.length_cons, Nat.pow_succ]
    refine Nat.le_trans h1 ?_
    rw [Nat.mul_comm (256 ^ ps.length) 256, ← Nat.mul_assoc]
    exact Nat.mul_le_mul_right _ (by omega)
theorem adrV_lt {ps : List (List UInt8)} (h : allLow ps) : adrV ps < 256 ^ ps.length := by
  have := adrV_from ps 0 h
  unfold adrV
  omega
theorem take_snoc {α : Type} {ps : List α} {k : Nat} {p : α} (h : ps[k]? = some p) : ps.take (k + 1) = ps.take k ++ [p] := by rw [List.take_add_one, h]; rfl
/-- What a text is read as: an error's number, and an address. -/
def adrE (l : List UInt8) (eT eF : Int) : Int × Nat :=
  if (splitC 46 l).length = 4 ∧ allOk (splitC 46 l) then (if allLow (splitC 46 l) then (0, adrV (splitC 46 l)) else (eF, 0)) else (eT, 0)
theorem adrE_lt (l : List UInt8) (eT eF : Int) : (adrE l eT eF).2 < 4294967296 := by
  unfold adrE
  split
  · rename_i h
    split
    · rename_i h2
      have := adrV_lt h2
      rw [h.1] at this
      exact this
    · show 0 < _
      omega
  · show 0 < _
    omega
end Go.Proofs.YtbfflcpmagjlnaaDoor.adr
