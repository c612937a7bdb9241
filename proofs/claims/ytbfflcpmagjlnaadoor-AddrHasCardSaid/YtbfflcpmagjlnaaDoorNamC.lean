/- Slices of texts; the keywords; slices.Contains of texts; Keyword and Name, the program's and the document's. Condition: as each says. -/
import Derived.Test.YtbfflcpmagjlnaaDoorNamB
namespace Go.Proofs.YtbfflcpmagjlnaaDoor.str
open Go.RowKit Go.Proofs.YtbfflcpmagjlnaaDoor.num Go.Proofs.YtbfflcpmagjlnaaDoor.mem Go.Proofs.YtbfflcpmagjlnaaDoor.txt
set_option linter.unusedVariables false
theorem bool_of (p : Prop) : ∃ b : Bool, b = true ↔ p := by
  by_cases h : p
  · exact ⟨true, fun _ => h, fun _ => rfl⟩
  · exact ⟨false, fun e => Bool.noConfusion e, fun e => absurd e h⟩
/-- A slice reads as these texts. -/
def IsT (w : World) (v : Value) (ss : List (List UInt8)) : Prop := ∃ A c, v = .slice A ss.length c ∧ ss.length ≤ c ∧ ∀ (i : Nat) (s : List UInt8), ss[i]? = some s → ∃ ad, A = some ad ∧ w.cell? (ad.add i) = some (.string ⟨s.toArray⟩)
theorem IsT.below {w w' : World} {v : Value} {ss : List (List UInt8)} (h : IsT w v ss) (hb : Below w.heap.size w w') : IsT w' v ss := by
  obtain ⟨A, c, rfl, h1, h2⟩ := h
  refine ⟨A, c, rfl, h1, fun i s hs => ?_⟩
  obtain ⟨ad, e, hc⟩ := h2 i s hs
  exact ⟨ad, e, (hb.cell (World.block_lt_of_cell? w _ hc)).trans hc⟩
theorem isT_lit (w : World) (t : TypeId) (ss : List (List UInt8)) (vs : Array Value) (h : vs = (ss.map fun s => Value.string ⟨s.toArray⟩).toArray) : IsT (w.alloc (.cells vs t)) (.slice (some ⟨w.heap.size, 0, none⟩) ss.length ss.length) ss := by
  subst h
  refine ⟨_, _, rfl, Nat.le_refl _, fun i s hs => ⟨_, rfl, ?_⟩⟩
  have e : (⟨w.heap.size, 0, none⟩ : Addr).add i = ⟨w.heap.size, i, none⟩ := by unfold Addr.add; split <;> simp_all
  rw [e, World.cell?_alloc_new]
  simp [hs]
/-- The keywords. -/
def keyws : List (List UInt8) := [[110, 101, 116, 119, 111, 114, 107], [110, 111, 100, 101], [104, 111, 109, 101], [108, 105, 110, 107], [102, 97, 105, 108], [114, 117, 108, 101], [100, 114, 111, 112], [118, 105, 97], [101, 108, 115, 101], [112, 114, 111, 98], [104, 111, 112, 115], [119, 105, 116, 104, 105, 110], [99, 111, 109, 112, 97, 114, 101]]
def RetT (ss : List (List UInt8)) (w : World) (e : Ending) (w' : World) : Prop := ∃ v, e = .returned v ∧ IsT w' v ss ∧ Below w.heap.size w w'
/-- Where a text stands first. -/
def posT (ss : List (List UInt8)) (l : List UInt8) : Int := if l ∈ ss then ((ss.findIdx fun s => s == l : Nat) : Int) else -1
def notTo (ss : List (List UInt8)) (l : List UInt8) (k : Nat) : Prop := ∀ i, i < k → ss[i]? ≠ some l
theorem notTo_all {ss : List (List UInt8)} {l : List UInt8} (h : notTo ss l ss.length) : l ∉ ss := fun hm => by
  obtain ⟨i, hi⟩ := List.mem_iff_getElem?.1 hm
  exact h i (List.getElem?_eq_some_iff.1 hi).1 hi
theorem notTo_succ {ss : List (List UInt8)} {l s : List UInt8} {k : Nat} (h : notTo ss l k) (hs : ss[k]? = some s) (hne : s ≠ l) : notTo ss l (k + 1) := fun i hi e => by
  by_cases ek : i = k
  · subst ek
    rw [hs] at e
    injection e with e
    exact hne e
  · exact h i (by omega) e
/-- A name: a word that is no keyword. -/
def nameS (l : List UInt8) : Prop := wordS l ∧ l ∉ keyws
def wordB (l : List UInt8) : Bool := !l.isEmpty && l.all letB
theorem word_of {l : List UInt8} (h : wordB l = true) : wordS l := by
  unfold wordB at h
  rw [Bool.and_eq_true] at h
  refine ⟨fun e => ?_, fun i c hc => .inl ?_⟩
  · subst e; exact Bool.noConfusion h.1
  · exact List.all_eq_true.1 h.2 c (List.mem_of_getElem? hc)
theorem keyws_word : ∀ s ∈ keyws, wordS s ∧ s.length ≤ 20 := by
  have h : (keyws.all fun s => wordB s && decide (s.length ≤ 20)) = true := by decide
  intro s hs
  have h1 := List.all_eq_true.1 h s hs
  rw [Bool.and_eq_true] at h1
  exact ⟨word_of h1.1, of_decide_eq_true h1.2⟩
theorem word_more {l : List UInt8} {d : Nat} (h : wordS l) (hd : d < 26) : wordS (l ++ [UInt8.ofNat (97 + d)]) := by
  refine ⟨by simp, fun i c hc => ?_⟩
  by_cases hi : i < l.length
  · rw [List.getElem?_append_left hi] at hc
    exact h.2 i c hc
  · have h2 := (List.getElem?_eq_some_iff.1 hc).1
    rw [List.length_append, List.length_singleton] at h2
    obtain rfl : i = l.length := by omega
    rw [List.getElem?_concat_length] at hc
    injection hc with hc
    subst hc
    refine .inl ?_
    unfold letB
    rw [decide_eq_true_iff, UInt8.toNat_ofNat']
    omega
theorem conv_one (d : Nat) (W : World) : (convert 58 9 (.slice (some ⟨W.heap.size, 0, none⟩) 1 1)).run Tryd.prog (W.alloc (.cells #[.int .u8 (97 + (d : Int) % 26)] 5)) = .ok (.string ⟨#[UInt8.ofNat (97 + d % 26)]⟩) (W.alloc (.cells #[.int .u8 (97 + (d : Int) % 26)] 5)) := by
  refine run_convert_bytes_back _ _ _ 5 _ 1 [UInt8.ofNat (97 + d % 26)] Tryd.underlying58 Tryd.underlying5 Tryd.underlying9 fun j hj => ?_
  have hj0 : j = 0 := by
    have h : j < 1 := hj
    omega
  subst hj0
  have e : (⟨W.heap.size, 0, none⟩ : Addr).add 0 = ⟨W.heap.size, 0, none⟩ := by unfold Addr.add; split <;> simp_all
  rw [e, World.cell?_alloc_new]
  have e2 : (((UInt8.ofNat (97 + d % 26)).toNat : Nat) : Int) = 97 + (d : Int) % 26 := by
    rw [UInt8.toNat_ofNat']
    omega
  show _ = some (Value.int .u8 (((UInt8.ofNat (97 + d % 26)).toNat : Nat) : Int))
  rw [e2]
  rfl
theorem str_more {T : ByteArray} {m : List UInt8} (h : StrIs T m) (d : Nat) : StrIs (T ++ ⟨#[97 + UInt8.ofNat (d % 26)]⟩) (m ++ [UInt8.ofNat (97 + d % 26)]) := by
  subst h
  show (ByteArray.append T ⟨#[97 + UInt8.ofNat (d % 26)]⟩).data.toList = _
  have e : (97 : UInt8) + UInt8.ofNat (d % 26) = UInt8.ofNat (97 + d % 26) := by rw [UInt8.ofNat_add]; rfl
  rw [e]
  simp [ByteArray.append]
end Go.Proofs.YtbfflcpmagjlnaaDoor.str
