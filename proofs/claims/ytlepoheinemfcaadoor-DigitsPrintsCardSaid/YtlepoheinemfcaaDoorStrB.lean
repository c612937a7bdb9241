/- strings.IndexRune at a text of ASCII: at any rune; and where a letter stands among the digits' letters. Condition: the text is ASCII. -/
import Derived.Test.YtlepoheinemfcaaDoorStrA
namespace Go.Proofs.YtlepoheinemfcaaDoor.str
open Go.RowKit Go.Proofs.YtlepoheinemfcaaDoor.num Go.Proofs.YtlepoheinemfcaaDoor.mem Go.Proofs.YtlepoheinemfcaaDoor.txt
set_option linter.unusedVariables false

theorem indexByte_none {l : List UInt8} {c : UInt8} (h : ∀ b ∈ l, b ≠ c) : Lib.indexByte l c = -1 := by
  induction l with
  | nil => rfl
  | cons b l ih =>
    have h1 : (b == c) = false := by rw [beq_eq_false_iff_ne]; exact h b (by simp)
    rw [Lib.indexByte, h1, ih fun x hx => h x (by simp [hx])]; rfl
theorem indexByte_no (S : ByteArray) (l : List UInt8) (c : Int) (w : World) (hS : StrIs S l) (hn : ∀ b ∈ l, b ≠ c.toNat.toUInt8) :
    Calls Tryd.prog 39 #[.string S, .int .u8 c] w fun e w' => e = .returned (.int .i64 (-1)) ∧ w' = w := by
  refine (indexByte_any S l c w hS).mono ?_
  rintro e w' ⟨rfl, rfl⟩
  rw [indexByte_none hn]
  exact ⟨rfl, rfl⟩
/-- A rune above ASCII as a string: more than one byte, the last one above ASCII. -/
theorem encode_high (r : Int) (h : 128 ≤ r) : ∃ R : ByteArray, Utf8.encode r = R ∧ 2 ≤ R.size ∧ R.size ≤ 4 ∧ ∀ hl : R.size - 1 < R.size, 128 ≤ (R[R.size - 1]'hl).toNat ∧ (R[R.size - 1]'hl).toNat < 256 := by
  refine ⟨_, rfl, ?_⟩
  have hv : 128 ≤ (if Utf8.valid r then r.toNat else Utf8.runeError) := by
    split
    · omega
    · decide
  unfold Utf8.encode
  generalize (if Utf8.valid r then r.toNat else Utf8.runeError) = c at hv ⊢
  have hv2 : ¬ c < 128 := by omega
  have hb : ∀ n, n < 256 → 128 ≤ n → 128 ≤ (UInt8.ofNat n).toNat ∧ (UInt8.ofNat n).toNat < 256 := by
    intro n h1 h2
    rw [UInt8.toNat_ofNat_of_lt' (by simpa using h1)]; omega
  have hm : 128 ≤ 128 + c % 64 ∧ 128 + c % 64 < 256 := by omega
  by_cases h2 : c < 2048
  · simp only [hv2, h2, if_false, if_true]
    exact ⟨by simp [ByteArray.size], by simp [ByteArray.size], fun hl => hb (128 + c % 64) hm.2 hm.1⟩
  · by_cases h3 : c < 65536
    · simp only [hv2, h2, h3, if_false, if_true]
      exact ⟨by simp [ByteArray.size], by simp [ByteArray.size], fun hl => hb (128 + c % 64) hm.2 hm.1⟩
    · simp only [hv2, h2, h3, if_false]
      exact ⟨by simp [ByteArray.size], by simp [ByteArray.size], fun hl => hb (128 + c % 64) hm.2 hm.1⟩
theorem run_rune_string (r : Int) (w : World) : (convert 21 9 (.int .i32 r)).run Tryd.prog w = .ok (.string (Utf8.encode r)) w := by
  simp [convert, run_underlying Tryd.underlying21, run_underlying Tryd.underlying9, Conv.intToString]
/-- A text of ASCII. -/
def Asc (l : List UInt8) : Prop := ∀ c ∈ l, c.toNat < 128

set_option maxHeartbeats 1600000 in
set_option maxRecDepth 100000 in
theorem idxRune_err (S : ByteArray) (l : List UInt8) (w : World) (hS : StrIs S l) (ha : Asc l) :
    Calls Tryd.prog 24 #[.string S, .int .i32 65533] w (RetV (.int .i64 (-1)) w) := by
  go_enter Tryd.func24, Tryd.ntmps24
  go_wp2
  go_loopw [5, 6] (fun v5 v6 wr => ∃ (pos : Nat), wr = w.iter S pos) (fun _ _ wr => S.size - wr.iterPos w.heap.size)
  case atStart => exact ⟨0, rfl⟩
  case round =>
    obtain ⟨pos, rfl⟩ := hrel
    by_cases hp : pos < S.size
    · have hlow : (S[pos]'hp).toNat < 128 := ha _ (List.mem_of_getElem? (hS.at_ hp))
      have hnx : ∀ ty, (Instr.next (.pointer (some ⟨w.heap.size, 0, none⟩)) true ty).run Tryd.prog (w.iter S pos) = _ := fun ty => run_next_ascii w S pos ty hp hlow
      have hne : (((S[pos]'hp).toNat : Int) == 65533) = false := by rw [beq_eq_false_iff_ne]; omega
      go_wp2
      go_roundw
      case rel => exact ⟨pos + 1, rfl⟩
      case measure => simp; omega
    · have hnx : ∀ ty, (Instr.next (.pointer (some ⟨w.heap.size, 0, none⟩)) true ty).run Tryd.prog (w.iter S pos) = _ := fun ty => run_next_end w S pos ty hp
      go_wp2
      go_ret
      exact ⟨rfl, below_alloc (Nat.le_refl _) _⟩
end Go.Proofs.YtlepoheinemfcaaDoor.str
