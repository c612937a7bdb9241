/- Strings: a string as a list of bytes; the library's strings.TrimLeft at one byte, strings.IndexByte and strings.IndexRune, walked. Condition: as each says. -/
import Derived.Test.YtlepoheinemfcaaDoorWords
import Derived.Test.YtlepoheinemfcaaDoorDigW
import Derived.Lib.Bytealg
import Derived.Lib.Strings
import Derived.Laws.RangeAny
import Derived.Laws.IdiomStrings
namespace Go.Proofs.YtlepoheinemfcaaDoor.str
open Go.RowKit Go.Proofs.YtlepoheinemfcaaDoor.num Go.Proofs.YtlepoheinemfcaaDoor.mem Go.Proofs.YtlepoheinemfcaaDoor.txt
set_option linter.unusedVariables false

/-- The string's bytes. -/
def StrIs (S : ByteArray) (l : List UInt8) : Prop := S.data.toList = l
theorem StrIs.mk (l : List UInt8) : StrIs ⟨l.toArray⟩ l := rfl
theorem StrIs.size {S : ByteArray} {l : List UInt8} (h : StrIs S l) : S.size = l.length := by rw [← h]; exact Lib.size_eq S
theorem StrIs.eq {S T : ByteArray} {l : List UInt8} (h : StrIs S l) (k : StrIs T l) : S = T := by
  rw [← Lib.mk_data S, ← Lib.mk_data T, h, k]
theorem StrIs.is {S : ByteArray} {l : List UInt8} (h : StrIs S l) : S = ⟨l.toArray⟩ := by rw [← Lib.mk_data S, h]
theorem StrIs.at_ {S : ByteArray} {l : List UInt8} (h : StrIs S l) {i : Nat} (hi : i < S.size) : l[i]? = some (S[i]'hi) := by
  subst h
  obtain ⟨⟨l⟩⟩ := S
  exact List.getElem?_eq_getElem _
theorem StrIs.cut {S : ByteArray} {l : List UInt8} (h : StrIs S l) (a b : Nat) : StrIs (S.extract a b) ((l.drop a).take (b - a)) := by
  unfold StrIs; rw [Lib.extract_data, h]
theorem StrIs.from_ {S : ByteArray} {l : List UInt8} (h : StrIs S l) (a : Nat) : StrIs (S.extract a S.size) (l.drop a) := by
  have := h.cut a S.size
  rwa [List.take_of_length_le (by rw [List.length_drop, h.size]; omega)] at this
theorem StrIs.to_ {S : ByteArray} {l : List UInt8} (h : StrIs S l) (b : Nat) : StrIs (S.extract 0 b) (l.take b) := by
  have := h.cut 0 b
  simpa using this
/-- The comparison of two strings, as the walk asks it. -/
theorem StrIs.beq {S T : ByteArray} {l m : List UInt8} (h : StrIs S l) (k : StrIs T m) : (S.toList == T.toList) = (l == m) := by
  rw [Lib.toList_data, Lib.toList_data, h, k]

/-- The call ends with a string of these bytes; the world is as it was. -/
def RetStr (l : List UInt8) (w : World) (e : Ending) (w' : World) : Prop := ∃ R, e = .returned (.string R) ∧ StrIs R l ∧ w = w'
/-- Behind noughts. -/
theorem drop_nought {l : List UInt8} {k : Nat} (hk : (l.drop k).dropWhile (· == 48) = l.dropWhile (· == 48)) (h : l[k]? = some 48) : (l.drop (k + 1)).dropWhile (· == 48) = l.dropWhile (· == 48) := by
  obtain ⟨i1, e1⟩ := List.getElem?_eq_some_iff.1 h
  rw [← hk, ← List.getElem_cons_drop i1, e1, List.dropWhile_cons]
  simp
theorem stop_nought {l : List UInt8} {k : Nat} {c : UInt8} (hk : (l.drop k).dropWhile (· == 48) = l.dropWhile (· == 48)) (h : l[k]? = some c) (hc : c ≠ 48) : l.drop k = l.dropWhile (· == 48) := by
  obtain ⟨i1, e1⟩ := List.getElem?_eq_some_iff.1 h
  rw [← hk, ← List.getElem_cons_drop i1, e1, List.dropWhile_cons]
  simp [hc]

set_option maxHeartbeats 800000 in
theorem trimByte_any (S : ByteArray) (l : List UInt8) (w : World) (hS : StrIs S l) :
    Calls Tryd.prog 29 #[.string S, .int .u8 48] w (RetStr (l.dropWhile (· == 48)) w) := by
  go_enter Tryd.func29, Tryd.ntmps29
  go_wp2
  go_loop [0] (fun v => ∃ (T : ByteArray) (k : Nat), k ≤ l.length ∧ v = .string T ∧ StrIs T (l.drop k) ∧ Hid ((l.drop k).dropWhile (· == 48) = l.dropWhile (· == 48))) (fun v => match v with | .string T => T.size | _ => 0)
  case atStart => exact ⟨S, 0, Nat.zero_le _, rfl, hS, rfl⟩
  case round =>
    obtain ⟨T, k, hk, rfl, hT, HK⟩ := hrel
    have hsz : T.size = l.length - k := by rw [hT.size, List.length_drop]
    by_cases h0 : 0 < T.size
    · have hat := hT.at_ h0
      rw [List.getElem?_drop] at hat
      by_cases hc : T[0]'h0 = 48
      · have hc2 : ((T[0]'h0).toNat : Int) = 48 := by rw [hc]; rfl
        have HAT := Lib.hid hat
        have HSZ := Lib.hid hsz
        have HC := Lib.hid hc
        have hx : T.extract 1 T.size = T.extract 1 T.size := rfl
        clear hat hsz hc hx
        have hT1 := hT.from_ 1
        rw [List.drop_drop] at hT1
        go_wp2
        go_round
        case rel => exact ⟨_, k + 1, by have := HSZ.out; omega, rfl, hT1, drop_nought HK.out (by have := HAT.out; rw [HC.out] at this; simpa using this)⟩
        case measure =>
          have := hT1.size
          rw [List.length_drop] at this
          have := HSZ.out
          simp; omega
      · have hc2 : (((T[0]'h0).toNat : Int) == 48) = false := by
          rw [beq_eq_false_iff_ne]
          intro e
          exact hc (UInt8.toNat_inj.1 (by exact_mod_cast e))
        have HE : Hid (l.drop k = l.dropWhile (· == 48)) := stop_nought HK.out (by simpa using hat) hc
        clear hat hsz
        go_wp2
        go_ret
        exact ⟨_, rfl, by rw [← HE.out]; exact hT, rfl⟩
    · have HE : Hid (l.drop k = l.dropWhile (· == 48)) := by
        have e : l.drop k = [] := List.drop_of_length_le (by omega)
        have h1 := HK.out
        show _ = _
        rw [← h1, e]; rfl
      clear hsz
      go_wp2
      go_ret
      exact ⟨_, rfl, by rw [← HE.out]; exact hT, rfl⟩

set_option maxHeartbeats 800000 in
set_option maxRecDepth 100000 in
theorem trimLeft_any (S : ByteArray) (l : List UInt8) (w : World) (hS : StrIs S l) :
    Calls Tryd.prog 18 #[.string S, .string ⟨#[48]⟩] w (RetStr (l.dropWhile (· == 48)) w) := by
  have hcmp : (S.toList == []) = (l == []) := by rw [Lib.toList_data, hS]
  by_cases hl : l = []
  · have h1 : (l == []) = true := by rw [hl]; rfl
    rw [h1] at hcmp
    go_enter Tryd.func18, Tryd.ntmps18
    go_wp2
    go_ret
    exact ⟨_, rfl, by rw [hl] at hS ⊢; exact hS, rfl⟩
  · have h1 : (l == []) = false := by rw [beq_eq_false_iff_ne]; exact hl
    rw [h1] at hcmp
    have hne : S.toList ≠ [] := by simpa using hcmp
    go_enter Tryd.func18, Tryd.ntmps18
    go_wp2_with fail
    refine (trimByte_any S l _ hS).mono ?_
    rintro e w' ⟨R, rfl, hR, rfl⟩
    go_wp2
    go_ret
    exact ⟨_, rfl, hR, rfl⟩

set_option maxHeartbeats 800000 in
theorem sliteByte_any (S : ByteArray) (l : List UInt8) (c : Int) (w : World) (hS : StrIs S l) :
    Calls Tryd.prog 57 #[.string S, .int .u8 c] w fun e w' => e = .returned (.int .i64 (Lib.indexByte l c.toNat.toUInt8)) ∧ w = w' := by
  subst hS
  go_enter Tryd.func57, Tryd.ntmps57
  go_wp2
  rw [run_callFunc_extern Tryd.func71 (by kernel_rfl) (by kernel_rfl) (by kernel_rfl) (e := Extern.BytealgIndexByte.indexByte) (by kernel_rfl), Lib.run_indexByteString]
  simp only [Result.andThen]
  rw [Oper.upon_value]
  go_wp2
  go_ret
  exact ⟨rfl, rfl⟩
set_option maxHeartbeats 800000 in
theorem indexByte_any (S : ByteArray) (l : List UInt8) (c : Int) (w : World) (hS : StrIs S l) :
    Calls Tryd.prog 39 #[.string S, .int .u8 c] w fun e w' => e = .returned (.int .i64 (Lib.indexByte l c.toNat.toUInt8)) ∧ w = w' := by
  go_enter Tryd.func39, Tryd.ntmps39
  go_wp2_with fail
  refine (sliteByte_any S l c _ hS).mono ?_
  rintro e w' ⟨rfl, rfl⟩
  go_wp2
  go_ret
  exact ⟨rfl, rfl⟩
/-- The call ends with a bool; the world is as it was. -/
def RetBool (w : World) (e : Ending) (w' : World) : Prop := ∃ b, e = .returned (.bool b) ∧ w = w'
set_option maxHeartbeats 800000 in
theorem validRune_any (r : Int) (w : World) : Calls Tryd.prog 40 #[.int .i32 r] w (RetBool w) := by
  by_cases h1 : 0 ≤ r <;> by_cases h2 : r < 55296 <;> by_cases h3 : 57343 < r <;> by_cases h4 : r ≤ 1114111
  all_goals
    go_enter Tryd.func40, Tryd.ntmps40
    go_wp2
    go_ret
    exact ⟨_, rfl, rfl⟩
end Go.Proofs.YtlepoheinemfcaaDoor.str
