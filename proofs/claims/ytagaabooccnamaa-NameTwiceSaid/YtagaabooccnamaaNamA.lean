/- Package name: which texts are words, letter by letter; name.Word, and the document's. Condition: the text is of at most 1000000 bytes. -/
import Derived.Test.YtagaabooccnamaaStrT
import Derived.Lib.OthersKept
namespace Go.Proofs.Ytagaabooccnamaa.txt
open Go.Proofs.Ytagaabooccnamaa.num
set_option linter.unusedVariables false
def letB (c : UInt8) : Bool := decide (97 ≤ c.toNat ∧ c.toNat ≤ 122)
def furB (c : UInt8) : Bool := decide (48 ≤ c.toNat ∧ c.toNat ≤ 57 ∨ c.toNat = 45 ∨ c.toNat = 95)
/-- What a word may have at this place. -/
def okAt (i : Nat) (c : UInt8) : Prop := letB c = true ∨ (i ≠ 0 ∧ furB c = true)
def wordS (l : List UInt8) : Prop := l ≠ [] ∧ ∀ i c, l[i]? = some c → okAt i c
/-- So far. -/
def wordTo (l : List UInt8) (k : Nat) : Prop := ∀ i c, i < k → l[i]? = some c → okAt i c
theorem wordTo_succ {l : List UInt8} {k : Nat} {c : UInt8} (h : wordTo l k) (hc : l[k]? = some c) (ok : okAt k c) : wordTo l (k + 1) := fun i d hi hd => by
  by_cases e : i = k
  · subst e
    rw [hc] at hd
    injection hd with hd
    subst hd; exact ok
  · exact h i d (by omega) hd
theorem wordTo_all {l : List UInt8} (h : wordTo l l.length) : ∀ i c, l[i]? = some c → okAt i c := fun i c hc => h i c (List.getElem?_eq_some_iff.1 hc).1 hc
theorem not_word {l : List UInt8} {k : Nat} {c : UInt8} (hc : l[k]? = some c) (h : ¬ okAt k c) : ¬ wordS l := fun hw => h (hw.2 k c hc)
end Go.Proofs.Ytagaabooccnamaa.txt
namespace Go.Proofs.Ytagaabooccnamaa.str
open Go.RowKit Go.Proofs.Ytagaabooccnamaa.num Go.Proofs.Ytagaabooccnamaa.mem Go.Proofs.Ytagaabooccnamaa.txt
set_option linter.unusedVariables false
def RetSame (v : Value) (w : World) (e : Ending) (w' : World) : Prop := e = .returned v ∧ w' = w
theorem letter_any (r : Int) (b : Bool) (w : World) (h0 : 0 ≤ r) (h1 : r ≤ 2147483647) (hb : b = true ↔ 97 ≤ r ∧ r ≤ 122) : Calls Try.prog 19 #[.int .i32 r] w (RetSame (.bool b) w) := by
  have HB := Lib.hid hb
  clear hb
  go_enter Try.func19, Try.ntmps19
  by_cases h2 : 97 ≤ r
  · by_cases h3 : r ≤ 122
    · obtain rfl : b = true := HB.out.2 ⟨h2, h3⟩
      go_wp2
      go_ret
      exact ⟨rfl, rfl⟩
    · obtain rfl : b = false := Bool.eq_false_iff.2 fun h => h3 (HB.out.1 h).2
      go_wp2
      go_ret
      exact ⟨rfl, rfl⟩
  · obtain rfl : b = false := Bool.eq_false_iff.2 fun h => h2 (HB.out.1 h).1
    go_wp2
    go_ret
    exact ⟨rfl, rfl⟩
theorem further_any (r : Int) (b : Bool) (w : World) (h0 : 0 ≤ r) (h1 : r ≤ 2147483647) (hb : b = true ↔ (48 ≤ r ∧ r ≤ 57 ∨ r = 45 ∨ r = 95)) : Calls Try.prog 20 #[.int .i32 r] w (RetSame (.bool b) w) := by
  have HB := Lib.hid hb
  clear hb
  by_cases h2 : 48 ≤ r ∧ r ≤ 57
  · obtain rfl : b = true := HB.out.2 (.inl h2)
    obtain ⟨h3, h4⟩ := h2
    go_enter Try.func20, Try.ntmps20
    go_wp2
    go_ret
    exact ⟨rfl, rfl⟩
  · by_cases h3 : r = 45
    · obtain rfl : b = true := HB.out.2 (.inr (.inl h3))
      subst h3
      go_enter Try.func20, Try.ntmps20
      go_wp2
      go_ret
      exact ⟨rfl, rfl⟩
    · by_cases h4 : r = 95
      · obtain rfl : b = true := HB.out.2 (.inr (.inr h4))
        subst h4
        go_enter Try.func20, Try.ntmps20
        go_wp2
        go_ret
        exact ⟨rfl, rfl⟩
      · obtain rfl : b = false := Bool.eq_false_iff.2 fun h => by
          rcases HB.out.1 h with h | h | h
          · exact h2 h
          · exact h3 h
          · exact h4 h
        have e1 : (r == 45) = false := by simpa using h3
        have e2 : (r == 95) = false := by simpa using h4
        by_cases h5 : 48 ≤ r
        · have h6 : ¬ r ≤ 57 := fun h => h2 ⟨h5, h⟩
          clear h2
          go_enter Try.func20, Try.ntmps20
          go_wp2
          go_ret
          exact ⟨rfl, rfl⟩
        · clear h2
          go_enter Try.func20, Try.ntmps20
          go_wp2
          go_ret
          exact ⟨rfl, rfl⟩
theorem letB_int (c : UInt8) : letB c = true ↔ 97 ≤ ((c.toNat : Nat) : Int) ∧ ((c.toNat : Nat) : Int) ≤ 122 := by
  unfold letB
  rw [decide_eq_true_iff]
  omega
theorem furB_int (c : UInt8) : furB c = true ↔ (48 ≤ ((c.toNat : Nat) : Int) ∧ ((c.toNat : Nat) : Int) ≤ 57 ∨ ((c.toNat : Nat) : Int) = 45 ∨ ((c.toNat : Nat) : Int) = 95) := by
  unfold furB
  rw [decide_eq_true_iff]
  omega
theorem letB_high {c : UInt8} (h : ¬ c.toNat < 128) : letB c = false := by
  unfold letB
  rw [decide_eq_false_iff_not]
  omega
theorem furB_high {c : UInt8} (h : ¬ c.toNat < 128) : furB c = false := by
  unfold furB
  rw [decide_eq_false_iff_not]
  omega
theorem okAt_not {i : Nat} {c : UInt8} (h : letB c = false) (h2 : i = 0 ∨ furB c = false) : ¬ okAt i c := by
  rintro (k | ⟨k1, k2⟩)
  · rw [h] at k; exact Bool.noConfusion k
  · rcases h2 with h2 | h2
    · exact k1 h2
    · rw [h2] at k2; exact Bool.noConfusion k2
set_option maxHeartbeats 1600000 in
set_option maxRecDepth 100000 in
theorem word_any (S : ByteArray) (l : List UInt8) (b : Bool) (w : World) (hS : StrIs S l) (hl : l.length ≤ 1000000) (hb : b = true ↔ wordS l) : Calls Try.prog 6 #[.string S] w (RetV (.bool b) w) := by
  have hsz := hS.size
  have HB := Lib.hid hb
  have HS := Lib.hid hS
  clear hb hS
  go_enter Try.func6, Try.ntmps6
  go_wp2
  go_loopw [] (fun wr => ∃ pos : Nat, pos ≤ l.length ∧ wr.heap[w.heap.size]? = some (.stringIter S pos) ∧ Hid (wordTo l pos) ∧ Hid (Below w.heap.size w wr)) (fun wr => S.size - wr.iterPos w.heap.size)
  case atStart => exact ⟨0, by omega, World.iter_heap w S 0, fun i c h => by omega, (Below.refl _ w).alloc (Nat.le_refl _) _⟩
  case round =>
    obtain ⟨pos, hp, hit, HW, HBw⟩ := hrel
    have hszr : w.heap.size < wr.heap.size := (Array.getElem?_eq_some_iff.1 hit).1
    have hpos0 : wr.iterPos w.heap.size = pos := by simp [World.iterPos, hit]
    by_cases hlt : pos < S.size
    · obtain ⟨c, hc⟩ : ∃ c, c = S[pos]'hlt := ⟨_, rfl⟩
      have hat : l[pos]? = some c := by rw [hc]; exact HS.out.at_ hlt
      obtain ⟨r, hr⟩ : ∃ r, r = (Utf8.decode S pos).1 := ⟨_, rfl⟩
      obtain ⟨m, hm⟩ : ∃ m, m = pos + (Utf8.decode S pos).2 := ⟨_, rfl⟩
      have hnx : ∀ ty, (Instr.next (.pointer (some ⟨w.heap.size, 0, none⟩)) true ty).run Try.prog wr = .ok (.tuple #[.bool true, .int .i64 pos, .int .i32 r]) (wr.iterAt w.heap.size S m) := fun ty => by rw [hr, hm]; exact Lib.run_next_any_at wr w.heap.size S pos ty hit hlt
      have hle : r ≤ 2147483647 := by rw [hr]; exact decode_le S pos
      have hit2 : (wr.iterAt w.heap.size S m).heap[w.heap.size]? = some (.stringIter S m) := Lib.iterAt_heap wr w.heap.size S pos m hit
      have HB2 : Hid (Below w.heap.size w (wr.iterAt w.heap.size S m)) := Lib.below_iterAt HBw.out (Nat.le_refl _) S m
      have hlow : ∀ h : c.toNat < 128, r = c.toNat ∧ m = pos + 1 := fun ha => by
        have hd := decode_ascii S pos hlt (by rw [← hc]; exact ha)
        rw [hd] at hr hm
        exact ⟨by rw [hr, hc], hm⟩
      have hhigh : ¬ c.toNat < 128 → 128 ≤ r := fun ha => by
        rw [hr]
        exact (decode_high S pos hlt (by rw [← hc]; omega)).1
      have HAT := Lib.hid hat
      have HIT := Lib.hid hit
      clear hat hit hc hr hm HBw hpos0 hszr
      obtain ⟨w2, hw2⟩ : ∃ w2, w2 = wr.iterAt w.heap.size S m := ⟨_, rfl⟩
      rw [← hw2] at hnx hit2 HB2
      clear hw2
      by_cases hlb : letB c = true
      · have ha : c.toNat < 128 := by
          unfold letB at hlb
          rw [decide_eq_true_iff] at hlb
          omega
        obtain ⟨rfl, rfl⟩ := hlow ha
        have HW2 : Hid (wordTo l (pos + 1)) := wordTo_succ HW.out HAT.out (.inl hlb)
        have CL := fun w => letter_any ((c.toNat : Nat) : Int) true w (by omega) (by omega) (by rw [← letB_int, hlb])
        clear hlb hlow hhigh HW
        go_wp2_with fail
        refine (CL _).mono ?_
        rintro e w3 ⟨rfl, rfl⟩
        go_wp2
        go_roundw
        case rel => exact ⟨pos + 1, by omega, hit2, HW2, HB2⟩
        case measure =>
          simp only [World.iterPos, hit2, HIT.out]
          omega
      · have hlb : letB c = false := by simpa using hlb
        have hnot : ¬ (97 ≤ (r : Int) ∧ (r : Int) ≤ 122) := by
          by_cases ha : c.toNat < 128
          · rw [(hlow ha).1]
            intro h
            rw [(letB_int c).2 h] at hlb
            exact Bool.noConfusion hlb
          · have := hhigh ha
            omega
        have CL := fun w => letter_any (r : Int) false w (by omega) (by omega) ⟨fun h => Bool.noConfusion h, fun h => absurd h hnot⟩
        clear hnot
        by_cases hp0 : pos = 0
        · subst hp0
          obtain rfl : b = false := Bool.eq_false_iff.2 fun h => not_word HAT.out (okAt_not hlb (.inl rfl)) (HB.out.1 h)
          clear hlow hhigh hlb
          go_wp2_with fail
          refine (CL _).mono ?_
          rintro e w3 ⟨rfl, rfl⟩
          go_wp2
          go_ret
          exact ⟨rfl, HB2.out⟩
        · have hz : (((pos : Nat) : Int) == 0) = false := by rw [beq_eq_false_iff_ne]; omega
          by_cases hfb : furB c = true
          · have ha : c.toNat < 128 := by
              unfold furB at hfb
              rw [decide_eq_true_iff] at hfb
              omega
            obtain ⟨rfl, rfl⟩ := hlow ha
            have HW2 : Hid (wordTo l (pos + 1)) := wordTo_succ HW.out HAT.out (.inr ⟨hp0, hfb⟩)
            have CF := fun w => further_any ((c.toNat : Nat) : Int) true w (by omega) (by omega) (by rw [← furB_int, hfb])
            clear hlb hlow hhigh HW hfb
            go_wp2_with fail
            refine (CL _).mono ?_
            rintro e w3 ⟨rfl, rfl⟩
            go_wp2_with fail
            refine (CF _).mono ?_
            rintro e w3 ⟨rfl, rfl⟩
            go_wp2
            go_roundw
            case rel => exact ⟨pos + 1, by omega, hit2, HW2, HB2⟩
            case measure =>
              simp only [World.iterPos, hit2, HIT.out]
              omega
          · have hfb : furB c = false := by simpa using hfb
            have hnot : ¬ (48 ≤ (r : Int) ∧ (r : Int) ≤ 57 ∨ (r : Int) = 45 ∨ (r : Int) = 95) := by
              by_cases ha : c.toNat < 128
              · rw [(hlow ha).1]
                intro h
                rw [(furB_int c).2 h] at hfb
                exact Bool.noConfusion hfb
              · have := hhigh ha
                omega
            have CF := fun w => further_any (r : Int) false w (by omega) (by omega) ⟨fun h => Bool.noConfusion h, fun h => absurd h hnot⟩
            obtain rfl : b = false := Bool.eq_false_iff.2 fun h => not_word HAT.out (okAt_not hlb (.inr hfb)) (HB.out.1 h)
            clear hnot hlb hlow hhigh HW hfb
            go_wp2_with fail
            refine (CL _).mono ?_
            rintro e w3 ⟨rfl, rfl⟩
            go_wp2_with fail
            refine (CF _).mono ?_
            rintro e w3 ⟨rfl, rfl⟩
            go_wp2
            go_ret
            exact ⟨rfl, HB2.out⟩
    · have hnx : ∀ ty, (Instr.next (.pointer (some ⟨w.heap.size, 0, none⟩)) true ty).run Try.prog wr = _ := fun ty => Lib.run_next_end_at wr w.heap.size S pos ty hit hlt
      have hall : ∀ i c, l[i]? = some c → okAt i c := wordTo_all (by rw [show l.length = pos by omega]; exact HW.out)
      have hbe : b = !S.toList.isEmpty := by
        rw [Lib.toList_data, show S.data.toList = l from HS.out, Bool.eq_iff_iff, HB.out]
        constructor
        · intro h
          have := h.1
          cases l with
          | nil => exact absurd rfl this
          | cons a t => rfl
        · intro h
          refine ⟨fun e => ?_, hall⟩
          subst e
          exact Bool.noConfusion h
      have HBE := Lib.hid hbe
      clear hall hbe hpos0
      go_wp2
      go_ret
      refine ⟨?_, HBw.out⟩
      rw [HBE.out]
      rfl
end Go.Proofs.Ytagaabooccnamaa.str
