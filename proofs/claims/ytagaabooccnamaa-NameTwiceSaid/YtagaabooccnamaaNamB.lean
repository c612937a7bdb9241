/- The document's Word. Condition: the text is of at most 1000000 bytes. -/
import Derived.Test.YtagaabooccnamaaNamA
namespace Go.Proofs.Ytagaabooccnamaa.str
open Go.RowKit Go.Proofs.Ytagaabooccnamaa.num Go.Proofs.Ytagaabooccnamaa.mem Go.Proofs.Ytagaabooccnamaa.txt
set_option linter.unusedVariables false
/-- The tests of a letter, as the walk asks them. -/
structure TestsL (cI : Int) (x : Bool) : Prop where
  yes : x = true → 97 ≤ cI ∧ cI ≤ 122
  no : x = false → ¬ (97 ≤ cI ∧ cI ≤ 122)
set_option maxHeartbeats 3200000 in
set_option maxRecDepth 100000 in
theorem rword_any (S : ByteArray) (l : List UInt8) (b : Bool) (w : World) (hS : StrIs S l) (hl : l.length ≤ 1000000) (hb : b = true ↔ wordS l) : Calls Try.prog 7 #[.string S] w (RetV (.bool b) w) := by
  have hsz := hS.size
  have HB := Lib.hid hb
  have HS := Lib.hid hS
  clear hb hS
  go_enter Try.func7, Try.ntmps7
  go_wp2
  go_loop [3] (fun v3 => ∃ pos : Nat, pos ≤ l.length ∧ Hid (wordTo l pos) ∧ v3 = .int .i64 (pos : Int)) (fun v3 => S.size - (intOf v3).toNat)
  case atStart => exact ⟨0, by omega, fun i c h => by omega, rfl⟩
  case round =>
    obtain ⟨pos, hp, HW, rfl⟩ := hrel
    by_cases hlt : pos < S.size
    · obtain ⟨c, hc⟩ : ∃ c, c = S[pos]'hlt := ⟨_, rfl⟩
      have hat : l[pos]? = some c := by rw [hc]; exact HS.out.at_ hlt
      have HAT := Lib.hid hat
      have HC := Lib.hid hc
      have hcc : S[pos]'hlt = c := hc.symm
      have hcb := c.toNat_lt
      obtain ⟨cI, hcI⟩ : ∃ cI : Int, cI = ((c.toNat : Nat) : Int) := ⟨_, rfl⟩
      have hcI2 : ((S[pos]'hlt).toNat : Int) = cI := by rw [hcc, hcI]
      have hle : (97 ≤ cI ∧ cI ≤ 122) ↔ letB c = true := by rw [hcI]; exact (letB_int c).symm
      have hfe : (48 ≤ cI ∧ cI ≤ 57 ∨ cI = 45 ∨ cI = 95) ↔ furB c = true := by rw [hcI]; exact (furB_int c).symm
      clear hat hc hcc hcI
      by_cases h1 : 97 ≤ cI
      · have d1 : 48 ≤ cI := by omega
        have d2 : ¬ cI ≤ 57 := by omega
        have d3 : (cI == 45) = false := by rw [beq_eq_false_iff_ne]; omega
        by_cases h2 : cI ≤ 122
        · have HW2 : Hid (wordTo l (pos + 1)) := wordTo_succ HW.out HAT.out (.inl (hle.1 ⟨h1, h2⟩))
          by_cases d4 : (cI == 95) = true
          · rw [beq_iff_eq] at d4; omega
          · have d4 : (cI == 95) = false := by simpa using d4
            clear hle hfe HW
            go_wp2
            go_round
            case rel => exact ⟨pos + 1, by omega, HW2, by go_num⟩
            case measure => simp [intOf]; omega
        · have d4 : (cI == 95) = false := by rw [beq_eq_false_iff_ne]; omega
          have hlb : letB c = false := Bool.eq_false_iff.2 fun h => h2 (hle.2 h).2
          have hfb : furB c = false := Bool.eq_false_iff.2 fun h => by have := hfe.2 h; omega
          obtain rfl : b = false := Bool.eq_false_iff.2 fun h => not_word HAT.out (okAt_not hlb (.inr hfb)) (HB.out.1 h)
          clear hle hfe HW
          go_wp2
          all_goals (go_ret; exact ⟨rfl, Below.refl _ _⟩)
      · have hlb : letB c = false := Bool.eq_false_iff.2 fun h => h1 (hle.2 h).1
        by_cases hfb : furB c = true
        · by_cases hp0 : pos = 0
          · subst hp0
            obtain rfl : b = false := Bool.eq_false_iff.2 fun h => not_word HAT.out (okAt_not hlb (.inl rfl)) (HB.out.1 h)
            clear hle HW
            by_cases e1 : 48 ≤ cI <;> by_cases e2 : cI ≤ 57 <;> by_cases e3 : cI = 45 <;> by_cases e4 : cI = 95
            all_goals first
              | (exfalso; have := hfe.2 hfb; omega)
              | skip
            all_goals
              have e3' : (cI == 45) = decide (cI = 45) := by rw [Bool.eq_iff_iff, beq_iff_eq, decide_eq_true_iff]
              have e4' : (cI == 95) = decide (cI = 95) := by rw [Bool.eq_iff_iff, beq_iff_eq, decide_eq_true_iff]
              first | rw [decide_eq_true e3] at e3' | rw [decide_eq_false e3] at e3'
              first | rw [decide_eq_true e4] at e4' | rw [decide_eq_false e4] at e4'
              clear hfe hfb e3 e4
              go_wp2
              all_goals (go_ret; exact ⟨rfl, Below.refl _ _⟩)
          · have hz : (((pos : Nat) : Int) == 0) = false := by rw [beq_eq_false_iff_ne]; omega
            have HW2 : Hid (wordTo l (pos + 1)) := wordTo_succ HW.out HAT.out (.inr ⟨hp0, hfb⟩)
            clear hle HW
            by_cases e1 : 48 ≤ cI <;> by_cases e2 : cI ≤ 57 <;> by_cases e3 : cI = 45 <;> by_cases e4 : cI = 95
            all_goals first
              | (exfalso; have := hfe.2 hfb; omega)
              | skip
            all_goals
              have e3' : (cI == 45) = decide (cI = 45) := by rw [Bool.eq_iff_iff, beq_iff_eq, decide_eq_true_iff]
              have e4' : (cI == 95) = decide (cI = 95) := by rw [Bool.eq_iff_iff, beq_iff_eq, decide_eq_true_iff]
              first | rw [decide_eq_true e3] at e3' | rw [decide_eq_false e3] at e3'
              first | rw [decide_eq_true e4] at e4' | rw [decide_eq_false e4] at e4'
              clear hfe hfb e3 e4
              go_wp2
              go_round
              case rel => exact ⟨pos + 1, by omega, HW2, by go_num⟩
              case measure => simp [intOf]; omega
        · have hfb : furB c = false := by simpa using hfb
          obtain rfl : b = false := Bool.eq_false_iff.2 fun h => not_word HAT.out (okAt_not hlb (.inr hfb)) (HB.out.1 h)
          have hno : ¬ (48 ≤ cI ∧ cI ≤ 57 ∨ cI = 45 ∨ cI = 95) := fun h => by rw [hfe.1 h] at hfb; exact Bool.noConfusion hfb
          have e3 : (cI == 45) = false := by rw [beq_eq_false_iff_ne]; omega
          have e4 : (cI == 95) = false := by rw [beq_eq_false_iff_ne]; omega
          clear hle hfe HW hfb
          by_cases e1 : 48 ≤ cI
          · have e2 : ¬ cI ≤ 57 := by omega
            clear hno
            go_wp2
            all_goals (go_ret; exact ⟨rfl, Below.refl _ _⟩)
          · clear hno
            go_wp2
            all_goals (go_ret; exact ⟨rfl, Below.refl _ _⟩)
    · have hall : ∀ i c, l[i]? = some c → okAt i c := wordTo_all (by rw [show l.length = pos by omega]; exact HW.out)
      have hbe : b = decide (0 < l.length) := by
        rw [Bool.eq_iff_iff, HB.out, decide_eq_true_iff]
        exact ⟨fun h => List.length_pos_iff.2 h.1, fun h => ⟨List.length_pos_iff.1 h, hall⟩⟩
      have HBE := Lib.hid hbe
      clear hall hbe
      go_wp2
      go_ret
      refine ⟨?_, Below.refl _ _⟩
      rw [HBE.out]
      rfl
end Go.Proofs.Ytagaabooccnamaa.str
