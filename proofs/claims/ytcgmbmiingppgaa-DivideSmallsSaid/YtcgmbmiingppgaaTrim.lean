/- nat.trimmed and the document's Trim: a slice without the noughts at its end. Condition: the slice reads as a list of numbers. -/
import Derived.Test.YtcgmbmiingppgaaRows
import Derived.Test.YtcgmbmiingppgaaMem
import Derived.Deep.QuietTactic
import Derived.BigQuiet
import Derived.Outline
namespace Go.Proofs.Ytcgmbmiingppgaa.nat
open Go.RowKit Go.Proofs.Ytcgmbmiingppgaa.num Go.Proofs.Ytcgmbmiingppgaa.mem
set_option linter.unusedVariables false

theorem sl33 : SliceT Try.prog 46 3 .i64 := ⟨Try.underlying46, info_parts (P := Try.prog) (e := 3) (z := .int .i64 0) (size := 1) (bytes := 8) (by kernel_rfl)⟩
theorem sl24 : SliceT Try.prog 23 30 .u64 := ⟨Try.underlying23, info_parts (P := Try.prog) (e := 30) (z := .int .u64 0) (size := 1) (bytes := 8) (by kernel_rfl)⟩
theorem sl22 : SliceT Try.prog 22 30 .u64 := ⟨Try.underlying22, info_parts (P := Try.prog) (e := 30) (z := .int .u64 0) (size := 1) (bytes := 8) (by kernel_rfl)⟩
/-- nat.trimmed ends with a slice that reads so, in the memory of the one that was handed in. -/
def RetTr (l : List Nat) (v : Value) (w : World) (e : Ending) (w' : World) : Prop := ∃ v', e = .returned v' ∧ IsS w .u64 v' l ∧ (∀ B, Fresh B v → Fresh B v') ∧ w = w'
theorem beq0 {d : Nat} (h : ((d : Int) == 0) = true) : d = 0 := by have := beq_iff_eq.1 h; omega
theorem nbeq0 {d : Nat} (h : ((d : Int) == 0) = false) : d ≠ 0 := by have := beq_eq_false_iff_ne.1 h; omega

set_option maxHeartbeats 400000 in
theorem trimmed_any (v : Value) (l : List Nat) (w : World) (h : IsS w .u64 v l) :
    Calls Try.prog 44 #[v] w (RetTr (trim l) v w) := by
  obtain ⟨A, c, rfl, hc, hm, hr⟩ := h
  have hm' := hm
  unfold maxLen at hm'
  go_enter Try.func44, Try.ntmps44
  go_wp2
  go_loop [3] (fun vn => ∃ n : Nat, n ≤ l.length ∧ Hid (trim (l.take n) = trim l) ∧ vn = .int .i64 (n : Int)) (fun vn => (intOf vn).toNat)
  case atStart => exact ⟨l.length, Nat.le_refl _, by rw [List.take_length]; rfl, rfl⟩
  case round =>
    obtain ⟨n, hn, ht, rfl⟩ := hrel
    by_cases hp : 0 < n
    · obtain ⟨n, rfl⟩ : ∃ m, n = m + 1 := ⟨n - 1, by omega⟩
      obtain ⟨ad, d, rfl, hd, hcell⟩ := hr.at_ (i := n) (by omega)
      have HD := Lib.hid hd
      clear hd
      go_wp2
      · have hz : d = 0 := by have h : ((d : Int) == 0) = true := by assumption
                              exact beq0 h
        subst hz
        go_round
        case rel => exact ⟨n, by omega, by have h1 := ht.out; rw [trim_take0 HD.out] at h1; exact h1, by go_num⟩
        case measure => simp [intOf]
      · have hz : d ≠ 0 := by have h : ((d : Int) == 0) = false := by assumption
                              exact nbeq0 h
        have e : trim l = l.take (n + 1) := by have h1 := ht.out; rw [trim_of_take HD.out hz] at h1; exact h1.symm
        have el : (trim l).length = n + 1 := by rw [e]; simp; omega
        have hs := hr.isTake hn hc hm
        rw [← e, ← el] at hs
        have HEL := Lib.hid el
        clear e el
        go_ret
        rw [HEL.out] at hs
        exact ⟨_, rfl, hs, fun B hf ad' n' c' e => by injection e with e1 _ _; injection e1 with e1; subst e1; exact hf _ _ _ rfl, rfl⟩
    · obtain rfl : n = 0 := by omega
      have e : trim l = [] := by have h1 := ht.out; rw [List.take_zero] at h1; exact h1.symm
      have hs := hr.isTake (Nat.zero_le _) hc hm
      rw [List.take_zero] at hs
      have HE := Lib.hid e
      clear e
      go_wp2
      go_ret
      rw [HE.out]
      exact ⟨_, rfl, hs, fun B hf ad' n' c' e => by injection e with e1 _ _; subst e1; exact hf _ _ _ rfl, rfl⟩

set_option maxHeartbeats 400000 in
theorem refTrim_list (v : Value) (l : List Nat) (w : World) (h : IsS w .i64 v l) (hl : l.length ≤ 1000000000000) :
    Calls Try.prog 48 #[v] w (RetS .i64 (trim l) w) := by
  obtain ⟨A, c, rfl, hc, hm, hr⟩ := h
  have hm' := hm
  unfold maxLen at hm'
  go_enter Try.func48, Try.ntmps48
  go_wp2
  go_loop [3] (fun vn => ∃ n : Nat, n ≤ l.length ∧ Hid (trim (l.take n) = trim l) ∧ vn = .int .i64 (n : Int)) (fun vn => (intOf vn).toNat)
  case atStart => exact ⟨l.length, Nat.le_refl _, by rw [List.take_length]; rfl, rfl⟩
  case round =>
    obtain ⟨n, hn, ht, rfl⟩ := hrel
    by_cases hp : 0 < n
    · obtain ⟨n, rfl⟩ : ∃ m, n = m + 1 := ⟨n - 1, by omega⟩
      obtain ⟨ad, d, rfl, hd, hcell⟩ := hr.at_ (i := n) (by omega)
      have HD := Lib.hid hd
      clear hd
      have htk : n + 1 = (l.take (n + 1)).length := by simp; omega
      have HT := Lib.hid htk
      clear htk
      go_wp2_with (at_builtin; refine wpList_append_rd rfl (.tmp 18) (.tmp 21) rfl sl33 rfl (own_lit0 w w.heap.size _ .i64 (Nat.le_refl _)) rfl (news := l.take (n + 1)) HT.out ((hr.take (n + 1)).below (below_alloc (Nat.le_refl _) _)) (by simp; omega) (by simp) ?_; intro v' w1 hown1 hb1 hg1)
      · have hz : d = 0 := by have h : ((d : Int) == 0) = true := by assumption
                              exact beq0 h
        subst hz
        go_round
        case rel => exact ⟨n, by omega, by have h1 := ht.out; rw [trim_take0 HD.out] at h1; exact h1, by go_num⟩
        case measure => simp [intOf]
      · have hz : d ≠ 0 := by have h : ((d : Int) == 0) = false := by assumption
                              exact nbeq0 h
        have e : trim l = l.take (n + 1) := by have h1 := ht.out; rw [trim_of_take HD.out hz] at h1; exact h1.symm
        have HE := Lib.hid e
        clear e
        go_ret
        exact ⟨_, rfl, by have := hown1.isS; rwa [List.nil_append, ← HE.out] at this, hown1.fresh, (below_alloc (Nat.le_refl _) _).trans hb1⟩
    · obtain rfl : n = 0 := by omega
      have e : trim l = [] := by have h1 := ht.out; rw [List.take_zero] at h1; exact h1.symm
      have HE := Lib.hid e
      clear e
      go_wp2_with (at_builtin; refine wpList_append_rd rfl (.tmp 18) (.tmp 21) rfl sl33 rfl (own_lit0 w w.heap.size _ .i64 (Nat.le_refl _)) rfl (news := []) rfl Rd.nil (by simp) (by simp) ?_; intro v' w1 hown1 hb1 hg1)
      go_ret
      exact ⟨_, rfl, by have := hown1.isS; rwa [List.nil_append, ← HE.out] at this, hown1.fresh, (below_alloc (Nat.le_refl _) _).trans hb1⟩
end Go.Proofs.Ytcgmbmiingppgaa.nat
