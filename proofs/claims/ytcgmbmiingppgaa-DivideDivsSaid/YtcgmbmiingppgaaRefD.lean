/- The document's own May, Clean, Same, Cmp of layer 2. Condition: slices read as numbers. -/
import Derived.Test.YtcgmbmiingppgaaRefC
namespace Go.Proofs.Ytcgmbmiingppgaa.nat
open Go.RowKit Go.Proofs.Ytcgmbmiingppgaa.num Go.Proofs.Ytcgmbmiingppgaa.mem
set_option linter.unusedVariables false

section
open Classical
/-- May limbs be a number? -/
noncomputable def mayB (l : List Nat) : Bool := decide (Lt 4294967296 l ∧ trim l = l)
theorem mayB_big {l : List Nat} {i d : Nat} (h : l[i]? = some d) (hd : 4294967296 ≤ d) : mayB l = false := by
  unfold mayB
  rw [decide_eq_false_iff_not]
  rintro ⟨h1, _⟩
  have := h1.at h; omega
theorem mayB_nil : mayB [] = true := by
  unfold mayB
  rw [decide_eq_true_iff]
  exact ⟨Lt.nil _, rfl⟩
theorem mayB_last {l : List Nat} {d : Nat} (h : Lt 4294967296 l) (hd : l[l.length - 1]? = some d) (h0 : d ≠ 0) : mayB l = true := by
  unfold mayB
  rw [decide_eq_true_iff]
  refine ⟨h, ?_⟩
  have hl : l.length - 1 < l.length := (List.getElem?_eq_some_iff.1 hd).1
  have := trim_of_take hd h0
  rwa [show l.length - 1 + 1 = l.length from by omega, List.take_length] at this
theorem mayB_last0 {l : List Nat} (hd : l[l.length - 1]? = some 0) : mayB l = false := by
  unfold mayB
  rw [decide_eq_false_iff_not]
  rintro ⟨_, h1⟩
  have hl : l.length - 1 < l.length := (List.getElem?_eq_some_iff.1 hd).1
  have h2 := trim_take0 hd
  rw [show l.length - 1 + 1 = l.length from by omega, List.take_length, h1] at h2
  have h3 := trim_len_le (l.take (l.length - 1))
  rw [← h2] at h3
  simp at h3; omega
theorem mayB_digs (x : Nat) : mayB (digs 4294967296 x) = true := by
  unfold mayB
  rw [decide_eq_true_iff]
  exact ⟨digs_lt (by omega) x, by rw [trim_digs (by omega) (digs_lt (by omega) x), val_digs (by omega)]⟩

end

/-- The limbs that Clean looks at. -/
def clipped (l : List Nat) (most : Nat) : List Nat := (l.take most).map (· % 4294967296)
theorem clipped_lt (l : List Nat) (most : Nat) : Lt 4294967296 (clipped l most) := by
  intro d hd
  obtain ⟨a, _, rfl⟩ := List.mem_map.1 hd
  exact Nat.mod_lt _ (by omega)
theorem clipped_len (l : List Nat) (most : Nat) : (clipped l most).length ≤ most := by simp [clipped]; omega
theorem clipped_step {l : List Nat} {n d : Nat} (hd : l[n]? = some d) : clipped l (n + 1) = clipped l n ++ [d % 4294967296] := by unfold clipped; rw [take_step hd, List.map_append]; rfl
theorem clipped_same {l : List Nat} (h : Lt 4294967296 l) {most : Nat} (hl : l.length ≤ most) : clipped l most = l := by
  unfold clipped
  rw [List.take_of_length_le hl]
  conv => rhs; rw [← List.map_id l]
  exact List.map_congr_left fun d hd => Nat.mod_eq_of_lt (h d hd)
theorem clipped_all {l : List Nat} {n most : Nat} (h : n = l.length ∨ n = most) (hl : n ≤ l.length) (hm : n ≤ most) : clipped l n = clipped l most := by
  rcases h with rfl | rfl
  · unfold clipped; rw [List.take_of_length_le (by omega), List.take_of_length_le (by omega)]
  · rfl

set_option maxHeartbeats 800000 in
theorem refClean_list (v : Value) (l : List Nat) (mI : Int) (most : Nat) (w : World) (hmI : mI = (most : Int)) (h : IsS w .u64 v l) (hu : Lt 18446744073709551616 l) (hmost : most ≤ 1000000) :
    Calls Try.prog 7 #[v, .int .i64 mI] w (RetS .u64 (trim (clipped l most)) w) := by
  subst hmI
  obtain ⟨A, c, rfl, hc, hm, hr⟩ := h
  have hm' := hm
  unfold maxLen at hm'
  go_enter Try.func7, Try.ntmps7
  go_wp2
  go_loopw [5, 6] (fun vo vi wr => ∃ (k : Nat) (o : List Nat), k ≤ l.length ∧ k ≤ most ∧ Own wr w.heap.size 30 .u64 vo o ∧ Hid (o = clipped l k) ∧ o.length ≤ k ∧ Below w.heap.size w wr ∧ vi = .int .i64 (k : Int)) (fun _ vi _ => l.length - (intOf vi).toNat)
  case atStart => exact ⟨0, [], by omega, by omega, own_lit0 w _ _ .u64 (Nat.le_refl _), by show _ = _; simp [clipped], by simp, below_alloc (Nat.le_refl _) _, rfl⟩
  case round =>
    obtain ⟨k, o, hk, hk2, hown, HO, hok, hb, rfl⟩ := hrel
    have hsz := hb.size
    by_cases hlt : k < l.length ∧ k < most
    · obtain ⟨hlt1, hlt2⟩ := hlt
      obtain ⟨ad, d, rfl, hd, hcell⟩ := (hr.below hb).at_ hlt1
      have hd2 : (d : Int) ≤ 18446744073709551615 := by have := hu.at hd; omega
      have HN : Hid (o ++ [d % 4294967296] = clipped l (k + 1)) := by show _ = _; rw [clipped_step hd, HO.out]
      clear hd
      go_wp2_with (at_builtin; refine wpList_append_one rfl (.tmp 19) (.tmp 25) rfl sl24 (d % 4294967296) rfl hown rfl (by omega) (by omega) (by omega) ?_; intro v' w1 hown1 hb1 hg1)
      go_roundw
      case rel => exact ⟨k + 1, _, by omega, by omega, hown1, HN, by simp; omega, hb.trans hb1, by go_num⟩
      case measure => simp [intOf]; omega
    · have HC : Hid (o = clipped l most) := by show _ = _; rw [HO.out]; exact clipped_all (by omega) hk hk2
      have hv := hown.isS
      have hf := hown.fresh
      clear HO hown
      rcases (show (k < l.length ∧ ¬ k < most) ∨ ¬ k < l.length from by omega) with ⟨hlt1, hlt2⟩ | hlt1
      all_goals
        clear hlt
        go_wp2
        go_loopw [5] (fun vo wr => ∃ m : List Nat, IsS wr .u64 vo m ∧ Hid (trim m = trim o) ∧ Fresh w.heap.size vo ∧ Below w.heap.size w wr) (fun vo _ => lenOf vo)
        case atStart => exact ⟨o, hv, rfl, hf, hb⟩
        case round =>
          clear hv hf hb hsz
          obtain ⟨m, hv, HM, hf, hb⟩ := hrel
          obtain ⟨A', c', rfl, hc1, hc2, hr1⟩ := id hv
          unfold maxLen at hc2
          by_cases hl0 : 0 < m.length
          · obtain ⟨ad, d, rfl, hd, hcell⟩ := hr1.at_ (i := m.length - 1) (by omega)
            by_cases hd0 : d = 0
            · subst hd0
              have HN : Hid (trim (m.take (m.length - 1)) = trim o) := by
                have h1 := trim_take0 hd
                rw [show m.length - 1 + 1 = m.length from by omega, List.take_length] at h1
                show _ = _
                rw [← h1]; exact HM.out
              have hv2 := hr1.isTake (n := m.length - 1) (by omega) hc1 (by unfold maxLen; omega)
              clear hd
              go_wp2
              go_roundw
              case rel => exact ⟨_, hv2, HN, fun ad' n' c'' e => by injection e with e1 _ _; injection e1 with e1; subst e1; exact hf _ _ _ rfl, hb⟩
              case measure => simp [lenOf]; omega
            · have HN : Hid (m = trim o) := by
                have h1 := trim_of_take hd hd0
                rw [show m.length - 1 + 1 = m.length from by omega, List.take_length] at h1
                show _ = _
                rw [← h1]; exact HM.out
              have hz : ((d : Int) == 0) = false := by rw [beq_eq_false_iff_ne]; omega
              clear hd hd0
              go_wp2
              go_ret
              exact ⟨_, rfl, by rw [← HC.out, ← HN.out]; exact hv, hf, hb⟩
          · obtain rfl : m = [] := List.length_eq_zero_iff.1 (by omega)
            have HN : Hid (([] : List Nat) = trim o) := HM.out
            go_wp2
            go_ret
            exact ⟨_, rfl, by rw [← HC.out, ← HN.out]; exact hv, hf, hb⟩
end Go.Proofs.Ytcgmbmiingppgaa.nat
