/- The document's own Same, Cmp, Add, Sub of layer 2. Condition: slices read as numbers. -/
import Derived.Test.YtcgmbmiingppgaaRefD
namespace Go.Proofs.Ytcgmbmiingppgaa.nat
open Go.RowKit Go.Proofs.Ytcgmbmiingppgaa.num Go.Proofs.Ytcgmbmiingppgaa.mem
set_option linter.unusedVariables false

/-- The same limbs? -/
def sameB (l m : List Nat) : Bool := decide (l = m)
theorem sameB_refl (l : List Nat) : sameB l l = true := by simp [sameB]
theorem sameB_of_len {l m : List Nat} (h : ¬ l.length = m.length) : sameB l m = false := by
  unfold sameB; rw [decide_eq_false_iff_not]; rintro rfl; exact h rfl
theorem sameB_at {l m : List Nat} {i d e : Nat} (hd : l[i]? = some d) (he : m[i]? = some e) (h : ¬ d = e) : sameB l m = false := by
  unfold sameB; rw [decide_eq_false_iff_not]; rintro rfl; rw [hd] at he; injection he with he; exact h he

set_option maxHeartbeats 400000 in
theorem refSame_any (v u : Value) (l m : List Nat) (w : World) (h : IsS w .u64 v l) (h' : IsS w .u64 u m) (hu : Lt 18446744073709551616 l) (hu' : Lt 18446744073709551616 m) :
    Calls Try.prog 11 #[v, u] w (RetV (.bool (sameB l m)) w) := by
  obtain ⟨A, c, rfl, hc, hm, hr⟩ := h
  obtain ⟨A', c', rfl, hc', hmm, hr'⟩ := h'
  unfold maxLen at hm hmm
  by_cases hne : l.length = m.length
  · have hb1 : ((l.length : Int) != (m.length : Int)) = false := by rw [hne]; simp
    have HL := Lib.hid hne
    have hl1 : l.length ≤ m.length := by omega
    have hl2 : m.length ≤ l.length := by omega
    clear hne
    go_enter Try.func11, Try.ntmps11
    go_wp2
    go_loopw [5] (fun vi wr => ∃ k : Nat, k ≤ l.length ∧ Hid (l.take k = m.take k) ∧ Below w.heap.size w wr ∧ vi = .int .i64 (k : Int)) (fun vi _ => l.length - (intOf vi).toNat)
    case atStart => exact ⟨0, by omega, by show _ = _; simp, Below.refl _ _, rfl⟩
    case round =>
      obtain ⟨k, hk, HT, hb, rfl⟩ := hrel
      by_cases hlt : k < l.length
      · obtain ⟨ad, d, rfl, hd, hcell⟩ := (hr.below hb).at_ hlt
        obtain ⟨ad', e, rfl, he, hcell'⟩ := (hr'.below hb).at_ (i := k) (by omega)
        by_cases hde : d = e
        · subst hde
          have HN : Hid (l.take (k + 1) = m.take (k + 1)) := by show _ = _; rw [take_step hd, take_step he, HT.out]
          have hz : ((d : Int) != (d : Int)) = false := by simp
          clear hd he
          go_wp2
          go_quiet (fail)
          go_wp2
          go_roundw
          case rel => exact ⟨k + 1, by omega, HN, below_drewN hb _, by go_num⟩
          case measure => simp [intOf]; omega
        · have HN : Hid (sameB l m = false) := sameB_at hd he hde
          have hz : ((d : Int) != (e : Int)) = true := by rw [bne_iff_ne]; omega
          clear hd he hde
          go_wp2
          go_quiet (fail)
          go_wp2
          go_ret
          exact ⟨by rw [HN.out]; rfl, below_drewN hb _⟩
      · obtain rfl : k = l.length := by omega
        have HN : Hid (sameB l m = true) := by
          have := HT.out
          rw [List.take_length, List.take_of_length_le hl2] at this
          rw [this]; exact sameB_refl m
        go_wp2
        go_ret
        exact ⟨by rw [HN.out]; rfl, hb⟩
  · have hb1 : ((l.length : Int) != (m.length : Int)) = true := by rw [bne_iff_ne]; omega
    have HN : Hid (sameB l m = false) := sameB_of_len hne
    clear hne
    go_enter Try.func11, Try.ntmps11
    go_wp2
    go_ret
    exact ⟨by rw [HN.out]; rfl, Below.refl _ _⟩

set_option maxHeartbeats 400000 in
theorem refCmp_any (v u : Value) (x y : Nat) (w : World) (h : IsS w .i64 v (digs 10000 x)) (h' : IsS w .i64 u (digs 10000 y)) :
    Calls Try.prog 49 #[v, u] w (RetV (.int .i64 (ord x y)) w) := by
  have lt1 := digs_lt (B := 10000) (by omega) x
  have lt2 := digs_lt (B := 10000) (by omega) y
  obtain ⟨A, c, rfl, hc, hm, hr⟩ := h
  obtain ⟨A', c', rfl, hc', hmm, hr'⟩ := h'
  unfold maxLen at hm hmm
  by_cases hne : (digs 10000 x).length = (digs 10000 y).length
  · have hb1 : (((digs 10000 x).length : Int) != ((digs 10000 y).length : Int)) = false := by rw [hne]; simp
    have HL := Lib.hid hne
    have hl1 : (digs 10000 x).length ≤ (digs 10000 y).length := by omega
    have hl2 : (digs 10000 y).length ≤ (digs 10000 x).length := by omega
    clear hne
    go_enter Try.func49, Try.ntmps49
    go_wp2
    go_loopw [5] (fun vi wr => ∃ k : Nat, k ≤ (digs 10000 x).length ∧ Hid ((digs 10000 x).drop k = (digs 10000 y).drop k) ∧ Below w.heap.size w wr ∧ vi = .int .i64 ((k : Int) - 1)) (fun vi _ => (intOf vi + 1).toNat)
    case atStart => exact ⟨(digs 10000 x).length, by omega, by show _ = _; rw [List.drop_length, List.drop_of_length_le hl2], Below.refl _ _, rfl⟩
    case round =>
      obtain ⟨k, hk, HT, hb, rfl⟩ := hrel
      by_cases hlt : 0 < k
      · obtain ⟨j, rfl⟩ : ∃ j, k = j + 1 := ⟨k - 1, by omega⟩
        obtain ⟨ad, d, rfl, hd, hcell⟩ := (hr.below hb).at_ (i := j) (by omega)
        obtain ⟨ad', e, rfl, he, hcell'⟩ := (hr'.below hb).at_ (i := j) (by omega)
        rcases Nat.lt_trichotomy d e with hde | hde | hde
        · have HN : Hid (ord x y = -1) := by
            have := at_lt_val lt1 lt2 HL.out hd he HT.out hde
            rw [val_digs (by omega), val_digs (by omega)] at this
            exact ord_lt this
          clear hd he
          go_wp2
          go_quiet (fail)
          go_wp2
          go_ret
          exact ⟨by rw [HN.out]; rfl, below_drewN hb _⟩
        · subst hde
          have HN : Hid ((digs 10000 x).drop j = (digs 10000 y).drop j) := drop_step hd he HT.out
          clear hd he
          go_wp2
          go_quiet (fail)
          go_wp2
          go_quiet (fail)
          go_wp2
          go_roundw
          case rel => exact ⟨j, by omega, HN, below_drewN hb _, by go_num⟩
          case measure => simp [intOf]
        · have HN : Hid (ord x y = 1) := by
            have := at_lt_val lt2 lt1 HL.out.symm he hd HT.out.symm hde
            rw [val_digs (by omega), val_digs (by omega)] at this
            exact ord_gt this
          clear hd he
          go_wp2
          go_quiet (fail)
          go_wp2
          go_quiet (fail)
          go_wp2
          go_ret
          exact ⟨by rw [HN.out]; rfl, below_drewN (below_drewN hb _) _⟩
      · obtain rfl : k = 0 := by omega
        have HN : Hid (ord x y = 0) := by
          have := HT.out
          rw [List.drop_zero, List.drop_zero] at this
          have e := congrArg (val 10000) this
          rw [val_digs (by omega), val_digs (by omega)] at e
          rw [e]; exact ord_eq y
        go_wp2
        go_ret
        exact ⟨by rw [HN.out]; rfl, hb⟩
  · have hb1 : (((digs 10000 x).length : Int) != ((digs 10000 y).length : Int)) = true := by rw [bne_iff_ne]; omega
    by_cases hlt : (digs 10000 x).length < (digs 10000 y).length
    · have HN : Hid (ord x y = -1) := ord_lt (len_lt_ord (by omega) hlt)
      clear hne
      go_enter Try.func49, Try.ntmps49
      go_wp2
      go_ret
      exact ⟨by rw [HN.out]; rfl, Below.refl _ _⟩
    · have HN : Hid (ord x y = 1) := ord_gt (len_lt_ord (B := 10000) (by omega) (by omega))
      clear hne
      go_enter Try.func49, Try.ntmps49
      go_wp2
      go_ret
      exact ⟨by rw [HN.out]; rfl, Below.refl _ _⟩

/-- What Add's loop keeps behind k rounds. -/
def AD (l m : List Nat) (k c : Nat) (o : List Nat) : Prop := Lt 10000 o ∧ o.length = k ∧ val 10000 o + 10000 ^ k * c = val 10000 (l.take k) + val 10000 (m.take k)
theorem val_take_over {B : Nat} {l : List Nat} {k : Nat} (h : l.length ≤ k) : val B (l.take (k + 1)) = val B (l.take k) := by rw [List.take_of_length_le h, List.take_of_length_le (by omega)]
theorem AD.step {l m o : List Nat} {k c d e : Nat} (h : AD l m k c o) (hd : l[k]? = some d ∨ l.length ≤ k ∧ d = 0) (he : m[k]? = some e ∨ m.length ≤ k ∧ e = 0) :
    AD l m (k + 1) ((c + d + e) / 10000) (o ++ [(c + d + e) % 10000]) := by
  unfold AD at h ⊢
  obtain ⟨h1, h2, h3⟩ := h
  have ed : val 10000 (l.take (k + 1)) = val 10000 (l.take k) + 10000 ^ k * d := by
    rcases hd with hd | ⟨hd, rfl⟩
    · exact val_take_step hd
    · rw [val_take_over hd]; omega
  have ee : val 10000 (m.take (k + 1)) = val 10000 (m.take k) + 10000 ^ k * e := by
    rcases he with he | ⟨he, rfl⟩
    · exact val_take_step he
    · rw [val_take_over he]; omega
  refine ⟨h1.snoc (by omega), by simp [h2], ?_⟩
  rw [val_snoc, h2, ed, ee, Nat.pow_succ, Nat.mul_assoc]
  have e1 : 10000 ^ k * ((c + d + e) % 10000) + 10000 ^ k * (10000 * ((c + d + e) / 10000)) = 10000 ^ k * c + 10000 ^ k * d + 10000 ^ k * e := by
    rw [← Nat.mul_add, ← Nat.mul_add, ← Nat.mul_add]; congr 1; omega
  omega
theorem AD.done {l m o : List Nat} {k c : Nat} (h : AD l m k c o) (hl : l.length ≤ k) (hm : m.length ≤ k) (hc : c < 10000) : Lt 10000 (o ++ [c]) ∧ val 10000 (o ++ [c]) = val 10000 l + val 10000 m := by
  unfold AD at h
  obtain ⟨h1, h2, h3⟩ := h
  rw [List.take_of_length_le hl, List.take_of_length_le hm] at h3
  exact ⟨h1.snoc hc, by rw [val_snoc, h2]; exact h3⟩

end Go.Proofs.Ytcgmbmiingppgaa.nat
