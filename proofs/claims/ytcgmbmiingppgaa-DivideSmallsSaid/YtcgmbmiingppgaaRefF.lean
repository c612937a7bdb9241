/- The document's own Sub and Mul of layer 2. Condition: slices read as digits; what is taken off is not greater. -/
import Derived.Test.YtcgmbmiingppgaaRefE
namespace Go.Proofs.Ytcgmbmiingppgaa.nat
open Go.RowKit Go.Proofs.Ytcgmbmiingppgaa.num Go.Proofs.Ytcgmbmiingppgaa.mem
set_option linter.unusedVariables false

/-- What Sub's loop keeps behind k rounds, by base B. -/
def SB (B : Nat) (l m : List Nat) (k c : Nat) (o : List Nat) : Prop := Lt B o ∧ o.length = k ∧ val B o + val B (m.take k) = val B (l.take k) + B ^ k * c
theorem SB.start (B : Nat) (l m : List Nat) : SB B l m 0 0 [] := by unfold SB; exact ⟨Lt.nil _, rfl, by simp [val]⟩
theorem SB.step {B : Nat} {l m o : List Nat} {k c d e x c' : Nat} (h : SB B l m k c o) (hd : l[k]? = some d) (he : m[k]? = some e ∨ m.length ≤ k ∧ e = 0) (hx : x < B) (hs : x + e + c = d + B * c') : SB B l m (k + 1) c' (o ++ [x]) := by
  unfold SB at h ⊢
  obtain ⟨h1, h2, h3⟩ := h
  have ee : val B (m.take (k + 1)) = val B (m.take k) + B ^ k * e := by
    rcases he with he | ⟨he, rfl⟩
    · exact val_take_step he
    · rw [val_take_over he]; omega
  refine ⟨h1.snoc hx, by simp [h2], ?_⟩
  rw [val_snoc, h2, val_take_step hd, ee, Nat.pow_succ, Nat.mul_assoc]
  have e1 : B ^ k * x + B ^ k * e + B ^ k * c = B ^ k * d + B ^ k * (B * c') := by
    rw [← Nat.mul_add, ← Nat.mul_add, ← Nat.mul_add, hs]
  omega
theorem SB.done {B : Nat} {l m o : List Nat} {c : Nat} (h : SB B l m l.length c o) (hm : m.length ≤ l.length) (hle : val B m ≤ val B l) : Lt B o ∧ val B o = val B l - val B m := by
  unfold SB at h
  obtain ⟨h1, h2, h3⟩ := h
  rw [List.take_length, List.take_of_length_le hm] at h3
  have h4 := val_lt h1
  rw [h2] at h4
  have hc : c = 0 := by
    rcases Nat.eq_zero_or_pos c with h5 | h5
    · exact h5
    · have := Nat.mul_le_mul_left (B ^ l.length) h5
      omega
  subst hc
  exact ⟨h1, by omega⟩

set_option maxHeartbeats 1600000 in
theorem refSub_list (v u : Value) (l m : List Nat) (w : World) (h : IsS w .i64 v l) (h' : IsS w .i64 u m) (lt1 : Lt 10000 l) (lt2 : Lt 10000 m) (hl : l.length ≤ 1000000) (hml : m.length ≤ l.length) (hle : val 10000 m ≤ val 10000 l) :
    Calls Try.prog 51 #[v, u] w (RetS .i64 (digs 10000 (val 10000 l - val 10000 m)) w) := by
  obtain ⟨A, c, rfl, hc, hm, hr⟩ := h
  obtain ⟨A', c', rfl, hc', hmm, hr'⟩ := h'
  have HLE := Lib.hid hle
  clear hle
  go_enter Try.func51, Try.ntmps51
  go_wp2
  go_loopw [5, 6, 7] (fun vo vc vi wr => ∃ (k cy : Nat) (o : List Nat), k ≤ l.length ∧ cy ≤ 1 ∧ SB 10000 l m k cy o ∧ Own wr w.heap.size 3 .i64 vo o ∧ o.length ≤ k ∧ Below w.heap.size w wr ∧ vc = .int .i64 (cy : Int) ∧ vi = .int .i64 (k : Int)) (fun _ _ vi _ => l.length - (intOf vi).toNat)
  case atStart => exact ⟨0, 0, [], by omega, by omega, SB.start _ _ _, own_lit0 w _ _ .i64 (Nat.le_refl _), by simp, below_alloc (Nat.le_refl _) _, rfl, rfl⟩
  case round =>
    obtain ⟨k, cy, o, hk, hcy, hA, hown, hok, hb, rfl, rfl⟩ := hrel
    have hsz := hb.size
    by_cases h1 : k < l.length
    · obtain ⟨ad, d, rfl, hd, hcell⟩ := (hr.below hb).at_ h1
      have hd1 := lt1.at hd
      by_cases h2 : k < m.length
      · obtain ⟨ad', e, rfl, he, hcell'⟩ := (hr'.below hb).at_ h2
        have he1 := lt2.at he
        by_cases hn : d < e + cy
        · have HS := Lib.hid (hA.step hd (.inl he) (x := d + 10000 - e - cy) (c' := 1) (by omega) (by omega))
          clear hd he hA
          go_wp2_with (at_builtin; refine wpList_append_one rfl _ _ rfl sl33 (d + 10000 - e - cy) rfl hown rfl (by omega) (by omega) (by omega) ?_; intro v' w1 hown1 hb1 hg1)
          go_roundw
          case rel => exact ⟨k + 1, 1, _, by omega, by omega, HS.out, hown1, by simp; omega, hb.trans hb1, rfl, by go_num⟩
          case measure => simp [intOf]; omega
        · have HS := Lib.hid (hA.step hd (.inl he) (x := d - e - cy) (c' := 0) (by omega) (by omega))
          clear hd he hA
          go_wp2_with (at_builtin; refine wpList_append_one rfl _ _ rfl sl33 (d - e - cy) rfl hown rfl (by omega) (by omega) (by omega) ?_; intro v' w1 hown1 hb1 hg1)
          go_roundw
          case rel => exact ⟨k + 1, 0, _, by omega, by omega, HS.out, hown1, by simp; omega, hb.trans hb1, rfl, by go_num⟩
          case measure => simp [intOf]; omega
      · by_cases hn : d < cy
        · have HS := Lib.hid (hA.step hd (e := 0) (.inr ⟨by omega, rfl⟩) (x := d + 10000 - cy) (c' := 1) (by omega) (by omega))
          clear hd hA
          go_wp2_with (at_builtin; refine wpList_append_one rfl _ _ rfl sl33 (d + 10000 - cy) rfl hown rfl (by omega) (by omega) (by omega) ?_; intro v' w1 hown1 hb1 hg1)
          go_roundw
          case rel => exact ⟨k + 1, 1, _, by omega, by omega, HS.out, hown1, by simp; omega, hb.trans hb1, rfl, by go_num⟩
          case measure => simp [intOf]; omega
        · have HS := Lib.hid (hA.step hd (e := 0) (.inr ⟨by omega, rfl⟩) (x := d - cy) (c' := 0) (by omega) (by omega))
          clear hd hA
          go_wp2_with (at_builtin; refine wpList_append_one rfl _ _ rfl sl33 (d - cy) rfl hown rfl (by omega) (by omega) (by omega) ?_; intro v' w1 hown1 hb1 hg1)
          go_roundw
          case rel => exact ⟨k + 1, 0, _, by omega, by omega, HS.out, hown1, by simp; omega, hb.trans hb1, rfl, by go_num⟩
          case measure => simp [intOf]; omega
    · obtain rfl : k = l.length := by omega
      obtain ⟨g1, g2⟩ := hA.done hml HLE.out
      have HV := Lib.hid g2
      clear g2 hA
      go_wp2_with fail
      refine (refTrim_any _ _ _ hown.isS g1 (by omega)).mono ?_
      rintro e w' ⟨v2, rfl, hv, hf, hb2⟩
      go_wp2
      go_ret
      exact ⟨_, rfl, by rw [HV.out] at hv; exact hv, hf.mono hsz, hb.trans (hb2.mono hsz)⟩
theorem refSub_any (v u : Value) (x y : Nat) (w : World) (h : IsS w .i64 v (digs 10000 x)) (h' : IsS w .i64 u (digs 10000 y)) (hl : (digs 10000 x).length ≤ 1000000) (hle : y ≤ x) (z : Nat) (hz : z = x - y) :
    Calls Try.prog 51 #[v, u] w (RetS .i64 (digs 10000 z) w) := by
  have := refSub_list v u _ _ w h h' (digs_lt (by omega) x) (digs_lt (by omega) y) hl (digs_len_mono (by omega) hle) (by rw [val_digs (by omega), val_digs (by omega)]; exact hle)
  rw [val_digs (by omega), val_digs (by omega)] at this
  rw [hz]; exact this
end Go.Proofs.Ytcgmbmiingppgaa.nat
