/- The document's own numbers of layer 2: MulAdd, DivSmall, Num, Of, Back, Power, Bits, Zeros. Condition: slices read as digits, numbers are within bounds. -/
import Derived.Test.YtcgmbmiingppgaaTrim
namespace Go.Proofs.Ytcgmbmiingppgaa.nat
open Go.RowKit Go.Proofs.Ytcgmbmiingppgaa.num Go.Proofs.Ytcgmbmiingppgaa.mem
set_option linter.unusedVariables false

theorem refTrim_any (v : Value) (l : List Nat) (w : World) (h : IsS w .i64 v l) (hlt : Lt 10000 l) (hl : l.length ≤ 1000000000000) :
    Calls Try.prog 48 #[v] w (RetS .i64 (digs 10000 (val 10000 l)) w) := by
  rw [← trim_digs (by omega) hlt]; exact refTrim_list v l w h hl

/-- What MulAdd's first loop keeps behind k rounds. -/
def MA (l : List Nat) (m c0 k c : Nat) (o : List Nat) : Prop := Lt 10000 o ∧ o.length = k ∧ val 10000 o + 10000 ^ k * c = val 10000 (l.take k) * m + c0
theorem MA.start (l : List Nat) (m c0 : Nat) : MA l m c0 0 c0 [] := by
  unfold MA; exact ⟨Lt.nil _, rfl, by simp [val]⟩
theorem MA.step {l o : List Nat} {m c0 k c d : Nat} (h : MA l m c0 k c o) (hd : l[k]? = some d) : MA l m c0 (k + 1) ((c + d * m) / 10000) (o ++ [(c + d * m) % 10000]) := by
  unfold MA at h ⊢
  obtain ⟨h1, h2, h3⟩ := h
  refine ⟨h1.snoc (by omega), by simp [h2], ?_⟩
  rw [val_snoc, h2, val_take_step hd, Nat.add_mul, Nat.pow_succ, Nat.mul_assoc (10000 ^ k) d m, Nat.mul_assoc (10000 ^ k) 10000]
  have e : 10000 ^ k * ((c + d * m) % 10000) + 10000 ^ k * (10000 * ((c + d * m) / 10000)) = 10000 ^ k * c + 10000 ^ k * (d * m) := by
    rw [← Nat.mul_add, ← Nat.mul_add]; congr 1; omega
  omega
/-- What its second loop keeps. -/
def MB (T c : Nat) (o : List Nat) : Prop := Lt 10000 o ∧ val 10000 o + 10000 ^ o.length * c = T
theorem MA.done {l o : List Nat} {m c0 c : Nat} (h : MA l m c0 l.length c o) : MB (val 10000 l * m + c0) c o := by
  unfold MA at h; unfold MB
  obtain ⟨h1, h2, h3⟩ := h
  rw [List.take_length] at h3
  exact ⟨h1, by rw [h2]; exact h3⟩
theorem MB.step {T c : Nat} {o : List Nat} (h : MB T c o) : MB T (c / 10000) (o ++ [c % 10000]) := by
  unfold MB at h ⊢
  obtain ⟨h1, h3⟩ := h
  refine ⟨h1.snoc (by omega), ?_⟩
  rw [val_snoc, List.length_append, List.length_singleton, Nat.pow_succ, Nat.mul_assoc, Nat.add_assoc, ← Nat.mul_add, Nat.mod_add_div]
  exact h3
theorem MB.done {T : Nat} {o : List Nat} (h : MB T 0 o) : Lt 10000 o ∧ val 10000 o = T := by
  unfold MB at h; obtain ⟨h1, h3⟩ := h; exact ⟨h1, by simpa using h3⟩

set_option maxHeartbeats 800000 in
theorem mulAdd_list (v : Value) (l : List Nat) (mI cI : Int) (m c : Nat) (w : World) (hm : mI = (m : Int)) (hc : cI = (c : Int)) (h : IsS w .i64 v l) (hlt : Lt 10000 l) (hl : l.length ≤ 1000000) (m1 : m ≤ 4294967296) (c1 : c ≤ 4294967296) :
    Calls Try.prog 50 #[v, .int .i64 mI, .int .i64 cI] w (RetS .i64 (digs 10000 (val 10000 l * m + c)) w) := by
  subst hm; subst hc
  obtain ⟨A, cap, rfl, hcap, hcm, hr⟩ := h
  go_enter Try.func50, Try.ntmps50
  go_wp2
  go_loopw [2, 7, 8] (fun vc vo vi wr => ∃ (k c' : Nat) (o : List Nat), k ≤ l.length ∧ c' ≤ 4294967296 ∧ MA l m c k c' o ∧ Own wr w.heap.size 3 .i64 vo o ∧ o.length ≤ k ∧ Below w.heap.size w wr ∧ vc = .int .i64 (c' : Int) ∧ vi = .int .i64 (k : Int)) (fun _ _ vi _ => l.length - (intOf vi).toNat)
  case atStart => exact ⟨0, c, [], by omega, c1, MA.start l m c, own_lit0 w _ _ .i64 (Nat.le_refl _), by simp, below_alloc (Nat.le_refl _) _, rfl, rfl⟩
  case round =>
    obtain ⟨k, c', o, hk, hc', hM, hown, hok, hb, rfl, rfl⟩ := hrel
    by_cases hlt2 : k < l.length
    · obtain ⟨ad, d, rfl, hd, hcell⟩ := (hr.below hb).at_ hlt2
      have hd1 := hlt.at hd
      have hp : d * m ≤ 9999 * 4294967296 := Nat.mul_le_mul (by omega) m1
      have HM := Lib.hid (hM.step hd)
      clear hd hM
      have hsz := hb.size
      go_wp2_with (at_builtin; refine wpList_append_one rfl (.tmp 24) (.tmp 27) rfl sl33 ((c' + d * m) % 10000) rfl hown rfl (by omega) (by omega) (by omega) ?_; intro v' w1 hown1 hb1 hg1)
      go_roundw
      case rel => exact ⟨k + 1, _, _, by omega, by omega, HM.out, hown1, by simp; omega, hb.trans hb1, int_eq (by omega), by go_num⟩
      case measure => simp [intOf]; omega
    · obtain rfl : k = l.length := by omega
      have HM := hM.done
      clear hM
      go_wp2
      go_loopw [2, 7] (fun vc vo wr => ∃ (c' : Nat) (o : List Nat), c' ≤ 4294967296 ∧ MB (val 10000 l * m + c) c' o ∧ Own wr w.heap.size 3 .i64 vo o ∧ o.length + c' ≤ l.length + 4294967296 ∧ Below w.heap.size w wr ∧ vc = .int .i64 (c' : Int)) (fun vc _ _ => (intOf vc).toNat)
      case atStart => exact ⟨c', o, hc', HM, hown, by omega, hb, rfl⟩
      case round =>
        clear hown hb hok hlt2 HM hc'
        obtain ⟨c2, o2, hc', hM, hown, hok, hb, rfl⟩ := hrel
        have hsz := hb.size
        by_cases hp : 0 < c2
        · have HM := Lib.hid hM.step
          clear hM
          go_wp2_with (at_builtin; refine wpList_append_one rfl (.tmp 33) (.tmp 36) rfl sl33 (c2 % 10000) rfl hown rfl (by omega) (by omega) (by omega) ?_; intro v' w1 hown1 hb1 hg1)
          go_roundw
          case rel => exact ⟨_, _, by omega, HM.out, hown1, by simp; omega, hb.trans hb1, int_eq (by omega)⟩
          case measure => simp [intOf]; omega
        · obtain rfl : c2 = 0 := by omega
          obtain ⟨h1, h2⟩ := hM.done
          have HV := Lib.hid h2
          clear h2 hM
          go_wp2_with fail
          refine (refTrim_any _ _ _ hown.isS h1 (by omega)).mono ?_
          rintro e w' ⟨v', rfl, hv, hf, hb2⟩
          go_wp2
          go_ret
          exact ⟨_, rfl, by rw [HV.out] at hv; exact hv, hf.mono hsz, hb.trans (hb2.mono hsz)⟩
end Go.Proofs.Ytcgmbmiingppgaa.nat
