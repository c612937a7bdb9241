/- The document's own numbers of layer 2: DivSmall. Condition: the slice reads as digits, the divisor is from 1 to 2 to the 32. -/
import Derived.Test.YtcgmbmiingppgaaRefA
namespace Go.Proofs.Ytcgmbmiingppgaa.nat
open Go.RowKit Go.Proofs.Ytcgmbmiingppgaa.num Go.Proofs.Ytcgmbmiingppgaa.mem
set_option linter.unusedVariables false

/-- What DivSmall's loop keeps while k digits are still to come. -/
def DS (l : List Nat) (d k r : Nat) (o : List Nat) : Prop := Lt 10000 o ∧ o.length = l.length ∧ val 10000 (o.drop k) * d + r = val 10000 (l.drop k) ∧ r < d
theorem DS.start (l : List Nat) {d : Nat} (hd : 1 ≤ d) : DS l d l.length 0 (List.replicate l.length 0) := by
  unfold DS; exact ⟨Lt.rep (by omega) _, by simp, by simp [val], by omega⟩
theorem DS.digit {l o : List Nat} {d j r a : Nat} (h : DS l d (j + 1) r o) (ha : a < 10000) : (10000 * r + a) / d < 10000 ∧ (10000 * r + a) % d < d := by
  unfold DS at h
  exact ⟨Nat.div_lt_of_lt_mul (by omega), Nat.mod_lt _ (by omega)⟩
theorem DS.step {l o : List Nat} {d j r a : Nat} (h : DS l d (j + 1) r o) (hl : l[j]? = some a) (ha : a < 10000) : DS l d j ((10000 * r + a) % d) (o.set j ((10000 * r + a) / d)) := by
  have hq := h.digit ha
  unfold DS at h ⊢
  obtain ⟨h1, h2, h3, h4⟩ := h
  have hj : j < l.length := (List.getElem?_eq_some_iff.1 hl).1
  refine ⟨h1.set hq.1 j, by simpa using h2, ?_, hq.2⟩
  rw [set_drop (by omega), val_cons, val_drop_step hl, ← h3, Nat.add_mul, Nat.mul_assoc]
  have e := Nat.mod_add_div (10000 * r + a) d
  rw [Nat.mul_comm d] at e
  omega
theorem DS.done {l o : List Nat} {d r : Nat} (h : DS l d 0 r o) : Lt 10000 o ∧ o.length = l.length ∧ val 10000 o = val 10000 l / d ∧ r = val 10000 l % d := by
  unfold DS at h
  obtain ⟨h1, h2, h3, h4⟩ := h
  simp only [List.drop_zero] at h3
  refine ⟨h1, h2, ?_, ?_⟩
  · rw [← h3, Nat.mul_comm, Nat.mul_add_div (by omega), Nat.div_eq_of_lt h4, Nat.add_zero]
  · rw [← h3, Nat.mul_comm, Nat.mul_add_mod, Nat.mod_eq_of_lt h4]

set_option maxHeartbeats 800000 in
theorem divSmall_list (v : Value) (l : List Nat) (dI : Int) (d : Nat) (w : World) (hd : dI = (d : Int)) (h : IsS w .i64 v l) (hlt : Lt 10000 l) (hl : l.length ≤ 1000000) (d0 : 1 ≤ d) (d1 : d ≤ 4294967296) :
    Calls Try.prog 36 #[v, .int .i64 dI] w (RetSI .i64 (digs 10000 (val 10000 l / d)) ((val 10000 l % d : Nat) : Int) w) := by
  subst hd
  obtain ⟨A, cap, rfl, hcap, hcm, hr⟩ := h
  go_enter Try.func36, Try.ntmps36
  go_wp2_with (at_make; refine wpList_make_rd rfl (.tmp 10) (.tmp 10) rfl sl33 l.length rfl rfl rfl rfl (by omega) (Nat.le_refl _) ?_; intro w1 hown1 hb1 hz1)
  go_loopw [7, 8] (fun vr vi wr => ∃ (k r : Nat) (o : List Nat), k ≤ l.length ∧ r ≤ 4294967295 ∧ DS l d k r o ∧ Own wr w.heap.size 3 .i64 (.slice (some ⟨w.heap.size, 0, none⟩) l.length l.length) o ∧ Below w.heap.size w wr ∧ vr = .int .i64 (r : Int) ∧ vi = .int .i64 ((k : Int) - 1)) (fun _ vi _ => (intOf vi + 1).toNat)
  case atStart => exact ⟨l.length, 0, _, by omega, by omega, DS.start l d0, hown1, hb1, rfl, rfl⟩
  case round =>
    clear hown1 hb1
    obtain ⟨k, r, o, hk, hr1, hD, hown, hb, rfl, rfl⟩ := hrel
    by_cases hp : 0 < k
    · obtain ⟨j, rfl⟩ : ∃ j, k = j + 1 := ⟨k - 1, by omega⟩
      obtain ⟨ad, a, rfl, ha, hcell⟩ := (hr.below hb).at_ (i := j) (by omega)
      have ha1 := hlt.at ha
      have hS := hD.step ha ha1
      obtain ⟨q1, q2⟩ := hD.digit ha1
      have HS := Lib.hid hS
      have hlen : j < o.length := by have := hD.2.1; omega
      obtain ⟨a', ha'⟩ : ∃ a', o[j]? = some a' := ⟨_, List.getElem?_eq_getElem hlen⟩
      have hc' := hown.cellAt ha'
      have hf' := hown.frozenAt j
      clear ha ha' hS hD
      have eq := ediv_cast (x := 10000 * (r : Int) + (a : Int)) (n := 10000 * r + a) (d := d) (by omega)
      have er := emod_cast (x := 10000 * (r : Int) + (a : Int)) (n := 10000 * r + a) (d := d) (by omega)
      have EQ := Lib.hid eq
      have ER := Lib.hid er
      clear eq er
      go_wp2
      go_roundw
      case rel => exact ⟨j, (10000 * r + a) % d, o.set j ((10000 * r + a) / d), by omega, by omega, HS.out, hown.stored' j _ EQ.out, hb.setCell (Nat.le_refl _) _, int_eq ER.out, by go_num⟩
      case measure => simp [intOf]
    · obtain rfl : k = 0 := by omega
      obtain ⟨h1, h2, h3, h4⟩ := hD.done
      have H2 := Lib.hid h2
      have H3 := Lib.hid h3
      have H4 := Lib.hid h4
      clear h2 h3 h4 hD
      have hsz := hb.size
      go_wp2_with fail
      refine (refTrim_any _ _ _ hown.isS h1 (by have := H2.out; omega)).mono ?_
      rintro e w' ⟨v', rfl, hv, hf, hb2⟩
      go_wp2
      go_ret2
      rw [H4.out]
      exact ⟨_, rfl, by rw [H3.out] at hv; exact hv, hf.mono hsz, hb.trans (hb2.mono hsz)⟩

/-! ### The same, of numbers -/
theorem mulAdd_any (v : Value) (x : Nat) (mI cI : Int) (m c : Nat) (w : World) (hm : mI = (m : Int)) (hc : cI = (c : Int)) (h : IsS w .i64 v (digs 10000 x)) (hl : (digs 10000 x).length ≤ 1000000) (m1 : m ≤ 4294967296) (c1 : c ≤ 4294967296) (y : Nat) (hy : y = x * m + c) :
    Calls Try.prog 50 #[v, .int .i64 mI, .int .i64 cI] w (RetS .i64 (digs 10000 y) w) := by
  have := mulAdd_list v _ mI cI m c w hm hc h (digs_lt (by omega) x) hl m1 c1
  rw [val_digs (by omega)] at this
  rw [hy]; exact this
theorem divSmall_any (v : Value) (x : Nat) (dI : Int) (d q r : Nat) (w : World) (hd : dI = (d : Int)) (h : IsS w .i64 v (digs 10000 x)) (hl : (digs 10000 x).length ≤ 1000000) (d0 : 1 ≤ d) (d1 : d ≤ 4294967296) (hq : q = x / d) (hr : r = x % d) :
    Calls Try.prog 36 #[v, .int .i64 dI] w (RetSI .i64 (digs 10000 q) (r : Int) w) := by
  have := divSmall_list v _ dI d w hd h (digs_lt (by omega) x) hl d0 d1
  rw [val_digs (by omega)] at this
  rw [hq, hr]; exact this
end Go.Proofs.Ytcgmbmiingppgaa.nat
