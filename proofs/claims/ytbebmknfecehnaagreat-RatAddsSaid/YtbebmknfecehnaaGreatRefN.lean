/- The document's own numbers of layer 2: MulAdd, DivSmall, Num, Of, Back, Power, Bits, Zeros. Condition: slices read as digits, numbers are within bounds.
The document's own numbers of layer 2: DivSmall. Condition: the slice reads as digits, the divisor is from 1 to 2 to the 32.
The document's own numbers of layer 2: Num, Of, Back, Power, Bits, Zeros. Condition: slices read as digits, numbers are within bounds.
The document's own May, Clean, Same, Cmp of layer 2. Condition: slices read as numbers.
The document's own Same, Cmp, Add, Sub of layer 2. Condition: slices read as numbers.
The document's own Sub and Mul of layer 2. Condition: slices read as digits; what is taken off is not greater.
The document's own Mul of layer 2. Condition: slices read as digits.
The document's own Div of layer 2. Condition: slices read as digits; the divisor is not 0. -/
import Derived.Test.YtbebmknfecehnaaGreatWords
import Derived.IntWalk
namespace Go.Proofs.YtbebmknfecehnaaGreat.nat
open Go.RowKit Go.Proofs.YtbebmknfecehnaaGreat.num Go.Proofs.YtbebmknfecehnaaGreat.mem
set_option linter.unusedVariables false

theorem refTrim_any (v : Value) (l : List Nat) (w : World) (h : IsS w .i64 v l) (hlt : Lt 10000 l) (hl : l.length ≤ 1000000000000) :
    Calls Tryz.prog 81 #[v] w (RetS .i64 (digs 10000 (val 10000 l)) w) := by
  rw [← trim_digs (by omega) hlt]; exact refTrim_list v l w h hl

/-- What MulAdd's first loop keeps behind k rounds. -/
def MA (l : List Nat) (m c0 k c : Nat) (o : List Nat) : Prop := Lt 10000 o ∧ o.length = k ∧ val 10000 o + 10000 ^ k * c = val 10000 (l.take k) * m + c0
theorem MA.start (l : List Nat) (m c0 : Nat) : MA l m c0 0 c0 [] := by
  unfold MA; exact ⟨Lt.nil _, rfl, by simp [val]⟩
theorem MA.step {l o : List Nat} {m c0 k c d : Nat} (h : MA l m c0 k c o) (hd : l[k]? = some d) : MA l m c0 (k + 1) ((c + d * m) / 10000) (o ++ [(c + d * m) % 10000]) := by
  unfold MA at h ⊢
  obtain ⟨h1, h2, h3⟩ := h
  refine ⟨h1.snoc (by omega), by simp [h2], ?_⟩
  rw [val_snoc, h2, val_take_step hd, Nat.add_mul, Nat.pow_succ, Nat.mul_assoc (10000 ^ k) d m, Nat.mul_assoc (10000 ^ k) 10000]
  have e : 10000 ^ k * ((c + d * m) % 10000) + 10000 ^ k * (10000 * ((c + d * m) / 10000)) = 10000 ^ k * c + 10000 ^ k * (d * m) := by
    rw [← Nat.mul_add, ← Nat.mul_add]; congr 1; omega
  omega
/-- What its second loop keeps. -/
def MB (T c : Nat) (o : List Nat) : Prop := Lt 10000 o ∧ val 10000 o + 10000 ^ o.length * c = T
theorem MA.done {l o : List Nat} {m c0 c : Nat} (h : MA l m c0 l.length c o) : MB (val 10000 l * m + c0) c o := by
  unfold MA at h; unfold MB
  obtain ⟨h1, h2, h3⟩ := h
  rw [List.take_length] at h3
  exact ⟨h1, by rw [h2]; exact h3⟩
theorem MB.step {T c : Nat} {o : List Nat} (h : MB T c o) : MB T (c / 10000) (o ++ [c % 10000]) := by
  unfold MB at h ⊢
  obtain ⟨h1, h3⟩ := h
  refine ⟨h1.snoc (by omega), ?_⟩
  rw [val_snoc, List.length_append, List.length_singleton, Nat.pow_succ, Nat.mul_assoc, Nat.add_assoc, ← Nat.mul_add, Nat.mod_add_div]
  exact h3
theorem MB.done {T : Nat} {o : List Nat} (h : MB T 0 o) : Lt 10000 o ∧ val 10000 o = T := by
  unfold MB at h; obtain ⟨h1, h3⟩ := h; exact ⟨h1, by simpa using h3⟩

set_option maxHeartbeats 800000 in
theorem mulAdd_list (v : Value) (l : List Nat) (mI cI : Int) (m c : Nat) (w : World) (hm : mI = (m : Int)) (hc : cI = (c : Int)) (h : IsS w .i64 v l) (hlt : Lt 10000 l) (hl : l.length ≤ 1000000) (m1 : m ≤ 4294967296) (c1 : c ≤ 4294967296) :
    Calls Tryz.prog 67 #[v, .int .i64 mI, .int .i64 cI] w (RetS .i64 (digs 10000 (val 10000 l * m + c)) w) := by
  subst hm; subst hc
  obtain ⟨A, cap, rfl, hcap, hcm, hr⟩ := h
  go_enter Tryz.func67, Tryz.ntmps67
  go_wp2
  go_loopw [2, 7, 8] (fun vc vo vi wr => ∃ (k c' : Nat) (o : List Nat), k ≤ l.length ∧ c' ≤ 4294967296 ∧ MA l m c k c' o ∧ Own wr w.heap.size 3 .i64 vo o ∧ o.length ≤ k ∧ Below w.heap.size w wr ∧ vc = .int .i64 (c' : Int) ∧ vi = .int .i64 (k : Int)) (fun _ _ vi _ => l.length - (intOf vi).toNat)
  case atStart => exact ⟨0, c, [], by omega, c1, MA.start l m c, own_lit0 w _ _ .i64 (Nat.le_refl _), by simp, below_alloc (Nat.le_refl _) _, rfl, rfl⟩
  case round =>
    obtain ⟨k, c', o, hk, hc', hM, hown, hok, hb, rfl, rfl⟩ := hrel
    by_cases hlt2 : k < l.length
    · obtain ⟨ad, d, rfl, hd, hcell⟩ := (hr.below hb).at_ hlt2
      have hd1 := hlt.at hd
      have hp : d * m ≤ 9999 * 4294967296 := Nat.mul_le_mul (by omega) m1
      have HM := Lib.hid (hM.step hd)
      clear hd hM
      have hsz := hb.size
      go_wp2_with (at_builtin; refine wpList_append_one rfl (.tmp 24) (.tmp 27) rfl sl33 ((c' + d * m) % 10000) rfl hown rfl (by omega) (by omega) (by omega) ?_; intro v' w1 hown1 hb1 hg1)
      go_roundw
      case rel => exact ⟨k + 1, _, _, by omega, by omega, HM.out, hown1, by simp; omega, hb.trans hb1, int_eq (by omega), by go_num⟩
      case measure => simp [intOf]; omega
    · obtain rfl : k = l.length := by omega
      have HM := hM.done
      clear hM
      go_wp2
      go_loopw [2, 7] (fun vc vo wr => ∃ (c' : Nat) (o : List Nat), c' ≤ 4294967296 ∧ MB (val 10000 l * m + c) c' o ∧ Own wr w.heap.size 3 .i64 vo o ∧ o.length + c' ≤ l.length + 4294967296 ∧ Below w.heap.size w wr ∧ vc = .int .i64 (c' : Int)) (fun vc _ _ => (intOf vc).toNat)
      case atStart => exact ⟨c', o, hc', HM, hown, by omega, hb, rfl⟩
      case round =>
        clear hown hb hok hlt2 HM hc'
        obtain ⟨c2, o2, hc', hM, hown, hok, hb, rfl⟩ := hrel
        have hsz := hb.size
        by_cases hp : 0 < c2
        · have HM := Lib.hid hM.step
          clear hM
          go_wp2_with (at_builtin; refine wpList_append_one rfl (.tmp 33) (.tmp 36) rfl sl33 (c2 % 10000) rfl hown rfl (by omega) (by omega) (by omega) ?_; intro v' w1 hown1 hb1 hg1)
          go_roundw
          case rel => exact ⟨_, _, by omega, HM.out, hown1, by simp; omega, hb.trans hb1, int_eq (by omega)⟩
          case measure => simp [intOf]; omega
        · obtain rfl : c2 = 0 := by omega
          obtain ⟨h1, h2⟩ := hM.done
          have HV := Lib.hid h2
          clear h2 hM
          go_wp2_with fail
          refine (refTrim_any _ _ _ hown.isS h1 (by omega)).mono ?_
          rintro e w' ⟨v', rfl, hv, hf, hb2⟩
          go_wp2
          go_ret
          exact ⟨_, rfl, by rw [HV.out] at hv; exact hv, hf.mono hsz, hb.trans (hb2.mono hsz)⟩
end Go.Proofs.YtbebmknfecehnaaGreat.nat
namespace Go.Proofs.YtbebmknfecehnaaGreat.nat
open Go.RowKit Go.Proofs.YtbebmknfecehnaaGreat.num Go.Proofs.YtbebmknfecehnaaGreat.mem
set_option linter.unusedVariables false

/-- What DivSmall's loop keeps while k digits are still to come. -/
def DS (l : List Nat) (d k r : Nat) (o : List Nat) : Prop := Lt 10000 o ∧ o.length = l.length ∧ val 10000 (o.drop k) * d + r = val 10000 (l.drop k) ∧ r < d
theorem DS.start (l : List Nat) {d : Nat} (hd : 1 ≤ d) : DS l d l.length 0 (List.replicate l.length 0) := by
  unfold DS; exact ⟨Lt.rep (by omega) _, by simp, by simp [val], by omega⟩
theorem DS.digit {l o : List Nat} {d j r a : Nat} (h : DS l d (j + 1) r o) (ha : a < 10000) : (10000 * r + a) / d < 10000 ∧ (10000 * r + a) % d < d := by
  unfold DS at h
  exact ⟨Nat.div_lt_of_lt_mul (by omega), Nat.mod_lt _ (by omega)⟩
theorem DS.step {l o : List Nat} {d j r a : Nat} (h : DS l d (j + 1) r o) (hl : l[j]? = some a) (ha : a < 10000) : DS l d j ((10000 * r + a) % d) (o.set j ((10000 * r + a) / d)) := by
  have hq := h.digit ha
  unfold DS at h ⊢
  obtain ⟨h1, h2, h3, h4⟩ := h
  have hj : j < l.length := (List.getElem?_eq_some_iff.1 hl).1
  refine ⟨h1.set hq.1 j, by simpa using h2, ?_, hq.2⟩
  rw [set_drop (by omega), val_cons, val_drop_step hl, ← h3, Nat.add_mul, Nat.mul_assoc]
  have e := Nat.mod_add_div (10000 * r + a) d
  rw [Nat.mul_comm d] at e
  omega
theorem DS.done {l o : List Nat} {d r : Nat} (h : DS l d 0 r o) : Lt 10000 o ∧ o.length = l.length ∧ val 10000 o = val 10000 l / d ∧ r = val 10000 l % d := by
  unfold DS at h
  obtain ⟨h1, h2, h3, h4⟩ := h
  simp only [List.drop_zero] at h3
  refine ⟨h1, h2, ?_, ?_⟩
  · rw [← h3, Nat.mul_comm, Nat.mul_add_div (by omega), Nat.div_eq_of_lt h4, Nat.add_zero]
  · rw [← h3, Nat.mul_comm, Nat.mul_add_mod, Nat.mod_eq_of_lt h4]

set_option maxHeartbeats 800000 in
theorem divSmall_list (v : Value) (l : List Nat) (dI : Int) (d : Nat) (w : World) (hd : dI = (d : Int)) (h : IsS w .i64 v l) (hlt : Lt 10000 l) (hl : l.length ≤ 1000000) (d0 : 1 ≤ d) (d1 : d ≤ 4294967296) :
    Calls Tryz.prog 77 #[v, .int .i64 dI] w (RetSI .i64 (digs 10000 (val 10000 l / d)) ((val 10000 l % d : Nat) : Int) w) := by
  subst hd
  obtain ⟨A, cap, rfl, hcap, hcm, hr⟩ := h
  go_enter Tryz.func77, Tryz.ntmps77
  go_wp2_with (at_make; refine wpList_make_rd rfl (.tmp 10) (.tmp 10) rfl sl33 l.length rfl rfl rfl rfl (by omega) (Nat.le_refl _) ?_; intro w1 hown1 hb1 hz1)
  go_loopw [7, 8] (fun vr vi wr => ∃ (k r : Nat) (o : List Nat), k ≤ l.length ∧ r ≤ 4294967295 ∧ DS l d k r o ∧ Own wr w.heap.size 3 .i64 (.slice (some ⟨w.heap.size, 0, none⟩) l.length l.length) o ∧ Below w.heap.size w wr ∧ vr = .int .i64 (r : Int) ∧ vi = .int .i64 ((k : Int) - 1)) (fun _ vi _ => (intOf vi + 1).toNat)
  case atStart => exact ⟨l.length, 0, _, by omega, by omega, DS.start l d0, hown1, hb1, rfl, rfl⟩
  case round =>
    clear hown1 hb1
    obtain ⟨k, r, o, hk, hr1, hD, hown, hb, rfl, rfl⟩ := hrel
    by_cases hp : 0 < k
    · obtain ⟨j, rfl⟩ : ∃ j, k = j + 1 := ⟨k - 1, by omega⟩
      obtain ⟨ad, a, rfl, ha, hcell⟩ := (hr.below hb).at_ (i := j) (by omega)
      have ha1 := hlt.at ha
      have hS := hD.step ha ha1
      obtain ⟨q1, q2⟩ := hD.digit ha1
      have HS := Lib.hid hS
      have hlen : j < o.length := by have := hD.2.1; omega
      obtain ⟨a', ha'⟩ : ∃ a', o[j]? = some a' := ⟨_, List.getElem?_eq_getElem hlen⟩
      have hc' := hown.cellAt ha'
      have hf' := hown.frozenAt j
      clear ha ha' hS hD
      have eq := ediv_cast (x := 10000 * (r : Int) + (a : Int)) (n := 10000 * r + a) (d := d) (by omega)
      have er := emod_cast (x := 10000 * (r : Int) + (a : Int)) (n := 10000 * r + a) (d := d) (by omega)
      have EQ := Lib.hid eq
      have ER := Lib.hid er
      clear eq er
      go_wp2
      go_roundw
      case rel => exact ⟨j, (10000 * r + a) % d, o.set j ((10000 * r + a) / d), by omega, by omega, HS.out, hown.stored' j _ EQ.out, hb.setCell (Nat.le_refl _) _, int_eq ER.out, by go_num⟩
      case measure => simp [intOf]
    · obtain rfl : k = 0 := by omega
      obtain ⟨h1, h2, h3, h4⟩ := hD.done
      have H2 := Lib.hid h2
      have H3 := Lib.hid h3
      have H4 := Lib.hid h4
      clear h2 h3 h4 hD
      have hsz := hb.size
      go_wp2_with fail
      refine (refTrim_any _ _ _ hown.isS h1 (by have := H2.out; omega)).mono ?_
      rintro e w' ⟨v', rfl, hv, hf, hb2⟩
      go_wp2
      go_ret2
      rw [H4.out]
      exact ⟨_, rfl, by rw [H3.out] at hv; exact hv, hf.mono hsz, hb.trans (hb2.mono hsz)⟩

/-! ### The same, of numbers -/
theorem mulAdd_any (v : Value) (x : Nat) (mI cI : Int) (m c : Nat) (w : World) (hm : mI = (m : Int)) (hc : cI = (c : Int)) (h : IsS w .i64 v (digs 10000 x)) (hl : (digs 10000 x).length ≤ 1000000) (m1 : m ≤ 4294967296) (c1 : c ≤ 4294967296) (y : Nat) (hy : y = x * m + c) :
    Calls Tryz.prog 67 #[v, .int .i64 mI, .int .i64 cI] w (RetS .i64 (digs 10000 y) w) := by
  have := mulAdd_list v _ mI cI m c w hm hc h (digs_lt (by omega) x) hl m1 c1
  rw [val_digs (by omega)] at this
  rw [hy]; exact this
theorem divSmall_any (v : Value) (x : Nat) (dI : Int) (d q r : Nat) (w : World) (hd : dI = (d : Int)) (h : IsS w .i64 v (digs 10000 x)) (hl : (digs 10000 x).length ≤ 1000000) (d0 : 1 ≤ d) (d1 : d ≤ 4294967296) (hq : q = x / d) (hr : r = x % d) :
    Calls Tryz.prog 77 #[v, .int .i64 dI] w (RetSI .i64 (digs 10000 q) (r : Int) w) := by
  have := divSmall_list v _ dI d w hd h (digs_lt (by omega) x) hl d0 d1
  rw [val_digs (by omega)] at this
  rw [hq, hr]; exact this
end Go.Proofs.YtbebmknfecehnaaGreat.nat
namespace Go.Proofs.YtbebmknfecehnaaGreat.nat
open Go.RowKit Go.Proofs.YtbebmknfecehnaaGreat.num Go.Proofs.YtbebmknfecehnaaGreat.mem
set_option linter.unusedVariables false

set_option maxHeartbeats 400000 in
theorem refNum_any (nI : Int) (n : Nat) (w : World) (hn : nI = (n : Int)) (n1 : n ≤ 4294967296) :
    Calls Tryz.prog 86 #[.int .i64 nI] w (RetS .i64 (digs 10000 n) w) := by
  subst hn
  go_enter Tryz.func86, Tryz.ntmps86
  go_wp2_with fail
  refine (mulAdd_any _ 0 _ _ 1 n _ (by omega) rfl (by rw [digs_zero]; exact (own_lit0 w w.heap.size _ .i64 (Nat.le_refl _)).isS) (by simp [digs_zero]) (by omega) n1 n (by omega)).mono ?_
  rintro e w' ⟨v', rfl, hv, hf, hb⟩
  go_wp2
  go_ret
  exact ⟨_, rfl, hv, hf.mono (by simp), (below_alloc (Nat.le_refl _) _).trans (hb.mono (by simp))⟩

set_option maxHeartbeats 400000 in
theorem refOf_list (v : Value) (l : List Nat) (w : World) (h : IsS w .u64 v l) (hlt : Lt 4294967296 l) (hl : l.length ≤ 100000) :
    Calls Tryz.prog 34 #[v] w (RetS .i64 (digs 10000 (val 4294967296 l)) w) := by
  obtain ⟨A, cap, rfl, hcap, hcm, hr⟩ := h
  go_enter Tryz.func34, Tryz.ntmps34
  go_wp2
  go_loopw [3, 4] (fun vo vi wr => ∃ k : Nat, k ≤ l.length ∧ IsS wr .i64 vo (digs 10000 (val 4294967296 (l.drop k))) ∧ Fresh w.heap.size vo ∧ Below w.heap.size w wr ∧ vi = .int .i64 ((k : Int) - 1)) (fun _ vi _ => (intOf vi + 1).toNat)
  case atStart => exact ⟨l.length, by omega, by rw [List.drop_length, val_nil, digs_zero]; exact (own_lit0 w w.heap.size _ .i64 (Nat.le_refl _)).isS, (own_lit0 w w.heap.size 3 .i64 (Nat.le_refl _)).fresh, below_alloc (Nat.le_refl _) _, rfl⟩
  case round =>
    obtain ⟨k, hk, ho, hfo, hb, rfl⟩ := hrel
    have hsz := hb.size
    by_cases hp : 0 < k
    · obtain ⟨j, rfl⟩ : ∃ j, k = j + 1 := ⟨k - 1, by omega⟩
      obtain ⟨ad, a, rfl, ha, hcell⟩ := (hr.below hb).at_ (i := j) (by omega)
      have ha1 := hlt.at ha
      have HY := Lib.hid (val_drop_step (B := 4294967296) ha)
      clear ha
      have hl2 : (digs 10000 (val 4294967296 (l.drop (j + 1)))).length ≤ 1000000 := by
        have h1 := len10000_val (hlt.drop (j + 1))
        have h2 : (l.drop (j + 1)).length ≤ l.length := by simp
        omega
      go_wp2_with fail
      refine (mulAdd_any _ _ _ _ 4294967296 a _ (by omega) (by omega) ho hl2 (by omega) (by omega) (val 4294967296 (l.drop j)) (by have := HY.out; omega)).mono ?_
      rintro e w' ⟨v', rfl, hv, hf, hb2⟩
      go_wp2
      go_roundw
      case rel => exact ⟨j, by omega, hv, hf.mono hsz, hb.trans (hb2.mono hsz), by go_num⟩
      case measure => simp [intOf]
    · obtain rfl : k = 0 := by omega
      go_wp2
      go_ret
      exact ⟨_, rfl, by simpa using ho, hfo, hb⟩

theorem refOf_any (v : Value) (x : Nat) (w : World) (h : IsS w .u64 v (digs 4294967296 x)) (hl : (digs 4294967296 x).length ≤ 100000) :
    Calls Tryz.prog 34 #[v] w (RetS .i64 (digs 10000 x) w) := by
  have := refOf_list v _ w h (digs_lt (by omega) x) hl
  rwa [val_digs (by omega)] at this

set_option maxHeartbeats 800000 in
theorem refBack_any (v : Value) (x : Nat) (w : World) (h : IsS w .i64 v (digs 10000 x)) (hl : (digs 10000 x).length ≤ 100000) (hl2 : (digs 4294967296 x).length ≤ 100000) :
    Calls Tryz.prog 45 #[v] w (RetS .u64 (digs 4294967296 x) w) := by
  go_enter Tryz.func45, Tryz.ntmps45
  go_wp2
  go_loopw [0, 3] (fun va vo wr => ∃ (y : Nat) (o : List Nat), IsS wr .i64 va (digs 10000 y) ∧ Own wr w.heap.size 55 .u64 vo o ∧ Hid (o ++ digs 4294967296 y = digs 4294967296 x) ∧ (digs 10000 y).length ≤ 100000 ∧ Below w.heap.size w wr) (fun va _ _ => lenOf va)
  case atStart => exact ⟨x, [], h.below (below_alloc (Nat.le_refl _) _), own_lit0 w _ _ .u64 (Nat.le_refl _), rfl, hl, below_alloc (Nat.le_refl _) _⟩
  case round =>
    obtain ⟨y, o, hy, hown, HO, hly, hb⟩ := hrel
    have hsz := hb.size
    obtain ⟨A, c, rfl, hc1, hc2, hr⟩ := id hy
    have hol : o.length ≤ 100000 := by
      have := congrArg List.length HO.out
      rw [List.length_append] at this; omega
    by_cases hy0 : y = 0
    · have hz : (digs 10000 y).length ≤ 0 := by rw [hy0, digs_zero]; simp
      have HE : Hid (o = digs 4294967296 x) := by have := HO.out; rw [hy0, digs_zero, List.append_nil] at this; exact this
      clear hy0
      go_wp2
      go_ret
      exact ⟨_, rfl, by have := hown.isS; rw [HE.out] at this; exact this, hown.fresh, hb⟩
    · have hz : 0 < (digs 10000 y).length := by have := (digs_len0 (B := 10000) (by omega) (x := y)).1; omega
      obtain ⟨r, hr'⟩ : ∃ r, r = y % 4294967296 := ⟨_, rfl⟩
      have hr1 : r < 4294967296 := by omega
      have HS : Hid ((o ++ [r]) ++ digs 4294967296 (y / 4294967296) = digs 4294967296 x) := by
        have := HO.out
        rw [digs_pos (by omega) (by omega)] at this
        rw [hr', List.append_assoc]; exact this
      have hdl := digs_div_len (B := 10000) (d := 4294967296) (by omega) (by omega) (show 0 < y by omega)
      have HR := Lib.hid hr'
      clear hr'
      go_wp2_with fail
      refine (divSmall_any _ y _ 4294967296 (y / 4294967296) r _ (by omega) hy (by omega) (by omega) (by omega) rfl HR.out).mono ?_
      rintro e w' ⟨vq, rfl, hq, hfq, hb2⟩
      have hown2 := hown.below hb2
      have hsz2 := hb2.size
      have hun := hown.under
      clear hown
      go_wp2_with (at_builtin; refine wpList_append_one rfl (.tmp 15) (.tmp 18) rfl sl24 r rfl hown2 rfl (by omega) (by omega) (by omega) ?_; intro v' w1 hown1 hb1 hg1)
      have hq1 := hq.apart hfq hun hg1
      go_roundw
      case rel => exact ⟨_, _, hq1, hown1, HS, by omega, (hb.trans (hb2.mono hsz)).trans hb1⟩
      case measure =>
        obtain ⟨A', c', rfl, _⟩ := hq1
        exact hdl

end Go.Proofs.YtbebmknfecehnaaGreat.nat
namespace Go.Proofs.YtbebmknfecehnaaGreat.nat
open Go.RowKit Go.Proofs.YtbebmknfecehnaaGreat.num Go.Proofs.YtbebmknfecehnaaGreat.mem
set_option linter.unusedVariables false

section
open Classical
/-- May limbs be a number? -/
noncomputable def mayB (l : List Nat) : Bool := decide (Lt 4294967296 l ∧ trim l = l)
theorem mayB_big {l : List Nat} {i d : Nat} (h : l[i]? = some d) (hd : 4294967296 ≤ d) : mayB l = false := by
  unfold mayB
  rw [decide_eq_false_iff_not]
  rintro ⟨h1, _⟩
  have := h1.at h; omega
theorem mayB_nil : mayB [] = true := by
  unfold mayB
  rw [decide_eq_true_iff]
  exact ⟨Lt.nil _, rfl⟩
theorem mayB_last {l : List Nat} {d : Nat} (h : Lt 4294967296 l) (hd : l[l.length - 1]? = some d) (h0 : d ≠ 0) : mayB l = true := by
  unfold mayB
  rw [decide_eq_true_iff]
  refine ⟨h, ?_⟩
  have hl : l.length - 1 < l.length := (List.getElem?_eq_some_iff.1 hd).1
  have := trim_of_take hd h0
  rwa [show l.length - 1 + 1 = l.length from by omega, List.take_length] at this
theorem mayB_last0 {l : List Nat} (hd : l[l.length - 1]? = some 0) : mayB l = false := by
  unfold mayB
  rw [decide_eq_false_iff_not]
  rintro ⟨_, h1⟩
  have hl : l.length - 1 < l.length := (List.getElem?_eq_some_iff.1 hd).1
  have h2 := trim_take0 hd
  rw [show l.length - 1 + 1 = l.length from by omega, List.take_length, h1] at h2
  have h3 := trim_len_le (l.take (l.length - 1))
  rw [← h2] at h3
  simp at h3; omega
theorem mayB_digs (x : Nat) : mayB (digs 4294967296 x) = true := by
  unfold mayB
  rw [decide_eq_true_iff]
  exact ⟨digs_lt (by omega) x, by rw [trim_digs (by omega) (digs_lt (by omega) x), val_digs (by omega)]⟩

end

/-- The limbs that Clean looks at. -/
def clipped (l : List Nat) (most : Nat) : List Nat := (l.take most).map (· % 4294967296)
theorem clipped_lt (l : List Nat) (most : Nat) : Lt 4294967296 (clipped l most) := by
  intro d hd
  obtain ⟨a, _, rfl⟩ := List.mem_map.1 hd
  exact Nat.mod_lt _ (by omega)
theorem clipped_len (l : List Nat) (most : Nat) : (clipped l most).length ≤ most := by simp [clipped]; omega
theorem clipped_step {l : List Nat} {n d : Nat} (hd : l[n]? = some d) : clipped l (n + 1) = clipped l n ++ [d % 4294967296] := by unfold clipped; rw [take_step hd, List.map_append]; rfl
theorem clipped_same {l : List Nat} (h : Lt 4294967296 l) {most : Nat} (hl : l.length ≤ most) : clipped l most = l := by
  unfold clipped
  rw [List.take_of_length_le hl]
  conv => rhs; rw [← List.map_id l]
  exact List.map_congr_left fun d hd => Nat.mod_eq_of_lt (h d hd)
theorem clipped_all {l : List Nat} {n most : Nat} (h : n = l.length ∨ n = most) (hl : n ≤ l.length) (hm : n ≤ most) : clipped l n = clipped l most := by
  rcases h with rfl | rfl
  · unfold clipped; rw [List.take_of_length_le (by omega), List.take_of_length_le (by omega)]
  · rfl

set_option maxHeartbeats 800000 in
theorem refClean_list (v : Value) (l : List Nat) (mI : Int) (most : Nat) (w : World) (hmI : mI = (most : Int)) (h : IsS w .u64 v l) (hu : Lt 18446744073709551616 l) (hmost : most ≤ 1000000) :
    Calls Tryz.prog 30 #[v, .int .i64 mI] w (RetS .u64 (trim (clipped l most)) w) := by
  subst hmI
  obtain ⟨A, c, rfl, hc, hm, hr⟩ := h
  have hm' := hm
  unfold maxLen at hm'
  go_enter Tryz.func30, Tryz.ntmps30
  go_wp2
  go_loopw [5, 6] (fun vo vi wr => ∃ (k : Nat) (o : List Nat), k ≤ l.length ∧ k ≤ most ∧ Own wr w.heap.size 55 .u64 vo o ∧ Hid (o = clipped l k) ∧ o.length ≤ k ∧ Below w.heap.size w wr ∧ vi = .int .i64 (k : Int)) (fun _ vi _ => l.length - (intOf vi).toNat)
  case atStart => exact ⟨0, [], by omega, by omega, own_lit0 w _ _ .u64 (Nat.le_refl _), by show _ = _; simp [clipped], by simp, below_alloc (Nat.le_refl _) _, rfl⟩
  case round =>
    obtain ⟨k, o, hk, hk2, hown, HO, hok, hb, rfl⟩ := hrel
    have hsz := hb.size
    by_cases hlt : k < l.length ∧ k < most
    · obtain ⟨hlt1, hlt2⟩ := hlt
      obtain ⟨ad, d, rfl, hd, hcell⟩ := (hr.below hb).at_ hlt1
      have hd2 : (d : Int) ≤ 18446744073709551615 := by have := hu.at hd; omega
      have HN : Hid (o ++ [d % 4294967296] = clipped l (k + 1)) := by show _ = _; rw [clipped_step hd, HO.out]
      clear hd
      go_wp2_with (at_builtin; refine wpList_append_one rfl (.tmp 19) (.tmp 25) rfl sl24 (d % 4294967296) rfl hown rfl (by omega) (by omega) (by omega) ?_; intro v' w1 hown1 hb1 hg1)
      go_roundw
      case rel => exact ⟨k + 1, _, by omega, by omega, hown1, HN, by simp; omega, hb.trans hb1, by go_num⟩
      case measure => simp [intOf]; omega
    · have HC : Hid (o = clipped l most) := by show _ = _; rw [HO.out]; exact clipped_all (by omega) hk hk2
      have hv := hown.isS
      have hf := hown.fresh
      clear HO hown
      rcases (show (k < l.length ∧ ¬ k < most) ∨ ¬ k < l.length from by omega) with ⟨hlt1, hlt2⟩ | hlt1
      all_goals
        clear hlt
        go_wp2
        go_loopw [5] (fun vo wr => ∃ m : List Nat, IsS wr .u64 vo m ∧ Hid (trim m = trim o) ∧ Fresh w.heap.size vo ∧ Below w.heap.size w wr) (fun vo _ => lenOf vo)
        case atStart => exact ⟨o, hv, rfl, hf, hb⟩
        case round =>
          clear hv hf hb hsz
          obtain ⟨m, hv, HM, hf, hb⟩ := hrel
          obtain ⟨A', c', rfl, hc1, hc2, hr1⟩ := id hv
          unfold maxLen at hc2
          by_cases hl0 : 0 < m.length
          · obtain ⟨ad, d, rfl, hd, hcell⟩ := hr1.at_ (i := m.length - 1) (by omega)
            by_cases hd0 : d = 0
            · subst hd0
              have HN : Hid (trim (m.take (m.length - 1)) = trim o) := by
                have h1 := trim_take0 hd
                rw [show m.length - 1 + 1 = m.length from by omega, List.take_length] at h1
                show _ = _
                rw [← h1]; exact HM.out
              have hv2 := hr1.isTake (n := m.length - 1) (by omega) hc1 (by unfold maxLen; omega)
              clear hd
              go_wp2
              go_roundw
              case rel => exact ⟨_, hv2, HN, fun ad' n' c'' e => by injection e with e1 _ _; injection e1 with e1; subst e1; exact hf _ _ _ rfl, hb⟩
              case measure => simp [lenOf]; omega
            · have HN : Hid (m = trim o) := by
                have h1 := trim_of_take hd hd0
                rw [show m.length - 1 + 1 = m.length from by omega, List.take_length] at h1
                show _ = _
                rw [← h1]; exact HM.out
              have hz : ((d : Int) == 0) = false := by rw [beq_eq_false_iff_ne]; omega
              clear hd hd0
              go_wp2
              go_ret
              exact ⟨_, rfl, by rw [← HC.out, ← HN.out]; exact hv, hf, hb⟩
          · obtain rfl : m = [] := List.length_eq_zero_iff.1 (by omega)
            have HN : Hid (([] : List Nat) = trim o) := HM.out
            go_wp2
            go_ret
            exact ⟨_, rfl, by rw [← HC.out, ← HN.out]; exact hv, hf, hb⟩
end Go.Proofs.YtbebmknfecehnaaGreat.nat
namespace Go.Proofs.YtbebmknfecehnaaGreat.nat
open Go.RowKit Go.Proofs.YtbebmknfecehnaaGreat.num Go.Proofs.YtbebmknfecehnaaGreat.mem
set_option linter.unusedVariables false

/-- The same limbs? -/
def sameB (l m : List Nat) : Bool := decide (l = m)
theorem sameB_refl (l : List Nat) : sameB l l = true := by simp [sameB]
theorem sameB_of_len {l m : List Nat} (h : ¬ l.length = m.length) : sameB l m = false := by
  unfold sameB; rw [decide_eq_false_iff_not]; rintro rfl; exact h rfl
theorem sameB_at {l m : List Nat} {i d e : Nat} (hd : l[i]? = some d) (he : m[i]? = some e) (h : ¬ d = e) : sameB l m = false := by
  unfold sameB; rw [decide_eq_false_iff_not]; rintro rfl; rw [hd] at he; injection he with he; exact h he

set_option maxHeartbeats 400000 in
theorem refSame_any (v u : Value) (l m : List Nat) (w : World) (h : IsS w .u64 v l) (h' : IsS w .u64 u m) (hu : Lt 18446744073709551616 l) (hu' : Lt 18446744073709551616 m) :
    Calls Tryz.prog 36 #[v, u] w (RetV (.bool (sameB l m)) w) := by
  obtain ⟨A, c, rfl, hc, hm, hr⟩ := h
  obtain ⟨A', c', rfl, hc', hmm, hr'⟩ := h'
  unfold maxLen at hm hmm
  by_cases hne : l.length = m.length
  · have hb1 : ((l.length : Int) != (m.length : Int)) = false := by rw [hne]; simp
    have HL := Lib.hid hne
    have hl1 : l.length ≤ m.length := by omega
    have hl2 : m.length ≤ l.length := by omega
    clear hne
    go_enter Tryz.func36, Tryz.ntmps36
    go_wp2
    go_loopw [5] (fun vi wr => ∃ k : Nat, k ≤ l.length ∧ Hid (l.take k = m.take k) ∧ Below w.heap.size w wr ∧ vi = .int .i64 (k : Int)) (fun vi _ => l.length - (intOf vi).toNat)
    case atStart => exact ⟨0, by omega, by show _ = _; simp, Below.refl _ _, rfl⟩
    case round =>
      obtain ⟨k, hk, HT, hb, rfl⟩ := hrel
      by_cases hlt : k < l.length
      · obtain ⟨ad, d, rfl, hd, hcell⟩ := (hr.below hb).at_ hlt
        obtain ⟨ad', e, rfl, he, hcell'⟩ := (hr'.below hb).at_ (i := k) (by omega)
        by_cases hde : d = e
        · subst hde
          have HN : Hid (l.take (k + 1) = m.take (k + 1)) := by show _ = _; rw [take_step hd, take_step he, HT.out]
          have hz : ((d : Int) != (d : Int)) = false := by simp
          clear hd he
          go_wp2
          go_quiet (fail)
          go_wp2
          go_roundw
          case rel => exact ⟨k + 1, by omega, HN, below_drewN hb _, by go_num⟩
          case measure => simp [intOf]; omega
        · have HN : Hid (sameB l m = false) := sameB_at hd he hde
          have hz : ((d : Int) != (e : Int)) = true := by rw [bne_iff_ne]; omega
          clear hd he hde
          go_wp2
          go_quiet (fail)
          go_wp2
          go_ret
          exact ⟨by rw [HN.out]; rfl, below_drewN hb _⟩
      · obtain rfl : k = l.length := by omega
        have HN : Hid (sameB l m = true) := by
          have := HT.out
          rw [List.take_length, List.take_of_length_le hl2] at this
          rw [this]; exact sameB_refl m
        go_wp2
        go_ret
        exact ⟨by rw [HN.out]; rfl, hb⟩
  · have hb1 : ((l.length : Int) != (m.length : Int)) = true := by rw [bne_iff_ne]; omega
    have HN : Hid (sameB l m = false) := sameB_of_len hne
    clear hne
    go_enter Tryz.func36, Tryz.ntmps36
    go_wp2
    go_ret
    exact ⟨by rw [HN.out]; rfl, Below.refl _ _⟩

set_option maxHeartbeats 400000 in
theorem refCmp_any (v u : Value) (x y : Nat) (w : World) (h : IsS w .i64 v (digs 10000 x)) (h' : IsS w .i64 u (digs 10000 y)) :
    Calls Tryz.prog 79 #[v, u] w (RetV (.int .i64 (ord x y)) w) := by
  have lt1 := digs_lt (B := 10000) (by omega) x
  have lt2 := digs_lt (B := 10000) (by omega) y
  obtain ⟨A, c, rfl, hc, hm, hr⟩ := h
  obtain ⟨A', c', rfl, hc', hmm, hr'⟩ := h'
  unfold maxLen at hm hmm
  by_cases hne : (digs 10000 x).length = (digs 10000 y).length
  · have hb1 : (((digs 10000 x).length : Int) != ((digs 10000 y).length : Int)) = false := by rw [hne]; simp
    have HL := Lib.hid hne
    have hl1 : (digs 10000 x).length ≤ (digs 10000 y).length := by omega
    have hl2 : (digs 10000 y).length ≤ (digs 10000 x).length := by omega
    clear hne
    go_enter Tryz.func79, Tryz.ntmps79
    go_wp2
    go_loopw [5] (fun vi wr => ∃ k : Nat, k ≤ (digs 10000 x).length ∧ Hid ((digs 10000 x).drop k = (digs 10000 y).drop k) ∧ Below w.heap.size w wr ∧ vi = .int .i64 ((k : Int) - 1)) (fun vi _ => (intOf vi + 1).toNat)
    case atStart => exact ⟨(digs 10000 x).length, by omega, by show _ = _; rw [List.drop_length, List.drop_of_length_le hl2], Below.refl _ _, rfl⟩
    case round =>
      obtain ⟨k, hk, HT, hb, rfl⟩ := hrel
      by_cases hlt : 0 < k
      · obtain ⟨j, rfl⟩ : ∃ j, k = j + 1 := ⟨k - 1, by omega⟩
        obtain ⟨ad, d, rfl, hd, hcell⟩ := (hr.below hb).at_ (i := j) (by omega)
        obtain ⟨ad', e, rfl, he, hcell'⟩ := (hr'.below hb).at_ (i := j) (by omega)
        rcases Nat.lt_trichotomy d e with hde | hde | hde
        · have HN : Hid (ord x y = -1) := by
            have := at_lt_val lt1 lt2 HL.out hd he HT.out hde
            rw [val_digs (by omega), val_digs (by omega)] at this
            exact ord_lt this
          clear hd he
          go_wp2
          go_quiet (fail)
          go_wp2
          go_ret
          exact ⟨by rw [HN.out]; rfl, below_drewN hb _⟩
        · subst hde
          have HN : Hid ((digs 10000 x).drop j = (digs 10000 y).drop j) := drop_step hd he HT.out
          clear hd he
          go_wp2
          go_quiet (fail)
          go_wp2
          go_quiet (fail)
          go_wp2
          go_roundw
          case rel => exact ⟨j, by omega, HN, below_drewN hb _, by go_num⟩
          case measure => simp [intOf]
        · have HN : Hid (ord x y = 1) := by
            have := at_lt_val lt2 lt1 HL.out.symm he hd HT.out.symm hde
            rw [val_digs (by omega), val_digs (by omega)] at this
            exact ord_gt this
          clear hd he
          go_wp2
          go_quiet (fail)
          go_wp2
          go_quiet (fail)
          go_wp2
          go_ret
          exact ⟨by rw [HN.out]; rfl, below_drewN (below_drewN hb _) _⟩
      · obtain rfl : k = 0 := by omega
        have HN : Hid (ord x y = 0) := by
          have := HT.out
          rw [List.drop_zero, List.drop_zero] at this
          have e := congrArg (val 10000) this
          rw [val_digs (by omega), val_digs (by omega)] at e
          rw [e]; exact ord_eq y
        go_wp2
        go_ret
        exact ⟨by rw [HN.out]; rfl, hb⟩
  · have hb1 : (((digs 10000 x).length : Int) != ((digs 10000 y).length : Int)) = true := by rw [bne_iff_ne]; omega
    by_cases hlt : (digs 10000 x).length < (digs 10000 y).length
    · have HN : Hid (ord x y = -1) := ord_lt (len_lt_ord (by omega) hlt)
      clear hne
      go_enter Tryz.func79, Tryz.ntmps79
      go_wp2
      go_ret
      exact ⟨by rw [HN.out]; rfl, Below.refl _ _⟩
    · have HN : Hid (ord x y = 1) := ord_gt (len_lt_ord (B := 10000) (by omega) (by omega))
      clear hne
      go_enter Tryz.func79, Tryz.ntmps79
      go_wp2
      go_ret
      exact ⟨by rw [HN.out]; rfl, Below.refl _ _⟩

/-- What Add's loop keeps behind k rounds. -/
def AD (l m : List Nat) (k c : Nat) (o : List Nat) : Prop := Lt 10000 o ∧ o.length = k ∧ val 10000 o + 10000 ^ k * c = val 10000 (l.take k) + val 10000 (m.take k)
theorem val_take_over {B : Nat} {l : List Nat} {k : Nat} (h : l.length ≤ k) : val B (l.take (k + 1)) = val B (l.take k) := by rw [List.take_of_length_le h, List.take_of_length_le (by omega)]
theorem AD.step {l m o : List Nat} {k c d e : Nat} (h : AD l m k c o) (hd : l[k]? = some d ∨ l.length ≤ k ∧ d = 0) (he : m[k]? = some e ∨ m.length ≤ k ∧ e = 0) :
    AD l m (k + 1) ((c + d + e) / 10000) (o ++ [(c + d + e) % 10000]) := by
  unfold AD at h ⊢
  obtain ⟨h1, h2, h3⟩ := h
  have ed : val 10000 (l.take (k + 1)) = val 10000 (l.take k) + 10000 ^ k * d := by
    rcases hd with hd | ⟨hd, rfl⟩
    · exact val_take_step hd
    · rw [val_take_over hd]; omega
  have ee : val 10000 (m.take (k + 1)) = val 10000 (m.take k) + 10000 ^ k * e := by
    rcases he with he | ⟨he, rfl⟩
    · exact val_take_step he
    · rw [val_take_over he]; omega
  refine ⟨h1.snoc (by omega), by simp [h2], ?_⟩
  rw [val_snoc, h2, ed, ee, Nat.pow_succ, Nat.mul_assoc]
  have e1 : 10000 ^ k * ((c + d + e) % 10000) + 10000 ^ k * (10000 * ((c + d + e) / 10000)) = 10000 ^ k * c + 10000 ^ k * d + 10000 ^ k * e := by
    rw [← Nat.mul_add, ← Nat.mul_add, ← Nat.mul_add]; congr 1; omega
  omega
theorem AD.done {l m o : List Nat} {k c : Nat} (h : AD l m k c o) (hl : l.length ≤ k) (hm : m.length ≤ k) (hc : c < 10000) : Lt 10000 (o ++ [c]) ∧ val 10000 (o ++ [c]) = val 10000 l + val 10000 m := by
  unfold AD at h
  obtain ⟨h1, h2, h3⟩ := h
  rw [List.take_of_length_le hl, List.take_of_length_le hm] at h3
  exact ⟨h1.snoc hc, by rw [val_snoc, h2]; exact h3⟩

set_option maxHeartbeats 1600000 in
theorem refAdd_list (v u : Value) (l m : List Nat) (w : World) (h : IsS w .i64 v l) (h' : IsS w .i64 u m) (lt1 : Lt 10000 l) (lt2 : Lt 10000 m) (hl : l.length ≤ 1000000) (hl' : m.length ≤ 1000000) :
    Calls Tryz.prog 78 #[v, u] w (RetS .i64 (digs 10000 (val 10000 l + val 10000 m)) w) := by
  obtain ⟨A, c, rfl, hc, hm, hr⟩ := h
  obtain ⟨A', c', rfl, hc', hmm, hr'⟩ := h'
  go_enter Tryz.func78, Tryz.ntmps78
  go_wp2
  go_loopw [5, 6, 7] (fun vo vc vi wr => ∃ (k cy : Nat) (o : List Nat), (k ≤ l.length ∨ k ≤ m.length) ∧ cy ≤ 1 ∧ AD l m k cy o ∧ Own wr w.heap.size 3 .i64 vo o ∧ o.length ≤ k ∧ Below w.heap.size w wr ∧ vc = .int .i64 (cy : Int) ∧ vi = .int .i64 (k : Int)) (fun _ _ vi _ => l.length + m.length - (intOf vi).toNat)
  case atStart => exact ⟨0, 0, [], by omega, by omega, by unfold AD; exact ⟨Lt.nil _, rfl, by simp [val]⟩, own_lit0 w _ _ .i64 (Nat.le_refl _), by simp, below_alloc (Nat.le_refl _) _, rfl, rfl⟩
  case round =>
    obtain ⟨k, cy, o, hk, hcy, hA, hown, hok, hb, rfl, rfl⟩ := hrel
    have hsz := hb.size
    by_cases h1 : k < l.length
    · obtain ⟨ad, d, rfl, hd, hcell⟩ := (hr.below hb).at_ h1
      have hd1 := lt1.at hd
      by_cases h2 : k < m.length
      · obtain ⟨ad', e, rfl, he, hcell'⟩ := (hr'.below hb).at_ h2
        have he1 := lt2.at he
        have HS := Lib.hid (hA.step (.inl hd) (.inl he))
        clear hd he hA
        go_wp2_with (at_builtin; refine wpList_append_one rfl (.tmp 38) (.tmp 41) rfl sl33 ((cy + d + e) % 10000) rfl hown rfl (by omega) (by omega) (by omega) ?_; intro v' w1 hown1 hb1 hg1)
        go_roundw
        case rel => exact ⟨k + 1, _, _, by omega, by omega, HS.out, hown1, by simp; omega, hb.trans hb1, int_eq (by omega), by go_num⟩
        case measure => simp [intOf]; omega
      · have hlm : ¬ l.length < m.length := by omega
        have HS := Lib.hid (hA.step (.inl hd) (e := 0) (.inr ⟨by omega, rfl⟩))
        clear hd hA
        go_wp2_with (at_builtin; refine wpList_append_one rfl (.tmp 38) (.tmp 41) rfl sl33 ((cy + d + 0) % 10000) rfl hown rfl (by omega) (by omega) (by omega) ?_; intro v' w1 hown1 hb1 hg1)
        go_roundw
        case rel => exact ⟨k + 1, _, _, by omega, by omega, HS.out, hown1, by simp; omega, hb.trans hb1, int_eq (by omega), by go_num⟩
        case measure => simp [intOf]; omega
    · by_cases h2 : k < m.length
      · obtain ⟨ad', e, rfl, he, hcell'⟩ := (hr'.below hb).at_ h2
        have he1 := lt2.at he
        have hlm : l.length < m.length := by omega
        have HS := Lib.hid (hA.step (d := 0) (.inr ⟨by omega, rfl⟩) (.inl he))
        clear he hA
        go_wp2_with (at_builtin; refine wpList_append_one rfl (.tmp 38) (.tmp 41) rfl sl33 ((cy + 0 + e) % 10000) rfl hown rfl (by omega) (by omega) (by omega) ?_; intro v' w1 hown1 hb1 hg1)
        go_roundw
        case rel => exact ⟨k + 1, _, _, by omega, by omega, HS.out, hown1, by simp; omega, hb.trans hb1, int_eq (by omega), by go_num⟩
        case measure => simp [intOf]; omega
      · obtain ⟨g1, g2⟩ := hA.done (by omega) (by omega) (by omega)
        have HV := Lib.hid g2
        clear g2 hA
        by_cases hlm : l.length < m.length
        all_goals
          go_wp2_with (at_builtin; refine wpList_append_one rfl (.tmp 45) (.tmp 47) rfl sl33 cy rfl hown rfl rfl (by omega) (by omega) ?_; intro v' w1 hown1 hb1 hg1)
          have hsz1 := (hb.trans hb1).size
          refine (refTrim_any _ _ _ hown1.isS g1 (by simp; omega)).mono ?_
          rintro e w' ⟨v2, rfl, hv, hf, hb2⟩
          go_wp2
          go_ret
          exact ⟨_, rfl, by rw [HV.out] at hv; exact hv, hf.mono hsz1, (hb.trans hb1).trans (hb2.mono hsz1)⟩
theorem refAdd_any (v u : Value) (x y : Nat) (w : World) (h : IsS w .i64 v (digs 10000 x)) (h' : IsS w .i64 u (digs 10000 y)) (hl : (digs 10000 x).length ≤ 1000000) (hl' : (digs 10000 y).length ≤ 1000000) :
    Calls Tryz.prog 78 #[v, u] w (RetS .i64 (digs 10000 (x + y)) w) := by
  have := refAdd_list v u _ _ w h h' (digs_lt (by omega) x) (digs_lt (by omega) y) hl hl'
  rwa [val_digs (by omega), val_digs (by omega)] at this
end Go.Proofs.YtbebmknfecehnaaGreat.nat
namespace Go.Proofs.YtbebmknfecehnaaGreat.nat
open Go.RowKit Go.Proofs.YtbebmknfecehnaaGreat.num Go.Proofs.YtbebmknfecehnaaGreat.mem
set_option linter.unusedVariables false

/-- What Sub's loop keeps behind k rounds, by base B. -/
def SB (B : Nat) (l m : List Nat) (k c : Nat) (o : List Nat) : Prop := Lt B o ∧ o.length = k ∧ val B o + val B (m.take k) = val B (l.take k) + B ^ k * c
theorem SB.start (B : Nat) (l m : List Nat) : SB B l m 0 0 [] := by unfold SB; exact ⟨Lt.nil _, rfl, by simp [val]⟩
theorem SB.step {B : Nat} {l m o : List Nat} {k c d e x c' : Nat} (h : SB B l m k c o) (hd : l[k]? = some d) (he : m[k]? = some e ∨ m.length ≤ k ∧ e = 0) (hx : x < B) (hs : x + e + c = d + B * c') : SB B l m (k + 1) c' (o ++ [x]) := by
  unfold SB at h ⊢
  obtain ⟨h1, h2, h3⟩ := h
  have ee : val B (m.take (k + 1)) = val B (m.take k) + B ^ k * e := by
    rcases he with he | ⟨he, rfl⟩
    · exact val_take_step he
    · rw [val_take_over he]; omega
  refine ⟨h1.snoc hx, by simp [h2], ?_⟩
  rw [val_snoc, h2, val_take_step hd, ee, Nat.pow_succ, Nat.mul_assoc]
  have e1 : B ^ k * x + B ^ k * e + B ^ k * c = B ^ k * d + B ^ k * (B * c') := by
    rw [← Nat.mul_add, ← Nat.mul_add, ← Nat.mul_add, hs]
  omega
theorem SB.done {B : Nat} {l m o : List Nat} {c : Nat} (h : SB B l m l.length c o) (hm : m.length ≤ l.length) (hle : val B m ≤ val B l) : Lt B o ∧ val B o = val B l - val B m := by
  unfold SB at h
  obtain ⟨h1, h2, h3⟩ := h
  rw [List.take_length, List.take_of_length_le hm] at h3
  have h4 := val_lt h1
  rw [h2] at h4
  have hc : c = 0 := by
    rcases Nat.eq_zero_or_pos c with h5 | h5
    · exact h5
    · have := Nat.mul_le_mul_left (B ^ l.length) h5
      omega
  subst hc
  exact ⟨h1, by omega⟩

set_option maxHeartbeats 1600000 in
theorem refSub_list (v u : Value) (l m : List Nat) (w : World) (h : IsS w .i64 v l) (h' : IsS w .i64 u m) (lt1 : Lt 10000 l) (lt2 : Lt 10000 m) (hl : l.length ≤ 1000000) (hml : m.length ≤ l.length) (hle : val 10000 m ≤ val 10000 l) :
    Calls Tryz.prog 80 #[v, u] w (RetS .i64 (digs 10000 (val 10000 l - val 10000 m)) w) := by
  obtain ⟨A, c, rfl, hc, hm, hr⟩ := h
  obtain ⟨A', c', rfl, hc', hmm, hr'⟩ := h'
  have HLE := Lib.hid hle
  clear hle
  go_enter Tryz.func80, Tryz.ntmps80
  go_wp2
  go_loopw [5, 6, 7] (fun vo vc vi wr => ∃ (k cy : Nat) (o : List Nat), k ≤ l.length ∧ cy ≤ 1 ∧ SB 10000 l m k cy o ∧ Own wr w.heap.size 3 .i64 vo o ∧ o.length ≤ k ∧ Below w.heap.size w wr ∧ vc = .int .i64 (cy : Int) ∧ vi = .int .i64 (k : Int)) (fun _ _ vi _ => l.length - (intOf vi).toNat)
  case atStart => exact ⟨0, 0, [], by omega, by omega, SB.start _ _ _, own_lit0 w _ _ .i64 (Nat.le_refl _), by simp, below_alloc (Nat.le_refl _) _, rfl, rfl⟩
  case round =>
    obtain ⟨k, cy, o, hk, hcy, hA, hown, hok, hb, rfl, rfl⟩ := hrel
    have hsz := hb.size
    by_cases h1 : k < l.length
    · obtain ⟨ad, d, rfl, hd, hcell⟩ := (hr.below hb).at_ h1
      have hd1 := lt1.at hd
      by_cases h2 : k < m.length
      · obtain ⟨ad', e, rfl, he, hcell'⟩ := (hr'.below hb).at_ h2
        have he1 := lt2.at he
        by_cases hn : d < e + cy
        · have HS := Lib.hid (hA.step hd (.inl he) (x := d + 10000 - e - cy) (c' := 1) (by omega) (by omega))
          clear hd he hA
          go_wp2_with (at_builtin; refine wpList_append_one rfl _ _ rfl sl33 (d + 10000 - e - cy) rfl hown rfl (by omega) (by omega) (by omega) ?_; intro v' w1 hown1 hb1 hg1)
          go_roundw
          case rel => exact ⟨k + 1, 1, _, by omega, by omega, HS.out, hown1, by simp; omega, hb.trans hb1, rfl, by go_num⟩
          case measure => simp [intOf]; omega
        · have HS := Lib.hid (hA.step hd (.inl he) (x := d - e - cy) (c' := 0) (by omega) (by omega))
          clear hd he hA
          go_wp2_with (at_builtin; refine wpList_append_one rfl _ _ rfl sl33 (d - e - cy) rfl hown rfl (by omega) (by omega) (by omega) ?_; intro v' w1 hown1 hb1 hg1)
          go_roundw
          case rel => exact ⟨k + 1, 0, _, by omega, by omega, HS.out, hown1, by simp; omega, hb.trans hb1, rfl, by go_num⟩
          case measure => simp [intOf]; omega
      · by_cases hn : d < cy
        · have HS := Lib.hid (hA.step hd (e := 0) (.inr ⟨by omega, rfl⟩) (x := d + 10000 - cy) (c' := 1) (by omega) (by omega))
          clear hd hA
          go_wp2_with (at_builtin; refine wpList_append_one rfl _ _ rfl sl33 (d + 10000 - cy) rfl hown rfl (by omega) (by omega) (by omega) ?_; intro v' w1 hown1 hb1 hg1)
          go_roundw
          case rel => exact ⟨k + 1, 1, _, by omega, by omega, HS.out, hown1, by simp; omega, hb.trans hb1, rfl, by go_num⟩
          case measure => simp [intOf]; omega
        · have HS := Lib.hid (hA.step hd (e := 0) (.inr ⟨by omega, rfl⟩) (x := d - cy) (c' := 0) (by omega) (by omega))
          clear hd hA
          go_wp2_with (at_builtin; refine wpList_append_one rfl _ _ rfl sl33 (d - cy) rfl hown rfl (by omega) (by omega) (by omega) ?_; intro v' w1 hown1 hb1 hg1)
          go_roundw
          case rel => exact ⟨k + 1, 0, _, by omega, by omega, HS.out, hown1, by simp; omega, hb.trans hb1, rfl, by go_num⟩
          case measure => simp [intOf]; omega
    · obtain rfl : k = l.length := by omega
      obtain ⟨g1, g2⟩ := hA.done hml HLE.out
      have HV := Lib.hid g2
      clear g2 hA
      go_wp2_with fail
      refine (refTrim_any _ _ _ hown.isS g1 (by omega)).mono ?_
      rintro e w' ⟨v2, rfl, hv, hf, hb2⟩
      go_wp2
      go_ret
      exact ⟨_, rfl, by rw [HV.out] at hv; exact hv, hf.mono hsz, hb.trans (hb2.mono hsz)⟩
theorem refSub_any (v u : Value) (x y : Nat) (w : World) (h : IsS w .i64 v (digs 10000 x)) (h' : IsS w .i64 u (digs 10000 y)) (hl : (digs 10000 x).length ≤ 1000000) (hle : y ≤ x) (z : Nat) (hz : z = x - y) :
    Calls Tryz.prog 80 #[v, u] w (RetS .i64 (digs 10000 z) w) := by
  have := refSub_list v u _ _ w h h' (digs_lt (by omega) x) (digs_lt (by omega) y) hl (digs_len_mono (by omega) hle) (by rw [val_digs (by omega), val_digs (by omega)]; exact hle)
  rw [val_digs (by omega), val_digs (by omega)] at this
  rw [hz]; exact this
end Go.Proofs.YtbebmknfecehnaaGreat.nat
namespace Go.Proofs.YtbebmknfecehnaaGreat.nat
open Go.RowKit Go.Proofs.YtbebmknfecehnaaGreat.num Go.Proofs.YtbebmknfecehnaaGreat.mem
set_option linter.unusedVariables false

/-- What Mul's outer loop keeps: behind i digits of the first number. -/
def MO (l m : List Nat) (i : Nat) (o : List Nat) : Prop := Lt 10000 o ∧ o.length = l.length + m.length + 1 ∧ val 10000 o = val 10000 (l.take i) * val 10000 m
/-- What its inner loop keeps: behind j digits of the second one. -/
def MI (l m : List Nat) (i a j c : Nat) (o : List Nat) : Prop := Lt 10000 o ∧ o.length = l.length + m.length + 1 ∧ val 10000 o + 10000 ^ (i + j) * c = val 10000 (l.take i) * val 10000 m + 10000 ^ i * (a * val 10000 (m.take j))
/-- What the loop behind keeps, which carries on at place k. -/
def MC (l m : List Nat) (i k c : Nat) (o : List Nat) : Prop := Lt 10000 o ∧ o.length = l.length + m.length + 1 ∧ val 10000 o + 10000 ^ k * c = val 10000 (l.take (i + 1)) * val 10000 m
theorem MO.start (l m : List Nat) : MO l m 0 (List.replicate (l.length + m.length + 1) 0) := by
  unfold MO; exact ⟨Lt.rep (by omega) _, by simp, by rw [val_rep]; simp [val]⟩
theorem MO.inner {l m o : List Nat} {i a : Nat} (h : MO l m i o) : MI l m i a 0 0 o := by
  unfold MO at h; unfold MI
  exact ⟨h.1, h.2.1, by simp [h.2.2, val]⟩
theorem MI.step {l m o : List Nat} {i a j c d b : Nat} (h : MI l m i a j c o) (hd : o[i + j]? = some d) (hb : m[j]? = some b) : MI l m i a (j + 1) ((c + d + a * b) / 10000) (o.set (i + j) ((c + d + a * b) % 10000)) := by
  unfold MI at h ⊢
  obtain ⟨h1, h2, h3⟩ := h
  refine ⟨h1.set (by omega) _, by simpa using h2, ?_⟩
  have hs := val_set (B := 10000) hd ((c + d + a * b) % 10000)
  rw [val_take_step hb, Nat.mul_add, Nat.mul_add, ← Nat.add_assoc (val 10000 (l.take i) * val 10000 m), ← h3, ← Nat.add_assoc i j 1, Nat.pow_succ, Nat.mul_assoc (10000 ^ (i + j))]
  have e1 : 10000 ^ (i + j) * ((c + d + a * b) % 10000) + 10000 ^ (i + j) * (10000 * ((c + d + a * b) / 10000)) = 10000 ^ (i + j) * c + 10000 ^ (i + j) * d + 10000 ^ (i + j) * (a * b) := by
    rw [← Nat.mul_add, ← Nat.mul_add, ← Nat.mul_add]; congr 1; omega
  have e2 : 10000 ^ i * (a * (10000 ^ j * b)) = 10000 ^ (i + j) * (a * b) := by rw [Nat.pow_add, Nat.mul_assoc, Nat.mul_left_comm a]
  rw [e2]; omega
theorem MI.carry {l m o : List Nat} {i a c : Nat} (h : MI l m i a m.length c o) (ha : l[i]? = some a) : MC l m i (i + m.length) c o := by
  unfold MI at h; unfold MC
  obtain ⟨h1, h2, h3⟩ := h
  refine ⟨h1, h2, ?_⟩
  rw [List.take_length] at h3
  rw [h3, val_take_step ha, Nat.add_mul, Nat.mul_assoc]
theorem MC.place {l m o : List Nat} {i k c : Nat} (h : MC l m i k c o) (lt1 : Lt 10000 l) (lt2 : Lt 10000 m) (hi : i < l.length) (hc : 0 < c) : k < i + 1 + m.length := by
  unfold MC at h
  obtain ⟨h1, h2, h3⟩ := h
  have h4 := val_lt (lt1.take (i + 1))
  have h5 := val_lt lt2
  rw [show (l.take (i + 1)).length = i + 1 from by simp; omega] at h4
  have h6 : val 10000 (l.take (i + 1)) * val 10000 m < 10000 ^ (i + 1) * 10000 ^ m.length := Nat.mul_lt_mul'' h4 h5
  rw [← Nat.pow_add] at h6
  have h7 := Nat.mul_le_mul_left (10000 ^ k) hc
  rcases Nat.lt_or_ge k (i + 1 + m.length) with h8 | h8
  · exact h8
  · have := Nat.pow_le_pow_right (n := 10000) (by omega) h8
    omega
theorem MC.step {l m o : List Nat} {i k c d : Nat} (h : MC l m i k c o) (hd : o[k]? = some d) : MC l m i (k + 1) ((c + d) / 10000) (o.set k ((c + d) % 10000)) := by
  unfold MC at h ⊢
  obtain ⟨h1, h2, h3⟩ := h
  refine ⟨h1.set (by omega) _, by simpa using h2, ?_⟩
  have hs := val_set (B := 10000) hd ((c + d) % 10000)
  rw [← h3, Nat.pow_succ, Nat.mul_assoc (10000 ^ k)]
  have e1 : 10000 ^ k * ((c + d) % 10000) + 10000 ^ k * (10000 * ((c + d) / 10000)) = 10000 ^ k * c + 10000 ^ k * d := by
    rw [← Nat.mul_add, ← Nat.mul_add]; congr 1; omega
  omega
theorem MC.done {l m o : List Nat} {i k : Nat} (h : MC l m i k 0 o) : MO l m (i + 1) o := by
  unfold MC at h; unfold MO
  exact ⟨h.1, h.2.1, by simpa using h.2.2⟩
theorem MO.done {l m o : List Nat} (h : MO l m l.length o) : Lt 10000 o ∧ val 10000 o = val 10000 l * val 10000 m := by
  unfold MO at h
  rw [List.take_length] at h
  exact ⟨h.1, h.2.2⟩

set_option maxHeartbeats 1600000 in
theorem refMul_list (v u : Value) (l m : List Nat) (w : World) (h : IsS w .i64 v l) (h' : IsS w .i64 u m) (lt1 : Lt 10000 l) (lt2 : Lt 10000 m) (hl : l.length ≤ 1000000) (hl' : m.length ≤ 1000000) :
    Calls Tryz.prog 48 #[v, u] w (RetS .i64 (digs 10000 (val 10000 l * val 10000 m)) w) := by
  obtain ⟨A, cA, rfl, hc, hm, hr⟩ := h
  obtain ⟨A', cA', rfl, hc', hmm, hr'⟩ := h'
  go_enter Tryz.func48, Tryz.ntmps48
  go_wp2_with (at_make; refine wpList_make_rd rfl _ _ rfl sl33 (l.length + m.length + 1) rfl rfl (by omega) (by omega) (by omega) (Nat.le_refl _) ?_; intro w1 hown1 hb1 hz1)
  go_loopw [6] (fun vi wr => ∃ (i : Nat) (o : List Nat), i ≤ l.length ∧ MO l m i o ∧ Own wr w.heap.size 3 .i64 (.slice (some ⟨w.heap.size, 0, none⟩) (l.length + m.length + 1) (l.length + m.length + 1)) o ∧ Below w.heap.size w wr ∧ vi = .int .i64 (i : Int)) (fun vi _ => l.length - (intOf vi).toNat)
  case atStart => exact ⟨0, _, by omega, MO.start l m, hown1, hb1, rfl⟩
  case round =>
    clear hown1 hb1 hz1
    obtain ⟨i, o, hi, hM, hown, hb, rfl⟩ := hrel
    obtain ⟨wo, rfl⟩ : ∃ wo : World, wo = wr := ⟨_, rfl⟩
    by_cases hlt : i < l.length
    · obtain ⟨ad, a, rfl, ha, hcell⟩ := hr.at_ hlt
      have ha1 := lt1.at ha
      have HA := Lib.hid ha
      have HI := hM.inner (a := a)
      clear hM ha
      go_wp2
      go_loopw [7, 8] (fun vc vj wr => ∃ (j c : Nat) (o : List Nat), j ≤ m.length ∧ c ≤ 9999 ∧ MI l m i a j c o ∧ Own wr w.heap.size 3 .i64 (.slice (some ⟨w.heap.size, 0, none⟩) (l.length + m.length + 1) (l.length + m.length + 1)) o ∧ Below w.heap.size w wr ∧ vc = .int .i64 (c : Int) ∧ vj = .int .i64 (j : Int)) (fun _ vj _ => m.length - (intOf vj).toNat)
      case atStart => exact ⟨0, 0, o, by omega, by omega, HI, hown, hb, rfl, rfl⟩
      case round =>
        clear HI hown hb
        obtain ⟨j, c, o2, hj, hc9, hI, hown, hb, rfl, rfl⟩ := hrel
        have hcl := (hr.below hb).at_ hlt
        by_cases hlt2 : j < m.length
        · obtain ⟨ad', b, rfl, hbj, hcell'⟩ := (hr'.below hb).at_ hlt2
          have hb1 := lt2.at hbj
          obtain ⟨d, hd⟩ : ∃ d, o2[i + j]? = some d := ⟨_, List.getElem?_eq_getElem (by have := hI.2.1; omega)⟩
          have hd1 := hI.1.at hd
          have hc0 := hown.cellAt hd
          have hf0 := hown.frozenAt (i + j)
          have hcell0 := (hb.cell (World.block_lt_of_cell? w _ hcell)).trans hcell
          have HS := Lib.hid (hI.step hd hbj)
          have hpr : a * b ≤ 9999 * 9999 := Nat.mul_le_mul (by omega) (by omega)
          clear hd hbj hI hcl
          have w1 : IntKind.i64.wrap ((i : Int) + (j : Int)) = (i : Int) + (j : Int) := IntWalk.i64_in _ (by omega)
          have w2 : IntKind.i64.wrap ((c : Int) + (d : Int)) = (c : Int) + (d : Int) := IntWalk.i64_in _ (by omega)
          have w3 : IntKind.i64.wrap ((a : Int) * (b : Int)) = (a : Int) * (b : Int) := IntWalk.i64_in _ (by omega)
          have w4 : IntKind.i64.wrap ((c : Int) + (d : Int) + (a : Int) * (b : Int)) = (c : Int) + (d : Int) + (a : Int) * (b : Int) := IntWalk.i64_in _ (by omega)
          go_wp2
          go_quiet (fail)
          clear w1 w2 w3 w4
          go_wp2
          go_roundw
          case rel => exact ⟨j + 1, (c + d + a * b) / 10000, _, by omega, by omega, HS.out, (hown.drewN _).stored' (i + j) ((c + d + a * b) % 10000) (by omega), (below_drewN hb _).setCell (Nat.le_refl _) _, int_eq (by omega), by go_num⟩
          case measure => simp [intOf]; omega
        · obtain rfl : j = m.length := by omega
          have HC := hI.carry HA.out
          clear hI hcl
          go_wp2
          go_loopw [7, 9] (fun vc vk wr => ∃ (k c : Nat) (o : List Nat), k ≤ l.length + m.length ∧ c ≤ 9999 ∧ MC l m i k c o ∧ Own wr w.heap.size 3 .i64 (.slice (some ⟨w.heap.size, 0, none⟩) (l.length + m.length + 1) (l.length + m.length + 1)) o ∧ Below w.heap.size w wr ∧ vc = .int .i64 (c : Int) ∧ vk = .int .i64 (k : Int)) (fun _ vk _ => l.length + m.length + 1 - (intOf vk).toNat)
          case atStart => exact ⟨i + m.length, c, o2, by omega, hc9, HC, hown, hb, rfl, int_eq (by omega)⟩
          case round =>
            clear HC hown hb
            obtain ⟨k, c2, o3, hk, hc9, hC, hown, hb, rfl, rfl⟩ := hrel
            by_cases hp : 0 < c2
            · have hpl := hC.place lt1 lt2 hlt hp
              obtain ⟨d, hd⟩ : ∃ d, o3[k]? = some d := ⟨_, List.getElem?_eq_getElem (by have := hC.2.1; omega)⟩
              have hd1 := hC.1.at hd
              have hc0 := hown.cellAt hd
              have hf0 := hown.frozenAt k
              have HS := Lib.hid (hC.step hd)
              clear hd hC
              go_wp2
              go_roundw
              case rel => exact ⟨k + 1, (c2 + d) / 10000, _, by omega, by omega, HS.out, hown.stored' k ((c2 + d) % 10000) (by omega), hb.setCell (Nat.le_refl _) _, int_eq (by omega), by go_num⟩
              case measure => simp [intOf]; omega
            · obtain rfl : c2 = 0 := by omega
              have HO := hC.done
              clear hC
              go_wp2
              go_roundw
              case rel => exact ⟨i + 1, o3, by omega, HO, hown, hb, by go_num⟩
              case measure => simp [intOf]; omega
    · obtain rfl : i = l.length := by omega
      obtain ⟨g1, g2⟩ := hM.done
      have HV := Lib.hid g2
      have hol : o.length ≤ 1000000000000 := by have := hM.2.1; omega
      have hsz := hb.size
      clear g2 hM
      go_wp2_with fail
      refine (refTrim_any _ _ _ hown.isS g1 hol).mono ?_
      rintro e w' ⟨v2, rfl, hv, hf, hb2⟩
      go_wp2
      go_ret
      exact ⟨_, rfl, by rw [HV.out] at hv; exact hv, hf.mono hsz, hb.trans (hb2.mono hsz)⟩
theorem refMul_any (v u : Value) (x y : Nat) (w : World) (h : IsS w .i64 v (digs 10000 x)) (h' : IsS w .i64 u (digs 10000 y)) (hl : (digs 10000 x).length ≤ 1000000) (hl' : (digs 10000 y).length ≤ 1000000) :
    Calls Tryz.prog 48 #[v, u] w (RetS .i64 (digs 10000 (x * y)) w) := by
  have := refMul_list v u _ _ w h h' (digs_lt (by omega) x) (digs_lt (by omega) y) hl hl'
  rwa [val_digs (by omega), val_digs (by omega)] at this
end Go.Proofs.YtbebmknfecehnaaGreat.nat
namespace Go.Proofs.YtbebmknfecehnaaGreat.nat
open Go.RowKit Go.Proofs.YtbebmknfecehnaaGreat.num Go.Proofs.YtbebmknfecehnaaGreat.mem
set_option linter.unusedVariables false

theorem refCmp_at (v u : Value) (x y : Nat) (t : Int) (w : World) (h : IsS w .i64 v (digs 10000 x)) (h' : IsS w .i64 u (digs 10000 y)) (ht : t = ord x y) :
    Calls Tryz.prog 79 #[v, u] w (RetV (.int .i64 t) w) := by rw [ht]; exact refCmp_any v u x y w h h'
/-- What the search of a digit keeps. -/
def BS (y R lo hi : Nat) : Prop := y * lo ≤ R ∧ R < y * hi
theorem BS.done {y R lo : Nat} (h : BS y R lo (lo + 1)) : lo = R / y := by
  unfold BS at h
  obtain ⟨h1, h2⟩ := h
  have hy : 0 < y := by
    rcases Nat.eq_zero_or_pos y with h3 | h3
    · subst h3; omega
    · exact h3
  have h4 := Nat.div_lt_of_lt_mul h2
  have h5 := (Nat.le_div_iff_mul_le hy).2 (by rw [Nat.mul_comm]; exact h1)
  omega
theorem len_digit {y R : Nat} (h : R < 10000 * y) : (digs 10000 R).length ≤ (digs 10000 y).length + 1 := by
  refine digs_len_le (by omega) ?_
  have := digs_lt_pow (B := 10000) (by omega) y
  rw [Nat.pow_succ]; omega

set_option maxHeartbeats 3200000 in
theorem refDiv_list (v u : Value) (l : List Nat) (y : Nat) (w : World) (h : IsS w .i64 v l) (h' : IsS w .i64 u (digs 10000 y)) (lt1 : Lt 10000 l) (hl : l.length ≤ 100000) (hl' : (digs 10000 y).length ≤ 100000) (hy : 0 < y) :
    Calls Tryz.prog 65 #[v, u] w (RetSS .i64 (digs 10000 (val 10000 l / y)) (digs 10000 (val 10000 l % y)) w) := by
  obtain ⟨A, cA, rfl, hc, hm, hr⟩ := h
  go_enter Tryz.func65, Tryz.ntmps65
  go_wp2_with (at_make; refine wpList_make_rd rfl _ _ rfl sl33 l.length rfl rfl rfl rfl (by omega) (Nat.le_refl _) ?_; intro w1 hown1 hb1 hz1)
  go_loopw [7, 8] (fun vr vi wr => ∃ (k r : Nat) (o : List Nat), k ≤ l.length ∧ r < y ∧ DS l y k r o ∧ Own wr w.heap.size 3 .i64 (.slice (some ⟨w.heap.size, 0, none⟩) l.length l.length) o ∧ w.heap.size < wr.heap.size ∧ IsS wr .i64 vr (digs 10000 r) ∧ Fresh (w.heap.size + 1) vr ∧ Below w.heap.size w wr ∧ vi = .int .i64 ((k : Int) - 1)) (fun _ vi _ => (intOf vi + 1).toNat)
  case atStart => exact ⟨l.length, 0, _, by omega, hy, DS.start l hy, hown1.alloc _, by simp; omega, by rw [digs_zero]; exact (own_lit0 w1 w1.heap.size _ .i64 (Nat.le_refl _)).isS, fresh_at (by omega), hb1.trans (below_alloc (by omega) _), rfl⟩
  case round =>
    clear hown1 hb1 hz1
    obtain ⟨k, r, o, hk, hry, hD, hown, hz, hvr, hfr, hb, rfl⟩ := hrel
    obtain ⟨wo, rfl⟩ : ∃ wo : World, wo = wr := ⟨_, rfl⟩
    by_cases hp : 0 < k
    · obtain ⟨j, rfl⟩ : ∃ j, k = j + 1 := ⟨k - 1, by omega⟩
      obtain ⟨ad, a, rfl, ha, hcell⟩ := (hr.below hb).at_ (i := j) (by omega)
      have ha1 := lt1.at ha
      obtain ⟨R, hR⟩ : ∃ R, R = 10000 * r + a := ⟨_, rfl⟩
      have HD := hD.step ha ha1
      rw [← hR] at HD
      have HR := Lib.hid hR
      have hRy : R < 10000 * y := by omega
      have hlr := digs_len_mono (B := 10000) (by omega) (show r ≤ y by omega)
      have hlR := len_digit hRy
      obtain ⟨A2, c2, rfl, hc2, hm2, hr2⟩ := id hvr
      clear hR hD ha
      have hb0 : Below wo.heap.size wo (wo.alloc (.cells #[.int .i64 (a : Int)] 3)) := below_alloc (Nat.le_refl _) _
      go_wp2_with (at_builtin; refine wpList_append_rd rfl _ _ rfl sl33 rfl (own_lit1 (d := a) wo wo.heap.size _ .i64 rfl (Nat.le_refl _)) rfl (news := digs 10000 r) rfl (hr2.below hb0) (by simp; omega) (by simp) ?_; intro v' w1 hown1 hb1 hg1)
      have hb2 := hb0.trans hb1
      have hsz2 := hb2.size
      have hv1 := hown1.isS
      have hd1 : Lt 10000 ([a] ++ digs 10000 r) := (Lt.cons ha1 (Lt.nil _)).append (digs_lt (by omega) r)
      have he1 : val 10000 ([a] ++ digs 10000 r) = R := by rw [val_append, val_digs (by omega), HR.out]; simp [val]; omega
      have HE := Lib.hid he1
      clear he1
      refine (refTrim_any _ _ _ hv1 hd1 (by simp; omega)).mono ?_
      rintro e w2 ⟨v2, rfl, hv2, hf2, hb3⟩
      rw [HE.out] at hv2
      have hb4 := hb2.trans (hb3.mono hsz2)
      have hsz4 := hb4.size
      have hsz3 := hb3.size
      have hown2 := hown.below hb4
      have hf3 : Fresh (w.heap.size + 1) v2 := hf2.mono (by omega)
      have hb5 := hb.trans (hb4.mono (by omega))
      have hz5 : w.heap.size < w2.heap.size := by omega
      clear hb0 hb1 hg1 hown1 hv1 hd1 hb2 hb3 hb4 hf2 hr2 hvr hfr hcell hown HE hb
      go_wp2
      go_loopw [9, 10] (fun vlo vhi wr => ∃ (lo hi : Nat), lo < hi ∧ hi ≤ 10000 ∧ BS y R lo hi ∧ Below w2.heap.size w2 wr ∧ vlo = .int .i64 (lo : Int) ∧ vhi = .int .i64 (hi : Int)) (fun vlo vhi _ => (intOf vhi - intOf vlo).toNat)
      case atStart => exact ⟨0, 10000, by omega, by omega, by unfold BS; omega, Below.refl _ _, rfl, rfl⟩
      case round =>
        obtain ⟨lo, hi, hlh, hhi, hB, hbi, rfl, rfl⟩ := hrel
        have hszi := hbi.size
        have hui := h'.below (hb5.trans (hbi.mono (by omega)) |>.mono (by omega))
        have hvi := hv2.below hbi
        by_cases hgo : 1 < hi - lo
        · obtain ⟨mid, hmid⟩ : ∃ mid, mid = (lo + hi) / 2 := ⟨_, rfl⟩
          have hm1 : lo < mid := by omega
          have hm2 : mid < hi := by omega
          have hm3 : (lo + hi) / 2 ≤ mid := by omega
          have hm4 : mid ≤ (lo + hi) / 2 := by omega
          clear hmid
          go_wp2_with fail
          refine (mulAdd_any _ y _ _ mid 0 _ (by omega) rfl hui (by omega) (by omega) (by omega) (y * mid) (by omega)).mono ?_
          rintro e w3 ⟨v3, rfl, hv3, hf3', hb6⟩
          have hvi3 := hvi.below hb6
          have hsz6 := hb6.size
          by_cases hle : y * mid ≤ R
          · obtain ⟨t, ht⟩ : ∃ t, t = ord (y * mid) R := ⟨_, rfl⟩
            have ht0 : t ≤ 0 := by rw [ht]; exact ord_le0.2 hle
            have HT := Lib.hid ht
            have HB : BS y R mid hi := by unfold BS at hB ⊢; exact ⟨hle, hB.2⟩
            clear ht hB hle
            go_wp2_with fail
            refine (refCmp_at _ _ _ _ t _ hv3 hvi3 HT.out).mono ?_
            rintro e w4 ⟨rfl, hb7⟩
            go_wp2
            go_roundw
            case rel => exact ⟨mid, hi, by omega, by omega, HB, hbi.trans ((hb6.trans (hb7.mono hsz6)).mono hszi), int_eq (by omega), rfl⟩
            case measure => simp [intOf]; omega
          · obtain ⟨t, ht⟩ : ∃ t, t = ord (y * mid) R := ⟨_, rfl⟩
            have ht0 : 0 < t := by
              have := (ord_le0 (x := y * mid) (y := R)).1
              rw [ht]; omega
            have HT := Lib.hid ht
            have HB : BS y R lo mid := by unfold BS at hB ⊢; exact ⟨hB.1, by omega⟩
            clear ht hB hle
            go_wp2_with fail
            refine (refCmp_at _ _ _ _ t _ hv3 hvi3 HT.out).mono ?_
            rintro e w4 ⟨rfl, hb7⟩
            go_wp2
            go_roundw
            case rel => exact ⟨lo, mid, by omega, by omega, HB, hbi.trans ((hb6.trans (hb7.mono hsz6)).mono hszi), rfl, int_eq (by omega)⟩
            case measure => simp [intOf]; omega
        · obtain rfl : hi = lo + 1 := by omega
          have hq := hB.done
          clear hB
          have HQ := Lib.hid hq
          rw [← hq] at HD
          clear hq
          have hownI := hown2.below hbi
          obtain ⟨x, hx⟩ : ∃ x, o[j]? = some x := ⟨_, List.getElem?_eq_getElem (by have := HD.2.1; rw [List.length_set] at this; omega)⟩
          have hc0 := hownI.cellAt hx
          have hf0 := hownI.frozenAt j
          have hownS := hownI.stored j lo
          have hbS : Below w.heap.size w (wr.setCell ⟨w.heap.size, j, none⟩ (.int .i64 (lo : Int))) := (hb5.trans (hbi.mono (by omega))).setCell (Nat.le_refl _) _
          have hviS := hvi.setCell (p := ⟨w.heap.size, j, none⟩) hf3 (Nat.lt_succ_self _) (.int .i64 (lo : Int))
          have hrm : R % y < y := Nat.mod_lt _ hy
          have hszS : (wr.setCell ⟨w.heap.size, j, none⟩ (.int .i64 (lo : Int))).heap.size = wr.heap.size := by simp [World.setCell]
          have HSZ := Lib.hid hszS
          clear hx hszS hownI
          go_wp2_with fail
          refine (mulAdd_any _ y _ _ lo 0 _ (by omega) rfl (h'.below hbS) (by omega) (by omega) (by omega) (y * lo) (by omega)).mono ?_
          rintro e w3 ⟨v3, rfl, hv3, hf3', hb6⟩
          have hsz6 := hb6.size
          rw [HSZ.out] at hsz6
          go_wp2_with fail
          refine (refSub_any _ _ R (y * lo) _ (hviS.below hb6) hv3 (by omega) (by rw [HQ.out]; exact Nat.mul_div_le R y) (R % y) (by have := Nat.mod_add_div R y; rw [HQ.out]; omega)).mono ?_
          rintro e w4 ⟨v4, rfl, hv4, hf4, hb7⟩
          have hsz7 := hb7.size
          have hb8 := hbS.trans ((hb6.mono (by rw [HSZ.out]; omega)).trans (hb7.mono (by omega)))
          have hown4 := (hownS.below hb6).below hb7
          go_wp2
          go_roundw
          case rel => exact ⟨j, R % y, _, by omega, hrm, HD, hown4, by omega, hv4, hf4.mono (by omega), hb8, by go_num⟩
          case measure => simp [intOf]
    · obtain rfl : k = 0 := by omega
      obtain ⟨g1, g2, g3, g4⟩ := hD.done
      have H3 := Lib.hid g3
      have H4 := Lib.hid g4
      have hol : o.length ≤ 1000000000000 := by omega
      have hsz := hb.size
      clear g2 g3 g4 hD
      go_wp2_with fail
      refine (refTrim_any _ _ _ hown.isS g1 hol).mono ?_
      rintro e w' ⟨v2, rfl, hv, hf, hb2⟩
      go_wp2
      go_ret2
      exact ⟨_, _, rfl, by rw [H3.out] at hv; exact hv, by rw [← H4.out]; exact hvr.below hb2, hf.mono hsz, hfr.mono (by omega), hb.trans (hb2.mono hsz)⟩
theorem refDiv_any (v u : Value) (x y : Nat) (w : World) (h : IsS w .i64 v (digs 10000 x)) (h' : IsS w .i64 u (digs 10000 y)) (hl : (digs 10000 x).length ≤ 100000) (hl' : (digs 10000 y).length ≤ 100000) (hy : 0 < y) :
    Calls Tryz.prog 65 #[v, u] w (RetSS .i64 (digs 10000 (x / y)) (digs 10000 (x % y)) w) := by
  have := refDiv_list v u _ y w h h' (digs_lt (by omega) x) hl hl' hy
  rwa [val_digs (by omega)] at this
end Go.Proofs.YtbebmknfecehnaaGreat.nat
