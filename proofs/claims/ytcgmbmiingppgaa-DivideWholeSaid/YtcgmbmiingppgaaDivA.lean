/- Package limb: Div; package divide: trimmed, Small. Condition: slices read as limbs. -/
import Derived.Test.YtcgmbmiingppgaaMulE
import Derived.Test.YtcgmbmiingppgaaDivN
namespace Go.Proofs.Ytcgmbmiingppgaa.limb
open Go.RowKit
set_option linter.unusedVariables false
def DivSpec (hi lo d q r e : Int) : Prop :=
  (d % 4294967296 = 0 ∧ q = 0 ∧ r = 0 ∧ e = 3) ∨ (0 < d % 4294967296 ∧ d % 4294967296 ≤ hi % 4294967296 ∧ q = 0 ∧ r = 0 ∧ e = 2) ∨
  (hi % 4294967296 < d % 4294967296 ∧ 0 ≤ q ∧ q < 4294967296 ∧ 0 ≤ r ∧ r < d % 4294967296 ∧ q * (d % 4294967296) + r = (hi % 4294967296) * 4294967296 + lo % 4294967296 ∧ e = 0)
theorem DivSpec.of {hi lo d : Int} (h0 : 0 ≤ hi % 4294967296) (h : hi % 4294967296 < d % 4294967296) (l0 : 0 ≤ lo % 4294967296 ∧ lo % 4294967296 < 4294967296) :
    DivSpec hi lo d ((hi % 4294967296 * 4294967296 + lo % 4294967296) / (d % 4294967296)) ((hi % 4294967296 * 4294967296 + lo % 4294967296) % (d % 4294967296)) 0 := by
  unfold DivSpec
  refine Or.inr (Or.inr ⟨h, Int.ediv_nonneg (by omega) (by omega), ?_, Int.emod_nonneg _ (by omega), Int.emod_lt_of_pos _ (by omega), ?_, rfl⟩)
  · exact Int.ediv_lt_of_lt_mul (by omega) (by omega)
  · rw [Int.mul_comm]; exact Int.mul_ediv_add_emod _ _
theorem div_any (hi lo d : Int) (a0 : 0 ≤ hi) (a1 : hi ≤ 18446744073709551615) (b0 : 0 ≤ lo) (b1 : lo ≤ 18446744073709551615) (c0 : 0 ≤ d) (c1 : d ≤ 18446744073709551615) (w : World) :
    Calls Try.prog 35 #[.int .u64 hi, .int .u64 lo, .int .u64 d] w fun e w' =>
      ∃ q r x, e = .returned (.tuple #[.int .u64 q, .int .u64 r, .int .i64 x]) ∧ DivSpec hi lo d q r x ∧ ∃ n, w' = w.drewN n := by
  by_cases hd : d % 4294967296 = 0
  · go_enter Try.func35, Try.ntmps35
    go_wp2_with (first | (go_at_call 45; refine (low_any _ (by omega) (by omega) _).mono ?_; rintro e w' ⟨rfl, rfl⟩))
    go_ret3
    exact ⟨_, _, _, rfl, by unfold DivSpec; omega, 0, rfl⟩
  · by_cases hh : d % 4294967296 ≤ hi % 4294967296
    · go_enter Try.func35, Try.ntmps35
      go_wp2_with (first | (go_at_call 45; refine (low_any _ (by omega) (by omega) _).mono ?_; rintro e w' ⟨rfl, rfl⟩))
      go_ret3
      exact ⟨_, _, _, rfl, by unfold DivSpec; omega, 0, rfl⟩
    · go_enter Try.func35, Try.ntmps35
      go_wp2_with (first | (go_at_call 45; refine (low_any _ (by omega) (by omega) _).mono ?_; rintro e w' ⟨rfl, rfl⟩))
      go_quiet (fail)
      go_wp2
      go_ret3
      exact ⟨_, _, _, rfl, DivSpec.of (by omega) (by omega) (by omega), nq, rfl⟩
end Go.Proofs.Ytcgmbmiingppgaa.limb
namespace Go.Proofs.Ytcgmbmiingppgaa.nat
open Go.RowKit Go.Proofs.Ytcgmbmiingppgaa.num Go.Proofs.Ytcgmbmiingppgaa.mem Go.Proofs.Ytcgmbmiingppgaa.limb
set_option linter.unusedVariables false

theorem nat_divmod {D N q r : Nat} (hr : r < D) (h : q * D + r = N) : q = N / D ∧ r = N % D := by
  subst h
  constructor
  · rw [Nat.mul_comm, Nat.mul_add_div (by omega), Nat.div_eq_of_lt hr, Nat.add_zero]
  · rw [Nat.mul_comm, Nat.mul_add_mod, Nat.mod_eq_of_lt hr]
/-- limb.Div ends with a quotient that is a limb, and what is left. -/
theorem div_ok (hiI loI dI : Int) (hi lo d q r : Nat) (w : World) (h1 : hiI = (hi : Int)) (h2 : loI = (lo : Int)) (h3 : dI = (d : Int)) (lh : hi < d % 4294967296) (ll : lo < 4294967296) (ld : d < 18446744073709551616) (hr : r < d % 4294967296) (he : q * (d % 4294967296) + r = hi * 4294967296 + lo) :
    Calls Try.prog 35 #[.int .u64 hiI, .int .u64 loI, .int .u64 dI] w fun e w' => e = .returned (.tuple #[.int .u64 (q : Int), .int .u64 (r : Int), .int .i64 0]) ∧ ∃ n, w' = w.drewN n := by
  subst h1; subst h2; subst h3
  refine (limb.div_any _ _ _ (by omega) (by omega) (by omega) (by omega) (by omega) (by omega) w).mono ?_
  rintro e w' ⟨q', r', x, rfl, hs, hn⟩
  unfold DivSpec at hs
  rcases hs with ⟨g, _⟩ | ⟨_, g, _⟩ | ⟨g1, g2, g3, g4, g5, g6, rfl⟩
  · omega
  · omega
  · obtain ⟨q', rfl⟩ := Int.eq_ofNat_of_zero_le g2
    obtain ⟨r', rfl⟩ := Int.eq_ofNat_of_zero_le g4
    have e1 : (d : Int) % 4294967296 = ((d % 4294967296 : Nat) : Int) := by omega
    have e2 : ((q' * (d % 4294967296) : Nat) : Int) = (q' : Int) * ((d % 4294967296 : Nat) : Int) := Int.natCast_mul _ _
    rw [e1] at g5 g6
    rw [← e2] at g6
    have a := nat_divmod hr he
    have b := nat_divmod (q := q') (r := r') (D := d % 4294967296) (by omega) (N := hi * 4294967296 + lo) (by omega)
    rw [a.1, a.2, ← b.1, ← b.2]
    exact ⟨rfl, hn⟩
/-- limb.Div ends with ErrArg. -/
theorem div_top (hiI loI dI : Int) (hi lo d : Nat) (w : World) (h1 : hiI = (hi : Int)) (h2 : loI = (lo : Int)) (h3 : dI = (d : Int)) (lh : d ≤ hi) (lh2 : hi < 4294967296) (ll : lo < 4294967296) (hd : 0 < d) :
    Calls Try.prog 35 #[.int .u64 hiI, .int .u64 loI, .int .u64 dI] w fun e w' => e = .returned (.tuple #[.int .u64 0, .int .u64 0, .int .i64 2]) ∧ ∃ n, w' = w.drewN n := by
  subst h1; subst h2; subst h3
  refine (limb.div_any _ _ _ (by omega) (by omega) (by omega) (by omega) (by omega) (by omega) w).mono ?_
  rintro e w' ⟨q', r', x, rfl, hs, hn⟩
  unfold DivSpec at hs
  obtain ⟨rfl, rfl, rfl⟩ : q' = 0 ∧ r' = 0 ∧ x = 2 := by omega
  exact ⟨rfl, hn⟩

set_option maxHeartbeats 400000 in
theorem dtrimmed_any (A : Option Addr) (n c : Nat) (l : List Nat) (w : World) (hn : n = l.length) (hc : l.length ≤ c) (hm : c ≤ maxLen) (hr : Rd w A .u64 l) :
    Calls Try.prog 34 #[.slice A n c] w (RetCut A c l w) := by
  subst hn
  unfold maxLen at hm
  go_enter Try.func34, Try.ntmps34
  go_wp2
  go_loop [0] (fun vs => ∃ n : Nat, n ≤ l.length ∧ Hid (trim (l.take n) = trim l) ∧ vs = .slice A n c) (fun vs => lenOf vs)
  case atStart => exact ⟨l.length, Nat.le_refl _, by rw [List.take_length]; rfl, rfl⟩
  case round =>
    obtain ⟨n, hn, ht, rfl⟩ := hrel
    by_cases hp : 0 < n
    · obtain ⟨n, rfl⟩ : ∃ m, n = m + 1 := ⟨n - 1, by omega⟩
      obtain ⟨ad, d, rfl, hd, hcell⟩ := hr.at_ (i := n) (by omega)
      have HD := Lib.hid hd
      clear hd
      by_cases hz : d = 0
      · subst hz
        go_wp2
        go_round
        case rel => exact ⟨n, by omega, by have h1 := ht.out; rw [trim_take0 HD.out] at h1; exact h1, rfl⟩
        case measure => simp [lenOf]
      · have hz1 : ((d : Int) == 0) = false := by rw [beq_eq_false_iff_ne]; omega
        have e : trim l = l.take (n + 1) := by have h1 := ht.out; rw [trim_of_take HD.out hz] at h1; exact h1.symm
        have el : (trim l).length = n + 1 := by rw [e]; simp; omega
        have HEL := Lib.hid el
        clear e el hz
        go_wp2
        go_ret
        exact ⟨by rw [HEL.out]; rfl, rfl⟩
    · obtain rfl : n = 0 := by omega
      have e : trim l = [] := by have h1 := ht.out; rw [List.take_zero] at h1; exact h1.symm
      have HE := Lib.hid e
      clear e
      go_wp2
      go_ret
      exact ⟨by rw [HE.out]; rfl, rfl⟩

/-- The call ends with a new slice, a limb, and an error. -/
def RetSUE (l : List Nat) (r : Nat) (x : Int) (w : World) (e : Ending) (w' : World) : Prop := ∃ v, e = .returned (.tuple #[v, .int .u64 (r : Int), .int .i64 x]) ∧ IsS w' .u64 v l ∧ Fresh w.heap.size v ∧ Below w.heap.size w w'
/-- The call ends with two new slices, and an error. -/
def RetSSE (l m : List Nat) (x : Int) (w : World) (e : Ending) (w' : World) : Prop := ∃ v u, e = .returned (.tuple #[v, u, .int .i64 x]) ∧ IsS w' .u64 v l ∧ IsS w' .u64 u m ∧ Fresh w.heap.size v ∧ Fresh w.heap.size u ∧ Below w.heap.size w w'

set_option maxHeartbeats 400000 in
theorem dsmall_no (v : Value) (dI : Int) (d : Nat) (w : World) (hdI : dI = (d : Int)) (ld : d < 18446744073709551616) (hd : d % 4294967296 = 0) :
    Calls Try.prog 13 #[v, .int .u64 dI] w (RetSUE [] 0 3 w) := by
  subst hdI
  have h1 : (d : Int) ≤ 18446744073709551615 := by omega
  have h2 : (((d : Int) % 4294967296) == 0) = true := by rw [beq_iff_eq]; omega
  clear hd
  go_enter Try.func13, Try.ntmps13
  go_wp2
  go_ret3
  exact ⟨_, rfl, isNil _ _, fresh_nil _, Below.refl _ _⟩

set_option maxHeartbeats 1600000 in
theorem dsmall_ok (v : Value) (x : Nat) (dI : Int) (d q r : Nat) (w : World) (hdI : dI = (d : Int)) (ld : d < 18446744073709551616) (hd : 0 < d % 4294967296) (h : IsS w .u64 v (digs 4294967296 x)) (hl : (digs 4294967296 x).length ≤ 1000000) (hq : q = x / (d % 4294967296)) (hr : r = x % (d % 4294967296)) :
    Calls Try.prog 13 #[v, .int .u64 dI] w (RetSUE (digs 4294967296 q) r 0 w) := by
  subst hdI
  have lx := digs_lt (B := 4294967296) (by omega) x
  have HQ : Hid (q = val 4294967296 (digs 4294967296 x) / (d % 4294967296)) := by show _ = _; rw [val_digs (by omega)]; exact hq
  have HR : Hid (r = val 4294967296 (digs 4294967296 x) % (d % 4294967296)) := by show _ = _; rw [val_digs (by omega)]; exact hr
  clear hq hr
  generalize digs 4294967296 x = xl at h hl lx HQ HR
  obtain ⟨A, k, rfl, hk, hm, hr⟩ := h
  unfold maxLen at hm
  have h1 : (d : Int) ≤ 18446744073709551615 := by omega
  have h2 : (((d : Int) % 4294967296) == 0) = false := by rw [beq_eq_false_iff_ne]; omega
  go_enter Try.func13, Try.ntmps13
  go_wp2_with (at_make; refine wpList_make_rd rfl _ _ rfl sl24 xl.length rfl rfl (by omega) (by omega) (by omega) (Nat.le_refl _) ?_; intro w1 hown1 hb1 hsz1)
  go_loopw [8, 19] (fun vr vi wr => ∃ (i r : Nat) (P : List Nat), i ≤ xl.length ∧ r < d % 4294967296 ∧ Hid (DQ 4294967296 xl (d % 4294967296) (xl.length - i) r P) ∧ Own wr w.heap.size 30 .u64 (.slice (some ⟨w.heap.size, 0, none⟩) xl.length xl.length) P ∧ Below w.heap.size w wr ∧ vr = .int .u64 (r : Int) ∧ vi = .int .i64 (i : Int)) (fun _ vi _ => xl.length - (intOf vi).toNat)
  case atStart => exact ⟨0, 0, _, by omega, hd, DQ.start (by omega) xl hd, hown1, hb1, rfl, rfl⟩
  case round =>
    clear hown1 hb1 hsz1
    obtain ⟨i, r0, P, hi, hr0, HDQ, hown, hb, rfl, rfl⟩ := hrel
    by_cases hlt : i < xl.length
    · obtain ⟨j, hj⟩ : ∃ j, j = xl.length - 1 - i := ⟨_, rfl⟩
      have hj2 : xl.length - i = j + 1 := by omega
      have hjI : (xl.length : Int) - 1 - (i : Int) = (j : Int) := by omega
      have hjl : j < xl.length := by omega
      obtain ⟨ad, x, rfl, hx, hcell⟩ := (hr.below hb).at_ hjl
      have hx1 := lx.at hx
      have hD := HDQ.out
      rw [hj2] at hD
      have HJ : Hid (xl.length - (i + 1) = j) := by show _ = _; omega
      obtain ⟨a', ha'⟩ : ∃ a', P[j]? = some a' := ⟨_, List.getElem?_eq_getElem (by have := hD.2.1; omega)⟩
      have hc0 := hown.cellAt ha'
      have hf0 := hown.frozenAt j
      obtain ⟨q1, hq1⟩ : ∃ q1, q1 = (r0 * 4294967296 + x) / (d % 4294967296) := ⟨_, rfl⟩
      obtain ⟨s1, hs1⟩ : ∃ s1, s1 = (r0 * 4294967296 + x) % (d % 4294967296) := ⟨_, rfl⟩
      have hs2 : s1 < d % 4294967296 := by rw [hs1]; exact Nat.mod_lt _ hd
      have he : q1 * (d % 4294967296) + s1 = r0 * 4294967296 + x := by rw [hq1, hs1, Nat.mul_comm]; exact Nat.div_add_mod _ _
      have hq2 : q1 < 4294967296 := by rw [hq1]; exact Nat.div_lt_of_lt_mul (by omega)
      have HS : Hid (DQ 4294967296 xl (d % 4294967296) j s1 (P.set j q1)) := hD.step hx hq2 hs2 (by rw [Nat.mul_comm 4294967296]; exact he)
      have HE := Lib.hid he
      clear hj hj2 hx ha' hq1 hs1 he hD
      go_wp2_with fail
      refine (div_ok _ _ _ r0 x d q1 s1 _ rfl rfl rfl hr0 hx1 ld hs2 HE.out).mono ?_
      rintro e1 w2 ⟨rfl, n2, rfl⟩
      have hown2 := hown.stored j q1
      have hb2 : Below w.heap.size w (wr.setCell ⟨w.heap.size, j, none⟩ (.int .u64 (q1 : Int))) := hb.setCell (Nat.le_refl _) _
      go_wp2
      go_roundw
      case rel => exact ⟨i + 1, s1, _, by omega, hs2, by rw [HJ.out]; exact HS, hown2, below_drewN hb2 _, rfl, by go_num⟩
      case measure => simp [intOf]; omega
    · obtain rfl : i = xl.length := by omega
      have hD := HDQ.out
      rw [Nat.sub_self] at hD
      obtain ⟨g1, g2, g3, g4⟩ := hD.done
      rw [← HQ.out] at g3
      rw [← HR.out] at g4
      have hT := trim_digs (by omega) g1
      rw [g3] at hT
      have HT := Lib.hid hT
      have H4 := Lib.hid g4
      obtain ⟨A2, c2, e2, hc2, hm2, hr2⟩ := hown.isS
      injection e2 with e2 e3 e4
      subst e2; subst e4
      have hfr := hown.fresh
      have HL := Lib.hid e3
      clear hT g2 g3 g4 hD e3
      go_wp2_with fail
      refine (dtrimmed_any _ _ _ P _ HL.out hc2 hm2 hr2).mono ?_
      rintro e w' ⟨rfl, rfl⟩
      rw [HT.out]
      go_wp2
      go_ret3
      refine ⟨_, by rw [H4.out]; rfl, ?_, hfr.cut _ _, hb⟩
      have := hr2.isTake (trim_len_le P) hc2 hm2
      rw [← trim_prefix, HT.out] at this
      exact this
end Go.Proofs.Ytcgmbmiingppgaa.nat
