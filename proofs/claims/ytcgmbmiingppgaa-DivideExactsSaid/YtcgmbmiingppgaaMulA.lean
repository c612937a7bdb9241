/- Package mul: trimmed, Long, Small. Condition: slices read as limbs. -/
import Derived.Test.YtcgmbmiingppgaaNatG
import Derived.Test.YtcgmbmiingppgaaMulN
namespace Go.Proofs.Ytcgmbmiingppgaa.mem
open Go.RowKit
set_option linter.unusedVariables false
/-- A row of its full length: its block whole. -/
theorem Own.whole {w : World} {base : Nat} {e : TypeId} {k : IntKind} {g n : Nat} {l : List Nat} (h : Own w base e k (.slice (some ⟨g, 0, none⟩) n n) l) : w.heap[g]? = some (.cells (nv k l).toArray e (0, 0)) ∧ base ≤ g ∧ n = l.length ∧ n ≤ maxLen := by
  obtain rfl := h.len_eq
  rcases h.2 with ⟨h1, _⟩ | ⟨g', cap, cur, h1, hb, hg, hn, hm, hs, ht⟩
  · cases h1
  · injection h1 with h1 h2 h3
    injection h1 with h1
    injection h1 with h1 _ _
    subst h1
    refine ⟨?_, hb, rfl, by omega⟩
    rw [hg, ← ht, List.take_of_length_le (by simp; omega)]
theorem own_of_whole {w : World} {base : Nat} {e : TypeId} {k : IntKind} {g n : Nat} {l : List Nat} (hg : w.heap[g]? = some (.cells (nv k l).toArray e (0, 0))) (hb : base ≤ g) (hn : n = l.length) (hm : n ≤ maxLen) : Own w base e k (.slice (some ⟨g, 0, none⟩) n n) l := by
  subst hn
  refine ⟨by simp [nv], Or.inr ⟨g, _, _, rfl, hb, hg, Nat.le_refl _, hm, by simp [nv], by rw [← nv_len k l]; simp⟩⟩
open Go.Proofs.Ytcgmbmiingppgaa.num in
theorem Own.cutEnd {w : World} {base : Nat} {e : TypeId} {k : IntKind} {g n cap m : Nat} {l : List Nat} (h : Own w base e k (.slice (some ⟨g, 0, none⟩) n cap) l) (hm : m ≤ l.length) : Own w base e k (.slice (some ⟨g, 0, none⟩) m cap) (l.take m) := by
  obtain rfl := h.len_eq
  have hl : (l.take m).length = m := by simp; omega
  rcases h.2 with ⟨h1, _⟩ | ⟨g', cap', cur, h1, hb, hg, hn, hmx, hs, ht⟩
  · cases h1
  · injection h1 with h1 h2 h3
    injection h1 with h1
    injection h1 with h1 _ _
    subst h1; subst h3
    refine ⟨by simp [nv], Or.inr ⟨g, cap, cur, by rw [hl], hb, hg, by omega, hmx, hs, ?_⟩⟩
    rw [Nat.mul_one] at ht ⊢
    rw [hl, show nv k (l.take m) = (nv k l).take m from by simp [nv, List.map_take], ← ht, List.take_take, Nat.min_eq_left hm]
open Go.Proofs.Ytcgmbmiingppgaa.num in
theorem Own.trimmed {w : World} {base : Nat} {e : TypeId} {k : IntKind} {g n cap : Nat} {l : List Nat} (h : Own w base e k (.slice (some ⟨g, 0, none⟩) n cap) l) : Own w base e k (.slice (some ⟨g, 0, none⟩) (num.trim l).length cap) (num.trim l) := by
  have := h.cutEnd (trim_len_le l)
  rwa [← trim_prefix] at this
end Go.Proofs.Ytcgmbmiingppgaa.mem
namespace Go.Proofs.Ytcgmbmiingppgaa.nat
open Go.RowKit Go.Proofs.Ytcgmbmiingppgaa.num Go.Proofs.Ytcgmbmiingppgaa.mem Go.Proofs.Ytcgmbmiingppgaa.limb
set_option linter.unusedVariables false

/-- mul.trimmed ends with the same slice, as long as it is without the noughts at its end. -/
def RetCut (A : Option Addr) (c : Nat) (l : List Nat) (w : World) (e : Ending) (w' : World) : Prop := e = .returned (.slice A (trim l).length c) ∧ w' = w
set_option maxHeartbeats 400000 in
theorem mtrimmed_any (A : Option Addr) (n c : Nat) (l : List Nat) (w : World) (hn : n = l.length) (hc : l.length ≤ c) (hm : c ≤ maxLen) (hr : Rd w A .u64 l) :
    Calls Try.prog 43 #[.slice A n c] w (RetCut A c l w) := by
  subst hn
  unfold maxLen at hm
  go_enter Try.func43, Try.ntmps43
  go_wp2
  go_loop [0] (fun vs => ∃ n : Nat, n ≤ l.length ∧ Hid (trim (l.take n) = trim l) ∧ vs = .slice A n c) (fun vs => lenOf vs)
  case atStart => exact ⟨l.length, Nat.le_refl _, by rw [List.take_length]; rfl, rfl⟩
  case round =>
    obtain ⟨n, hn, ht, rfl⟩ := hrel
    by_cases hp : 0 < n
    · obtain ⟨n, rfl⟩ : ∃ m, n = m + 1 := ⟨n - 1, by omega⟩
      obtain ⟨ad, d, rfl, hd, hcell⟩ := hr.at_ (i := n) (by omega)
      have HD := Lib.hid hd
      clear hd
      by_cases hz : d = 0
      · subst hz
        go_wp2
        go_round
        case rel => exact ⟨n, by omega, by have h1 := ht.out; rw [trim_take0 HD.out] at h1; exact h1, rfl⟩
        case measure => simp [lenOf]
      · have hz1 : ((d : Int) == 0) = false := by rw [beq_eq_false_iff_ne]; omega
        have e : trim l = l.take (n + 1) := by have h1 := ht.out; rw [trim_of_take HD.out hz] at h1; exact h1.symm
        have el : (trim l).length = n + 1 := by rw [e]; simp; omega
        have HEL := Lib.hid el
        clear e el hz
        go_wp2
        go_ret
        exact ⟨by rw [HEL.out]; rfl, rfl⟩
    · obtain rfl : n = 0 := by omega
      have e : trim l = [] := by have h1 := ht.out; rw [List.take_zero] at h1; exact h1.symm
      have HE := Lib.hid e
      clear e
      go_wp2
      go_ret
      exact ⟨by rw [HE.out]; rfl, rfl⟩

/-- limb.Mul ends with two limbs that make so much. -/
def RetM (a b c d : Nat) (w : World) (e : Ending) (w' : World) : Prop := ∃ s o : Nat, e = .returned (.tuple #[.int .u64 (s : Int), .int .u64 (o : Int)]) ∧ s < 4294967296 ∧ o < 4294967296 ∧ s + 4294967296 * o = a * (b % 4294967296) + c + d ∧ w = w'
theorem mul_nat (aI bI cI dI : Int) (a b c d : Nat) (w : World) (ha : aI = (a : Int)) (hb : bI = (b : Int)) (hc : cI = (c : Int)) (hd : dI = (d : Int)) (la : a < 4294967296) (lb : b < 18446744073709551616) (lc : c < 4294967296) (ld : d < 4294967296) :
    Calls Try.prog 42 #[.int .u64 aI, .int .u64 bI, .int .u64 cI, .int .u64 dI] w (RetM a b c d w) := by
  subst ha; subst hb; subst hc; subst hd
  refine (limb.mul_any _ _ _ _ (by omega) (by omega) (by omega) (by omega) (by omega) (by omega) (by omega) (by omega) w).mono ?_
  rintro e w' ⟨s, o, rfl, hs, rfl⟩
  unfold MulSpec at hs
  obtain ⟨s0, s1, o0, o1, he⟩ := hs
  obtain ⟨s, rfl⟩ := Int.eq_ofNat_of_zero_le s0
  obtain ⟨o, rfl⟩ := Int.eq_ofNat_of_zero_le o0
  refine ⟨s, o, rfl, by omega, by omega, ?_, rfl⟩
  rw [Int.emod_eq_of_lt (by omega) (show (a : Int) < 4294967296 by omega), Int.emod_eq_of_lt (by omega) (show (c : Int) < 4294967296 by omega), Int.emod_eq_of_lt (by omega) (show (d : Int) < 4294967296 by omega)] at he
  have e2 : (b : Int) % 4294967296 = ((b % 4294967296 : Nat) : Int) := by omega
  rw [e2] at he
  have e3 : ((a * (b % 4294967296) : Nat) : Int) = (a : Int) * ((b % 4294967296 : Nat) : Int) := Int.natCast_mul _ _
  omega

set_option maxHeartbeats 1600000 in
theorem long_list (v u : Value) (xl yl : List Nat) (w : World) (h : IsS w .u64 v xl) (h' : IsS w .u64 u yl) (lx : Lt 4294967296 xl) (ly : Lt 4294967296 yl) (hl : xl.length ≤ 1000000) (hl' : yl.length ≤ 1000000) :
    Calls Try.prog 54 #[v, u] w (RetS .u64 (digs 4294967296 (val 4294967296 xl * val 4294967296 yl)) w) := by
  obtain ⟨A, c, rfl, hc, hm, hr⟩ := h
  obtain ⟨A', c', rfl, hc', hm', hr'⟩ := h'
  unfold maxLen at hm hm'
  have hgood : ∀ n : Nat, n ≤ 2000000 → n ≤ maxLen := fun n hn => by unfold maxLen; omega
  go_enter Try.func54, Try.ntmps54
  go_wp2_with (at_make; refine wpList_make_rd rfl _ _ rfl sl24 (xl.length + yl.length) rfl rfl (by omega) (by omega) (by omega) (Nat.le_refl _) ?_; intro w1 hown1 hb1 hsz1)
  go_loopw [20] (fun vi wr => ∃ (i : Nat) (P : List Nat), i ≤ xl.length ∧ LO 4294967296 xl yl P i ∧ Own wr w.heap.size 30 .u64 (.slice (some ⟨w.heap.size, 0, none⟩) (xl.length + yl.length) (xl.length + yl.length)) P ∧ Below w.heap.size w wr ∧ vi = .int .i64 (i : Int)) (fun vi _ => xl.length - (intOf vi).toNat)
  case atStart => exact ⟨0, _, by omega, LO.start (by omega) xl yl rfl, hown1, hb1, rfl⟩
  case round =>
    clear hown1 hb1 hsz1
    obtain ⟨i, P, hi, HO, hown, hb, rfl⟩ := hrel
    by_cases hlt : i < xl.length
    · obtain ⟨ad, x, rfl, hx, hcell⟩ := (hr.below hb).at_ hlt
      have HI := HO.enter (by omega) lx ly hlt x
      have hx1 := lx.at hx
      have HX := Lib.hid hx
      clear hx HO
      go_wp2
      go_loopw [9, 35] (fun vu vj wr => ∃ (j u : Nat) (P : List Nat), j ≤ yl.length ∧ LI 4294967296 xl yl P i x j u ∧ Own wr w.heap.size 30 .u64 (.slice (some ⟨w.heap.size, 0, none⟩) (xl.length + yl.length) (xl.length + yl.length)) P ∧ Below w.heap.size w wr ∧ vu = .int .u64 (u : Int) ∧ vj = .int .i64 (j : Int)) (fun _ vj _ => yl.length - (intOf vj).toNat)
      case atStart => exact ⟨0, 0, P, by omega, HI, hown, hb, rfl, rfl⟩
      case round =>
        clear HI hown hb
        obtain ⟨j, u, P, hj, HI, hown, hb, rfl, rfl⟩ := hrel
        have hu := HI.2.2.1
        have hPl := HI.2.1
        by_cases hjt : j < yl.length
        · obtain ⟨ad', e, rfl, he, hcell'⟩ := (hr'.below hb).at_ hjt
          have he1 := ly.at he
          obtain ⟨d, hd⟩ : ∃ d, P[i + j]? = some d := ⟨_, List.getElem?_eq_getElem (by omega)⟩
          have hd1 := HI.1.at hd
          have hc0 := hown.cellAt hd
          have hf0 := hown.frozenAt (i + j)
          have HE := Lib.hid he
          have HD := Lib.hid hd
          have hPL := Lib.hid hPl
          clear he hd hPl
          go_wp2_with fail
          refine (mul_nat _ _ _ _ x e d u _ rfl rfl rfl rfl hx1 (by omega) hd1 hu).mono ?_
          rintro e1 w2 ⟨s, o, rfl, hs, ho, hm2, rfl⟩
          have HI2 := HI.step HD.out HE.out hs ho (by rw [hm2, Nat.mod_eq_of_lt he1])
          have hown2 := hown.stored (i + j) s
          have hb2 : Below w.heap.size w (wr.setCell ⟨w.heap.size, i + j, none⟩ (.int .u64 (s : Int))) := hb.setCell (Nat.le_refl _) _
          clear hm2
          go_wp2
          go_roundw
          case rel => exact ⟨j + 1, o, _, by omega, HI2, hown2, hb2, rfl, by go_num⟩
          case measure => simp [intOf]; omega
        · obtain rfl : j = yl.length := by omega
          have HO := HI.done HX.out
          have hc0 := hown.cellAt HI.2.2.2.1
          have hf0 := hown.frozenAt (i + yl.length)
          have hown2 := hown.stored (i + yl.length) u
          have hb2 : Below w.heap.size w (wr.setCell ⟨w.heap.size, i + yl.length, none⟩ (.int .u64 (u : Int))) := hb.setCell (Nat.le_refl _) _
          clear HI hPl
          go_wp2
          go_roundw
          case rel => exact ⟨i + 1, _, by omega, HO, hown2, hb2, by go_num⟩
          case measure => simp [intOf]; omega
    · obtain ⟨h1, h2⟩ := HO.done (by omega)
      have hP := HO.2.1
      have hrd := hown.isS
      obtain ⟨A2, c2, e2, hc2, hm2, hr2⟩ := hrd
      injection e2 with e2 e3 e4
      subst e2; subst e4
      have hT := trim_digs (by omega) h1
      rw [← h2] at hT
      have HT := Lib.hid hT
      have HP := Lib.hid hP
      have hfr := hown.fresh
      clear hT hP h2 e3 HO
      go_wp2_with fail
      refine (mtrimmed_any _ _ _ P _ HP.out.symm hc2 hm2 hr2).mono ?_
      rintro e w' ⟨rfl, rfl⟩
      rw [HT.out]
      go_wp2
      go_ret
      refine ⟨_, rfl, ?_, hfr.cut _ _, hb⟩
      have := hr2.isTake (trim_len_le P) hc2 hm2
      rw [← trim_prefix, HT.out] at this
      exact this

theorem long_any (v u : Value) (x y : Nat) (w : World) (h : IsS w .u64 v (digs 4294967296 x)) (h' : IsS w .u64 u (digs 4294967296 y)) (hl : (digs 4294967296 x).length ≤ 1000000) (hl' : (digs 4294967296 y).length ≤ 1000000) (z : Nat) (hz : z = x * y) :
    Calls Try.prog 54 #[v, u] w (RetS .u64 (digs 4294967296 z) w) := by
  have := long_list v u _ _ w h h' (digs_lt (by omega) x) (digs_lt (by omega) y) hl hl'
  rw [val_digs (by omega), val_digs (by omega), ← hz] at this
  exact this

theorem add0 (cI : Int) (c : Nat) (w : World) (hc : cI = (c : Int)) (lc : c < 18446744073709551616) :
    Calls Try.prog 41 #[.int .u64 cI, .int .u64 0, .int .u64 0] w fun e w' => ∃ o : Int, e = .returned (.tuple #[.int .u64 ((c % 4294967296 : Nat) : Int), .int .u64 o]) ∧ w = w' := by
  subst hc
  refine (limb.add_any _ _ _ (by omega) (by omega) (by omega) (by omega) (by omega) (by omega) w).mono ?_
  rintro e w' ⟨s, o, rfl, hs, rfl⟩
  unfold AddSpec at hs
  obtain rfl : s = ((c % 4294967296 : Nat) : Int) := by omega
  exact ⟨o, rfl, rfl⟩

set_option maxHeartbeats 1600000 in
theorem small_own (v : Value) (x : Nat) (mI cI : Int) (m c : Nat) (w : World) (h : IsS w .u64 v (digs 4294967296 x)) (hl : (digs 4294967296 x).length ≤ 1000000) (hmI : mI = (m : Int)) (hcI : cI = (c : Int)) (lm : m < 18446744073709551616) (lc : c < 18446744073709551616) (z : Nat) (hz : z = x * (m % 4294967296) + c % 4294967296) :
    Calls Try.prog 24 #[v, .int .u64 mI, .int .u64 cI] w (RetOwn 30 .u64 (digs 4294967296 z) w) := by
  subst hmI; subst hcI
  have lx := digs_lt (B := 4294967296) (by omega) x
  have HZ : Hid (z = val 4294967296 (digs 4294967296 x) * (m % 4294967296) + c % 4294967296) := by show _ = _; rw [val_digs (by omega)]; exact hz
  clear hz
  generalize digs 4294967296 x = xl at h hl lx HZ
  obtain ⟨A, k, rfl, hk, hm, hr⟩ := h
  unfold maxLen at hm
  have hlm : (m : Int) ≤ 18446744073709551615 := by omega
  have hlc : (c : Int) ≤ 18446744073709551615 := by omega
  go_enter Try.func24, Try.ntmps24
  go_wp2_with (at_make; refine wpList_make_rd rfl _ _ rfl sl24 (xl.length + 1) rfl rfl (by omega) (by omega) (by omega) (Nat.le_refl _) ?_; intro w1 hown1 hb1 hsz1)
  refine (add0 _ c _ rfl lc).mono ?_
  rintro e w2 ⟨o, rfl, rfl⟩
  go_wp2
  go_loopw [8, 23] (fun vu vi wr => ∃ (i u : Nat) (P : List Nat), i ≤ xl.length ∧ SM 4294967296 xl P (m % 4294967296) (c % 4294967296) i u ∧ Own wr w.heap.size 30 .u64 (.slice (some ⟨w.heap.size, 0, none⟩) (xl.length + 1) (xl.length + 1)) P ∧ Below w.heap.size w wr ∧ vu = .int .u64 (u : Int) ∧ vi = .int .i64 (i : Int)) (fun _ vi _ => xl.length - (intOf vi).toNat)
  case atStart => exact ⟨0, c % 4294967296, _, by omega, SM.start xl _ (by omega) rfl, hown1, hb1, by go_num, rfl⟩
  case round =>
    clear hown1 hb1 hsz1
    obtain ⟨i, u, P, hi, HS, hown, hb, rfl, rfl⟩ := hrel
    have hu := HS.2.2.1
    have hc0 := hown.cellAt (HS.at0 hi)
    have hf0 := hown.frozenAt i
    have hPl : Hid (P.length = xl.length + 1) := HS.2.1
    by_cases hlt : i < xl.length
    · obtain ⟨ad, x, rfl, hx, hcell⟩ := (hr.below hb).at_ hlt
      have hx1 := lx.at hx
      have HX := Lib.hid hx
      clear hx
      go_wp2_with fail
      refine (mul_nat _ _ _ _ x m u 0 _ rfl rfl rfl rfl hx1 lm hu (by omega)).mono ?_
      rintro e1 w2 ⟨s, o, rfl, hs, ho, hm2, rfl⟩
      have HS2 := HS.step HX.out hs ho (by rw [hm2]; omega)
      have hown2 := hown.stored i s
      have hb2 : Below w.heap.size w (wr.setCell ⟨w.heap.size, i, none⟩ (.int .u64 (s : Int))) := hb.setCell (Nat.le_refl _) _
      clear hm2
      go_wp2
      go_roundw
      case rel => exact ⟨i + 1, o, _, by omega, HS2, hown2, hb2, rfl, by go_num⟩
      case measure => simp [intOf]; omega
    · obtain rfl : i = xl.length := by omega
      obtain ⟨h1, h2⟩ := HS.done
      rw [← HZ.out] at h2
      have hT := trim_digs (by omega) h1
      rw [← h2] at hT
      have HT := Lib.hid hT
      have hown2 := hown.stored xl.length u
      have hb2 : Below w.heap.size w (wr.setCell ⟨w.heap.size, xl.length, none⟩ (.int .u64 (u : Int))) := hb.setCell (Nat.le_refl _) _
      obtain ⟨A2, c2, e2, hc2, hm2, hr2⟩ := hown2.isS
      injection e2 with e2 e3 e4
      subst e2; subst e4
      have hownT := hown2.trimmed
      rw [hT] at hownT
      have HE := Lib.hid e3
      clear hT h2 HS e3
      go_wp2_with fail
      refine (mtrimmed_any _ _ _ (P.set xl.length u) _ HE.out hc2 hm2 hr2).mono ?_
      rintro e w' ⟨rfl, rfl⟩
      rw [HT.out]
      go_wp2
      go_ret
      exact ⟨_, rfl, hownT, hb2⟩
theorem small_any (v : Value) (x : Nat) (mI cI : Int) (m c : Nat) (w : World) (h : IsS w .u64 v (digs 4294967296 x)) (hl : (digs 4294967296 x).length ≤ 1000000) (hmI : mI = (m : Int)) (hcI : cI = (c : Int)) (lm : m < 18446744073709551616) (lc : c < 18446744073709551616) (z : Nat) (hz : z = x * (m % 4294967296) + c % 4294967296) :
    Calls Try.prog 24 #[v, .int .u64 mI, .int .u64 cI] w (RetS .u64 (digs 4294967296 z) w) :=
  (small_own v x mI cI m c w h hl hmI hcI lm lc z hz).mono fun e w' ⟨v', he, hown, hb⟩ => ⟨v', he, hown.isS, hown.fresh, hb⟩
end Go.Proofs.Ytcgmbmiingppgaa.nat
