/- Package divide: Plain. Condition: slices read as limbs. -/
import Derived.Test.YtcgmbmiingppgaaDivD
import Derived.Test.YtcgmbmiingppgaaDivP
import Derived.Test.YtcgmbmiingppgaaRefM
import Derived.RegionTactic
namespace Go.Proofs.Ytcgmbmiingppgaa.nat
open Go.RowKit Go.Proofs.Ytcgmbmiingppgaa.num Go.Proofs.Ytcgmbmiingppgaa.mem Go.Proofs.Ytcgmbmiingppgaa.limb
set_option linter.unusedVariables false

set_option maxHeartbeats 400000 in
theorem dplain_zero (v vb : Value) (w : World) (h' : IsS w .u64 vb (digs 4294967296 0)) :
    Calls Try.prog 10 #[v, vb] w (RetSSE [] [] 3 w) := by
  rw [digs_zero] at h'
  obtain ⟨A, c, rfl⟩ := isS_nil0 h'
  go_enter Try.func10, Try.ntmps10
  go_wp2
  go_ret3
  exact ⟨_, _, rfl, isNil _ _, isNil _ _, fresh_nil _, fresh_nil _, Below.refl _ _⟩

theorem or_u64 {o p : Nat} (ho : o < 4294967296) (hp : p < 4294967296) (h : o ||| p = o + p) : bits BinOp.or IntKind.u64 (o : Int) (p : Int) = ((o + p : Nat) : Int) := by
  rw [bits_or_u64_nat o p (by omega) (by omega), h]

set_option maxHeartbeats 3200000 in
theorem dplain_ok (v vb : Value) (x y : Nat) (w : World) (h : IsS w .u64 v (digs 4294967296 x)) (h' : IsS w .u64 vb (digs 4294967296 y)) (hl : (digs 4294967296 x).length ≤ 90000) (hl' : (digs 4294967296 y).length ≤ 90000) (hy : 0 < y) :
    Calls Try.prog 10 #[v, vb] w (RetSSE (digs 4294967296 (x / y)) (digs 4294967296 (x % y)) 0 w) := by
  have hyl : 0 < (digs 4294967296 y).length := by
    rcases Nat.eq_zero_or_pos (digs 4294967296 y).length with h0 | h0
    · have := (digs_len0 (B := 4294967296) (by omega)).1 h0; omega
    · exact h0
  have hz1 : (((digs 4294967296 y).length : Int) == 0) = false := by rw [beq_eq_false_iff_ne]; omega
  have hyl2 : ¬ digs 4294967296 y = [] := by intro e; rw [e] at hyl; simp at hyl
  have lx := digs_lt (B := 4294967296) (by omega) x
  obtain ⟨nb, hnb⟩ : ∃ nb, nb = nbits x := ⟨_, rfl⟩
  have hxb : x < 2 ^ nb := by rw [hnb]; exact nbits_lt
  have hnb2 : nb ≤ 32 * (digs 4294967296 x).length := by
    rw [hnb]; refine nbits_le_of ?_
    rw [← pow32]; exact digs_lt_pow (by omega) x
  have HNB := Lib.hid hnb
  have HPL : Hid (PL 4294967296 x y (digs 4294967296 x).length (List.replicate (digs 4294967296 x).length 0) nb) := PL.start (by omega) hxb
  have HX0 : Hid (x / 2 ^ nb % y = 0) := by show _ = _; rw [Nat.div_eq_of_lt hxb, Nat.zero_mod]
  clear hxb hnb
  obtain ⟨A, c, rfl, hc, hm, hr⟩ := id h
  obtain ⟨Ab, cb, rfl, _⟩ := id h'
  unfold maxLen at hm
  go_enter Try.func10, Try.ntmps10
  go_wp2_with (at_make; refine wpList_make_rd rfl _ _ rfl sl24 (digs 4294967296 x).length rfl rfl (by omega) (by omega) (by omega) (Nat.le_refl _) ?_; intro w1 hown1 hb1 hsz1)
  have hba : Below w.heap.size w (w1.alloc (.cells #[] 30)) := hb1.trans (below_alloc (by omega) _)
  refine (bits_any _ x nb _ (h.below hba) (by omega) HNB.out).mono ?_
  rintro e w2 ⟨rfl, rfl⟩
  go_wp2
  go_loopw [8, 25] (fun vl vi wr => ∃ (i : Nat) (O : List Nat), i ≤ nb ∧ Hid (PL 4294967296 x y (digs 4294967296 x).length O (nb - i)) ∧ Own wr w.heap.size 30 .u64 (.slice (some ⟨w.heap.size, 0, none⟩) (digs 4294967296 x).length (digs 4294967296 x).length) O ∧ IsS wr .u64 vl (digs 4294967296 (x / 2 ^ (nb - i) % y)) ∧ Fresh (w.heap.size + 1) vl ∧ w.heap.size < wr.heap.size ∧ Below w.heap.size w wr ∧ vi = .int .i64 (i : Int)) (fun _ vi _ => nb - (intOf vi).toNat)
  case atStart => exact ⟨0, _, by omega, HPL.out, hown1.alloc _, by rw [Nat.sub_zero, HX0.out, digs_zero]; exact (own_lit0 w1 w1.heap.size _ .u64 (Nat.le_refl _)).isS, fresh_at (by omega), by simp; omega, hba, rfl⟩
  case round =>
    clear hown1 hb1 hsz1 hba HPL HX0
    obtain ⟨i, O, hi, HP, hown, hvl, hfl, hsz, hb, rfl⟩ := hrel
    by_cases hlt : i < nb
    · obtain ⟨j, hj⟩ : ∃ j, j = nb - 1 - i := ⟨_, rfl⟩
      have hj2 : nb - i = j + 1 := by omega
      have hjI : (nb : Int) - 1 - (i : Int) = (j : Int) := by omega
      have HJ : Hid (nb - (i + 1) = j) := by show _ = _; omega
      have HP1 := HP.out
      rw [hj2] at HP1 hvl
      obtain ⟨r, hrr⟩ : ∃ r, r = x / 2 ^ (j + 1) % y := ⟨_, rfl⟩
      rw [← hrr] at hvl
      have hry : r < y := by rw [hrr]; exact Nat.mod_lt _ hy
      have hrl := digs_len_mono (B := 4294967296) (by omega) (Nat.le_of_lt hry)
      obtain ⟨pl, hpl⟩ : ∃ pl, pl = j / 32 := ⟨_, rfl⟩
      obtain ⟨bt, hbt⟩ : ∃ bt, bt = j % 32 := ⟨_, rfl⟩
      have hplI : (j : Int) / 32 = (pl : Int) := by omega
      have hbtI : (j : Int) % 32 = (bt : Int) := by omega
      have hbt31 : bt ≤ 31 := by omega
      have hpll : pl < (digs 4294967296 x).length := by omega
      have hj0 : (j : Int) ≤ 4000000 := by omega
      obtain ⟨ad, d, rfl, hd, hcell⟩ := (hr.below hb).at_ hpll
      have hd1 := lx.at hd
      obtain ⟨o, ho⟩ : ∃ o, O[pl]? = some o := ⟨_, List.getElem?_eq_getElem (by have := HP1.2.1; omega)⟩
      have ho1 := HP1.1.at ho
      obtain ⟨bv, hbv⟩ : ∃ bv, bv = x / 2 ^ j % 2 := ⟨_, rfl⟩
      have hbv1 : bv ≤ 1 := by omega
      have hdb : d / 2 ^ bt % 2 = bv := by rw [hbv, hbt]; rw [hpl] at hd; exact bit_at hd
      obtain ⟨dd, hdd⟩ : ∃ dd, dd = d / 2 ^ bt := ⟨_, rfl⟩
      have hdd1 : dd ≤ d := by rw [hdd]; exact Nat.div_le_self _ _
      have hdI : (d : Int) / 2 ^ bt = (dd : Int) := by rw [hdd, Int.natCast_ediv, two_cast]
      have hand : bits BinOp.and IntKind.u64 (dd : Int) 1 = (bv : Int) := by rw [and_one_u64 _ (by omega) (by omega)]; omega
      obtain ⟨p, hp⟩ : ∃ p, p = 2 ^ bt := ⟨_, rfl⟩
      have hpb : p ≤ 2147483648 := by rw [hp]; exact pow_up hbt31
      have hw : IntKind.u64.wrap ((2 : Int) ^ bt) = (p : Int) := by rw [← two_cast, ← hp, IntKind.wrap_u64]; omega
      have HLess : Hid (r * 2 + bv < y → PL 4294967296 x y (digs 4294967296 x).length O j ∧ x / 2 ^ j % y = r * 2 + bv) := fun hlt => by
        obtain ⟨a1, a2⟩ := bit_less hy hrr hbv hlt
        exact ⟨HP1.stay a2, a1⟩
      have HMore : Hid (y ≤ r * 2 + bv → (o ||| p = o + p ∧ o + p < 4294967296 ∧ PL 4294967296 x y (digs 4294967296 x).length (O.set pl (o + p)) j) ∧ x / 2 ^ j % y = r * 2 + bv - y) := fun hle => by
        obtain ⟨a1, a2⟩ := bit_more hy hrr hbv hle
        have := HP1.set (by rw [← hpl]; exact ho) a2
        rw [← hpl, ← hbt, ← hp] at this
        exact ⟨this, a1⟩
      have hRl := small_len r 2 bv
      obtain ⟨R, hR⟩ : ∃ R, R = r * 2 + bv := ⟨_, rfl⟩
      have hR2 : R = r * (2 % 4294967296) + bv % 4294967296 := by omega
      rw [← hR2] at hRl
      have HR2 := Lib.hid hR2
      rw [← hR] at HLess HMore
      have hc0 := hown.cellAt ho
      have hf0 := hown.frozenAt pl
      have hvb := h'.below hb
      have HO := Lib.hid ho
      clear hj hj2 HP HP1 hrr hpl hbt hd ho hbv hdb hdd hp hR hR2
      go_wp2_with fail
      refine (small_any _ r _ _ 2 bv _ hvl (by omega) rfl rfl (by omega) (by omega) R HR2.out).mono ?_
      rintro e w2 ⟨v2, rfl, k2, f2, b2⟩
      have hsz2 := b2.size
      have hb2 := hb.trans (b2.mono hb.size)
      rcases Nat.lt_or_ge R y with hlt2 | hle2
      · obtain ⟨p1, p2⟩ := HLess.out hlt2
        have P1 := Lib.hid p1
        have P2 := Lib.hid p2
        clear p1 p2
        go_wp2_with fail
        refine (sub_less v2 _ R y _ k2 (hvb.below b2) hlt2).mono ?_
        rintro e w3 ⟨v3, rfl, k3, f3, b3⟩
        have hsz3 := b3.size
        go_wp2
        go_roundw
        case rel => exact ⟨i + 1, O, by omega, by rw [HJ.out]; exact P1, (hown.below b2).below b3, by rw [HJ.out, P2.out]; exact k2.below b3, f2.mono (by omega), by omega, hb2.trans (b3.mono hb2.size), by go_num⟩
        case measure => simp [intOf]; omega
      · obtain ⟨⟨p0, p3, p1⟩, p2⟩ := HMore.out hle2
        have hor := or_u64 ho1 (by omega) p0
        have P1 := Lib.hid p1
        have P2 := Lib.hid p2
        clear p0 p1 p2
        go_wp2_with fail
        refine (sub_ok v2 _ R y _ k2 (hvb.below b2) (by omega) hle2 (R - y) rfl).mono ?_
        rintro e w3 ⟨v3, rfl, k3, f3, b3⟩
        have hsz3 := b3.size
        have hown3 := (hown.below b2).below b3
        have hc3 := hown3.cellAt HO.out
        have hf3 := hown3.frozenAt pl
        have hc3' : w3.drew.cell? ⟨w.heap.size, pl, none⟩ = some (.int .u64 (o : Int)) := hc3
        have hf3' : w3.drew.frozen? ⟨w.heap.size, pl, none⟩ = false := hf3
        have hown4 := hown3.stored pl (o + p)
        have hb3 := hb2.trans (b3.mono hb2.size)
        have hb4 : Below w.heap.size w (w3.setCell ⟨w.heap.size, pl, none⟩ (.int .u64 ((o + p : Nat) : Int))) := hb3.setCell (Nat.le_refl _) _
        have k4 := k3.setCell (f3.mono (B' := w.heap.size + 1) (by omega)) (p := ⟨w.heap.size, pl, none⟩) (Nat.lt_succ_self _) (.int .u64 ((o + p : Nat) : Int))
        have hs4 : (w3.setCell ⟨w.heap.size, pl, none⟩ (.int .u64 ((o + p : Nat) : Int))).heap.size = w3.heap.size := by simp [World.setCell]
        have HS4 : w.heap.size < (w3.setCell ⟨w.heap.size, pl, none⟩ (.int .u64 ((o + p : Nat) : Int))).heap.size := by rw [hs4]; omega
        clear hs4
        go_wp2
        go_region
        all_goals
          go_wp2
          go_roundw
          case rel => exact ⟨i + 1, O.set pl (o + p), by omega, by rw [HJ.out]; exact P1, (by exact hown4), by rw [HJ.out, P2.out]; exact k4, f3.mono (by omega), (by exact HS4), (by exact hb4.drew), by go_num⟩
          case measure => simp [intOf]; omega
    · obtain rfl : i = nb := by omega
      have HP1 := HP.out
      rw [Nat.sub_self] at HP1 hvl
      obtain ⟨z1, z2, z3⟩ := HP1.done
      rw [Nat.pow_zero, Nat.div_one] at hvl
      have hT := trim_digs (by omega) z1
      rw [z3] at hT
      have HT := Lib.hid hT
      obtain ⟨A2, c2, e2, hc2, hm2, hr2⟩ := hown.isS
      injection e2 with e2 e3 e4
      subst e2; subst e4
      have hfr := hown.fresh
      have HL := Lib.hid e3
      clear hT z2 z3 HP HP1 e3
      go_wp2_with fail
      refine (dtrimmed_any _ _ _ O _ HL.out hc2 hm2 hr2).mono ?_
      rintro e w' ⟨rfl, rfl⟩
      rw [HT.out]
      go_wp2
      go_ret3
      refine ⟨_, _, rfl, ?_, hvl, hfr.cut _ _, hfl.mono (by omega), hb⟩
      rw [← HT.out]; exact hr2.isTrim hc2 hm2
end Go.Proofs.Ytcgmbmiingppgaa.nat
