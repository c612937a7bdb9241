/- Package nat: Cmp, Make, Bits, Zeros, Small. Condition: slices read as limbs. -/
import Derived.Test.YtcgmbmiingppgaaNatA
namespace Go.Proofs.Ytcgmbmiingppgaa.nat
open Go.RowKit Go.Proofs.Ytcgmbmiingppgaa.num Go.Proofs.Ytcgmbmiingppgaa.mem
set_option linter.unusedVariables false

/-- What Cmp's loop keeps while k limbs are still to come. -/
def CR (x y k : Nat) (t : Int) : Prop := (t = 0 → (digs 4294967296 x).length = (digs 4294967296 y).length ∧ (digs 4294967296 x).drop k = (digs 4294967296 y).drop k) ∧ (¬ t = 0 → t = ord x y)
theorem CR.start (x y : Nat) : CR x y (digs 4294967296 x).length (ord (digs 4294967296 x).length (digs 4294967296 y).length) := by
  unfold CR
  constructor
  · intro h
    have e := ord_zero.1 h
    exact ⟨e, by rw [List.drop_length, List.drop_of_length_le (by omega)]⟩
  · intro h
    rcases Nat.lt_trichotomy (digs 4294967296 x).length (digs 4294967296 y).length with h1 | h1 | h1
    · rw [ord_lt h1, ord_lt (len_lt_ord (by omega) h1)]
    · exact absurd (ord_zero.2 h1) h
    · rw [ord_gt h1, ord_gt (len_lt_ord (by omega) h1)]
theorem CR.step {x y j d e : Nat} (h : CR x y (j + 1) 0) (hd : (digs 4294967296 x)[j]? = some d) (he : (digs 4294967296 y)[j]? = some e) : CR x y j (ord d e) := by
  unfold CR at h ⊢
  obtain ⟨h1, h2⟩ := h.1 rfl
  constructor
  · intro h3
    have e3 := ord_zero.1 h3
    subst e3
    exact ⟨h1, drop_step hd he h2⟩
  · intro h3
    rcases Nat.lt_trichotomy d e with h4 | h4 | h4
    · have := at_lt_val (digs_lt (by omega) x) (digs_lt (by omega) y) h1 hd he h2 h4
      rw [val_digs (by omega), val_digs (by omega)] at this
      rw [ord_lt h4, ord_lt this]
    · exact absurd (ord_zero.2 h4) h3
    · have := at_lt_val (digs_lt (by omega) y) (digs_lt (by omega) x) h1.symm he hd h2.symm h4
      rw [val_digs (by omega), val_digs (by omega)] at this
      rw [ord_gt h4, ord_gt this]
theorem CR.done {x y k : Nat} {t : Int} (h : CR x y k t) (hk : k = 0 ∨ ¬ t = 0) : t = ord x y := by
  unfold CR at h
  by_cases h0 : t = 0
  · obtain ⟨_, h2⟩ := h.1 h0
    rcases hk with rfl | hk
    · rw [List.drop_zero, List.drop_zero] at h2
      have e := congrArg (val 4294967296) h2
      rw [val_digs (by omega), val_digs (by omega)] at e
      rw [h0, e, ord_eq]
    · exact absurd h0 hk
  · exact h.2 h0

set_option maxHeartbeats 800000 in
theorem cmp_any (v u : Value) (x y : Nat) (t : Int) (w : World) (h : IsS w .u64 v (digs 4294967296 x)) (h' : IsS w .u64 u (digs 4294967296 y)) (ht : t = ord x y) :
    Calls Try.prog 22 #[v, u] w (RetV (.int .i64 t) w) := by
  have HT := Lib.hid ht
  clear ht
  have lt1 := digs_lt (B := 4294967296) (by omega) x
  have lt2 := digs_lt (B := 4294967296) (by omega) y
  obtain ⟨A, c, rfl, hc, hm, hr⟩ := h
  obtain ⟨A', c', rfl, hc', hmm, hr'⟩ := h'
  unfold maxLen at hm hmm
  obtain ⟨t0, ht0⟩ : ∃ t0, t0 = ord (digs 4294967296 x).length (digs 4294967296 y).length := ⟨_, rfl⟩
  have hcr := CR.start x y
  rw [← ht0] at hcr
  have HT0 := Lib.hid ht0
  have htb := ord_bd (digs 4294967296 x).length (digs 4294967296 y).length
  rw [← ht0] at htb
  clear ht0
  go_enter Try.func22, Try.ntmps22
  go_wp2_with fail
  refine (cmpInt_any _ _ _ _ t0 _ rfl rfl HT0.out).mono ?_
  rintro e w' ⟨rfl, rfl⟩
  go_wp2
  go_loopw [5, 6] (fun vo vi wr => ∃ (k : Nat) (q : Int), k ≤ (digs 4294967296 x).length ∧ CR x y k q ∧ Below w'.heap.size w' wr ∧ vo = .int .i64 q ∧ vi = .int .i64 ((k : Int) - 1)) (fun _ vi _ => (intOf vi + 1).toNat)
  case atStart => exact ⟨_, t0, Nat.le_refl _, hcr, Below.refl _ _, rfl, rfl⟩
  case round =>
    clear hcr
    obtain ⟨k, q, hk, hC, hb, rfl, rfl⟩ := hrel
    by_cases hq : q = 0
    · subst hq
      by_cases hlt : 0 < k
      · obtain ⟨j, rfl⟩ : ∃ j, k = j + 1 := ⟨k - 1, by omega⟩
        have hlen : (digs 4294967296 x).length ≤ (digs 4294967296 y).length := by have := (hC.1 rfl).1; omega
        obtain ⟨ad, d, rfl, hd, hcell⟩ := (hr.below hb).at_ (i := j) (by omega)
        obtain ⟨ad', e, rfl, he, hcell'⟩ := (hr'.below hb).at_ (i := j) (by omega)
        have HC := hC.step hd he
        obtain ⟨t1, ht1⟩ : ∃ t1, t1 = ord d e := ⟨_, rfl⟩
        rw [← ht1] at HC
        have HT1 := Lib.hid ht1
        clear hd he ht1 hC
        go_wp2
        go_quiet ((go_at_call 40; exact Calls.quiet_of_same (cmpU_any _ _ d e t1 _ rfl rfl HT1.out)))
        go_wp2
        go_roundw
        case rel => exact ⟨j, t1, by omega, HC, below_drewN hb _, rfl, by go_num⟩
        case measure => simp [intOf]
      · have HE : Hid ((0 : Int) = t) := by have := hC.done (.inl (by omega)); show _ = _; rw [this, HT.out]
        go_wp2
        go_ret
        exact ⟨by rw [← HE.out]; rfl, hb⟩
    · have HE : Hid (q = t) := by have := hC.done (.inr hq); show _ = _; rw [this, HT.out]
      have hqb : (q == 0) = false := by rw [beq_eq_false_iff_ne]; exact hq
      clear hq
      by_cases hlt : 0 < k
      · go_wp2
        go_ret
        exact ⟨by rw [← HE.out]; rfl, hb⟩
      · go_wp2
        go_ret
        exact ⟨by rw [← HE.out]; rfl, hb⟩
end Go.Proofs.Ytcgmbmiingppgaa.nat
