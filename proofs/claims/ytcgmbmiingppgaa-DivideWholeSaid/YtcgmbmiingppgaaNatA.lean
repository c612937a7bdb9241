/- Package nat: at, the comparisons of package cmp that it calls, May, Make, Of. Condition: slices read as limbs. -/
import Derived.Test.YtcgmbmiingppgaaRefH
import Derived.Test.YtcgmbmiingppgaaLimbN
namespace Go.Proofs.Ytcgmbmiingppgaa.nat
open Go.RowKit Go.Proofs.Ytcgmbmiingppgaa.num Go.Proofs.Ytcgmbmiingppgaa.mem
set_option linter.unusedVariables false

theorem trimmed_digs (v : Value) (l : List Nat) (x : Nat) (w : World) (h : IsS w .u64 v l) (hlt : Lt 4294967296 l) (hx : x = val 4294967296 l) :
    Calls Try.prog 44 #[v] w (RetTr (digs 4294967296 x) v w) := by
  rw [hx, ← trim_digs (by omega) hlt]; exact trimmed_any v l w h

/-- Place i of the list, 0 behind it. -/
def AtD (l : List Nat) (i d : Nat) : Prop := l[i]? = some d ∨ l.length ≤ i ∧ d = 0
theorem AtD.of (l : List Nat) (i : Nat) : ∃ d, AtD l i d := by
  by_cases h : i < l.length
  · exact ⟨_, .inl (List.getElem?_eq_getElem h)⟩
  · exact ⟨0, .inr ⟨by omega, rfl⟩⟩
theorem AtD.lt {B : Nat} {l : List Nat} {i d : Nat} (h : AtD l i d) (hl : Lt B l) (hB : 0 < B) : d < B := by
  rcases h with h | ⟨_, rfl⟩
  · exact hl.at h
  · exact hB
set_option maxHeartbeats 400000 in
theorem at_any (v : Value) (l : List Nat) (iI : Int) (i d : Nat) (w : World) (hi : iI = (i : Int)) (h : IsS w .u64 v l) (hd : AtD l i d) :
    Calls Try.prog 53 #[v, .int .i64 iI] w fun e w' => e = .returned (.int .u64 (d : Int)) ∧ w' = w := by
  subst hi
  obtain ⟨A, c, rfl, hc, hm, hr⟩ := h
  unfold maxLen at hm
  rcases hd with hd | ⟨hd, rfl⟩
  · have hil : i < l.length := (List.getElem?_eq_some_iff.1 hd).1
    obtain ⟨ad, rfl, hcell⟩ := hr i d hd
    clear hd
    go_enter Try.func53, Try.ntmps53
    go_wp2
    go_ret
    exact ⟨rfl, rfl⟩
  · go_enter Try.func53, Try.ntmps53
    go_wp2
    go_ret
    exact ⟨rfl, rfl⟩

set_option maxHeartbeats 400000 in
theorem cmpInt_any (a b : Int) (x y : Nat) (t : Int) (w : World) (ha : a = (x : Int)) (hb : b = (y : Int)) (ht : t = ord x y) :
    Calls Try.prog 39 #[.int .i64 a, .int .i64 b] w fun e w' => e = .returned (.int .i64 t) ∧ w' = w := by
  subst ha; subst hb
  have z1 : ((x : Int) != (x : Int)) = false := by simp
  have z2 : ((y : Int) != (y : Int)) = false := by simp
  rcases Nat.lt_trichotomy x y with h | h | h
  · rw [ord_lt h] at ht; subst ht
    go_enter Try.func39, Try.ntmps39
    go_wp2
    go_ret
    exact ⟨rfl, rfl⟩
  · subst h; rw [ord_eq] at ht; subst ht
    go_enter Try.func39, Try.ntmps39
    go_wp2
    go_ret
    exact ⟨rfl, rfl⟩
  · rw [ord_gt h] at ht; subst ht
    go_enter Try.func39, Try.ntmps39
    go_wp2
    go_ret
    exact ⟨rfl, rfl⟩
set_option maxHeartbeats 400000 in
theorem cmpU_any (a b : Int) (x y : Nat) (t : Int) (w : World) (ha : a = (x : Int)) (hb : b = (y : Int)) (ht : t = ord x y) :
    Calls Try.prog 40 #[.int .u64 a, .int .u64 b] w fun e w' => e = .returned (.int .i64 t) ∧ w' = w := by
  subst ha; subst hb
  have z1 : ((x : Int) != (x : Int)) = false := by simp
  have z2 : ((y : Int) != (y : Int)) = false := by simp
  rcases Nat.lt_trichotomy x y with h | h | h
  · rw [ord_lt h] at ht; subst ht
    go_enter Try.func40, Try.ntmps40
    go_wp2
    go_ret
    exact ⟨rfl, rfl⟩
  · subst h; rw [ord_eq] at ht; subst ht
    go_enter Try.func40, Try.ntmps40
    go_wp2
    go_ret
    exact ⟨rfl, rfl⟩
  · rw [ord_gt h] at ht; subst ht
    go_enter Try.func40, Try.ntmps40
    go_wp2
    go_ret
    exact ⟨rfl, rfl⟩

set_option maxHeartbeats 400000 in
theorem may_any (v : Value) (l : List Nat) (w : World) (h : IsS w .u64 v l) (hu : Lt 18446744073709551616 l) :
    Calls Try.prog 23 #[v] w fun e w' => e = .returned (.bool (mayB l)) ∧ w = w' := by
  obtain ⟨A, c, rfl, hc, hm, hr⟩ := h
  have hm' := hm
  unfold maxLen at hm'
  go_enter Try.func23, Try.ntmps23
  go_wp2
  go_loop [7] (fun vn => ∃ n : Nat, n ≤ l.length ∧ Lt 4294967296 (l.take n) ∧ vn = .int .i64 (n : Int)) (fun vn => l.length - (intOf vn).toNat)
  case atStart => exact ⟨0, Nat.zero_le _, by rw [List.take_zero]; exact Lt.nil _, rfl⟩
  case round =>
    obtain ⟨n, hn, ht, rfl⟩ := hrel
    by_cases hp : n < l.length
    · obtain ⟨ad, d, rfl, hd, hcell⟩ := hr.at_ hp
      have HD := Lib.hid hd
      have hd2 : (d : Int) ≤ 18446744073709551615 := by have := hu.at hd; omega
      clear hd
      by_cases hbig : (4294967296 : Int) ≤ (d : Int)
      · have HB := Lib.hid (mayB_big HD.out (by omega))
        go_wp2
        go_ret
        exact ⟨by rw [HB.out]; rfl, rfl⟩
      · go_wp2
        go_round
        case rel => exact ⟨n + 1, by omega, by rw [take_step HD.out]; exact ht.snoc (by omega), by go_num⟩
        case measure => simp [intOf]; omega
    · obtain rfl : n = l.length := by omega
      rw [List.take_length] at ht
      by_cases hl0 : 0 < l.length
      · have hne : ¬ l = [] := by rintro rfl; simp at hl0
        have hlb : ((l.length : Int) == 0) = false := by rw [beq_eq_false_iff_ne]; omega
        obtain ⟨ad, d, rfl, hd, hcell⟩ := hr.at_ (i := l.length - 1) (by omega)
        by_cases hd0 : d = 0
        · subst hd0
          have HB := Lib.hid (mayB_last0 hd)
          clear hd
          go_wp2
          go_ret
          exact ⟨by rw [HB.out]; rfl, rfl⟩
        · have HB := Lib.hid (mayB_last ht hd hd0)
          have hz : ((d : Int) == 0) = false := by rw [beq_eq_false_iff_ne]; omega
          have hz2 : ((d : Int) != 0) = true := by rw [bne_iff_ne]; omega
          clear hd hd0
          go_wp2
          go_ret
          exact ⟨by rw [HB.out]; rfl, rfl⟩
      · obtain rfl : l = [] := List.length_eq_zero_iff.1 (by omega)
        have HB := Lib.hid mayB_nil
        go_wp2
        go_ret
        exact ⟨by rw [HB.out]; rfl, rfl⟩

set_option maxHeartbeats 400000 in
theorem of_any (nI : Int) (n : Nat) (w : World) (hn : nI = (n : Int)) (n1 : nI ≤ 18446744073709551615) :
    Calls Try.prog 25 #[.int .u64 nI] w (RetS .u64 (digs 4294967296 n) w) := by
  subst hn
  go_enter Try.func25, Try.ntmps25
  go_wp2_with fail
  refine (trimmed_digs _ [n % 4294967296, n / 4294967296] n _ (own_lit2 w w.heap.size _ .u64 (by omega) (by omega) (Nat.le_refl _)).isS (Lt.cons (by omega) (Lt.cons (by omega) (Lt.nil _))) (by simp [val]; omega)).mono ?_
  rintro e w' ⟨v', rfl, hv, hf, rfl⟩
  go_wp2
  go_ret
  exact ⟨_, rfl, hv, hf _ (fresh_at (Nat.le_refl _)), below_alloc (Nat.le_refl _) _⟩
end Go.Proofs.Ytcgmbmiingppgaa.nat
