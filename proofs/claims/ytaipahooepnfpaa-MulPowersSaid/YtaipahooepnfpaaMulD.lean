/- Package mul: power, Pow, slices.Clone of numbers, Product. Condition: slices read as limbs. -/
import Derived.Test.YtaipahooepnfpaaMulC
import Derived.Lib.SliceRun
namespace Go.Proofs.Ytaipahooepnfpaa.nat
open Go.RowKit Go.Proofs.Ytaipahooepnfpaa.num Go.Proofs.Ytaipahooepnfpaa.mem Go.Proofs.Ytaipahooepnfpaa.limb
set_option linter.unusedVariables false

theorem pow_len (x n : Nat) : (digs 4294967296 (x ^ n)).length ≤ (digs 4294967296 x).length * n + 1 := by
  induction n with
  | zero => rw [Nat.pow_zero, Nat.mul_zero]; exact digs_len_le (by omega) (by omega)
  | succ n ih =>
    rw [Nat.pow_succ]
    have h := mul_len (x ^ n) x
    rw [Nat.mul_succ]; omega
theorem pow_half {x n : Nat} : x ^ n = if n % 2 = 1 then x ^ (n / 2) * x ^ (n / 2) * x else x ^ (n / 2) * x ^ (n / 2) := by
  split
  · rw [← Nat.pow_add, ← Nat.pow_succ]; congr 1; omega
  · rw [← Nat.pow_add]; congr 1; omega

set_option maxHeartbeats 800000 in
theorem power_any (n : Nat) : ∀ (nI : Int) (x : Nat) (v : Value) (w : World), nI = (n : Int) → n ≤ 10000 → (digs 4294967296 x).length ≤ 10000 → (digs 4294967296 x).length * n ≤ 50000 → IsS w .u64 v (digs 4294967296 x) →
    Calls Try.prog 30 #[v, .int .i64 nI] w (RetS .u64 (digs 4294967296 (x ^ n)) w) := by
  induction n using Nat.strongRecOn with
  | ind n ih =>
    intro nI x v w hn hn2 hx hxn h
    subst hn
    obtain ⟨A1, c1, rfl, _⟩ := id h
    by_cases h0 : n = 0
    · subst h0
      go_enter Try.func30, Try.ntmps30
      go_wp2_with fail
      refine (of_any _ 1 _ rfl (by omega)).mono ?_
      rintro e w1 ⟨v1, rfl, k1, f1, b1⟩
      go_wp2
      go_ret
      exact ⟨_, rfl, k1, f1, b1⟩
    · have z0 : ((n : Int) == 0) = false := by rw [beq_eq_false_iff_ne]; omega
      have ih2 := ih (n / 2) (by omega) ((n : Int) / 2) x
      have hm : (digs 4294967296 x).length * (n / 2) ≤ 25000 := by
        have := Nat.mul_le_mul_left (digs 4294967296 x).length (show n / 2 * 2 ≤ n by omega)
        rw [← Nat.mul_assoc] at this; omega
      have hp := pow_len x (n / 2)
      have HP := Lib.hid (pow_half (x := x) (n := n))
      have hsq := mul_len (x ^ (n / 2)) (x ^ (n / 2))
      obtain ⟨p, hp1⟩ : ∃ p, p = x ^ (n / 2) := ⟨_, rfl⟩
      rw [← hp1] at hp hsq ih2
      have HP1 := Lib.hid hp1
      have IH := Lib.hid ih2
      clear ih ih2 hp1 hxn
      by_cases ho : n % 2 = 1
      · have z1 : ((n : Int) % 2 == 1) = true := by rw [beq_iff_eq]; omega
        have HR : Hid (x ^ n = p * p * x) := by show _ = _; rw [HP.out, if_pos ho, HP1.out]
        clear ho h0
        go_enter Try.func30, Try.ntmps30
        go_wp2_with fail
        refine (IH.out _ _ (by omega) (by omega) hx (by omega) h).mono ?_
        rintro e w1 ⟨v1, rfl, k1, f1, b1⟩
        go_wp2_with fail
        refine (square_any _ p _ k1 (by omega) (p * p) rfl).mono ?_
        rintro e w2 ⟨v2, rfl, k2, f2, b2⟩
        have b3 := b1.trans (b2.mono b1.size)
        go_wp2_with fail
        refine (mul_any _ _ (p * p) x _ k2 (h.below b3) (by omega) (by omega) (p * p * x) rfl).mono ?_
        rintro e w3 ⟨v3, rfl, k3, f3, b4⟩
        rw [← HR.out] at k3
        go_wp2
        go_ret
        exact ⟨_, rfl, k3, f3.mono b3.size, b3.trans (b4.mono b3.size)⟩
      · have z1 : ((n : Int) % 2 == 1) = false := by rw [beq_eq_false_iff_ne]; omega
        have HR : Hid (x ^ n = p * p) := by show _ = _; rw [HP.out, if_neg ho, HP1.out]
        clear ho h0
        go_enter Try.func30, Try.ntmps30
        go_wp2_with fail
        refine (IH.out _ _ (by omega) (by omega) hx (by omega) h).mono ?_
        rintro e w1 ⟨v1, rfl, k1, f1, b1⟩
        go_wp2_with fail
        refine (square_any _ p _ k1 (by omega) (p * p) rfl).mono ?_
        rintro e w2 ⟨v2, rfl, k2, f2, b2⟩
        have b3 := b1.trans (b2.mono b1.size)
        rw [← HR.out] at k2
        go_wp2
        go_ret
        exact ⟨_, rfl, k2, f2.mono b1.size, b3⟩

set_option maxHeartbeats 400000 in
theorem pow_no (v : Value) (n : Int) (w : World) (hn : n < 0 ∨ 10000 < n) :
    Calls Try.prog 17 #[v, .int .i64 n] w (RetSI .u64 [] 2 w) := by
  rcases hn with hn | hn
  all_goals
    go_enter Try.func17, Try.ntmps17
    go_wp2
    go_ret2
    exact ⟨_, rfl, isNil _ _, fresh_nil _, Below.refl _ _⟩
set_option maxHeartbeats 400000 in
theorem pow_ok (v : Value) (x : Nat) (nI : Int) (n : Nat) (w : World) (hn : nI = (n : Int)) (hn2 : n ≤ 10000) (hx : (digs 4294967296 x).length ≤ 10000) (hxn : (digs 4294967296 x).length * n ≤ 50000) (h : IsS w .u64 v (digs 4294967296 x)) :
    Calls Try.prog 17 #[v, .int .i64 nI] w (RetSI .u64 (digs 4294967296 (x ^ n)) 0 w) := by
  subst hn
  obtain ⟨A1, c1, rfl, _⟩ := id h
  go_enter Try.func17, Try.ntmps17
  go_wp2_with fail
  refine (power_any n _ x _ _ rfl hn2 hx hxn h).mono ?_
  rintro e w1 ⟨v1, rfl, k1, f1, b1⟩
  go_wp2
  go_ret2
  exact ⟨_, rfl, k1, f1, b1⟩

set_option maxHeartbeats 400000 in
theorem clone_any (v : Value) (l : List Nat) (w : World) (h : IsS w .u64 v l) (hl : l.length ≤ 1000000) :
    Calls Try.prog 33 #[v] w (RetS .u64 l w) := by
  obtain ⟨A, c, rfl, hc, hm, hr⟩ := h
  rcases A with _ | ad
  · have hl0 : l = [] := by
      rcases l with _ | ⟨d, l⟩
      · rfl
      · obtain ⟨ad, h, _⟩ := hr 0 d (by simp); cases h
    subst hl0
    have hnil := fun w' => Lib.run_eql_slice_nil (P := Try.prog) w' 23 29 none 0 c 0 0 Try.underlying23
    go_enter Try.func33, Try.ntmps33
    go_wp2
    go_ret
    exact ⟨_, rfl, isNil _ _, fresh_nil _, Below.refl _ _⟩
  · have hnil := fun w' => Lib.run_eql_slice_nil (P := Try.prog) w' 23 29 (some ad) l.length c 0 0 Try.underlying23
    go_enter Try.func33, Try.ntmps33
    go_wp2_with (at_builtin; refine wpList_append_rd rfl (.tmp 5) (.tmp 6) rfl sl24 rfl (own_lit0 w w.heap.size _ .u64 (Nat.le_refl _)) rfl (news := l) rfl (hr.below (below_alloc (Nat.le_refl _) _)) (by simp; omega) (by simp) ?_; intro v' w1 hown1 hb1 hg1)
    go_ret
    exact ⟨_, rfl, by have := hown1.isS; rwa [List.nil_append] at this, hown1.fresh, (below_alloc (Nat.le_refl _) _).trans hb1⟩
end Go.Proofs.Ytaipahooepnfpaa.nat
