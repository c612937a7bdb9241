/- Contracts of the functions of layer 1 (limb) and of the document's answers for it. Condition: the numbers handed in are uint64 (0 to 2^64 - 1). -/
import Derived.Test.YtcneilkokgmbnaaRows
import Derived.WalkKit
import Derived.ProofKit
import Derived.Lib.Hide
import Derived.Deep.QuietTactic
import Derived.BigQuiet
import Derived.Outline
namespace Go.Proofs.Ytcneilkokgmbnaa.limb
open Go.RowKit
set_option linter.unusedVariables false

def AddSpec (a b c s o : Int) : Prop := 0 ≤ s ∧ s < 4294967296 ∧ 0 ≤ o ∧ o ≤ 2 ∧ s + 4294967296 * o = a % 4294967296 + b % 4294967296 + c % 4294967296
def SubSpec (a b c s o : Int) : Prop := 0 ≤ s ∧ s < 4294967296 ∧ 0 ≤ o ∧ o ≤ 2 ∧ s - 4294967296 * o = a % 4294967296 - b % 4294967296 - c % 4294967296
def MulSpec (a b c d s o : Int) : Prop := 0 ≤ s ∧ s < 4294967296 ∧ 0 ≤ o ∧ o < 4294967296 ∧ s + 4294967296 * o = (a % 4294967296) * (b % 4294967296) + c % 4294967296 + d % 4294967296

theorem AddSpec.one {a b c s o s' o' : Int} (h : AddSpec a b c s o) (h' : AddSpec a b c s' o') : s' = s ∧ o' = o := by
  unfold AddSpec at h h'; omega
theorem SubSpec.one {a b c s o s' o' : Int} (h : SubSpec a b c s o) (h' : SubSpec a b c s' o') : s' = s ∧ o' = o := by
  unfold SubSpec at h h'; omega
theorem MulSpec.one {a b c d s o s' o' : Int} (h : MulSpec a b c d s o) (h' : MulSpec a b c d s' o') : s' = s ∧ o' = o := by
  unfold MulSpec at h h'; omega
theorem mul_bd (x y : Int) (hx : 0 ≤ x) (hx' : x ≤ 4294967295) (hy : 0 ≤ y) (hy' : y ≤ 4294967295) : 0 ≤ x * y ∧ x * y ≤ 18446744065119617025 := by
  refine ⟨Int.mul_nonneg hx hy, ?_⟩
  have := Int.mul_le_mul hx' hy' hy (by omega)
  omega

theorem low_any (a : Int) (h0 : 0 ≤ a) (h1 : a ≤ 18446744073709551615) (w : World) :
    Calls Try.prog 24 #[.int .u64 a] w fun e w' => e = .returned (.int .u64 (a % 4294967296)) ∧ w = w' := by
  go_enter Try.func24, Try.ntmps24
  go_wp2
  go_ret
  exact ⟨rfl, rfl⟩

theorem split_any (a : Int) (h0 : 0 ≤ a) (h1 : a ≤ 18446744073709551615) (w : World) :
    Calls Try.prog 23 #[.int .u64 a] w fun e w' => e = .returned (.tuple #[.int .u64 (a % 4294967296), .int .u64 (a / 4294967296)]) ∧ w = w' := by
  go_enter Try.func23, Try.ntmps23
  go_wp2
  go_ret2
  exact ⟨rfl, rfl⟩

theorem add_any (a b c : Int) (a0 : 0 ≤ a) (a1 : a ≤ 18446744073709551615) (b0 : 0 ≤ b) (b1 : b ≤ 18446744073709551615) (c0 : 0 ≤ c) (c1 : c ≤ 18446744073709551615) (w : World) :
    Calls Try.prog 8 #[.int .u64 a, .int .u64 b, .int .u64 c] w fun e w' =>
      ∃ s o, e = .returned (.tuple #[.int .u64 s, .int .u64 o]) ∧ AddSpec a b c s o ∧ w = w' := by
  go_enter Try.func8, Try.ntmps8
  go_wp2_with (first | (go_at_call 24; refine (low_any _ (by omega) (by omega) _).mono ?_; rintro e w' ⟨rfl, rfl⟩) | (go_at_call 23; refine (split_any _ (by omega) (by omega) _).mono ?_; rintro e w' ⟨rfl, rfl⟩))
  go_ret2
  exact ⟨_, _, rfl, by unfold AddSpec; omega, rfl⟩

theorem refAdd_any (a b c : Int) (a0 : 0 ≤ a) (a1 : a ≤ 18446744073709551615) (b0 : 0 ≤ b) (b1 : b ≤ 18446744073709551615) (c0 : 0 ≤ c) (c1 : c ≤ 18446744073709551615) (w : World) :
    Calls Try.prog 9 #[.int .u64 a, .int .u64 b, .int .u64 c] w fun e w' =>
      ∃ s o, e = .returned (.tuple #[.int .u64 s, .int .u64 o]) ∧ AddSpec a b c s o ∧ w = w' := by
  go_enter Try.func9, Try.ntmps9
  go_wp2
  go_ret2
  exact ⟨_, _, rfl, by unfold AddSpec; omega, rfl⟩

theorem sub_any (a b c : Int) (a0 : 0 ≤ a) (a1 : a ≤ 18446744073709551615) (b0 : 0 ≤ b) (b1 : b ≤ 18446744073709551615) (c0 : 0 ≤ c) (c1 : c ≤ 18446744073709551615) (w : World) :
    Calls Try.prog 10 #[.int .u64 a, .int .u64 b, .int .u64 c] w fun e w' =>
      ∃ s o, e = .returned (.tuple #[.int .u64 s, .int .u64 o]) ∧ SubSpec a b c s o ∧ w = w' := by
  go_enter Try.func10, Try.ntmps10
  go_wp2_with (first | (go_at_call 24; refine (low_any _ (by omega) (by omega) _).mono ?_; rintro e w' ⟨rfl, rfl⟩))
  go_loop [8, 10] (fun x y => ∃ o : Int, 0 ≤ o ∧ o ≤ 2 ∧ a % 4294967296 + 4294967296 * o < b % 4294967296 + c % 4294967296 + 4294967296 ∧ x = .int .u64 (a % 4294967296 + 4294967296 * o) ∧ y = .int .u64 o) (fun x _ => (b % 4294967296 + c % 4294967296 - intOf x).toNat)
  case atStart => exact ⟨0, by omega, by omega, by omega, by simp, rfl⟩
  case round =>
    obtain ⟨o, o0, o1, ho, rfl, rfl⟩ := hrel
    by_cases hlt : a % 4294967296 + 4294967296 * o < b % 4294967296 + c % 4294967296
    · go_wp2
      go_round
      case rel => exact ⟨o + 1, by omega, by omega, by omega, by congr 1; omega, rfl⟩
      case measure => simp [intOf]; omega
    · go_wp2
      go_ret2
      exact ⟨_, _, rfl, by unfold SubSpec; omega, rfl⟩

theorem refSub_any (a b c : Int) (a0 : 0 ≤ a) (a1 : a ≤ 18446744073709551615) (b0 : 0 ≤ b) (b1 : b ≤ 18446744073709551615) (c0 : 0 ≤ c) (c1 : c ≤ 18446744073709551615) (w : World) :
    Calls Try.prog 11 #[.int .u64 a, .int .u64 b, .int .u64 c] w fun e w' =>
      ∃ s o, e = .returned (.tuple #[.int .u64 s, .int .u64 o]) ∧ SubSpec a b c s o ∧ w = w' := by
  go_enter Try.func11, Try.ntmps11
  go_wp2
  go_loop [8, 10] (fun x y => ∃ o : Int, 0 ≤ o ∧ o ≤ 2 ∧ a % 4294967296 + 4294967296 * o < b % 4294967296 + c % 4294967296 + 4294967296 ∧ x = .int .u64 (a % 4294967296 + 4294967296 * o) ∧ y = .int .u64 o) (fun x _ => (b % 4294967296 + c % 4294967296 - intOf x).toNat)
  case atStart => exact ⟨0, by omega, by omega, by omega, by simp, rfl⟩
  case round =>
    obtain ⟨o, o0, o1, ho, rfl, rfl⟩ := hrel
    by_cases hlt : a % 4294967296 + 4294967296 * o < b % 4294967296 + c % 4294967296
    · go_wp2
      go_round
      case rel => exact ⟨o + 1, by omega, by omega, by omega, by congr 1; omega, rfl⟩
      case measure => simp [intOf]; omega
    · go_wp2
      go_ret2
      exact ⟨_, _, rfl, by unfold SubSpec; omega, rfl⟩

theorem mul_any (a b c d : Int) (a0 : 0 ≤ a) (a1 : a ≤ 18446744073709551615) (b0 : 0 ≤ b) (b1 : b ≤ 18446744073709551615) (c0 : 0 ≤ c) (c1 : c ≤ 18446744073709551615) (d0 : 0 ≤ d) (d1 : d ≤ 18446744073709551615) (w : World) :
    Calls Try.prog 13 #[.int .u64 a, .int .u64 b, .int .u64 c, .int .u64 d] w fun e w' =>
      ∃ s o, e = .returned (.tuple #[.int .u64 s, .int .u64 o]) ∧ MulSpec a b c d s o ∧ w = w' := by
  have hm := mul_bd (a % 4294967296) (b % 4294967296) (by omega) (by omega) (by omega) (by omega)
  go_enter Try.func13, Try.ntmps13
  go_wp2_with (first | (go_at_call 24; refine (low_any _ (by omega) (by omega) _).mono ?_; rintro e w' ⟨rfl, rfl⟩) | (go_at_call 23; refine (split_any _ (by omega) (by omega) _).mono ?_; rintro e w' ⟨rfl, rfl⟩))
  go_ret2
  exact ⟨_, _, rfl, by unfold MulSpec; omega, rfl⟩

/-- The document's product, bit by bit: what its loop keeps. -/
def RM (T lo hi x y b : Int) : Prop := 0 ≤ lo ∧ lo < 4294967296 ∧ 0 ≤ hi ∧ hi < 4294967296 ∧ 0 ≤ x ∧ x < 4294967296 ∧ 0 ≤ y ∧ y ≤ 8589934593 ∧ 0 ≤ b ∧ b < 4294967296 ∧ lo + 4294967296 * hi + (x + 4294967296 * y) * b = T
theorem RM.odd {T lo hi x y b s o s2 o2 : Int} (hT : T ≤ 18446744073709551615) (h : RM T lo hi x y b) (hb : 0 < b) (hodd : b % 2 = 1) (h1 : AddSpec lo x 0 s o) (h2 : AddSpec x x 0 s2 o2) :
    RM T s (hi + y + o) s2 (2 * y + o2) (b / 2) := by
  unfold RM at h ⊢; unfold AddSpec at h1 h2
  obtain ⟨l0, l1, i0, i1, x0, x1, y0, y1, b0, b1, he⟩ := h
  obtain ⟨k, rfl⟩ : ∃ k, b = 2 * k + 1 := ⟨b / 2, by omega⟩
  have hk : (2 * k + 1) / 2 = k := by omega
  have hP : 0 ≤ (x + 4294967296 * y) * k := Int.mul_nonneg (by omega) (by omega)
  have e1 : (x + 4294967296 * y) * (2 * k + 1) = 2 * ((x + 4294967296 * y) * k) + (x + 4294967296 * y) := by rw [Int.mul_add, Int.mul_one, Int.mul_left_comm]
  have e2 : (s2 + 4294967296 * (2 * y + o2)) * k = 2 * ((x + 4294967296 * y) * k) := by
    rw [show s2 + 4294967296 * (2 * y + o2) = 2 * (x + 4294967296 * y) from by omega, Int.mul_assoc]
  rw [hk, e2]; rw [e1] at he
  omega
theorem RM.even {T lo hi x y b s2 o2 : Int} (hT : T ≤ 18446744073709551615) (h : RM T lo hi x y b) (hb : 0 < b) (hodd : ¬ b % 2 = 1) (h2 : AddSpec x x 0 s2 o2) :
    RM T lo hi s2 (2 * y + o2) (b / 2) := by
  unfold RM at h ⊢; unfold AddSpec at h2
  obtain ⟨l0, l1, i0, i1, x0, x1, y0, y1, b0, b1, he⟩ := h
  obtain ⟨k, rfl⟩ : ∃ k, b = 2 * k := ⟨b / 2, by omega⟩
  have hk : 2 * k / 2 = k := by omega
  have hP : 0 ≤ (x + 4294967296 * y) * (k - 1) := Int.mul_nonneg (by omega) (by omega)
  have e0 : (x + 4294967296 * y) * (k - 1) = (x + 4294967296 * y) * k - (x + 4294967296 * y) := by rw [Int.mul_sub, Int.mul_one]
  have e1 : (x + 4294967296 * y) * (2 * k) = 2 * ((x + 4294967296 * y) * k) := by rw [Int.mul_left_comm]
  have e2 : (s2 + 4294967296 * (2 * y + o2)) * k = 2 * ((x + 4294967296 * y) * k) := by
    rw [show s2 + 4294967296 * (2 * y + o2) = 2 * (x + 4294967296 * y) from by omega, Int.mul_assoc]
  rw [hk, e2]; rw [e1] at he
  omega

theorem refMul_any (a b c d : Int) (a0 : 0 ≤ a) (a1 : a ≤ 18446744073709551615) (b0 : 0 ≤ b) (b1 : b ≤ 18446744073709551615) (c0 : 0 ≤ c) (c1 : c ≤ 18446744073709551615) (d0 : 0 ≤ d) (d1 : d ≤ 18446744073709551615) (w : World) :
    Calls Try.prog 14 #[.int .u64 a, .int .u64 b, .int .u64 c, .int .u64 d] w fun e w' =>
      ∃ s o, e = .returned (.tuple #[.int .u64 s, .int .u64 o]) ∧ MulSpec a b c d s o ∧ w = w' := by
  have hm := mul_bd (a % 4294967296) (b % 4294967296) (by omega) (by omega) (by omega) (by omega)
  obtain ⟨T, hT⟩ : ∃ T, T = (a % 4294967296) * (b % 4294967296) + c % 4294967296 + d % 4294967296 := ⟨_, rfl⟩
  have hTb : T ≤ 18446744073709551615 := by omega
  have HT := Lib.hid hT
  clear hT hm
  go_enter Try.func14, Try.ntmps14
  go_wp2_with (first | (go_at_call 9; refine (refAdd_any _ _ _ (by omega) (by omega) (by omega) (by omega) (by omega) (by omega) _).mono ?_; rintro e w' ⟨s0, o0, rfl, H0, rfl⟩))
  go_loop [1, 10, 11, 12, 13] (fun vb vl vh vx vy => ∃ lo hi x y b : Int, RM T lo hi x y b ∧ vb = .int .u64 b ∧ vl = .int .u64 lo ∧ vh = .int .u64 hi ∧ vx = .int .u64 x ∧ vy = .int .u64 y) (fun vb _ _ _ _ => (intOf vb).toNat)
  case atStart => exact ⟨_, _, _, _, _, by have := HT.out; unfold AddSpec at H0; unfold RM; rw [Int.mul_zero, Int.add_zero]; omega, rfl, rfl, rfl, rfl, rfl⟩
  case round =>
    obtain ⟨lo, hi, x, y, b, hR, rfl, rfl, rfl, rfl, rfl⟩ := hrel
    obtain ⟨l0, l1, i0, i1, x0, x1, y0, y1, b0, b1, _⟩ := id hR
    by_cases hb : 0 < b
    · by_cases hodd : b % 2 = 1
      · go_wp2_with fail
        refine (refAdd_any _ _ _ (by omega) (by omega) (by omega) (by omega) (by omega) (by omega) _).mono ?_; rintro e w' ⟨s1, o1, rfl, H1, rfl⟩
        have g1 := H1.1; have g2 := H1.2.1; have g3 := H1.2.2.1; have g4 := H1.2.2.2.1
        go_wp2_with fail
        refine (refAdd_any _ _ _ (by omega) (by omega) (by omega) (by omega) (by omega) (by omega) _).mono ?_; rintro e w' ⟨s2, o2, rfl, H2, rfl⟩
        have f1 := H2.1; have f2 := H2.2.1; have f3 := H2.2.2.1; have f4 := H2.2.2.2.1
        go_wp2
        go_round
        case rel => exact ⟨_, _, _, _, _, hR.odd hTb hb hodd H1 H2, rfl, rfl, rfl, rfl, rfl⟩
        case measure => simp [intOf]; omega
      · go_wp2_with fail
        refine (refAdd_any _ _ _ (by omega) (by omega) (by omega) (by omega) (by omega) (by omega) _).mono ?_; rintro e w' ⟨s2, o2, rfl, H2, rfl⟩
        have f1 := H2.1; have f2 := H2.2.1; have f3 := H2.2.2.1; have f4 := H2.2.2.2.1
        go_wp2
        go_round
        case rel => exact ⟨_, _, _, _, _, hR.even hTb hb hodd H2, rfl, rfl, rfl, rfl, rfl⟩
        case measure => simp [intOf]; omega
    · go_wp2
      go_ret2
      refine ⟨_, _, rfl, ?_, rfl⟩
      have hT := HT.out
      obtain rfl : b = 0 := by omega
      unfold RM at hR; rw [Int.mul_zero] at hR; unfold MulSpec; omega

/-! ### Div -/
def DivSpec (hi lo d q r e : Int) : Prop :=
  (d % 4294967296 = 0 ∧ q = 0 ∧ r = 0 ∧ e = 3) ∨ (0 < d % 4294967296 ∧ d % 4294967296 ≤ hi % 4294967296 ∧ q = 0 ∧ r = 0 ∧ e = 2) ∨
  (hi % 4294967296 < d % 4294967296 ∧ 0 ≤ q ∧ q < 4294967296 ∧ 0 ≤ r ∧ r < d % 4294967296 ∧ q * (d % 4294967296) + r = (hi % 4294967296) * 4294967296 + lo % 4294967296 ∧ e = 0)
theorem divmod_one {D q r q' r' : Int} (r0 : 0 ≤ r) (r1 : r < D) (s0 : 0 ≤ r') (s1 : r' < D) (h : q * D + r = q' * D + r') : q' = q ∧ r' = r := by
  have e1 : (r + q * D) / D = q := by rw [Int.add_mul_ediv_right _ _ (by omega), Int.ediv_eq_zero_of_lt r0 r1]; omega
  have e2 : (r' + q' * D) / D = q' := by rw [Int.add_mul_ediv_right _ _ (by omega), Int.ediv_eq_zero_of_lt s0 s1]; omega
  have : q' = q := by rw [← e1, ← e2]; congr 1; omega
  subst this; omega
theorem DivSpec.one {hi lo d q r e q' r' e' : Int} (h : DivSpec hi lo d q r e) (h' : DivSpec hi lo d q' r' e') : q' = q ∧ r' = r ∧ e' = e := by
  unfold DivSpec at h h'
  rcases h with h | h | ⟨h1, h2, h3, h4, h5, h6, h7⟩ <;> rcases h' with g | g | ⟨g1, g2, g3, g4, g5, g6, g7⟩
  all_goals first | (exfalso; omega) | omega | skip
  have := divmod_one h4 h5 g4 g5 (h6.trans g6.symm)
  omega

theorem DivSpec.of {hi lo d : Int} (h0 : 0 ≤ hi % 4294967296) (h : hi % 4294967296 < d % 4294967296) (l0 : 0 ≤ lo % 4294967296 ∧ lo % 4294967296 < 4294967296) :
    DivSpec hi lo d ((hi % 4294967296 * 4294967296 + lo % 4294967296) / (d % 4294967296)) ((hi % 4294967296 * 4294967296 + lo % 4294967296) % (d % 4294967296)) 0 := by
  unfold DivSpec
  refine Or.inr (Or.inr ⟨h, Int.ediv_nonneg (by omega) (by omega), ?_, Int.emod_nonneg _ (by omega), Int.emod_lt_of_pos _ (by omega), ?_, rfl⟩)
  · exact Int.ediv_lt_of_lt_mul (by omega) (by omega)
  · rw [Int.mul_comm]; exact Int.mul_ediv_add_emod _ _

theorem div_any (hi lo d : Int) (a0 : 0 ≤ hi) (a1 : hi ≤ 18446744073709551615) (b0 : 0 ≤ lo) (b1 : lo ≤ 18446744073709551615) (c0 : 0 ≤ d) (c1 : d ≤ 18446744073709551615) (w : World) :
    Calls Try.prog 15 #[.int .u64 hi, .int .u64 lo, .int .u64 d] w fun e w' =>
      ∃ q r x, e = .returned (.tuple #[.int .u64 q, .int .u64 r, .int .i64 x]) ∧ DivSpec hi lo d q r x ∧ ∃ n, w' = w.drewN n := by
  by_cases hd : d % 4294967296 = 0
  · go_enter Try.func15, Try.ntmps15
    go_wp2_with (first | (go_at_call 24; refine (low_any _ (by omega) (by omega) _).mono ?_; rintro e w' ⟨rfl, rfl⟩))
    go_ret3
    exact ⟨_, _, _, rfl, by unfold DivSpec; omega, 0, rfl⟩
  · by_cases hh : d % 4294967296 ≤ hi % 4294967296
    · go_enter Try.func15, Try.ntmps15
      go_wp2_with (first | (go_at_call 24; refine (low_any _ (by omega) (by omega) _).mono ?_; rintro e w' ⟨rfl, rfl⟩))
      go_ret3
      exact ⟨_, _, _, rfl, by unfold DivSpec; omega, 0, rfl⟩
    · go_enter Try.func15, Try.ntmps15
      go_wp2_with (first | (go_at_call 24; refine (low_any _ (by omega) (by omega) _).mono ?_; rintro e w' ⟨rfl, rfl⟩))
      go_quiet (fail)
      go_wp2
      go_ret3
      exact ⟨_, _, _, rfl, DivSpec.of (by omega) (by omega) (by omega), nq, rfl⟩

/-- The document's quotient, bit by bit: what its loop keeps behind k rounds. -/
def RD (D N : Int) (k : Nat) (q r l : Int) : Prop := 0 ≤ r ∧ r < D ∧ 0 ≤ l ∧ l < 4294967296 ∧ 0 ≤ q ∧ q ≤ 4294967295 ∧ q < 2 ^ k ∧ (q * D + r) * 4294967296 + l = N * 2 ^ k
theorem two_le (k : Nat) (h : k < 32) : (2 : Int) ^ k ≤ 2147483648 := by
  have h1 : (2 : Nat) ^ k ≤ 2 ^ 31 := Nat.pow_le_pow_right (by omega) (by omega)
  have h2 : ((2 ^ k : Nat) : Int) ≤ ((2 ^ 31 : Nat) : Int) := Int.ofNat_le.2 h1
  simpa using h2
theorem RD.up {D N : Int} {k : Nat} {q r l : Int} (hk : k < 32) (h : RD D N k q r l) (hge : D ≤ 2 * r + l / 2147483648) :
    RD D N (k + 1) (2 * q + 1) (2 * r + l / 2147483648 - D) (2 * l % 4294967296) := by
  unfold RD at h ⊢
  obtain ⟨h1, h2, h3, h4, h5, h6, h7, h8⟩ := h
  have h9 := two_le k hk
  have e1 : (2 * q + 1) * D = 2 * (q * D) + D := by rw [Int.add_mul, Int.one_mul, Int.mul_assoc]
  rw [Int.pow_succ, ← Int.mul_assoc, e1]
  omega
theorem RD.stay {D N : Int} {k : Nat} {q r l : Int} (hk : k < 32) (h : RD D N k q r l) (hge : ¬ D ≤ 2 * r + l / 2147483648) :
    RD D N (k + 1) (2 * q) (2 * r + l / 2147483648) (2 * l % 4294967296) := by
  unfold RD at h ⊢
  obtain ⟨h1, h2, h3, h4, h5, h6, h7, h8⟩ := h
  have h9 := two_le k hk
  have e1 : (2 * q) * D = 2 * (q * D) := by rw [Int.mul_assoc]
  rw [Int.pow_succ, ← Int.mul_assoc, e1]
  omega
theorem RD.done {hi lo d q r l : Int} (hh : hi % 4294967296 < d % 4294967296) (h : RD (d % 4294967296) (hi % 4294967296 * 4294967296 + lo % 4294967296) 32 q r l) : DivSpec hi lo d q r 0 := by
  unfold RD at h; unfold DivSpec
  have e : (2 : Int) ^ 32 = 4294967296 := by decide
  rw [e] at h
  omega
theorem RD.start {hi lo d : Int} (hh : hi % 4294967296 < d % 4294967296) : RD (d % 4294967296) (hi % 4294967296 * 4294967296 + lo % 4294967296) 0 0 (hi % 4294967296) (lo % 4294967296) := by
  unfold RD; rw [Int.pow_zero, Int.zero_mul]; omega

theorem refDiv_any (hi lo d : Int) (a0 : 0 ≤ hi) (a1 : hi ≤ 18446744073709551615) (b0 : 0 ≤ lo) (b1 : lo ≤ 18446744073709551615) (c0 : 0 ≤ d) (c1 : d ≤ 18446744073709551615) (w : World) :
    Calls Try.prog 16 #[.int .u64 hi, .int .u64 lo, .int .u64 d] w fun e w' =>
      ∃ q r x, e = .returned (.tuple #[.int .u64 q, .int .u64 r, .int .i64 x]) ∧ DivSpec hi lo d q r x ∧ w = w' := by
  by_cases hd : d % 4294967296 = 0
  · go_enter Try.func16, Try.ntmps16
    go_wp2
    go_ret3
    exact ⟨_, _, _, rfl, by unfold DivSpec; omega, rfl⟩
  · by_cases hh : d % 4294967296 ≤ hi % 4294967296
    · go_enter Try.func16, Try.ntmps16
      go_wp2
      go_ret3
      exact ⟨_, _, _, rfl, by unfold DivSpec; omega, rfl⟩
    · go_enter Try.func16, Try.ntmps16
      go_wp2
      go_loop [1, 9, 10, 11] (fun vl vq vr vi => ∃ (k : Nat) (q r l : Int), k ≤ 32 ∧ RD (d % 4294967296) (hi % 4294967296 * 4294967296 + lo % 4294967296) k q r l ∧ vl = .int .u64 l ∧ vq = .int .u64 q ∧ vr = .int .u64 r ∧ vi = .int .i64 (k : Int)) (fun _ _ _ vi => 32 - (intOf vi).toNat)
      case atStart => exact ⟨0, _, _, _, by omega, RD.start (by omega), rfl, rfl, rfl, rfl⟩
      case round =>
        obtain ⟨k, q, r, l, hk, hR, rfl, rfl, rfl, rfl⟩ := hrel
        obtain ⟨r0, r1, l0, l1, q0, q1, _⟩ := id hR
        by_cases hlt : k < 32
        · by_cases hge : d % 4294967296 ≤ 2 * r + l / 2147483648
          · go_wp2
            go_round
            case rel => exact ⟨k + 1, _, _, _, by omega, hR.up hlt hge, rfl, rfl, rfl, by go_num⟩
            case measure => simp [intOf]; omega
          · go_wp2
            go_round
            case rel => exact ⟨k + 1, _, _, _, by omega, hR.stay hlt hge, rfl, rfl, rfl, by go_num⟩
            case measure => simp [intOf]; omega
        · go_wp2
          go_ret3
          obtain rfl : k = 32 := by omega
          exact ⟨_, _, _, rfl, hR.done (by omega), rfl⟩

end Go.Proofs.Ytcneilkokgmbnaa.limb
