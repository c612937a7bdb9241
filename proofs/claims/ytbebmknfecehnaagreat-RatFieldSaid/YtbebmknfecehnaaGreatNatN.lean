/- Contracts of limb's low, split, Add, Sub, Mul, Bits, Zeros, as layer 2 calls them. Condition: the numbers handed in are uint64 (0 to 2^64 - 1).
Package nat: at, the comparisons of package cmp that it calls, May, Make, Of. Condition: slices read as limbs.
Package nat: Cmp, Make, Bits, Zeros, Small. Condition: slices read as limbs.
Package nat: Bits, Zeros, Small, Make. Condition: slices read as limbs.
Package nat: Sub. Condition: slices read as limbs.
Package nat: Shl, Shr. Condition: slices read as limbs.
Package nat: onto, Sum, Add. Condition: slices read as limbs.
Package nat: Sum, Add. Condition: slices read as limbs. -/
import Derived.Test.YtbebmknfecehnaaGreatRows
import Derived.WalkKit
import Derived.ProofKit
import Derived.Lib.Hide
import Derived.Deep.QuietTactic
import Derived.BigQuiet
import Derived.Outline
import Derived.WalkSmall
import Derived.Test.YtbebmknfecehnaaGreatRefN
import Derived.Deep.RegionLaw
import Derived.Deep.RegionWith
import Derived.Deep.DrawnRows
namespace Go.Proofs.YtbebmknfecehnaaGreat.limb
open Go.RowKit
set_option linter.unusedVariables false
set_option maxRecDepth 100000

def AddSpec (a b c s o : Int) : Prop := 0 ≤ s ∧ s < 4294967296 ∧ 0 ≤ o ∧ o ≤ 2 ∧ s + 4294967296 * o = a % 4294967296 + b % 4294967296 + c % 4294967296

def SubSpec (a b c s o : Int) : Prop := 0 ≤ s ∧ s < 4294967296 ∧ 0 ≤ o ∧ o ≤ 2 ∧ s - 4294967296 * o = a % 4294967296 - b % 4294967296 - c % 4294967296

def MulSpec (a b c d s o : Int) : Prop := 0 ≤ s ∧ s < 4294967296 ∧ 0 ≤ o ∧ o < 4294967296 ∧ s + 4294967296 * o = (a % 4294967296) * (b % 4294967296) + c % 4294967296 + d % 4294967296

theorem AddSpec.one {a b c s o s' o' : Int} (h : AddSpec a b c s o) (h' : AddSpec a b c s' o') : s' = s ∧ o' = o := by
  unfold AddSpec at h h'; omega

theorem SubSpec.one {a b c s o s' o' : Int} (h : SubSpec a b c s o) (h' : SubSpec a b c s' o') : s' = s ∧ o' = o := by
  unfold SubSpec at h h'; omega

theorem MulSpec.one {a b c d s o s' o' : Int} (h : MulSpec a b c d s o) (h' : MulSpec a b c d s' o') : s' = s ∧ o' = o := by
  unfold MulSpec at h h'; omega

theorem mul_bd (x y : Int) (hx : 0 ≤ x) (hx' : x ≤ 4294967295) (hy : 0 ≤ y) (hy' : y ≤ 4294967295) : 0 ≤ x * y ∧ x * y ≤ 18446744065119617025 := by
  refine ⟨Int.mul_nonneg hx hy, ?_⟩
  have := Int.mul_le_mul hx' hy' hy (by omega)
  omega

theorem low_any (a : Int) (h0 : 0 ≤ a) (h1 : a ≤ 18446744073709551615) (w : World) :
    Calls Tryz.prog 113 #[.int .u64 a] w fun e w' => e = .returned (.int .u64 (a % 4294967296)) ∧ w = w' := by
  go_enter Tryz.func113, Tryz.ntmps113
  go_wp2
  go_ret
  exact ⟨rfl, rfl⟩

theorem split_any (a : Int) (h0 : 0 ≤ a) (h1 : a ≤ 18446744073709551615) (w : World) :
    Calls Tryz.prog 119 #[.int .u64 a] w fun e w' => e = .returned (.tuple #[.int .u64 (a % 4294967296), .int .u64 (a / 4294967296)]) ∧ w = w' := by
  go_enter Tryz.func119, Tryz.ntmps119
  go_wp2
  go_ret2
  exact ⟨rfl, rfl⟩

theorem add_any (a b c : Int) (a0 : 0 ≤ a) (a1 : a ≤ 18446744073709551615) (b0 : 0 ≤ b) (b1 : b ≤ 18446744073709551615) (c0 : 0 ≤ c) (c1 : c ≤ 18446744073709551615) (w : World) :
    Calls Tryz.prog 108 #[.int .u64 a, .int .u64 b, .int .u64 c] w fun e w' =>
      ∃ s o, e = .returned (.tuple #[.int .u64 s, .int .u64 o]) ∧ AddSpec a b c s o ∧ w = w' := by
  go_enter Tryz.func108, Tryz.ntmps108
  go_wp2_with (first | (go_at_call 113; refine (low_any _ (by omega) (by omega) _).mono ?_; rintro e w' ⟨rfl, rfl⟩) | (go_at_call 119; refine (split_any _ (by omega) (by omega) _).mono ?_; rintro e w' ⟨rfl, rfl⟩))
  go_ret2
  exact ⟨_, _, rfl, by unfold AddSpec; omega, rfl⟩

theorem sub_any (a b c : Int) (a0 : 0 ≤ a) (a1 : a ≤ 18446744073709551615) (b0 : 0 ≤ b) (b1 : b ≤ 18446744073709551615) (c0 : 0 ≤ c) (c1 : c ≤ 18446744073709551615) (w : World) :
    Calls Tryz.prog 105 #[.int .u64 a, .int .u64 b, .int .u64 c] w fun e w' =>
      ∃ s o, e = .returned (.tuple #[.int .u64 s, .int .u64 o]) ∧ SubSpec a b c s o ∧ w = w' := by
  go_enter Tryz.func105, Tryz.ntmps105
  go_wp2_with (first | (go_at_call 113; refine (low_any _ (by omega) (by omega) _).mono ?_; rintro e w' ⟨rfl, rfl⟩))
  go_loop [8, 10] (fun x y => ∃ o : Int, 0 ≤ o ∧ o ≤ 2 ∧ a % 4294967296 + 4294967296 * o < b % 4294967296 + c % 4294967296 + 4294967296 ∧ x = .int .u64 (a % 4294967296 + 4294967296 * o) ∧ y = .int .u64 o) (fun x _ => (b % 4294967296 + c % 4294967296 - intOf x).toNat)
  case atStart => exact ⟨0, by omega, by omega, by omega, by simp, rfl⟩
  case round =>
    obtain ⟨o, o0, o1, ho, rfl, rfl⟩ := hrel
    by_cases hlt : a % 4294967296 + 4294967296 * o < b % 4294967296 + c % 4294967296
    · go_wp2
      go_round
      case rel => exact ⟨o + 1, by omega, by omega, by omega, by congr 1; omega, rfl⟩
      case measure => simp [intOf]; omega
    · go_wp2
      go_ret2
      exact ⟨_, _, rfl, by unfold SubSpec; omega, rfl⟩

theorem mul_any (a b c d : Int) (a0 : 0 ≤ a) (a1 : a ≤ 18446744073709551615) (b0 : 0 ≤ b) (b1 : b ≤ 18446744073709551615) (c0 : 0 ≤ c) (c1 : c ≤ 18446744073709551615) (d0 : 0 ≤ d) (d1 : d ≤ 18446744073709551615) (w : World) :
    Calls Tryz.prog 109 #[.int .u64 a, .int .u64 b, .int .u64 c, .int .u64 d] w fun e w' =>
      ∃ s o, e = .returned (.tuple #[.int .u64 s, .int .u64 o]) ∧ MulSpec a b c d s o ∧ w = w' := by
  have hm := mul_bd (a % 4294967296) (b % 4294967296) (by omega) (by omega) (by omega) (by omega)
  go_enter Tryz.func109, Tryz.ntmps109
  go_wp2_with (first | (go_at_call 113; refine (low_any _ (by omega) (by omega) _).mono ?_; rintro e w' ⟨rfl, rfl⟩) | (go_at_call 119; refine (split_any _ (by omega) (by omega) _).mono ?_; rintro e w' ⟨rfl, rfl⟩))
  go_ret2
  exact ⟨_, _, rfl, by unfold MulSpec; omega, rfl⟩

def BitsSpec (A : Int) (n : Nat) : Prop := A < 2 ^ n ∧ (n = 0 ∨ 2 ^ (n - 1) ≤ A)

def ZerosSpec (A : Int) (n : Nat) : Prop := n ≤ 32 ∧ A % 2 ^ n = 0 ∧ (n = 32 ∨ A / 2 ^ n % 2 = 1)

theorem pow_pos2 (n : Nat) : (0 : Int) < 2 ^ n := Int.pow_pos (by omega)

theorem pow_le {m n : Nat} (h : m ≤ n) : (2 : Int) ^ m ≤ 2 ^ n := by
  have h1 : (2 : Nat) ^ m ≤ 2 ^ n := Nat.pow_le_pow_right (by omega) h
  have h2 := Int.ofNat_le.2 h1
  simpa using h2

theorem BitsSpec.one {A : Int} {n m : Nat} (h : BitsSpec A n) (g : BitsSpec A m) : m = n := by
  unfold BitsSpec at h g
  rcases Nat.lt_trichotomy m n with h1 | h1 | h1
  · have := pow_le (show m ≤ n - 1 by omega); omega
  · exact h1
  · have := pow_le (show n ≤ m - 1 by omega); omega

theorem dvd_down {A : Int} {m n : Nat} (h : m < n) (hn : A % 2 ^ n = 0) : A / 2 ^ m % 2 = 0 := by
  obtain ⟨j, rfl⟩ : ∃ j, n = m + 1 + j := ⟨n - m - 1, by omega⟩
  obtain ⟨q, hq⟩ := Int.dvd_of_emod_eq_zero hn
  have e : A = 2 ^ m * (2 * (2 ^ j * q)) := by rw [hq, Int.pow_add, Int.pow_succ]; simp only [Int.mul_assoc]
  rw [e, Int.mul_ediv_cancel_left _ (by have := pow_pos2 m; omega)]; omega

theorem ZerosSpec.one {A : Int} {n m : Nat} (h : ZerosSpec A n) (g : ZerosSpec A m) : m = n := by
  unfold ZerosSpec at h g
  rcases Nat.lt_trichotomy m n with h1 | h1 | h1
  · have := dvd_down h1 h.2.1; omega
  · exact h1
  · have := dvd_down h1 g.2.1; omega

theorem mod_up {A : Int} {k : Nat} (h : A % 2 ^ k = 0) (h2 : A / 2 ^ k % 2 = 0) : A % 2 ^ (k + 1) = 0 := by
  obtain ⟨q, rfl⟩ := Int.dvd_of_emod_eq_zero h
  rw [Int.mul_ediv_cancel_left _ (by have := pow_pos2 k; omega)] at h2
  obtain ⟨r, rfl⟩ : ∃ r, q = 2 * r := ⟨q / 2, by omega⟩
  apply Int.emod_eq_zero_of_dvd
  exact ⟨r, by rw [Int.pow_succ, Int.mul_assoc]⟩

theorem ZerosSpec.low {a : Int} {n : Nat} (h : ZerosSpec a n) : ZerosSpec (a % 4294967296) n := by
  unfold ZerosSpec at h ⊢
  obtain ⟨h0, h1, h2⟩ := h
  obtain ⟨j, hj⟩ : ∃ j, 32 = n + j := ⟨32 - n, by omega⟩
  have e : (4294967296 : Int) = 2 ^ n * 2 ^ j := by rw [← Int.pow_add, ← hj]; decide
  have e2 : a = a % 4294967296 + 2 ^ n * (2 ^ j * (a / 4294967296)) := by rw [← Int.mul_assoc, ← e]; omega
  refine ⟨h0, ?_, ?_⟩
  · rw [e2, Int.add_mul_emod_self_left] at h1; exact h1
  · rcases h2 with h2 | h2
    · exact Or.inl h2
    · by_cases hn : n = 32
      · exact Or.inl hn
      · right
        obtain ⟨i, rfl⟩ : ∃ i, j = i + 1 := ⟨j - 1, by omega⟩
        rw [e2, Int.add_mul_ediv_left _ _ (by have := pow_pos2 n; omega), Int.pow_succ, Int.mul_comm (2 ^ i) 2, Int.mul_assoc] at h2
        omega

theorem bits_any (a : Int) (a0 : 0 ≤ a) (a1 : a ≤ 18446744073709551615) (w : World) :
    Calls Tryz.prog 96 #[.int .u64 a] w fun e w' => ∃ n : Nat, e = .returned (.int .i64 n) ∧ n ≤ 32 ∧ BitsSpec (a % 4294967296) n ∧ w = w' := by
  go_enter Tryz.func96, Tryz.ntmps96
  go_wp2_with (first | (go_at_call 113; refine (low_any _ (by omega) (by omega) _).mono ?_; rintro e w' ⟨rfl, rfl⟩))
  go_loop [6] (fun vk => ∃ k : Nat, k ≤ 32 ∧ (k = 0 ∨ 2 ^ (k - 1) ≤ a % 4294967296) ∧ vk = .int .i64 (k : Int)) (fun vk => 32 - (intOf vk).toNat)
  case atStart => exact ⟨0, by omega, by omega, rfl⟩
  case round =>
    obtain ⟨k, hk, hb, rfl⟩ := hrel
    have HB := Lib.hid hb
    clear hb
    by_cases hlt : k < 32
    · by_cases hz : (a % 4294967296 / 2 ^ k == 0) = true
      · go_wp2
        go_ret
        exact ⟨k, rfl, hk, ⟨by have := Int.lt_mul_ediv_self_add (x := a % 4294967296) (pow_pos2 k); rw [beq_iff_eq] at hz; rw [hz] at this; omega, HB.out⟩, rfl⟩
      · have hz' : (a % 4294967296 / 2 ^ k == 0) = false := by simpa using hz
        clear hz
        go_wp2
        go_round
        case rel =>
          refine ⟨k + 1, by omega, Or.inr ?_, by go_num⟩
          have h1 : ¬ a % 4294967296 / 2 ^ k = 0 := by simpa using hz'
          have h2 : 0 ≤ a % 4294967296 / 2 ^ k := Int.ediv_nonneg (by omega) (by have := pow_pos2 k; omega)
          have h3 : 1 ≤ a % 4294967296 / 2 ^ k := by omega
          have h4 := (Int.le_ediv_iff_mul_le (pow_pos2 k)).1 h3
          simpa using h4
        case measure => simp [intOf]; omega
    · go_wp2
      go_ret
      obtain rfl : k = 32 := by omega
      exact ⟨32, rfl, by omega, ⟨by have e : (2 : Int) ^ 32 = 4294967296 := by decide
                                    rw [e]; omega, HB.out⟩, rfl⟩

theorem zeros_any (a : Int) (a0 : 0 ≤ a) (a1 : a ≤ 18446744073709551615) (w : World) :
    Calls Tryz.prog 104 #[.int .u64 a] w fun e w' => ∃ n : Nat, e = .returned (.int .i64 n) ∧ n ≤ 32 ∧ ZerosSpec (a % 4294967296) n ∧ w = w' := by
  go_enter Tryz.func104, Tryz.ntmps104
  go_wp2_with (first | (go_at_call 113; refine (low_any _ (by omega) (by omega) _).mono ?_; rintro e w' ⟨rfl, rfl⟩))
  go_loop [6] (fun vk => ∃ k : Nat, k ≤ 32 ∧ (a % 4294967296 % 2 ^ k = 0) ∧ vk = .int .i64 (k : Int)) (fun vk => 32 - (intOf vk).toNat)
  case atStart => exact ⟨0, by omega, by omega, rfl⟩
  case round =>
    obtain ⟨k, hk, hb, rfl⟩ := hrel
    have HB := Lib.hid hb
    clear hb
    by_cases hlt : k < 32
    · have hand : bits BinOp.and IntKind.u64 (a % 4294967296 / 2 ^ k) 1 = a % 4294967296 / 2 ^ k % 2 := by
        have h0 : 0 ≤ a % 4294967296 / 2 ^ k := Int.ediv_nonneg (by omega) (by have := pow_pos2 k; omega)
        have h1 : a % 4294967296 / 2 ^ k ≤ a % 4294967296 := Int.ediv_le_self _ (by omega)
        exact and_one_u64 _ (by omega) (by omega)
      by_cases hz : a % 4294967296 / 2 ^ k % 2 = 1
      · have hz' : (bits BinOp.and IntKind.u64 (a % 4294967296 / 2 ^ k) 1 == 1) = true := by rw [hand, hz]; rfl
        have HZ := Lib.hid hz
        clear hz hand
        go_wp2
        go_ret
        exact ⟨k, rfl, hk, ⟨hk, HB.out, Or.inr HZ.out⟩, rfl⟩
      · have hz' : (bits BinOp.and IntKind.u64 (a % 4294967296 / 2 ^ k) 1 == 1) = false := by rw [hand]; simpa using hz
        have HZ := Lib.hid hz
        clear hz hand
        go_wp2
        go_round
        case rel => exact ⟨k + 1, by omega, mod_up HB.out (by have := HZ.out; omega), by go_num⟩
        case measure => simp [intOf]; omega
    · go_wp2
      go_ret
      obtain rfl : k = 32 := by omega
      exact ⟨32, rfl, by omega, ⟨by omega, HB.out, Or.inl rfl⟩, rfl⟩

end Go.Proofs.YtbebmknfecehnaaGreat.limb
namespace Go.Proofs.YtbebmknfecehnaaGreat.nat
open Go.RowKit Go.Proofs.YtbebmknfecehnaaGreat.num Go.Proofs.YtbebmknfecehnaaGreat.mem
set_option linter.unusedVariables false
set_option maxRecDepth 100000

theorem trimmed_digs (v : Value) (l : List Nat) (x : Nat) (w : World) (h : IsS w .u64 v l) (hlt : Lt 4294967296 l) (hx : x = val 4294967296 l) :
    Calls Tryz.prog 102 #[v] w (RetTr (digs 4294967296 x) v w) := by
  rw [hx, ← trim_digs (by omega) hlt]; exact trimmed_any v l w h

/-- Place i of the list, 0 behind it. -/
def AtD (l : List Nat) (i d : Nat) : Prop := l[i]? = some d ∨ l.length ≤ i ∧ d = 0
theorem AtD.of (l : List Nat) (i : Nat) : ∃ d, AtD l i d := by
  by_cases h : i < l.length
  · exact ⟨_, .inl (List.getElem?_eq_getElem h)⟩
  · exact ⟨0, .inr ⟨by omega, rfl⟩⟩
theorem AtD.lt {B : Nat} {l : List Nat} {i d : Nat} (h : AtD l i d) (hl : Lt B l) (hB : 0 < B) : d < B := by
  rcases h with h | ⟨_, rfl⟩
  · exact hl.at h
  · exact hB
set_option maxHeartbeats 400000 in
theorem at_any (v : Value) (l : List Nat) (iI : Int) (i d : Nat) (w : World) (hi : iI = (i : Int)) (h : IsS w .u64 v l) (hd : AtD l i d) :
    Calls Tryz.prog 106 #[v, .int .i64 iI] w fun e w' => e = .returned (.int .u64 (d : Int)) ∧ w' = w := by
  subst hi
  obtain ⟨A, c, rfl, hc, hm, hr⟩ := h
  unfold maxLen at hm
  rcases hd with hd | ⟨hd, rfl⟩
  · have hil : i < l.length := (List.getElem?_eq_some_iff.1 hd).1
    obtain ⟨ad, rfl, hcell⟩ := hr i d hd
    clear hd
    go_enter Tryz.func106, Tryz.ntmps106
    go_wp2
    go_ret
    exact ⟨rfl, rfl⟩
  · go_enter Tryz.func106, Tryz.ntmps106
    go_wp2
    go_ret
    exact ⟨rfl, rfl⟩

set_option maxHeartbeats 400000 in
theorem cmpInt_any (a b : Int) (x y : Nat) (t : Int) (w : World) (ha : a = (x : Int)) (hb : b = (y : Int)) (ht : t = ord x y) :
    Calls Tryz.prog 82 #[.int .i64 a, .int .i64 b] w fun e w' => e = .returned (.int .i64 t) ∧ w' = w := by
  subst ha; subst hb
  have z1 : ((x : Int) != (x : Int)) = false := by simp
  have z2 : ((y : Int) != (y : Int)) = false := by simp
  rcases Nat.lt_trichotomy x y with h | h | h
  · rw [ord_lt h] at ht; subst ht
    go_enter Tryz.func82, Tryz.ntmps82
    go_wp2
    go_ret
    exact ⟨rfl, rfl⟩
  · subst h; rw [ord_eq] at ht; subst ht
    go_enter Tryz.func82, Tryz.ntmps82
    go_wp2
    go_ret
    exact ⟨rfl, rfl⟩
  · rw [ord_gt h] at ht; subst ht
    go_enter Tryz.func82, Tryz.ntmps82
    go_wp2
    go_ret
    exact ⟨rfl, rfl⟩
set_option maxHeartbeats 400000 in
theorem cmpU_any (a b : Int) (x y : Nat) (t : Int) (w : World) (ha : a = (x : Int)) (hb : b = (y : Int)) (ht : t = ord x y) :
    Calls Tryz.prog 88 #[.int .u64 a, .int .u64 b] w fun e w' => e = .returned (.int .i64 t) ∧ w' = w := by
  subst ha; subst hb
  have z1 : ((x : Int) != (x : Int)) = false := by simp
  have z2 : ((y : Int) != (y : Int)) = false := by simp
  rcases Nat.lt_trichotomy x y with h | h | h
  · rw [ord_lt h] at ht; subst ht
    go_enter Tryz.func88, Tryz.ntmps88
    go_wp2
    go_ret
    exact ⟨rfl, rfl⟩
  · subst h; rw [ord_eq] at ht; subst ht
    go_enter Tryz.func88, Tryz.ntmps88
    go_wp2
    go_ret
    exact ⟨rfl, rfl⟩
  · rw [ord_gt h] at ht; subst ht
    go_enter Tryz.func88, Tryz.ntmps88
    go_wp2
    go_ret
    exact ⟨rfl, rfl⟩

set_option maxHeartbeats 400000 in
theorem may_any (v : Value) (l : List Nat) (w : World) (h : IsS w .u64 v l) (hu : Lt 18446744073709551616 l) :
    Calls Tryz.prog 62 #[v] w fun e w' => e = .returned (.bool (mayB l)) ∧ w = w' := by
  obtain ⟨A, c, rfl, hc, hm, hr⟩ := h
  have hm' := hm
  unfold maxLen at hm'
  go_enter Tryz.func62, Tryz.ntmps62
  go_wp2
  go_loop [7] (fun vn => ∃ n : Nat, n ≤ l.length ∧ Lt 4294967296 (l.take n) ∧ vn = .int .i64 (n : Int)) (fun vn => l.length - (intOf vn).toNat)
  case atStart => exact ⟨0, Nat.zero_le _, by rw [List.take_zero]; exact Lt.nil _, rfl⟩
  case round =>
    obtain ⟨n, hn, ht, rfl⟩ := hrel
    by_cases hp : n < l.length
    · obtain ⟨ad, d, rfl, hd, hcell⟩ := hr.at_ hp
      have HD := Lib.hid hd
      have hd2 : (d : Int) ≤ 18446744073709551615 := by have := hu.at hd; omega
      clear hd
      by_cases hbig : (4294967296 : Int) ≤ (d : Int)
      · have HB := Lib.hid (mayB_big HD.out (by omega))
        go_wp2
        go_ret
        exact ⟨by rw [HB.out]; rfl, rfl⟩
      · go_wp2
        go_round
        case rel => exact ⟨n + 1, by omega, by rw [take_step HD.out]; exact ht.snoc (by omega), by go_num⟩
        case measure => simp [intOf]; omega
    · obtain rfl : n = l.length := by omega
      rw [List.take_length] at ht
      by_cases hl0 : 0 < l.length
      · have hne : ¬ l = [] := by rintro rfl; simp at hl0
        have hlb : ((l.length : Int) == 0) = false := by rw [beq_eq_false_iff_ne]; omega
        obtain ⟨ad, d, rfl, hd, hcell⟩ := hr.at_ (i := l.length - 1) (by omega)
        by_cases hd0 : d = 0
        · subst hd0
          have HB := Lib.hid (mayB_last0 hd)
          clear hd
          go_wp2
          go_ret
          exact ⟨by rw [HB.out]; rfl, rfl⟩
        · have HB := Lib.hid (mayB_last ht hd hd0)
          have hz : ((d : Int) == 0) = false := by rw [beq_eq_false_iff_ne]; omega
          have hz2 : ((d : Int) != 0) = true := by rw [bne_iff_ne]; omega
          clear hd hd0
          go_wp2
          go_ret
          exact ⟨by rw [HB.out]; rfl, rfl⟩
      · obtain rfl : l = [] := List.length_eq_zero_iff.1 (by omega)
        have HB := Lib.hid mayB_nil
        go_wp2
        go_ret
        exact ⟨by rw [HB.out]; rfl, rfl⟩

set_option maxHeartbeats 400000 in
theorem of_any (nI : Int) (n : Nat) (w : World) (hn : nI = (n : Int)) (n1 : nI ≤ 18446744073709551615) :
    Calls Tryz.prog 87 #[.int .u64 nI] w (RetS .u64 (digs 4294967296 n) w) := by
  subst hn
  go_enter Tryz.func87, Tryz.ntmps87
  go_wp2_with fail
  refine (trimmed_digs _ [n % 4294967296, n / 4294967296] n _ (own_lit2 w w.heap.size _ .u64 (by omega) (by omega) (Nat.le_refl _)).isS (Lt.cons (by omega) (Lt.cons (by omega) (Lt.nil _))) (by simp [val]; omega)).mono ?_
  rintro e w' ⟨v', rfl, hv, hf, rfl⟩
  go_wp2
  go_ret
  exact ⟨_, rfl, hv, hf _ (fresh_at (Nat.le_refl _)), below_alloc (Nat.le_refl _) _⟩
end Go.Proofs.YtbebmknfecehnaaGreat.nat
namespace Go.Proofs.YtbebmknfecehnaaGreat.nat
open Go.RowKit Go.Proofs.YtbebmknfecehnaaGreat.num Go.Proofs.YtbebmknfecehnaaGreat.mem
set_option linter.unusedVariables false
set_option maxRecDepth 100000

/-- What Cmp's loop keeps while k limbs are still to come. -/
def CR (x y k : Nat) (t : Int) : Prop := (t = 0 → (digs 4294967296 x).length = (digs 4294967296 y).length ∧ (digs 4294967296 x).drop k = (digs 4294967296 y).drop k) ∧ (¬ t = 0 → t = ord x y)
theorem CR.start (x y : Nat) : CR x y (digs 4294967296 x).length (ord (digs 4294967296 x).length (digs 4294967296 y).length) := by
  unfold CR
  constructor
  · intro h
    have e := ord_zero.1 h
    exact ⟨e, by rw [List.drop_length, List.drop_of_length_le (by omega)]⟩
  · intro h
    rcases Nat.lt_trichotomy (digs 4294967296 x).length (digs 4294967296 y).length with h1 | h1 | h1
    · rw [ord_lt h1, ord_lt (len_lt_ord (by omega) h1)]
    · exact absurd (ord_zero.2 h1) h
    · rw [ord_gt h1, ord_gt (len_lt_ord (by omega) h1)]
theorem CR.step {x y j d e : Nat} (h : CR x y (j + 1) 0) (hd : (digs 4294967296 x)[j]? = some d) (he : (digs 4294967296 y)[j]? = some e) : CR x y j (ord d e) := by
  unfold CR at h ⊢
  obtain ⟨h1, h2⟩ := h.1 rfl
  constructor
  · intro h3
    have e3 := ord_zero.1 h3
    subst e3
    exact ⟨h1, drop_step hd he h2⟩
  · intro h3
    rcases Nat.lt_trichotomy d e with h4 | h4 | h4
    · have := at_lt_val (digs_lt (by omega) x) (digs_lt (by omega) y) h1 hd he h2 h4
      rw [val_digs (by omega), val_digs (by omega)] at this
      rw [ord_lt h4, ord_lt this]
    · exact absurd (ord_zero.2 h4) h3
    · have := at_lt_val (digs_lt (by omega) y) (digs_lt (by omega) x) h1.symm he hd h2.symm h4
      rw [val_digs (by omega), val_digs (by omega)] at this
      rw [ord_gt h4, ord_gt this]
theorem CR.done {x y k : Nat} {t : Int} (h : CR x y k t) (hk : k = 0 ∨ ¬ t = 0) : t = ord x y := by
  unfold CR at h
  by_cases h0 : t = 0
  · obtain ⟨_, h2⟩ := h.1 h0
    rcases hk with rfl | hk
    · rw [List.drop_zero, List.drop_zero] at h2
      have e := congrArg (val 4294967296) h2
      rw [val_digs (by omega), val_digs (by omega)] at e
      rw [h0, e, ord_eq]
    · exact absurd h0 hk
  · exact h.2 h0

set_option maxHeartbeats 800000 in
theorem cmp_any (v u : Value) (x y : Nat) (t : Int) (w : World) (h : IsS w .u64 v (digs 4294967296 x)) (h' : IsS w .u64 u (digs 4294967296 y)) (ht : t = ord x y) :
    Calls Tryz.prog 68 #[v, u] w (RetV (.int .i64 t) w) := by
  have HT := Lib.hid ht
  clear ht
  have lt1 := digs_lt (B := 4294967296) (by omega) x
  have lt2 := digs_lt (B := 4294967296) (by omega) y
  obtain ⟨A, c, rfl, hc, hm, hr⟩ := h
  obtain ⟨A', c', rfl, hc', hmm, hr'⟩ := h'
  unfold maxLen at hm hmm
  obtain ⟨t0, ht0⟩ : ∃ t0, t0 = ord (digs 4294967296 x).length (digs 4294967296 y).length := ⟨_, rfl⟩
  have hcr := CR.start x y
  rw [← ht0] at hcr
  have HT0 := Lib.hid ht0
  have htb := ord_bd (digs 4294967296 x).length (digs 4294967296 y).length
  rw [← ht0] at htb
  clear ht0
  go_enter Tryz.func68, Tryz.ntmps68
  go_wp2_with fail
  refine (cmpInt_any _ _ _ _ t0 _ rfl rfl HT0.out).mono ?_
  rintro e w' ⟨rfl, rfl⟩
  go_wp2
  go_loopw [5, 6] (fun vo vi wr => ∃ (k : Nat) (q : Int), k ≤ (digs 4294967296 x).length ∧ CR x y k q ∧ Below w'.heap.size w' wr ∧ vo = .int .i64 q ∧ vi = .int .i64 ((k : Int) - 1)) (fun _ vi _ => (intOf vi + 1).toNat)
  case atStart => exact ⟨_, t0, Nat.le_refl _, hcr, Below.refl _ _, rfl, rfl⟩
  case round =>
    clear hcr
    obtain ⟨k, q, hk, hC, hb, rfl, rfl⟩ := hrel
    by_cases hq : q = 0
    · subst hq
      by_cases hlt : 0 < k
      · obtain ⟨j, rfl⟩ : ∃ j, k = j + 1 := ⟨k - 1, by omega⟩
        have hlen : (digs 4294967296 x).length ≤ (digs 4294967296 y).length := by have := (hC.1 rfl).1; omega
        obtain ⟨ad, d, rfl, hd, hcell⟩ := (hr.below hb).at_ (i := j) (by omega)
        obtain ⟨ad', e, rfl, he, hcell'⟩ := (hr'.below hb).at_ (i := j) (by omega)
        have HC := hC.step hd he
        obtain ⟨t1, ht1⟩ : ∃ t1, t1 = ord d e := ⟨_, rfl⟩
        rw [← ht1] at HC
        have HT1 := Lib.hid ht1
        clear hd he ht1 hC
        go_wp2
        go_quiet ((go_at_call 88; exact Calls.quiet_of_same (cmpU_any _ _ d e t1 _ rfl rfl HT1.out)))
        go_wp2
        go_roundw
        case rel => exact ⟨j, t1, by omega, HC, below_drewN hb _, rfl, by go_num⟩
        case measure => simp [intOf]
      · have HE : Hid ((0 : Int) = t) := by have := hC.done (.inl (by omega)); show _ = _; rw [this, HT.out]
        go_wp2
        go_ret
        exact ⟨by rw [← HE.out]; rfl, hb⟩
    · have HE : Hid (q = t) := by have := hC.done (.inr hq); show _ = _; rw [this, HT.out]
      have hqb : (q == 0) = false := by rw [beq_eq_false_iff_ne]; exact hq
      clear hq
      by_cases hlt : 0 < k
      · go_wp2
        go_ret
        exact ⟨by rw [← HE.out]; rfl, hb⟩
      · go_wp2
        go_ret
        exact ⟨by rw [← HE.out]; rfl, hb⟩
end Go.Proofs.YtbebmknfecehnaaGreat.nat
namespace Go.Proofs.YtbebmknfecehnaaGreat.nat
open Go.RowKit Go.Proofs.YtbebmknfecehnaaGreat.num Go.Proofs.YtbebmknfecehnaaGreat.mem Go.Proofs.YtbebmknfecehnaaGreat.limb
set_option linter.unusedVariables false
set_option maxRecDepth 100000

theorem two_cast (n : Nat) : ((2 ^ n : Nat) : Int) = (2 : Int) ^ n := by simp
theorem pow32 (n : Nat) : (4294967296 : Nat) ^ n = 2 ^ (32 * n) := by rw [Nat.pow_mul]
theorem BitsSpec.nat {d n : Nat} (hd : d < 4294967296) (h : BitsSpec ((d : Int) % 4294967296) n) : d < 2 ^ n ∧ (n = 0 ∨ 2 ^ (n - 1) ≤ d) := by
  unfold BitsSpec at h
  rw [show (d : Int) % 4294967296 = (d : Int) from by omega, ← two_cast, ← two_cast] at h
  omega
/-- The bits of a number: those of its last limb, and 32 for each one ahead of it. -/
theorem nbits_top {x n d b : Nat} (hn : (digs 4294967296 x).length = n + 1) (hd : (digs 4294967296 x)[n]? = some d) (h : BitsSpec ((d : Int) % 4294967296) b) : nbits x = n * 32 + b := by
  have hd0 := digs_last (by omega) x hn hd
  have hd1 := (digs_lt (by omega) x).at hd
  obtain ⟨h1, h2⟩ := BitsSpec.nat hd1 h
  have hb : b ≠ 0 := by rintro rfl; simp at h1; omega
  obtain ⟨c, rfl⟩ : ∃ c, b = c + 1 := ⟨b - 1, by omega⟩
  have h3 : 2 ^ c ≤ d := by simpa using h2
  have e := val_take_step (B := 4294967296) hd
  have hlow := val_lt ((digs_lt (B := 4294967296) (by omega) x).take n)
  rw [show ((digs 4294967296 x).take n).length = n from by simp; omega] at hlow
  rw [← hn, List.take_length, val_digs (by omega)] at e
  rw [pow32] at e hlow
  have e1 := Nat.mul_le_mul_left (2 ^ (32 * n)) h3
  have e2 := Nat.mul_le_mul_left (2 ^ (32 * n)) h1
  rw [← Nat.pow_add] at e1 e2
  rw [Nat.mul_succ] at e2
  rw [show n * 32 + (c + 1) = (32 * n + c) + 1 from by omega]
  refine nbits_of ?_ ?_
  · rw [show 32 * n + c + 1 = 32 * n + (c + 1) from by omega]; omega
  · omega

theorem tz_shift (k : Nat) {y : Nat} (hy : 0 < y) : tz (2 ^ k * y) = k + tz y := by
  induction k with
  | zero => simp
  | succ k ih =>
    have e : 2 ^ (k + 1) * y = 2 * (2 ^ k * y) := by rw [Nat.pow_succ, Nat.mul_comm (2 ^ k) 2, Nat.mul_assoc]
    have hp : 0 < 2 ^ k * y := Nat.mul_pos (Nat.pow_pos (by omega)) hy
    rw [e, tz_even (by omega) (by omega), Nat.mul_div_cancel_left _ (by omega), ih]; omega
theorem ZerosSpec.nat {d z : Nat} (hd : d < 4294967296) (hd0 : d ≠ 0) (h : ZerosSpec ((d : Int) % 4294967296) z) : z < 32 ∧ d % 2 ^ z = 0 ∧ d / 2 ^ z % 2 = 1 := by
  unfold ZerosSpec at h
  rw [show (d : Int) % 4294967296 = (d : Int) from by omega, ← two_cast] at h
  obtain ⟨h1, h2, h3⟩ := h
  have h2' : d % 2 ^ z = 0 := by exact_mod_cast h2
  have hz : z ≠ 32 := by
    rintro rfl
    rw [show (2 : Nat) ^ 32 = 4294967296 from by decide] at h2'
    omega
  refine ⟨by omega, h2', ?_⟩
  rcases h3 with h3 | h3
  · exact absurd h3 hz
  · have h4 : ((d / 2 ^ z % 2 : Nat) : Int) = 1 := by rw [Int.natCast_emod, Int.natCast_ediv]; exact h3
    omega
/-- The lowest bits of a number: those of its first limb that is not 0, and 32 for each one ahead of it. -/
theorem tz_first {x k d z : Nat} (h0 : val 4294967296 ((digs 4294967296 x).take k) = 0) (hd : (digs 4294967296 x)[k]? = some d) (hd0 : d ≠ 0) (h : ZerosSpec ((d : Int) % 4294967296) z) : tz x = k * 32 + z := by
  have hd1 := (digs_lt (by omega) x).at hd
  obtain ⟨h1, h2, h3⟩ := ZerosSpec.nat hd1 hd0 h
  have hk : k < (digs 4294967296 x).length := (List.getElem?_eq_some_iff.1 hd).1
  obtain ⟨r, hr⟩ : ∃ r, r = val 4294967296 ((digs 4294967296 x).drop (k + 1)) := ⟨_, rfl⟩
  have e : x = 2 ^ (32 * k) * (d + 4294967296 * r) := by
    have e1 := val_digs (B := 4294967296) (by omega) x
    rw [← List.take_append_drop k (digs 4294967296 x), val_append, h0, val_drop_step hd, ← hr, show ((digs 4294967296 x).take k).length = k from by simp; omega, pow32] at e1
    omega
  obtain ⟨j, hj⟩ : ∃ j, 32 = z + (j + 1) := ⟨31 - z, by omega⟩
  have e32 : (4294967296 : Nat) = 2 ^ z * 2 ^ (j + 1) := by rw [← Nat.pow_add, ← hj]
  have et : tz (d + 4294967296 * r) = z := by
    rw [e32, Nat.mul_assoc]
    refine tz_of ?_ ?_
    · rw [Nat.add_mul_mod_self_left]; exact h2
    · rw [Nat.add_mul_div_left _ _ (Nat.pow_pos (by omega)), Nat.pow_succ, Nat.mul_comm (2 ^ j) 2, Nat.mul_assoc]; omega
  rw [e, tz_shift _ (by omega), et]; omega

set_option maxHeartbeats 400000 in
theorem zeros_any (v : Value) (x b : Nat) (w : World) (h : IsS w .u64 v (digs 4294967296 x)) (hl : (digs 4294967296 x).length ≤ 1000000) (hb : b = tz x) :
    Calls Tryz.prog 90 #[v] w fun e w' => e = .returned (.int .i64 (b : Int)) ∧ w = w' := by
  have hlt := digs_lt (B := 4294967296) (by omega) x
  have HB := Lib.hid hb
  clear hb
  obtain ⟨A, c, rfl, hc, hm, hr⟩ := h
  go_enter Tryz.func90, Tryz.ntmps90
  go_wp2
  go_loop [7] (fun vn => ∃ n : Nat, n ≤ (digs 4294967296 x).length ∧ Hid (val 4294967296 ((digs 4294967296 x).take n) = 0) ∧ vn = .int .i64 (n : Int)) (fun vn => (digs 4294967296 x).length - (intOf vn).toNat)
  case atStart => exact ⟨0, Nat.zero_le _, by show _ = _; simp [val], rfl⟩
  case round =>
    obtain ⟨k, hk, hV, rfl⟩ := hrel
    by_cases hp : k < (digs 4294967296 x).length
    · obtain ⟨ad, d, rfl, hd, hcell⟩ := hr.at_ hp
      have hd1 := hlt.at hd
      by_cases hd0 : d = 0
      · subst hd0
        have HN : Hid (val 4294967296 ((digs 4294967296 x).take (k + 1)) = 0) := by show _ = _; rw [val_take_step hd, hV.out]; rfl
        clear hd
        go_wp2
        go_round
        case rel => exact ⟨k + 1, by omega, HN, by go_num⟩
        case measure => simp [intOf]; omega
      · have hz : ((d : Int) == 0) = false := by rw [beq_eq_false_iff_ne]; omega
        have hz2 : ((d : Int) != 0) = true := by rw [bne_iff_ne]; omega
        have HT : Hid (∀ z, ZerosSpec ((d : Int) % 4294967296) z → tz x = k * 32 + z) := fun z hz => tz_first hV.out hd hd0 hz
        clear hd hd0
        go_wp2_with fail
        refine (limb.zeros_any _ (by omega) (by omega) _).mono ?_
        rintro e w' ⟨n, rfl, hn, hs, rfl⟩
        have HS := Lib.hid hs
        clear hs
        go_wp2
        go_ret
        refine ⟨?_, rfl⟩
        have e1 := HT.out n HS.out
        have e2 := HB.out
        show Ending.returned (.int .i64 _) = .returned (.int .i64 _)
        rw [show (k : Int) * 32 + (n : Int) = (b : Int) from by omega]
    · have HZ : Hid (b = 0) := by
        have h1 := hV.out
        rw [List.take_of_length_le (by omega), val_digs (by omega)] at h1
        have := HB.out; rw [h1, tz_zero] at this; exact this
      go_wp2
      go_ret
      exact ⟨by rw [HZ.out]; rfl, rfl⟩

theorem nbits_big {x : Nat} : 63 < nbits x ↔ 9223372036854775808 ≤ x := by
  constructor
  · intro h
    have h1 := nbits_le (x := x) (by
      rcases Nat.eq_zero_or_pos x with h0 | h0
      · rw [h0, nbits_zero] at h; omega
      · exact h0)
    have h2 : (2 : Nat) ^ 63 ≤ 2 ^ (nbits x - 1) := Nat.pow_le_pow_right (by omega) (by omega)
    have h3 : (2 : Nat) ^ 63 = 9223372036854775808 := by decide
    omega
  · intro h
    rcases Nat.lt_or_ge 63 (nbits x) with h1 | h1
    · exact h1
    · have h2 := nbits_lt (x := x)
      have h3 : (2 : Nat) ^ nbits x ≤ 2 ^ 63 := Nat.pow_le_pow_right (by omega) h1
      have h4 : (2 : Nat) ^ 63 = 9223372036854775808 := by decide
      omega
theorem at_digs0 (x : Nat) : AtD (digs 4294967296 x) 0 (x % 4294967296) := by
  rcases Nat.eq_zero_or_pos x with h | h
  · subst h; exact .inr ⟨by rw [digs_zero]; simp, rfl⟩
  · left; rw [digs_pos (by omega) h]; rfl
theorem at_digs1 (x : Nat) : AtD (digs 4294967296 x) 1 (x / 4294967296 % 4294967296) := by
  rcases Nat.eq_zero_or_pos x with h | h
  · subst h; exact .inr ⟨by rw [digs_zero]; simp, rfl⟩
  · rcases at_digs0 (x / 4294967296) with h1 | ⟨h1, h2⟩
    · left; rw [digs_pos (by omega) h]; exact h1
    · right; exact ⟨by rw [digs_pos (by omega) h]; simpa using h1, h2⟩

end Go.Proofs.YtbebmknfecehnaaGreat.nat
namespace Go.Proofs.YtbebmknfecehnaaGreat.nat
open Go.RowKit Go.Proofs.YtbebmknfecehnaaGreat.num Go.Proofs.YtbebmknfecehnaaGreat.mem Go.Proofs.YtbebmknfecehnaaGreat.limb
set_option linter.unusedVariables false
set_option maxRecDepth 100000

theorem fresh_nil (B : Nat) : Fresh B (.slice none 0 0) := fun ad n c e => by injection e with e _ _; injection e
theorem take_set_step {o : List Nat} {k s : Nat} (hk : k < o.length) : (o.set k s).take (k + 1) = o.take k ++ [s] := by
  rw [take_step (l := o.set k s) (d := s) (List.getElem?_set_self hk), List.take_set_of_le (Nat.le_refl _)]

set_option maxHeartbeats 400000 in
theorem sub_less (v u : Value) (x y : Nat) (w : World) (h : IsS w .u64 v (digs 4294967296 x)) (h' : IsS w .u64 u (digs 4294967296 y)) (hxy : x < y) :
    Calls Tryz.prog 92 #[v, u] w (RetSI .u64 [] 6 w) := by
  have HO := Lib.hid (ord_lt hxy).symm
  clear hxy
  go_enter Tryz.func92, Tryz.ntmps92
  go_wp2_with fail
  refine (cmp_any _ _ _ _ (-1) _ h h' HO.out).mono ?_
  rintro e w' ⟨rfl, hb⟩
  go_wp2
  go_ret2
  exact ⟨_, rfl, isNil _ _, fresh_nil _, hb⟩

set_option maxHeartbeats 800000 in
theorem sub_ok (v u : Value) (x y : Nat) (w : World) (h : IsS w .u64 v (digs 4294967296 x)) (h' : IsS w .u64 u (digs 4294967296 y)) (hl : (digs 4294967296 x).length ≤ 1000000) (hxy : y ≤ x) (z : Nat) (hz : z = x - y) :
    Calls Tryz.prog 92 #[v, u] w (RetSI .u64 (digs 4294967296 z) 0 w) := by
  obtain ⟨t, ht⟩ : ∃ t, t = ord x y := ⟨_, rfl⟩
  have ht0 : ¬ t < 0 := by rw [ht, ord_lt0]; omega
  have HO := Lib.hid ht
  have HZ := Lib.hid hz
  have HXY := Lib.hid hxy
  clear ht hz hxy
  have lt1 := digs_lt (B := 4294967296) (by omega) x
  have lt2 := digs_lt (B := 4294967296) (by omega) y
  have hv := h
  obtain ⟨A, c, rfl, hc, hm, hr⟩ := h
  go_enter Tryz.func92, Tryz.ntmps92
  go_wp2_with fail
  refine (cmp_any _ _ _ _ t _ hv h' HO.out).mono ?_
  rintro e w1 ⟨rfl, hb1⟩
  have hsz1 := hb1.size
  go_wp2_with (at_make; refine wpList_make_rd rfl _ _ rfl sl24 (digs 4294967296 x).length rfl rfl rfl rfl (by omega) (Nat.le_refl _) ?_; intro w2 hown2 hb2 hz2)
  go_loopw [7, 19] (fun vc vi wr => ∃ (k cy : Nat) (o : List Nat), k ≤ (digs 4294967296 x).length ∧ cy ≤ 1 ∧ o.length ≤ (digs 4294967296 x).length ∧ (digs 4294967296 x).length ≤ o.length ∧ SB 4294967296 (digs 4294967296 x) (digs 4294967296 y) k cy (o.take k) ∧ Own wr w1.heap.size 55 .u64 (.slice (some ⟨w1.heap.size, 0, none⟩) (digs 4294967296 x).length (digs 4294967296 x).length) o ∧ Below w1.heap.size w1 wr ∧ vc = .int .u64 (cy : Int) ∧ vi = .int .i64 (k : Int)) (fun _ vi _ => (digs 4294967296 x).length - (intOf vi).toNat)
  case atStart => exact ⟨0, 0, List.replicate (digs 4294967296 x).length 0, by omega, by omega, by simp, by simp, SB.start _ _ _, hown2, hb2, rfl, rfl⟩
  case round =>
    clear hown2 hb2 hz2
    obtain ⟨k, cy, o, hk, hcy, ho1, ho2, hS, hown, hb, rfl, rfl⟩ := hrel
    have hsz := hb.size
    by_cases hp : k < (digs 4294967296 x).length
    · obtain ⟨ad, d, rfl, hd, hcell⟩ := ((hr.below hb1).below hb).at_ hp
      have hd1 := lt1.at hd
      obtain ⟨e, he⟩ := AtD.of (digs 4294967296 y) k
      have he1 := he.lt lt2 (by omega)
      obtain ⟨a', ha'⟩ : ∃ a', o[k]? = some a' := ⟨_, List.getElem?_eq_getElem (by omega)⟩
      have hc' := hown.cellAt ha'
      have hf' := hown.frozenAt k
      have HS : Hid (∀ s c', s < 4294967296 → s + e + cy = d + 4294967296 * c' → SB 4294967296 (digs 4294967296 x) (digs 4294967296 y) (k + 1) c' ((o.set k s).take (k + 1))) := by
        intro s c' hs heq
        rw [take_set_step (by omega)]
        exact hS.step hd he hs heq
      have HE := Lib.hid he
      clear hd ha' he hS
      go_wp2_with fail
      refine (at_any _ _ _ k e _ rfl ((h'.below hb1).below hb) HE.out).mono ?_
      rintro e' w3 ⟨rfl, rfl⟩
      go_wp2_with fail
      refine (limb.sub_any _ _ _ (by omega) (by omega) (by omega) (by omega) (by omega) (by omega) _).mono ?_
      rintro e' w4 ⟨s, c2, rfl, H, rfl⟩
      unfold SubSpec at H
      obtain ⟨s0, s1, c0, c1, heq⟩ := H
      obtain ⟨s, rfl⟩ := Int.eq_ofNat_of_zero_le s0
      obtain ⟨c2, rfl⟩ := Int.eq_ofNat_of_zero_le c0
      have HQ : Hid (s + e + cy = d + 4294967296 * c2) := by show _ = _; omega
      have c3 : c2 ≤ 1 := by omega
      clear heq
      go_wp2
      go_roundw
      case rel => exact ⟨k + 1, c2, o.set k s, by omega, c3, by simpa using ho1, by simpa using ho2, HS.out s c2 (by omega) HQ.out, hown.stored k s, hb.setCell (Nat.le_refl _) _, rfl, by go_num⟩
      case measure => simp [intOf]; omega
    · obtain rfl : k = (digs 4294967296 x).length := by omega
      have hml := digs_len_mono (B := 4294967296) (by omega) HXY.out
      rw [List.take_of_length_le ho1] at hS
      obtain ⟨g1, g2⟩ := hS.done hml (by rw [val_digs (by omega), val_digs (by omega)]; exact HXY.out)
      rw [val_digs (by omega), val_digs (by omega)] at g2
      have HV : Hid (z = val 4294967296 o) := by show _ = _; rw [g2]; exact HZ.out
      clear g2 hS
      go_wp2_with fail
      refine (trimmed_digs _ o z _ hown.isS g1 HV.out).mono ?_
      rintro e w' ⟨v', rfl, hv', hf, rfl⟩
      go_wp2
      go_ret2
      exact ⟨_, rfl, hv', (hf _ (fresh_at (Nat.le_refl _))).mono hsz1, hb1.trans (hb.mono hsz1)⟩

/-- What raised keeps behind k rounds. -/
def RA (l : List Nat) (n k up : Nat) (o : List Nat) : Prop := Lt 4294967296 o ∧ o.length = k ∧ val 4294967296 o + 4294967296 ^ k * up = val 4294967296 (l.take k) * 2 ^ n
theorem RA.start (l : List Nat) (n : Nat) : RA l n 0 0 [] := by unfold RA; exact ⟨Lt.nil _, rfl, by simp [val]⟩
theorem RA.step {l o : List Nat} {n k up d s c : Nat} (h : RA l n k up o) (hd : l[k]? = some d) (hs : s < 4294967296) (he : s + 4294967296 * c = d * 2 ^ n + up) : RA l n (k + 1) c (o ++ [s]) := by
  unfold RA at h ⊢
  obtain ⟨h1, h2, h3⟩ := h
  refine ⟨h1.snoc hs, by simp [h2], ?_⟩
  rw [val_snoc, h2, val_take_step hd, Nat.add_mul, ← h3, Nat.pow_succ, Nat.mul_assoc, Nat.mul_assoc, Nat.add_assoc, ← Nat.mul_add, he, Nat.mul_add]; omega
theorem RA.done {l o : List Nat} {n up : Nat} (h : RA l n l.length up o) (hu : up < 4294967296) : Lt 4294967296 (o ++ [up]) ∧ (o ++ [up]).length = l.length + 1 ∧ val 4294967296 (o ++ [up]) = val 4294967296 l * 2 ^ n := by
  unfold RA at h
  obtain ⟨h1, h2, h3⟩ := h
  rw [List.take_length] at h3
  exact ⟨h1.snoc hu, by simp [h2], by rw [val_snoc, h2]; exact h3⟩
/-- raised ends with a new slice of one limb more, times 2 to the n. -/
def RetRa (x n len : Nat) (w : World) (e : Ending) (w' : World) : Prop := ∃ v r, e = .returned v ∧ IsS w' .u64 v r ∧ Lt 4294967296 r ∧ r.length = len + 1 ∧ val 4294967296 r = x * 2 ^ n ∧ Fresh w.heap.size v ∧ Below w.heap.size w w'

set_option maxHeartbeats 800000 in
theorem raised_any (v : Value) (x : Nat) (nI : Int) (n : Nat) (w : World) (hn : nI = (n : Int)) (h : IsS w .u64 v (digs 4294967296 x)) (hl : (digs 4294967296 x).length ≤ 1000000) (hn31 : n ≤ 31) :
    Calls Tryz.prog 115 #[v, .int .i64 nI] w (RetRa x n (digs 4294967296 x).length w) := by
  subst hn
  have lt1 := digs_lt (B := 4294967296) (by omega) x
  obtain ⟨p, hp⟩ : ∃ p, p = 2 ^ n := ⟨_, rfl⟩
  have hpb : p ≤ 2147483648 := by rw [hp]; exact Nat.pow_le_pow_right (j := 31) (by omega) hn31
  have HP := Lib.hid hp
  have hw : IntKind.u64.wrap ((2 : Int) ^ n) = (p : Int) := by
    rw [← two_cast, ← hp, IntKind.wrap_u64]; omega
  clear hp
  obtain ⟨A, c, rfl, hc, hm, hr⟩ := h
  go_enter Tryz.func115, Tryz.ntmps115
  go_wp2_with (at_make; refine wpList_make_rd rfl _ _ rfl sl24 ((digs 4294967296 x).length + 1) rfl rfl (by omega) (by omega) (by omega) (Nat.le_refl _) ?_; intro w2 hown2 hb2 hz2)
  go_loopw [6, 15] (fun vc vi wr => ∃ (k cy : Nat) (o : List Nat), k ≤ (digs 4294967296 x).length ∧ cy < 4294967296 ∧ o.length ≤ (digs 4294967296 x).length + 1 ∧ (digs 4294967296 x).length + 1 ≤ o.length ∧ RA (digs 4294967296 x) n k cy (o.take k) ∧ Own wr w.heap.size 55 .u64 (.slice (some ⟨w.heap.size, 0, none⟩) ((digs 4294967296 x).length + 1) ((digs 4294967296 x).length + 1)) o ∧ Below w.heap.size w wr ∧ vc = .int .u64 (cy : Int) ∧ vi = .int .i64 (k : Int)) (fun _ vi _ => (digs 4294967296 x).length - (intOf vi).toNat)
  case atStart => exact ⟨0, 0, List.replicate ((digs 4294967296 x).length + 1) 0, by omega, by omega, by simp, by simp, RA.start _ _, hown2, hb2, rfl, rfl⟩
  case round =>
    clear hown2 hb2 hz2
    obtain ⟨k, cy, o, hk, hcy, ho1, ho2, hS, hown, hb, rfl, rfl⟩ := hrel
    have hsz := hb.size
    by_cases hp : k < (digs 4294967296 x).length
    · obtain ⟨ad, d, rfl, hd, hcell⟩ := (hr.below hb).at_ hp
      have hd1 := lt1.at hd
      obtain ⟨a', ha'⟩ : ∃ a', o[k]? = some a' := ⟨_, List.getElem?_eq_getElem (by omega)⟩
      have hc' := hown.cellAt ha'
      have hf' := hown.frozenAt k
      have HS : Hid (∀ s c', s < 4294967296 → s + 4294967296 * c' = d * 2 ^ n + cy → RA (digs 4294967296 x) n (k + 1) c' ((o.set k s).take (k + 1))) := by
        intro s c' hs heq
        rw [take_set_step (by omega)]
        exact hS.step hd hs heq
      have hpo : d * p ≤ 4294967295 * 2147483648 := Nat.mul_le_mul (by omega) hpb
      clear hd ha' hS
      go_wp2_with fail
      refine (limb.mul_any _ _ _ _ (by omega) (by omega) (by omega) (by omega) (by omega) (by omega) (by omega) (by omega) _).mono ?_
      rintro e' w4 ⟨s, c2, rfl, H, rfl⟩
      unfold MulSpec at H
      rw [show (d : Int) % 4294967296 = (d : Int) from by omega, show (p : Int) % 4294967296 = (p : Int) from by omega] at H
      obtain ⟨s0, s1, c0, c1, heq⟩ := H
      obtain ⟨s, rfl⟩ := Int.eq_ofNat_of_zero_le s0
      obtain ⟨c2, rfl⟩ := Int.eq_ofNat_of_zero_le c0
      have HQ : Hid (s + 4294967296 * c2 = d * 2 ^ n + cy) := by
        show _ = _
        rw [← HP.out]
        have e1 : ((d * p : Nat) : Int) = (d : Int) * (p : Int) := by simp
        rw [← e1] at heq
        omega
      clear heq hpo
      go_wp2
      go_roundw
      case rel => exact ⟨k + 1, c2, o.set k s, by omega, by omega, by simpa using ho1, by simpa using ho2, HS.out s c2 (by omega) HQ.out, hown.stored k s, hb.setCell (Nat.le_refl _) _, rfl, by go_num⟩
      case measure => simp [intOf]; omega
    · obtain rfl : k = (digs 4294967296 x).length := by omega
      obtain ⟨a', ha'⟩ : ∃ a', o[(digs 4294967296 x).length]? = some a' := ⟨_, List.getElem?_eq_getElem (by omega)⟩
      have hc' := hown.cellAt ha'
      have hf' := hown.frozenAt (digs 4294967296 x).length
      obtain ⟨g1, g2, g3⟩ := hS.done hcy
      rw [← take_set_step (by omega), List.take_of_length_le (by rw [List.length_set]; exact ho1)] at g1 g2 g3
      rw [val_digs (by omega)] at g3
      have hown' := hown.stored (digs 4294967296 x).length cy
      have hb' : Below w.heap.size w (wr.setCell ⟨w.heap.size, (digs 4294967296 x).length, none⟩ (.int .u64 (cy : Int))) := hb.setCell (Nat.le_refl _) _
      have G2 := Lib.hid g2
      have G3 := Lib.hid g3
      clear g2 g3 hS ha'
      go_wp2
      go_ret
      exact ⟨_, _, rfl, hown'.isS, g1, G2.out, G3.out, hown'.fresh, hb'⟩
end Go.Proofs.YtbebmknfecehnaaGreat.nat
namespace Go.Proofs.YtbebmknfecehnaaGreat.mem
open Go.RowKit
set_option linter.unusedVariables false
set_option maxRecDepth 100000
/-- A slice cut at its head. -/
theorem Rd.drop {w : World} {A : Option Addr} {k : IntKind} {l : List Nat} (h : Rd w A k l) (n : Nat) : Rd w (A.map (·.add n)) k (l.drop n) := by
  intro i d hd
  rw [List.getElem?_drop] at hd
  obtain ⟨ad, rfl, hc⟩ := h _ d hd
  refine ⟨ad.add n, rfl, ?_⟩
  have e : (ad.add n).add i = ad.add (n + i) := by
    unfold Addr.add
    by_cases hn : n = 0 <;> by_cases hi : i = 0 <;> simp [hn, hi, Nat.add_assoc]
  rw [e]; exact hc
theorem Rd.isDrop {w : World} {A : Option Addr} {k : IntKind} {l : List Nat} (h : Rd w A k l) {n c : Nat} (hc : l.length ≤ c) (hm : c ≤ maxLen) (hn : n ≤ l.length) : IsS w k (.slice (A.map fun x => x.add n) (l.length - n) (c - n)) (l.drop n) :=
  ⟨_, _, by rw [List.length_drop], by rw [List.length_drop]; omega, by omega, h.drop n⟩
theorem isEmpty_ {w : World} {A : Option Addr} {k : IntKind} {l : List Nat} {n m c : Nat} (hm : m = 0) (hl : l.length ≤ n) (hc : c ≤ maxLen) : IsS w k (.slice A m c) (l.drop n) := by
  rw [List.drop_of_length_le hl, hm]
  exact ⟨_, _, rfl, by simp, hc, Rd.nil⟩
theorem Fresh.drop {B : Nat} {A : Option Addr} {n c : Nat} (h : Fresh B (.slice A n c)) (i m d : Nat) : Fresh B (.slice (A.map fun x => x.add i) m d) := by
  intro ad n' c' e
  rcases A with _ | a
  · injection e with e _ _; cases e
  · injection e with e _ _
    injection e with e
    subst e
    rw [block_add]; exact h a _ _ rfl
theorem Fresh.cut {B : Nat} {A : Option Addr} {n c : Nat} (h : Fresh B (.slice A n c)) (m d : Nat) : Fresh B (.slice A m d) := by
  rintro ad n' c' e
  injection e with e _ _
  subst e; exact h ad _ _ rfl
end Go.Proofs.YtbebmknfecehnaaGreat.mem
namespace Go.Proofs.YtbebmknfecehnaaGreat.nat
open Go.RowKit Go.Proofs.YtbebmknfecehnaaGreat.num Go.Proofs.YtbebmknfecehnaaGreat.mem Go.Proofs.YtbebmknfecehnaaGreat.limb
set_option linter.unusedVariables false
set_option maxRecDepth 100000

theorem step_append_rd {P : Program} {w : World} {ops : Array Oper} {o : Oper} {a : Act} {K : Act → World → Prop} {Q : Exit → Act → World → Prop} {E : Prop} (hgd : o.guard = none) (s x : Operand) {t : TypeId}
    (ho : o.op = .call { callee := .builtin .append, args := #[s, x], argTypes := #[t, t] })
    {base : Nat} {e : TypeId} {k : IntKind} (hT : SliceT P t e k) {v : Value} {l news : List Nat} (hs : a.eval s = v) (hown : Own w base e k v l) {A : Option Addr} {m c : Nat} (hx : a.eval x = .slice A m c) (hm : m = news.length) (hr : Rd w A k news)
    (hlen : l.length + m ≤ 10000000000000) (hbase : base ≤ w.heap.size)
    (h : ∀ v' w', Own w' base e k v' (l ++ news) → Below base w w' → K (a.put o.dst v') w') :
    if Region.wanted o (yielded ops a.tmps) = true then Oper.wp P o a w K Q else E := by
  have hw : Region.wanted o (yielded ops a.tmps) = true := by simp [Region.wanted, hgd]
  rw [if_pos hw]
  exact wp_append_rd s x ho hT hs hown hx hm hr hlen hbase fun v' w' h1 h2 => h v' w' h1 ((Below.refl base w).grown h2 hbase hown.base_le)
theorem run_make24 (n : Nat) (hn : n ≤ 10000000000000) (w : World) :
    (Instr.makeSlice 23 (.int .i64 (n : Int)) (.int .i64 (n : Int))).run Tryz.prog w = .ok (.slice (some ⟨w.heap.size, 0, none⟩) n n) (w.alloc (.cells (madeCells #[.int .u64 0] n) 55)) := by
  obtain ⟨i, hi, hz, hs, hb⟩ := sl24.info
  have h := run_make (P := Tryz.prog) w 23 55 i (.int .u64 0) sl24.und hi hz .i64 .i64 n n (by omega) (Int.le_refl _) (by rw [hb]; omega) (by omega)
  rw [hs, Nat.mul_one] at h
  simp only [Int.toNat_natCast] at h
  exact h

set_option maxHeartbeats 400000 in
theorem shl_no (v : Value) (n : Int) (w : World) (hn : n < 0 ∨ 100000 < n) :
    Calls Tryz.prog 107 #[v, .int .i64 n] w (RetSI .u64 [] 2 w) := by
  rcases hn with hn | hn
  all_goals
    go_enter Tryz.func107, Tryz.ntmps107
    go_wp2
    go_ret2
    exact ⟨_, rfl, isNil _ _, fresh_nil _, Below.refl _ _⟩
set_option maxHeartbeats 400000 in
theorem shr_no (v : Value) (n : Int) (w : World) (hn : n < 0 ∨ 100000 < n) :
    Calls Tryz.prog 98 #[v, .int .i64 n] w (RetSI .u64 [] 2 w) := by
  rcases hn with hn | hn
  all_goals
    go_enter Tryz.func98, Tryz.ntmps98
    go_wp2
    go_ret2
    exact ⟨_, rfl, isNil _ _, fresh_nil _, Below.refl _ _⟩

set_option maxHeartbeats 1600000 in
theorem shl_ok (v : Value) (x : Nat) (nI : Int) (n : Nat) (w : World) (hn : nI = (n : Int)) (h : IsS w .u64 v (digs 4294967296 x)) (hl : (digs 4294967296 x).length ≤ 1000000) (hn2 : n ≤ 100000) (y : Nat) (hy : y = x * 2 ^ n) :
    Calls Tryz.prog 107 #[v, .int .i64 nI] w (RetSI .u64 (digs 4294967296 y) 0 w) := by
  subst hn
  obtain ⟨q, hq⟩ : ∃ q, q = n / 32 := ⟨_, rfl⟩
  obtain ⟨r, hr⟩ : ∃ r, r = n % 32 := ⟨_, rfl⟩
  have hmk := run_make24 q (by omega)
  have hn0 : (0 : Int) ≤ (n : Int) := by omega
  have hn3 : (n : Int) ≤ 100000 := by omega
  have e1 : IntKind.i64.wrap ((n : Int) / 32) = (q : Int) := by rw [IntWalk.i64_in _ (by omega)]; omega
  have e2 : ((n : Int)).tmod 32 = (r : Int) := by rw [Int.tmod_eq_emod_of_nonneg (by omega)]; omega
  have hqb : q ≤ 3125 := by omega
  have hrb : r ≤ 31 := by omega
  have HQ := Lib.hid hq
  have HR := Lib.hid hr
  have HY := Lib.hid hy
  have HV : Hid (∀ m : List Nat, val 4294967296 m = x * 2 ^ r → y = val 4294967296 (List.replicate q 0 ++ m)) := by
    intro m hm
    rw [val_append, val_rep, hm, List.length_replicate, pow32, HY.out, Nat.zero_add, Nat.mul_left_comm, ← Nat.pow_add]
    congr 2; omega
  have HL : Hid (∀ m : List Nat, Lt 4294967296 m → Lt 4294967296 (List.replicate q 0 ++ m)) := fun m hm => (Lt.rep (by omega) q).append hm
  clear hq hr hy
  go_enter Tryz.func107, Tryz.ntmps107
  go_wp2
  go_region_law (first
    | (refine step_append_rd rfl (.tmp 14) (.tmp 18) rfl sl24 (by rfl) (base := w.heap.size) (l := List.replicate q 0) (by first | exact own_made w2 w.heap.size _ .u64 q hsz2 (by unfold maxLen; omega) | exact Own.below (w := (w.alloc _).drew) (own_made w w.heap.size _ .u64 q (Nat.le_refl _) (by unfold maxLen; omega)) hb2) (by rfl) (news := r2) rfl (by first | exact hr2 | exact hr2.below (below_alloc (Nat.le_refl _) _)) (by simp; omega) (by first | exact hsz2 | exact Nat.le_trans hsz2 (by simp)) ?_; intro v' w4 hown4 hb4)
    | (go_simp; go_at_call 115; refine (raised_any _ x _ r _ rfl (by first | exact h | exact h.below ((below_alloc (Nat.le_refl _) _).drew)) hl hrb).mono ?_; rintro e w2 ⟨v2, r2, rfl, hv2, hlt2, hlen2, hval2, hf2, hb2⟩; obtain ⟨A2, c2, rfl, hc2, hm2, hr2⟩ := hv2; have hlb : r2.length ≤ 1000001 := (by omega); have HV2 := Lib.hid hval2; have hsz2 : w.heap.size ≤ w2.heap.size := (by have h0 := hb2.size; first | exact h0 | exact Nat.le_trans (by simp) h0); clear hlen2 hval2)
    | (go_simp; go_at_call 102; refine (trimmed_digs _ _ y _ hown4.isS (HL.out _ hlt2) (HV.out _ HV2.out)).mono ?_; rintro e w3 ⟨v3, rfl, hv3, hf3, rfl⟩))
  all_goals
    go_wp2
    go_ret2
    refine ⟨_, rfl, hv3, hf3 _ hown4.fresh, ?_⟩
    first
    | exact ((below_alloc (Nat.le_refl _) _).drew.trans (hb2.mono (by simp))).trans hb4
    | exact (((Below.refl _ w).drew.trans hb2).alloc hsz2 _).trans hb4

theorem val_drop_div {B : Nat} (hB : 2 ≤ B) {l : List Nat} (h : Lt B l) (n : Nat) : val B (l.drop n) = val B l / B ^ n := by
  by_cases hn : n ≤ l.length
  · have h1 := val_append B (l.take n) (l.drop n)
    have h2 := val_lt (h.take n)
    rw [List.take_append_drop] at h1
    rw [show (l.take n).length = n from by simp; omega] at h1 h2
    rw [h1, Nat.add_mul_div_left _ _ (Nat.pow_pos (by omega)), Nat.div_eq_of_lt h2, Nat.zero_add]
  · rw [List.drop_of_length_le (by omega), val_nil]
    have h2 := val_lt h
    have h3 := Nat.pow_le_pow_right (n := B) (by omega) (show l.length ≤ n by omega)
    rw [Nat.div_eq_of_lt (by omega)]
theorem shr_val {x n g : Nat} (hg : n ≤ g * 32) : x * 2 ^ (g * 32 - n) / 4294967296 ^ g = x / 2 ^ n := by
  have e : (4294967296 : Nat) ^ g = 2 ^ n * 2 ^ (g * 32 - n) := by rw [pow32, ← Nat.pow_add]; congr 1; omega
  rw [e, Nat.mul_div_mul_right _ _ (Nat.pow_pos (by omega))]

set_option maxHeartbeats 800000 in
theorem shr_ok (v : Value) (x : Nat) (nI : Int) (n : Nat) (w : World) (hn : nI = (n : Int)) (h : IsS w .u64 v (digs 4294967296 x)) (hl : (digs 4294967296 x).length ≤ 1000000) (hn2 : n ≤ 100000) (y : Nat) (hy : y = x / 2 ^ n) :
    Calls Tryz.prog 98 #[v, .int .i64 nI] w (RetSI .u64 (digs 4294967296 y) 0 w) := by
  subst hn
  have HY : Hid (y = x * 2 ^ ((n + 31) / 32 * 32 - n) / 4294967296 ^ ((n + 31) / 32)) := by show _ = _; rw [hy, shr_val (by omega)]
  clear hy
  go_enter Tryz.func98, Tryz.ntmps98
  go_wp2_with fail
  refine (raised_any _ x _ ((n + 31) / 32 * 32 - n) _ (by omega) h hl (by omega)).mono ?_
  rintro e w2 ⟨v2, r2, rfl, hv2, hlt2, hlen2, hval2, hf2, hb2⟩
  obtain ⟨A2, c2, rfl, hc2, hm2, hr2⟩ := hv2
  have hlb : r2.length ≤ 1000001 := by omega
  have HV : Hid (y = val 4294967296 (r2.drop ((n + 31) / 32))) := by show _ = _; rw [val_drop_div (by omega) hlt2, hval2]; exact HY.out
  have hlt3 := hlt2.drop ((n + 31) / 32)
  clear hlen2 hval2
  have hm3 := hm2
  unfold maxLen at hm2
  by_cases hgl : (n + 31) / 32 ≤ r2.length
  · go_wp2_with fail
    all_goals
      refine (trimmed_digs _ (r2.drop ((n + 31) / 32)) y _ (by first | exact hr2.isDrop hc2 hm3 hgl | exact isEmpty_ (by omega) (by omega) (by omega)) hlt3 HV.out).mono ?_
      rintro e w3 ⟨v3, rfl, hv3, hf3, rfl⟩
      go_wp2
      go_ret2
      exact ⟨_, rfl, hv3, hf3 _ (by first | exact hf2.drop _ _ _ | exact hf2.cut _ _), hb2⟩
  · go_wp2_with fail
    all_goals
      refine (trimmed_digs _ (r2.drop ((n + 31) / 32)) y _ (isEmpty_ (by omega) (by omega) (by omega)) hlt3 HV.out).mono ?_
      rintro e w3 ⟨v3, rfl, hv3, hf3, rfl⟩
      go_wp2
      go_ret2
      exact ⟨_, rfl, hv3, hf3 _ (by first | exact hf2.drop _ _ _ | exact hf2.cut _ _), hb2⟩
end Go.Proofs.YtbebmknfecehnaaGreat.nat
namespace Go.Proofs.YtbebmknfecehnaaGreat.nat
open Go.RowKit Go.Proofs.YtbebmknfecehnaaGreat.num Go.Proofs.YtbebmknfecehnaaGreat.mem Go.Proofs.YtbebmknfecehnaaGreat.limb
set_option linter.unusedVariables false
set_option maxRecDepth 100000

/-- The last limb is not 0. -/
def NZ (o : List Nat) : Prop := ∀ d, o[o.length - 1]? = some d → d ≠ 0
theorem NZ.trim {o : List Nat} (h : NZ o) : num.trim o = o := by
  by_cases hl : 0 < o.length
  · obtain ⟨d, hd⟩ : ∃ d, o[o.length - 1]? = some d := ⟨_, List.getElem?_eq_getElem (by omega)⟩
    have := trim_of_take hd (h d hd)
    rwa [show o.length - 1 + 1 = o.length from by omega, List.take_length] at this
  · obtain rfl : o = [] := List.length_eq_zero_iff.1 (by omega)
    rfl
theorem NZ.digs (x : Nat) : NZ (num.digs 4294967296 x) := by
  intro d hd
  have hl : (num.digs 4294967296 x).length - 1 < (num.digs 4294967296 x).length := (List.getElem?_eq_some_iff.1 hd).1
  exact digs_last (by omega) x (by omega) hd
/-- What onto keeps at place i. -/
def OT (x : Nat) (m : List Nat) (i up : Nat) (o : List Nat) : Prop :=
  Lt 4294967296 o ∧ val 4294967296 o + 4294967296 ^ i * up = x + val 4294967296 (m.take i) ∧ i ≤ o.length ∧ (NZ o ∨ (o.length = i ∧ (0 < up ∨ i < m.length)))
/-- What it keeps once place i is there. -/
def PR (x : Nat) (m : List Nat) (i up : Nat) (o : List Nat) : Prop :=
  Lt 4294967296 o ∧ val 4294967296 o + 4294967296 ^ i * up = x + val 4294967296 (m.take i) ∧ i < o.length ∧ ((i + 1 < o.length ∧ NZ o) ∨ (i + 1 = o.length ∧ ((∀ s, o[i]? = some s → s ≠ 0) ∨ 0 < up ∨ i < m.length)))
theorem OT.start (x : Nat) (m : List Nat) : OT x m 0 0 (num.digs 4294967296 x) := by
  unfold OT
  exact ⟨digs_lt (by omega) x, by rw [val_digs (by omega)]; simp [val], by omega, .inl (NZ.digs x)⟩
theorem OT.there {x i up : Nat} {m o : List Nat} (h : OT x m i up o) (hi : i < o.length) : PR x m i up o := by
  unfold OT at h; unfold PR
  obtain ⟨h1, h2, h3, h4⟩ := h
  have hz : NZ o := by
    rcases h4 with h4 | ⟨h4, _⟩
    · exact h4
    · omega
  refine ⟨h1, h2, hi, ?_⟩
  by_cases hl : i + 1 < o.length
  · exact .inl ⟨hl, hz⟩
  · refine .inr ⟨by omega, .inl fun s hs => hz s ?_⟩
    rw [show o.length - 1 = i from by omega]; exact hs
theorem OT.append {x up : Nat} {m o : List Nat} (h : OT x m o.length up o) (hc : 0 < up ∨ o.length < m.length) : PR x m o.length up (o ++ [0]) := by
  unfold OT at h; unfold PR
  obtain ⟨h1, h2, h3, h4⟩ := h
  refine ⟨h1.snoc (by omega), by rw [val_snoc]; omega, by simp, .inr ⟨by simp, .inr hc⟩⟩
theorem PR.step {x i up s e t up' : Nat} {m o : List Nat} (h : PR x m i up o) (hm : NZ m) (hs : o[i]? = some s) (he : AtD m i e) (ht : t < 4294967296) (heq : t + 4294967296 * up' = s + e + up) : OT x m (i + 1) up' (o.set i t) := by
  unfold PR at h; unfold OT
  obtain ⟨h1, h2, h3, h4⟩ := h
  have ee : val 4294967296 (m.take (i + 1)) = val 4294967296 (m.take i) + 4294967296 ^ i * e := by
    rcases he with he | ⟨he, rfl⟩
    · exact val_take_step he
    · rw [val_take_over he]; omega
  have hv := val_set (B := 4294967296) hs t
  refine ⟨h1.set ht i, ?_, by simp; omega, ?_⟩
  · rw [ee, Nat.pow_succ, Nat.mul_assoc]
    have e1 : 4294967296 ^ i * t + 4294967296 ^ i * (4294967296 * up') = 4294967296 ^ i * s + 4294967296 ^ i * e + 4294967296 ^ i * up := by
      rw [← Nat.mul_add, ← Nat.mul_add, ← Nat.mul_add, heq]
    omega
  · rcases h4 with ⟨h4, h5⟩ | ⟨h4, h5⟩
    · left
      intro d hd
      rw [List.length_set, List.getElem?_set_ne (by omega)] at hd
      exact h5 d hd
    · by_cases hu : 0 < up'
      · exact .inr ⟨by simp; omega, .inl hu⟩
      · by_cases ht0 : t = 0
        · right
          refine ⟨by simp; omega, .inr ?_⟩
          have hs0 : s = 0 := by omega
          have hu0 : up = 0 := by omega
          have he0 : e = 0 := by omega
          have him : i < m.length := by
            rcases h5 with h5 | h5 | h5
            · exact absurd hs0 (h5 s hs)
            · omega
            · exact h5
          rcases he with he | ⟨he, _⟩
          · by_cases hl : i + 1 < m.length
            · exact hl
            · exact absurd he0 (hm e (by rw [show m.length - 1 = i from by omega]; exact he))
          · omega
        · left
          intro d hd
          rw [List.length_set, show o.length - 1 = i from by omega, List.getElem?_set_self h3] at hd
          injection hd with hd
          omega
theorem val_take_le (B : Nat) (l : List Nat) (n : Nat) : val B (l.take n) ≤ val B l := by
  have := val_append B (l.take n) (l.drop n)
  rw [List.take_append_drop] at this; omega
theorem OT.bound {x y i up : Nat} {o : List Nat} (h : OT x (num.digs 4294967296 y) i up o) (hu : 0 < up) : i ≤ (num.digs 4294967296 x).length + (num.digs 4294967296 y).length := by
  unfold OT at h
  obtain ⟨h1, h2, h3, h4⟩ := h
  rcases Nat.lt_or_ge ((num.digs 4294967296 x).length + (num.digs 4294967296 y).length) i with h5 | h5
  · exfalso
    have a1 := digs_lt_pow (B := 4294967296) (by omega) x
    have a2 := digs_lt_pow (B := 4294967296) (by omega) y
    have a3 := val_take_le 4294967296 (num.digs 4294967296 y) i
    rw [val_digs (by omega)] at a3
    obtain ⟨L, hL⟩ : ∃ L, L = (num.digs 4294967296 x).length + (num.digs 4294967296 y).length := ⟨_, rfl⟩
    have b1 := Nat.pow_le_pow_right (n := 4294967296) (by omega) (show (num.digs 4294967296 x).length ≤ L by omega)
    have b2 := Nat.pow_le_pow_right (n := 4294967296) (by omega) (show (num.digs 4294967296 y).length ≤ L by omega)
    have b3 := Nat.pow_le_pow_right (n := 4294967296) (by omega) (show L + 1 ≤ i by omega)
    have b4 := Nat.mul_le_mul_left (4294967296 ^ i) hu
    rw [Nat.pow_succ] at b3
    omega
  · exact h5
theorem OT.done {x y i : Nat} {o : List Nat} (h : OT x (num.digs 4294967296 y) i 0 o) (hi : (num.digs 4294967296 y).length ≤ i) : o = num.digs 4294967296 (x + y) := by
  unfold OT at h
  obtain ⟨h1, h2, h3, h4⟩ := h
  rw [List.take_of_length_le hi, val_digs (by omega)] at h2
  have hz : NZ o := by
    rcases h4 with h4 | ⟨_, h4⟩
    · exact h4
    · omega
  have e := trim_digs (by omega) h1
  rw [hz.trim] at e
  have e2 : val 4294967296 o = x + y := by omega
  rw [e2] at e; exact e

/-- The call ends with the row of the call's own that was handed in, or a longer one. -/
def RetOn (w0 : World) (l : List Nat) (e : Ending) (w' : World) : Prop := ∃ v, e = .returned v ∧ Own w' w0.heap.size 55 .u64 v l ∧ Below w0.heap.size w0 w'

attribute [local go_sem ↓] Go.wp_at_zero Go.wp_at_succ
set_option maxHeartbeats 3200000 in
theorem onto_any (w0 : World) (v u : Value) (x y : Nat) (w : World) (h : Own w w0.heap.size 55 .u64 v (digs 4294967296 x)) (h' : IsS w0 .u64 u (digs 4294967296 y)) (hb : Below w0.heap.size w0 w) (hl : (digs 4294967296 x).length ≤ 1000000) (hl' : (digs 4294967296 y).length ≤ 1000000) :
    Calls Tryz.prog 116 #[v, u] w (RetOn w0 (digs 4294967296 (x + y))) := by
  have lt2 := digs_lt (B := 4294967296) (by omega) y
  have hu0 := h'
  obtain ⟨A, c, rfl, hc, hm, hr⟩ := h'
  go_enter Tryz.func116, Tryz.ntmps116
  go_wp2
  go_loopw [0, 5, 6] (fun vo vc vi wr => ∃ (i up : Nat) (o : List Nat), up ≤ 1 ∧ o.length ≤ (digs 4294967296 x).length + i ∧ i ≤ (digs 4294967296 x).length + (digs 4294967296 y).length + 1 ∧ OT x (digs 4294967296 y) i up o ∧ Own wr w0.heap.size 55 .u64 vo o ∧ Below w0.heap.size w0 wr ∧ vc = .int .u64 (up : Int) ∧ vi = .int .i64 (i : Int)) (fun _ _ vi _ => (digs 4294967296 x).length + (digs 4294967296 y).length + 1 - (intOf vi).toNat)
  case atStart => exact ⟨0, 0, _, by omega, by omega, by omega, OT.start x _, h, hb, rfl, rfl⟩
  case round =>
    clear h hb
    obtain ⟨i, up, o, hup, hol, hiL, hO, hown, hb, rfl, rfl⟩ := hrel
    have hsz := hb.size
    have hio := hO.2.2.1
    by_cases hcont : i < (digs 4294967296 y).length ∨ 0 < up
    · have hiL2 : i ≤ (digs 4294967296 x).length + (digs 4294967296 y).length := by
        rcases hcont with h1 | h1
        · omega
        · exact hO.bound h1
      obtain ⟨e, he⟩ := AtD.of (digs 4294967296 y) i
      have he1 := he.lt lt2 (by omega)
      have HE := Lib.hid he
      clear he
      by_cases happ : i = o.length
      · subst happ
        have HP : Hid (PR x (digs 4294967296 y) o.length up (o ++ [0])) := hO.append (by omega)
        clear hO
        rcases (show o.length < (digs 4294967296 y).length ∨ (¬ o.length < (digs 4294967296 y).length ∧ ((up : Int) != 0) = true) from by by_cases hx : o.length < (digs 4294967296 y).length; exact .inl hx; exact .inr ⟨hx, by rw [bne_iff_ne]; omega⟩) with hcc | ⟨hcc, hnz⟩
        all_goals
          obtain ⟨A2, c2, rfl, hc2, hm2, hr2⟩ := hown.isS
          go_wp2_with (at_builtin; refine wpList_append_one rfl _ _ rfl sl24 0 rfl hown rfl rfl (by omega) (by omega) ?_; intro v' w1 hown1 hb1 hg1)
          have hb2 := hb.trans hb1
          have hsz2 := hb2.size
          obtain ⟨g, cap, rfl, q1, q2, q3, q4⟩ := hown1.place (by simp)
          simp only [List.length_append, List.length_singleton] at hown1 q1
          clear hown hr2 hg1 hb1 hb
          obtain ⟨s, hs⟩ : ∃ s, (o ++ [0])[o.length]? = some s := ⟨_, List.getElem?_eq_getElem (by have := HP.out.2.2.1; exact this)⟩
          have hs1 : s < 4294967296 := HP.out.1.at hs
          have hc0 := hown1.cellAt hs
          have hf0 := hown1.frozenAt o.length
          have HS : Hid (∀ t c', t < 4294967296 → t + 4294967296 * c' = s + e + up → OT x (digs 4294967296 y) (o.length + 1) c' ((o ++ [0]).set o.length t)) := fun t c' h1 h2 => HP.out.step (NZ.digs y) hs HE.out h1 h2
          have hua := hu0.below hb2
          have b1 : (0 : Int) ≤ (o.length : Nat) := by omega
          have b2 : ((o.length : Nat) : Int) < (((o ++ [0]).length : Nat) : Int) := by have := HP.out.2.2.1; omega
          try simp only [List.length_append, List.length_singleton] at b2
          clear hs HP
          go_region_with (first
            | (go_at_call 106; refine (at_any _ _ _ o.length e _ rfl (by exact hua) HE.out).mono ?_; rintro e' w3 ⟨rfl, rfl⟩)
            | (go_at_call 108; refine (limb.add_any _ _ _ (by omega) (by omega) (by omega) (by omega) (by omega) (by omega) _).mono ?_; rintro e' w4 ⟨t, c3, rfl, H, rfl⟩))
          all_goals
            unfold AddSpec at H
            obtain ⟨s0, s1, c0, c1, heq⟩ := H
            obtain ⟨t, rfl⟩ := Int.eq_ofNat_of_zero_le s0
            obtain ⟨c3, rfl⟩ := Int.eq_ofNat_of_zero_le c0
            have HQ : Hid (t + 4294967296 * c3 = s + e + up) := by show _ = _; omega
            have hc3 : c3 ≤ 1 := by omega
            clear heq
            go_wp2
            go_roundw
            case rel => exact ⟨o.length + 1, c3, (o ++ [0]).set o.length t, hc3, (by rw [List.length_set]; first | omega | (simp; done) | (simp; omega)), by omega, HS.out t c3 (by omega) HQ.out, (by exact hown1.stored _ t), (hb2.setCell q3 _).drew, rfl, by go_num⟩
            case measure => simp [intOf]; omega
      · have HP : Hid (PR x (digs 4294967296 y) i up o) := hO.there (by omega)
        have hbf : ((i : Int) == (o.length : Int)) = false := by rw [beq_eq_false_iff_ne]; omega
        clear hO
        rcases (show i < (digs 4294967296 y).length ∨ (¬ i < (digs 4294967296 y).length ∧ ((up : Int) != 0) = true) from by by_cases hx : i < (digs 4294967296 y).length; exact .inl hx; exact .inr ⟨hx, by rw [bne_iff_ne]; omega⟩) with hcc | ⟨hcc, hnz⟩
        all_goals
          obtain ⟨g, cap, rfl, q1, q2, q3, q4⟩ := hown.place (by omega)
          have hown1 := hown
          have hb2 := hb
          clear hown hb
          go_wp2
          obtain ⟨s, hs⟩ : ∃ s, (o)[i]? = some s := ⟨_, List.getElem?_eq_getElem (by have := HP.out.2.2.1; exact this)⟩
          have hs1 : s < 4294967296 := HP.out.1.at hs
          have hc0 := hown1.cellAt hs
          have hf0 := hown1.frozenAt i
          have HS : Hid (∀ t c', t < 4294967296 → t + 4294967296 * c' = s + e + up → OT x (digs 4294967296 y) (i + 1) c' ((o).set i t)) := fun t c' h1 h2 => HP.out.step (NZ.digs y) hs HE.out h1 h2
          have hua := hu0.below hb2
          have b1 : (0 : Int) ≤ (i : Nat) := by omega
          have b2 : ((i : Nat) : Int) < (((o).length : Nat) : Int) := by have := HP.out.2.2.1; omega
          try simp only [List.length_append, List.length_singleton] at b2
          clear hs HP
          go_region_with (first
            | (go_at_call 106; refine (at_any _ _ _ i e _ rfl (by exact hua) HE.out).mono ?_; rintro e' w3 ⟨rfl, rfl⟩)
            | (go_at_call 108; refine (limb.add_any _ _ _ (by omega) (by omega) (by omega) (by omega) (by omega) (by omega) _).mono ?_; rintro e' w4 ⟨t, c3, rfl, H, rfl⟩))
          all_goals
            unfold AddSpec at H
            obtain ⟨s0, s1, c0, c1, heq⟩ := H
            obtain ⟨t, rfl⟩ := Int.eq_ofNat_of_zero_le s0
            obtain ⟨c3, rfl⟩ := Int.eq_ofNat_of_zero_le c0
            have HQ : Hid (t + 4294967296 * c3 = s + e + up) := by show _ = _; omega
            have hc3 : c3 ≤ 1 := by omega
            clear heq
            go_wp2
            go_roundw
            case rel => exact ⟨i + 1, c3, (o).set i t, hc3, (by rw [List.length_set]; first | omega | (simp; done) | (simp; omega)), by omega, HS.out t c3 (by omega) HQ.out, (by exact hown1.stored _ t), (hb2.setCell q3 _).drew, rfl, by go_num⟩
            case measure => simp [intOf]; omega
    · have hup0 : up = 0 := by omega
      subst hup0
      have HD : Hid (o = digs 4294967296 (x + y)) := hO.done (by omega)
      go_wp2
      go_ret
      exact ⟨_, rfl, by rw [← HD.out]; exact hown, hb⟩
end Go.Proofs.YtbebmknfecehnaaGreat.nat
namespace Go.Proofs.YtbebmknfecehnaaGreat.nat
open Go.RowKit Go.Proofs.YtbebmknfecehnaaGreat.num Go.Proofs.YtbebmknfecehnaaGreat.mem Go.Proofs.YtbebmknfecehnaaGreat.limb
set_option linter.unusedVariables false
set_option maxRecDepth 100000

/-- The slice holds these values. -/
def IsV (w : World) (v : Value) (vs : List Value) : Prop := ∃ A c, v = .slice A vs.length c ∧ vs.length ≤ c ∧ ∀ (i : Nat) (u : Value), vs[i]? = some u → ∃ ad, A = some ad ∧ w.cell? (ad.add i) = some u
/-- The values are slices that read as these numbers. -/
def Nums (w : World) (vs : List Value) (xs : List Nat) : Prop := vs.length = xs.length ∧ ∀ (i : Nat) (u : Value) (x : Nat), vs[i]? = some u → xs[i]? = some x → IsS w .u64 u (digs 4294967296 x)
theorem Nums.at_ {w : World} {vs : List Value} {xs : List Nat} (h : Nums w vs xs) {i : Nat} (hi : i < vs.length) : ∃ u x, vs[i]? = some u ∧ xs[i]? = some x ∧ IsS w .u64 u (digs 4294967296 x) := by
  have h1 := h.1
  exact ⟨_, _, List.getElem?_eq_getElem hi, List.getElem?_eq_getElem (by omega), h.2 i _ _ (List.getElem?_eq_getElem hi) (List.getElem?_eq_getElem (by omega))⟩
theorem sum_take_step {xs : List Nat} {k x : Nat} (h : xs[k]? = some x) : (xs.take (k + 1)).sum = (xs.take k).sum + x := by rw [take_step h, List.sum_append]; simp
theorem sum_take_le (xs : List Nat) (k : Nat) : (xs.take k).sum ≤ xs.sum := by
  have := congrArg List.sum (List.take_append_drop k xs)
  rw [List.sum_append] at this; omega
theorem sum_at_le {xs : List Nat} {k x : Nat} (h : xs[k]? = some x) : x ≤ xs.sum := by
  have h1 := sum_take_step h
  have h2 := sum_take_le xs (k + 1)
  omega
theorem isV_lit (w : World) (t : TypeId) (vs : List Value) : IsV (w.alloc (.cells vs.toArray t)) (.slice (some ⟨w.heap.size, 0, none⟩) vs.length vs.length) vs := by
  refine ⟨_, _, rfl, Nat.le_refl _, fun i u hu => ⟨_, rfl, ?_⟩⟩
  have ha : (⟨w.heap.size, 0, none⟩ : Addr).add i = ⟨w.heap.size, i, none⟩ := by unfold Addr.add; split <;> simp_all
  rw [ha, cell_of_row _ _ i vs.toArray t (0, 0) (heap_alloc_new w _)]
  simpa using hu

/-- 'make([]T, 0, n)'. -/
theorem wpList_make0_rd {P : Program} {w : World} {ops : Array Oper} {rest : List Oper} {o : Oper} {a : Act} {Q : Exit → Act → World → Prop} (hgd : o.guard = none) (lo co : Operand) {t : TypeId} (ho : o.op = Op.makeSlice t lo co)
    {base : Nat} {e : TypeId} {k : IntKind} (hT : SliceT P t e k) {kl kc : IntKind} {C : Int} (n : Nat) (hl : a.eval lo = .int kl 0) (hc : a.eval co = .int kc C) (hC : C = (n : Int)) (hn : n ≤ 10000000000000) (hbase : base ≤ w.heap.size)
    (h : ∀ w', Own w' base e k (.slice (some ⟨w.heap.size, 0, none⟩) 0 n) [] → Below w.heap.size w w' → wpList P ops Q rest (a.put o.dst (.slice (some ⟨w.heap.size, 0, none⟩) 0 n)) w') : wpList P ops Q (o :: rest) a w := by
  obtain ⟨i, hi, hz, hs, hb⟩ := hT.info
  refine wpList_make_own w hgd lo co t ho base e i (.int k 0) 1 hT.und hi hz hs kl kc C n hl hc hC (by rw [hb]; omega) (by unfold maxLen; omega) hbase fun w' h1 h2 => ?_
  exact h w' h1 ((Below.refl _ w).grown h2 (Nat.le_refl _) (fun g hg => by cases hg))

set_option maxHeartbeats 800000 in
theorem sum_any (V : Value) (vs : List Value) (xs : List Nat) (w : World) (hV : IsV w V vs) (hN : Nums w vs xs) (hl : vs.length ≤ 1000000) (hS : (digs 4294967296 xs.sum).length ≤ 1000000) :
    Calls Tryz.prog 99 #[V] w (RetS .u64 (digs 4294967296 xs.sum) w) := by
  obtain ⟨A, c, rfl, hc, hcells⟩ := hV
  have HC := Lib.hid hcells
  have HN := Lib.hid hN
  have HX : Hid (vs.length = xs.length) := hN.1
  clear hcells hN
  go_enter Tryz.func99, Tryz.ntmps99
  go_wp2
  go_loop [3, 11] (fun vl vi => ∃ (k L : Nat), k ≤ vs.length ∧ L ≤ 1000000 ∧ vl = .int .i64 (L : Int) ∧ vi = .int .i64 (k : Int)) (fun _ vi => vs.length - (intOf vi).toNat)
  case atStart => exact ⟨0, 0, by omega, by omega, rfl, rfl⟩
  case round =>
    obtain ⟨k, L, hk, hL, rfl, rfl⟩ := hrel
    by_cases hp : k < vs.length
    · obtain ⟨u, x, hu, hx, hv⟩ := HN.out.at_ hp
      obtain ⟨ad, rfl, hcell⟩ := HC.out k u hu
      have hxl := digs_len_mono (B := 4294967296) (by omega) (sum_at_le hx)
      obtain ⟨A2, c2, rfl, hc2, hm2, hr2⟩ := hv
      clear hu hx
      by_cases hmx : L < (digs 4294967296 x).length
      · go_wp2
        go_round
        case rel => exact ⟨k + 1, (digs 4294967296 x).length, by omega, by omega, rfl, by go_num⟩
        case measure => simp [intOf]; omega
      · go_wp2
        go_round
        case rel => exact ⟨k + 1, L, by omega, by omega, rfl, by go_num⟩
        case measure => simp [intOf]; omega
    · go_wp2_with (at_make; refine wpList_make0_rd rfl _ _ rfl sl24 (L + 1) rfl rfl (by omega) (by omega) (Nat.le_refl _) ?_; intro w1 hown1 hb1)
      go_loopw [6, 25] (fun vo vi wr => ∃ k : Nat, k ≤ vs.length ∧ Own wr w.heap.size 55 .u64 vo (digs 4294967296 (xs.take k).sum) ∧ Below w.heap.size w wr ∧ vi = .int .i64 (k : Int)) (fun _ vi _ => vs.length - (intOf vi).toNat)
      case atStart => exact ⟨0, by omega, by rw [List.take_zero, List.sum_nil, digs_zero]; exact hown1, hb1, rfl⟩
      case round =>
        clear hown1 hb1
        obtain ⟨k2, hk2, hown, hb, rfl⟩ := hrel
        by_cases hp2 : k2 < vs.length
        · obtain ⟨u, x, hu, hx, hv⟩ := HN.out.at_ hp2
          obtain ⟨ad, rfl, hcell⟩ := HC.out k2 u hu
          have hcell2 := (hb.cell (World.block_lt_of_cell? w _ hcell)).trans hcell
          have hxl := digs_len_mono (B := 4294967296) (by omega) (sum_at_le hx)
          have htl := digs_len_mono (B := 4294967296) (by omega) (sum_take_le xs k2)
          have HT := Lib.hid (sum_take_step hx)
          clear hu hx hcell
          go_wp2_with fail
          refine (onto_any w _ _ _ x _ hown hv hb (by omega) (by omega)).mono ?_
          rintro e w3 ⟨v3, rfl, hown3, hb3⟩
          rw [← HT.out] at hown3
          go_wp2
          go_roundw
          case rel => exact ⟨k2 + 1, by omega, hown3, hb3, by go_num⟩
          case measure => simp [intOf]; omega
        · rw [List.take_of_length_le (by have := HX.out; omega)] at hown
          go_wp2
          go_ret
          exact ⟨_, rfl, hown.isS, hown.fresh, hb⟩

theorem nums2 {w : World} {v u : Value} {x y : Nat} (h : IsS w .u64 v (digs 4294967296 x)) (h' : IsS w .u64 u (digs 4294967296 y)) : Nums w [v, u] [x, y] := by
  refine ⟨rfl, fun i a b ha hb => ?_⟩
  match i, ha, hb with
  | 0, ha, hb => simp at ha hb; subst ha; subst hb; exact h
  | 1, ha, hb => simp at ha hb; subst ha; subst hb; exact h'
theorem nums3 {w : World} {v u t : Value} {x y z : Nat} (h : IsS w .u64 v (digs 4294967296 x)) (h' : IsS w .u64 u (digs 4294967296 y)) (h'' : IsS w .u64 t (digs 4294967296 z)) : Nums w [v, u, t] [x, y, z] := by
  refine ⟨rfl, fun i a b ha hb => ?_⟩
  match i, ha, hb with
  | 0, ha, hb => simp at ha hb; subst ha; subst hb; exact h
  | 1, ha, hb => simp at ha hb; subst ha; subst hb; exact h'
  | 2, ha, hb => simp at ha hb; subst ha; subst hb; exact h''
set_option maxHeartbeats 400000 in
theorem add_any (v u : Value) (x y : Nat) (w : World) (h : IsS w .u64 v (digs 4294967296 x)) (h' : IsS w .u64 u (digs 4294967296 y)) (z : Nat) (hz : z = x + y) (hS : (digs 4294967296 z).length ≤ 1000000) :
    Calls Tryz.prog 73 #[v, u] w (RetS .u64 (digs 4294967296 z) w) := by
  have HZ : Hid (z = [x, y].sum) := by show _ = _; simp [hz]
  clear hz
  rw [HZ.out] at hS ⊢
  obtain ⟨A1, c1, rfl, _⟩ := id h
  obtain ⟨A2, c2, rfl, _⟩ := id h'
  go_enter Tryz.func73, Tryz.ntmps73
  go_wp2_with fail
  have hb := below_alloc (Nat.le_refl w.heap.size) (.cells #[.slice A1 (digs 4294967296 x).length c1, .slice A2 (digs 4294967296 y).length c2] 23)
  refine (sum_any _ [_, _] [x, y] _ (isV_lit w 23 [_, _]) (nums2 (h.below hb) (h'.below hb)) (by simp) hS).mono ?_
  rintro e w' ⟨v', rfl, hv, hf, hb2⟩
  go_wp2
  go_ret
  exact ⟨_, rfl, hv, hf.mono hb.size, hb.trans (hb2.mono hb.size)⟩
end Go.Proofs.YtbebmknfecehnaaGreat.nat
