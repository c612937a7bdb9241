/- The document's own Mul, Small, Pow of layer 3, and the chapter's example. Condition: slices read as limbs. -/
import Derived.Test.YtaipahooepnfpaaMulE
import Derived.Test.YtaipahooepnfpaaLawW
namespace Go.Proofs.Ytaipahooepnfpaa.nat
open Go.RowKit Go.Proofs.Ytaipahooepnfpaa.num Go.Proofs.Ytaipahooepnfpaa.mem Go.Proofs.Ytaipahooepnfpaa.limb
set_option linter.unusedVariables false

theorem dec_le (x : Nat) : (digs 10000 x).length ≤ 3 * (digs 4294967296 x).length := len10000_le (digs_lt_pow (by omega) x)

theorem small_len (x m c : Nat) : (digs 4294967296 (x * (m % 4294967296) + c % 4294967296)).length ≤ (digs 4294967296 x).length + 1 := by
  refine digs_len_le (by omega) ?_
  have h := digs_lt_pow (B := 4294967296) (by omega) x
  have h1 : x * (m % 4294967296) ≤ x * 4294967295 := Nat.mul_le_mul_left _ (by omega)
  have h2 : (x + 1) * 4294967296 ≤ 4294967296 ^ (digs 4294967296 x).length * 4294967296 := Nat.mul_le_mul_right _ h
  rw [Nat.pow_succ]; omega
theorem add_len (x y : Nat) : (digs 4294967296 (x + y)).length ≤ (digs 4294967296 x).length + (digs 4294967296 y).length + 1 := by
  refine digs_len_le (by omega) ?_
  have h1 := digs_lt_pow (B := 4294967296) (by omega) x
  have h2 := digs_lt_pow (B := 4294967296) (by omega) y
  have h3 := Nat.pow_le_pow_right (n := 4294967296) (by omega) (show (digs 4294967296 x).length ≤ (digs 4294967296 x).length + (digs 4294967296 y).length by omega)
  have h4 := Nat.pow_le_pow_right (n := 4294967296) (by omega) (show (digs 4294967296 y).length ≤ (digs 4294967296 x).length + (digs 4294967296 y).length by omega)
  rw [Nat.pow_succ]; omega

set_option maxHeartbeats 400000 in
theorem refProd_any (v u : Value) (x y : Nat) (w : World) (h : IsS w .u64 v (digs 4294967296 x)) (h' : IsS w .u64 u (digs 4294967296 y)) (hl : (digs 4294967296 x).length ≤ 10000) (hl' : (digs 4294967296 y).length ≤ 10000) (z : Nat) (hz : z = x * y) :
    Calls Try.prog 8 #[v, u] w (RetS .u64 (digs 4294967296 z) w) := by
  subst hz
  have l1 := mul_len x y
  have d1 := dec_le x
  have d2 := dec_le y
  have d3 := dec_le (x * y)
  obtain ⟨A1, c1, rfl, _⟩ := id h
  obtain ⟨A2, c2, rfl, _⟩ := id h'
  go_enter Try.func8, Try.ntmps8
  go_wp2_with fail
  refine (refOf_any _ x _ h (by omega)).mono ?_
  rintro e w1 ⟨v1, rfl, k1, f1, b1⟩
  go_wp2_with fail
  refine (refOf_any _ y _ (h'.below b1) (by omega)).mono ?_
  rintro e w2 ⟨v2, rfl, k2, f2, b2⟩
  have b3 := b1.trans (b2.mono b1.size)
  go_wp2_with fail
  refine (refMul_any _ _ x y _ (k1.below b2) k2 (by omega) (by omega)).mono ?_
  rintro e w3 ⟨v3, rfl, k3, f3, b4⟩
  have b5 := b3.trans (b4.mono b3.size)
  go_wp2_with fail
  refine (refBack_any _ (x * y) _ k3 (by omega) (by omega)).mono ?_
  rintro e w4 ⟨v4, rfl, k4, f4, b6⟩
  go_wp2
  go_ret
  exact ⟨_, rfl, k4, f4.mono b5.size, b5.trans (b6.mono b5.size)⟩

set_option maxHeartbeats 400000 in
theorem refSmall_any (v : Value) (x : Nat) (mI cI : Int) (m c : Nat) (w : World) (h : IsS w .u64 v (digs 4294967296 x)) (hl : (digs 4294967296 x).length ≤ 10000) (hmI : mI = (m : Int)) (hcI : cI = (c : Int)) (lm : m < 18446744073709551616) (lc : c < 18446744073709551616) (z : Nat) (hz : z = x * (m % 4294967296) + c % 4294967296) (hzl : (digs 4294967296 z).length ≤ 20000) :
    Calls Try.prog 16 #[v, .int .u64 mI, .int .u64 cI] w (RetS .u64 (digs 4294967296 z) w) := by
  subst hmI; subst hcI
  have d1 := dec_le x
  have d2 := dec_le z
  have HZ := Lib.hid hz
  clear hz
  have hlm : (m : Int) ≤ 18446744073709551615 := by omega
  have hlc : (c : Int) ≤ 18446744073709551615 := by omega
  obtain ⟨A1, c1, rfl, _⟩ := id h
  go_enter Try.func16, Try.ntmps16
  go_wp2_with fail
  refine (refOf_any _ x _ h (by omega)).mono ?_
  rintro e w1 ⟨v1, rfl, k1, f1, b1⟩
  go_wp2_with fail
  refine (mulAdd_any _ x _ _ (m % 4294967296) (c % 4294967296) _ (by omega) (by omega) k1 (by omega) (by omega) (by omega) z HZ.out).mono ?_
  rintro e w3 ⟨v3, rfl, k3, f3, b4⟩
  have b5 := b1.trans (b4.mono b1.size)
  go_wp2_with fail
  refine (refBack_any _ z _ k3 (by omega) (by omega)).mono ?_
  rintro e w4 ⟨v4, rfl, k4, f4, b6⟩
  go_wp2
  go_ret
  exact ⟨_, rfl, k4, f4.mono b5.size, b5.trans (b6.mono b5.size)⟩

set_option maxHeartbeats 400000 in
theorem refPow_no (v : Value) (n : Int) (w : World) (hn : n < 0 ∨ 10000 < n) :
    Calls Try.prog 18 #[v, .int .i64 n] w (RetSI .u64 [] 2 w) := by
  rcases hn with hn | hn
  all_goals
    go_enter Try.func18, Try.ntmps18
    go_wp2
    go_ret2
    exact ⟨_, rfl, isNil _ _, fresh_nil _, Below.refl _ _⟩
set_option maxHeartbeats 800000 in
theorem refPow_ok (v : Value) (x : Nat) (nI : Int) (n : Nat) (w : World) (hn : nI = (n : Int)) (hn2 : n ≤ 10000) (hx : (digs 4294967296 x).length ≤ 10000) (hxn : (digs 4294967296 x).length * n ≤ 30000) (h : IsS w .u64 v (digs 4294967296 x)) :
    Calls Try.prog 18 #[v, .int .i64 nI] w (RetSI .u64 (digs 4294967296 (x ^ n)) 0 w) := by
  subst hn
  have d1 := dec_le x
  obtain ⟨A1, c1, rfl, _⟩ := id h
  go_enter Try.func18, Try.ntmps18
  go_wp2_with fail
  refine (refOf_any _ x _ h (by omega)).mono ?_
  rintro e w1 ⟨v1, rfl, k1, f1, b1⟩
  go_wp2_with fail
  refine (refNum_any _ 1 _ rfl (by omega)).mono ?_
  rintro e w2 ⟨v2, rfl, k2, f2, b2⟩
  have b3 := b1.trans (b2.mono b1.size)
  replace k1 := k1.below b2
  go_wp2
  go_loopw [7, 8] (fun vo vi wr => ∃ k : Nat, k ≤ n ∧ IsS wr .i64 vo (digs 10000 (x ^ k)) ∧ Below w2.heap.size w2 wr ∧ vi = .int .i64 (k : Int)) (fun _ vi _ => n - (intOf vi).toNat)
  case atStart => exact ⟨0, by omega, by rw [Nat.pow_zero]; exact k2, Below.refl _ _, rfl⟩
  case round =>
    clear k2
    obtain ⟨k, hk, ko, hb, rfl⟩ := hrel
    have hxk : (digs 4294967296 x).length * k ≤ 30000 := Nat.le_trans (Nat.mul_le_mul_left _ hk) hxn
    have p1 := pow_len x k
    have d2 := dec_le (x ^ k)
    by_cases hlt : k < n
    · have HS : Hid (x ^ k * x = x ^ (k + 1)) := by show _ = _; rw [Nat.pow_succ]
      go_wp2_with fail
      refine (refMul_any _ _ (x ^ k) x _ ko (k1.below hb) (by omega) (by omega)).mono ?_
      rintro e w3 ⟨v3, rfl, k3, f3, b4⟩
      rw [HS.out] at k3
      go_wp2
      go_roundw
      case rel => exact ⟨k + 1, by omega, k3, hb.trans (b4.mono hb.size), by go_num⟩
      case measure => simp [intOf]; omega
    · obtain rfl : k = n := by omega
      go_wp2_with fail
      refine (refBack_any _ (x ^ k) _ ko (by omega) (by omega)).mono ?_
      rintro e w4 ⟨v4, rfl, k4, f4, b6⟩
      have b7 := b3.trans (hb.mono b3.size)
      go_wp2
      go_ret2
      exact ⟨_, rfl, k4, f4.mono b7.size, b7.trans (b6.mono b7.size)⟩

set_option maxHeartbeats 800000 in
theorem works3_any (w : World) : Calls Try.prog 14 #[] w (RetV (.bool true) w) := by
  have e1 : digs 4294967296 5 = [5] := digs_one 5 (by omega) (by omega)
  have e2 : digs 4294967296 16 = [16] := digs_one 16 (by omega) (by omega)
  have e3 : digs 4294967296 0 = [] := digs_zero _
  have E1 := Lib.hid e1
  have E2 := Lib.hid e2
  have E3 := Lib.hid e3
  clear e1 e2 e3
  go_enter Try.func14, Try.ntmps14
  go_wp2_with fail
  have b1 : Below w.heap.size w (w.alloc (.cells #[.int .u64 5] 29)) := below_alloc (Nat.le_refl _) _
  refine (small_any _ 5 _ _ 3 1 _ (by rw [E1.out]; exact lit1_at _ _ _ (d := 5) rfl rfl) (by rw [E1.out]; simp) rfl rfl (by omega) (by omega) 16 rfl).mono ?_
  rintro e w1 ⟨v1, rfl, h1, f1, b2⟩
  have b3 := b1.trans (b2.mono b1.size)
  have h1' := h1
  rw [E2.out] at h1
  obtain ⟨A1, c1, rfl, hc, hm, hr⟩ := id h1
  obtain ⟨ad, d, rfl, hd, hcell⟩ := hr.at_ (i := 0) (by simp)
  obtain rfl : 16 = d := by simpa using hd
  have hcell' : w1.cell? ad = some (.int .u64 ((16 : Nat) : Int)) := by simpa [Addr.add] using hcell
  clear hd hcell
  go_wp2_with fail
  refine (mul_any _ _ 16 0 _ h1' (by rw [E3.out]; exact isNil _ _) (by rw [E2.out]; simp) (by rw [E3.out]; simp) 0 rfl).mono ?_
  rintro e w2 ⟨v2, rfl, h2, f2, b4⟩
  rw [E3.out] at h2
  obtain ⟨A2, c2, rfl, hc2, hm2, hr2⟩ := h2
  go_wp2
  go_ret
  exact ⟨rfl, b3.trans (b4.mono b3.size)⟩
end Go.Proofs.Ytaipahooepnfpaa.nat
