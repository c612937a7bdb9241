/- The law NatShifts returns true for any list of limbs and any int: nat.Shl, nat.Shr, nat.Bits and nat.Zeros answer as the document's own numbers do, or refuse. No condition. -/
import Derived.Test.YtidmiimadaidjaaLawW
namespace Go.Proofs.Ytidmiimadaidjaa.natShifts
open Go.ChangeShapes Go.WideShapes Go.ChangeAt Go.RowKit Go.Proofs.Ytidmiimadaidjaa.num Go.Proofs.Ytidmiimadaidjaa.mem Go.Proofs.Ytidmiimadaidjaa.nat
set_option linter.unusedVariables false

theorem own : ownKnob Try.prog.godebug = none := by kernel_rfl
theorem laidOut : laidOutB Try.prog = true := by kernel_rfl
theorem cells_u : Try.prog.cellsOf 23 = 1 := by kernel_rfl


set_option maxHeartbeats 6400000 in
set_option maxRecDepth 100000 in
/-- The walk: the Go text returns true; what was there is as it was. -/
theorem walk (v0 : Value) (l0 : List Nat) (a1 : Int) (w : World) (h0 : IsS w .u64 v0 l0) (u0 : Lt 18446744073709551616 l0) (wf1 : (Lit.int .i64 a1).wf = true) :
    Calls Try.prog 6 #[v0, .int .i64 a1] w (RetV (.bool true) w) := by
  have bn := bounds_i64 wf1
  clear wf1
  rcases (show (a1 < 0 ∨ 100000 < a1) ∨ (0 ≤ a1 ∧ a1 ≤ 400) ∨ (400 < a1 ∧ a1 ≤ 100000) from by omega) with hc | ⟨hc, hc2⟩ | ⟨hc, hc2⟩
  · rcases hc with hc | hc
    all_goals
      have B : Below w.heap.size w w := Below.refl _ _
      go_enter Try.func6, Try.ntmps6
      go_wp2_with fail
      refine (clean_any v0 l0 _ 24 _ rfl (h0.below B) u0 (by omega)).mono ?_
      rintro e w1 ⟨c0, rfl, k_c0, f_c0, b1⟩
      replace B := B.trans (b1.mono B.size)
      obtain ⟨x, hxx⟩ : ∃ x, x = cleaned l0 24 := ⟨_, rfl⟩
      have zx := cleaned_sz l0
      rw [← hxx] at k_c0 zx
      clear hxx
      have dx := dec_len x
      have mx := limb_len x
      go_wp2_with fail
      refine (refOf_any _ x _ k_c0 (by omega)).mono ?_
      rintro e w2 ⟨o0, rfl, k_o0, f_o0, b2⟩
      replace B := B.trans (b2.mono B.size)
      replace k_c0 := k_c0.below b2
      go_wp2_with fail
      refine (shl_no _ _ _ (by omega)).mono ?_
      rintro e w3 ⟨u, rfl, k_u, f_u, b3⟩
      replace B := B.trans (b3.mono B.size)
      replace k_c0 := k_c0.below b3
      replace k_o0 := k_o0.below b3
      go_wp2_with fail
      refine (shr_no _ _ _ (by omega)).mono ?_
      rintro e w4 ⟨d, rfl, k_d, f_d, b4⟩
      replace B := B.trans (b4.mono B.size)
      replace k_c0 := k_c0.below b4
      replace k_o0 := k_o0.below b4
      replace k_u := k_u.below b4
      go_wp2_with fail
      refine (bits_any _ x _ _ k_c0 (by omega) rfl).mono ?_
      rintro e w5 ⟨rfl, rfl⟩
      go_wp2_with fail
      refine (refBits_any _ x _ k_o0 (by omega) (by omega)).mono ?_
      rintro e w6 ⟨rfl, b6⟩
      replace B := B.trans (b6.mono B.size)
      replace k_c0 := k_c0.below b6
      replace k_o0 := k_o0.below b6
      replace k_u := k_u.below b6
      replace k_d := k_d.below b6
      go_wp2_with fail
      refine (zeros_any _ x _ _ k_c0 (by omega) rfl).mono ?_
      rintro e w7 ⟨rfl, rfl⟩
      go_wp2_with fail
      refine (refZeros_any _ x _ k_o0 (by omega) (by omega)).mono ?_
      rintro e w8 ⟨rfl, b8⟩
      replace B := B.trans (b8.mono B.size)
      replace k_c0 := k_c0.below b8
      replace k_o0 := k_o0.below b8
      replace k_u := k_u.below b8
      replace k_d := k_d.below b8
      obtain ⟨A4, e4, rfl, _⟩ := id k_u
      obtain ⟨A5, e5, rfl, _⟩ := id k_d
      go_wp2_with fail
      refine (works_any _).mono ?_
      rintro e w9 ⟨rfl, b9⟩
      replace B := B.trans (b9.mono B.size)
      replace k_c0 := k_c0.below b9
      replace k_o0 := k_o0.below b9
      replace k_u := k_u.below b9
      replace k_d := k_d.below b9
      go_wp2
      go_ret
      exact ⟨rfl, B⟩
  · obtain ⟨n, rfl⟩ := Int.eq_ofNat_of_zero_le hc
    have hn4 : n ≤ 400 := by omega
    have B : Below w.heap.size w w := Below.refl _ _
    go_enter Try.func6, Try.ntmps6
    go_wp2_with fail
    refine (clean_any v0 l0 _ 24 _ rfl (h0.below B) u0 (by omega)).mono ?_
    rintro e w1 ⟨c0, rfl, k_c0, f_c0, b1⟩
    replace B := B.trans (b1.mono B.size)
    obtain ⟨x, hxx⟩ : ∃ x, x = cleaned l0 24 := ⟨_, rfl⟩
    have zx := cleaned_sz l0
    rw [← hxx] at k_c0 zx
    clear hxx
    have dx := dec_len x
    have mx := limb_len x
    go_wp2_with fail
    refine (refOf_any _ x _ k_c0 (by omega)).mono ?_
    rintro e w2 ⟨o0, rfl, k_o0, f_o0, b2⟩
    replace B := B.trans (b2.mono B.size)
    replace k_c0 := k_c0.below b2
    have n1 := nbits_shift_le x n
    have n2 := limb_len (x * 2 ^ n)
    have n3 := dec_len (x * 2 ^ n)
    have n4 := nbits_mono (Nat.div_le_self x (2 ^ n))
    have n5 := limb_len (x / 2 ^ n)
    have n6 := dec_len (x / 2 ^ n)
    have n7 : (digs 10000 (2 ^ n)).length ≤ n + 1 := by have h1 := dec_len (2 ^ n); rw [nbits_pow] at h1; exact h1
    obtain ⟨p, hp⟩ : ∃ p, p = x * 2 ^ n := ⟨_, rfl⟩
    obtain ⟨q, hq⟩ : ∃ q, q = x / 2 ^ n := ⟨_, rfl⟩
    obtain ⟨r, hr⟩ : ∃ r, r = 2 ^ n := ⟨_, rfl⟩
    have HP := Lib.hid hp
    have HQ := Lib.hid hq
    have HR := Lib.hid hr
    have hr0 : 0 < r := by rw [hr]; exact Nat.pow_pos (by omega)
    rw [← hp] at n1 n2 n3
    rw [← hq] at n4 n5 n6
    rw [← hr] at n7
    clear hp hq hr
    go_wp2_with fail
    refine (shl_ok _ x _ n _ rfl k_c0 (by omega) (by omega) p HP.out).mono ?_
    rintro e w3 ⟨u, rfl, k_u, f_u, b3⟩
    replace B := B.trans (b3.mono B.size)
    replace k_c0 := k_c0.below b3
    replace k_o0 := k_o0.below b3
    go_wp2_with fail
    refine (shr_ok _ x _ n _ rfl k_c0 (by omega) (by omega) q HQ.out).mono ?_
    rintro e w4 ⟨d, rfl, k_d, f_d, b4⟩
    replace B := B.trans (b4.mono B.size)
    replace k_c0 := k_c0.below b4
    replace k_o0 := k_o0.below b4
    replace k_u := k_u.below b4
    go_wp2_with fail
    refine (bits_any _ x _ _ k_c0 (by omega) rfl).mono ?_
    rintro e w5 ⟨rfl, rfl⟩
    go_wp2_with fail
    refine (refBits_any _ x _ k_o0 (by omega) (by omega)).mono ?_
    rintro e w6 ⟨rfl, b6⟩
    replace B := B.trans (b6.mono B.size)
    replace k_c0 := k_c0.below b6
    replace k_o0 := k_o0.below b6
    replace k_u := k_u.below b6
    replace k_d := k_d.below b6
    go_wp2_with fail
    refine (zeros_any _ x _ _ k_c0 (by omega) rfl).mono ?_
    rintro e w7 ⟨rfl, rfl⟩
    go_wp2_with fail
    refine (refZeros_any _ x _ k_o0 (by omega) (by omega)).mono ?_
    rintro e w8 ⟨rfl, b8⟩
    replace B := B.trans (b8.mono B.size)
    replace k_c0 := k_c0.below b8
    replace k_o0 := k_o0.below b8
    replace k_u := k_u.below b8
    replace k_d := k_d.below b8
    go_wp2_with fail
    refine (refPower_any _ n _ rfl (by omega)).mono ?_
    rintro e w9 ⟨t1, rfl, k_t1, f_t1, b9⟩
    replace B := B.trans (b9.mono B.size)
    replace k_c0 := k_c0.below b9
    replace k_o0 := k_o0.below b9
    replace k_u := k_u.below b9
    replace k_d := k_d.below b9
    rw [← HR.out] at k_t1
    go_wp2_with fail
    refine (refDiv_any _ _ x r _ k_o0 k_t1 (by omega) (by omega) hr0).mono ?_
    rintro e w10 ⟨q1, q2, rfl, k_q1, k_q2, f_q1, f_q2, b10⟩
    replace B := B.trans (b10.mono B.size)
    replace k_c0 := k_c0.below b10
    replace k_o0 := k_o0.below b10
    replace k_u := k_u.below b10
    replace k_d := k_d.below b10
    replace k_t1 := k_t1.below b10
    rw [HR.out, ← HQ.out] at k_q1
    go_wp2_with fail
    refine (refPower_any _ n _ rfl (by omega)).mono ?_
    rintro e w11 ⟨t2, rfl, k_t2, f_t2, b11⟩
    replace B := B.trans (b11.mono B.size)
    replace k_c0 := k_c0.below b11
    replace k_o0 := k_o0.below b11
    replace k_u := k_u.below b11
    replace k_d := k_d.below b11
    replace k_t1 := k_t1.below b11
    replace k_q1 := k_q1.below b11
    replace k_q2 := k_q2.below b11
    rw [← HR.out] at k_t2
    go_wp2_with fail
    refine (refMul_any _ _ x r _ k_o0 k_t2 (by omega) (by omega)).mono ?_
    rintro e w12 ⟨m1, rfl, k_m1, f_m1, b12⟩
    replace B := B.trans (b12.mono B.size)
    replace k_c0 := k_c0.below b12
    replace k_o0 := k_o0.below b12
    replace k_u := k_u.below b12
    replace k_d := k_d.below b12
    replace k_t1 := k_t1.below b12
    replace k_q1 := k_q1.below b12
    replace k_q2 := k_q2.below b12
    replace k_t2 := k_t2.below b12
    rw [HR.out, ← HP.out] at k_m1
    go_wp2_with fail
    refine (refBack_any _ p _ k_m1 (by omega) (by omega)).mono ?_
    rintro e w13 ⟨p1, rfl, k_p1, f_p1, b13⟩
    replace B := B.trans (b13.mono B.size)
    replace k_c0 := k_c0.below b13
    replace k_o0 := k_o0.below b13
    replace k_u := k_u.below b13
    replace k_d := k_d.below b13
    replace k_t1 := k_t1.below b13
    replace k_q1 := k_q1.below b13
    replace k_q2 := k_q2.below b13
    replace k_t2 := k_t2.below b13
    replace k_m1 := k_m1.below b13
    go_wp2_with fail
    refine (same_one _ _ p _ k_u k_p1).mono ?_
    rintro e w14 ⟨rfl, b14⟩
    replace B := B.trans (b14.mono B.size)
    replace k_c0 := k_c0.below b14
    replace k_o0 := k_o0.below b14
    replace k_u := k_u.below b14
    replace k_d := k_d.below b14
    replace k_t1 := k_t1.below b14
    replace k_q1 := k_q1.below b14
    replace k_q2 := k_q2.below b14
    replace k_t2 := k_t2.below b14
    replace k_m1 := k_m1.below b14
    replace k_p1 := k_p1.below b14
    go_wp2_with fail
    refine (refBack_any _ q _ k_q1 (by omega) (by omega)).mono ?_
    rintro e w15 ⟨p2, rfl, k_p2, f_p2, b15⟩
    replace B := B.trans (b15.mono B.size)
    replace k_c0 := k_c0.below b15
    replace k_o0 := k_o0.below b15
    replace k_u := k_u.below b15
    replace k_d := k_d.below b15
    replace k_t1 := k_t1.below b15
    replace k_q1 := k_q1.below b15
    replace k_q2 := k_q2.below b15
    replace k_t2 := k_t2.below b15
    replace k_m1 := k_m1.below b15
    replace k_p1 := k_p1.below b15
    go_wp2_with fail
    refine (same_one _ _ q _ k_d k_p2).mono ?_
    rintro e w16 ⟨rfl, b16⟩
    replace B := B.trans (b16.mono B.size)
    replace k_c0 := k_c0.below b16
    replace k_o0 := k_o0.below b16
    replace k_u := k_u.below b16
    replace k_d := k_d.below b16
    replace k_t1 := k_t1.below b16
    replace k_q1 := k_q1.below b16
    replace k_q2 := k_q2.below b16
    replace k_t2 := k_t2.below b16
    replace k_m1 := k_m1.below b16
    replace k_p1 := k_p1.below b16
    replace k_p2 := k_p2.below b16
    go_wp2_with fail
    refine (works_any _).mono ?_
    rintro e w17 ⟨rfl, b17⟩
    replace B := B.trans (b17.mono B.size)
    replace k_c0 := k_c0.below b17
    replace k_o0 := k_o0.below b17
    replace k_u := k_u.below b17
    replace k_d := k_d.below b17
    replace k_t1 := k_t1.below b17
    replace k_q1 := k_q1.below b17
    replace k_q2 := k_q2.below b17
    replace k_t2 := k_t2.below b17
    replace k_m1 := k_m1.below b17
    replace k_p1 := k_p1.below b17
    replace k_p2 := k_p2.below b17
    go_wp2
    go_ret
    exact ⟨rfl, B⟩
  · obtain ⟨n, hn⟩ : ∃ n : Nat, (n : Int) = a1 % 401 := ⟨(a1 % 401).toNat, by omega⟩
    have hn4 : n ≤ 400 := by omega
    have HN : Hid (a1 % 401 = (n : Int)) := hn.symm
    clear hn
    have B : Below w.heap.size w w := Below.refl _ _
    go_enter Try.func6, Try.ntmps6
    go_wp2_with fail
    refine (clean_any v0 l0 _ 24 _ rfl (h0.below B) u0 (by omega)).mono ?_
    rintro e w1 ⟨c0, rfl, k_c0, f_c0, b1⟩
    replace B := B.trans (b1.mono B.size)
    obtain ⟨x, hxx⟩ : ∃ x, x = cleaned l0 24 := ⟨_, rfl⟩
    have zx := cleaned_sz l0
    rw [← hxx] at k_c0 zx
    clear hxx
    have dx := dec_len x
    have mx := limb_len x
    go_wp2_with fail
    refine (refOf_any _ x _ k_c0 (by omega)).mono ?_
    rintro e w2 ⟨o0, rfl, k_o0, f_o0, b2⟩
    replace B := B.trans (b2.mono B.size)
    replace k_c0 := k_c0.below b2
    have n1 := nbits_shift_le x n
    have n2 := limb_len (x * 2 ^ n)
    have n3 := dec_len (x * 2 ^ n)
    have n4 := nbits_mono (Nat.div_le_self x (2 ^ n))
    have n5 := limb_len (x / 2 ^ n)
    have n6 := dec_len (x / 2 ^ n)
    have n7 : (digs 10000 (2 ^ n)).length ≤ n + 1 := by have h1 := dec_len (2 ^ n); rw [nbits_pow] at h1; exact h1
    obtain ⟨p, hp⟩ : ∃ p, p = x * 2 ^ n := ⟨_, rfl⟩
    obtain ⟨q, hq⟩ : ∃ q, q = x / 2 ^ n := ⟨_, rfl⟩
    obtain ⟨r, hr⟩ : ∃ r, r = 2 ^ n := ⟨_, rfl⟩
    have HP := Lib.hid hp
    have HQ := Lib.hid hq
    have HR := Lib.hid hr
    have hr0 : 0 < r := by rw [hr]; exact Nat.pow_pos (by omega)
    rw [← hp] at n1 n2 n3
    rw [← hq] at n4 n5 n6
    rw [← hr] at n7
    clear hp hq hr
    go_wp2_with fail
    refine (shl_ok _ x _ n _ HN.out k_c0 (by omega) (by omega) p HP.out).mono ?_
    rintro e w3 ⟨u, rfl, k_u, f_u, b3⟩
    replace B := B.trans (b3.mono B.size)
    replace k_c0 := k_c0.below b3
    replace k_o0 := k_o0.below b3
    go_wp2_with fail
    refine (shr_ok _ x _ n _ HN.out k_c0 (by omega) (by omega) q HQ.out).mono ?_
    rintro e w4 ⟨d, rfl, k_d, f_d, b4⟩
    replace B := B.trans (b4.mono B.size)
    replace k_c0 := k_c0.below b4
    replace k_o0 := k_o0.below b4
    replace k_u := k_u.below b4
    go_wp2_with fail
    refine (bits_any _ x _ _ k_c0 (by omega) rfl).mono ?_
    rintro e w5 ⟨rfl, rfl⟩
    go_wp2_with fail
    refine (refBits_any _ x _ k_o0 (by omega) (by omega)).mono ?_
    rintro e w6 ⟨rfl, b6⟩
    replace B := B.trans (b6.mono B.size)
    replace k_c0 := k_c0.below b6
    replace k_o0 := k_o0.below b6
    replace k_u := k_u.below b6
    replace k_d := k_d.below b6
    go_wp2_with fail
    refine (zeros_any _ x _ _ k_c0 (by omega) rfl).mono ?_
    rintro e w7 ⟨rfl, rfl⟩
    go_wp2_with fail
    refine (refZeros_any _ x _ k_o0 (by omega) (by omega)).mono ?_
    rintro e w8 ⟨rfl, b8⟩
    replace B := B.trans (b8.mono B.size)
    replace k_c0 := k_c0.below b8
    replace k_o0 := k_o0.below b8
    replace k_u := k_u.below b8
    replace k_d := k_d.below b8
    go_wp2_with fail
    refine (refPower_any _ n _ HN.out (by omega)).mono ?_
    rintro e w9 ⟨t1, rfl, k_t1, f_t1, b9⟩
    replace B := B.trans (b9.mono B.size)
    replace k_c0 := k_c0.below b9
    replace k_o0 := k_o0.below b9
    replace k_u := k_u.below b9
    replace k_d := k_d.below b9
    rw [← HR.out] at k_t1
    go_wp2_with fail
    refine (refDiv_any _ _ x r _ k_o0 k_t1 (by omega) (by omega) hr0).mono ?_
    rintro e w10 ⟨q1, q2, rfl, k_q1, k_q2, f_q1, f_q2, b10⟩
    replace B := B.trans (b10.mono B.size)
    replace k_c0 := k_c0.below b10
    replace k_o0 := k_o0.below b10
    replace k_u := k_u.below b10
    replace k_d := k_d.below b10
    replace k_t1 := k_t1.below b10
    rw [HR.out, ← HQ.out] at k_q1
    go_wp2_with fail
    refine (refPower_any _ n _ HN.out (by omega)).mono ?_
    rintro e w11 ⟨t2, rfl, k_t2, f_t2, b11⟩
    replace B := B.trans (b11.mono B.size)
    replace k_c0 := k_c0.below b11
    replace k_o0 := k_o0.below b11
    replace k_u := k_u.below b11
    replace k_d := k_d.below b11
    replace k_t1 := k_t1.below b11
    replace k_q1 := k_q1.below b11
    replace k_q2 := k_q2.below b11
    rw [← HR.out] at k_t2
    go_wp2_with fail
    refine (refMul_any _ _ x r _ k_o0 k_t2 (by omega) (by omega)).mono ?_
    rintro e w12 ⟨m1, rfl, k_m1, f_m1, b12⟩
    replace B := B.trans (b12.mono B.size)
    replace k_c0 := k_c0.below b12
    replace k_o0 := k_o0.below b12
    replace k_u := k_u.below b12
    replace k_d := k_d.below b12
    replace k_t1 := k_t1.below b12
    replace k_q1 := k_q1.below b12
    replace k_q2 := k_q2.below b12
    replace k_t2 := k_t2.below b12
    rw [HR.out, ← HP.out] at k_m1
    go_wp2_with fail
    refine (refBack_any _ p _ k_m1 (by omega) (by omega)).mono ?_
    rintro e w13 ⟨p1, rfl, k_p1, f_p1, b13⟩
    replace B := B.trans (b13.mono B.size)
    replace k_c0 := k_c0.below b13
    replace k_o0 := k_o0.below b13
    replace k_u := k_u.below b13
    replace k_d := k_d.below b13
    replace k_t1 := k_t1.below b13
    replace k_q1 := k_q1.below b13
    replace k_q2 := k_q2.below b13
    replace k_t2 := k_t2.below b13
    replace k_m1 := k_m1.below b13
    go_wp2_with fail
    refine (same_one _ _ p _ k_u k_p1).mono ?_
    rintro e w14 ⟨rfl, b14⟩
    replace B := B.trans (b14.mono B.size)
    replace k_c0 := k_c0.below b14
    replace k_o0 := k_o0.below b14
    replace k_u := k_u.below b14
    replace k_d := k_d.below b14
    replace k_t1 := k_t1.below b14
    replace k_q1 := k_q1.below b14
    replace k_q2 := k_q2.below b14
    replace k_t2 := k_t2.below b14
    replace k_m1 := k_m1.below b14
    replace k_p1 := k_p1.below b14
    go_wp2_with fail
    refine (refBack_any _ q _ k_q1 (by omega) (by omega)).mono ?_
    rintro e w15 ⟨p2, rfl, k_p2, f_p2, b15⟩
    replace B := B.trans (b15.mono B.size)
    replace k_c0 := k_c0.below b15
    replace k_o0 := k_o0.below b15
    replace k_u := k_u.below b15
    replace k_d := k_d.below b15
    replace k_t1 := k_t1.below b15
    replace k_q1 := k_q1.below b15
    replace k_q2 := k_q2.below b15
    replace k_t2 := k_t2.below b15
    replace k_m1 := k_m1.below b15
    replace k_p1 := k_p1.below b15
    go_wp2_with fail
    refine (same_one _ _ q _ k_d k_p2).mono ?_
    rintro e w16 ⟨rfl, b16⟩
    replace B := B.trans (b16.mono B.size)
    replace k_c0 := k_c0.below b16
    replace k_o0 := k_o0.below b16
    replace k_u := k_u.below b16
    replace k_d := k_d.below b16
    replace k_t1 := k_t1.below b16
    replace k_q1 := k_q1.below b16
    replace k_q2 := k_q2.below b16
    replace k_t2 := k_t2.below b16
    replace k_m1 := k_m1.below b16
    replace k_p1 := k_p1.below b16
    replace k_p2 := k_p2.below b16
    go_wp2_with fail
    refine (works_any _).mono ?_
    rintro e w17 ⟨rfl, b17⟩
    replace B := B.trans (b17.mono B.size)
    replace k_c0 := k_c0.below b17
    replace k_o0 := k_o0.below b17
    replace k_u := k_u.below b17
    replace k_d := k_d.below b17
    replace k_t1 := k_t1.below b17
    replace k_q1 := k_q1.below b17
    replace k_q2 := k_q2.below b17
    replace k_t2 := k_t2.below b17
    replace k_m1 := k_m1.below b17
    replace k_p1 := k_p1.below b17
    replace k_p2 := k_p2.below b17
    go_wp2
    go_ret
    exact ⟨rfl, B⟩

set_option maxRecDepth 100000 in
theorem lifted (os : Os) (started : os.Started) (H : Type) (enc : TypeId × Value → H) :
    ReturnsInHanded {} Try.checked os 6 .any (Rows.natShiftsSpec.pre6 enc Try.prog Try.f6 Rows.natShiftsRow.domain false) (Rows.natShiftsSpec.post enc Try.prog Try.f6 false true false false) := by
  refine returnsInHanded_of_change (C := Try.checked) own started (by kernel_rfl) Try.func6
    (ChangeSpec.witness6 (enc := enc) (C := Try.checked) false ⟨#[], #[.slice none 0 0, .int .i64 0], []⟩ 8 (by kernel_rfl) (by kernel_rfl) (by kernel_rfl) (by kernel_rfl)) ?_
  intro W base args ds gs before hval0 hW hcnd _
  have hval : ∀ (j : Nat) t v, Try.f6.params[j]? = some t → args[j]? = some v → Value.okWide Try.prog W .any base t v := hval0
  have hW' := hW
  obtain ⟨p, q, hA0, hV, rfl, hfz, hnd⟩ := hW
  have hA : DataW.TrodAll enc Try.prog W 0 (fun _ => true) true Try.f6.params.toList args.toList ds p := hA0
  rw [Try.params6] at hA hval
  obtain ⟨v0, vs0, d0, ds0, p0, q0, hargs, rfl, rfl, t0, r0⟩ := trodAll_cons hA
  obtain ⟨v1, vs1, d1, ds1, p1, q1, rfl, rfl, rfl, t1, r1⟩ := trodAll_cons r0
  obtain ⟨rfl, rfl, rfl⟩ := trodAll_nil r1
  obtain rfl : args = #[v0, v1] := by cases args; simp_all
  obtain ⟨rfl, rfl⟩ := trodVars_none hV
  obtain ⟨l0, hs0, hu0⟩ := arg_nat Try.underlying24 Try.underlying23 cells_u (hval 0 24 v0 rfl rfl) t0
  obtain ⟨a1, rfl, hd1, hp1, wf1⟩ := open_int Try.underlying3 (hval 1 3 v1 rfl rfl) t1
  clear hA0 hval0
  simp only [List.append_nil] at hW'
  have hlt0 : ∀ x ∈ p0, x.block < W.heap.size := fun x hx => hW'.lt x (List.mem_append_left _ hx)
  have hlt1 : ∀ x ∈ p1, x.block < W.heap.size := fun x hx => hW'.lt x (List.mem_append_right _ (hx))
  refine (walk v0 l0 a1 W hs0 hu0 wf1).mono fun e W' ⟨he, hb⟩ => ?_
  subst he
  have s0 := Below.trod laidOut (by kernel_rfl) (of_decide_eq_true (by kernel_rfl)) t0 hb hlt0
  have s1 := Below.trod laidOut (by kernel_rfl) (of_decide_eq_true (by kernel_rfl)) t1 hb hlt1
  exact ⟨_, rfl, _, _, _, [] ++ [], _, [], hW', trodAll_cons_mk (shut_bool Try.underlying4 _) trodAll_mk0, trodAll_cons_mk s0 (trodAll_cons_mk s1 (trodAll_mk0)), rfl, hb.frame _, fun h => by cases h⟩

theorem over : Rows.natShiftsRow.holds Try.pinned (OpenSpec.ofChange Rows.natShiftsSpec) :=
  OpenClaim.holds_of_wide 6 Try.f6 rfl rfl rfl rfl rfl rfl rfl ⟨rfl, rfl, rfl, rfl, rfl⟩ rfl rfl rfl rfl rfl (by kernel_rfl) Try.func6 (by kernel_rfl)
    (of_decide_eq_true (by kernel_rfl)) (by unfold Func.isWrapper; first | (rw [if_pos (by decide +kernel)]; kernel_rfl) | (rw [if_neg (by decide +kernel)]; exact ⟨rfl, rfl⟩))
    (fun os started H enc _ => lifted os started H enc)

/-- The statement. -/
theorem proved : Rows.NatShiftsSaid := over
end Go.Proofs.Ytidmiimadaidjaa.natShifts
