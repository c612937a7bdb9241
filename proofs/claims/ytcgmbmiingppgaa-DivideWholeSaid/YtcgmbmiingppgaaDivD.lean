/- Package divide: Div, Exact, Mod, Divides. Condition: slices read as limbs. -/
import Derived.Test.YtcgmbmiingppgaaDivC
import Derived.Test.YtcgmbmiingppgaaLawW
import Derived.Deep.RegionLaw
namespace Go.Proofs.Ytcgmbmiingppgaa.mem
open Go.RowKit
theorem IsS.drew {w : World} {k : IntKind} {v : Value} {l : List Nat} (h : IsS w k v l) : IsS w.drew k v l := by
  obtain ⟨A, c, e, h1, h2, h3⟩ := h
  exact ⟨A, c, e, h1, h2, fun i d hd => h3 i d hd⟩
end Go.Proofs.Ytcgmbmiingppgaa.mem
namespace Go.Proofs.Ytcgmbmiingppgaa.nat
open Go.RowKit Go.Proofs.Ytcgmbmiingppgaa.num Go.Proofs.Ytcgmbmiingppgaa.mem Go.Proofs.Ytcgmbmiingppgaa.limb
set_option linter.unusedVariables false

theorem up_bits {d n : Nat} (hd : d < 4294967296) (hd0 : d ≠ 0) (h : BitsSpec ((d : Int) % 4294967296) n) (hn : n ≤ 32) : 1 ≤ n ∧ n ≤ 32 := by
  obtain ⟨h1, h2⟩ := BitsSpec.nat hd h
  refine ⟨?_, hn⟩
  rcases Nat.eq_zero_or_pos n with h3 | h3
  · subst h3; simp at h1; omega
  · exact h3
theorem pow_up {u : Nat} (h : u ≤ 31) : 2 ^ u ≤ 2147483648 := Nat.pow_le_pow_right (n := 2) (j := 31) (by omega) h
theorem up_len {x u : Nat} (h : u ≤ 31) : (digs 4294967296 (x * 2 ^ u)).length ≤ (digs 4294967296 x).length + 1 := by
  have h1 := mul_len x (2 ^ u)
  have h2 : (digs 4294967296 (2 ^ u)).length ≤ 1 := digs_len_le (by omega) (by have := pow_up h; omega)
  omega
theorem up_len2 {x u : Nat} : (digs 4294967296 x).length ≤ (digs 4294967296 (x * 2 ^ u)).length := digs_len_mono (by omega) (Nat.le_mul_of_pos_right _ (Nat.pow_pos (by omega)))
theorem div_len (x y : Nat) : (digs 4294967296 (x / y)).length ≤ (digs 4294967296 x).length := digs_len_mono (by omega) (Nat.div_le_self _ _)
theorem mod_len (x y : Nat) : (digs 4294967296 (x % y)).length ≤ (digs 4294967296 x).length := digs_len_mono (by omega) (Nat.mod_le _ _)
theorem mod_len' {x y : Nat} (h : 0 < y) : (digs 4294967296 (x % y)).length ≤ (digs 4294967296 y).length := digs_len_mono (by omega) (Nat.le_of_lt (Nat.mod_lt _ h))

set_option maxHeartbeats 400000 in
theorem ddiv_zero (v vb : Value) (w : World) (h' : IsS w .u64 vb (digs 4294967296 0)) :
    Calls Try.prog 8 #[v, vb] w (RetSSE [] [] 3 w) := by
  go_enter Try.func8, Try.ntmps8
  go_wp2_with fail
  refine (small_any vb 0 _ _ 1 0 w h' (by rw [digs_zero]; simp) rfl rfl (by omega) (by omega) 0 (by omega)).mono ?_
  rintro e w1 ⟨v1, rfl, k1, f1, b1⟩
  rw [digs_zero] at k1
  obtain ⟨A, c, rfl, _⟩ := k1
  go_wp2
  go_ret3
  exact ⟨_, _, rfl, isNil _ _, isNil _ _, fresh_nil _, fresh_nil _, b1⟩

set_option maxHeartbeats 3200000 in
theorem ddiv_ok (v vb : Value) (x y : Nat) (w : World) (h : IsS w .u64 v (digs 4294967296 x)) (h' : IsS w .u64 vb (digs 4294967296 y)) (hl : (digs 4294967296 x).length ≤ 90000) (hl' : (digs 4294967296 y).length ≤ 90000) (hy : 0 < y) :
    Calls Try.prog 8 #[v, vb] w (RetSSE (digs 4294967296 (x / y)) (digs 4294967296 (x % y)) 0 w) := by
  have hyl : 0 < (digs 4294967296 y).length := by
    rcases Nat.eq_zero_or_pos (digs 4294967296 y).length with h0 | h0
    · have := (digs_len0 (B := 4294967296) (by omega)).1 h0; omega
    · exact h0
  have hyl2 : ¬ digs 4294967296 y = [] := by intro e; rw [e] at hyl; simp at hyl
  have hq1 := div_len x y
  have hq2 := mod_len x y
  by_cases hone : (digs 4294967296 y).length = 1
  · have hyB : y < 4294967296 := by have := digs_lt_pow (B := 4294967296) (by omega) y; rw [hone] at this; simpa using this
    have hdy := digs_one y hyB hy
    have DY := Lib.hid hdy
    have hym : y % 4294967296 = y := Nat.mod_eq_of_lt hyB
    have YM := Lib.hid hym
    have hr1 : x % y < 4294967296 := Nat.lt_trans (Nat.mod_lt _ hy) hyB
    have hz0 : ((digs 4294967296 y).length == 0) = false := by rw [hone]; rfl
    have hz1 : (((digs 4294967296 y).length : Int) == 0) = false := by rw [hone]; rfl
    have hz2 : (((digs 4294967296 y).length : Int) == 1) = true := by rw [hone]; rfl
    clear hdy hym hone
    obtain ⟨R, hR⟩ : ∃ R, R = x % y := ⟨_, rfl⟩
    rw [← hR] at hr1 hq2 ⊢
    have HR := Lib.hid hR
    have hRI : (R : Int) ≤ 18446744073709551615 := by omega
    clear hR
    go_enter Try.func8, Try.ntmps8
    go_wp2_with fail
    refine (small_any vb y _ _ 1 0 w h' (by omega) rfl rfl (by omega) (by omega) y (by omega)).mono ?_
    rintro e w1 ⟨v1, rfl, k1, f1, b1⟩
    have h1 := h.below b1
    obtain ⟨A, c, rfl, hc, hm, hr⟩ := id k1
    obtain ⟨ad, d, rfl, hd, hcell⟩ := hr.at_ (i := 0) (by omega)
    have hdy : d = y := by rw [DY.out] at hd; simpa using hd.symm
    subst hdy
    clear hd
    rw [Addr.add_zero'] at hcell
    go_wp2_with fail
    refine (dsmall_ok _ x _ d (x / d) R _ rfl (by omega) (by rw [YM.out]; exact hy) h1 (by omega) (by rw [YM.out]) (by rw [YM.out]; exact HR.out)).mono ?_
    rintro e w2 ⟨v2, rfl, k2, f2, b2⟩
    go_wp2_with fail
    refine (of_any _ R _ rfl hRI).mono ?_
    rintro e w3 ⟨v3, rfl, k3, f3, b3⟩
    have B2 := b1.trans (b2.mono b1.size)
    have B3 := B2.trans (b3.mono B2.size)
    go_wp2
    go_ret3
    exact ⟨_, _, rfl, k2.below b3, k3, f2.mono b1.size, f3.mono B2.size, B3⟩
  · obtain ⟨m, hm⟩ : ∃ m, m = (digs 4294967296 y).length - 1 := ⟨_, rfl⟩
    have hz1 : (((digs 4294967296 y).length : Int) == 0) = false := by rw [beq_eq_false_iff_ne]; omega
    have hz2 : (((digs 4294967296 y).length : Int) == 1) = false := by rw [beq_eq_false_iff_ne]; omega
    have h2 : 2 ≤ (digs 4294967296 y).length := by omega
    have HMod : Hid (∀ u, x * 2 ^ u % (y * 2 ^ u) / 2 ^ u = x % y) := fun u => by rw [Nat.mul_mod_mul_right, Nat.mul_div_cancel _ (Nat.pow_pos (by omega))]
    have HDiv : Hid (∀ u, x * 2 ^ u / (y * 2 ^ u) = x / y) := fun u => Nat.mul_div_mul_right _ _ (Nat.pow_pos (by omega))
    clear hone hm
    go_enter Try.func8, Try.ntmps8
    go_wp2_with fail
    refine (small_any vb y _ _ 1 0 w h' (by omega) rfl rfl (by omega) (by omega) y (by omega)).mono ?_
    rintro e w1 ⟨v1, rfl, k1, f1, b1⟩
    have h1 := h.below b1
    obtain ⟨A, c, rfl, hc, hmx, hr⟩ := id k1
    obtain ⟨ad, d, rfl, hd, hcell⟩ := hr.at_ (i := (digs 4294967296 y).length - 1) (by omega)
    have hd1 := (digs_lt (B := 4294967296) (by omega) y).at hd
    have hd0 := digs_last (B := 4294967296) (by omega) y (n := (digs 4294967296 y).length - 1) (by omega) hd
    have HD0 := Lib.hid hd0
    clear hd hd0
    go_wp2_with fail
    refine (limb.bits_any _ (by omega) (by omega) _).mono ?_
    rintro e w2 ⟨n, rfl, hn, hs, rfl⟩
    obtain ⟨hn1, _⟩ := up_bits hd1 HD0.out hs hn
    obtain ⟨u, hu⟩ : ∃ u, u = 32 - n := ⟨_, rfl⟩
    have hu31 : u ≤ 31 := by omega
    have huI : (32 : Int) - (n : Int) = (u : Int) := by omega
    obtain ⟨p, hp⟩ : ∃ p, p = 2 ^ u := ⟨_, rfl⟩
    have hpb : p ≤ 2147483648 := by rw [hp]; exact pow_up hu31
    have hw : IntKind.u64.wrap ((2 : Int) ^ u) = (p : Int) := by rw [← two_cast, ← hp, IntKind.wrap_u64]; omega
    have l1 := up_len (x := x) hu31
    have l2 := up_len (x := y) hu31
    have l3 := up_len2 (x := y) (u := u)
    have l4 := mod_len (x * 2 ^ u) (y * 2 ^ u)
    have hmd := HMod.out u
    have hdv := HDiv.out u
    rw [← hp] at l1 l2 l3 l4 hmd hdv
    have HP := Lib.hid hp
    have HMD := Lib.hid hmd
    have HDV := Lib.hid hdv
    clear hu hp hs hmd hdv
    have hz3 : p % 4294967296 = p := Nat.mod_eq_of_lt (by omega)
    have HZ3 := Lib.hid hz3
    clear hz3
    go_wp2
    have HZX : Hid (x * p = x * (p % 4294967296) + 0 % 4294967296) := by show _ = _; rw [HZ3.out]; omega
    have HZY : Hid (y * p = y * (p % 4294967296) + 0 % 4294967296) := by show _ = _; rw [HZ3.out]; omega
    have hx1 : (digs 4294967296 x).length ≤ 1000000 := by omega
    have hx2 : p < 18446744073709551616 := by omega
    have hx3 : 0 < 18446744073709551616 := by omega
    have hy1 : (digs 4294967296 y).length ≤ 1000000 := by omega
    have hxp : (digs 4294967296 (x * p)).length ≤ 100000 := by omega
    have hyp : (digs 4294967296 (y * p)).length ≤ 100000 := by omega
    have hyp2 : 2 ≤ (digs 4294967296 (y * p)).length := by omega
    have con := Lib.hid (small_own v x (p : Int) 0 p 0 w1.drew h1.drew hx1 rfl rfl hx2 hx3 (x * p) HZX.out)
    go_region_law (first
      | (go_simp; go_at_call 24; (with_reducible refine con.out.mono ?_); rintro e w3 ⟨v3, rfl, own3, b3⟩; have con2 := Lib.hid (small_any _ y (p : Int) 0 p 0 w3 (k1.drew.below b3) hy1 rfl rfl hx2 hx3 (y * p) HZY.out))
      | (go_simp; go_at_call 24; (with_reducible refine con2.out.mono ?_); rintro e w4 ⟨v4, rfl, k4, f4, b4⟩; have con3 := Lib.hid (dlong_any w1.drew v3 v4 (x * p) (y * p) w4 (own3.below b4) (b3.trans (b4.mono b3.size)) k4 (fun g hg => f4.apart (own3.under g hg)) hxp hyp hyp2))
      | (go_simp; go_at_call 27; (with_reducible refine con3.out.mono ?_); rintro e w5 ⟨v5, v6, rfl, k5, k6, f5, f6, b5⟩))
    all_goals
      have B1 : Below w.heap.size w w1.drew := b1.drew
      have B5 := B1.trans (b5.mono B1.size)
      rw [HDV.out] at k5
      go_wp2_with fail
      refine (shr_ok v6 (x * p % (y * p)) _ u _ rfl k6 (by omega) (by omega) (x % y) (by rw [← HP.out]; exact HMD.out.symm)).mono ?_
      rintro e w6 ⟨v7, rfl, k7, f7, b6⟩
      go_wp2
      go_ret3
      exact ⟨_, _, rfl, k5.below b6, k7, f5.mono B1.size, f7.mono B5.size, B5.trans (b6.mono B5.size)⟩

/-- The call ends with a new slice, and an error. -/
theorem isS_nil0 {w : World} {v : Value} (h : IsS w .u64 v []) : ∃ A c, v = .slice A 0 c := by
  obtain ⟨A, c, e, _⟩ := h
  exact ⟨A, c, e⟩

set_option maxHeartbeats 400000 in
theorem dexact_zero (v vb : Value) (w : World) (h' : IsS w .u64 vb (digs 4294967296 0)) :
    Calls Try.prog 15 #[v, vb] w (RetSI .u64 [] 3 w) := by
  go_enter Try.func15, Try.ntmps15
  go_wp2_with fail
  refine (ddiv_zero v vb w h').mono ?_
  rintro e w1 ⟨v1, v2, rfl, k1, k2, f1, f2, b1⟩
  go_wp2
  go_ret2
  exact ⟨_, rfl, isNil _ _, fresh_nil _, b1⟩
set_option maxHeartbeats 400000 in
theorem dexact_ok (v vb : Value) (x y : Nat) (w : World) (h : IsS w .u64 v (digs 4294967296 x)) (h' : IsS w .u64 vb (digs 4294967296 y)) (hl : (digs 4294967296 x).length ≤ 90000) (hl' : (digs 4294967296 y).length ≤ 90000) (hy : 0 < y) (q : Nat) (hm : x % y = 0) (hq : q = x / y) :
    Calls Try.prog 15 #[v, vb] w (RetSI .u64 (digs 4294967296 q) 0 w) := by
  have HM := Lib.hid hm
  have HQ := Lib.hid hq
  clear hm hq
  go_enter Try.func15, Try.ntmps15
  go_wp2_with fail
  refine (ddiv_ok v vb x y w h h' hl hl' hy).mono ?_
  rintro e w1 ⟨v1, v2, rfl, k1, k2, f1, f2, b1⟩
  rw [HM.out, digs_zero] at k2
  rw [← HQ.out] at k1
  obtain ⟨A2, c2, rfl⟩ := isS_nil0 k2
  go_wp2
  go_ret2
  exact ⟨_, rfl, k1, f1, b1⟩
set_option maxHeartbeats 400000 in
theorem dexact_rest (v vb : Value) (x y : Nat) (w : World) (h : IsS w .u64 v (digs 4294967296 x)) (h' : IsS w .u64 vb (digs 4294967296 y)) (hl : (digs 4294967296 x).length ≤ 90000) (hl' : (digs 4294967296 y).length ≤ 90000) (hy : 0 < y) (hm : x % y ≠ 0) :
    Calls Try.prog 15 #[v, vb] w (RetSI .u64 [] 4 w) := by
  have hlen : 0 < (digs 4294967296 (x % y)).length := by
    rcases Nat.eq_zero_or_pos (digs 4294967296 (x % y)).length with h0 | h0
    · exact absurd ((digs_len0 (B := 4294967296) (by omega)).1 h0) hm
    · exact h0
  have hlen2 : ¬ digs 4294967296 (x % y) = [] := by intro e; rw [e] at hlen; simp at hlen
  clear hm
  go_enter Try.func15, Try.ntmps15
  go_wp2_with fail
  refine (ddiv_ok v vb x y w h h' hl hl' hy).mono ?_
  rintro e w1 ⟨v1, v2, rfl, k1, k2, f1, f2, b1⟩
  obtain ⟨A2, c2, rfl, _⟩ := k2
  go_wp2
  go_ret2
  exact ⟨_, rfl, isNil _ _, fresh_nil _, b1⟩

set_option maxHeartbeats 400000 in
theorem dmod_zero (v vb : Value) (w : World) (h' : IsS w .u64 vb (digs 4294967296 0)) :
    Calls Try.prog 17 #[v, vb] w (RetSI .u64 [] 3 w) := by
  go_enter Try.func17, Try.ntmps17
  go_wp2_with fail
  refine (ddiv_zero v vb w h').mono ?_
  rintro e w1 ⟨v1, v2, rfl, k1, k2, f1, f2, b1⟩
  go_wp2
  go_ret2
  exact ⟨_, rfl, k2, f2, b1⟩
set_option maxHeartbeats 400000 in
theorem dmod_ok (v vb : Value) (x y : Nat) (w : World) (h : IsS w .u64 v (digs 4294967296 x)) (h' : IsS w .u64 vb (digs 4294967296 y)) (hl : (digs 4294967296 x).length ≤ 90000) (hl' : (digs 4294967296 y).length ≤ 90000) (hy : 0 < y) (r : Nat) (hr : r = x % y) :
    Calls Try.prog 17 #[v, vb] w (RetSI .u64 (digs 4294967296 r) 0 w) := by
  have HR := Lib.hid hr
  clear hr
  go_enter Try.func17, Try.ntmps17
  go_wp2_with fail
  refine (ddiv_ok v vb x y w h h' hl hl' hy).mono ?_
  rintro e w1 ⟨v1, v2, rfl, k1, k2, f1, f2, b1⟩
  rw [← HR.out] at k2
  go_wp2
  go_ret2
  exact ⟨_, rfl, k2, f2, b1⟩

/-- Does a divide b? 0 divides 0 alone. -/
def divB (a b : Nat) : Bool := decide (b % a = 0)
theorem len0_iff (x : Nat) : ((digs 4294967296 x).length = 0) = (x = 0) := propext (digs_len0 (by omega))
set_option maxHeartbeats 400000 in
theorem divides_any (v vb : Value) (x y : Nat) (b : Bool) (w : World) (h : IsS w .u64 v (digs 4294967296 x)) (h' : IsS w .u64 vb (digs 4294967296 y)) (hl : (digs 4294967296 x).length ≤ 90000) (hl' : (digs 4294967296 y).length ≤ 90000) (hb : b = divB x y) :
    Calls Try.prog 18 #[v, vb] w (RetV (.bool b) w) := by
  have key : ∀ z : Nat, (((digs 4294967296 z).length : Int) == 0) = decide (z = 0) := fun z => by
    by_cases hz : z = 0
    · subst hz; rw [digs_zero]; rfl
    · rw [decide_eq_false hz, beq_eq_false_iff_ne]
      have : ¬ (digs 4294967296 z).length = 0 := fun e => hz ((digs_len0 (by omega)).1 e)
      omega
  by_cases hx : x = 0
  · subst hx
    have hb2 : (((digs 4294967296 y).length : Int) == 0) = b := by rw [hb, key]; simp [divB]
    have HB := Lib.hid hb2
    clear hb hb2 key
    obtain ⟨A, c, rfl, _⟩ := id h'
    go_enter Try.func18, Try.ntmps18
    go_wp2_with fail
    refine (dmod_zero _ v w h).mono ?_
    rintro e w1 ⟨v1, rfl, k1, f1, b1⟩
    go_wp2
    go_ret
    exact ⟨by rw [← HB.out]; rfl, b1⟩
  · have hb2 : (((digs 4294967296 (y % x)).length : Int) == 0) = b := by rw [hb, key]; rfl
    have HB := Lib.hid hb2
    have hx0 : 0 < x := by omega
    clear hb hb2 key hx
    go_enter Try.func18, Try.ntmps18
    go_wp2_with fail
    refine (dmod_ok _ v y x w h' h hl' hl hx0 (y % x) rfl).mono ?_
    rintro e w1 ⟨v1, rfl, k1, f1, b1⟩
    obtain ⟨A, c, rfl, _⟩ := id k1
    go_wp2
    go_ret
    exact ⟨by rw [← HB.out]; rfl, b1⟩
end Go.Proofs.Ytcgmbmiingppgaa.nat
