/- The document's Div, Small, Exact, Divides of layer 4, and the chapter's example. Condition: slices read as limbs. -/
import Derived.Test.YtcgmbmiingppgaaDivE
namespace Go.Proofs.Ytcgmbmiingppgaa.nat
open Go.RowKit Go.Proofs.Ytcgmbmiingppgaa.num Go.Proofs.Ytcgmbmiingppgaa.mem Go.Proofs.Ytcgmbmiingppgaa.limb
set_option linter.unusedVariables false

theorem dec_div (x y : Nat) : (digs 10000 (x / y)).length ≤ (digs 10000 x).length := digs_len_mono (by omega) (Nat.div_le_self _ _)
theorem dec_mod (x y : Nat) : (digs 10000 (x % y)).length ≤ (digs 10000 x).length := digs_len_mono (by omega) (Nat.mod_le _ _)
theorem len_pos {y : Nat} (hy : 0 < y) : 0 < (digs 4294967296 y).length := by
  rcases Nat.eq_zero_or_pos (digs 4294967296 y).length with h0 | h0
  · have := (digs_len0 (B := 4294967296) (by omega)).1 h0; omega
  · exact h0
set_option maxHeartbeats 400000 in
theorem qdiv_zero (v vb : Value) (w : World) (h' : IsS w .u64 vb (digs 4294967296 0)) :
    Calls Try.prog 9 #[v, vb] w (RetSSE [] [] 3 w) := by
  rw [digs_zero] at h'
  obtain ⟨A, c, rfl⟩ := isS_nil0 h'
  go_enter Try.func9, Try.ntmps9
  go_wp2
  go_ret3
  exact ⟨_, _, rfl, isNil _ _, isNil _ _, fresh_nil _, fresh_nil _, Below.refl _ _⟩
set_option maxHeartbeats 800000 in
theorem qdiv_ok (v vb : Value) (x y : Nat) (w : World) (h : IsS w .u64 v (digs 4294967296 x)) (h' : IsS w .u64 vb (digs 4294967296 y)) (hl : (digs 4294967296 x).length ≤ 10000) (hl' : (digs 4294967296 y).length ≤ 10000) (hy : 0 < y) :
    Calls Try.prog 9 #[v, vb] w (RetSSE (digs 4294967296 (x / y)) (digs 4294967296 (x % y)) 0 w) := by
  have d1 := dec_le x
  have d2 := dec_le y
  have d3 := dec_div x y
  have d4 := dec_mod x y
  have d5 := div_len x y
  have d6 := mod_len x y
  have hyl := len_pos hy
  have hyl2 : ¬ digs 4294967296 y = [] := by intro e; rw [e] at hyl; simp at hyl
  have hz1 : (((digs 4294967296 y).length : Int) == 0) = false := by rw [beq_eq_false_iff_ne]; omega
  obtain ⟨A2, c2, rfl, _⟩ := id h'
  go_enter Try.func9, Try.ntmps9
  go_wp2_with fail
  refine (refOf_any _ x _ h (by omega)).mono ?_
  rintro e w1 ⟨v1, rfl, k1, f1, b1⟩
  go_wp2_with fail
  refine (refOf_any _ y _ (h'.below b1) (by omega)).mono ?_
  rintro e w2 ⟨v2, rfl, k2, f2, b2⟩
  have b3 := b1.trans (b2.mono b1.size)
  go_wp2_with fail
  refine (refDiv_any _ _ x y _ (k1.below b2) k2 (by omega) (by omega) hy).mono ?_
  rintro e w3 ⟨v3, v4, rfl, k3, k4, f3, f4, b4⟩
  have b5 := b3.trans (b4.mono b3.size)
  go_wp2_with fail
  refine (refBack_any _ (x / y) _ k3 (by omega) (by omega)).mono ?_
  rintro e w4 ⟨v5, rfl, k5, f5, b6⟩
  have b7 := b5.trans (b6.mono b5.size)
  go_wp2_with fail
  refine (refBack_any _ (x % y) _ (k4.below b6) (by omega) (by omega)).mono ?_
  rintro e w5 ⟨v6, rfl, k6, f6, b8⟩
  go_wp2
  go_ret3
  exact ⟨_, _, rfl, k5.below b8, k6, f5.mono b5.size, f6.mono b7.size, b7.trans (b8.mono b7.size)⟩

set_option maxHeartbeats 400000 in
theorem qsmall_no (v : Value) (dI : Int) (d : Nat) (w : World) (hdI : dI = (d : Int)) (ld : d < 18446744073709551616) (hd : d % 4294967296 = 0) :
    Calls Try.prog 14 #[v, .int .u64 dI] w (RetSUE [] 0 3 w) := by
  subst hdI
  have h1 : (d : Int) ≤ 18446744073709551615 := by omega
  have h2 : (((d : Int) % 4294967296) == 0) = true := by rw [beq_iff_eq]; omega
  clear hd
  go_enter Try.func14, Try.ntmps14
  go_wp2
  go_ret3
  exact ⟨_, rfl, isNil _ _, fresh_nil _, Below.refl _ _⟩
set_option maxHeartbeats 800000 in
theorem qsmall_ok (v : Value) (x : Nat) (dI : Int) (d q r : Nat) (w : World) (hdI : dI = (d : Int)) (ld : d < 18446744073709551616) (hd : 0 < d % 4294967296) (h : IsS w .u64 v (digs 4294967296 x)) (hl : (digs 4294967296 x).length ≤ 10000) (hq : q = x / (d % 4294967296)) (hr : r = x % (d % 4294967296)) :
    Calls Try.prog 14 #[v, .int .u64 dI] w (RetSUE (digs 4294967296 q) r 0 w) := by
  subst hdI
  have d1 := dec_le x
  have d3 := dec_div x (d % 4294967296)
  have d5 := div_len x (d % 4294967296)
  rw [← hq] at d3 d5
  have hr1 : r < 4294967296 := by rw [hr]; exact Nat.lt_trans (Nat.mod_lt _ hd) (Nat.mod_lt _ (by omega))
  have HQ := Lib.hid hq
  have HR := Lib.hid hr
  clear hq hr
  have h1 : (d : Int) ≤ 18446744073709551615 := by omega
  have h2 : (((d : Int) % 4294967296) == 0) = false := by rw [beq_eq_false_iff_ne]; omega
  go_enter Try.func14, Try.ntmps14
  go_wp2_with fail
  refine (refOf_any _ x _ h (by omega)).mono ?_
  rintro e w1 ⟨v1, rfl, k1, f1, b1⟩
  go_wp2_with fail
  refine (divSmall_any _ x _ (d % 4294967296) q r _ (by omega) k1 (by omega) (by omega) (by omega) HQ.out HR.out).mono ?_
  rintro e w3 ⟨v3, rfl, k3, f3, b4⟩
  have b5 := b1.trans (b4.mono b1.size)
  go_wp2_with fail
  refine (refBack_any _ q _ k3 (by omega) (by omega)).mono ?_
  rintro e w4 ⟨v5, rfl, k5, f5, b6⟩
  go_wp2
  go_ret3
  exact ⟨_, rfl, k5, f5.mono b5.size, b5.trans (b6.mono b5.size)⟩

set_option maxHeartbeats 400000 in
theorem qexact_zero (v vb : Value) (w : World) (h' : IsS w .u64 vb (digs 4294967296 0)) :
    Calls Try.prog 16 #[v, vb] w (RetSI .u64 [] 3 w) := by
  go_enter Try.func16, Try.ntmps16
  go_wp2_with fail
  refine (qdiv_zero v vb w h').mono ?_
  rintro e w1 ⟨v1, v2, rfl, k1, k2, f1, f2, b1⟩
  go_wp2
  go_ret2
  exact ⟨_, rfl, k1, f1, b1⟩
set_option maxHeartbeats 400000 in
theorem qexact_ok (v vb : Value) (x y : Nat) (w : World) (h : IsS w .u64 v (digs 4294967296 x)) (h' : IsS w .u64 vb (digs 4294967296 y)) (hl : (digs 4294967296 x).length ≤ 10000) (hl' : (digs 4294967296 y).length ≤ 10000) (hy : 0 < y) (hm : x % y = 0) :
    Calls Try.prog 16 #[v, vb] w (RetSI .u64 (digs 4294967296 (x / y)) 0 w) := by
  have HM := Lib.hid hm
  clear hm
  go_enter Try.func16, Try.ntmps16
  go_wp2_with fail
  refine (qdiv_ok v vb x y w h h' hl hl' hy).mono ?_
  rintro e w1 ⟨v1, v2, rfl, k1, k2, f1, f2, b1⟩
  rw [HM.out, digs_zero] at k2
  obtain ⟨A2, c2, rfl⟩ := isS_nil0 k2
  go_wp2
  go_ret2
  exact ⟨_, rfl, k1, f1, b1⟩
set_option maxHeartbeats 400000 in
theorem qexact_rest (v vb : Value) (x y : Nat) (w : World) (h : IsS w .u64 v (digs 4294967296 x)) (h' : IsS w .u64 vb (digs 4294967296 y)) (hl : (digs 4294967296 x).length ≤ 10000) (hl' : (digs 4294967296 y).length ≤ 10000) (hy : 0 < y) (hm : x % y ≠ 0) :
    Calls Try.prog 16 #[v, vb] w (RetSI .u64 [] 4 w) := by
  have hlen := len_pos (y := x % y) (by omega)
  have hlen2 : ¬ digs 4294967296 (x % y) = [] := by intro e; rw [e] at hlen; simp at hlen
  clear hm
  go_enter Try.func16, Try.ntmps16
  go_wp2_with fail
  refine (qdiv_ok v vb x y w h h' hl hl' hy).mono ?_
  rintro e w1 ⟨v1, v2, rfl, k1, k2, f1, f2, b1⟩
  obtain ⟨A2, c2, rfl, _⟩ := k2
  go_wp2
  go_ret2
  exact ⟨_, rfl, isNil _ _, fresh_nil _, b1⟩

theorem len_eq0 (z : Nat) : (((digs 4294967296 z).length : Int) == 0) = decide (z = 0) := by
  by_cases hz : z = 0
  · subst hz; rw [digs_zero]; rfl
  · rw [decide_eq_false hz, beq_eq_false_iff_ne]
    have := len_pos (y := z) (by omega)
    omega
set_option maxHeartbeats 400000 in
theorem qdivides_any (v vb : Value) (x y : Nat) (b : Bool) (w : World) (h : IsS w .u64 v (digs 4294967296 x)) (h' : IsS w .u64 vb (digs 4294967296 y)) (hl : (digs 4294967296 x).length ≤ 10000) (hl' : (digs 4294967296 y).length ≤ 10000) (hb : b = divB x y) :
    Calls Try.prog 19 #[v, vb] w (RetV (.bool b) w) := by
  by_cases hx : x = 0
  · subst hx
    have hb2 : (((digs 4294967296 y).length : Int) == 0) = b := by rw [hb, len_eq0]; simp [divB]
    have HB := Lib.hid hb2
    clear hb hb2
    obtain ⟨A, c, rfl, _⟩ := id h'
    rw [digs_zero] at h
    obtain ⟨A2, c2, rfl⟩ := isS_nil0 h
    go_enter Try.func19, Try.ntmps19
    go_wp2
    go_ret
    exact ⟨by rw [← HB.out]; rfl, Below.refl _ _⟩
  · have hb2 : (((digs 4294967296 (y % x)).length : Int) == 0) = b := by rw [hb, len_eq0]; rfl
    have HB := Lib.hid hb2
    have hx0 : 0 < x := by omega
    have hxl := len_pos hx0
    have hxl2 : ¬ digs 4294967296 x = [] := by intro e; rw [e] at hxl; simp at hxl
    have hz1 : (((digs 4294967296 x).length : Int) == 0) = false := by rw [beq_eq_false_iff_ne]; omega
    clear hb hb2 hx
    obtain ⟨A2, c2, rfl, _⟩ := id h
    go_enter Try.func19, Try.ntmps19
    go_wp2_with fail
    refine (qdiv_ok vb _ y x w h' h hl' hl hx0).mono ?_
    rintro e w1 ⟨v1, v2, rfl, k1, k2, f1, f2, b1⟩
    obtain ⟨A, c, rfl, _⟩ := id k2
    go_wp2
    go_ret
    exact ⟨by rw [← HB.out]; rfl, b1⟩

theorem digs_of {l : List Nat} (h : Lt 4294967296 l) (ht : trim l = l) : digs 4294967296 (val 4294967296 l) = l := by rw [← trim_digs (by omega) h, ht]
theorem lt_small {l : List Nat} (h : ∀ d ∈ l, d < 8) : Lt 4294967296 l := fun d hd => Nat.lt_trans (h d hd) (by omega)
theorem own_lit3 (w : World) (base : Nat) (e : TypeId) (k : IntKind) {x y z : Int} {d f g : Nat} (hd : x = (d : Int)) (hf : y = (f : Int)) (hg : z = (g : Int)) (hb : base ≤ w.heap.size) : Own (w.alloc (.cells #[.int k x, .int k y, .int k z] e)) base e k (.slice (some ⟨w.heap.size, 0, none⟩) 3 3) [d, f, g] := by
  subst hd; subst hf; subst hg; exact own_lit w base e k [d, f, g] hb (by unfold maxLen; simp)
set_option maxHeartbeats 1600000 in
theorem works4_any (w : World) : Calls Try.prog 12 #[] w (RetV (.bool true) w) := by
  obtain ⟨x, hx⟩ : ∃ x, x = val 4294967296 [7, 7, 7] := ⟨_, rfl⟩
  obtain ⟨y, hy⟩ : ∃ y, y = val 4294967296 [2, 2] := ⟨_, rfl⟩
  have e1 : digs 4294967296 x = [7, 7, 7] := by rw [hx]; exact digs_of (lt_small (by decide)) (by decide)
  have e2 : digs 4294967296 y = [2, 2] := by rw [hy]; exact digs_of (lt_small (by decide)) (by decide)
  have hy0 : 0 < y := by rw [hy]; simp [val]
  have l1 : (digs 4294967296 x).length = 3 := by rw [e1]; rfl
  have l2 : (digs 4294967296 y).length = 2 := by rw [e2]; rfl
  have l3 := div_len x y
  have l4 := mul_len (x / y) y
  have hxy : x = x / y * y + x % y := by rw [Nat.mul_comm]; exact (Nat.div_add_mod _ _).symm
  have m1 : (digs 4294967296 x).length ≤ 90000 := by omega
  have m2 : (digs 4294967296 y).length ≤ 90000 := by omega
  have m3 : (digs 4294967296 (x / y)).length ≤ 10000 := by omega
  have E1 := Lib.hid e1
  have E2 := Lib.hid e2
  have HXY := Lib.hid hxy
  clear hx hy e1 e2 hxy l1 l2 l3 l4
  go_enter Try.func12, Try.ntmps12
  go_wp2_with fail
  have b1 : Below w.heap.size w (w.alloc (.cells #[.int .u64 7, .int .u64 7, .int .u64 7] 30)) := below_alloc (Nat.le_refl _) _
  have b2 : Below w.heap.size w ((w.alloc (.cells #[.int .u64 7, .int .u64 7, .int .u64 7] 30)).alloc (.cells #[.int .u64 2, .int .u64 2] 30)) := b1.alloc b1.size _
  refine (ddiv_ok _ _ x y _ (by rw [E1.out]; exact ((own_lit3 w w.heap.size _ .u64 (d := 7) (f := 7) (g := 7) rfl rfl rfl (Nat.le_refl _)).alloc _).isS) (by rw [E2.out]; have := (own_lit2 (w.alloc (.cells #[.int .u64 7, .int .u64 7, .int .u64 7] 30)) 0 30 .u64 (x := 2) (y := 2) (d := 2) (f := 2) rfl rfl (Nat.zero_le _)).isS; simpa using this) m1 m2 hy0).mono ?_
  rintro e w1 ⟨v1, v2, rfl, k1, k2, f1, f2, b3⟩
  have b4 := b2.trans (b3.mono b2.size)
  go_wp2_with fail
  have c1 : Below w1.heap.size w1 (w1.alloc (.cells #[.int .u64 7] 30)) := below_alloc (Nat.le_refl _) _
  refine (ddiv_zero _ _ _ (by rw [digs_zero]; exact isNil _ _)).mono ?_
  rintro e w2 ⟨v3, v4, rfl, k3, k4, f3, f4, b5⟩
  have c2 := c1.trans (b5.mono c1.size)
  have b6 := b4.trans (c2.mono b4.size)
  have k1' := k1.below c2
  have k2' := k2.below c2
  go_wp2_with fail
  have c3 : Below w2.heap.size w2 (w2.alloc (.cells #[.int .u64 2, .int .u64 2] 30)) := below_alloc (Nat.le_refl _) _
  refine (mul_any _ _ (x / y) y _ (k1'.below c3) (by rw [E2.out]; exact (own_lit2 w2 0 30 .u64 (x := 2) (y := 2) (d := 2) (f := 2) rfl rfl (Nat.zero_le _)).isS) (by omega) (by omega) (x / y * y) rfl).mono ?_
  rintro e w3 ⟨v5, rfl, k5, f5, b7⟩
  have c4 := c3.trans (b7.mono c3.size)
  have b8 := b6.trans (c4.mono b6.size)
  have k2'' := k2'.below c4
  go_wp2_with fail
  refine (add_any _ _ (x / y * y) (x % y) _ k5 k2'' x HXY.out (by omega)).mono ?_
  rintro e w4 ⟨v6, rfl, k6, f6, b9⟩
  have b10 := b8.trans (b9.mono b8.size)
  go_wp2_with fail
  have c5 : Below w4.heap.size w4 (w4.alloc (.cells #[.int .u64 7, .int .u64 7, .int .u64 7] 30)) := below_alloc (Nat.le_refl _) _
  refine (same_one _ _ x _ (k6.below c5) (by rw [E1.out]; exact (own_lit3 w4 w4.heap.size _ .u64 (d := 7) (f := 7) (g := 7) rfl rfl rfl (Nat.le_refl _)).isS)).mono ?_
  rintro e w5 ⟨rfl, b11⟩
  have c6 := c5.trans (b11.mono c5.size)
  go_wp2
  go_ret
  exact ⟨rfl, b10.trans (c6.mono b10.size)⟩
end Go.Proofs.Ytcgmbmiingppgaa.nat
