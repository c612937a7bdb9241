/- DivideWhole: the quotient times b, and what is left, are a; what is left is less than b. Condition: the arguments can be read as data. -/
import Derived.Test.YtcgmbmiingppgaaRefQ
namespace Go.Proofs.Ytcgmbmiingppgaa.divideWhole
open Go.ChangeShapes Go.WideShapes Go.ChangeAt Go.RowKit Go.Proofs.Ytcgmbmiingppgaa.num Go.Proofs.Ytcgmbmiingppgaa.mem Go.Proofs.Ytcgmbmiingppgaa.nat
set_option linter.unusedVariables false

theorem own : ownKnob Try.prog.godebug = none := by kernel_rfl
theorem laidOut : laidOutB Try.prog = true := by kernel_rfl
theorem cells_u : Try.prog.cellsOf 30 = 1 := by kernel_rfl


set_option maxHeartbeats 6400000 in
set_option maxRecDepth 100000 in
/-- The walk: the Go text returns true; what was there is as it was. -/
theorem walk (v0 : Value) (l0 : List Nat) (v1 : Value) (l1 : List Nat) (w : World) (h0 : IsS w .u64 v0 l0) (u0 : Lt 18446744073709551616 l0) (h1 : IsS w .u64 v1 l1) (u1 : Lt 18446744073709551616 l1) :
    Calls Try.prog 6 #[v0, v1] w (RetV (.bool true) w) := by
  have B : Below w.heap.size w w := Below.refl _ _
  go_enter Try.func6, Try.ntmps6
  go_wp2_with fail
  refine (works4_any _).mono ?_
  rintro e w1 ⟨rfl, b1⟩
  replace B := B.trans (b1.mono B.size)
  go_wp2_with fail
  refine (clean_any v0 l0 _ 40 _ rfl (h0.below B) u0 (by omega)).mono ?_
  rintro e w2 ⟨c0, rfl, k_c0, f_c0, b2⟩
  replace B := B.trans (b2.mono B.size)
  obtain ⟨x, hxx⟩ : ∃ x, x = cleaned l0 40 := ⟨_, rfl⟩
  have mx := cleaned_len l0 40
  rw [← hxx] at k_c0 mx
  clear hxx
  go_wp2_with fail
  refine (clean_any v1 l1 _ 40 _ rfl (h1.below B) u1 (by omega)).mono ?_
  rintro e w3 ⟨c1, rfl, k_c1, f_c1, b3⟩
  replace B := B.trans (b3.mono B.size)
  replace k_c0 := k_c0.below b3
  obtain ⟨y, hxy⟩ : ∃ y, y = cleaned l1 40 := ⟨_, rfl⟩
  have my := cleaned_len l1 40
  rw [← hxy] at k_c1 my
  clear hxy
  rcases Nat.eq_zero_or_pos y with hy | hy
  · skip
    subst hy
    go_wp2_with fail
    refine (ddiv_zero _ _ _ k_c1).mono ?_
    rintro e w4 ⟨q, r, rfl, k_q, k_r, f_q, f_r, b4⟩
    replace B := B.trans (b4.mono B.size)
    replace k_c0 := k_c0.below b4
    replace k_c1 := k_c1.below b4
    rw [digs_zero] at k_c1
    obtain ⟨Ay, cy, rfl⟩ := isS_nil0 k_c1
    obtain ⟨Aq, cq, rfl⟩ := isS_nil0 k_q
    obtain ⟨Ar, cr, rfl⟩ := isS_nil0 k_r
    go_wp2
    go_ret
    exact ⟨rfl, B⟩
  · skip
    have hyl := len_pos hy
    have hyl2 : ¬ digs 4294967296 y = [] := by intro e; rw [e] at hyl; simp at hyl
    have hz1 : (((digs 4294967296 y).length : Int) == 0) = false := by rw [beq_eq_false_iff_ne]; omega
    have n1 := mul_len x y
    have n2 := div_len x y
    have n3 := mul_len (x / y) y
    obtain ⟨q, hq⟩ : ∃ q, q = x / y := ⟨_, rfl⟩
    obtain ⟨r, hr⟩ : ∃ r, r = x % y := ⟨_, rfl⟩
    rw [← hq] at n2 n3
    have hrl : r < y := by rw [hr]; exact Nat.mod_lt _ hy
    have n4 := digs_len_mono (B := 4294967296) (by omega) (Nat.le_of_lt hrl)
    have HX : Hid (x = q * y + r) := by show _ = _; rw [hq, hr, Nat.mul_comm]; exact (Nat.div_add_mod _ _).symm
    have HE : Hid (x * y % y = 0 ∧ x = x * y / y) := ⟨Nat.mul_mod_left _ _, (Nat.mul_div_cancel _ hy).symm⟩
    obtain ⟨t, ht⟩ : ∃ t, t = ord r y := ⟨_, rfl⟩
    have ht0 : t < 0 := by rw [ht]; exact ord_lt0.2 hrl
    have HT := Lib.hid ht
    clear ht
    go_wp2_with fail
    refine (ddiv_ok _ _ x y _ k_c0 k_c1 (by omega) (by omega) hy).mono ?_
    rintro e w4 ⟨vq, vr, rfl, k_vq, k_vr, f_vq, f_vr, b4⟩
    replace B := B.trans (b4.mono B.size)
    replace k_c0 := k_c0.below b4
    replace k_c1 := k_c1.below b4
    rw [← hq] at k_vq
    rw [← hr] at k_vr
    have HQ := Lib.hid hq
    have HR := Lib.hid hr
    clear hq hr
    obtain ⟨Ay, cy, hvy, _⟩ := id k_c1
    subst hvy
    go_wp2_with fail
    refine (mul_any _ _ x y _ k_c0 k_c1 (by omega) (by omega) (x * y) rfl).mono ?_
    rintro e w5 ⟨m, rfl, k_m, f_m, b5⟩
    replace B := B.trans (b5.mono B.size)
    replace k_c0 := k_c0.below b5
    replace k_c1 := k_c1.below b5
    replace k_vq := k_vq.below b5
    replace k_vr := k_vr.below b5
    go_wp2_with fail
    refine (dexact_ok _ _ (x * y) y _ k_m k_c1 (by omega) (by omega) hy x HE.out.1 HE.out.2).mono ?_
    rintro e w6 ⟨p, rfl, k_p, f_p, b6⟩
    replace B := B.trans (b6.mono B.size)
    replace k_c0 := k_c0.below b6
    replace k_c1 := k_c1.below b6
    replace k_vq := k_vq.below b6
    replace k_vr := k_vr.below b6
    replace k_m := k_m.below b6
    go_wp2_with fail
    refine (mul_any _ _ q y _ k_vq k_c1 (by omega) (by omega) (q * y) rfl).mono ?_
    rintro e w7 ⟨g, rfl, k_g, f_g, b7⟩
    replace B := B.trans (b7.mono B.size)
    replace k_c0 := k_c0.below b7
    replace k_c1 := k_c1.below b7
    replace k_vq := k_vq.below b7
    replace k_vr := k_vr.below b7
    replace k_m := k_m.below b7
    replace k_p := k_p.below b7
    go_wp2_with fail
    refine (add_any _ _ (q * y) r _ k_g k_vr x HX.out (by omega)).mono ?_
    rintro e w8 ⟨h, rfl, k_h, f_h, b8⟩
    replace B := B.trans (b8.mono B.size)
    replace k_c0 := k_c0.below b8
    replace k_c1 := k_c1.below b8
    replace k_vq := k_vq.below b8
    replace k_vr := k_vr.below b8
    replace k_m := k_m.below b8
    replace k_p := k_p.below b8
    replace k_g := k_g.below b8
    go_wp2_with fail
    refine (same_one _ _ x _ k_h k_c0).mono ?_
    rintro e w9 ⟨rfl, b9⟩
    replace B := B.trans (b9.mono B.size)
    replace k_c0 := k_c0.below b9
    replace k_c1 := k_c1.below b9
    replace k_vq := k_vq.below b9
    replace k_vr := k_vr.below b9
    replace k_m := k_m.below b9
    replace k_p := k_p.below b9
    replace k_g := k_g.below b9
    replace k_h := k_h.below b9
    go_wp2_with fail
    refine (cmp_any _ _ r y t _ k_vr k_c1 HT.out).mono ?_
    rintro e w10 ⟨rfl, b10⟩
    replace B := B.trans (b10.mono B.size)
    replace k_c0 := k_c0.below b10
    replace k_c1 := k_c1.below b10
    replace k_vq := k_vq.below b10
    replace k_vr := k_vr.below b10
    replace k_m := k_m.below b10
    replace k_p := k_p.below b10
    replace k_g := k_g.below b10
    replace k_h := k_h.below b10
    go_wp2_with fail
    refine (may_any _ _ _ k_vq (digs_lt_u _)).mono ?_
    rintro e w11 ⟨rfl, rfl⟩
    rw [mayB_digs]
    go_wp2_with fail
    refine (may_any _ _ _ k_vr (digs_lt_u _)).mono ?_
    rintro e w12 ⟨rfl, rfl⟩
    rw [mayB_digs]
    go_wp2_with fail
    refine (same_one _ _ x _ k_p k_c0).mono ?_
    rintro e w13 ⟨rfl, b13⟩
    replace B := B.trans (b13.mono B.size)
    replace k_c0 := k_c0.below b13
    replace k_c1 := k_c1.below b13
    replace k_vq := k_vq.below b13
    replace k_vr := k_vr.below b13
    replace k_m := k_m.below b13
    replace k_p := k_p.below b13
    replace k_g := k_g.below b13
    replace k_h := k_h.below b13
    go_wp2
    go_ret
    exact ⟨rfl, B⟩

set_option maxRecDepth 100000 in
theorem lifted (os : Os) (started : os.Started) (H : Type) (enc : TypeId × Value → H) :
    ReturnsInHanded {} Try.checked os 6 .any (Rows.divideWholeSpec.pre6 enc Try.prog Try.f6 Rows.divideWholeRow.domain false) (Rows.divideWholeSpec.post enc Try.prog Try.f6 false true false false) := by
  refine returnsInHanded_of_change (C := Try.checked) own started (by kernel_rfl) Try.func6
    (ChangeSpec.witness6 (enc := enc) (C := Try.checked) false ⟨#[], #[.slice none 0 0, .slice none 0 0], []⟩ 8 (by kernel_rfl) (by kernel_rfl) (by kernel_rfl) (by kernel_rfl)) ?_
  intro W base args ds gs before hval0 hW hcnd _
  have hval : ∀ (j : Nat) t v, Try.f6.params[j]? = some t → args[j]? = some v → Value.okWide Try.prog W .any base t v := hval0
  have hW' := hW
  obtain ⟨p, q, hA0, hV, rfl, hfz, hnd⟩ := hW
  have hA : DataW.TrodAll enc Try.prog W 0 (fun _ => true) true Try.f6.params.toList args.toList ds p := hA0
  rw [Try.params6] at hA hval
  obtain ⟨v0, vs0, d0, ds0, p0, q0, hargs, rfl, rfl, t0, r0⟩ := trodAll_cons hA
  obtain ⟨v1, vs1, d1, ds1, p1, q1, rfl, rfl, rfl, t1, r1⟩ := trodAll_cons r0
  obtain ⟨rfl, rfl, rfl⟩ := trodAll_nil r1
  obtain rfl : args = #[v0, v1] := by cases args; simp_all
  obtain ⟨rfl, rfl⟩ := trodVars_none hV
  obtain ⟨l0, hs0, hu0⟩ := arg_nat Try.underlying23 Try.underlying30 cells_u (hval 0 23 v0 rfl rfl) t0
  obtain ⟨l1, hs1, hu1⟩ := arg_nat Try.underlying23 Try.underlying30 cells_u (hval 1 23 v1 rfl rfl) t1
  clear hA0 hval0
  simp only [List.append_nil] at hW'
  have hlt0 : ∀ x ∈ p0, x.block < W.heap.size := fun x hx => hW'.lt x (List.mem_append_left _ hx)
  have hlt1 : ∀ x ∈ p1, x.block < W.heap.size := fun x hx => hW'.lt x (List.mem_append_right _ (hx))
  refine (walk v0 l0 v1 l1 W hs0 hu0 hs1 hu1).mono fun e W' ⟨he, hb⟩ => ?_
  subst he
  have s0 := Below.trod laidOut (by kernel_rfl) (of_decide_eq_true (by kernel_rfl)) t0 hb hlt0
  have s1 := Below.trod laidOut (by kernel_rfl) (of_decide_eq_true (by kernel_rfl)) t1 hb hlt1
  exact ⟨_, rfl, _, _, _, [] ++ [], _, [], hW', trodAll_cons_mk (shut_bool Try.underlying4 _) trodAll_mk0, trodAll_cons_mk s0 (trodAll_cons_mk s1 (trodAll_mk0)), rfl, hb.frame _, fun h => by cases h⟩

theorem over : Rows.divideWholeRow.holds Try.pinned (OpenSpec.ofChange Rows.divideWholeSpec) :=
  OpenClaim.holds_of_wide 6 Try.f6 rfl rfl rfl rfl rfl rfl rfl ⟨rfl, rfl, rfl, rfl, rfl⟩ rfl rfl rfl rfl rfl (by kernel_rfl) Try.func6 (by kernel_rfl)
    (of_decide_eq_true (by kernel_rfl)) (by unfold Func.isWrapper; first | (rw [if_pos (by decide +kernel)]; kernel_rfl) | (rw [if_neg (by decide +kernel)]; exact ⟨rfl, rfl⟩))
    (fun os started H enc _ => lifted os started H enc)

/-- The statement. -/
theorem proved : Rows.DivideWholeSaid := over
end Go.Proofs.Ytcgmbmiingppgaa.divideWhole
