/- MulLaws: products may be put together in any order; products of sums are sums of products. Condition: the arguments can be read as data. -/
import Derived.Test.YtaipahooepnfpaaRefM
namespace Go.Proofs.Ytaipahooepnfpaa.mulLaws
open Go.ChangeShapes Go.WideShapes Go.ChangeAt Go.RowKit Go.Proofs.Ytaipahooepnfpaa.num Go.Proofs.Ytaipahooepnfpaa.mem Go.Proofs.Ytaipahooepnfpaa.nat
set_option linter.unusedVariables false

theorem own : ownKnob Try.prog.godebug = none := by kernel_rfl
theorem laidOut : laidOutB Try.prog = true := by kernel_rfl
theorem cells_u : Try.prog.cellsOf 29 = 1 := by kernel_rfl


set_option maxHeartbeats 6400000 in
set_option maxRecDepth 100000 in
/-- The walk: the Go text returns true; what was there is as it was. -/
theorem walk (v0 : Value) (l0 : List Nat) (v1 : Value) (l1 : List Nat) (v2 : Value) (l2 : List Nat) (w : World) (h0 : IsS w .u64 v0 l0) (u0 : Lt 18446744073709551616 l0) (h1 : IsS w .u64 v1 l1) (u1 : Lt 18446744073709551616 l1) (h2 : IsS w .u64 v2 l2) (u2 : Lt 18446744073709551616 l2) :
    Calls Try.prog 6 #[v0, v1, v2] w (RetV (.bool true) w) := by
  have B : Below w.heap.size w w := Below.refl _ _
  go_enter Try.func6, Try.ntmps6
  go_wp2_with fail
  refine (works3_any _).mono ?_
  rintro e w1 ⟨rfl, b1⟩
  replace B := B.trans (b1.mono B.size)
  go_wp2_with fail
  refine (clean_any v0 l0 _ 40 _ rfl (h0.below B) u0 (by omega)).mono ?_
  rintro e w2 ⟨c0, rfl, k_c0, f_c0, b2⟩
  replace B := B.trans (b2.mono B.size)
  obtain ⟨x, hxx⟩ : ∃ x, x = cleaned l0 40 := ⟨_, rfl⟩
  have mx := cleaned_len l0 40
  rw [← hxx] at k_c0 mx
  clear hxx
  go_wp2_with fail
  refine (clean_any v1 l1 _ 40 _ rfl (h1.below B) u1 (by omega)).mono ?_
  rintro e w3 ⟨c1, rfl, k_c1, f_c1, b3⟩
  replace B := B.trans (b3.mono B.size)
  replace k_c0 := k_c0.below b3
  obtain ⟨y, hxy⟩ : ∃ y, y = cleaned l1 40 := ⟨_, rfl⟩
  have my := cleaned_len l1 40
  rw [← hxy] at k_c1 my
  clear hxy
  go_wp2_with fail
  refine (clean_any v2 l2 _ 40 _ rfl (h2.below B) u2 (by omega)).mono ?_
  rintro e w4 ⟨c2, rfl, k_c2, f_c2, b4⟩
  replace B := B.trans (b4.mono B.size)
  replace k_c0 := k_c0.below b4
  replace k_c1 := k_c1.below b4
  obtain ⟨z, hxz⟩ : ∃ z, z = cleaned l2 40 := ⟨_, rfl⟩
  have mz := cleaned_len l2 40
  rw [← hxz] at k_c2 mz
  clear hxz
  have n1 := mul_len x y
  have n2 := mul_len (x * y) z
  have n3 := mul_len z y
  have n4 := mul_len z x
  have n5 := add_len y z
  have n6 := mul_len x (y + z)
  obtain ⟨q, hq⟩ : ∃ q, q = x * y * z := ⟨_, rfl⟩
  have HQ : Hid (q = x * (z * y)) := by show _ = _; rw [hq, Nat.mul_assoc, Nat.mul_comm y z]
  obtain ⟨r, hr⟩ : ∃ r, r = x * (y + z) := ⟨_, rfl⟩
  have HR : Hid (r = x * y + z * x) := by show _ = _; rw [hr, Nat.mul_add, Nat.mul_comm x z]
  have HXY : Hid (x * y = y * x) := Nat.mul_comm _ _
  have HQ0 := Lib.hid hq
  have HR0 := Lib.hid hr
  rw [← hq] at n2
  rw [← hr] at n6
  clear hq hr
  go_wp2_with fail
  refine (mul_any _ _ x y _ k_c0 k_c1 (by omega) (by omega) (x * y) rfl).mono ?_
  rintro e w5 ⟨a1, rfl, k_a1, f_a1, b5⟩
  replace B := B.trans (b5.mono B.size)
  replace k_c0 := k_c0.below b5
  replace k_c1 := k_c1.below b5
  replace k_c2 := k_c2.below b5
  go_wp2_with fail
  refine (mul_any _ _ (x * y) z _ k_a1 k_c2 (by omega) (by omega) q HQ0.out).mono ?_
  rintro e w6 ⟨one, rfl, k_one, f_one, b6⟩
  replace B := B.trans (b6.mono B.size)
  replace k_c0 := k_c0.below b6
  replace k_c1 := k_c1.below b6
  replace k_c2 := k_c2.below b6
  replace k_a1 := k_a1.below b6
  go_wp2_with fail
  refine (mul_any _ _ z y _ k_c2 k_c1 (by omega) (by omega) (z * y) rfl).mono ?_
  rintro e w7 ⟨a2, rfl, k_a2, f_a2, b7⟩
  replace B := B.trans (b7.mono B.size)
  replace k_c0 := k_c0.below b7
  replace k_c1 := k_c1.below b7
  replace k_c2 := k_c2.below b7
  replace k_a1 := k_a1.below b7
  replace k_one := k_one.below b7
  go_wp2_with fail
  refine (mul_any _ _ x (z * y) _ k_c0 k_a2 (by omega) (by omega) q HQ.out).mono ?_
  rintro e w8 ⟨two, rfl, k_two, f_two, b8⟩
  replace B := B.trans (b8.mono B.size)
  replace k_c0 := k_c0.below b8
  replace k_c1 := k_c1.below b8
  replace k_c2 := k_c2.below b8
  replace k_a1 := k_a1.below b8
  replace k_one := k_one.below b8
  replace k_a2 := k_a2.below b8
  go_wp2_with fail
  refine (add_any _ _ y z _ k_c1 k_c2 (y + z) rfl (by omega)).mono ?_
  rintro e w9 ⟨a3, rfl, k_a3, f_a3, b9⟩
  replace B := B.trans (b9.mono B.size)
  replace k_c0 := k_c0.below b9
  replace k_c1 := k_c1.below b9
  replace k_c2 := k_c2.below b9
  replace k_a1 := k_a1.below b9
  replace k_one := k_one.below b9
  replace k_a2 := k_a2.below b9
  replace k_two := k_two.below b9
  go_wp2_with fail
  refine (mul_any _ _ x (y + z) _ k_c0 k_a3 (by omega) (by omega) r HR0.out).mono ?_
  rintro e w10 ⟨sum, rfl, k_sum, f_sum, b10⟩
  replace B := B.trans (b10.mono B.size)
  replace k_c0 := k_c0.below b10
  replace k_c1 := k_c1.below b10
  replace k_c2 := k_c2.below b10
  replace k_a1 := k_a1.below b10
  replace k_one := k_one.below b10
  replace k_a2 := k_a2.below b10
  replace k_two := k_two.below b10
  replace k_a3 := k_a3.below b10
  go_wp2_with fail
  refine (mul_any _ _ x y _ k_c0 k_c1 (by omega) (by omega) (x * y) rfl).mono ?_
  rintro e w11 ⟨a4, rfl, k_a4, f_a4, b11⟩
  replace B := B.trans (b11.mono B.size)
  replace k_c0 := k_c0.below b11
  replace k_c1 := k_c1.below b11
  replace k_c2 := k_c2.below b11
  replace k_a1 := k_a1.below b11
  replace k_one := k_one.below b11
  replace k_a2 := k_a2.below b11
  replace k_two := k_two.below b11
  replace k_a3 := k_a3.below b11
  replace k_sum := k_sum.below b11
  go_wp2_with fail
  refine (mul_any _ _ z x _ k_c2 k_c0 (by omega) (by omega) (z * x) rfl).mono ?_
  rintro e w12 ⟨a5, rfl, k_a5, f_a5, b12⟩
  replace B := B.trans (b12.mono B.size)
  replace k_c0 := k_c0.below b12
  replace k_c1 := k_c1.below b12
  replace k_c2 := k_c2.below b12
  replace k_a1 := k_a1.below b12
  replace k_one := k_one.below b12
  replace k_a2 := k_a2.below b12
  replace k_two := k_two.below b12
  replace k_a3 := k_a3.below b12
  replace k_sum := k_sum.below b12
  replace k_a4 := k_a4.below b12
  go_wp2_with fail
  refine (add_any _ _ (x * y) (z * x) _ k_a4 k_a5 r HR.out (by omega)).mono ?_
  rintro e w13 ⟨parts, rfl, k_parts, f_parts, b13⟩
  replace B := B.trans (b13.mono B.size)
  replace k_c0 := k_c0.below b13
  replace k_c1 := k_c1.below b13
  replace k_c2 := k_c2.below b13
  replace k_a1 := k_a1.below b13
  replace k_one := k_one.below b13
  replace k_a2 := k_a2.below b13
  replace k_two := k_two.below b13
  replace k_a3 := k_a3.below b13
  replace k_sum := k_sum.below b13
  replace k_a4 := k_a4.below b13
  replace k_a5 := k_a5.below b13
  go_wp2_with fail
  refine (same_one _ _ q _ k_one k_two).mono ?_
  rintro e w14 ⟨rfl, b14⟩
  replace B := B.trans (b14.mono B.size)
  replace k_c0 := k_c0.below b14
  replace k_c1 := k_c1.below b14
  replace k_c2 := k_c2.below b14
  replace k_a1 := k_a1.below b14
  replace k_one := k_one.below b14
  replace k_a2 := k_a2.below b14
  replace k_two := k_two.below b14
  replace k_a3 := k_a3.below b14
  replace k_sum := k_sum.below b14
  replace k_a4 := k_a4.below b14
  replace k_a5 := k_a5.below b14
  replace k_parts := k_parts.below b14
  go_wp2_with fail
  refine (same_one _ _ r _ k_sum k_parts).mono ?_
  rintro e w15 ⟨rfl, b15⟩
  replace B := B.trans (b15.mono B.size)
  replace k_c0 := k_c0.below b15
  replace k_c1 := k_c1.below b15
  replace k_c2 := k_c2.below b15
  replace k_a1 := k_a1.below b15
  replace k_one := k_one.below b15
  replace k_a2 := k_a2.below b15
  replace k_two := k_two.below b15
  replace k_a3 := k_a3.below b15
  replace k_sum := k_sum.below b15
  replace k_a4 := k_a4.below b15
  replace k_a5 := k_a5.below b15
  replace k_parts := k_parts.below b15
  go_wp2_with fail
  refine (short_any _ _ x y _ k_c0 k_c1 (by omega) (by omega) (x * y) rfl).mono ?_
  rintro e w16 ⟨a6, rfl, k_a6, f_a6, b16⟩
  replace B := B.trans (b16.mono B.size)
  replace k_c0 := k_c0.below b16
  replace k_c1 := k_c1.below b16
  replace k_c2 := k_c2.below b16
  replace k_a1 := k_a1.below b16
  replace k_one := k_one.below b16
  replace k_a2 := k_a2.below b16
  replace k_two := k_two.below b16
  replace k_a3 := k_a3.below b16
  replace k_sum := k_sum.below b16
  replace k_a4 := k_a4.below b16
  replace k_a5 := k_a5.below b16
  replace k_parts := k_parts.below b16
  go_wp2_with fail
  refine (long_any _ _ y x _ k_c1 k_c0 (by omega) (by omega) (x * y) HXY.out).mono ?_
  rintro e w17 ⟨a7, rfl, k_a7, f_a7, b17⟩
  replace B := B.trans (b17.mono B.size)
  replace k_c0 := k_c0.below b17
  replace k_c1 := k_c1.below b17
  replace k_c2 := k_c2.below b17
  replace k_a1 := k_a1.below b17
  replace k_one := k_one.below b17
  replace k_a2 := k_a2.below b17
  replace k_two := k_two.below b17
  replace k_a3 := k_a3.below b17
  replace k_sum := k_sum.below b17
  replace k_a4 := k_a4.below b17
  replace k_a5 := k_a5.below b17
  replace k_parts := k_parts.below b17
  replace k_a6 := k_a6.below b17
  go_wp2_with fail
  refine (same_one _ _ (x * y) _ k_a6 k_a7).mono ?_
  rintro e w18 ⟨rfl, b18⟩
  replace B := B.trans (b18.mono B.size)
  replace k_c0 := k_c0.below b18
  replace k_c1 := k_c1.below b18
  replace k_c2 := k_c2.below b18
  replace k_a1 := k_a1.below b18
  replace k_one := k_one.below b18
  replace k_a2 := k_a2.below b18
  replace k_two := k_two.below b18
  replace k_a3 := k_a3.below b18
  replace k_sum := k_sum.below b18
  replace k_a4 := k_a4.below b18
  replace k_a5 := k_a5.below b18
  replace k_parts := k_parts.below b18
  replace k_a6 := k_a6.below b18
  replace k_a7 := k_a7.below b18
  go_wp2_with fail
  refine (may_any _ _ _ k_one (digs_lt_u _)).mono ?_
  rintro e w19 ⟨rfl, rfl⟩
  rw [mayB_digs]
  go_wp2
  go_ret
  exact ⟨rfl, B⟩

set_option maxRecDepth 100000 in
theorem lifted (os : Os) (started : os.Started) (H : Type) (enc : TypeId × Value → H) :
    ReturnsInHanded {} Try.checked os 6 .any (Rows.mulLawsSpec.pre6 enc Try.prog Try.f6 Rows.mulLawsRow.domain false) (Rows.mulLawsSpec.post enc Try.prog Try.f6 false true false false) := by
  refine returnsInHanded_of_change (C := Try.checked) own started (by kernel_rfl) Try.func6
    (ChangeSpec.witness6 (enc := enc) (C := Try.checked) false ⟨#[], #[.slice none 0 0, .slice none 0 0, .slice none 0 0], []⟩ 8 (by kernel_rfl) (by kernel_rfl) (by kernel_rfl) (by kernel_rfl)) ?_
  intro W base args ds gs before hval0 hW hcnd _
  have hval : ∀ (j : Nat) t v, Try.f6.params[j]? = some t → args[j]? = some v → Value.okWide Try.prog W .any base t v := hval0
  have hW' := hW
  obtain ⟨p, q, hA0, hV, rfl, hfz, hnd⟩ := hW
  have hA : DataW.TrodAll enc Try.prog W 0 (fun _ => true) true Try.f6.params.toList args.toList ds p := hA0
  rw [Try.params6] at hA hval
  obtain ⟨v0, vs0, d0, ds0, p0, q0, hargs, rfl, rfl, t0, r0⟩ := trodAll_cons hA
  obtain ⟨v1, vs1, d1, ds1, p1, q1, rfl, rfl, rfl, t1, r1⟩ := trodAll_cons r0
  obtain ⟨v2, vs2, d2, ds2, p2, q2, rfl, rfl, rfl, t2, r2⟩ := trodAll_cons r1
  obtain ⟨rfl, rfl, rfl⟩ := trodAll_nil r2
  obtain rfl : args = #[v0, v1, v2] := by cases args; simp_all
  obtain ⟨rfl, rfl⟩ := trodVars_none hV
  obtain ⟨l0, hs0, hu0⟩ := arg_nat Try.underlying23 Try.underlying29 cells_u (hval 0 23 v0 rfl rfl) t0
  obtain ⟨l1, hs1, hu1⟩ := arg_nat Try.underlying23 Try.underlying29 cells_u (hval 1 23 v1 rfl rfl) t1
  obtain ⟨l2, hs2, hu2⟩ := arg_nat Try.underlying23 Try.underlying29 cells_u (hval 2 23 v2 rfl rfl) t2
  clear hA0 hval0
  simp only [List.append_nil] at hW'
  have hlt0 : ∀ x ∈ p0, x.block < W.heap.size := fun x hx => hW'.lt x (List.mem_append_left _ hx)
  have hlt1 : ∀ x ∈ p1, x.block < W.heap.size := fun x hx => hW'.lt x (List.mem_append_right _ (List.mem_append_left _ hx))
  have hlt2 : ∀ x ∈ p2, x.block < W.heap.size := fun x hx => hW'.lt x (List.mem_append_right _ (List.mem_append_right _ (hx)))
  refine (walk v0 l0 v1 l1 v2 l2 W hs0 hu0 hs1 hu1 hs2 hu2).mono fun e W' ⟨he, hb⟩ => ?_
  subst he
  have s0 := Below.trod laidOut (by kernel_rfl) (of_decide_eq_true (by kernel_rfl)) t0 hb hlt0
  have s1 := Below.trod laidOut (by kernel_rfl) (of_decide_eq_true (by kernel_rfl)) t1 hb hlt1
  have s2 := Below.trod laidOut (by kernel_rfl) (of_decide_eq_true (by kernel_rfl)) t2 hb hlt2
  exact ⟨_, rfl, _, _, _, [] ++ [], _, [], hW', trodAll_cons_mk (shut_bool Try.underlying4 _) trodAll_mk0, trodAll_cons_mk s0 (trodAll_cons_mk s1 (trodAll_cons_mk s2 (trodAll_mk0))), rfl, hb.frame _, fun h => by cases h⟩

theorem over : Rows.mulLawsRow.holds Try.pinned (OpenSpec.ofChange Rows.mulLawsSpec) :=
  OpenClaim.holds_of_wide 6 Try.f6 rfl rfl rfl rfl rfl rfl rfl ⟨rfl, rfl, rfl, rfl, rfl⟩ rfl rfl rfl rfl rfl (by kernel_rfl) Try.func6 (by kernel_rfl)
    (of_decide_eq_true (by kernel_rfl)) (by unfold Func.isWrapper; first | (rw [if_pos (by decide +kernel)]; kernel_rfl) | (rw [if_neg (by decide +kernel)]; exact ⟨rfl, rfl⟩))
    (fun os started H enc _ => lifted os started H enc)

/-- The statement. -/
theorem proved : Rows.MulLawsSaid := over
end Go.Proofs.Ytaipahooepnfpaa.mulLaws
