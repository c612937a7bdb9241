/- The law NatOrder returns true for any three lists of limbs: nat.Cmp is an order, and sums keep it. No condition. -/
import Derived.Test.YtidmiimadaidjaaLawW
namespace Go.Proofs.Ytidmiimadaidjaa.natOrder
open Go.ChangeShapes Go.WideShapes Go.ChangeAt Go.RowKit Go.Proofs.Ytidmiimadaidjaa.num Go.Proofs.Ytidmiimadaidjaa.mem Go.Proofs.Ytidmiimadaidjaa.nat
set_option linter.unusedVariables false

theorem own : ownKnob Try.prog.godebug = none := by kernel_rfl
theorem laidOut : laidOutB Try.prog = true := by kernel_rfl
theorem cells_u : Try.prog.cellsOf 23 = 1 := by kernel_rfl


set_option maxHeartbeats 6400000 in
set_option maxRecDepth 100000 in
/-- The walk: the Go text returns true; what was there is as it was. -/
theorem walk (v0 : Value) (l0 : List Nat) (v1 : Value) (l1 : List Nat) (v2 : Value) (l2 : List Nat) (w : World) (h0 : IsS w .u64 v0 l0) (u0 : Lt 18446744073709551616 l0) (h1 : IsS w .u64 v1 l1) (u1 : Lt 18446744073709551616 l1) (h2 : IsS w .u64 v2 l2) (u2 : Lt 18446744073709551616 l2) :
    Calls Try.prog 8 #[v0, v1, v2] w (RetV (.bool true) w) := by
  have B : Below w.heap.size w w := Below.refl _ _
  go_enter Try.func8, Try.ntmps8
  go_wp2_with fail
  refine (works_any _).mono ?_
  rintro e w1 ⟨rfl, b1⟩
  replace B := B.trans (b1.mono B.size)
  go_wp2_with fail
  refine (clean_any v0 l0 _ 24 _ rfl (h0.below B) u0 (by omega)).mono ?_
  rintro e w2 ⟨c0, rfl, k_c0, f_c0, b2⟩
  replace B := B.trans (b2.mono B.size)
  obtain ⟨x, hxx⟩ : ∃ x, x = cleaned l0 24 := ⟨_, rfl⟩
  have zx := cleaned_sz l0
  rw [← hxx] at k_c0 zx
  clear hxx
  have dx := dec_len x
  have mx := limb_len x
  go_wp2_with fail
  refine (clean_any v1 l1 _ 24 _ rfl (h1.below B) u1 (by omega)).mono ?_
  rintro e w3 ⟨c1, rfl, k_c1, f_c1, b3⟩
  replace B := B.trans (b3.mono B.size)
  replace k_c0 := k_c0.below b3
  obtain ⟨y, hxy⟩ : ∃ y, y = cleaned l1 24 := ⟨_, rfl⟩
  have zy := cleaned_sz l1
  rw [← hxy] at k_c1 zy
  clear hxy
  have dy := dec_len y
  have my := limb_len y
  go_wp2_with fail
  refine (clean_any v2 l2 _ 24 _ rfl (h2.below B) u2 (by omega)).mono ?_
  rintro e w4 ⟨c2, rfl, k_c2, f_c2, b4⟩
  replace B := B.trans (b4.mono B.size)
  replace k_c0 := k_c0.below b4
  replace k_c1 := k_c1.below b4
  obtain ⟨z, hxz⟩ : ∃ z, z = cleaned l2 24 := ⟨_, rfl⟩
  have zz := cleaned_sz l2
  rw [← hxz] at k_c2 zz
  clear hxz
  have dz := dec_len z
  have mz := limb_len z
  obtain ⟨t1, ht1⟩ : ∃ t, t = ord x y := ⟨_, rfl⟩
  have Ht1 := Lib.hid ht1
  have bdt1 := ord_bd x y
  rw [← ht1] at bdt1
  clear ht1
  go_wp2_with fail
  refine (cmp_any c0 c1 x y t1 _ k_c0 k_c1 Ht1.out).mono ?_
  rintro e w5 ⟨rfl, b5⟩
  replace B := B.trans (b5.mono B.size)
  replace k_c0 := k_c0.below b5
  replace k_c1 := k_c1.below b5
  replace k_c2 := k_c2.below b5
  obtain ⟨t2, ht2⟩ : ∃ t, t = ord y z := ⟨_, rfl⟩
  have Ht2 := Lib.hid ht2
  have bdt2 := ord_bd y z
  rw [← ht2] at bdt2
  clear ht2
  go_wp2_with fail
  refine (cmp_any c1 c2 y z t2 _ k_c1 k_c2 Ht2.out).mono ?_
  rintro e w6 ⟨rfl, b6⟩
  replace B := B.trans (b6.mono B.size)
  replace k_c0 := k_c0.below b6
  replace k_c1 := k_c1.below b6
  replace k_c2 := k_c2.below b6
  obtain ⟨t3, ht3⟩ : ∃ t, t = ord x z := ⟨_, rfl⟩
  have Ht3 := Lib.hid ht3
  have bdt3 := ord_bd x z
  rw [← ht3] at bdt3
  clear ht3
  go_wp2_with fail
  refine (cmp_any c0 c2 x z t3 _ k_c0 k_c2 Ht3.out).mono ?_
  rintro e w7 ⟨rfl, b7⟩
  replace B := B.trans (b7.mono B.size)
  replace k_c0 := k_c0.below b7
  replace k_c1 := k_c1.below b7
  replace k_c2 := k_c2.below b7
  go_wp2_with fail
  refine (cmp_any c1 c0 y x (-t1) _ k_c1 k_c0 (by rw [Ht1.out, ← ord_neg])).mono ?_
  rintro e w8 ⟨rfl, b8⟩
  replace B := B.trans (b8.mono B.size)
  replace k_c0 := k_c0.below b8
  replace k_c1 := k_c1.below b8
  replace k_c2 := k_c2.below b8
  have HS : Hid (ord (x + z) (y + z) = t1) := by show _ = _; rw [ord_add, Ht1.out]
  obtain ⟨b, hb⟩ : ∃ b, b = decide (x = y) := ⟨_, rfl⟩
  have HB : Hid (b = decide (x = y)) := hb
  have n1 := nbits_add x z
  have n2 := nbits_add y z
  have n3 := limb_len (x + z)
  have n4 := limb_len (y + z)
  have HC : Hid (t1 ≤ 0 → t2 ≤ 0 → t3 ≤ 0) := by
    intro q1 q2
    rw [Ht1.out, ord_le0] at q1
    rw [Ht2.out, ord_le0] at q2
    rw [Ht3.out, ord_le0]
    omega
  have hcase : (t1 = 0 ∧ b = true) ∨ (¬ t1 = 0 ∧ b = false) := by
    by_cases q : x = y
    · left; exact ⟨by rw [Ht1.out, q, ord_eq], by rw [hb]; simpa using q⟩
    · right; exact ⟨by rw [Ht1.out, ord_zero]; exact q, by rw [hb]; simpa using q⟩
  clear hb
  have he : (t1 == - -t1) = true := by simp
  have he2 : (t1 != - -t1) = false := by simp
  rcases hcase with ⟨rfl, rfl⟩ | ⟨q1, rfl⟩
  · skip
    go_wp2_with fail
    refine (same_num c0 c1 x y _ _ k_c0 k_c1 HB.out).mono ?_
    rintro e w9 ⟨rfl, b9⟩
    replace B := B.trans (b9.mono B.size)
    replace k_c0 := k_c0.below b9
    replace k_c1 := k_c1.below b9
    replace k_c2 := k_c2.below b9
    by_cases q4 : t2 ≤ 0
    · have q5 : t3 ≤ 0 := HC.out (by omega) q4
      go_wp2_with fail
      refine (add_any c0 c2 x z _ k_c0 k_c2 (x + z) rfl (by omega)).mono ?_
      rintro e w10 ⟨s1, rfl, k_s1, f_s1, b10⟩
      replace B := B.trans (b10.mono B.size)
      replace k_c0 := k_c0.below b10
      replace k_c1 := k_c1.below b10
      replace k_c2 := k_c2.below b10
      go_wp2_with fail
      refine (add_any c1 c2 y z _ k_c1 k_c2 (y + z) rfl (by omega)).mono ?_
      rintro e w11 ⟨s2, rfl, k_s2, f_s2, b11⟩
      replace B := B.trans (b11.mono B.size)
      replace k_c0 := k_c0.below b11
      replace k_c1 := k_c1.below b11
      replace k_c2 := k_c2.below b11
      replace k_s1 := k_s1.below b11
      go_wp2_with fail
      refine (cmp_any s1 s2 (x + z) (y + z) 0 _ k_s1 k_s2 HS.out.symm).mono ?_
      rintro e w12 ⟨rfl, b12⟩
      replace B := B.trans (b12.mono B.size)
      replace k_c0 := k_c0.below b12
      replace k_c1 := k_c1.below b12
      replace k_c2 := k_c2.below b12
      replace k_s1 := k_s1.below b12
      replace k_s2 := k_s2.below b12
      go_wp2
      go_ret
      exact ⟨rfl, B⟩
    · skip
      go_wp2_with fail
      refine (add_any c0 c2 x z _ k_c0 k_c2 (x + z) rfl (by omega)).mono ?_
      rintro e w10 ⟨s1, rfl, k_s1, f_s1, b10⟩
      replace B := B.trans (b10.mono B.size)
      replace k_c0 := k_c0.below b10
      replace k_c1 := k_c1.below b10
      replace k_c2 := k_c2.below b10
      go_wp2_with fail
      refine (add_any c1 c2 y z _ k_c1 k_c2 (y + z) rfl (by omega)).mono ?_
      rintro e w11 ⟨s2, rfl, k_s2, f_s2, b11⟩
      replace B := B.trans (b11.mono B.size)
      replace k_c0 := k_c0.below b11
      replace k_c1 := k_c1.below b11
      replace k_c2 := k_c2.below b11
      replace k_s1 := k_s1.below b11
      go_wp2_with fail
      refine (cmp_any s1 s2 (x + z) (y + z) 0 _ k_s1 k_s2 HS.out.symm).mono ?_
      rintro e w12 ⟨rfl, b12⟩
      replace B := B.trans (b12.mono B.size)
      replace k_c0 := k_c0.below b12
      replace k_c1 := k_c1.below b12
      replace k_c2 := k_c2.below b12
      replace k_s1 := k_s1.below b12
      replace k_s2 := k_s2.below b12
      go_wp2
      go_ret
      exact ⟨rfl, B⟩
  · have q2 : (t1 == 0) = false := by rw [beq_eq_false_iff_ne]; exact q1
    clear q1
    go_wp2_with fail
    refine (same_num c0 c1 x y _ _ k_c0 k_c1 HB.out).mono ?_
    rintro e w9 ⟨rfl, b9⟩
    replace B := B.trans (b9.mono B.size)
    replace k_c0 := k_c0.below b9
    replace k_c1 := k_c1.below b9
    replace k_c2 := k_c2.below b9
    by_cases q3 : t1 ≤ 0
    · by_cases q4 : t2 ≤ 0
      · have q5 : t3 ≤ 0 := HC.out q3 q4
        go_wp2_with fail
        refine (add_any c0 c2 x z _ k_c0 k_c2 (x + z) rfl (by omega)).mono ?_
        rintro e w10 ⟨s1, rfl, k_s1, f_s1, b10⟩
        replace B := B.trans (b10.mono B.size)
        replace k_c0 := k_c0.below b10
        replace k_c1 := k_c1.below b10
        replace k_c2 := k_c2.below b10
        go_wp2_with fail
        refine (add_any c1 c2 y z _ k_c1 k_c2 (y + z) rfl (by omega)).mono ?_
        rintro e w11 ⟨s2, rfl, k_s2, f_s2, b11⟩
        replace B := B.trans (b11.mono B.size)
        replace k_c0 := k_c0.below b11
        replace k_c1 := k_c1.below b11
        replace k_c2 := k_c2.below b11
        replace k_s1 := k_s1.below b11
        go_wp2_with fail
        refine (cmp_any s1 s2 (x + z) (y + z) t1 _ k_s1 k_s2 HS.out.symm).mono ?_
        rintro e w12 ⟨rfl, b12⟩
        replace B := B.trans (b12.mono B.size)
        replace k_c0 := k_c0.below b12
        replace k_c1 := k_c1.below b12
        replace k_c2 := k_c2.below b12
        replace k_s1 := k_s1.below b12
        replace k_s2 := k_s2.below b12
        go_wp2
        go_ret
        exact ⟨rfl, B⟩
      · skip
        go_wp2_with fail
        refine (add_any c0 c2 x z _ k_c0 k_c2 (x + z) rfl (by omega)).mono ?_
        rintro e w10 ⟨s1, rfl, k_s1, f_s1, b10⟩
        replace B := B.trans (b10.mono B.size)
        replace k_c0 := k_c0.below b10
        replace k_c1 := k_c1.below b10
        replace k_c2 := k_c2.below b10
        go_wp2_with fail
        refine (add_any c1 c2 y z _ k_c1 k_c2 (y + z) rfl (by omega)).mono ?_
        rintro e w11 ⟨s2, rfl, k_s2, f_s2, b11⟩
        replace B := B.trans (b11.mono B.size)
        replace k_c0 := k_c0.below b11
        replace k_c1 := k_c1.below b11
        replace k_c2 := k_c2.below b11
        replace k_s1 := k_s1.below b11
        go_wp2_with fail
        refine (cmp_any s1 s2 (x + z) (y + z) t1 _ k_s1 k_s2 HS.out.symm).mono ?_
        rintro e w12 ⟨rfl, b12⟩
        replace B := B.trans (b12.mono B.size)
        replace k_c0 := k_c0.below b12
        replace k_c1 := k_c1.below b12
        replace k_c2 := k_c2.below b12
        replace k_s1 := k_s1.below b12
        replace k_s2 := k_s2.below b12
        go_wp2
        go_ret
        exact ⟨rfl, B⟩
    · skip
      go_wp2_with fail
      refine (add_any c0 c2 x z _ k_c0 k_c2 (x + z) rfl (by omega)).mono ?_
      rintro e w10 ⟨s1, rfl, k_s1, f_s1, b10⟩
      replace B := B.trans (b10.mono B.size)
      replace k_c0 := k_c0.below b10
      replace k_c1 := k_c1.below b10
      replace k_c2 := k_c2.below b10
      go_wp2_with fail
      refine (add_any c1 c2 y z _ k_c1 k_c2 (y + z) rfl (by omega)).mono ?_
      rintro e w11 ⟨s2, rfl, k_s2, f_s2, b11⟩
      replace B := B.trans (b11.mono B.size)
      replace k_c0 := k_c0.below b11
      replace k_c1 := k_c1.below b11
      replace k_c2 := k_c2.below b11
      replace k_s1 := k_s1.below b11
      go_wp2_with fail
      refine (cmp_any s1 s2 (x + z) (y + z) t1 _ k_s1 k_s2 HS.out.symm).mono ?_
      rintro e w12 ⟨rfl, b12⟩
      replace B := B.trans (b12.mono B.size)
      replace k_c0 := k_c0.below b12
      replace k_c1 := k_c1.below b12
      replace k_c2 := k_c2.below b12
      replace k_s1 := k_s1.below b12
      replace k_s2 := k_s2.below b12
      go_wp2
      go_ret
      exact ⟨rfl, B⟩

set_option maxRecDepth 100000 in
theorem lifted (os : Os) (started : os.Started) (H : Type) (enc : TypeId × Value → H) :
    ReturnsInHanded {} Try.checked os 8 .any (Rows.natOrderSpec.pre6 enc Try.prog Try.f8 Rows.natOrderRow.domain false) (Rows.natOrderSpec.post enc Try.prog Try.f8 false true false false) := by
  refine returnsInHanded_of_change (C := Try.checked) own started (by kernel_rfl) Try.func8
    (ChangeSpec.witness6 (enc := enc) (C := Try.checked) false ⟨#[], #[.slice none 0 0, .slice none 0 0, .slice none 0 0], []⟩ 8 (by kernel_rfl) (by kernel_rfl) (by kernel_rfl) (by kernel_rfl)) ?_
  intro W base args ds gs before hval0 hW hcnd _
  have hval : ∀ (j : Nat) t v, Try.f8.params[j]? = some t → args[j]? = some v → Value.okWide Try.prog W .any base t v := hval0
  have hW' := hW
  obtain ⟨p, q, hA0, hV, rfl, hfz, hnd⟩ := hW
  have hA : DataW.TrodAll enc Try.prog W 0 (fun _ => true) true Try.f8.params.toList args.toList ds p := hA0
  rw [Try.params8] at hA hval
  obtain ⟨v0, vs0, d0, ds0, p0, q0, hargs, rfl, rfl, t0, r0⟩ := trodAll_cons hA
  obtain ⟨v1, vs1, d1, ds1, p1, q1, rfl, rfl, rfl, t1, r1⟩ := trodAll_cons r0
  obtain ⟨v2, vs2, d2, ds2, p2, q2, rfl, rfl, rfl, t2, r2⟩ := trodAll_cons r1
  obtain ⟨rfl, rfl, rfl⟩ := trodAll_nil r2
  obtain rfl : args = #[v0, v1, v2] := by cases args; simp_all
  obtain ⟨rfl, rfl⟩ := trodVars_none hV
  obtain ⟨l0, hs0, hu0⟩ := arg_nat Try.underlying24 Try.underlying23 cells_u (hval 0 24 v0 rfl rfl) t0
  obtain ⟨l1, hs1, hu1⟩ := arg_nat Try.underlying24 Try.underlying23 cells_u (hval 1 24 v1 rfl rfl) t1
  obtain ⟨l2, hs2, hu2⟩ := arg_nat Try.underlying24 Try.underlying23 cells_u (hval 2 24 v2 rfl rfl) t2
  clear hA0 hval0
  simp only [List.append_nil] at hW'
  have hlt0 : ∀ x ∈ p0, x.block < W.heap.size := fun x hx => hW'.lt x (List.mem_append_left _ hx)
  have hlt1 : ∀ x ∈ p1, x.block < W.heap.size := fun x hx => hW'.lt x (List.mem_append_right _ (List.mem_append_left _ hx))
  have hlt2 : ∀ x ∈ p2, x.block < W.heap.size := fun x hx => hW'.lt x (List.mem_append_right _ (List.mem_append_right _ (hx)))
  refine (walk v0 l0 v1 l1 v2 l2 W hs0 hu0 hs1 hu1 hs2 hu2).mono fun e W' ⟨he, hb⟩ => ?_
  subst he
  have s0 := Below.trod laidOut (by kernel_rfl) (of_decide_eq_true (by kernel_rfl)) t0 hb hlt0
  have s1 := Below.trod laidOut (by kernel_rfl) (of_decide_eq_true (by kernel_rfl)) t1 hb hlt1
  have s2 := Below.trod laidOut (by kernel_rfl) (of_decide_eq_true (by kernel_rfl)) t2 hb hlt2
  exact ⟨_, rfl, _, _, _, [] ++ [], _, [], hW', trodAll_cons_mk (shut_bool Try.underlying4 _) trodAll_mk0, trodAll_cons_mk s0 (trodAll_cons_mk s1 (trodAll_cons_mk s2 (trodAll_mk0))), rfl, hb.frame _, fun h => by cases h⟩

theorem over : Rows.natOrderRow.holds Try.pinned (OpenSpec.ofChange Rows.natOrderSpec) :=
  OpenClaim.holds_of_wide 8 Try.f8 rfl rfl rfl rfl rfl rfl rfl ⟨rfl, rfl, rfl, rfl, rfl⟩ rfl rfl rfl rfl rfl (by kernel_rfl) Try.func8 (by kernel_rfl)
    (of_decide_eq_true (by kernel_rfl)) (by unfold Func.isWrapper; first | (rw [if_pos (by decide +kernel)]; kernel_rfl) | (rw [if_neg (by decide +kernel)]; exact ⟨rfl, rfl⟩))
    (fun os started H enc _ => lifted os started H enc)

/-- The statement. -/
theorem proved : Rows.NatOrderSaid := over
end Go.Proofs.Ytidmiimadaidjaa.natOrder
