/- The law NatAdds returns true for any three lists of limbs: nat.Cmp, nat.Add and nat.Sum answer as the document's own numbers do. No condition. -/
import Derived.Test.YtidmiimadaidjaaLawW
namespace Go.Proofs.Ytidmiimadaidjaa.natAdds
open Go.ChangeShapes Go.WideShapes Go.ChangeAt Go.RowKit Go.Proofs.Ytidmiimadaidjaa.num Go.Proofs.Ytidmiimadaidjaa.mem Go.Proofs.Ytidmiimadaidjaa.nat
set_option linter.unusedVariables false

theorem own : ownKnob Try.prog.godebug = none := by kernel_rfl
theorem laidOut : laidOutB Try.prog = true := by kernel_rfl
theorem cells_u : Try.prog.cellsOf 23 = 1 := by kernel_rfl


set_option maxHeartbeats 6400000 in
set_option maxRecDepth 100000 in
/-- The walk: the Go text returns true; what was there is as it was. -/
theorem walk (v0 : Value) (l0 : List Nat) (v1 : Value) (l1 : List Nat) (v2 : Value) (l2 : List Nat) (w : World) (h0 : IsS w .u64 v0 l0) (u0 : Lt 18446744073709551616 l0) (h1 : IsS w .u64 v1 l1) (u1 : Lt 18446744073709551616 l1) (h2 : IsS w .u64 v2 l2) (u2 : Lt 18446744073709551616 l2) :
    Calls Try.prog 4 #[v0, v1, v2] w (RetV (.bool true) w) := by
  have B : Below w.heap.size w w := Below.refl _ _
  go_enter Try.func4, Try.ntmps4
  go_wp2_with fail
  refine (clean_any v0 l0 _ 24 _ rfl (h0.below B) u0 (by omega)).mono ?_
  rintro e w1 ⟨c0, rfl, k_c0, f_c0, b1⟩
  replace B := B.trans (b1.mono B.size)
  obtain ⟨x, hxx⟩ : ∃ x, x = cleaned l0 24 := ⟨_, rfl⟩
  have zx := cleaned_sz l0
  rw [← hxx] at k_c0 zx
  clear hxx
  have dx := dec_len x
  have mx := limb_len x
  go_wp2_with fail
  refine (clean_any v1 l1 _ 24 _ rfl (h1.below B) u1 (by omega)).mono ?_
  rintro e w2 ⟨c1, rfl, k_c1, f_c1, b2⟩
  replace B := B.trans (b2.mono B.size)
  replace k_c0 := k_c0.below b2
  obtain ⟨y, hxy⟩ : ∃ y, y = cleaned l1 24 := ⟨_, rfl⟩
  have zy := cleaned_sz l1
  rw [← hxy] at k_c1 zy
  clear hxy
  have dy := dec_len y
  have my := limb_len y
  go_wp2_with fail
  refine (clean_any v2 l2 _ 24 _ rfl (h2.below B) u2 (by omega)).mono ?_
  rintro e w3 ⟨c2, rfl, k_c2, f_c2, b3⟩
  replace B := B.trans (b3.mono B.size)
  replace k_c0 := k_c0.below b3
  replace k_c1 := k_c1.below b3
  obtain ⟨z, hxz⟩ : ∃ z, z = cleaned l2 24 := ⟨_, rfl⟩
  have zz := cleaned_sz l2
  rw [← hxz] at k_c2 zz
  clear hxz
  have dz := dec_len z
  have mz := limb_len z
  go_wp2_with fail
  refine (refOf_any _ x _ k_c0 (by omega)).mono ?_
  rintro e w4 ⟨o0, rfl, k_o0, f_o0, b4⟩
  replace B := B.trans (b4.mono B.size)
  replace k_c0 := k_c0.below b4
  replace k_c1 := k_c1.below b4
  replace k_c2 := k_c2.below b4
  go_wp2_with fail
  refine (refOf_any _ y _ k_c1 (by omega)).mono ?_
  rintro e w5 ⟨o1, rfl, k_o1, f_o1, b5⟩
  replace B := B.trans (b5.mono B.size)
  replace k_c0 := k_c0.below b5
  replace k_c1 := k_c1.below b5
  replace k_c2 := k_c2.below b5
  replace k_o0 := k_o0.below b5
  go_wp2_with fail
  refine (refOf_any _ z _ k_c2 (by omega)).mono ?_
  rintro e w6 ⟨o2, rfl, k_o2, f_o2, b6⟩
  replace B := B.trans (b6.mono B.size)
  replace k_c0 := k_c0.below b6
  replace k_c1 := k_c1.below b6
  replace k_c2 := k_c2.below b6
  replace k_o0 := k_o0.below b6
  replace k_o1 := k_o1.below b6
  obtain ⟨t, ht⟩ : ∃ t, t = ord x y := ⟨_, rfl⟩
  have HT := Lib.hid ht
  clear ht
  have n1 := nbits_add x y
  have n2 := nbits_add (x + y) z
  have n3 := limb_len (x + y)
  have n4 := limb_len (x + y + z)
  have n5 := dec_len (x + y)
  have n6 := dec_len (x + y + z)
  have HSum : Hid ([x, y, z].sum = x + y + z) := by show _ = _; simp; omega
  go_wp2_with fail
  refine (cmp_any _ _ x y t _ k_c0 k_c1 HT.out).mono ?_
  rintro e w7 ⟨rfl, b7⟩
  replace B := B.trans (b7.mono B.size)
  replace k_c0 := k_c0.below b7
  replace k_c1 := k_c1.below b7
  replace k_c2 := k_c2.below b7
  replace k_o0 := k_o0.below b7
  replace k_o1 := k_o1.below b7
  replace k_o2 := k_o2.below b7
  go_wp2_with fail
  refine (refCmp_at _ _ x y t _ k_o0 k_o1 HT.out).mono ?_
  rintro e w8 ⟨rfl, b8⟩
  replace B := B.trans (b8.mono B.size)
  replace k_c0 := k_c0.below b8
  replace k_c1 := k_c1.below b8
  replace k_c2 := k_c2.below b8
  replace k_o0 := k_o0.below b8
  replace k_o1 := k_o1.below b8
  replace k_o2 := k_o2.below b8
  go_wp2_with fail
  refine (add_any _ _ x y _ k_c0 k_c1 (x + y) rfl (by omega)).mono ?_
  rintro e w9 ⟨s1, rfl, k_s1, f_s1, b9⟩
  replace B := B.trans (b9.mono B.size)
  replace k_c0 := k_c0.below b9
  replace k_c1 := k_c1.below b9
  replace k_c2 := k_c2.below b9
  replace k_o0 := k_o0.below b9
  replace k_o1 := k_o1.below b9
  replace k_o2 := k_o2.below b9
  go_wp2_with fail
  refine (refAdd_any _ _ x y _ k_o0 k_o1 (by omega) (by omega)).mono ?_
  rintro e w10 ⟨r1, rfl, k_r1, f_r1, b10⟩
  replace B := B.trans (b10.mono B.size)
  replace k_c0 := k_c0.below b10
  replace k_c1 := k_c1.below b10
  replace k_c2 := k_c2.below b10
  replace k_o0 := k_o0.below b10
  replace k_o1 := k_o1.below b10
  replace k_o2 := k_o2.below b10
  replace k_s1 := k_s1.below b10
  go_wp2_with fail
  refine (refBack_any _ (x + y) _ k_r1 (by omega) (by omega)).mono ?_
  rintro e w11 ⟨p1, rfl, k_p1, f_p1, b11⟩
  replace B := B.trans (b11.mono B.size)
  replace k_c0 := k_c0.below b11
  replace k_c1 := k_c1.below b11
  replace k_c2 := k_c2.below b11
  replace k_o0 := k_o0.below b11
  replace k_o1 := k_o1.below b11
  replace k_o2 := k_o2.below b11
  replace k_s1 := k_s1.below b11
  replace k_r1 := k_r1.below b11
  go_wp2_with fail
  refine (same_one _ _ (x + y) _ k_s1 k_p1).mono ?_
  rintro e w12 ⟨rfl, b12⟩
  replace B := B.trans (b12.mono B.size)
  replace k_c0 := k_c0.below b12
  replace k_c1 := k_c1.below b12
  replace k_c2 := k_c2.below b12
  replace k_o0 := k_o0.below b12
  replace k_o1 := k_o1.below b12
  replace k_o2 := k_o2.below b12
  replace k_s1 := k_s1.below b12
  replace k_r1 := k_r1.below b12
  replace k_p1 := k_p1.below b12
  obtain ⟨A0, e0, rfl, _⟩ := id k_c0
  obtain ⟨A1, e1, rfl, _⟩ := id k_c1
  obtain ⟨A2, e2, rfl, _⟩ := id k_c2
  go_wp2_with fail
  refine (sum_any _ [_, _, _] [x, y, z] _ (isV_lit w12 24 [_, _, _]) (nums3 (k_c0.below (below_alloc (Nat.le_refl _) _)) (k_c1.below (below_alloc (Nat.le_refl _) _)) (k_c2.below (below_alloc (Nat.le_refl _) _))) (by simp) (by rw [HSum.out]; omega)).mono ?_
  rintro e w13 ⟨s3, rfl, k_s3, f_s3, b13⟩
  rw [HSum.out] at k_s3
  replace b13 := Below.trans (below_alloc (Nat.le_refl w12.heap.size) _) (b13.mono (by simp))
  replace B := B.trans (b13.mono B.size)
  replace k_c0 := k_c0.below b13
  replace k_c1 := k_c1.below b13
  replace k_c2 := k_c2.below b13
  replace k_o0 := k_o0.below b13
  replace k_o1 := k_o1.below b13
  replace k_o2 := k_o2.below b13
  replace k_s1 := k_s1.below b13
  replace k_r1 := k_r1.below b13
  replace k_p1 := k_p1.below b13
  go_wp2_with fail
  refine (refAdd_any _ _ x y _ k_o0 k_o1 (by omega) (by omega)).mono ?_
  rintro e w14 ⟨r2, rfl, k_r2, f_r2, b14⟩
  replace B := B.trans (b14.mono B.size)
  replace k_c0 := k_c0.below b14
  replace k_c1 := k_c1.below b14
  replace k_c2 := k_c2.below b14
  replace k_o0 := k_o0.below b14
  replace k_o1 := k_o1.below b14
  replace k_o2 := k_o2.below b14
  replace k_s1 := k_s1.below b14
  replace k_r1 := k_r1.below b14
  replace k_p1 := k_p1.below b14
  replace k_s3 := k_s3.below b14
  go_wp2_with fail
  refine (refAdd_any _ _ (x + y) z _ k_r2 k_o2 (by omega) (by omega)).mono ?_
  rintro e w15 ⟨r3, rfl, k_r3, f_r3, b15⟩
  replace B := B.trans (b15.mono B.size)
  replace k_c0 := k_c0.below b15
  replace k_c1 := k_c1.below b15
  replace k_c2 := k_c2.below b15
  replace k_o0 := k_o0.below b15
  replace k_o1 := k_o1.below b15
  replace k_o2 := k_o2.below b15
  replace k_s1 := k_s1.below b15
  replace k_r1 := k_r1.below b15
  replace k_p1 := k_p1.below b15
  replace k_s3 := k_s3.below b15
  replace k_r2 := k_r2.below b15
  go_wp2_with fail
  refine (refBack_any _ (x + y + z) _ k_r3 (by omega) (by omega)).mono ?_
  rintro e w16 ⟨p2, rfl, k_p2, f_p2, b16⟩
  replace B := B.trans (b16.mono B.size)
  replace k_c0 := k_c0.below b16
  replace k_c1 := k_c1.below b16
  replace k_c2 := k_c2.below b16
  replace k_o0 := k_o0.below b16
  replace k_o1 := k_o1.below b16
  replace k_o2 := k_o2.below b16
  replace k_s1 := k_s1.below b16
  replace k_r1 := k_r1.below b16
  replace k_p1 := k_p1.below b16
  replace k_s3 := k_s3.below b16
  replace k_r2 := k_r2.below b16
  replace k_r3 := k_r3.below b16
  go_wp2_with fail
  refine (same_one _ _ (x + y + z) _ k_s3 k_p2).mono ?_
  rintro e w17 ⟨rfl, b17⟩
  replace B := B.trans (b17.mono B.size)
  replace k_c0 := k_c0.below b17
  replace k_c1 := k_c1.below b17
  replace k_c2 := k_c2.below b17
  replace k_o0 := k_o0.below b17
  replace k_o1 := k_o1.below b17
  replace k_o2 := k_o2.below b17
  replace k_s1 := k_s1.below b17
  replace k_r1 := k_r1.below b17
  replace k_p1 := k_p1.below b17
  replace k_s3 := k_s3.below b17
  replace k_r2 := k_r2.below b17
  replace k_r3 := k_r3.below b17
  replace k_p2 := k_p2.below b17
  go_wp2_with fail
  refine (sum_any _ [] [] _ ⟨none, 0, rfl, by simp, fun i u hu => by simp at hu⟩ ⟨rfl, fun i u x hu hx => by simp at hu⟩ (by simp) (by simp [digs_zero])).mono ?_
  rintro e w18 ⟨s4, rfl, k_s4, f_s4, b18⟩
  replace B := B.trans (b18.mono B.size)
  replace k_c0 := k_c0.below b18
  replace k_c1 := k_c1.below b18
  replace k_c2 := k_c2.below b18
  replace k_o0 := k_o0.below b18
  replace k_o1 := k_o1.below b18
  replace k_o2 := k_o2.below b18
  replace k_s1 := k_s1.below b18
  replace k_r1 := k_r1.below b18
  replace k_p1 := k_p1.below b18
  replace k_s3 := k_s3.below b18
  replace k_r2 := k_r2.below b18
  replace k_r3 := k_r3.below b18
  replace k_p2 := k_p2.below b18
  rw [List.sum_nil, digs_zero] at k_s4
  obtain ⟨A4, e4, rfl, _⟩ := id k_s4
  go_wp2_with fail
  refine (works_any _).mono ?_
  rintro e w19 ⟨rfl, b19⟩
  replace B := B.trans (b19.mono B.size)
  replace k_c0 := k_c0.below b19
  replace k_c1 := k_c1.below b19
  replace k_c2 := k_c2.below b19
  replace k_o0 := k_o0.below b19
  replace k_o1 := k_o1.below b19
  replace k_o2 := k_o2.below b19
  replace k_s1 := k_s1.below b19
  replace k_r1 := k_r1.below b19
  replace k_p1 := k_p1.below b19
  replace k_s3 := k_s3.below b19
  replace k_r2 := k_r2.below b19
  replace k_r3 := k_r3.below b19
  replace k_p2 := k_p2.below b19
  replace k_s4 := k_s4.below b19
  go_wp2
  go_ret
  exact ⟨rfl, B⟩

set_option maxRecDepth 100000 in
theorem lifted (os : Os) (started : os.Started) (H : Type) (enc : TypeId × Value → H) :
    ReturnsInHanded {} Try.checked os 4 .any (Rows.natAddsSpec.pre6 enc Try.prog Try.f4 Rows.natAddsRow.domain false) (Rows.natAddsSpec.post enc Try.prog Try.f4 false true false false) := by
  refine returnsInHanded_of_change (C := Try.checked) own started (by kernel_rfl) Try.func4
    (ChangeSpec.witness6 (enc := enc) (C := Try.checked) false ⟨#[], #[.slice none 0 0, .slice none 0 0, .slice none 0 0], []⟩ 8 (by kernel_rfl) (by kernel_rfl) (by kernel_rfl) (by kernel_rfl)) ?_
  intro W base args ds gs before hval0 hW hcnd _
  have hval : ∀ (j : Nat) t v, Try.f4.params[j]? = some t → args[j]? = some v → Value.okWide Try.prog W .any base t v := hval0
  have hW' := hW
  obtain ⟨p, q, hA0, hV, rfl, hfz, hnd⟩ := hW
  have hA : DataW.TrodAll enc Try.prog W 0 (fun _ => true) true Try.f4.params.toList args.toList ds p := hA0
  rw [Try.params4] at hA hval
  obtain ⟨v0, vs0, d0, ds0, p0, q0, hargs, rfl, rfl, t0, r0⟩ := trodAll_cons hA
  obtain ⟨v1, vs1, d1, ds1, p1, q1, rfl, rfl, rfl, t1, r1⟩ := trodAll_cons r0
  obtain ⟨v2, vs2, d2, ds2, p2, q2, rfl, rfl, rfl, t2, r2⟩ := trodAll_cons r1
  obtain ⟨rfl, rfl, rfl⟩ := trodAll_nil r2
  obtain rfl : args = #[v0, v1, v2] := by cases args; simp_all
  obtain ⟨rfl, rfl⟩ := trodVars_none hV
  obtain ⟨l0, hs0, hu0⟩ := arg_nat Try.underlying24 Try.underlying23 cells_u (hval 0 24 v0 rfl rfl) t0
  obtain ⟨l1, hs1, hu1⟩ := arg_nat Try.underlying24 Try.underlying23 cells_u (hval 1 24 v1 rfl rfl) t1
  obtain ⟨l2, hs2, hu2⟩ := arg_nat Try.underlying24 Try.underlying23 cells_u (hval 2 24 v2 rfl rfl) t2
  clear hA0 hval0
  simp only [List.append_nil] at hW'
  have hlt0 : ∀ x ∈ p0, x.block < W.heap.size := fun x hx => hW'.lt x (List.mem_append_left _ hx)
  have hlt1 : ∀ x ∈ p1, x.block < W.heap.size := fun x hx => hW'.lt x (List.mem_append_right _ (List.mem_append_left _ hx))
  have hlt2 : ∀ x ∈ p2, x.block < W.heap.size := fun x hx => hW'.lt x (List.mem_append_right _ (List.mem_append_right _ (hx)))
  refine (walk v0 l0 v1 l1 v2 l2 W hs0 hu0 hs1 hu1 hs2 hu2).mono fun e W' ⟨he, hb⟩ => ?_
  subst he
  have s0 := Below.trod laidOut (by kernel_rfl) (of_decide_eq_true (by kernel_rfl)) t0 hb hlt0
  have s1 := Below.trod laidOut (by kernel_rfl) (of_decide_eq_true (by kernel_rfl)) t1 hb hlt1
  have s2 := Below.trod laidOut (by kernel_rfl) (of_decide_eq_true (by kernel_rfl)) t2 hb hlt2
  exact ⟨_, rfl, _, _, _, [] ++ [], _, [], hW', trodAll_cons_mk (shut_bool Try.underlying4 _) trodAll_mk0, trodAll_cons_mk s0 (trodAll_cons_mk s1 (trodAll_cons_mk s2 (trodAll_mk0))), rfl, hb.frame _, fun h => by cases h⟩

theorem over : Rows.natAddsRow.holds Try.pinned (OpenSpec.ofChange Rows.natAddsSpec) :=
  OpenClaim.holds_of_wide 4 Try.f4 rfl rfl rfl rfl rfl rfl rfl ⟨rfl, rfl, rfl, rfl, rfl⟩ rfl rfl rfl rfl rfl (by kernel_rfl) Try.func4 (by kernel_rfl)
    (of_decide_eq_true (by kernel_rfl)) (by unfold Func.isWrapper; first | (rw [if_pos (by decide +kernel)]; kernel_rfl) | (rw [if_neg (by decide +kernel)]; exact ⟨rfl, rfl⟩))
    (fun os started H enc _ => lifted os started H enc)

/-- The statement. -/
theorem proved : Rows.NatAddsSaid := over
end Go.Proofs.Ytidmiimadaidjaa.natAdds
