/- MulProducts: either way leads to one product, that of the document. Condition: the arguments can be read as data. -/
import Derived.Test.YtaipahooepnfpaaRefM
namespace Go.Proofs.Ytaipahooepnfpaa.mulProducts
open Go.ChangeShapes Go.WideShapes Go.ChangeAt Go.RowKit Go.Proofs.Ytaipahooepnfpaa.num Go.Proofs.Ytaipahooepnfpaa.mem Go.Proofs.Ytaipahooepnfpaa.nat
set_option linter.unusedVariables false

theorem own : ownKnob Try.prog.godebug = none := by kernel_rfl
theorem laidOut : laidOutB Try.prog = true := by kernel_rfl
theorem cells_u : Try.prog.cellsOf 29 = 1 := by kernel_rfl


set_option maxHeartbeats 6400000 in
set_option maxRecDepth 100000 in
/-- The walk: the Go text returns true; what was there is as it was. -/
theorem walk (v0 : Value) (l0 : List Nat) (v1 : Value) (l1 : List Nat) (w : World) (h0 : IsS w .u64 v0 l0) (u0 : Lt 18446744073709551616 l0) (h1 : IsS w .u64 v1 l1) (u1 : Lt 18446744073709551616 l1) :
    Calls Try.prog 3 #[v0, v1] w (RetV (.bool true) w) := by
  have B : Below w.heap.size w w := Below.refl _ _
  go_enter Try.func3, Try.ntmps3
  go_wp2_with fail
  refine (clean_any v0 l0 _ 20 _ rfl (h0.below B) u0 (by omega)).mono ?_
  rintro e w1 ⟨c0, rfl, k_c0, f_c0, b1⟩
  replace B := B.trans (b1.mono B.size)
  obtain ⟨x, hxx⟩ : ∃ x, x = cleaned l0 20 := ⟨_, rfl⟩
  have mx := cleaned_len l0 20
  rw [← hxx] at k_c0 mx
  clear hxx
  go_wp2_with fail
  refine (clean_any v1 l1 _ 20 _ rfl (h1.below B) u1 (by omega)).mono ?_
  rintro e w2 ⟨c1, rfl, k_c1, f_c1, b2⟩
  replace B := B.trans (b2.mono B.size)
  replace k_c0 := k_c0.below b2
  obtain ⟨y, hxy⟩ : ∃ y, y = cleaned l1 20 := ⟨_, rfl⟩
  have my := cleaned_len l1 20
  rw [← hxy] at k_c1 my
  clear hxy
  have n1 := mul_len x y
  have n2 := mul_len x x
  go_wp2_with fail
  refine (refProd_any _ _ x y _ k_c0 k_c1 (by omega) (by omega) (x * y) rfl).mono ?_
  rintro e w3 ⟨p, rfl, k_p, f_p, b3⟩
  replace B := B.trans (b3.mono B.size)
  replace k_c0 := k_c0.below b3
  replace k_c1 := k_c1.below b3
  go_wp2_with fail
  refine (long_any _ _ x y _ k_c0 k_c1 (by omega) (by omega) (x * y) rfl).mono ?_
  rintro e w4 ⟨a1, rfl, k_a1, f_a1, b4⟩
  replace B := B.trans (b4.mono B.size)
  replace k_c0 := k_c0.below b4
  replace k_c1 := k_c1.below b4
  replace k_p := k_p.below b4
  go_wp2_with fail
  refine (same_one _ _ (x * y) _ k_a1 k_p).mono ?_
  rintro e w5 ⟨rfl, b5⟩
  replace B := B.trans (b5.mono B.size)
  replace k_c0 := k_c0.below b5
  replace k_c1 := k_c1.below b5
  replace k_p := k_p.below b5
  replace k_a1 := k_a1.below b5
  go_wp2_with fail
  refine (short_any _ _ x y _ k_c0 k_c1 (by omega) (by omega) (x * y) rfl).mono ?_
  rintro e w6 ⟨a2, rfl, k_a2, f_a2, b6⟩
  replace B := B.trans (b6.mono B.size)
  replace k_c0 := k_c0.below b6
  replace k_c1 := k_c1.below b6
  replace k_p := k_p.below b6
  replace k_a1 := k_a1.below b6
  go_wp2_with fail
  refine (same_one _ _ (x * y) _ k_a2 k_p).mono ?_
  rintro e w7 ⟨rfl, b7⟩
  replace B := B.trans (b7.mono B.size)
  replace k_c0 := k_c0.below b7
  replace k_c1 := k_c1.below b7
  replace k_p := k_p.below b7
  replace k_a1 := k_a1.below b7
  replace k_a2 := k_a2.below b7
  go_wp2_with fail
  refine (mul_any _ _ x y _ k_c0 k_c1 (by omega) (by omega) (x * y) rfl).mono ?_
  rintro e w8 ⟨a3, rfl, k_a3, f_a3, b8⟩
  replace B := B.trans (b8.mono B.size)
  replace k_c0 := k_c0.below b8
  replace k_c1 := k_c1.below b8
  replace k_p := k_p.below b8
  replace k_a1 := k_a1.below b8
  replace k_a2 := k_a2.below b8
  go_wp2_with fail
  refine (same_one _ _ (x * y) _ k_a3 k_p).mono ?_
  rintro e w9 ⟨rfl, b9⟩
  replace B := B.trans (b9.mono B.size)
  replace k_c0 := k_c0.below b9
  replace k_c1 := k_c1.below b9
  replace k_p := k_p.below b9
  replace k_a1 := k_a1.below b9
  replace k_a2 := k_a2.below b9
  replace k_a3 := k_a3.below b9
  go_wp2_with fail
  refine (square_any _ x _ k_c0 (by omega) (x * x) rfl).mono ?_
  rintro e w10 ⟨a4, rfl, k_a4, f_a4, b10⟩
  replace B := B.trans (b10.mono B.size)
  replace k_c0 := k_c0.below b10
  replace k_c1 := k_c1.below b10
  replace k_p := k_p.below b10
  replace k_a1 := k_a1.below b10
  replace k_a2 := k_a2.below b10
  replace k_a3 := k_a3.below b10
  go_wp2_with fail
  refine (refProd_any _ _ x x _ k_c0 k_c0 (by omega) (by omega) (x * x) rfl).mono ?_
  rintro e w11 ⟨p2, rfl, k_p2, f_p2, b11⟩
  replace B := B.trans (b11.mono B.size)
  replace k_c0 := k_c0.below b11
  replace k_c1 := k_c1.below b11
  replace k_p := k_p.below b11
  replace k_a1 := k_a1.below b11
  replace k_a2 := k_a2.below b11
  replace k_a3 := k_a3.below b11
  replace k_a4 := k_a4.below b11
  go_wp2_with fail
  refine (same_one _ _ (x * x) _ k_a4 k_p2).mono ?_
  rintro e w12 ⟨rfl, b12⟩
  replace B := B.trans (b12.mono B.size)
  replace k_c0 := k_c0.below b12
  replace k_c1 := k_c1.below b12
  replace k_p := k_p.below b12
  replace k_a1 := k_a1.below b12
  replace k_a2 := k_a2.below b12
  replace k_a3 := k_a3.below b12
  replace k_a4 := k_a4.below b12
  replace k_p2 := k_p2.below b12
  go_wp2_with fail
  refine (works3_any _).mono ?_
  rintro e w13 ⟨rfl, b13⟩
  replace B := B.trans (b13.mono B.size)
  replace k_c0 := k_c0.below b13
  replace k_c1 := k_c1.below b13
  replace k_p := k_p.below b13
  replace k_a1 := k_a1.below b13
  replace k_a2 := k_a2.below b13
  replace k_a3 := k_a3.below b13
  replace k_a4 := k_a4.below b13
  replace k_p2 := k_p2.below b13
  go_wp2
  go_ret
  exact ⟨rfl, B⟩

set_option maxRecDepth 100000 in
theorem lifted (os : Os) (started : os.Started) (H : Type) (enc : TypeId × Value → H) :
    ReturnsInHanded {} Try.checked os 3 .any (Rows.mulProductsSpec.pre6 enc Try.prog Try.f3 Rows.mulProductsRow.domain false) (Rows.mulProductsSpec.post enc Try.prog Try.f3 false true false false) := by
  refine returnsInHanded_of_change (C := Try.checked) own started (by kernel_rfl) Try.func3
    (ChangeSpec.witness6 (enc := enc) (C := Try.checked) false ⟨#[], #[.slice none 0 0, .slice none 0 0], []⟩ 8 (by kernel_rfl) (by kernel_rfl) (by kernel_rfl) (by kernel_rfl)) ?_
  intro W base args ds gs before hval0 hW hcnd _
  have hval : ∀ (j : Nat) t v, Try.f3.params[j]? = some t → args[j]? = some v → Value.okWide Try.prog W .any base t v := hval0
  have hW' := hW
  obtain ⟨p, q, hA0, hV, rfl, hfz, hnd⟩ := hW
  have hA : DataW.TrodAll enc Try.prog W 0 (fun _ => true) true Try.f3.params.toList args.toList ds p := hA0
  rw [Try.params3] at hA hval
  obtain ⟨v0, vs0, d0, ds0, p0, q0, hargs, rfl, rfl, t0, r0⟩ := trodAll_cons hA
  obtain ⟨v1, vs1, d1, ds1, p1, q1, rfl, rfl, rfl, t1, r1⟩ := trodAll_cons r0
  obtain ⟨rfl, rfl, rfl⟩ := trodAll_nil r1
  obtain rfl : args = #[v0, v1] := by cases args; simp_all
  obtain ⟨rfl, rfl⟩ := trodVars_none hV
  obtain ⟨l0, hs0, hu0⟩ := arg_nat Try.underlying23 Try.underlying29 cells_u (hval 0 23 v0 rfl rfl) t0
  obtain ⟨l1, hs1, hu1⟩ := arg_nat Try.underlying23 Try.underlying29 cells_u (hval 1 23 v1 rfl rfl) t1
  clear hA0 hval0
  simp only [List.append_nil] at hW'
  have hlt0 : ∀ x ∈ p0, x.block < W.heap.size := fun x hx => hW'.lt x (List.mem_append_left _ hx)
  have hlt1 : ∀ x ∈ p1, x.block < W.heap.size := fun x hx => hW'.lt x (List.mem_append_right _ (hx))
  refine (walk v0 l0 v1 l1 W hs0 hu0 hs1 hu1).mono fun e W' ⟨he, hb⟩ => ?_
  subst he
  have s0 := Below.trod laidOut (by kernel_rfl) (of_decide_eq_true (by kernel_rfl)) t0 hb hlt0
  have s1 := Below.trod laidOut (by kernel_rfl) (of_decide_eq_true (by kernel_rfl)) t1 hb hlt1
  exact ⟨_, rfl, _, _, _, [] ++ [], _, [], hW', trodAll_cons_mk (shut_bool Try.underlying4 _) trodAll_mk0, trodAll_cons_mk s0 (trodAll_cons_mk s1 (trodAll_mk0)), rfl, hb.frame _, fun h => by cases h⟩

theorem over : Rows.mulProductsRow.holds Try.pinned (OpenSpec.ofChange Rows.mulProductsSpec) :=
  OpenClaim.holds_of_wide 3 Try.f3 rfl rfl rfl rfl rfl rfl rfl ⟨rfl, rfl, rfl, rfl, rfl⟩ rfl rfl rfl rfl rfl (by kernel_rfl) Try.func3 (by kernel_rfl)
    (of_decide_eq_true (by kernel_rfl)) (by unfold Func.isWrapper; first | (rw [if_pos (by decide +kernel)]; kernel_rfl) | (rw [if_neg (by decide +kernel)]; exact ⟨rfl, rfl⟩))
    (fun os started H enc _ => lifted os started H enc)

/-- The statement. -/
theorem proved : Rows.MulProductsSaid := over
end Go.Proofs.Ytaipahooepnfpaa.mulProducts
