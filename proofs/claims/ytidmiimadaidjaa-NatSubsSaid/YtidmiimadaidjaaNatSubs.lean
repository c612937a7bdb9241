/- The law NatSubs returns true for any two lists of limbs: nat.Sub answers as the document's own numbers do, or refuses. No condition. -/
import Derived.Test.YtidmiimadaidjaaLawW
namespace Go.Proofs.Ytidmiimadaidjaa.natSubs
open Go.ChangeShapes Go.WideShapes Go.ChangeAt Go.RowKit Go.Proofs.Ytidmiimadaidjaa.num Go.Proofs.Ytidmiimadaidjaa.mem Go.Proofs.Ytidmiimadaidjaa.nat
set_option linter.unusedVariables false

theorem own : ownKnob Try.prog.godebug = none := by kernel_rfl
theorem laidOut : laidOutB Try.prog = true := by kernel_rfl
theorem cells_u : Try.prog.cellsOf 23 = 1 := by kernel_rfl


set_option maxHeartbeats 6400000 in
set_option maxRecDepth 100000 in
/-- The walk: the Go text returns true; what was there is as it was. -/
theorem walk (v0 : Value) (l0 : List Nat) (v1 : Value) (l1 : List Nat) (w : World) (h0 : IsS w .u64 v0 l0) (u0 : Lt 18446744073709551616 l0) (h1 : IsS w .u64 v1 l1) (u1 : Lt 18446744073709551616 l1) :
    Calls Try.prog 5 #[v0, v1] w (RetV (.bool true) w) := by
  have B : Below w.heap.size w w := Below.refl _ _
  go_enter Try.func5, Try.ntmps5
  go_wp2_with fail
  refine (clean_any v0 l0 _ 24 _ rfl (h0.below B) u0 (by omega)).mono ?_
  rintro e w1 ⟨c0, rfl, k_c0, f_c0, b1⟩
  replace B := B.trans (b1.mono B.size)
  obtain ⟨x, hxx⟩ : ∃ x, x = cleaned l0 24 := ⟨_, rfl⟩
  have zx := cleaned_sz l0
  rw [← hxx] at k_c0 zx
  clear hxx
  have dx := dec_len x
  have mx := limb_len x
  go_wp2_with fail
  refine (clean_any v1 l1 _ 24 _ rfl (h1.below B) u1 (by omega)).mono ?_
  rintro e w2 ⟨c1, rfl, k_c1, f_c1, b2⟩
  replace B := B.trans (b2.mono B.size)
  replace k_c0 := k_c0.below b2
  obtain ⟨y, hxy⟩ : ∃ y, y = cleaned l1 24 := ⟨_, rfl⟩
  have zy := cleaned_sz l1
  rw [← hxy] at k_c1 zy
  clear hxy
  have dy := dec_len y
  have my := limb_len y
  by_cases hxy : x < y
  · have HO : Hid (-1 = ord x y) := (ord_lt hxy).symm
    go_wp2_with fail
    refine (sub_less _ _ x y _ k_c0 k_c1 hxy).mono ?_
    rintro e w3 ⟨d, rfl, k_d, f_d, b3⟩
    replace B := B.trans (b3.mono B.size)
    replace k_c0 := k_c0.below b3
    replace k_c1 := k_c1.below b3
    go_wp2_with fail
    refine (refOf_any _ x _ k_c0 (by omega)).mono ?_
    rintro e w4 ⟨o0, rfl, k_o0, f_o0, b4⟩
    replace B := B.trans (b4.mono B.size)
    replace k_c0 := k_c0.below b4
    replace k_c1 := k_c1.below b4
    replace k_d := k_d.below b4
    go_wp2_with fail
    refine (refOf_any _ y _ k_c1 (by omega)).mono ?_
    rintro e w5 ⟨o1, rfl, k_o1, f_o1, b5⟩
    replace B := B.trans (b5.mono B.size)
    replace k_c0 := k_c0.below b5
    replace k_c1 := k_c1.below b5
    replace k_d := k_d.below b5
    replace k_o0 := k_o0.below b5
    go_wp2_with fail
    refine (refCmp_at _ _ x y (-1) _ k_o0 k_o1 HO.out).mono ?_
    rintro e w6 ⟨rfl, b6⟩
    replace B := B.trans (b6.mono B.size)
    replace k_c0 := k_c0.below b6
    replace k_c1 := k_c1.below b6
    replace k_d := k_d.below b6
    replace k_o0 := k_o0.below b6
    replace k_o1 := k_o1.below b6
    obtain ⟨A4, e4, rfl, _⟩ := id k_d
    go_wp2_with fail
    refine (works_any _).mono ?_
    rintro e w7 ⟨rfl, b7⟩
    replace B := B.trans (b7.mono B.size)
    replace k_c0 := k_c0.below b7
    replace k_c1 := k_c1.below b7
    replace k_d := k_d.below b7
    replace k_o0 := k_o0.below b7
    replace k_o1 := k_o1.below b7
    go_wp2
    go_ret
    exact ⟨rfl, B⟩
  · obtain ⟨t, ht⟩ : ∃ t, t = ord x y := ⟨_, rfl⟩
    have ht0 : ¬ t < 0 := by rw [ht, ord_lt0]; exact hxy
    have HO := Lib.hid ht
    obtain ⟨q, hq⟩ : ∃ q, q = x - y := ⟨_, rfl⟩
    have hn := nbits_mono (show q ≤ x by omega)
    have n1 := limb_len q
    have n2 := dec_len q
    have HQ := Lib.hid hq
    have HLE : Hid (y ≤ x) := by show _ ≤ _; omega
    clear ht hq hxy
    go_wp2_with fail
    refine (sub_ok _ _ x y _ k_c0 k_c1 (by omega) HLE.out q HQ.out).mono ?_
    rintro e w3 ⟨d, rfl, k_d, f_d, b3⟩
    replace B := B.trans (b3.mono B.size)
    replace k_c0 := k_c0.below b3
    replace k_c1 := k_c1.below b3
    go_wp2_with fail
    refine (refOf_any _ x _ k_c0 (by omega)).mono ?_
    rintro e w4 ⟨o0, rfl, k_o0, f_o0, b4⟩
    replace B := B.trans (b4.mono B.size)
    replace k_c0 := k_c0.below b4
    replace k_c1 := k_c1.below b4
    replace k_d := k_d.below b4
    go_wp2_with fail
    refine (refOf_any _ y _ k_c1 (by omega)).mono ?_
    rintro e w5 ⟨o1, rfl, k_o1, f_o1, b5⟩
    replace B := B.trans (b5.mono B.size)
    replace k_c0 := k_c0.below b5
    replace k_c1 := k_c1.below b5
    replace k_d := k_d.below b5
    replace k_o0 := k_o0.below b5
    go_wp2_with fail
    refine (refCmp_at _ _ x y t _ k_o0 k_o1 HO.out).mono ?_
    rintro e w6 ⟨rfl, b6⟩
    replace B := B.trans (b6.mono B.size)
    replace k_c0 := k_c0.below b6
    replace k_c1 := k_c1.below b6
    replace k_d := k_d.below b6
    replace k_o0 := k_o0.below b6
    replace k_o1 := k_o1.below b6
    go_wp2_with fail
    refine (refOf_any _ x _ k_c0 (by omega)).mono ?_
    rintro e w7 ⟨o2, rfl, k_o2, f_o2, b7⟩
    replace B := B.trans (b7.mono B.size)
    replace k_c0 := k_c0.below b7
    replace k_c1 := k_c1.below b7
    replace k_d := k_d.below b7
    replace k_o0 := k_o0.below b7
    replace k_o1 := k_o1.below b7
    go_wp2_with fail
    refine (refOf_any _ y _ k_c1 (by omega)).mono ?_
    rintro e w8 ⟨o3, rfl, k_o3, f_o3, b8⟩
    replace B := B.trans (b8.mono B.size)
    replace k_c0 := k_c0.below b8
    replace k_c1 := k_c1.below b8
    replace k_d := k_d.below b8
    replace k_o0 := k_o0.below b8
    replace k_o1 := k_o1.below b8
    replace k_o2 := k_o2.below b8
    go_wp2_with fail
    refine (refSub_any _ _ x y _ k_o2 k_o3 (by omega) HLE.out q HQ.out).mono ?_
    rintro e w9 ⟨r1, rfl, k_r1, f_r1, b9⟩
    replace B := B.trans (b9.mono B.size)
    replace k_c0 := k_c0.below b9
    replace k_c1 := k_c1.below b9
    replace k_d := k_d.below b9
    replace k_o0 := k_o0.below b9
    replace k_o1 := k_o1.below b9
    replace k_o2 := k_o2.below b9
    replace k_o3 := k_o3.below b9
    go_wp2_with fail
    refine (refBack_any _ q _ k_r1 (by omega) (by omega)).mono ?_
    rintro e w10 ⟨p1, rfl, k_p1, f_p1, b10⟩
    replace B := B.trans (b10.mono B.size)
    replace k_c0 := k_c0.below b10
    replace k_c1 := k_c1.below b10
    replace k_d := k_d.below b10
    replace k_o0 := k_o0.below b10
    replace k_o1 := k_o1.below b10
    replace k_o2 := k_o2.below b10
    replace k_o3 := k_o3.below b10
    replace k_r1 := k_r1.below b10
    go_wp2_with fail
    refine (same_one _ _ q _ k_d k_p1).mono ?_
    rintro e w11 ⟨rfl, b11⟩
    replace B := B.trans (b11.mono B.size)
    replace k_c0 := k_c0.below b11
    replace k_c1 := k_c1.below b11
    replace k_d := k_d.below b11
    replace k_o0 := k_o0.below b11
    replace k_o1 := k_o1.below b11
    replace k_o2 := k_o2.below b11
    replace k_o3 := k_o3.below b11
    replace k_r1 := k_r1.below b11
    replace k_p1 := k_p1.below b11
    go_wp2_with fail
    refine (works_any _).mono ?_
    rintro e w12 ⟨rfl, b12⟩
    replace B := B.trans (b12.mono B.size)
    replace k_c0 := k_c0.below b12
    replace k_c1 := k_c1.below b12
    replace k_d := k_d.below b12
    replace k_o0 := k_o0.below b12
    replace k_o1 := k_o1.below b12
    replace k_o2 := k_o2.below b12
    replace k_o3 := k_o3.below b12
    replace k_r1 := k_r1.below b12
    replace k_p1 := k_p1.below b12
    go_wp2
    go_ret
    exact ⟨rfl, B⟩

set_option maxRecDepth 100000 in
theorem lifted (os : Os) (started : os.Started) (H : Type) (enc : TypeId × Value → H) :
    ReturnsInHanded {} Try.checked os 5 .any (Rows.natSubsSpec.pre6 enc Try.prog Try.f5 Rows.natSubsRow.domain false) (Rows.natSubsSpec.post enc Try.prog Try.f5 false true false false) := by
  refine returnsInHanded_of_change (C := Try.checked) own started (by kernel_rfl) Try.func5
    (ChangeSpec.witness6 (enc := enc) (C := Try.checked) false ⟨#[], #[.slice none 0 0, .slice none 0 0], []⟩ 8 (by kernel_rfl) (by kernel_rfl) (by kernel_rfl) (by kernel_rfl)) ?_
  intro W base args ds gs before hval0 hW hcnd _
  have hval : ∀ (j : Nat) t v, Try.f5.params[j]? = some t → args[j]? = some v → Value.okWide Try.prog W .any base t v := hval0
  have hW' := hW
  obtain ⟨p, q, hA0, hV, rfl, hfz, hnd⟩ := hW
  have hA : DataW.TrodAll enc Try.prog W 0 (fun _ => true) true Try.f5.params.toList args.toList ds p := hA0
  rw [Try.params5] at hA hval
  obtain ⟨v0, vs0, d0, ds0, p0, q0, hargs, rfl, rfl, t0, r0⟩ := trodAll_cons hA
  obtain ⟨v1, vs1, d1, ds1, p1, q1, rfl, rfl, rfl, t1, r1⟩ := trodAll_cons r0
  obtain ⟨rfl, rfl, rfl⟩ := trodAll_nil r1
  obtain rfl : args = #[v0, v1] := by cases args; simp_all
  obtain ⟨rfl, rfl⟩ := trodVars_none hV
  obtain ⟨l0, hs0, hu0⟩ := arg_nat Try.underlying24 Try.underlying23 cells_u (hval 0 24 v0 rfl rfl) t0
  obtain ⟨l1, hs1, hu1⟩ := arg_nat Try.underlying24 Try.underlying23 cells_u (hval 1 24 v1 rfl rfl) t1
  clear hA0 hval0
  simp only [List.append_nil] at hW'
  have hlt0 : ∀ x ∈ p0, x.block < W.heap.size := fun x hx => hW'.lt x (List.mem_append_left _ hx)
  have hlt1 : ∀ x ∈ p1, x.block < W.heap.size := fun x hx => hW'.lt x (List.mem_append_right _ (hx))
  refine (walk v0 l0 v1 l1 W hs0 hu0 hs1 hu1).mono fun e W' ⟨he, hb⟩ => ?_
  subst he
  have s0 := Below.trod laidOut (by kernel_rfl) (of_decide_eq_true (by kernel_rfl)) t0 hb hlt0
  have s1 := Below.trod laidOut (by kernel_rfl) (of_decide_eq_true (by kernel_rfl)) t1 hb hlt1
  exact ⟨_, rfl, _, _, _, [] ++ [], _, [], hW', trodAll_cons_mk (shut_bool Try.underlying4 _) trodAll_mk0, trodAll_cons_mk s0 (trodAll_cons_mk s1 (trodAll_mk0)), rfl, hb.frame _, fun h => by cases h⟩

theorem over : Rows.natSubsRow.holds Try.pinned (OpenSpec.ofChange Rows.natSubsSpec) :=
  OpenClaim.holds_of_wide 5 Try.f5 rfl rfl rfl rfl rfl rfl rfl ⟨rfl, rfl, rfl, rfl, rfl⟩ rfl rfl rfl rfl rfl (by kernel_rfl) Try.func5 (by kernel_rfl)
    (of_decide_eq_true (by kernel_rfl)) (by unfold Func.isWrapper; first | (rw [if_pos (by decide +kernel)]; kernel_rfl) | (rw [if_neg (by decide +kernel)]; exact ⟨rfl, rfl⟩))
    (fun os started H enc _ => lifted os started H enc)

/-- The statement. -/
theorem proved : Rows.NatSubsSaid := over
end Go.Proofs.Ytidmiimadaidjaa.natSubs
