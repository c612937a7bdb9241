/- DivideExacts: divisions that leave nothing, what is left, and what divides what, are those of the document. Condition: the arguments can be read as data. -/
import Derived.Test.YtcgmbmiingppgaaRefQ
namespace Go.Proofs.Ytcgmbmiingppgaa.divideExacts
open Go.ChangeShapes Go.WideShapes Go.ChangeAt Go.RowKit Go.Proofs.Ytcgmbmiingppgaa.num Go.Proofs.Ytcgmbmiingppgaa.mem Go.Proofs.Ytcgmbmiingppgaa.nat
set_option linter.unusedVariables false

theorem own : ownKnob Try.prog.godebug = none := by kernel_rfl
theorem laidOut : laidOutB Try.prog = true := by kernel_rfl
theorem cells_u : Try.prog.cellsOf 30 = 1 := by kernel_rfl


set_option maxHeartbeats 6400000 in
set_option maxRecDepth 100000 in
/-- The walk: the Go text returns true; what was there is as it was. -/
theorem walk (v0 : Value) (l0 : List Nat) (v1 : Value) (l1 : List Nat) (w : World) (h0 : IsS w .u64 v0 l0) (u0 : Lt 18446744073709551616 l0) (h1 : IsS w .u64 v1 l1) (u1 : Lt 18446744073709551616 l1) :
    Calls Try.prog 5 #[v0, v1] w (RetV (.bool true) w) := by
  have B : Below w.heap.size w w := Below.refl _ _
  go_enter Try.func5, Try.ntmps5
  go_wp2_with fail
  refine (clean_any v0 l0 _ 14 _ rfl (h0.below B) u0 (by omega)).mono ?_
  rintro e w1 ⟨c0, rfl, k_c0, f_c0, b1⟩
  replace B := B.trans (b1.mono B.size)
  obtain ⟨x, hxx⟩ : ∃ x, x = cleaned l0 14 := ⟨_, rfl⟩
  have mx := cleaned_len l0 14
  rw [← hxx] at k_c0 mx
  clear hxx
  go_wp2_with fail
  refine (clean_any v1 l1 _ 14 _ rfl (h1.below B) u1 (by omega)).mono ?_
  rintro e w2 ⟨c1, rfl, k_c1, f_c1, b2⟩
  replace B := B.trans (b2.mono B.size)
  replace k_c0 := k_c0.below b2
  obtain ⟨y, hxy⟩ : ∃ y, y = cleaned l1 14 := ⟨_, rfl⟩
  have my := cleaned_len l1 14
  rw [← hxy] at k_c1 my
  clear hxy
  obtain ⟨D, hD⟩ : ∃ D, D = divB x y := ⟨_, rfl⟩
  have HD := Lib.hid hD
  clear hD
  rcases (show y = 0 ∨ (0 < y ∧ x % y = 0) ∨ (0 < y ∧ x % y ≠ 0) from by by_cases h0 : y = 0; exact .inl h0; by_cases h1 : x % y = 0; exact .inr (.inl ⟨by omega, h1⟩); exact .inr (.inr ⟨by omega, h1⟩)) with hy | ⟨hy, hm⟩ | ⟨hy, hm⟩
  · skip
    obtain ⟨y0, hy0⟩ : ∃ y0, y0 = y := ⟨_, rfl⟩
    have k_z := k_c1
    rw [hy] at k_z
    clear hy hy0
    go_wp2_with fail
    refine (dexact_zero _ _ _ k_z).mono ?_
    rintro e w3 ⟨p, rfl, k_p, f_p, b3⟩
    replace B := B.trans (b3.mono B.size)
    replace k_c0 := k_c0.below b3
    replace k_c1 := k_c1.below b3
    replace k_z := k_z.below b3
    go_wp2_with fail
    refine (qexact_zero _ _ _ k_z).mono ?_
    rintro e w4 ⟨q, rfl, k_q, f_q, b4⟩
    replace B := B.trans (b4.mono B.size)
    replace k_c0 := k_c0.below b4
    replace k_c1 := k_c1.below b4
    replace k_z := k_z.below b4
    replace k_p := k_p.below b4
    go_wp2_with fail
    refine (dmod_zero _ _ _ k_z).mono ?_
    rintro e w5 ⟨r, rfl, k_r, f_r, b5⟩
    replace B := B.trans (b5.mono B.size)
    replace k_c0 := k_c0.below b5
    replace k_c1 := k_c1.below b5
    replace k_z := k_z.below b5
    replace k_p := k_p.below b5
    replace k_q := k_q.below b5
    go_wp2_with fail
    refine (qdiv_zero _ _ _ k_z).mono ?_
    rintro e w6 ⟨t, s, rfl, k_t, k_s, f_t, f_s, b6⟩
    replace B := B.trans (b6.mono B.size)
    replace k_c0 := k_c0.below b6
    replace k_c1 := k_c1.below b6
    replace k_z := k_z.below b6
    replace k_p := k_p.below b6
    replace k_q := k_q.below b6
    replace k_r := k_r.below b6
    rw [← digs_zero 4294967296] at k_p k_q k_r k_s
    go_wp2_with fail
    refine (same_one _ _ 0 _ k_p k_q).mono ?_
    rintro e w7 ⟨rfl, b7⟩
    replace B := B.trans (b7.mono B.size)
    replace k_c0 := k_c0.below b7
    replace k_c1 := k_c1.below b7
    replace k_z := k_z.below b7
    replace k_p := k_p.below b7
    replace k_q := k_q.below b7
    replace k_r := k_r.below b7
    replace k_t := k_t.below b7
    replace k_s := k_s.below b7
    go_wp2_with fail
    refine (same_one _ _ 0 _ k_r k_s).mono ?_
    rintro e w8 ⟨rfl, b8⟩
    replace B := B.trans (b8.mono B.size)
    replace k_c0 := k_c0.below b8
    replace k_c1 := k_c1.below b8
    replace k_z := k_z.below b8
    replace k_p := k_p.below b8
    replace k_q := k_q.below b8
    replace k_r := k_r.below b8
    replace k_t := k_t.below b8
    replace k_s := k_s.below b8
    go_wp2_with fail
    refine (divides_any _ _ x y D _ k_c0 k_c1 (by omega) (by omega) HD.out).mono ?_
    rintro e w9 ⟨rfl, b9⟩
    replace B := B.trans (b9.mono B.size)
    replace k_c0 := k_c0.below b9
    replace k_c1 := k_c1.below b9
    replace k_z := k_z.below b9
    replace k_p := k_p.below b9
    replace k_q := k_q.below b9
    replace k_r := k_r.below b9
    replace k_t := k_t.below b9
    replace k_s := k_s.below b9
    go_wp2_with fail
    refine (qdivides_any _ _ x y D _ k_c0 k_c1 (by omega) (by omega) HD.out).mono ?_
    rintro e w10 ⟨rfl, b10⟩
    replace B := B.trans (b10.mono B.size)
    replace k_c0 := k_c0.below b10
    replace k_c1 := k_c1.below b10
    replace k_z := k_z.below b10
    replace k_p := k_p.below b10
    replace k_q := k_q.below b10
    replace k_r := k_r.below b10
    replace k_t := k_t.below b10
    replace k_s := k_s.below b10
    go_wp2_with fail
    refine (works4_any _).mono ?_
    rintro e w11 ⟨rfl, b11⟩
    replace B := B.trans (b11.mono B.size)
    replace k_c0 := k_c0.below b11
    replace k_c1 := k_c1.below b11
    replace k_z := k_z.below b11
    replace k_p := k_p.below b11
    replace k_q := k_q.below b11
    replace k_r := k_r.below b11
    replace k_t := k_t.below b11
    replace k_s := k_s.below b11
    go_wp2
    go_ret
    exact ⟨rfl, B⟩
  · skip
    have HM := Lib.hid hm
    clear hm
    go_wp2_with fail
    refine (dexact_ok _ _ x y _ k_c0 k_c1 (by omega) (by omega) hy (x / y) HM.out rfl).mono ?_
    rintro e w3 ⟨p, rfl, k_p, f_p, b3⟩
    replace B := B.trans (b3.mono B.size)
    replace k_c0 := k_c0.below b3
    replace k_c1 := k_c1.below b3
    go_wp2_with fail
    refine (qexact_ok _ _ x y _ k_c0 k_c1 (by omega) (by omega) hy HM.out).mono ?_
    rintro e w4 ⟨q, rfl, k_q, f_q, b4⟩
    replace B := B.trans (b4.mono B.size)
    replace k_c0 := k_c0.below b4
    replace k_c1 := k_c1.below b4
    replace k_p := k_p.below b4
    go_wp2_with fail
    refine (dmod_ok _ _ x y _ k_c0 k_c1 (by omega) (by omega) hy (x % y) rfl).mono ?_
    rintro e w5 ⟨r, rfl, k_r, f_r, b5⟩
    replace B := B.trans (b5.mono B.size)
    replace k_c0 := k_c0.below b5
    replace k_c1 := k_c1.below b5
    replace k_p := k_p.below b5
    replace k_q := k_q.below b5
    go_wp2_with fail
    refine (qdiv_ok _ _ x y _ k_c0 k_c1 (by omega) (by omega) hy).mono ?_
    rintro e w6 ⟨t, s, rfl, k_t, k_s, f_t, f_s, b6⟩
    replace B := B.trans (b6.mono B.size)
    replace k_c0 := k_c0.below b6
    replace k_c1 := k_c1.below b6
    replace k_p := k_p.below b6
    replace k_q := k_q.below b6
    replace k_r := k_r.below b6
    go_wp2_with fail
    refine (same_one _ _ (x / y) _ k_p k_q).mono ?_
    rintro e w7 ⟨rfl, b7⟩
    replace B := B.trans (b7.mono B.size)
    replace k_c0 := k_c0.below b7
    replace k_c1 := k_c1.below b7
    replace k_p := k_p.below b7
    replace k_q := k_q.below b7
    replace k_r := k_r.below b7
    replace k_t := k_t.below b7
    replace k_s := k_s.below b7
    go_wp2_with fail
    refine (same_one _ _ (x % y) _ k_r k_s).mono ?_
    rintro e w8 ⟨rfl, b8⟩
    replace B := B.trans (b8.mono B.size)
    replace k_c0 := k_c0.below b8
    replace k_c1 := k_c1.below b8
    replace k_p := k_p.below b8
    replace k_q := k_q.below b8
    replace k_r := k_r.below b8
    replace k_t := k_t.below b8
    replace k_s := k_s.below b8
    go_wp2_with fail
    refine (divides_any _ _ x y D _ k_c0 k_c1 (by omega) (by omega) HD.out).mono ?_
    rintro e w9 ⟨rfl, b9⟩
    replace B := B.trans (b9.mono B.size)
    replace k_c0 := k_c0.below b9
    replace k_c1 := k_c1.below b9
    replace k_p := k_p.below b9
    replace k_q := k_q.below b9
    replace k_r := k_r.below b9
    replace k_t := k_t.below b9
    replace k_s := k_s.below b9
    go_wp2_with fail
    refine (qdivides_any _ _ x y D _ k_c0 k_c1 (by omega) (by omega) HD.out).mono ?_
    rintro e w10 ⟨rfl, b10⟩
    replace B := B.trans (b10.mono B.size)
    replace k_c0 := k_c0.below b10
    replace k_c1 := k_c1.below b10
    replace k_p := k_p.below b10
    replace k_q := k_q.below b10
    replace k_r := k_r.below b10
    replace k_t := k_t.below b10
    replace k_s := k_s.below b10
    go_wp2_with fail
    refine (works4_any _).mono ?_
    rintro e w11 ⟨rfl, b11⟩
    replace B := B.trans (b11.mono B.size)
    replace k_c0 := k_c0.below b11
    replace k_c1 := k_c1.below b11
    replace k_p := k_p.below b11
    replace k_q := k_q.below b11
    replace k_r := k_r.below b11
    replace k_t := k_t.below b11
    replace k_s := k_s.below b11
    go_wp2
    go_ret
    exact ⟨rfl, B⟩
  · skip
    have HM := Lib.hid hm
    clear hm
    go_wp2_with fail
    refine (dexact_rest _ _ x y _ k_c0 k_c1 (by omega) (by omega) hy HM.out).mono ?_
    rintro e w3 ⟨p, rfl, k_p, f_p, b3⟩
    replace B := B.trans (b3.mono B.size)
    replace k_c0 := k_c0.below b3
    replace k_c1 := k_c1.below b3
    go_wp2_with fail
    refine (qexact_rest _ _ x y _ k_c0 k_c1 (by omega) (by omega) hy HM.out).mono ?_
    rintro e w4 ⟨q, rfl, k_q, f_q, b4⟩
    replace B := B.trans (b4.mono B.size)
    replace k_c0 := k_c0.below b4
    replace k_c1 := k_c1.below b4
    replace k_p := k_p.below b4
    go_wp2_with fail
    refine (dmod_ok _ _ x y _ k_c0 k_c1 (by omega) (by omega) hy (x % y) rfl).mono ?_
    rintro e w5 ⟨r, rfl, k_r, f_r, b5⟩
    replace B := B.trans (b5.mono B.size)
    replace k_c0 := k_c0.below b5
    replace k_c1 := k_c1.below b5
    replace k_p := k_p.below b5
    replace k_q := k_q.below b5
    go_wp2_with fail
    refine (qdiv_ok _ _ x y _ k_c0 k_c1 (by omega) (by omega) hy).mono ?_
    rintro e w6 ⟨t, s, rfl, k_t, k_s, f_t, f_s, b6⟩
    replace B := B.trans (b6.mono B.size)
    replace k_c0 := k_c0.below b6
    replace k_c1 := k_c1.below b6
    replace k_p := k_p.below b6
    replace k_q := k_q.below b6
    replace k_r := k_r.below b6
    rw [← digs_zero 4294967296] at k_p k_q
    go_wp2_with fail
    refine (same_one _ _ 0 _ k_p k_q).mono ?_
    rintro e w7 ⟨rfl, b7⟩
    replace B := B.trans (b7.mono B.size)
    replace k_c0 := k_c0.below b7
    replace k_c1 := k_c1.below b7
    replace k_p := k_p.below b7
    replace k_q := k_q.below b7
    replace k_r := k_r.below b7
    replace k_t := k_t.below b7
    replace k_s := k_s.below b7
    go_wp2_with fail
    refine (same_one _ _ (x % y) _ k_r k_s).mono ?_
    rintro e w8 ⟨rfl, b8⟩
    replace B := B.trans (b8.mono B.size)
    replace k_c0 := k_c0.below b8
    replace k_c1 := k_c1.below b8
    replace k_p := k_p.below b8
    replace k_q := k_q.below b8
    replace k_r := k_r.below b8
    replace k_t := k_t.below b8
    replace k_s := k_s.below b8
    go_wp2_with fail
    refine (divides_any _ _ x y D _ k_c0 k_c1 (by omega) (by omega) HD.out).mono ?_
    rintro e w9 ⟨rfl, b9⟩
    replace B := B.trans (b9.mono B.size)
    replace k_c0 := k_c0.below b9
    replace k_c1 := k_c1.below b9
    replace k_p := k_p.below b9
    replace k_q := k_q.below b9
    replace k_r := k_r.below b9
    replace k_t := k_t.below b9
    replace k_s := k_s.below b9
    go_wp2_with fail
    refine (qdivides_any _ _ x y D _ k_c0 k_c1 (by omega) (by omega) HD.out).mono ?_
    rintro e w10 ⟨rfl, b10⟩
    replace B := B.trans (b10.mono B.size)
    replace k_c0 := k_c0.below b10
    replace k_c1 := k_c1.below b10
    replace k_p := k_p.below b10
    replace k_q := k_q.below b10
    replace k_r := k_r.below b10
    replace k_t := k_t.below b10
    replace k_s := k_s.below b10
    go_wp2_with fail
    refine (works4_any _).mono ?_
    rintro e w11 ⟨rfl, b11⟩
    replace B := B.trans (b11.mono B.size)
    replace k_c0 := k_c0.below b11
    replace k_c1 := k_c1.below b11
    replace k_p := k_p.below b11
    replace k_q := k_q.below b11
    replace k_r := k_r.below b11
    replace k_t := k_t.below b11
    replace k_s := k_s.below b11
    go_wp2
    go_ret
    exact ⟨rfl, B⟩

set_option maxRecDepth 100000 in
theorem lifted (os : Os) (started : os.Started) (H : Type) (enc : TypeId × Value → H) :
    ReturnsInHanded {} Try.checked os 5 .any (Rows.divideExactsSpec.pre6 enc Try.prog Try.f5 Rows.divideExactsRow.domain false) (Rows.divideExactsSpec.post enc Try.prog Try.f5 false true false false) := by
  refine returnsInHanded_of_change (C := Try.checked) own started (by kernel_rfl) Try.func5
    (ChangeSpec.witness6 (enc := enc) (C := Try.checked) false ⟨#[], #[.slice none 0 0, .slice none 0 0], []⟩ 8 (by kernel_rfl) (by kernel_rfl) (by kernel_rfl) (by kernel_rfl)) ?_
  intro W base args ds gs before hval0 hW hcnd _
  have hval : ∀ (j : Nat) t v, Try.f5.params[j]? = some t → args[j]? = some v → Value.okWide Try.prog W .any base t v := hval0
  have hW' := hW
  obtain ⟨p, q, hA0, hV, rfl, hfz, hnd⟩ := hW
  have hA : DataW.TrodAll enc Try.prog W 0 (fun _ => true) true Try.f5.params.toList args.toList ds p := hA0
  rw [Try.params5] at hA hval
  obtain ⟨v0, vs0, d0, ds0, p0, q0, hargs, rfl, rfl, t0, r0⟩ := trodAll_cons hA
  obtain ⟨v1, vs1, d1, ds1, p1, q1, rfl, rfl, rfl, t1, r1⟩ := trodAll_cons r0
  obtain ⟨rfl, rfl, rfl⟩ := trodAll_nil r1
  obtain rfl : args = #[v0, v1] := by cases args; simp_all
  obtain ⟨rfl, rfl⟩ := trodVars_none hV
  obtain ⟨l0, hs0, hu0⟩ := arg_nat Try.underlying23 Try.underlying30 cells_u (hval 0 23 v0 rfl rfl) t0
  obtain ⟨l1, hs1, hu1⟩ := arg_nat Try.underlying23 Try.underlying30 cells_u (hval 1 23 v1 rfl rfl) t1
  clear hA0 hval0
  simp only [List.append_nil] at hW'
  have hlt0 : ∀ x ∈ p0, x.block < W.heap.size := fun x hx => hW'.lt x (List.mem_append_left _ hx)
  have hlt1 : ∀ x ∈ p1, x.block < W.heap.size := fun x hx => hW'.lt x (List.mem_append_right _ (hx))
  refine (walk v0 l0 v1 l1 W hs0 hu0 hs1 hu1).mono fun e W' ⟨he, hb⟩ => ?_
  subst he
  have s0 := Below.trod laidOut (by kernel_rfl) (of_decide_eq_true (by kernel_rfl)) t0 hb hlt0
  have s1 := Below.trod laidOut (by kernel_rfl) (of_decide_eq_true (by kernel_rfl)) t1 hb hlt1
  exact ⟨_, rfl, _, _, _, [] ++ [], _, [], hW', trodAll_cons_mk (shut_bool Try.underlying4 _) trodAll_mk0, trodAll_cons_mk s0 (trodAll_cons_mk s1 (trodAll_mk0)), rfl, hb.frame _, fun h => by cases h⟩

theorem over : Rows.divideExactsRow.holds Try.pinned (OpenSpec.ofChange Rows.divideExactsSpec) :=
  OpenClaim.holds_of_wide 5 Try.f5 rfl rfl rfl rfl rfl rfl rfl ⟨rfl, rfl, rfl, rfl, rfl⟩ rfl rfl rfl rfl rfl (by kernel_rfl) Try.func5 (by kernel_rfl)
    (of_decide_eq_true (by kernel_rfl)) (by unfold Func.isWrapper; first | (rw [if_pos (by decide +kernel)]; kernel_rfl) | (rw [if_neg (by decide +kernel)]; exact ⟨rfl, rfl⟩))
    (fun os started H enc _ => lifted os started H enc)

/-- The statement. -/
theorem proved : Rows.DivideExactsSaid := over
end Go.Proofs.Ytcgmbmiingppgaa.divideExacts
