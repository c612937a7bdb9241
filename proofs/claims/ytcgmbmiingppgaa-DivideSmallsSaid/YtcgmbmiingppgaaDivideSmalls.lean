/- DivideSmalls: a number divided by a limb is that of the document, or refused. Condition: the arguments can be read as data. -/
import Derived.Test.YtcgmbmiingppgaaRefQ
namespace Go.Proofs.Ytcgmbmiingppgaa.divideSmalls
open Go.ChangeShapes Go.WideShapes Go.ChangeAt Go.RowKit Go.Proofs.Ytcgmbmiingppgaa.num Go.Proofs.Ytcgmbmiingppgaa.mem Go.Proofs.Ytcgmbmiingppgaa.nat
set_option linter.unusedVariables false

theorem own : ownKnob Try.prog.godebug = none := by kernel_rfl
theorem laidOut : laidOutB Try.prog = true := by kernel_rfl
theorem cells_u : Try.prog.cellsOf 30 = 1 := by kernel_rfl


set_option maxHeartbeats 6400000 in
set_option maxRecDepth 100000 in
/-- The walk: the Go text returns true; what was there is as it was. -/
theorem walk (v0 : Value) (l0 : List Nat) (a1 : Int) (w : World) (h0 : IsS w .u64 v0 l0) (u0 : Lt 18446744073709551616 l0) (wf1 : (Lit.int .u64 a1).wf = true) :
    Calls Try.prog 4 #[v0, .int .u64 a1] w (RetV (.bool true) w) := by
  have bn1 := bounds_u64 wf1
  clear wf1
  obtain ⟨d, rfl⟩ := Int.eq_ofNat_of_zero_le bn1.1
  have hd1 : d < 18446744073709551616 := by omega
  clear bn1
  rcases Nat.eq_zero_or_pos (d % 4294967296) with hd | hd
  · skip
    have B : Below w.heap.size w w := Below.refl _ _
    go_enter Try.func4, Try.ntmps4
    go_wp2_with fail
    refine (clean_any v0 l0 _ 14 _ rfl (h0.below B) u0 (by omega)).mono ?_
    rintro e w1 ⟨c0, rfl, k_c0, f_c0, b1⟩
    replace B := B.trans (b1.mono B.size)
    obtain ⟨x, hxx⟩ : ∃ x, x = cleaned l0 14 := ⟨_, rfl⟩
    have mx := cleaned_len l0 14
    rw [← hxx] at k_c0 mx
    clear hxx
    go_wp2_with fail
    refine (dsmall_no _ _ d _ rfl hd1 hd).mono ?_
    rintro e w2 ⟨p, rfl, k_p, f_p, b2⟩
    replace B := B.trans (b2.mono B.size)
    replace k_c0 := k_c0.below b2
    go_wp2_with fail
    refine (qsmall_no _ _ d _ rfl hd1 hd).mono ?_
    rintro e w3 ⟨r, rfl, k_r, f_r, b3⟩
    replace B := B.trans (b3.mono B.size)
    replace k_c0 := k_c0.below b3
    replace k_p := k_p.below b3
    rw [← digs_zero 4294967296] at k_p k_r
    go_wp2_with fail
    refine (same_one _ _ 0 _ k_p k_r).mono ?_
    rintro e w4 ⟨rfl, b4⟩
    replace B := B.trans (b4.mono B.size)
    replace k_c0 := k_c0.below b4
    replace k_p := k_p.below b4
    replace k_r := k_r.below b4
    go_wp2_with fail
    refine (works4_any _).mono ?_
    rintro e w5 ⟨rfl, b5⟩
    replace B := B.trans (b5.mono B.size)
    replace k_c0 := k_c0.below b5
    replace k_p := k_p.below b5
    replace k_r := k_r.below b5
    go_wp2
    go_ret
    exact ⟨rfl, B⟩
  · skip
    have B : Below w.heap.size w w := Below.refl _ _
    go_enter Try.func4, Try.ntmps4
    go_wp2_with fail
    refine (clean_any v0 l0 _ 14 _ rfl (h0.below B) u0 (by omega)).mono ?_
    rintro e w1 ⟨c0, rfl, k_c0, f_c0, b1⟩
    replace B := B.trans (b1.mono B.size)
    obtain ⟨x, hxx⟩ : ∃ x, x = cleaned l0 14 := ⟨_, rfl⟩
    have mx := cleaned_len l0 14
    rw [← hxx] at k_c0 mx
    clear hxx
    obtain ⟨q, hq⟩ : ∃ q, q = x / (d % 4294967296) := ⟨_, rfl⟩
    obtain ⟨r, hr⟩ : ∃ r, r = x % (d % 4294967296) := ⟨_, rfl⟩
    have HQ := Lib.hid hq
    have HR := Lib.hid hr
    clear hq hr
    go_wp2_with fail
    refine (dsmall_ok _ x _ d q r _ rfl hd1 hd k_c0 (by omega) HQ.out HR.out).mono ?_
    rintro e w2 ⟨p, rfl, k_p, f_p, b2⟩
    replace B := B.trans (b2.mono B.size)
    replace k_c0 := k_c0.below b2
    go_wp2_with fail
    refine (qsmall_ok _ x _ d q r _ rfl hd1 hd k_c0 (by omega) HQ.out HR.out).mono ?_
    rintro e w3 ⟨s, rfl, k_s, f_s, b3⟩
    replace B := B.trans (b3.mono B.size)
    replace k_c0 := k_c0.below b3
    replace k_p := k_p.below b3
    go_wp2_with fail
    refine (same_one _ _ q _ k_p k_s).mono ?_
    rintro e w4 ⟨rfl, b4⟩
    replace B := B.trans (b4.mono B.size)
    replace k_c0 := k_c0.below b4
    replace k_p := k_p.below b4
    replace k_s := k_s.below b4
    go_wp2_with fail
    refine (works4_any _).mono ?_
    rintro e w5 ⟨rfl, b5⟩
    replace B := B.trans (b5.mono B.size)
    replace k_c0 := k_c0.below b5
    replace k_p := k_p.below b5
    replace k_s := k_s.below b5
    go_wp2
    go_ret
    exact ⟨rfl, B⟩

set_option maxRecDepth 100000 in
theorem lifted (os : Os) (started : os.Started) (H : Type) (enc : TypeId × Value → H) :
    ReturnsInHanded {} Try.checked os 4 .any (Rows.divideSmallsSpec.pre6 enc Try.prog Try.f4 Rows.divideSmallsRow.domain false) (Rows.divideSmallsSpec.post enc Try.prog Try.f4 false true false false) := by
  refine returnsInHanded_of_change (C := Try.checked) own started (by kernel_rfl) Try.func4
    (ChangeSpec.witness6 (enc := enc) (C := Try.checked) false ⟨#[], #[.slice none 0 0, .int .u64 0], []⟩ 8 (by kernel_rfl) (by kernel_rfl) (by kernel_rfl) (by kernel_rfl)) ?_
  intro W base args ds gs before hval0 hW hcnd _
  have hval : ∀ (j : Nat) t v, Try.f4.params[j]? = some t → args[j]? = some v → Value.okWide Try.prog W .any base t v := hval0
  have hW' := hW
  obtain ⟨p, q, hA0, hV, rfl, hfz, hnd⟩ := hW
  have hA : DataW.TrodAll enc Try.prog W 0 (fun _ => true) true Try.f4.params.toList args.toList ds p := hA0
  rw [Try.params4] at hA hval
  obtain ⟨v0, vs0, d0, ds0, p0, q0, hargs, rfl, rfl, t0, r0⟩ := trodAll_cons hA
  obtain ⟨v1, vs1, d1, ds1, p1, q1, rfl, rfl, rfl, t1, r1⟩ := trodAll_cons r0
  obtain ⟨rfl, rfl, rfl⟩ := trodAll_nil r1
  obtain rfl : args = #[v0, v1] := by cases args; simp_all
  obtain ⟨rfl, rfl⟩ := trodVars_none hV
  obtain ⟨l0, hs0, hu0⟩ := arg_nat Try.underlying23 Try.underlying30 cells_u (hval 0 23 v0 rfl rfl) t0
  obtain ⟨a1, rfl, hd1, hp1, wf1⟩ := open_int Try.underlying30 (hval 1 30 v1 rfl rfl) t1
  clear hA0 hval0
  simp only [List.append_nil] at hW'
  have hlt0 : ∀ x ∈ p0, x.block < W.heap.size := fun x hx => hW'.lt x (List.mem_append_left _ hx)
  have hlt1 : ∀ x ∈ p1, x.block < W.heap.size := fun x hx => hW'.lt x (List.mem_append_right _ (hx))
  refine (walk v0 l0 a1 W hs0 hu0 wf1).mono fun e W' ⟨he, hb⟩ => ?_
  subst he
  have s0 := Below.trod laidOut (by kernel_rfl) (of_decide_eq_true (by kernel_rfl)) t0 hb hlt0
  have s1 := Below.trod laidOut (by kernel_rfl) (of_decide_eq_true (by kernel_rfl)) t1 hb hlt1
  exact ⟨_, rfl, _, _, _, [] ++ [], _, [], hW', trodAll_cons_mk (shut_bool Try.underlying4 _) trodAll_mk0, trodAll_cons_mk s0 (trodAll_cons_mk s1 (trodAll_mk0)), rfl, hb.frame _, fun h => by cases h⟩

theorem over : Rows.divideSmallsRow.holds Try.pinned (OpenSpec.ofChange Rows.divideSmallsSpec) :=
  OpenClaim.holds_of_wide 4 Try.f4 rfl rfl rfl rfl rfl rfl rfl ⟨rfl, rfl, rfl, rfl, rfl⟩ rfl rfl rfl rfl rfl (by kernel_rfl) Try.func4 (by kernel_rfl)
    (of_decide_eq_true (by kernel_rfl)) (by unfold Func.isWrapper; first | (rw [if_pos (by decide +kernel)]; kernel_rfl) | (rw [if_neg (by decide +kernel)]; exact ⟨rfl, rfl⟩))
    (fun os started H enc _ => lifted os started H enc)

/-- The statement. -/
theorem proved : Rows.DivideSmallsSaid := over
end Go.Proofs.Ytcgmbmiingppgaa.divideSmalls
