/- The law NatBack returns true for any two lists of limbs and any int: what was added is taken off again, and what was shifted up comes down. No condition. -/
import Derived.Test.YtidmiimadaidjaaLawW
namespace Go.Proofs.Ytidmiimadaidjaa.natBack
open Go.ChangeShapes Go.WideShapes Go.ChangeAt Go.RowKit Go.Proofs.Ytidmiimadaidjaa.num Go.Proofs.Ytidmiimadaidjaa.mem Go.Proofs.Ytidmiimadaidjaa.nat
set_option linter.unusedVariables false

theorem own : ownKnob Try.prog.godebug = none := by kernel_rfl
theorem laidOut : laidOutB Try.prog = true := by kernel_rfl
theorem cells_u : Try.prog.cellsOf 23 = 1 := by kernel_rfl


set_option maxHeartbeats 6400000 in
set_option maxRecDepth 100000 in
/-- The walk: the Go text returns true; what was there is as it was. -/
theorem walk (v0 : Value) (l0 : List Nat) (v1 : Value) (l1 : List Nat) (a2 : Int) (w : World) (h0 : IsS w .u64 v0 l0) (u0 : Lt 18446744073709551616 l0) (h1 : IsS w .u64 v1 l1) (u1 : Lt 18446744073709551616 l1) (wf2 : (Lit.int .i64 a2).wf = true) :
    Calls Try.prog 7 #[v0, v1, .int .i64 a2] w (RetV (.bool true) w) := by
  have bn := bounds_i64 wf2
  clear wf2
  have B : Below w.heap.size w w := Below.refl _ _
  go_enter Try.func7, Try.ntmps7
  go_wp2_with fail
  refine (works_any _).mono ?_
  rintro e w1 ⟨rfl, b1⟩
  replace B := B.trans (b1.mono B.size)
  go_wp2_with fail
  refine (clean_any v0 l0 _ 24 _ rfl (h0.below B) u0 (by omega)).mono ?_
  rintro e w2 ⟨c0, rfl, k_c0, f_c0, b2⟩
  replace B := B.trans (b2.mono B.size)
  obtain ⟨x, hxx⟩ : ∃ x, x = cleaned l0 24 := ⟨_, rfl⟩
  have zx := cleaned_sz l0
  rw [← hxx] at k_c0 zx
  clear hxx
  have dx := dec_len x
  have mx := limb_len x
  go_wp2_with fail
  refine (clean_any v1 l1 _ 24 _ rfl (h1.below B) u1 (by omega)).mono ?_
  rintro e w3 ⟨c1, rfl, k_c1, f_c1, b3⟩
  replace B := B.trans (b3.mono B.size)
  replace k_c0 := k_c0.below b3
  obtain ⟨y, hxy⟩ : ∃ y, y = cleaned l1 24 := ⟨_, rfl⟩
  have zy := cleaned_sz l1
  rw [← hxy] at k_c1 zy
  clear hxy
  have dy := dec_len y
  have my := limb_len y
  have n1 := nbits_add x y
  have n2 := limb_len (x + y)
  go_wp2_with fail
  refine (add_any _ _ x y _ k_c0 k_c1 (x + y) rfl (by omega)).mono ?_
  rintro e w4 ⟨s1, rfl, k_s1, f_s1, b4⟩
  replace B := B.trans (b4.mono B.size)
  replace k_c0 := k_c0.below b4
  replace k_c1 := k_c1.below b4
  go_wp2_with fail
  refine (sub_ok _ _ (x + y) y _ k_s1 k_c1 (by omega) (by omega) x (by omega)).mono ?_
  rintro e w5 ⟨d, rfl, k_d, f_d, b5⟩
  replace B := B.trans (b5.mono B.size)
  replace k_c0 := k_c0.below b5
  replace k_c1 := k_c1.below b5
  replace k_s1 := k_s1.below b5
  go_wp2_with fail
  refine (same_one _ _ x _ k_d k_c0).mono ?_
  rintro e w6 ⟨rfl, b6⟩
  replace B := B.trans (b6.mono B.size)
  replace k_c0 := k_c0.below b6
  replace k_c1 := k_c1.below b6
  replace k_s1 := k_s1.below b6
  replace k_d := k_d.below b6
  rcases (show a2 < 0 ∨ 2000 < a2 ∨ (0 ≤ a2 ∧ a2 ≤ 2000) from by omega) with hc | hc | ⟨hc, hc2⟩
  · skip
    go_wp2
    go_ret
    exact ⟨rfl, B⟩
  · skip
    go_wp2
    go_ret
    exact ⟨rfl, B⟩
  · obtain ⟨n, rfl⟩ := Int.eq_ofNat_of_zero_le hc
    have hn2 : n ≤ 2000 := by omega
    have n3 := nbits_shift_le x n
    have n4 := limb_len (x * 2 ^ n)
    obtain ⟨p, hp⟩ : ∃ p, p = x * 2 ^ n := ⟨_, rfl⟩
    have HP := Lib.hid hp
    have HX : Hid (x = p / 2 ^ n) := by show _ = _; rw [hp, Nat.mul_div_cancel _ (Nat.pow_pos (by omega))]
    rw [← hp] at n3 n4
    clear hp
    go_wp2_with fail
    refine (shl_ok _ x _ n _ rfl k_c0 (by omega) (by omega) p HP.out).mono ?_
    rintro e w7 ⟨u, rfl, k_u, f_u, b7⟩
    replace B := B.trans (b7.mono B.size)
    replace k_c0 := k_c0.below b7
    replace k_c1 := k_c1.below b7
    replace k_s1 := k_s1.below b7
    replace k_d := k_d.below b7
    go_wp2_with fail
    refine (shr_ok _ p _ n _ rfl k_u (by omega) (by omega) x HX.out).mono ?_
    rintro e w8 ⟨d2, rfl, k_d2, f_d2, b8⟩
    replace B := B.trans (b8.mono B.size)
    replace k_c0 := k_c0.below b8
    replace k_c1 := k_c1.below b8
    replace k_s1 := k_s1.below b8
    replace k_d := k_d.below b8
    replace k_u := k_u.below b8
    go_wp2_with fail
    refine (same_one _ _ x _ k_d2 k_c0).mono ?_
    rintro e w9 ⟨rfl, b9⟩
    replace B := B.trans (b9.mono B.size)
    replace k_c0 := k_c0.below b9
    replace k_c1 := k_c1.below b9
    replace k_s1 := k_s1.below b9
    replace k_d := k_d.below b9
    replace k_u := k_u.below b9
    replace k_d2 := k_d2.below b9
    obtain ⟨A4, e4, rfl, _⟩ := id k_c0
    by_cases hx0 : 0 < x
    · have hl0 : 0 < (digs 4294967296 x).length := by have := (digs_len0 (B := 4294967296) (by omega) (x := x)).1; omega
      have hne : ¬ digs 4294967296 x = [] := by intro e; rw [e] at hl0; simp at hl0
      have hlb : (((digs 4294967296 x).length : Int) == 0) = false := by rw [beq_eq_false_iff_ne]; omega
      have HB : Hid (nbits x + n = nbits p) := by show _ = _; rw [HP.out, nbits_shift n hx0]
      have HT : Hid (tz x + n = tz p) := by show _ = _; rw [HP.out, Nat.mul_comm, tz_shift n hx0]; omega
      go_wp2_with fail
      refine (bits_any _ p (nbits x + n) _ k_u (by omega) HB.out).mono ?_
      rintro e w10 ⟨rfl, rfl⟩
      go_wp2_with fail
      refine (bits_any _ x (nbits x) _ k_c0 (by omega) rfl).mono ?_
      rintro e w11 ⟨rfl, rfl⟩
      have htz : tz x ≤ 768 := by
        have h1 := bits_ge_tz x
        omega
      go_wp2_with fail
      refine (zeros_any _ p (tz x + n) _ k_u (by omega) HT.out).mono ?_
      rintro e w12 ⟨rfl, rfl⟩
      go_wp2_with fail
      refine (zeros_any _ x (tz x) _ k_c0 (by omega) rfl).mono ?_
      rintro e w13 ⟨rfl, rfl⟩
      go_wp2
      go_ret
      exact ⟨rfl, B⟩
    · have hx1 : x = 0 := by omega
      subst hx1
      have hz : (digs 4294967296 0).length ≤ 0 := by rw [digs_zero]; simp
      have hze : digs 4294967296 0 = [] := digs_zero _
      go_wp2
      go_ret
      exact ⟨rfl, B⟩

set_option maxRecDepth 100000 in
theorem lifted (os : Os) (started : os.Started) (H : Type) (enc : TypeId × Value → H) :
    ReturnsInHanded {} Try.checked os 7 .any (Rows.natBackSpec.pre6 enc Try.prog Try.f7 Rows.natBackRow.domain false) (Rows.natBackSpec.post enc Try.prog Try.f7 false true false false) := by
  refine returnsInHanded_of_change (C := Try.checked) own started (by kernel_rfl) Try.func7
    (ChangeSpec.witness6 (enc := enc) (C := Try.checked) false ⟨#[], #[.slice none 0 0, .slice none 0 0, .int .i64 0], []⟩ 8 (by kernel_rfl) (by kernel_rfl) (by kernel_rfl) (by kernel_rfl)) ?_
  intro W base args ds gs before hval0 hW hcnd _
  have hval : ∀ (j : Nat) t v, Try.f7.params[j]? = some t → args[j]? = some v → Value.okWide Try.prog W .any base t v := hval0
  have hW' := hW
  obtain ⟨p, q, hA0, hV, rfl, hfz, hnd⟩ := hW
  have hA : DataW.TrodAll enc Try.prog W 0 (fun _ => true) true Try.f7.params.toList args.toList ds p := hA0
  rw [Try.params7] at hA hval
  obtain ⟨v0, vs0, d0, ds0, p0, q0, hargs, rfl, rfl, t0, r0⟩ := trodAll_cons hA
  obtain ⟨v1, vs1, d1, ds1, p1, q1, rfl, rfl, rfl, t1, r1⟩ := trodAll_cons r0
  obtain ⟨v2, vs2, d2, ds2, p2, q2, rfl, rfl, rfl, t2, r2⟩ := trodAll_cons r1
  obtain ⟨rfl, rfl, rfl⟩ := trodAll_nil r2
  obtain rfl : args = #[v0, v1, v2] := by cases args; simp_all
  obtain ⟨rfl, rfl⟩ := trodVars_none hV
  obtain ⟨l0, hs0, hu0⟩ := arg_nat Try.underlying24 Try.underlying23 cells_u (hval 0 24 v0 rfl rfl) t0
  obtain ⟨l1, hs1, hu1⟩ := arg_nat Try.underlying24 Try.underlying23 cells_u (hval 1 24 v1 rfl rfl) t1
  obtain ⟨a2, rfl, hd2, hp2, wf2⟩ := open_int Try.underlying3 (hval 2 3 v2 rfl rfl) t2
  clear hA0 hval0
  simp only [List.append_nil] at hW'
  have hlt0 : ∀ x ∈ p0, x.block < W.heap.size := fun x hx => hW'.lt x (List.mem_append_left _ hx)
  have hlt1 : ∀ x ∈ p1, x.block < W.heap.size := fun x hx => hW'.lt x (List.mem_append_right _ (List.mem_append_left _ hx))
  have hlt2 : ∀ x ∈ p2, x.block < W.heap.size := fun x hx => hW'.lt x (List.mem_append_right _ (List.mem_append_right _ (hx)))
  refine (walk v0 l0 v1 l1 a2 W hs0 hu0 hs1 hu1 wf2).mono fun e W' ⟨he, hb⟩ => ?_
  subst he
  have s0 := Below.trod laidOut (by kernel_rfl) (of_decide_eq_true (by kernel_rfl)) t0 hb hlt0
  have s1 := Below.trod laidOut (by kernel_rfl) (of_decide_eq_true (by kernel_rfl)) t1 hb hlt1
  have s2 := Below.trod laidOut (by kernel_rfl) (of_decide_eq_true (by kernel_rfl)) t2 hb hlt2
  exact ⟨_, rfl, _, _, _, [] ++ [], _, [], hW', trodAll_cons_mk (shut_bool Try.underlying4 _) trodAll_mk0, trodAll_cons_mk s0 (trodAll_cons_mk s1 (trodAll_cons_mk s2 (trodAll_mk0))), rfl, hb.frame _, fun h => by cases h⟩

theorem over : Rows.natBackRow.holds Try.pinned (OpenSpec.ofChange Rows.natBackSpec) :=
  OpenClaim.holds_of_wide 7 Try.f7 rfl rfl rfl rfl rfl rfl rfl ⟨rfl, rfl, rfl, rfl, rfl⟩ rfl rfl rfl rfl rfl (by kernel_rfl) Try.func7 (by kernel_rfl)
    (of_decide_eq_true (by kernel_rfl)) (by unfold Func.isWrapper; first | (rw [if_pos (by decide +kernel)]; kernel_rfl) | (rw [if_neg (by decide +kernel)]; exact ⟨rfl, rfl⟩))
    (fun os started H enc _ => lifted os started H enc)

/-- The statement. -/
theorem proved : Rows.NatBackSaid := over
end Go.Proofs.Ytidmiimadaidjaa.natBack
