/- GcdMany: the greatest common divisor of any numbers is that of the document. Condition: the arguments can be read as data. -/
import Derived.Test.YtmaaedagflimcaaGcdT
namespace Go.Proofs.Ytmaaedagflimcaa.gcdMany
open Go.ChangeShapes Go.WideShapes Go.ChangeAt Go.RowKit Go.Proofs.Ytmaaedagflimcaa.num Go.Proofs.Ytmaaedagflimcaa.mem Go.Proofs.Ytmaaedagflimcaa.nat
set_option linter.unusedVariables false

theorem own : ownKnob Try.prog.godebug = none := by kernel_rfl
theorem laidOut : laidOutB Try.prog = true := by kernel_rfl
theorem cells_u : Try.prog.cellsOf 31 = 1 := by kernel_rfl
theorem cells_n : Try.prog.cellsOf 24 = 1 := by kernel_rfl

set_option maxHeartbeats 6400000 in
set_option maxRecDepth 100000 in
/-- The walk: the Go text returns true; what was there is as it was. -/
theorem walk (v0 : Value) (w : World) (h0 : ArgL w v0) :
    Calls Try.prog 3 #[v0] w (RetV (.bool true) w) := by
  obtain ⟨A2, nn, cc, rfl, hn2, hc2, hargs⟩ := h0
  have HA := Lib.hid hargs
  clear hargs
  unfold maxLen at hc2
  have B : Below w.heap.size w w := Below.refl _ _
  go_enter Try.func3, Try.ntmps3
  go_wp2
  go_loopw [3, 4, 5] (fun vo vw vi wr => ∃ (k : Nat) (vs : List Value) (xs : List Nat), k ≤ 5 ∧ k ≤ nn ∧ vs.length = k ∧ RowV wr w.heap.size 24 vo vs ∧ NumsFar wr vo vs xs ∧ IsS wr .u64 vw (digs 4294967296 (gcds xs)) ∧ Far vo vw ∧ Lens 4 xs ∧ (digs 4294967296 (gcds xs)).length ≤ 4 ∧ Below w.heap.size w wr ∧ vi = .int .i64 (k : Int)) (fun _ _ vi _ => nn - (intOf vi).toNat)
  case atStart =>
    refine ⟨0, [], [], by omega, by omega, rfl, (rowV_lit0 w w.heap.size _ (Nat.le_refl _)).below (below_alloc (Nat.le_refl _) _), NumsFar.nil _ _, ?_, ?_, by intro x hx; simp at hx, by rw [gcds_nil, digs_zero]; simp, below_alloc (Nat.le_refl _) _ |>.alloc (by simp) _, rfl⟩
    · rw [gcds_nil, digs_zero]; have hh := (own_lit0 (w.alloc (.cells #[] 24)) 0 31 .u64 (Nat.zero_le _)).isS; simpa using hh
    · exact (fresh_at (Nat.le_refl _)).far (fun g hg => by simp [Value.ownBlock] at hg; omega)
  case round =>
    obtain ⟨k, vs, xs, hk6, hkn, hvl, hrow, hnums, kw, fw, hpl, hgl, hb, rfl⟩ := hrel
    by_cases hlt : k < nn ∧ k < 5
    · obtain ⟨hlt1, hlt2⟩ := hlt
      obtain ⟨ad, u, lu, rfl, hcell, hu, hul⟩ := HA.out k hlt1
      replace hcell := (hb.cell (World.block_lt_of_cell? w _ hcell)).trans hcell
      replace hu := hu.below hb
      obtain ⟨Au, cu, rfl, _⟩ := id hu
      have HVL := Lib.hid hvl
      clear hvl
      go_wp2_with fail
      refine (clean_any _ lu _ 4 _ rfl hu hul (by omega)).mono ?_
      rintro e wa ⟨vx, rfl, kx, fx, ba⟩
      obtain ⟨y, hy⟩ : ∃ y, y = cleaned lu 4 := ⟨_, rfl⟩
      have my := cleaned_len lu 4
      rw [← hy] at kx my
      clear hy
      have fvx := fx.far hrow.under
      replace hrow := hrow.below ba
      replace hnums := hnums.below ba
      replace kw := kw.below ba
      replace hb := hb.trans (ba.mono hb.size)
      have hszb := hb.size
      obtain ⟨Ax, cx, rfl, _⟩ := id kx
      have HP : Hid (gcds (xs ++ [y]) = Nat.gcd (gcds xs) y) := gcds_snoc xs y
      have hpl2 := hpl.snoc my
      have hgl2 : (digs 4294967296 (gcds (xs ++ [y]))).length ≤ 4 := by rw [gcds_snoc]; exact gcd_len hgl my
      go_wp2_with (at_builtin; refine wpList_append_val rfl (.tmp 24) (.tmp 26) rfl Try.underlying22 info_nat rfl hrow rfl rfl (by have := HVL.out; omega) hszb ?_; intro v2 wb hrow2 hb2 HK)
      have hbb := hb.trans hb2
      refine (qgcd_any _ _ (gcds xs) y _ (HK.out _ _ _ kw fw).1 (HK.out _ _ _ kx fvx).1 (by omega) (by omega) _ HP.out (by omega)).mono ?_
      rintro e wc ⟨vw2, rfl, kw2, fw2, bc⟩
      have hnums2 := (hnums.snoc HK.out kx fvx).below bc
      have hvl2 : (vs ++ [Value.slice Ax (digs 4294967296 y).length cx]).length = k + 1 := by have := HVL.out; simp; omega
      have fw3 := fw2.far hrow2.under
      have hrow3 := hrow2.below bc
      have hbc := hbb.trans (bc.mono hbb.size)
      clear hrow hnums kw fw hb hszb hrow2 hb2 hbb
      go_wp2
      go_roundw
      case rel => exact ⟨k + 1, _, _, by omega, by omega, hvl2, hrow3, hnums2, kw2, fw3, hpl2, hgl2, hbc, by go_num⟩
      case measure => simp [intOf]; omega
    · have hend : (k < nn ∧ ¬ k < 5) ∨ ¬ k < nn := by omega
      have HVL := Lib.hid hvl
      have hN90 : Lens 90000 xs := fun x hx => Nat.le_trans (hpl x hx) (by omega)
      clear hvl hlt
      have hV := RowV.isV hrow
      have hN := hnums.1
      rcases hend with ⟨he1, he2⟩ | he1
      all_goals
      replace B := hb
      go_wp2_with fail
      refine (ggcd_any _ vs xs _ hV hN (by have := HVL.out; omega) hN90).mono ?_
      rintro e w1 ⟨g, rfl, k_g, f_g, b1⟩
      replace B := B.trans (b1.mono B.size)
      replace kw := kw.below b1
      replace hV := hV.below b1
      replace hN := hN.below b1
      go_wp2_with fail
      refine (same_one _ _ (gcds xs) _ k_g kw).mono ?_
      rintro e w2 ⟨rfl, b2⟩
      replace B := B.trans (b2.mono B.size)
      replace kw := kw.below b2
      replace hV := hV.below b2
      replace hN := hN.below b2
      replace k_g := k_g.below b2
      go_wp2_with fail
      refine (works5_any _).mono ?_
      rintro e w3 ⟨rfl, b3⟩
      replace B := B.trans (b3.mono B.size)
      replace kw := kw.below b3
      replace hV := hV.below b3
      replace hN := hN.below b3
      replace k_g := k_g.below b3
      go_wp2
      go_ret
      exact ⟨rfl, B⟩

set_option maxRecDepth 100000 in
theorem lifted (os : Os) (started : os.Started) (H : Type) (enc : TypeId × Value → H) :
    ReturnsInHanded {} Try.checked os 3 .any (Rows.gcdManySpec.pre6 enc Try.prog Try.f3 Rows.gcdManyRow.domain false) (Rows.gcdManySpec.post enc Try.prog Try.f3 false true false false) := by
  refine returnsInHanded_of_change (C := Try.checked) own started (by kernel_rfl) Try.func3
    (ChangeSpec.witness6 (enc := enc) (C := Try.checked) false ⟨#[], #[.slice none 0 0], []⟩ 8 (by kernel_rfl) (by kernel_rfl) (by kernel_rfl) (by kernel_rfl)) ?_
  intro W base args ds gs before hval0 hW hcnd _
  have hval : ∀ (j : Nat) t v, Try.f3.params[j]? = some t → args[j]? = some v → Value.okWide Try.prog W .any base t v := hval0
  have hW' := hW
  obtain ⟨p, q, hA0, hV, rfl, hfz, hnd⟩ := hW
  have hA : DataW.TrodAll enc Try.prog W 0 (fun _ => true) true Try.f3.params.toList args.toList ds p := hA0
  rw [Try.params3] at hA hval
  obtain ⟨v0, vs0, d0, ds0, p0, q0, hargs, rfl, rfl, t0, r0⟩ := trodAll_cons hA
  obtain ⟨rfl, rfl, rfl⟩ := trodAll_nil r0
  obtain rfl : args = #[v0] := by cases args; simp_all
  obtain ⟨rfl, rfl⟩ := trodVars_none hV
  have hs0 := arg_list Try.underlying22 Try.underlying24 Try.underlying31 cells_n cells_u (hval 0 22 v0 rfl rfl) t0
  clear hA0 hval0
  simp only [List.append_nil] at hW'
  have hlt0 : ∀ x ∈ p0, x.block < W.heap.size := fun x hx => hW'.lt x (hx)
  refine (walk v0 W hs0).mono fun e W' ⟨he, hb⟩ => ?_
  subst he
  have s0 := Below.trod laidOut (by kernel_rfl) (of_decide_eq_true (by kernel_rfl)) t0 hb hlt0
  exact ⟨_, rfl, _, _, _, [] ++ [], _, [], hW', trodAll_cons_mk (shut_bool Try.underlying4 _) trodAll_mk0, trodAll_cons_mk s0 (trodAll_mk0), rfl, hb.frame _, fun h => by cases h⟩

theorem over : Rows.gcdManyRow.holds Try.pinned (OpenSpec.ofChange Rows.gcdManySpec) :=
  OpenClaim.holds_of_wide 3 Try.f3 rfl rfl rfl rfl rfl rfl rfl ⟨rfl, rfl, rfl, rfl, rfl⟩ rfl rfl rfl rfl rfl (by kernel_rfl) Try.func3 (by kernel_rfl)
    (of_decide_eq_true (by kernel_rfl)) (by unfold Func.isWrapper; first | (rw [if_pos (by decide +kernel)]; kernel_rfl) | (rw [if_neg (by decide +kernel)]; exact ⟨rfl, rfl⟩))
    (fun os started H enc _ => lifted os started H enc)

/-- The statement. -/
theorem proved : Rows.GcdManySaid := over
end Go.Proofs.Ytmaaedagflimcaa.gcdMany
