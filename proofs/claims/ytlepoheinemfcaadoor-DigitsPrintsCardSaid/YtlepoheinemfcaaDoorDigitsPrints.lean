/- DigitsPrints: the digits of any number by any base are those of the document, or it is refused. Condition: the arguments can be read as data. -/
import Derived.Test.YtlepoheinemfcaaDoorDigJ
import Derived.Test.YtlepoheinemfcaaDoorCards
import Derived.Test.YtlepoheinemfcaaDoorTie
import Derived.OpenShut
import Derived.LaidMore
import Derived.Lay
import Derived.SevenTiedAt
import Derived.Stop.Joined
namespace Go.Proofs.YtlepoheinemfcaaDoor.digitsPrints
open Go.ChangeShapes Go.WideShapes Go.ChangeAt Go.RowKit Go.Proofs.YtlepoheinemfcaaDoor.num Go.Proofs.YtlepoheinemfcaaDoor.mem Go.Proofs.YtlepoheinemfcaaDoor.nat Go.Proofs.YtlepoheinemfcaaDoor.txt Go.Proofs.YtlepoheinemfcaaDoor.str
set_option linter.unusedVariables false

theorem own : ownKnob Tryd.prog.godebug = none := by kernel_rfl
theorem laidOut : laidOutB Tryd.prog = true := by kernel_rfl
theorem cells_u : Tryd.prog.cellsOf 38 = 1 := by kernel_rfl


set_option maxHeartbeats 6400000 in
set_option maxRecDepth 100000 in
/-- The walk: the Go text returns true; what was there is as it was. -/
theorem walk (v0 : Value) (l0 : List Nat) (a1 : Int) (w : World) (h0 : IsS w .u64 v0 l0) (u0 : Lt 18446744073709551616 l0) (wf1 : (Lit.int .i64 a1).wf = true) :
    Calls Tryd.prog 3 #[v0, .int .i64 a1] w (RetV (.bool true) w) := by
  obtain ⟨y, hy⟩ : ∃ y, y = cleaned l0 12 := ⟨_, rfl⟩
  have my := cleaned_len l0 12
  rw [← hy] at my
  obtain ⟨t0, x0, HI, HR⟩ : ∃ (t0 : List UInt8) (x0 : Int), Hid (∀ (W : World) (v : Value), IsS W .u64 v (digs 4294967296 y) → Calls Tryd.prog 7 #[v, .int .i64 a1] W (RetStrE t0 x0 W)) ∧ Hid (∀ (W : World) (v : Value), IsS W .u64 v (digs 4294967296 y) → Calls Tryd.prog 8 #[v, .int .i64 a1] W (RetStrE t0 x0 W)) := by
    by_cases hb : 2 ≤ a1 ∧ a1 ≤ 36
    · obtain ⟨b, rfl⟩ := Int.eq_ofNat_of_zero_le (show 0 ≤ a1 by omega)
      exact ⟨txt b y, 0, fun W v h => din_ok v y _ b W h (by omega) rfl (by omega) (by omega), fun W v h => rin_ok v y _ b W h (by omega) rfl (by omega) (by omega)⟩
    · exact ⟨[], 2, fun W v h => din_no v a1 W (by omega), fun W v h => rin_no v a1 W (by omega)⟩
  go_enter Tryd.func3, Tryd.ntmps3
  go_wp2_with fail
  refine (clean_any v0 l0 _ 12 _ rfl h0 u0 (by omega)).mono ?_
  rintro e w1 ⟨c0, rfl, k0, f0, b1⟩
  rw [← hy] at k0
  clear hy
  obtain ⟨A, c, rfl, _⟩ := id k0
  go_wp2_with fail
  refine (HI.out _ _ k0).mono ?_
  rintro e w2 ⟨R1, rfl, hR1, b2⟩
  replace k0 := k0.below b2
  have B2 := b1.trans (b2.mono b1.size)
  go_wp2_with fail
  refine (HR.out _ _ k0).mono ?_
  rintro e w3 ⟨R2, rfl, hR2, b3⟩
  replace k0 := k0.below b3
  have B3 := B2.trans (b3.mono B2.size)
  have e2 : R1 = R2 := hR1.eq hR2
  subst e2
  go_wp2_with fail
  refine (rin_ok _ y 10 10 _ k0 (by omega) rfl (by omega) (by omega)).mono ?_
  rintro e w4 ⟨R3, rfl, hR3, b4⟩
  replace k0 := k0.below b4
  have B4 := B3.trans (b4.mono B3.size)
  go_wp2_with fail
  refine (print_any _ y _ k0 (by omega)).mono ?_
  rintro e w5 ⟨R4, rfl, hR4, b5⟩
  replace k0 := k0.below b5
  have B5 := B4.trans (b5.mono B4.size)
  have e3 : R3 = R4 := hR3.eq hR4
  subst e3
  have HN : Hid ((R3.size : Int) = ((txt 10 y).length : Int)) := by show _ = _; rw [hR3.size]
  go_wp2_with fail
  refine (count_any _ y (R3.size : Int) _ k0 (by omega) HN.out).mono ?_
  rintro e w6 ⟨rfl, b6⟩
  have B6 := B5.trans (b6.mono B5.size)
  go_wp2_with fail
  refine (works6_any _).mono ?_
  rintro e w7 ⟨rfl, b7⟩
  go_wp2
  go_ret
  exact ⟨rfl, B6.trans (b7.mono B6.size)⟩

set_option maxRecDepth 100000 in
theorem lifted (os : Os) (started : os.Started) (H : Type) (enc : TypeId × Value → H) :
    ReturnsInHanded {} Tryd.checked os 3 .any (fun w args => (Rows.digitsPrintsSpec.pre enc Tryd.prog Tryd.f3 Rows.digitsPrintsRow.domain false w args ∧ laidMetH Tryd.prog Rows.digitsPrintsRow.laid w) ∧ sizedMet enc Tryd.prog Tryd.f3 (OpenSpec.ofChange Rows.digitsPrintsSpec) false w args)
      (Rows.digitsPrintsSpec.post enc Tryd.prog Tryd.f3 false true false false) := by
  refine returnsInHanded_of_change_and (C := Tryd.checked) (X := fun w _ => laidMetH Tryd.prog Rows.digitsPrintsRow.laid w) (fun _ _ _ hh h => h.of_heap hh) own started (by kernel_rfl) Tryd.func3
    (ChangeSpec.witness_shaped (enc := enc) (C := Tryd.checked) (os := os) (X := fun w _ => laidMetH Tryd.prog Rows.digitsPrintsRow.laid w) false (World.laidAll Tryd.prog os Rows.digitsPrintsRow.laid) #[.slice none 0 0, .int .i64 0] 8 (World.laidAll_os _ _ _)
      (World.shaped_of_ZipB (by kernel_rfl) (by kernel_rfl)) (by kernel_rfl) (by kernel_rfl) (by kernel_rfl)
      (by rw [MakeChecks.laidMetH_plain _ _ _ (by kernel_rfl)]; exact laidMet_laidAll _ (by kernel_rfl) (by kernel_rfl))) ?_
  intro W base args ds gs before hval0 hW hcnd _ hL _
  have hval : ∀ (j : Nat) t v, Tryd.f3.params[j]? = some t → args[j]? = some v → Value.okWide Tryd.prog W .any base t v := hval0
  have hW' := hW
  obtain ⟨p, q, hA0, hV, rfl, hfz, hnd⟩ := hW
  have hA : DataW.TrodAll enc Tryd.prog W 0 (fun _ => true) true Tryd.f3.params.toList args.toList ds p := hA0
  rw [Tryd.params3] at hA hval
  obtain ⟨v0, vs0, d0, ds0, p0, q0, hargs, rfl, rfl, t0, r0⟩ := trodAll_cons hA
  obtain ⟨v1, vs1, d1, ds1, p1, q1, rfl, rfl, rfl, t1, r1⟩ := trodAll_cons r0
  obtain ⟨rfl, rfl, rfl⟩ := trodAll_nil r1
  obtain rfl : args = #[v0, v1] := by cases args; simp_all
  obtain ⟨rfl, rfl⟩ := trodVars_none hV
  obtain ⟨l0, hs0, hu0⟩ := arg_nat Tryd.underlying23 Tryd.underlying38 cells_u (hval 0 23 v0 rfl rfl) t0
  obtain ⟨a1, rfl, hd1, hp1, wf1⟩ := open_int Tryd.underlying3 (hval 1 3 v1 rfl rfl) t1
  clear hA0 hval0
  simp only [List.append_nil] at hW'
  have hlt0 : ∀ x ∈ p0, x.block < W.heap.size := fun x hx => hW'.lt x (List.mem_append_left _ hx)
  have hlt1 : ∀ x ∈ p1, x.block < W.heap.size := fun x hx => hW'.lt x (List.mem_append_right _ (hx))
  refine (walk v0 l0 a1 W hs0 hu0 wf1).mono fun e W' ⟨he, hb⟩ => ?_
  subst he
  have s0 := Below.trod laidOut (by kernel_rfl) (of_decide_eq_true (by kernel_rfl)) t0 hb hlt0
  have s1 := Below.trod laidOut (by kernel_rfl) (of_decide_eq_true (by kernel_rfl)) t1 hb hlt1
  exact ⟨_, rfl, _, _, _, [] ++ [], _, [], hW', trodAll_cons_mk (shut_bool Tryd.underlying4 _) trodAll_mk0, trodAll_cons_mk s0 (trodAll_cons_mk s1 (trodAll_mk0)), rfl, hb.frame _, fun h => by cases h⟩

theorem over : Rows.digitsPrintsRow.holds Tryd.pinned (OpenSpec.ofChange Rows.digitsPrintsSpec) :=
  OpenClaim.holds_of_wide 3 Tryd.f3 rfl rfl rfl rfl rfl rfl rfl ⟨rfl, rfl, rfl, rfl, rfl⟩ rfl rfl rfl rfl rfl (by kernel_rfl) Tryd.func3 (by kernel_rfl)
    (of_decide_eq_true (by kernel_rfl)) (by unfold Func.isWrapper; first | (rw [if_pos (by decide +kernel)]; kernel_rfl) | (rw [if_neg (by decide +kernel)]; exact ⟨rfl, rfl⟩))
    (fun os started H enc _ => lifted os started H enc)

/-- The statement: the card. -/
theorem proved : Rows.DigitsPrintsCardSaid :=
  Claim7.holds_tied_plain_at .later [] [.data, .pinned] true _ false over (fun _ h => by cases h) (by kernel_rfl) (fun _ h => by cases h) digitsPrints_row_tie rfl ⟨rfl, rfl⟩ (by kernel_rfl) rfl
    (fun f fn hf hfn => by
      obtain rfl : f = 3 := Option.some.inj ((show Tryd.prog.funcNamed Rows.digitsPrintsRow.func = some 3 by kernel_rfl).symm.trans hf) |>.symm
      obtain rfl : fn = Tryd.f3 := (Option.some.inj (Tryd.func3.symm.trans hfn)).symm
      exact ⟨by kernel_rfl, fun j t ht => by
        rw [Tryd.params3] at ht
        have hm : t ∈ [23, 3] := by simpa using Array.mem_of_getElem? ht
        have hall : ([23, 3].all fun u => !Tryd.prog.wantsStandIn u) = true := by kernel_rfl
        exact (show Tryd.prog.wantsStandIn t = false by simpa using List.all_eq_true.1 hall t hm)⟩)
    (by kernel_rfl)
end Go.Proofs.YtlepoheinemfcaaDoor.digitsPrints
