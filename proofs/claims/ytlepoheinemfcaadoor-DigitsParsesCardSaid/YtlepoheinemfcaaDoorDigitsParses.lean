/- DigitsParses: any text by any base is the number that the document says, or refused. Condition: the arguments can be read as data. -/
import Derived.Test.YtlepoheinemfcaaDoorDigJ
import Derived.Test.YtlepoheinemfcaaDoorCards
import Derived.Test.YtlepoheinemfcaaDoorTie
import Derived.OpenShut
import Derived.LaidMore
import Derived.Lay
import Derived.SevenTiedAt
import Derived.Stop.Joined
namespace Go.Proofs.YtlepoheinemfcaaDoor.digitsParses
open Go.ChangeShapes Go.WideShapes Go.ChangeAt Go.RowKit Go.Proofs.YtlepoheinemfcaaDoor.num Go.Proofs.YtlepoheinemfcaaDoor.mem Go.Proofs.YtlepoheinemfcaaDoor.nat Go.Proofs.YtlepoheinemfcaaDoor.txt Go.Proofs.YtlepoheinemfcaaDoor.str
set_option linter.unusedVariables false

theorem own : ownKnob Tryd.prog.godebug = none := by kernel_rfl
theorem laidOut : laidOutB Tryd.prog = true := by kernel_rfl
theorem cells_u : Tryd.prog.cellsOf 38 = 1 := by kernel_rfl


set_option maxHeartbeats 6400000 in
set_option maxRecDepth 100000 in
/-- The walk: the Go text returns true; what was there is as it was. -/
theorem walk (S0 : ByteArray) (a1 : Int) (w : World) (z0 : S0.size ≤ maxLen) (wf1 : (Lit.int .i64 a1).wf = true) :
    Calls Tryd.prog 4 #[.string S0, .int .i64 a1] w (RetV (.bool true) w) := by
  unfold maxLen at z0
  obtain ⟨m, hm⟩ : ∃ m, m = S0.data.toList.take 120 := ⟨_, rfl⟩
  have hml : m.length ≤ 1000 := by rw [hm, List.length_take]; omega
  obtain ⟨G, HG, HF, HR⟩ : ∃ G : Nat → Int → Prop, Hid (∀ x e y f, G x e → G y f → y = x ∧ f = e) ∧ Hid (∀ (W : World) (S : ByteArray), StrIs S m → Calls Tryd.prog 12 #[.string S, .int .i64 a1] W (RetGG G W)) ∧ Hid (∀ (W : World) (S : ByteArray), StrIs S m → Calls Tryd.prog 13 #[.string S, .int .i64 a1] W (RetGG G W)) := by
    by_cases hb : 2 ≤ a1 ∧ a1 ≤ 36
    · obtain ⟨b, rfl⟩ := Int.eq_ofNat_of_zero_le (show 0 ≤ a1 by omega)
      exact ⟨FromR b m, fun _ _ _ _ h k => FromR.one h k, fun W S h => dfrom_any S m _ b W h hml rfl (by omega) (by omega), fun W S h => rfrom_any S m _ b W h hml rfl (by omega) (by omega)⟩
    · refine ⟨fun x e => x = 0 ∧ e = 2, fun _ _ _ _ h k => ⟨by rw [h.1, k.1], by rw [h.2, k.2]⟩, fun W S h => (dfrom_no S a1 W (by omega)).mono fun e w' hh => ⟨0, 2, ⟨rfl, rfl⟩, ?_⟩, fun W S h => (rfrom_no S a1 W (by omega)).mono fun e w' hh => ⟨0, 2, ⟨rfl, rfl⟩, ?_⟩⟩
      · rw [digs_zero]; exact hh
      · rw [digs_zero]; exact hh
  have HM := Lib.hid hm
  clear hm

  by_cases hlt : S0.size ≤ 120
  · have HS : Hid (StrIs S0 m) := by
      show _ = _
      rw [HM.out, List.take_of_length_le (by rw [← Lib.size_eq]; omega)]
    go_enter Tryd.func4, Tryd.ntmps4
    go_wp2_with fail
    refine (HF.out _ _ HS.out).mono ?_
    rintro e w1 ⟨x1, e1, g1, v1, rfl, k1, b1⟩
    go_wp2_with fail
    refine (HR.out _ _ HS.out).mono ?_
    rintro e w2 ⟨x2, e2, g2, v2, rfl, k2, b2⟩
    obtain ⟨q1, q2⟩ := HG.out _ _ _ _ g1 g2
    subst q1; subst q2
    have B2 := b1.trans (b2.mono b1.size)
    replace k1 := k1.below b2
    go_wp2_with fail
    refine (parse_any _ m _ HS.out hml).mono ?_
    rintro e w3 ⟨x3, e3, g3, v3, rfl, k3, b3⟩
    have B3 := B2.trans (b3.mono B2.size)
    replace k1 := k1.below b3
    replace k2 := k2.below b3
    go_wp2_with fail
    refine (rfrom_any _ m 10 10 _ HS.out hml rfl (by omega) (by omega)).mono ?_
    rintro e w4 ⟨x4, e4, g4, v4, rfl, k4, b4⟩
    obtain ⟨q3, q4⟩ := FromR.one g3 g4
    subst q3; subst q4
    have B4 := B3.trans (b4.mono B3.size)
    replace k1 := k1.below b4
    replace k2 := k2.below b4
    replace k3 := k3.below b4
    go_wp2_with fail
    refine (same_one _ _ _ _ k1 k2).mono ?_
    rintro e w5 ⟨rfl, b5⟩
    have B5 := B4.trans (b5.mono B4.size)
    replace k3 := k3.below b5
    replace k4 := k4.below b5
    go_wp2_with fail
    refine (same_one _ _ _ _ k3 k4).mono ?_
    rintro e w6 ⟨rfl, b6⟩
    have B6 := B5.trans (b6.mono B5.size)
    go_wp2_with fail
    refine (works6_any _).mono ?_
    rintro e w7 ⟨rfl, b7⟩
    go_wp2
    go_ret
    exact ⟨rfl, B6.trans (b7.mono B6.size)⟩
  · have HS : Hid (StrIs (S0.extract 0 120) m) := by
      show StrIs _ _
      rw [HM.out]
      exact (show StrIs S0 S0.data.toList from rfl).to_ 120
    go_enter Tryd.func4, Tryd.ntmps4
    go_wp2_with fail
    refine (HF.out _ _ HS.out).mono ?_
    rintro e w1 ⟨x1, e1, g1, v1, rfl, k1, b1⟩
    go_wp2_with fail
    refine (HR.out _ _ HS.out).mono ?_
    rintro e w2 ⟨x2, e2, g2, v2, rfl, k2, b2⟩
    obtain ⟨q1, q2⟩ := HG.out _ _ _ _ g1 g2
    subst q1; subst q2
    have B2 := b1.trans (b2.mono b1.size)
    replace k1 := k1.below b2
    go_wp2_with fail
    refine (parse_any _ m _ HS.out hml).mono ?_
    rintro e w3 ⟨x3, e3, g3, v3, rfl, k3, b3⟩
    have B3 := B2.trans (b3.mono B2.size)
    replace k1 := k1.below b3
    replace k2 := k2.below b3
    go_wp2_with fail
    refine (rfrom_any _ m 10 10 _ HS.out hml rfl (by omega) (by omega)).mono ?_
    rintro e w4 ⟨x4, e4, g4, v4, rfl, k4, b4⟩
    obtain ⟨q3, q4⟩ := FromR.one g3 g4
    subst q3; subst q4
    have B4 := B3.trans (b4.mono B3.size)
    replace k1 := k1.below b4
    replace k2 := k2.below b4
    replace k3 := k3.below b4
    go_wp2_with fail
    refine (same_one _ _ _ _ k1 k2).mono ?_
    rintro e w5 ⟨rfl, b5⟩
    have B5 := B4.trans (b5.mono B4.size)
    replace k3 := k3.below b5
    replace k4 := k4.below b5
    go_wp2_with fail
    refine (same_one _ _ _ _ k3 k4).mono ?_
    rintro e w6 ⟨rfl, b6⟩
    have B6 := B5.trans (b6.mono B5.size)
    go_wp2_with fail
    refine (works6_any _).mono ?_
    rintro e w7 ⟨rfl, b7⟩
    go_wp2
    go_ret
    exact ⟨rfl, B6.trans (b7.mono B6.size)⟩

set_option maxRecDepth 100000 in
theorem lifted (os : Os) (started : os.Started) (H : Type) (enc : TypeId × Value → H) :
    ReturnsInHanded {} Tryd.checked os 4 .any (fun w args => (Rows.digitsParsesSpec.pre enc Tryd.prog Tryd.f4 Rows.digitsParsesRow.domain false w args ∧ laidMetH Tryd.prog Rows.digitsParsesRow.laid w) ∧ sizedMet enc Tryd.prog Tryd.f4 (OpenSpec.ofChange Rows.digitsParsesSpec) false w args)
      (Rows.digitsParsesSpec.post enc Tryd.prog Tryd.f4 false true false false) := by
  refine returnsInHanded_of_change_and (C := Tryd.checked) (X := fun w _ => laidMetH Tryd.prog Rows.digitsParsesRow.laid w) (fun _ _ _ hh h => h.of_heap hh) own started (by kernel_rfl) Tryd.func4
    (ChangeSpec.witness_shaped (enc := enc) (C := Tryd.checked) (os := os) (X := fun w _ => laidMetH Tryd.prog Rows.digitsParsesRow.laid w) false (World.laidAll Tryd.prog os Rows.digitsParsesRow.laid) #[.string ⟨#[]⟩, .int .i64 0] 8 (World.laidAll_os _ _ _)
      (World.shaped_of_ZipB (by kernel_rfl) (by kernel_rfl)) (by kernel_rfl) (by kernel_rfl) (by kernel_rfl)
      (by rw [MakeChecks.laidMetH_plain _ _ _ (by kernel_rfl)]; exact laidMet_laidAll _ (by kernel_rfl) (by kernel_rfl))) ?_
  intro W base args ds gs before hval0 hW hcnd _ hL _
  have hval : ∀ (j : Nat) t v, Tryd.f4.params[j]? = some t → args[j]? = some v → Value.okWide Tryd.prog W .any base t v := hval0
  have hW' := hW
  obtain ⟨p, q, hA0, hV, rfl, hfz, hnd⟩ := hW
  have hA : DataW.TrodAll enc Tryd.prog W 0 (fun _ => true) true Tryd.f4.params.toList args.toList ds p := hA0
  rw [Tryd.params4] at hA hval
  obtain ⟨v0, vs0, d0, ds0, p0, q0, hargs, rfl, rfl, t0, r0⟩ := trodAll_cons hA
  obtain ⟨v1, vs1, d1, ds1, p1, q1, rfl, rfl, rfl, t1, r1⟩ := trodAll_cons r0
  obtain ⟨rfl, rfl, rfl⟩ := trodAll_nil r1
  obtain rfl : args = #[v0, v1] := by cases args; simp_all
  obtain ⟨rfl, rfl⟩ := trodVars_none hV
  obtain ⟨S0, rfl, hd0, hp0, hs0⟩ := Go.ChangeMaps.open_string Tryd.underlying9 (hval 0 9 v0 rfl rfl) t0
  obtain ⟨a1, rfl, hd1, hp1, wf1⟩ := open_int Tryd.underlying3 (hval 1 3 v1 rfl rfl) t1
  clear hA0 hval0
  simp only [List.append_nil] at hW'
  have hlt0 : ∀ x ∈ p0, x.block < W.heap.size := fun x hx => hW'.lt x (List.mem_append_left _ hx)
  have hlt1 : ∀ x ∈ p1, x.block < W.heap.size := fun x hx => hW'.lt x (List.mem_append_right _ (hx))
  refine (walk S0 a1 W hs0 wf1).mono fun e W' ⟨he, hb⟩ => ?_
  subst he
  have s0 := Below.trod laidOut (by kernel_rfl) (of_decide_eq_true (by kernel_rfl)) t0 hb hlt0
  have s1 := Below.trod laidOut (by kernel_rfl) (of_decide_eq_true (by kernel_rfl)) t1 hb hlt1
  exact ⟨_, rfl, _, _, _, [] ++ [], _, [], hW', trodAll_cons_mk (shut_bool Tryd.underlying4 _) trodAll_mk0, trodAll_cons_mk s0 (trodAll_cons_mk s1 (trodAll_mk0)), rfl, hb.frame _, fun h => by cases h⟩

theorem over : Rows.digitsParsesRow.holds Tryd.pinned (OpenSpec.ofChange Rows.digitsParsesSpec) :=
  OpenClaim.holds_of_wide 4 Tryd.f4 rfl rfl rfl rfl rfl rfl rfl ⟨rfl, rfl, rfl, rfl, rfl⟩ rfl rfl rfl rfl rfl (by kernel_rfl) Tryd.func4 (by kernel_rfl)
    (of_decide_eq_true (by kernel_rfl)) (by unfold Func.isWrapper; first | (rw [if_pos (by decide +kernel)]; kernel_rfl) | (rw [if_neg (by decide +kernel)]; exact ⟨rfl, rfl⟩))
    (fun os started H enc _ => lifted os started H enc)

/-- The statement: the card. -/
theorem proved : Rows.DigitsParsesCardSaid :=
  Claim7.holds_tied_plain_at .later [] [.data, .pinned] true _ false over (fun _ h => by cases h) (by kernel_rfl) (fun _ h => by cases h) digitsParses_row_tie rfl ⟨rfl, rfl⟩ (by kernel_rfl) rfl
    (fun f fn hf hfn => by
      obtain rfl : f = 4 := Option.some.inj ((show Tryd.prog.funcNamed Rows.digitsParsesRow.func = some 4 by kernel_rfl).symm.trans hf) |>.symm
      obtain rfl : fn = Tryd.f4 := (Option.some.inj (Tryd.func4.symm.trans hfn)).symm
      exact ⟨by kernel_rfl, fun j t ht => by
        rw [Tryd.params4] at ht
        have hm : t ∈ [9, 3] := by simpa using Array.mem_of_getElem? ht
        have hall : ([9, 3].all fun u => !Tryd.prog.wantsStandIn u) = true := by kernel_rfl
        exact (show Tryd.prog.wantsStandIn t = false by simpa using List.all_eq_true.1 hall t hm)⟩)
    (by kernel_rfl)
end Go.Proofs.YtlepoheinemfcaaDoor.digitsParses
