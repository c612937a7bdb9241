/- DigitsBack: what was printed is read, by each base, and what is read, printed again, is the text without the noughts ahead. Condition: the arguments can be read as data. -/
import Derived.Test.YtlepoheinemfcaaDoorDigJ
import Derived.Test.YtlepoheinemfcaaDoorCards
import Derived.Test.YtlepoheinemfcaaDoorTie
import Derived.OpenShut
import Derived.LaidMore
import Derived.Lay
import Derived.SevenTiedAt
import Derived.Stop.Joined
namespace Go.Proofs.YtlepoheinemfcaaDoor.digitsBack
open Go.ChangeShapes Go.WideShapes Go.ChangeAt Go.RowKit Go.Proofs.YtlepoheinemfcaaDoor.num Go.Proofs.YtlepoheinemfcaaDoor.mem Go.Proofs.YtlepoheinemfcaaDoor.nat Go.Proofs.YtlepoheinemfcaaDoor.txt Go.Proofs.YtlepoheinemfcaaDoor.str
set_option linter.unusedVariables false

theorem own : ownKnob Tryd.prog.godebug = none := by kernel_rfl
theorem laidOut : laidOutB Tryd.prog = true := by kernel_rfl
theorem cells_u : Tryd.prog.cellsOf 38 = 1 := by kernel_rfl


set_option maxHeartbeats 6400000 in
set_option maxRecDepth 100000 in
/-- The walk: the Go text returns true; what was there is as it was. -/
theorem walk (v0 : Value) (l0 : List Nat) (a1 : Int) (S2 : ByteArray) (w : World) (h0 : IsS w .u64 v0 l0) (u0 : Lt 18446744073709551616 l0) (wf1 : (Lit.int .u8 a1).wf = true) (z2 : S2.size ≤ maxLen) :
    Calls Tryd.prog 5 #[v0, .int .u8 a1, .string S2] w (RetV (.bool true) w) := by
  unfold maxLen at z2
  have hw1 : 0 ≤ a1 ∧ a1 ≤ 255 := by simpa [Lit.wf, IntKind.min, IntKind.max, IntKind.signed, IntKind.bits] using wf1
  obtain ⟨hw2, hw3⟩ := hw1
  obtain ⟨b, hb⟩ : ∃ b : Nat, (2 : Int) + a1 % 35 = (b : Int) := ⟨(2 + a1 % 35).toNat, by omega⟩
  have b2 : 2 ≤ b := by omega
  have b36 : b ≤ 36 := by omega
  have HB := Lib.hid hb
  clear hb
  obtain ⟨y, hy⟩ : ∃ y, y = cleaned l0 30 := ⟨_, rfl⟩
  have my := cleaned_len l0 30
  rw [← hy] at my
  have HY : Hid (cleaned l0 30 = y) := hy.symm
  have htl : (txt b y).length ≤ 1000 := txt_len b2 my
  obtain ⟨m, hm⟩ : ∃ m, m = S2.data.toList.take 120 := ⟨_, rfl⟩
  have hml2 : m.length ≤ 120 := by rw [hm, List.length_take]; omega
  have hml : m.length ≤ 1000 := by omega
  have HM := Lib.hid hm
  clear hm hy
  by_cases hlt : S2.size ≤ 120
  · have HS0 : Hid (StrIs S2 m) := by
      show _ = _
      rw [HM.out, List.take_of_length_le (by rw [← Lib.size_eq]; omega)]
    have hl1 : ((120 : Int) < (S2.size : Int)) = False := eq_false (by omega)
    go_enter Tryd.func5, Tryd.ntmps5
    go_wp2_with fail
    refine (works6_any _).mono ?_
    rintro e w1 ⟨rfl, b0⟩
    have h0c := h0.below b0
    go_wp2
    go_region_law (first
      | (go_simp; go_at_call 6; refine (clean_any v0 l0 _ 30 _ rfl h0c.drew u0 (by omega)).mono ?_; rintro e w2 ⟨c0, rfl, k0, f0, b1⟩))
    all_goals
      rw [HY.out] at k0
      have B1 := b0.drew.trans (b1.mono b0.size)
      have HS : Hid (StrIs S2 m) := HS0
      generalize S2 = S at HS ⊢
      clear HS0
      obtain ⟨A, c, rfl, _⟩ := id k0
      go_wp2_with fail
      refine (din_ok _ y _ b _ k0 (by omega) HB.out b2 b36).mono ?_
      rintro e w3 ⟨R1, rfl, hR1, b3⟩
      replace k0 := k0.below b3
      have B3 := B1.trans (b3.mono B1.size)
      go_wp2_with fail
      refine (dfrom_any R1 (txt b y) _ b _ hR1 htl HB.out b2 b36).mono ?_
      rintro e w4 ⟨x1, e1, g1, v1, rfl, k1, b4⟩
      obtain ⟨q1, q2⟩ := FromR.one (.inl ⟨txt_ok b2 b36 y, (num_txt b2 b36 y).symm, rfl⟩) g1
      subst q1; subst q2
      replace k0 := k0.below b4
      have B4 := B3.trans (b4.mono B3.size)
      go_wp2_with fail
      refine (same_one _ _ _ _ k0 k1).mono ?_
      rintro e w5 ⟨rfl, b5⟩
      have B5 := B4.trans (b5.mono B4.size)
      go_wp2_with fail
      refine (dfrom_any S m _ b _ HS.out hml HB.out b2 b36).mono ?_
      rintro e w6 ⟨x2, e2, g2, v2, rfl, k2, b6⟩
      have B6 := B5.trans (b6.mono B5.size)
      rcases g2 with ⟨hok, q3, q4⟩ | ⟨hok, q3, q4⟩
      · have hx2 : (digs 4294967296 x2).length ≤ 150 := by rw [q3]; exact Nat.le_trans (numS_len b36 hok) (by omega)
        have HX := Lib.hid q3
        subst q4
        clear q3
        go_wp2_with fail
        refine (din_ok _ x2 _ b _ k2 hx2 HB.out b2 b36).mono ?_
        rintro e w7 ⟨R3, rfl, hR3, b7⟩
        rw [HX.out] at hR3
        have B7 := B6.trans (b7.mono B6.size)
        have HSZ : Hid (S.size = m.length) := HS.out.size
        have hL0 : Led b m 0 := Led.start hok.1
        go_wp2
        go_loop [16] (fun vn => ∃ n : Nat, Hid (Led b m n) ∧ n < S.size ∧ vn = .int .i64 (n : Int)) (fun vn => S.size - (intOf vn).toNat)
        case atStart => exact ⟨0, hL0, by have h1 := HSZ.out; have h2 := hL0.1; omega, rfl⟩
        case round =>
          clear hL0
          obtain ⟨n, HLd, hn, rfl⟩ := hrel
          have hS1 : S.size ≤ 1000 := by have h1 := HSZ.out; omega
          have hat := HS.out.at_ hn
          have hfrom := HS.out.from_ n
          by_cases hlt : n + 1 < S.size
          · have hlI : (n : Int) + 1 < (S.size : Int) := by omega
            have hlD : decide ((n : Int) + 1 < (S.size : Int)) = true := decide_eq_true hlI
            by_cases hc : S[n]'hn = 48
            · have hc1 : (((S[n]'hn).toNat : Int) == 48) = true := by rw [hc]; rfl
              have HL2 := Lib.hid (HLd.out.step (by have h1 := HSZ.out; omega) (by rw [hat, hc]))
              clear hat hc hfrom
              go_wp2
              go_round
              case rel => exact ⟨n + 1, HL2, hlt, by go_num⟩
              case measure => simp [intOf]; omega
            · have hc1 : (((S[n]'hn).toNat : Int) == 48) = false := by
                rw [beq_eq_false_iff_ne]
                intro e
                exact hc (UInt8.toNat_inj.1 (by exact_mod_cast e))
              have hd := HLd.out.done b2 b36 hok (.inr ⟨_, hat, hc⟩)
              have hcmp : (R3.toList == (S.extract n S.size).toList) = true := by rw [hR3.beq hfrom, hd]; simp
              clear hat hc hfrom hd
              go_wp2
              go_ret
              exact ⟨rfl, B7⟩
          · have hlD : decide ((n : Int) + 1 < (S.size : Int)) = false := decide_eq_false (by omega)
            have hd := HLd.out.done b2 b36 hok (.inl (by have h1 := HSZ.out; omega))
            have hcmp : (R3.toList == (S.extract n S.size).toList) = true := by rw [hR3.beq hfrom, hd]; simp
            clear hat hfrom hd
            go_wp2
            go_ret
            exact ⟨rfl, B7⟩
      · subst q3; subst q4
        rw [digs_zero] at k2
        obtain ⟨A2, c2, rfl, _⟩ := k2
        go_wp2
        go_ret
        exact ⟨rfl, B6⟩
  · have HS0 : Hid (StrIs (S2.extract 0 120) m) := by
      show StrIs _ _
      rw [HM.out]
      exact (show StrIs S2 S2.data.toList from rfl).to_ 120
    have hl1 : (120 : Int) < (S2.size : Int) := by omega
    have hl2 : (120 : Int) ≤ (S2.size : Int) := by omega
    go_enter Tryd.func5, Tryd.ntmps5
    go_wp2_with fail
    refine (works6_any _).mono ?_
    rintro e w1 ⟨rfl, b0⟩
    have h0c := h0.below b0
    go_wp2
    go_region_law (first
      | (go_simp; go_at_call 6; refine (clean_any v0 l0 _ 30 _ rfl h0c.drew u0 (by omega)).mono ?_; rintro e w2 ⟨c0, rfl, k0, f0, b1⟩))
    all_goals
      rw [HY.out] at k0
      have B1 := b0.drew.trans (b1.mono b0.size)
      have HS : Hid (StrIs (S2.extract 0 120) m) := HS0
      generalize (S2.extract 0 120) = S at HS ⊢
      clear HS0
      obtain ⟨A, c, rfl, _⟩ := id k0
      go_wp2_with fail
      refine (din_ok _ y _ b _ k0 (by omega) HB.out b2 b36).mono ?_
      rintro e w3 ⟨R1, rfl, hR1, b3⟩
      replace k0 := k0.below b3
      have B3 := B1.trans (b3.mono B1.size)
      go_wp2_with fail
      refine (dfrom_any R1 (txt b y) _ b _ hR1 htl HB.out b2 b36).mono ?_
      rintro e w4 ⟨x1, e1, g1, v1, rfl, k1, b4⟩
      obtain ⟨q1, q2⟩ := FromR.one (.inl ⟨txt_ok b2 b36 y, (num_txt b2 b36 y).symm, rfl⟩) g1
      subst q1; subst q2
      replace k0 := k0.below b4
      have B4 := B3.trans (b4.mono B3.size)
      go_wp2_with fail
      refine (same_one _ _ _ _ k0 k1).mono ?_
      rintro e w5 ⟨rfl, b5⟩
      have B5 := B4.trans (b5.mono B4.size)
      go_wp2_with fail
      refine (dfrom_any S m _ b _ HS.out hml HB.out b2 b36).mono ?_
      rintro e w6 ⟨x2, e2, g2, v2, rfl, k2, b6⟩
      have B6 := B5.trans (b6.mono B5.size)
      rcases g2 with ⟨hok, q3, q4⟩ | ⟨hok, q3, q4⟩
      · have hx2 : (digs 4294967296 x2).length ≤ 150 := by rw [q3]; exact Nat.le_trans (numS_len b36 hok) (by omega)
        have HX := Lib.hid q3
        subst q4
        clear q3
        go_wp2_with fail
        refine (din_ok _ x2 _ b _ k2 hx2 HB.out b2 b36).mono ?_
        rintro e w7 ⟨R3, rfl, hR3, b7⟩
        rw [HX.out] at hR3
        have B7 := B6.trans (b7.mono B6.size)
        have HSZ : Hid (S.size = m.length) := HS.out.size
        have hL0 : Led b m 0 := Led.start hok.1
        go_wp2
        go_loop [16] (fun vn => ∃ n : Nat, Hid (Led b m n) ∧ n < S.size ∧ vn = .int .i64 (n : Int)) (fun vn => S.size - (intOf vn).toNat)
        case atStart => exact ⟨0, hL0, by have h1 := HSZ.out; have h2 := hL0.1; omega, rfl⟩
        case round =>
          clear hL0
          obtain ⟨n, HLd, hn, rfl⟩ := hrel
          have hS1 : S.size ≤ 1000 := by have h1 := HSZ.out; omega
          have hat := HS.out.at_ hn
          have hfrom := HS.out.from_ n
          by_cases hlt : n + 1 < S.size
          · have hlI : (n : Int) + 1 < (S.size : Int) := by omega
            have hlD : decide ((n : Int) + 1 < (S.size : Int)) = true := decide_eq_true hlI
            by_cases hc : S[n]'hn = 48
            · have hc1 : (((S[n]'hn).toNat : Int) == 48) = true := by rw [hc]; rfl
              have HL2 := Lib.hid (HLd.out.step (by have h1 := HSZ.out; omega) (by rw [hat, hc]))
              clear hat hc hfrom
              go_wp2
              go_round
              case rel => exact ⟨n + 1, HL2, hlt, by go_num⟩
              case measure => simp [intOf]; omega
            · have hc1 : (((S[n]'hn).toNat : Int) == 48) = false := by
                rw [beq_eq_false_iff_ne]
                intro e
                exact hc (UInt8.toNat_inj.1 (by exact_mod_cast e))
              have hd := HLd.out.done b2 b36 hok (.inr ⟨_, hat, hc⟩)
              have hcmp : (R3.toList == (S.extract n S.size).toList) = true := by rw [hR3.beq hfrom, hd]; simp
              clear hat hc hfrom hd
              go_wp2
              go_ret
              exact ⟨rfl, B7⟩
          · have hlD : decide ((n : Int) + 1 < (S.size : Int)) = false := decide_eq_false (by omega)
            have hd := HLd.out.done b2 b36 hok (.inl (by have h1 := HSZ.out; omega))
            have hcmp : (R3.toList == (S.extract n S.size).toList) = true := by rw [hR3.beq hfrom, hd]; simp
            clear hat hfrom hd
            go_wp2
            go_ret
            exact ⟨rfl, B7⟩
      · subst q3; subst q4
        rw [digs_zero] at k2
        obtain ⟨A2, c2, rfl, _⟩ := k2
        go_wp2
        go_ret
        exact ⟨rfl, B6⟩

set_option maxRecDepth 100000 in
theorem lifted (os : Os) (started : os.Started) (H : Type) (enc : TypeId × Value → H) :
    ReturnsInHanded {} Tryd.checked os 5 .any (fun w args => (Rows.digitsBackSpec.pre enc Tryd.prog Tryd.f5 Rows.digitsBackRow.domain false w args ∧ laidMetH Tryd.prog Rows.digitsBackRow.laid w) ∧ sizedMet enc Tryd.prog Tryd.f5 (OpenSpec.ofChange Rows.digitsBackSpec) false w args)
      (Rows.digitsBackSpec.post enc Tryd.prog Tryd.f5 false true false false) := by
  refine returnsInHanded_of_change_and (C := Tryd.checked) (X := fun w _ => laidMetH Tryd.prog Rows.digitsBackRow.laid w) (fun _ _ _ hh h => h.of_heap hh) own started (by kernel_rfl) Tryd.func5
    (ChangeSpec.witness_shaped (enc := enc) (C := Tryd.checked) (os := os) (X := fun w _ => laidMetH Tryd.prog Rows.digitsBackRow.laid w) false (World.laidAll Tryd.prog os Rows.digitsBackRow.laid) #[.slice none 0 0, .int .u8 0, .string ⟨#[]⟩] 8 (World.laidAll_os _ _ _)
      (World.shaped_of_ZipB (by kernel_rfl) (by kernel_rfl)) (by kernel_rfl) (by kernel_rfl) (by kernel_rfl)
      (by rw [MakeChecks.laidMetH_plain _ _ _ (by kernel_rfl)]; exact laidMet_laidAll _ (by kernel_rfl) (by kernel_rfl))) ?_
  intro W base args ds gs before hval0 hW hcnd _ hL _
  have hval : ∀ (j : Nat) t v, Tryd.f5.params[j]? = some t → args[j]? = some v → Value.okWide Tryd.prog W .any base t v := hval0
  have hW' := hW
  obtain ⟨p, q, hA0, hV, rfl, hfz, hnd⟩ := hW
  have hA : DataW.TrodAll enc Tryd.prog W 0 (fun _ => true) true Tryd.f5.params.toList args.toList ds p := hA0
  rw [Tryd.params5] at hA hval
  obtain ⟨v0, vs0, d0, ds0, p0, q0, hargs, rfl, rfl, t0, r0⟩ := trodAll_cons hA
  obtain ⟨v1, vs1, d1, ds1, p1, q1, rfl, rfl, rfl, t1, r1⟩ := trodAll_cons r0
  obtain ⟨v2, vs2, d2, ds2, p2, q2, rfl, rfl, rfl, t2, r2⟩ := trodAll_cons r1
  obtain ⟨rfl, rfl, rfl⟩ := trodAll_nil r2
  obtain rfl : args = #[v0, v1, v2] := by cases args; simp_all
  obtain ⟨rfl, rfl⟩ := trodVars_none hV
  obtain ⟨l0, hs0, hu0⟩ := arg_nat Tryd.underlying23 Tryd.underlying38 cells_u (hval 0 23 v0 rfl rfl) t0
  obtain ⟨a1, rfl, hd1, hp1, wf1⟩ := open_int Tryd.underlying5 (hval 1 5 v1 rfl rfl) t1
  obtain ⟨S2, rfl, hd2, hp2, hs2⟩ := Go.ChangeMaps.open_string Tryd.underlying9 (hval 2 9 v2 rfl rfl) t2
  clear hA0 hval0
  simp only [List.append_nil] at hW'
  have hlt0 : ∀ x ∈ p0, x.block < W.heap.size := fun x hx => hW'.lt x (List.mem_append_left _ hx)
  have hlt1 : ∀ x ∈ p1, x.block < W.heap.size := fun x hx => hW'.lt x (List.mem_append_right _ (List.mem_append_left _ hx))
  have hlt2 : ∀ x ∈ p2, x.block < W.heap.size := fun x hx => hW'.lt x (List.mem_append_right _ (List.mem_append_right _ (hx)))
  refine (walk v0 l0 a1 S2 W hs0 hu0 wf1 hs2).mono fun e W' ⟨he, hb⟩ => ?_
  subst he
  have s0 := Below.trod laidOut (by kernel_rfl) (of_decide_eq_true (by kernel_rfl)) t0 hb hlt0
  have s1 := Below.trod laidOut (by kernel_rfl) (of_decide_eq_true (by kernel_rfl)) t1 hb hlt1
  have s2 := Below.trod laidOut (by kernel_rfl) (of_decide_eq_true (by kernel_rfl)) t2 hb hlt2
  exact ⟨_, rfl, _, _, _, [] ++ [], _, [], hW', trodAll_cons_mk (shut_bool Tryd.underlying4 _) trodAll_mk0, trodAll_cons_mk s0 (trodAll_cons_mk s1 (trodAll_cons_mk s2 (trodAll_mk0))), rfl, hb.frame _, fun h => by cases h⟩

theorem over : Rows.digitsBackRow.holds Tryd.pinned (OpenSpec.ofChange Rows.digitsBackSpec) :=
  OpenClaim.holds_of_wide 5 Tryd.f5 rfl rfl rfl rfl rfl rfl rfl ⟨rfl, rfl, rfl, rfl, rfl⟩ rfl rfl rfl rfl rfl (by kernel_rfl) Tryd.func5 (by kernel_rfl)
    (of_decide_eq_true (by kernel_rfl)) (by unfold Func.isWrapper; first | (rw [if_pos (by decide +kernel)]; kernel_rfl) | (rw [if_neg (by decide +kernel)]; exact ⟨rfl, rfl⟩))
    (fun os started H enc _ => lifted os started H enc)

/-- The statement: the card. -/
theorem proved : Rows.DigitsBackCardSaid :=
  Claim7.holds_tied_plain_at .later [] [.data, .pinned] true _ false over (fun _ h => by cases h) (by kernel_rfl) (fun _ h => by cases h) digitsBack_row_tie rfl ⟨rfl, rfl⟩ (by kernel_rfl) rfl
    (fun f fn hf hfn => by
      obtain rfl : f = 5 := Option.some.inj ((show Tryd.prog.funcNamed Rows.digitsBackRow.func = some 5 by kernel_rfl).symm.trans hf) |>.symm
      obtain rfl : fn = Tryd.f5 := (Option.some.inj (Tryd.func5.symm.trans hfn)).symm
      exact ⟨by kernel_rfl, fun j t ht => by
        rw [Tryd.params5] at ht
        have hm : t ∈ [23, 5, 9] := by simpa using Array.mem_of_getElem? ht
        have hall : ([23, 5, 9].all fun u => !Tryd.prog.wantsStandIn u) = true := by kernel_rfl
        exact (show Tryd.prog.wantsStandIn t = false by simpa using List.all_eq_true.1 hall t hm)⟩)
    (by kernel_rfl)
end Go.Proofs.YtlepoheinemfcaaDoor.digitsBack
