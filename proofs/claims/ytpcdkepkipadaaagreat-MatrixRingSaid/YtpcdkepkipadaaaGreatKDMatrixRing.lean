/- MatrixRing: products put together. Condition: the arguments can be read as data. -/
import Derived.Test.YtpcdkepkipadaaaGreatKD5
import Derived.Deep.CutRange
import Derived.OpenShut
import Derived.LaidMore
import Derived.Lay
import Derived.Stop.Joined
namespace Go.Proofs.YtpcdkepkipadaaaGreat.matrixRing
open Go.ChangeShapes Go.WideShapes Go.ChangeAt Go.RowKit Go.Proofs.YtpcdkepkipadaaaGreat.num Go.Proofs.YtpcdkepkipadaaaGreat.mem Go.Proofs.YtpcdkepkipadaaaGreat.nat Go.Proofs.YtpcdkepkipadaaaGreat.txt Go.Proofs.YtpcdkepkipadaaaGreat.str Go.Proofs.YtpcdkepkipadaaaGreat.flow Go.Proofs.YtpcdkepkipadaaaGreat.whl Go.Proofs.YtpcdkepkipadaaaGreat.rat
set_option linter.unusedVariables false
theorem own : ownKnob Tryz.prog.godebug = none := by kernel_rfl
theorem laidOut : laidOutB Tryz.prog = true := by kernel_rfl
theorem cells_u : Tryz.prog.cellsOf 78 = 1 := by kernel_rfl
set_option maxHeartbeats 6400000 in
set_option maxRecDepth 100000 in
/-- The walk: the Go text returns true; what was there is as it was. -/
theorem walk (v0 : Value) (v1 : Value) (v2 : Value) (w : World) (h0 : ArgT w v0) (h1 : ArgT w v1) (h2 : ArgT w v2) :
    Calls Tryz.prog 5 #[v0, v1, v2] w (RetV (.bool true) w) := by
  obtain ⟨A0, n0, c0, rfl, -, -⟩ := h0.shape
  obtain ⟨A1, n1, c1, rfl, -, -⟩ := h1.shape
  obtain ⟨A2, n2, c2, rfl, -, -⟩ := h2.shape
  have even_any : ∀ (a0 : Value) (w : World), ArgT w a0 → Calls Tryz.prog 30 #[a0, .int .i64 3] w (RetEven 3 w) := fun a0 w h => even_any a0 3 w h (by omega)
  go_enter Tryz.func5, Tryz.ntmps5
  go_wp2_with fail
  refine (works12_any _).mono ?_
  rintro e w0 ⟨rfl, b0⟩
  have hA0 := h0.below b0
  go_wp2_with fail
  refine (even_any _ _ hA0).mono ?_
  rintro e w1 ⟨V, U1, p, rfl, hV, hp1, hp2, hp3, hp4, b1⟩
  obtain ⟨AV, cV, rfl, -, -⟩ := hV.shape
  have HP : Hid (few3 p) := ⟨hp1, hp2, hp3, hp4⟩
  have bb1 := b0.trans (b1.mono b0.size)
  have hA1 := h1.below bb1
  clear hp1 hp2 hp3 hp4 hA0 b1
  go_wp2_with fail
  refine (even_any _ _ hA1).mono ?_
  rintro e w2 ⟨W, U2, q, rfl, hW, hp1, hp2, hp3, hp4, b2⟩
  obtain ⟨AW, cW, rfl, -, -⟩ := hW.shape
  have HQ : Hid (few3 q) := ⟨hp1, hp2, hp3, hp4⟩
  have bb2 := bb1.trans (b2.mono bb1.size)
  have hA2 := h2.below bb2
  have hV2 := hV.below b2
  clear hp1 hp2 hp3 hp4 hA1 b2 hV
  go_wp2_with fail
  refine (even_any _ _ hA2).mono ?_
  rintro e w3 ⟨R, U3, r, rfl, hR, hp1, hp2, hp3, hp4, b3⟩
  obtain ⟨AR, cR, rfl, -, -⟩ := hR.shape
  have HR : Hid (few3 r) := ⟨hp1, hp2, hp3, hp4⟩
  have bb3 := bb2.trans (b3.mono bb2.size)
  have hV3 := hV2.below b3
  have hW3 := hW.below b3
  clear hp1 hp2 hp3 hp4 hA2 b3 hV2 hW b0 bb1 bb2 even_any
  have ba := below_alloc (w := w3) (Nat.le_refl _) (.cells #[.slice AV p.length cV, .slice AW q.length cW] 52)
  have HLa := listT_two (isV_lit w3 52 [.slice AV p.length cV, .slice AW q.length cW]) (hV3.below ba) (hW3.below ba)
  go_wp2_with fail
  refine (mul2_any _ p q _ HLa HP.out HQ.out).mono ?_
  rintro e w4 ⟨MM, E1, hm, A4, c4, rfl, SM, b4⟩
  have H1 := Lib.hid hm
  have b34 := ba.trans (b4.mono ba.size)
  have hW4 := hW3.below b34
  have hR4 := hR.below b34
  clear hm HLa ba b4
  have ba := below_alloc (w := w4) (Nat.le_refl _) (.cells #[.slice AW q.length cW, .slice AR r.length cR] 52)
  have HLa := listT_two (isV_lit w4 52 [.slice AW q.length cW, .slice AR r.length cR]) (hW4.below ba) (hR4.below ba)
  go_wp2_with fail
  refine (mul2_any _ q r _ HLa HQ.out HR.out).mono ?_
  rintro e w5 ⟨NN, E2, hm, A5, c5, rfl, SN, b5⟩
  have H2 := Lib.hid hm
  have b45 := ba.trans (b5.mono ba.size)
  have b35 := b34.trans (b45.mono b34.size)
  have bb5 := bb3.trans (b35.mono bb3.size)
  have hV5 := hV3.below b35
  have hW5 := hW3.below b35
  have hR5 := hR.below b35
  have SM5 := SM.below b45
  clear hm HLa ba b5 b34 b45 b35 bb3 hV3 hW3 hR hW4 hR4 SM
  obtain ⟨B, hB⟩ : ∃ B, B = decide (wideq p = q.length ∧ wideq q = r.length) := ⟨_, rfl⟩
  have HB := Lib.hid hB
  clear hB
  go_upto_region 8 with (fail)
  go_cut [77] from 72 to 77 (fun s77 wx => s77 = .bool B ∧ Below w5.heap.size w5 wx)
  case first =>
    have hb := Below.refl w5.heap.size w5
    rcases H1.out with ⟨hc1, -, e1⟩ | ⟨hc1, -, e1⟩
    · subst e1
      rcases H2.out with ⟨hc2, -, e2⟩ | ⟨hc2, -, e2⟩
      · subst e2
        have hk : B = true := by rw [HB.out]; exact decide_eq_true ⟨hc1, hc2⟩
        subst hk
        clear hc1 hc2
        go_wp2_with fail
        go_meet
        exact ⟨rfl, hb⟩
      · subst e2
        have hk : B = false := by rw [HB.out]; exact decide_eq_false (fun h => hc2 h.2)
        subst hk
        clear hc1 hc2
        go_wp2_with fail
        go_meet
        exact ⟨rfl, hb⟩
    · subst e1
      have hk : B = false := by rw [HB.out]; exact decide_eq_false (fun h => hc1 h.1)
      subst hk
      clear hc1
      go_wp2_with fail
      go_meet
      exact ⟨rfl, hb⟩
  case rest =>
    obtain ⟨rfl, b5c⟩ := hcut
    obtain ⟨w6, hw6⟩ : ∃ w6, w6 = wc := ⟨_, rfl⟩
    subst hw6
    go_upto_if 77 with (fail)
    go_cut [] from 78 to 121 (fun wx => Below w5.heap.size w5 wx)
    case first =>
      by_cases hc : wideq p = q.length ∧ wideq q = r.length
      · obtain ⟨hM, e1⟩ : MM = mulq p q ∧ E1 = 0 := by
          rcases H1.out with ⟨_, h⟩ | ⟨h, _⟩
          · exact h
          · exact absurd hc.1 h
        obtain ⟨hN, e2⟩ : NN = mulq q r ∧ E2 = 0 := by
          rcases H2.out with ⟨_, h⟩ | ⟨h, _⟩
          · exact h
          · exact absurd hc.2 h
        have hk : B = true := by rw [HB.out]; exact decide_eq_true hc
        subst hk
        subst e1
        subst e2
        have HC := Lib.hid hc
        have HM := Lib.hid hM
        have HN := Lib.hid hN
        have HMs : Hid (sml MM ∧ mayq MM ∧ wideq MM = wideq q) := by show _ ∧ _; rw [HM.out]; exact HP.out.mul HQ.out hc.1
        have HNs : Hid (sml NN ∧ mayq NN ∧ wideq NN = wideq r) := by show _ ∧ _; rw [HN.out]; exact HQ.out.mul HR.out hc.2
        have F1 : Hid (fitsq [MM, r]) := fits2.2 ⟨HMs.out.2.1, HR.out.may, by rw [HMs.out.2.2]; exact hc.2⟩
        have F2 : Hid (fitsq [p, NN]) := fits2.2 ⟨HP.out.may, HNs.out.2.1, by rw [HN.out, mulq_len]; exact hc.1⟩
        have F3 : Hid (fitsq [p, q, r]) := fits3.2 ⟨HP.out.may, HQ.out.may, HR.out.may, hc.1, hc.2⟩
        have HX : Hid (true = decide (mulq MM r = mulq p NN)) := by
          show _ = _
          rw [HM.out, HN.out]
          exact (decide_eq_true (mulq_assoc HP.out.1 HQ.out.1 (.inr hc.1) hc.2)).symm
        have HY : Hid (true = decide (mulq MM r = mulq (mulq p q) r)) := by
          show _ = _
          rw [HM.out]
          exact (decide_eq_true rfl).symm
        clear hc hM hN
        have ba := below_alloc (w := w6) (Nat.le_refl _) (.cells #[.slice A4 MM.length c4, .slice AR r.length cR] 52)
        have HLa := listT_two (isV_lit w6 52 [.slice A4 MM.length c4, .slice AR r.length cR]) ((SM5.below b5c).below ba) ((hR5.below b5c).below ba)
        go_wp2_with fail
        refine (mul2_ok _ MM r _ HLa HMs.out.1 HR.out.small F1.out).mono ?_
        rintro e w7 ⟨A7, c7, rfl, S7, b7⟩
        have b67 := ba.trans (b7.mono ba.size)
        have b57 := b5c.trans (b67.mono b5c.size)
        clear ba HLa b7 b67
        have ba := below_alloc (w := w7) (Nat.le_refl _) (.cells #[.slice AV p.length cV, .slice A5 NN.length c5] 52)
        have HLa := listT_two (isV_lit w7 52 [.slice AV p.length cV, .slice A5 NN.length c5]) ((hV5.below b57).below ba) ((SN.below b57).below ba)
        go_wp2_with fail
        refine (mul2_ok _ p NN _ HLa HP.out.small HNs.out.1 F2.out).mono ?_
        rintro e w8 ⟨A8, c8, rfl, S8, b8⟩
        have b78 := ba.trans (b8.mono ba.size)
        have b58 := b57.trans (b78.mono b57.size)
        have S78 := S7.below b78
        clear ba HLa b8
        have ba := below_alloc (w := w8) (Nat.le_refl _) (.cells #[.slice AV p.length cV, .slice AW q.length cW, .slice AR r.length cR] 52)
        have HLa := listT_three (isV_lit w8 52 [.slice AV p.length cV, .slice AW q.length cW, .slice AR r.length cR]) ((hV5.below b58).below ba) ((hW5.below b58).below ba) ((hR5.below b58).below ba)
        go_wp2_with fail
        refine (mul3_ok _ p q r _ HLa HP.out.small HQ.out.small HR.out.small F3.out).mono ?_
        rintro e w9 ⟨A9, c9, rfl, S9, b9⟩
        have b89 := ba.trans (b9.mono ba.size)
        have b59 := b58.trans (b89.mono b58.size)
        have S79 := S78.below b89
        have S89 := S8.below b89
        clear ba HLa b9 S7 S78 S8 b57 b58 b78 b89
        go_wp2_with fail
        refine (msame_any _ _ (mulq MM r) (mulq p NN) true _ S79 S89 HX.out).mono ?_
        rintro e w10 ⟨rfl, b10⟩
        have S7a := S79.below b10
        have S9a := S9.below b10
        go_wp2_with fail
        refine (msame_any _ _ (mulq MM r) (mulq (mulq p q) r) true _ S7a S9a HY.out).mono ?_
        rintro e w11 ⟨rfl, b11⟩
        have b5a := (b59.trans (b10.mono b59.size)).trans (b11.mono (b59.trans (b10.mono b59.size)).size)
        go_wp2_with fail
        go_meet
        exact b5a
      · have hk : B = false := by rw [HB.out]; exact decide_eq_false hc
        subst hk
        clear hc
        go_wp2_with fail
        go_meet
        exact b5c
    case rest =>
      have b56 := hcut
      clear hcut b5c
      obtain ⟨w7, hw7⟩ : ∃ w7, w7 = wc := ⟨_, rfl⟩
      subst hw7
      have hV7 := hV5.below b56
      go_wp2_with fail
      refine (msize_any _ p _ hV7).mono ?_
      rintro e w8 ⟨rfl, b8⟩
      have b58 := b56.trans (b8.mono b56.size)
      have bb8 := bb5.trans (b58.mono bb5.size)
      by_cases hw : wideq p = 0
      · have hz : (((wideq p : Nat) : Int) == 0) = true := by rw [hw]; rfl
        clear hw
        go_wp2
        go_ret
        exact ⟨rfl, bb8⟩
      · have hz : (((wideq p : Nat) : Int) == 0) = false := by rw [beq_eq_false_iff_ne]; omega
        have HW := Lib.hid hw
        have HPN : Hid (p ≠ []) := fun e => hw (by rw [e]; rfl)
        clear hw
        go_wp2_with fail
        refine (ident_ok p.length _ HP.out.2.1).mono ?_
        rintro e w9 ⟨A9, c9, rfl, S9, b9⟩
        go_wp2_with fail
        refine (ident_ok (wideq p) _ HP.out.2.2.1).mono ?_
        rintro e w10 ⟨A10, c10, rfl, S10, b10⟩
        have b59 := b58.trans (b9.mono b58.size)
        have b5x := b59.trans (b10.mono b59.size)
        have S9x := S9.below b10
        have hVx := hV5.below b5x
        clear b59 b9 S9
        have ba := below_alloc (w := w10) (Nat.le_refl _) (.cells #[.slice A9 (identq p.length).length c9, .slice AV p.length cV, .slice A10 (identq (wideq p)).length c10] 52)
        have HLa := listT_three (isV_lit w10 52 [.slice A9 (identq p.length).length c9, .slice AV p.length cV, .slice A10 (identq (wideq p)).length c10]) (S9x.below ba) (hVx.below ba) (S10.below ba)
        have HI1 := Lib.hid (few3.ident HP.out.2.1)
        have HI2 := Lib.hid (few3.ident HP.out.2.2.1)
        have F4 : Hid (fitsq [identq p.length, p, identq (wideq p)]) := fits3.2 ⟨HI1.out.1.may, HP.out.may, HI2.out.1.may, HI1.out.2, by rw [identq_len]⟩
        go_wp2_with fail
        refine (mul3_ok _ (identq p.length) p (identq (wideq p)) _ HLa HI1.out.1.small HP.out.small HI2.out.1.small F4.out).mono ?_
        rintro e w11 ⟨A11, c11, rfl, S11, b11⟩
        have bxb := ba.trans (b11.mono ba.size)
        have b5b := b5x.trans (bxb.mono b5x.size)
        have hVb := hV5.below b5b
        clear ba HLa b11 hVx S9x S10 b10
        have HPL : Hid (lenT p 10) := HP.out.small.2.2
        have HPT := Lib.hid HP.out.turn
        have HPTL : Hid (lenT (turnq p) 10) := HPT.out.small.2.2
        go_wp2_with fail
        refine (turn_ok _ p _ hVb HPL.out HP.out.may).mono ?_
        rintro e w12 ⟨A12, c12, rfl, S12, b12⟩
        go_wp2_with fail
        refine (turn_ok _ (turnq p) _ S12 HPTL.out HPT.out.may).mono ?_
        rintro e w13 ⟨A13, c13, rfl, S13, b13⟩
        have bbd := b12.trans (b13.mono b12.size)
        have b5d := b5b.trans (bbd.mono b5b.size)
        have S11d := S11.below bbd
        have hVd := hV5.below b5d
        have HS1 : Hid (true = decide (mulq (mulq (identq p.length) p) (identq (wideq p)) = p)) := (decide_eq_true (ident_mul_ident HP.out.1)).symm
        have HS2 : Hid (true = decide (turnq (turnq p) = p)) := (decide_eq_true (turnq_turn HP.out.1 (Nat.pos_of_ne_zero HW.out))).symm
        go_wp2_with fail
        refine (msame_any _ _ _ p true _ S11d hVd HS1.out).mono ?_
        rintro e w14 ⟨rfl, b14⟩
        have S13e := S13.below b14
        have hVe := hVd.below b14
        go_wp2_with fail
        refine (msame_any _ _ _ p true _ S13e hVe HS2.out).mono ?_
        rintro e w15 ⟨rfl, b15⟩
        have bdf := b14.trans (b15.mono b14.size)
        have b5f := b5d.trans (bdf.mono b5d.size)
        have bbf := bb5.trans (b5f.mono bb5.size)
        have SMf := SM5.below b5f
        have hWf := hW5.below b5f
        have S12f := (S12.below b13).below bdf
        clear S11 S11d S13 S13e hVd hVe hVb b12 b13 b14 b15 bbd bdf b5b b5d b5x bxb S12 hV7 b56 b58 b8 bb8
        by_cases hc1 : wideq p = q.length
        · obtain ⟨hM, e1⟩ : MM = mulq p q ∧ E1 = 0 := by
            rcases H1.out with ⟨_, h⟩ | ⟨h, _⟩
            · exact h
            · exact absurd hc1 h
          subst e1
          have HM := Lib.hid hM
          have HML : Hid (MM.length = p.length) := by show _ = _; rw [HM.out, mulq_len]
          have HMN : Hid (MM ≠ []) := fun e => HPN.out (List.length_eq_zero_iff.1 (by rw [← HML.out, e]; rfl))
          have HMs : Hid (sml MM ∧ mayq MM ∧ wideq MM = wideq q) := by show _ ∧ _; rw [HM.out]; exact HP.out.mul HQ.out hc1
          obtain ⟨r0, hr0⟩ : ∃ r0, MM[0]? = some r0 := ⟨_, List.getElem?_eq_getElem (List.length_pos_iff.2 HMN.out)⟩
          have HR0 : Hid (r0.length = wideq q) := by show _ = _; rw [← HMs.out.2.2, wideq_at hr0]
          have hm0 : 0 < MM.length := List.length_pos_iff.2 HMN.out
          have hmz : (((MM.length : Nat) : Int) == 0) = false := by rw [beq_eq_false_iff_ne]; omega
          have HC1 := Lib.hid hc1
          obtain ⟨ad4, hA4⟩ := SMf.place HMN.out
          subst hA4
          obtain ⟨Ar0, cr0, hir0, ecr0, sr0⟩ := SMf.at2 hr0
          have ecr00 : w15.cell? ad4 = some (.slice Ar0 r0.length cr0) := by rw [← add_zero_addr ad4]; exact ecr0
          clear hc1 hM hr0 sr0
          by_cases hq0 : wideq q = 0
          · have hqz : (((r0.length : Nat) : Int) == 0) = true := by rw [HR0.out, hq0]; rfl
            clear hq0
            go_wp2
            go_ret
            exact ⟨rfl, bbf⟩
          · have hqz : (((r0.length : Nat) : Int) == 0) = false := by rw [beq_eq_false_iff_ne, HR0.out]; omega
            have HQ0 := Lib.hid (Nat.pos_of_ne_zero hq0)
            have HQL : Hid (lenT q 10) := HQ.out.small.2.2
            have HQT := Lib.hid HQ.out.turn
            clear hq0
            go_wp2_with fail
            refine (turn_ok _ q _ hWf HQL.out HQ.out.may).mono ?_
            rintro e w16 ⟨A16, c16, rfl, S16, b16⟩
            have SMg := SMf.below b16
            go_wp2_with fail
            refine (turn_ok _ MM _ SMg HMs.out.1.2.2 HMs.out.2.1).mono ?_
            rintro e w17 ⟨A17, c17, rfl, S17, b17⟩
            have bfh := b16.trans (b17.mono b16.size)
            have S16h := S16.below b17
            have S12h := S12f.below bfh
            clear SMg S16 b16 b17 ecr0 ecr00
            have ba := below_alloc (w := w17) (Nat.le_refl _) (.cells #[.slice A16 (turnq q).length c16, .slice A12 (turnq p).length c12] 52)
            have HLa := listT_two (isV_lit w17 52 [.slice A16 (turnq q).length c16, .slice A12 (turnq p).length c12]) (S16h.below ba) (S12h.below ba)
            have F5 : Hid (fitsq [turnq q, turnq p]) := fits2.2 ⟨HQT.out.may, HPT.out.may, by rw [turn_wide HQ0.out, turnq_len]; exact HC1.out.symm⟩
            have HS3 : Hid (true = decide (mulq (turnq q) (turnq p) = turnq MM)) := by
              show _ = _
              rw [HM.out]
              exact (decide_eq_true (turnq_mul HP.out.1 HPN.out (Nat.pos_of_ne_zero HW.out)).symm).symm
            go_wp2_with fail
            refine (mul2_ok _ (turnq q) (turnq p) _ HLa HQT.out.small HPT.out.small F5.out).mono ?_
            rintro e w18 ⟨A18, c18, rfl, S18, b18⟩
            have bhi := ba.trans (b18.mono ba.size)
            have S17i := S17.below bhi
            go_wp2_with fail
            refine (msame_any _ _ _ (turnq MM) true _ S18 S17i HS3.out).mono ?_
            rintro e w19 ⟨rfl, b19⟩
            have bb19 := ((bbf.trans (bfh.mono bbf.size)).trans (bhi.mono (bbf.trans (bfh.mono bbf.size)).size)).trans (b19.mono ((bbf.trans (bfh.mono bbf.size)).trans (bhi.mono (bbf.trans (bfh.mono bbf.size)).size)).size)
            go_wp2
            go_ret
            exact ⟨rfl, bb19⟩
        · obtain ⟨hM, e1⟩ : MM = [] ∧ E1 = 8 := by
            rcases H1.out with ⟨h, _⟩ | ⟨_, h⟩
            · exact absurd h hc1
            · exact h
          subst e1
          clear hc1 hM
          go_wp2
          go_ret
          exact ⟨rfl, bbf⟩
set_option maxRecDepth 100000 in
theorem lifted (os : Os) (started : os.Started) (H : Type) (enc : TypeId × Value → H) :
    ReturnsInHanded {} Tryz.checked os 5 .any (Rows.matrixRingSpec.pre6 enc Tryz.prog Tryz.f5 Rows.matrixRingRow.domain false) (Rows.matrixRingSpec.post enc Tryz.prog Tryz.f5 false true false false) := by
  refine returnsInHanded_of_change (C := Tryz.checked) own started (by kernel_rfl) Tryz.func5
    (ChangeSpec.witness6 (enc := enc) (C := Tryz.checked) false ⟨#[], #[.slice none 0 0, .slice none 0 0, .slice none 0 0], []⟩ 8 (by kernel_rfl) (by kernel_rfl) (by kernel_rfl) (by kernel_rfl)) ?_
  intro W base args ds gs before hval0 hW hcnd _
  have hval : ∀ (j : Nat) t v, Tryz.f5.params[j]? = some t → args[j]? = some v → Value.okWide Tryz.prog W .any base t v := hval0
  have hW' := hW
  obtain ⟨p, q, hA0, hV, rfl, hfz, hnd⟩ := hW
  have hA : DataW.TrodAll enc Tryz.prog W 0 (fun _ => true) true Tryz.f5.params.toList args.toList ds p := hA0
  rw [Tryz.params5] at hA hval
  obtain ⟨v0, vs0, d0, ds0, p0, q0, hargs, rfl, rfl, t0, r0⟩ := trodAll_cons hA
  obtain ⟨v1, vs1, d1, ds1, p1, q1, rfl, rfl, rfl, t1, r1⟩ := trodAll_cons r0
  obtain ⟨v2, vs2, d2, ds2, p2, q2, rfl, rfl, rfl, t2, r2⟩ := trodAll_cons r1
  obtain ⟨rfl, rfl, rfl⟩ := trodAll_nil r2
  obtain rfl : args = #[v0, v1, v2] := by cases args; simp_all
  obtain ⟨rfl, rfl⟩ := trodVars_none hV
  have hs0 := arg_t Tryz.underlying52 (by kernel_rfl) Tryz.underlying53 Tryz.underlying36 (by kernel_rfl) (by kernel_rfl) Tryz.underlying34 (by kernel_rfl) Tryz.underlying4 Tryz.underlying32 Tryz.underlying32 Tryz.underlying78 cells_u (hval 0 52 v0 rfl rfl) t0
  have hs1 := arg_t Tryz.underlying52 (by kernel_rfl) Tryz.underlying53 Tryz.underlying36 (by kernel_rfl) (by kernel_rfl) Tryz.underlying34 (by kernel_rfl) Tryz.underlying4 Tryz.underlying32 Tryz.underlying32 Tryz.underlying78 cells_u (hval 1 52 v1 rfl rfl) t1
  have hs2 := arg_t Tryz.underlying52 (by kernel_rfl) Tryz.underlying53 Tryz.underlying36 (by kernel_rfl) (by kernel_rfl) Tryz.underlying34 (by kernel_rfl) Tryz.underlying4 Tryz.underlying32 Tryz.underlying32 Tryz.underlying78 cells_u (hval 2 52 v2 rfl rfl) t2
  clear hA0 hval0
  simp only [List.append_nil] at hW'
  have hlt0 : ∀ x ∈ p0, x.block < W.heap.size := fun x hx => hW'.lt x (List.mem_append_left _ hx)
  have hlt1 : ∀ x ∈ p1, x.block < W.heap.size := fun x hx => hW'.lt x (List.mem_append_right _ (List.mem_append_left _ hx))
  have hlt2 : ∀ x ∈ p2, x.block < W.heap.size := fun x hx => hW'.lt x (List.mem_append_right _ (List.mem_append_right _ (hx)))
  refine (walk v0 v1 v2 W hs0 hs1 hs2).mono fun e W' ⟨he, hb⟩ => ?_
  subst he
  have s0 := Below.trod laidOut (by kernel_rfl) (of_decide_eq_true (by kernel_rfl)) t0 hb hlt0
  have s1 := Below.trod laidOut (by kernel_rfl) (of_decide_eq_true (by kernel_rfl)) t1 hb hlt1
  have s2 := Below.trod laidOut (by kernel_rfl) (of_decide_eq_true (by kernel_rfl)) t2 hb hlt2
  exact ⟨_, rfl, _, _, _, [] ++ [], _, [], hW', trodAll_cons_mk (shut_bool Tryz.underlying4 _) trodAll_mk0, trodAll_cons_mk s0 (trodAll_cons_mk s1 (trodAll_cons_mk s2 (trodAll_mk0))), rfl, hb.frame _, fun h => by cases h⟩
theorem over : Rows.matrixRingRow.holds Tryz.pinned (OpenSpec.ofChange Rows.matrixRingSpec) :=
  OpenClaim.holds_of_wide 5 Tryz.f5 rfl rfl rfl rfl rfl rfl rfl ⟨rfl, rfl, rfl, rfl, rfl⟩ rfl rfl rfl rfl rfl (by kernel_rfl) Tryz.func5 (by kernel_rfl)
    (of_decide_eq_true (by kernel_rfl)) (by unfold Func.isWrapper; first | (rw [if_pos (by decide +kernel)]; kernel_rfl) | (rw [if_neg (by decide +kernel)]; exact ⟨rfl, rfl⟩))
    (fun os started H enc _ => lifted os started H enc)
/-- The statement. -/
theorem proved : Rows.MatrixRingSaid := over
end Go.Proofs.YtpcdkepkipadaaaGreat.matrixRing
