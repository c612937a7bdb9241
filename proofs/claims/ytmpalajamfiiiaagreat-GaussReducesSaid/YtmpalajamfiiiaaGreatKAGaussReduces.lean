/- GaussReduces: steps, pivots and rank. Condition: the arguments can be read as data. -/
import Derived.Test.YtmpalajamfiiiaaGreatKA6
import Derived.Deep.CutRange
import Derived.OpenShut
import Derived.LaidMore
import Derived.Lay
import Derived.Stop.Joined
namespace Go.Proofs.YtmpalajamfiiiaaGreat.gaussReduces
open Go.ChangeShapes Go.WideShapes Go.ChangeAt Go.RowKit Go.Proofs.YtmpalajamfiiiaaGreat.num Go.Proofs.YtmpalajamfiiiaaGreat.mem Go.Proofs.YtmpalajamfiiiaaGreat.nat Go.Proofs.YtmpalajamfiiiaaGreat.txt Go.Proofs.YtmpalajamfiiiaaGreat.str Go.Proofs.YtmpalajamfiiiaaGreat.flow Go.Proofs.YtmpalajamfiiiaaGreat.whl Go.Proofs.YtmpalajamfiiiaaGreat.rat
set_option linter.unusedVariables false
set_option linter.unusedSimpArgs false
theorem own : ownKnob Tryz.prog.godebug = none := by kernel_rfl
theorem laidOut : laidOutB Tryz.prog = true := by kernel_rfl
theorem cells_u : Tryz.prog.cellsOf 99 = 1 := by kernel_rfl
set_option maxHeartbeats 6400000 in
set_option maxRecDepth 100000 in
/-- The walk: the Go text returns true; what was there is as it was. -/
theorem walk (v0 : Value) (w : World) (h0 : ArgT w v0) :
    Calls Tryz.prog 3 #[v0] w (RetV (.bool true) w) := by
  obtain ⟨A0, n0, c0, rfl, -, -⟩ := h0.shape
  go_enter Tryz.func3, Tryz.ntmps3
  go_wp2_with fail
  refine (fewt_any _ 5 _ h0 (by omega)).mono ?_
  rintro e w1 ⟨V, U, p, rfl, hV, hU, hpl, hpr, hpx, b1⟩
  obtain ⟨AV, cV, rfl, -, -⟩ := hV.shape
  obtain ⟨AU, cU, rfl, -, -⟩ := hU.shape
  have HG : Hid (GssOk p 6) := gss_few5 hpl hpr hpx
  have HF := Lib.hid (And.intro hpl (And.intro hpr hpx))
  clear hpr hpx hpl
  go_wp2_with fail
  refine (greduce_any _ p 6 _ hV HG.out).mono ?_
  rintro e w2 (⟨hm, g, v, T, us, ps, rfl, hR⟩ | ⟨hm, rfl, b2⟩)
  · have HM := Lib.hid hm
    have HT : Hid (T.length = p.length) := hR.sh.1
    have HW : Hid (wideq T = wideq p) := shp_wide hR.sh (fun e => by rw [List.length_eq_zero_iff.1 e]; rfl)
    have sT := hR.tab.slT HT.out (by have := HF.out.1; omega)
    obtain ⟨Av, cv, ev⟩ := RowV.slice hR.piv.1
    rw [pI_len] at ev
    subst ev
    have pv0 := hR.piv.pvI
    have b2 := hR.bel
    have HRR := Lib.hid hR
    have HPL : Hid (ps.length ≤ 1000) := by have := hR.ech.le; have := HF.out.1; show _ ≤ _; omega
    have hV2 := hV.below b2
    have hU2 := hU.below b2
    have bb2 := b1.trans (b2.mono b1.size)
    clear hR hm b1 b2 hV hU
    go_wp2_with fail
    refine (grank_any _ p 6 _ hV2 HG.out).mono ?_
    rintro e w3 (⟨-, T3, qs, rfl, hs3, he3, hk3, b3⟩ | ⟨hm3, rfl, b3⟩)
    · obtain ⟨S3, hS3⟩ := rowsL_ex T3
      have e3 : ps = qs := rank_same HRR.out.sh HRR.out.ech HRR.out.red HRR.out.ker hs3 hS3 he3 hk3
      subst e3
      clear hs3 he3 hk3 hS3
      have hV3 := hV2.below b3
      have hU3 := hU2.below b3
      have sT3 := sT.below b3
      have pv3 := pv0.below b3
      have bb3 := bb2.trans (b3.mono bb2.size)
      clear b3 bb2 hV2 hU2 sT pv0
      go_wp2_with fail
      refine (mcheck_any _ p 0 _ hV3 (by rw [if_pos HM.out])).mono ?_
      rintro e w4 ⟨rfl, b4⟩
      have hV4 := hV3.below b4
      have hU4 := hU3.below b4
      have sT4 := sT3.below b4
      have pv4 := pv3.below b4
      have bb4 := bb3.trans (b4.mono bb3.size)
      have HRD : Hid (RdOk p 6) := rd_few5 HF.out.1 HF.out.2.1 HF.out.2.2 HM.out
      clear b4 bb3 hV3 hU3 sT3 pv3
      go_wp2_with fail
      refine (rreduce_any _ p 6 _ hU4 HRD.out).mono ?_
      rintro e w5 ⟨V5, v5, U5, qs5, rfl, hU5, pv5, hRd, b5⟩
      obtain ⟨e1, e2⟩ := steps_same HRR.out.sh HRR.out.ech HRR.out.red HRR.out.ker hRd.sh hRd.ech hRd.red hRd.ker
      subst e1
      subst e2
      obtain ⟨A5, c5, rfl, -, -⟩ := hU5.shape
      obtain ⟨B5, d5, rfl, hB5⟩ := id pv5
      have HLT : Hid (lenT T 30000) := hRd.small2 HF.out.1
      have hV5 := hV4.below b5
      have sT5 := sT4.below b5
      have pv5' := pv4.below b5
      have bb5 := bb4.trans (b5.mono bb4.size)
      rw [HT.out]
      rw [HT.out] at hU5
      clear hB5 hRd b5 bb4 hV4 hU4 sT4 pv4
      go_wp2_with fail
      refine (ist_any _ _ T T 1 _ sT5 hU5 HLT.out (if_pos rfl).symm).mono ?_
      rintro e w6 ⟨rfl, b6⟩
      have hV6 := hV5.below b6
      have sT6 := sT5.below b6
      have hU6 := hU5.below b6
      have pv6 := pv5'.below b6
      have pw6 := pv5.below b6
      have bb6 := bb5.trans (b6.mono bb5.size)
      clear b6 bb5 hV5 sT5 hU5 pv5' pv5
      go_wp2_with fail
      refine (sameints_self _ _ ps _ pv6 pw6 HPL.out).mono ?_
      rintro e w7 ⟨rfl, b7⟩
      have hV7 := hV6.below b7
      have sT7 := sT6.below b7
      have hU7 := hU6.below b7
      have bb7 := bb6.trans (b7.mono bb6.size)
      clear b7 bb6 hV6 sT6 hU6 pv6 pw6
      have HSI := Lib.hid (stepsq_iff rfl rfl HM.out HRR.out.sh HRR.out.ech HRR.out.red HRR.out.ker)
      have HST : Hid (stepsq T) := ⟨⟨by rw [HT.out]; exact HM.out.1, by rw [HW.out]; exact HM.out.2.1, fun r hr => by rw [HW.out]; exact HRR.out.sh.2 r hr⟩, ps, by rw [HT.out, HW.out]; exact HRR.out.ech, by rw [HT.out]; exact HRR.out.red⟩
      go_wp2_with fail
      refine (gsteps_any _ p _ hV7).mono ?_
      rintro e w8 ⟨bS, rfl, hbS, b8⟩
      have hV8 := hV7.below b8
      have sT8 := sT7.below b8
      have hU8 := hU7.below b8
      have bb8 := bb7.trans (b8.mono bb7.size)
      clear b8 bb7 hV7 sT7 hU7
      by_cases hpT : p = T
      · obtain rfl : bS = true := hbS.2 (HSI.out.2 hpT)
        have CI := ist_any _ _ p T 1 _ hV8 hU8 HLT.out (if_pos hpT).symm
        clear hbS hpT
        go_wp2_with fail
        refine CI.mono ?_
        rintro e w9 ⟨rfl, b9⟩
        have sT9 := sT8.below b9
        have bb9 := bb8.trans (b9.mono bb8.size)
        clear b9 bb8 hV8 sT8 hU8 CI
        go_wp2_with fail
        refine (gsteps_any _ T _ sT9).mono ?_
        rintro e w10 ⟨bT, rfl, hbT, b10⟩
        obtain rfl : bT = true := hbT.2 HST.out
        have bb10 := bb9.trans (b10.mono bb9.size)
        clear b10 bb9 hbT sT9
        go_wp2_with fail
        refine (works14_any _).mono ?_
        rintro e w11 ⟨rfl, b11⟩
        have bb11 := bb10.trans (b11.mono bb10.size)
        go_wp2
        go_ret
        exact ⟨rfl, bb11⟩
      · obtain rfl : bS = false := by
          cases bS with
          | false => rfl
          | true => exact absurd (HSI.out.1 (hbS.1 rfl)) hpT
        have CI := ist_any _ _ p T 0 _ hV8 hU8 HLT.out (if_neg hpT).symm
        clear hbS hpT
        go_wp2_with fail
        refine CI.mono ?_
        rintro e w9 ⟨rfl, b9⟩
        have sT9 := sT8.below b9
        have bb9 := bb8.trans (b9.mono bb8.size)
        clear b9 bb8 hV8 sT8 hU8 CI
        go_wp2_with fail
        refine (gsteps_any _ T _ sT9).mono ?_
        rintro e w10 ⟨bT, rfl, hbT, b10⟩
        obtain rfl : bT = true := hbT.2 HST.out
        have bb10 := bb9.trans (b10.mono bb9.size)
        clear b10 bb9 hbT sT9
        go_wp2_with fail
        refine (works14_any _).mono ?_
        rintro e w11 ⟨rfl, b11⟩
        have bb11 := bb10.trans (b11.mono bb10.size)
        go_wp2
        go_ret
        exact ⟨rfl, bb11⟩
    · exact absurd HM.out hm3
  · have HM := Lib.hid hm
    have hV2 := hV.below b2
    have bb2 := b1.trans (b2.mono b1.size)
    clear hm b2 b1 hV hU
    go_wp2_with fail
    refine (grank_any _ p 6 _ hV2 HG.out).mono ?_
    rintro e w3 (⟨hm3, T3, qs, rfl, hs3, he3, hk3, b3⟩ | ⟨-, rfl, b3⟩)
    · exact absurd hm3 HM.out
    · have hV3 := hV2.below b3
      have bb3 := bb2.trans (b3.mono bb2.size)
      clear b3 bb2 hV2
      go_wp2_with fail
      refine (mcheck_any _ p 8 _ hV3 (by rw [if_neg HM.out])).mono ?_
      rintro e w4 ⟨rfl, b4⟩
      have hV4 := hV3.below b4
      have bb4 := bb3.trans (b4.mono bb3.size)
      clear b4 bb3 hV3
      go_wp2_with fail
      refine (gsteps_any _ p _ hV4).mono ?_
      rintro e w5 ⟨bS, rfl, hbS, b5⟩
      obtain rfl : bS = false := by
        cases bS with
        | false => rfl
        | true => exact absurd (hbS.1 rfl).1 HM.out
      have bb5 := bb4.trans (b5.mono bb4.size)
      clear b5 bb4 hbS hV4
      go_wp2_with fail
      refine (works14_any _).mono ?_
      rintro e w6 ⟨rfl, b6⟩
      have bb6 := bb5.trans (b6.mono bb5.size)
      go_wp2
      go_ret
      exact ⟨rfl, bb6⟩
set_option maxRecDepth 100000 in
theorem lifted (os : Os) (started : os.Started) (H : Type) (enc : TypeId × Value → H) :
    ReturnsInHanded {} Tryz.checked os 3 .any (Rows.gaussReducesSpec.pre6 enc Tryz.prog Tryz.f3 Rows.gaussReducesRow.domain false) (Rows.gaussReducesSpec.post enc Tryz.prog Tryz.f3 false true false false) := by
  refine returnsInHanded_of_change (C := Tryz.checked) own started (by kernel_rfl) Tryz.func3
    (ChangeSpec.witness6 (enc := enc) (C := Tryz.checked) false ⟨#[], #[.slice none 0 0], []⟩ 8 (by kernel_rfl) (by kernel_rfl) (by kernel_rfl) (by kernel_rfl)) ?_
  intro W base args ds gs before hval0 hW hcnd _
  have hval : ∀ (j : Nat) t v, Tryz.f3.params[j]? = some t → args[j]? = some v → Value.okWide Tryz.prog W .any base t v := hval0
  have hW' := hW
  obtain ⟨p, q, hA0, hV, rfl, hfz, hnd⟩ := hW
  have hA : DataW.TrodAll enc Tryz.prog W 0 (fun _ => true) true Tryz.f3.params.toList args.toList ds p := hA0
  rw [Tryz.params3] at hA hval
  obtain ⟨v0, vs0, d0, ds0, p0, q0, hargs, rfl, rfl, t0, r0⟩ := trodAll_cons hA
  obtain ⟨rfl, rfl, rfl⟩ := trodAll_nil r0
  obtain rfl : args = #[v0] := by cases args; simp_all
  obtain ⟨rfl, rfl⟩ := trodVars_none hV
  have hs0 := arg_t Tryz.underlying22 (by kernel_rfl) Tryz.underlying64 Tryz.underlying44 (by kernel_rfl) (by kernel_rfl) Tryz.underlying42 (by kernel_rfl) Tryz.underlying4 Tryz.underlying40 Tryz.underlying40 Tryz.underlying99 cells_u (hval 0 22 v0 rfl rfl) t0
  clear hA0 hval0
  simp only [List.append_nil] at hW'
  have hlt0 : ∀ x ∈ p0, x.block < W.heap.size := fun x hx => hW'.lt x (hx)
  refine (walk v0 W hs0).mono fun e W' ⟨he, hb⟩ => ?_
  subst he
  have s0 := Below.trod laidOut (by kernel_rfl) (of_decide_eq_true (by kernel_rfl)) t0 hb hlt0
  exact ⟨_, rfl, _, _, _, [] ++ [], _, [], hW', trodAll_cons_mk (shut_bool Tryz.underlying4 _) trodAll_mk0, trodAll_cons_mk s0 (trodAll_mk0), rfl, hb.frame _, fun h => by cases h⟩
theorem over : Rows.gaussReducesRow.holds Tryz.pinned (OpenSpec.ofChange Rows.gaussReducesSpec) :=
  OpenClaim.holds_of_wide 3 Tryz.f3 rfl rfl rfl rfl rfl rfl rfl ⟨rfl, rfl, rfl, rfl, rfl⟩ rfl rfl rfl rfl rfl (by kernel_rfl) Tryz.func3 (by kernel_rfl)
    (of_decide_eq_true (by kernel_rfl)) (by unfold Func.isWrapper; first | (rw [if_pos (by decide +kernel)]; kernel_rfl) | (rw [if_neg (by decide +kernel)]; exact ⟨rfl, rfl⟩))
    (fun os started H enc _ => lifted os started H enc)
/-- The statement. -/
theorem proved : Rows.GaussReducesSaid := over
end Go.Proofs.YtmpalajamfiiiaaGreat.gaussReduces
