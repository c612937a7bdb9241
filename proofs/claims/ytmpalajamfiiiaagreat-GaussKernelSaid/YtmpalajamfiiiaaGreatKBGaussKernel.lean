/- GaussKernel: the kernel. Condition: the arguments can be read as data. -/
import Derived.Test.YtmpalajamfiiiaaGreatKB6
import Derived.Deep.CutRange
import Derived.OpenShut
import Derived.LaidMore
import Derived.Lay
import Derived.Stop.Joined
namespace Go.Proofs.YtmpalajamfiiiaaGreat.gaussKernel
open Go.ChangeShapes Go.WideShapes Go.ChangeAt Go.RowKit Go.Proofs.YtmpalajamfiiiaaGreat.num Go.Proofs.YtmpalajamfiiiaaGreat.mem Go.Proofs.YtmpalajamfiiiaaGreat.nat Go.Proofs.YtmpalajamfiiiaaGreat.txt Go.Proofs.YtmpalajamfiiiaaGreat.str Go.Proofs.YtmpalajamfiiiaaGreat.flow Go.Proofs.YtmpalajamfiiiaaGreat.whl Go.Proofs.YtmpalajamfiiiaaGreat.rat
set_option linter.unusedVariables false
set_option linter.unusedSimpArgs false
theorem own : ownKnob Tryz.prog.godebug = none := by kernel_rfl
theorem laidOut : laidOutB Tryz.prog = true := by kernel_rfl
theorem cells_u : Tryz.prog.cellsOf 99 = 1 := by kernel_rfl
set_option maxHeartbeats 6400000 in
set_option maxRecDepth 100000 in
/-- The walk: the Go text returns true; what was there is as it was. -/
theorem walk (v0 : Value) (w : World) (h0 : ArgT w v0) :
    Calls Tryz.prog 5 #[v0] w (RetV (.bool true) w) := by
  obtain ⟨A0, n0, c0, rfl, -, -⟩ := h0.shape
  go_enter Tryz.func5, Tryz.ntmps5
  go_wp2_with fail
  refine (fewt_any _ 5 _ h0 (by omega)).mono ?_
  rintro e w1 ⟨V, U, p, rfl, hV, hU, hpl, hpr, hpx, b1⟩
  obtain ⟨AV, cV, rfl, -, -⟩ := hV.shape
  obtain ⟨AU, cU, rfl, -, -⟩ := hU.shape
  have HG : Hid (GssOk p 6) := gss_few5 hpl hpr hpx
  have HF := Lib.hid (And.intro hpl (And.intro hpr hpx))
  clear hpr hpx hpl
  go_wp2_with fail
  refine (gkernel_any _ p 6 _ hV HG.out).mono ?_
  rintro e w2 (⟨hm, K0, T, ps, rfl, hK, hE, b2⟩ | ⟨hm, rfl, b2⟩)
  · have HM := Lib.hid hm
    have HE := Lib.hid hE
    obtain ⟨C, hC⟩ : ∃ C, C = wideq p := ⟨_, rfl⟩
    rw [← hC] at hE hK
    have hLC : (nvT T ps C C).length + ps.length = C := nvT_len hE.ech
    obtain ⟨L, hL⟩ : ∃ L, L = (nvT T ps C C).length := ⟨_, rfl⟩
    obtain ⟨AK, cK, rfl, -, -⟩ := hK.shape
    rw [← hL] at hK hLC ⊢
    have hC5 : C ≤ 5 := by rw [hC]; exact wide_le HF.out.2.1
    have HC := Lib.hid (And.intro hC hL)
    have hV2 := hV.below b2
    have hU2 := hU.below b2
    have bb2 := b1.trans (b2.mono b1.size)
    clear hm hE b1 b2 hV hU hC hL
    go_wp2_with fail
    refine (mcheck_any _ p 0 _ hV2 (by rw [if_pos HM.out])).mono ?_
    rintro e w3 ⟨rfl, b3⟩
    have hV3 := hV2.below b3
    have hU3 := hU2.below b3
    have hK3 := hK.below b3
    have bb3 := bb2.trans (b3.mono bb2.size)
    have HRD : Hid (RdOk p 6) := rd_few5 HF.out.1 HF.out.2.1 HF.out.2.2 HM.out
    clear b3 bb2 hV2 hU2 hK
    go_wp2_with fail
    refine (rreduce_any _ p 6 _ hU3 HRD.out).mono ?_
    rintro e w4 ⟨V5, v5, U5, qs5, rfl, hU5, pv5, hRd, b4⟩
    obtain ⟨e1, e2⟩ := steps_same HE.out.sh HE.out.ech HE.out.red HE.out.ker hRd.sh hRd.ech hRd.red hRd.ker
    subst e1
    subst e2
    obtain ⟨A5, c5, rfl, -, -⟩ := hU5.shape
    obtain ⟨B5, d5, rfl, -⟩ := id pv5
    have hV4 := hV3.below b4
    have hK4 := hK3.below b4
    have bb4 := bb3.trans (b4.mono bb3.size)
    clear hRd b4 bb3 hV3 hU3 hK3 hU5
    go_wp2_with fail
    refine (msize_any _ p _ hV4).mono ?_
    rintro e w5 ⟨rfl, b5⟩
    rw [← HC.out.1]
    have hV5 := hV4.below b5
    have hK5 := hK4.below b5
    have pv6 := pv5.below b5
    have bb5 := bb4.trans (b5.mono bb4.size)
    have hneq : ((L : Int) != (C : Int) - (ps.length : Int)) = false := by rw [bne_eq_false_iff_eq]; omega
    clear b5 bb4 hV4 hK4 pv5
    go_wp2
    go_loopw [11, 12] (fun v11 v12 wr => ∃ j m : Nat, j ≤ C ∧ m ≤ j ∧ Hid (m = (frs ps j).length) ∧ Hid (Below w5.heap.size w5 wr) ∧ v11 = .int .i64 (m : Int) ∧ v12 = .int .i64 (j : Int)) (fun _ v12 _ => C - (intOf v12).toNat)
    case atStart => exact ⟨0, 0, by omega, by omega, (by show 0 = _; simp [frs]), Below.refl _ _, rfl, rfl⟩
    case round =>
      obtain ⟨j, m, hj, hmj, HMJ, HB, rfl, rfl⟩ := hrel
      obtain ⟨wo, hwo⟩ : ∃ wo, wo = wr := ⟨_, rfl⟩
      subst hwo
      by_cases hlt : j < C
      · have pvr := pv6.below HB.out
        have HPL : Hid (ps.length ≤ 1000) := by show _ ≤ _; omega
        by_cases hin : j ∈ ps
        · have CC := hasint_any _ ps j wo pvr HPL.out
          rw [decide_eq_true hin] at CC
          have HNX : Hid (m = (frs ps (j + 1)).length) := by show _ = _; rw [frs_in hin]; exact HMJ.out
          clear hin pvr
          go_wp2_with fail
          refine CC.mono ?_
          rintro e w7 ⟨rfl, b7⟩
          have HB7 : Hid (Below w5.heap.size w5 w7) := HB.out.trans (b7.mono HB.out.size)
          clear CC HB b7
          go_wp2
          go_roundw
          case rel => exact ⟨j + 1, m, by omega, by omega, HNX, HB7, by go_num, by go_num⟩
          case measure => simp [intOf]; omega
        · have CC := hasint_any _ ps j wo pvr HPL.out
          rw [decide_eq_false hin] at CC
          have HNI := Lib.hid hin
          have HNX : Hid (m + 1 = (frs ps (j + 1)).length) := by show _ = _; rw [frs_out hin, List.length_append, ← HMJ.out]; rfl
          have hmL : (nvT T ps C C)[m]? = some (nvR T ps C j ps.length) := by rw [HMJ.out]; exact nvT_at hin hlt
          have hr4 : ps.length ≤ 4 := by
            have h1 := (List.getElem?_eq_some_iff.1 hmL).1
            rw [← HC.out.2] at h1
            omega
          obtain ⟨r, hr⟩ : ∃ r, r = nvR T ps C j ps.length := ⟨_, rfl⟩
          rw [← hr] at hmL
          have hne : nvT T ps C C ≠ [] := fun e => by rw [e] at hmL; simp at hmL
          have HRL : Hid (r.length = C) := by show _ = _; rw [hr]; exact nvR_len _ _ _ _ _
          have HRB : Hid (lenT p 1 ∧ (∀ y ∈ r, lenQ y 895) ∧ (1 + 895 + 1) * r.length + 1 ≤ 4800) := by
            refine ⟨HF.out.2.2, ?_, by rw [HRL.out]; omega⟩
            rw [hr]
            have hk := HE.out
            rw [← HC.out.1] at hk
            exact nvR_lens hk.sh hk.ech (hk.small HF.out.1 hr4) (by omega) hin hlt
          have HZ : Hid (∀ x ∈ dotsq p r, x = 0) := by
            have hk := HE.out
            rw [← HC.out.1] at hk
            rw [hr]
            exact ker_dots (by have := shp_of HM.out; rwa [← HC.out.1] at this) hk hin hlt
          have HR := Lib.hid (And.intro hr hmL)
          obtain ⟨adK, rfl⟩ := hK5.place hne
          clear hin pvr hr hr4 hne
          go_wp2_with fail
          refine CC.mono ?_
          rintro e w7 ⟨rfl, b7⟩
          have HB7 : Hid (Below w5.heap.size w5 w7) := HB.out.trans (b7.mono HB.out.size)
          obtain ⟨Ar, cr, hmLt, ecr, sr⟩ := (hK5.below HB7.out).at2 hmL
          have hV7 := hV5.below HB7.out
          clear CC HB b7 hmL
          go_wp2_with fail
          refine (mapply_any _ _ p r 1 895 _ hV7 sr HRB.out).mono ?_
          rintro e w8 (⟨-, X, rfl, sX, b8⟩ | ⟨hn, -⟩)
          · rw [if_pos rfl] at sX
            have hXl : (dotsq p r).length = p.length := dotsq_len p r
            obtain ⟨AX, cX, rfl, -, -⟩ := sX.shape
            have HB8 : Hid (Below w5.heap.size w5 w8) := HB7.out.trans (b8.mono HB7.out.size)
            have CL := flead_gen _ (dotsq p r) ((dotsq p r).length : Int) w8 sX (by rw [lead_noughts HZ.out])
            have sr8 := sr.below b8
            clear HB7 sX hXl b8 sr hV7 ecr
            go_wp2_with fail
            refine CL.mono ?_
            rintro e w9 ⟨rfl, b9⟩
            have HB9 : Hid (Below w5.heap.size w5 w9) := HB8.out.trans (b9.mono HB8.out.size)
            have sr9 := sr8.below b9
            clear HB8 CL b9 sr8
            obtain ⟨wt, hwt⟩ : ∃ wt, wt = w9 := ⟨_, rfl⟩
            subst hwt
            go_wp2
            go_loopw [16] (fun v16 wr => ∃ i : Nat, i ≤ C ∧ Hid (Below wt.heap.size wt wr) ∧ v16 = .int .i64 (i : Int)) (fun v16 _ => C - (intOf v16).toNat)
            case atStart => exact ⟨0, by omega, Below.refl _ _, rfl⟩
            case round =>
              obtain ⟨i, hi, HBi, rfl⟩ := hrel
              obtain ⟨wi, hwi⟩ : ∃ wi, wi = wr := ⟨_, rfl⟩
              subst hwi
              by_cases hic : i < C
              · have HBd : Hid (Below wt.heap.size wt wi.drew) := HBi.out.drew
                have pvi := pv6.below (HB9.out.trans (HBd.out.mono HB9.out.size))
                by_cases hip : i ∈ ps
                · have CH := hasint_any _ ps i wi.drew pvi HPL.out
                  rw [decide_eq_true hip] at CH
                  clear hip pvi
                  --R21
                  go_upto_region 21 with (fail)
                  refine wp_region_held_drew (S := fun w' : World => Below wi.drew.heap.size wi.drew w') (by kernel_rfl) (Below.refl _ _) (fun hHeld => ?_)
                  refine wpAnyH_take (i := 0) (v := .slice B5 ps.length d5) rfl (by kernel_rfl) (by kernel_rfl) (by kernel_rfl) (fun _ _ _ h => h) (Or.inl ⟨by kernel_rfl, fun w hSw => by (go_simp; first | done | with_reducible rfl)⟩) hHeld ?_
                  simp only [Act.put, List.getElem_toArray, List.getElem_cons_zero, List.getElem_cons_succ, List.setIfInBounds_toArray, List.set_cons_zero, List.set_cons_succ]
                  refine wpAnyH_take (i := 1) (v := .int .i64 (i : Int)) rfl (by kernel_rfl) (by kernel_rfl) (by kernel_rfl) (fun _ _ _ h => h) (Or.inl ⟨by kernel_rfl, fun w hSw => by (go_simp; first | done | with_reducible rfl)⟩) hHeld ?_
                  simp only [Act.put, List.getElem_toArray, List.getElem_cons_zero, List.getElem_cons_succ, List.setIfInBounds_toArray, List.set_cons_zero, List.set_cons_succ]
                  refine wpAnyH_ready (rs := [2]) (by kernel_rfl) (by simp) ?_
                  refine AllReadyH.cons rfl (fun K hK => ?_) AllReadyH.nil
                  go_simp
                  go_at_call 26
                  refine (CH).mono ?_
                  rintro e w10 ⟨rfl, b10⟩
                  have bT := b10
                  refine hK.out _ _ (by exact bT) (fun hHeld => ?_)
                  clear hK K
                  try simp only [Act.put, List.getElem_toArray, List.getElem_cons_zero, List.getElem_cons_succ, List.setIfInBounds_toArray, List.set_cons_zero, List.set_cons_succ]
                  refine wpAnyH_take (i := 3) (v := .bool false) rfl (by kernel_rfl) (by kernel_rfl) (by kernel_rfl) (fun _ _ _ h => h) (Or.inl ⟨by kernel_rfl, fun w hSw => by (go_simp; first | done | with_reducible rfl)⟩) hHeld ?_
                  simp only [Act.put, List.getElem_toArray, List.getElem_cons_zero, List.getElem_cons_succ, List.setIfInBounds_toArray, List.set_cons_zero, List.set_cons_succ]
                  refine wpAnyH_take (i := 4) (v := .bool false) rfl (by kernel_rfl) (by kernel_rfl) (by kernel_rfl) (fun _ _ _ h => h) (Or.inl ⟨by kernel_rfl, fun w hSw => by (go_simp; first | done | with_reducible rfl)⟩) hHeld ?_
                  simp only [Act.put, List.getElem_toArray, List.getElem_cons_zero, List.getElem_cons_succ, List.setIfInBounds_toArray, List.set_cons_zero, List.set_cons_succ]
                  refine wpAnyH_take (i := 5) (v := undef) rfl (by kernel_rfl) (by kernel_rfl) (by kernel_rfl) (fun _ _ _ h => h) (Or.inr ⟨by kernel_rfl, rfl⟩) hHeld ?_
                  simp only [Act.put, List.getElem_toArray, List.getElem_cons_zero, List.getElem_cons_succ, List.setIfInBounds_toArray, List.set_cons_zero, List.set_cons_succ]
                  refine wpAnyH_take (i := 6) (v := undef) rfl (by kernel_rfl) (by kernel_rfl) (by kernel_rfl) (fun _ _ _ h => h) (Or.inr ⟨by kernel_rfl, rfl⟩) hHeld ?_
                  simp only [Act.put, List.getElem_toArray, List.getElem_cons_zero, List.getElem_cons_succ, List.setIfInBounds_toArray, List.set_cons_zero, List.set_cons_succ]
                  refine wpAnyH_take (i := 7) (v := undef) rfl (by kernel_rfl) (by kernel_rfl) (by kernel_rfl) (fun _ _ _ h => h) (Or.inr ⟨by kernel_rfl, rfl⟩) hHeld ?_
                  simp only [Act.put, List.getElem_toArray, List.getElem_cons_zero, List.getElem_cons_succ, List.setIfInBounds_toArray, List.set_cons_zero, List.set_cons_succ]
                  refine wpAnyH_take (i := 8) (v := undef) rfl (by kernel_rfl) (by kernel_rfl) (by kernel_rfl) (fun _ _ _ h => h) (Or.inr ⟨by kernel_rfl, rfl⟩) hHeld ?_
                  simp only [Act.put, List.getElem_toArray, List.getElem_cons_zero, List.getElem_cons_succ, List.setIfInBounds_toArray, List.set_cons_zero, List.set_cons_succ]
                  refine wpAnyH_take (i := 9) (v := undef) rfl (by kernel_rfl) (by kernel_rfl) (by kernel_rfl) (fun _ _ _ h => h) (Or.inr ⟨by kernel_rfl, rfl⟩) hHeld ?_
                  simp only [Act.put, List.getElem_toArray, List.getElem_cons_zero, List.getElem_cons_succ, List.setIfInBounds_toArray, List.set_cons_zero, List.set_cons_succ]
                  refine wpAnyH_take (i := 10) (v := undef) rfl (by kernel_rfl) (by kernel_rfl) (by kernel_rfl) (fun _ _ _ h => h) (Or.inr ⟨by kernel_rfl, rfl⟩) hHeld ?_
                  simp only [Act.put, List.getElem_toArray, List.getElem_cons_zero, List.getElem_cons_succ, List.setIfInBounds_toArray, List.set_cons_zero, List.set_cons_succ]
                  refine wpAnyH_take (i := 11) (v := undef) rfl (by kernel_rfl) (by kernel_rfl) (by kernel_rfl) (fun _ _ _ h => h) (Or.inr ⟨by kernel_rfl, rfl⟩) hHeld ?_
                  simp only [Act.put, List.getElem_toArray, List.getElem_cons_zero, List.getElem_cons_succ, List.setIfInBounds_toArray, List.set_cons_zero, List.set_cons_succ]
                  refine wpAnyH_ready (rs := [12]) (by kernel_rfl) (by simp) ?_
                  refine AllReadyH.cons rfl (fun K hK => ?_) AllReadyH.nil
                  go_simp
                  refine hK.out _ _ (by exact bT) (fun hHeld => ?_)
                  clear hK K
                  try simp only [Act.put, List.getElem_toArray, List.getElem_cons_zero, List.getElem_cons_succ, List.setIfInBounds_toArray, List.set_cons_zero, List.set_cons_succ]
                  refine wpAnyH_ready (rs := [13]) (by kernel_rfl) (by simp) ?_
                  refine AllReadyH.cons rfl (fun K hK => ?_) AllReadyH.nil
                  go_simp
                  refine hK.out _ _ (by exact bT) (fun hHeld => ?_)
                  clear hK K
                  try simp only [Act.put, List.getElem_toArray, List.getElem_cons_zero, List.getElem_cons_succ, List.setIfInBounds_toArray, List.set_cons_zero, List.set_cons_succ]
                  refine wpAnyH_ready (rs := [14]) (by kernel_rfl) (by simp) ?_
                  refine AllReadyH.cons rfl (fun K hK => ?_) AllReadyH.nil
                  go_simp
                  refine hK.out _ _ (by exact bT) (fun hHeld => ?_)
                  clear hK K
                  try simp only [Act.put, List.getElem_toArray, List.getElem_cons_zero, List.getElem_cons_succ, List.setIfInBounds_toArray, List.set_cons_zero, List.set_cons_succ]
                  refine wpAnyH_take (i := 15) (v := undef) rfl (by kernel_rfl) (by kernel_rfl) (by kernel_rfl) (fun _ _ _ h => h) (Or.inr ⟨by kernel_rfl, rfl⟩) hHeld ?_
                  simp only [Act.put, List.getElem_toArray, List.getElem_cons_zero, List.getElem_cons_succ, List.setIfInBounds_toArray, List.set_cons_zero, List.set_cons_succ]
                  refine wpAnyH_take (i := 16) (v := .bool false) rfl (by kernel_rfl) (by kernel_rfl) (by kernel_rfl) (fun _ _ _ h => h) (Or.inl ⟨by kernel_rfl, fun w hSw => by (go_simp; first | done | with_reducible rfl)⟩) hHeld ?_
                  simp only [Act.put, List.getElem_toArray, List.getElem_cons_zero, List.getElem_cons_succ, List.setIfInBounds_toArray, List.set_cons_zero, List.set_cons_succ]
                  refine wpAnyH_done (by kernel_rfl) ?_ _
                  have HB13 : Hid (Below wt.heap.size wt _) := HBd.out.trans (bT.mono HBd.out.size)
                  clear HBi HBd CH bT
                  go_wp2
                  go_roundw
                  case rel => exact ⟨i + 1, by omega, HB13, by go_num⟩
                  case measure => simp [intOf]; omega
                  --E21
                · have CH := hasint_any _ ps i wi.drew pvi HPL.out
                  rw [decide_eq_false hip] at CH
                  obtain ⟨q, hq⟩ : ∃ q, r[i]? = some q := ⟨_, List.getElem?_eq_getElem (by rw [HRL.out]; exact hic)⟩
                  have hqv : q = if i = j then 1 else 0 := by
                    have h1 := hq
                    rw [HR.out.1, nvR_at hic] at h1
                    injection h1 with h1
                    rw [← h1]
                    by_cases e : i = j
                    · subst e; rw [if_pos rfl]; exact nv_self
                    · rw [if_neg e]; exact nv_free e (not_piv hip)
                  obtain ⟨gr, or, uq, tq, rfl, hia, k0, k1, k2, sq, dq⟩ := (sr9.below HBd.out).at_ hq
                  obtain ⟨Aq, cq, rfl, _⟩ := id sq
                  obtain ⟨Dq, eq, rfl, _⟩ := id dq
                  have hix := fun w => index3 (P := Tryz.prog) Tryz.underlying64 (by kernel_rfl) (g := gr) (o := or) (c := cr) hia w
                  clear hip pvi hq
                  obtain ⟨B, hB⟩ : ∃ B : Bool, B = ((i : Int) == (j : Int)) := ⟨_, rfl⟩
                  obtain ⟨z, hz⟩ : ∃ z : Int, z = if B then 1 else 0 := ⟨_, rfl⟩
                  obtain ⟨y, hy⟩ : ∃ y : Rat, y = (z : Rat) := ⟨_, rfl⟩
                  have hz2 : (z = 0 ∨ z = 1) ∧ q = y := by
                    by_cases hij : i = j
                    · rw [hqv, if_pos hij, hy, hz, hB, hij, beq_self_eq_true]; exact ⟨.inr rfl, rfl⟩
                    · rw [hqv, if_neg hij, hy, hz, hB, show ((i : Int) == (j : Int)) = false by rw [beq_eq_false_iff_ne]; omega]; exact ⟨.inl rfl, rfl⟩
                  have HQY : Hid (true = decide (q = y)) := (decide_eq_true hz2.2).symm
                  have hBe : ((i : Int) == (j : Int)) = B := hB.symm
                  have CI : ∀ w, Calls Tryz.prog 31 #[.bool B] w (RetV (.int .i64 z) w) := fun w => by rw [hz]; exact is14_any B w
                  have CO : ∀ w, Calls Tryz.prog 30 #[.int .i64 z] w (RetQ y w) := fun w => by rw [hy]; exact of8_any z w (by rcases hz2.1 with e | e <;> omega) (by rcases hz2.1 with e | e <;> omega)
                  clear hqv hy hz hB hz2
                  --R21
                  go_upto_region 21 with (fail)
                  refine wp_region_held_drew (S := fun w' : World => Below wi.drew.heap.size wi.drew w') (by kernel_rfl) (Below.refl _ _) (fun hHeld => ?_)
                  refine wpAnyH_take (i := 0) (v := .slice B5 ps.length d5) rfl (by kernel_rfl) (by kernel_rfl) (by kernel_rfl) (fun _ _ _ h => h) (Or.inl ⟨by kernel_rfl, fun w hSw => by (go_simp; first | done | with_reducible rfl)⟩) hHeld ?_
                  simp only [Act.put, List.getElem_toArray, List.getElem_cons_zero, List.getElem_cons_succ, List.setIfInBounds_toArray, List.set_cons_zero, List.set_cons_succ]
                  refine wpAnyH_take (i := 1) (v := .int .i64 (i : Int)) rfl (by kernel_rfl) (by kernel_rfl) (by kernel_rfl) (fun _ _ _ h => h) (Or.inl ⟨by kernel_rfl, fun w hSw => by (go_simp; first | done | with_reducible rfl)⟩) hHeld ?_
                  simp only [Act.put, List.getElem_toArray, List.getElem_cons_zero, List.getElem_cons_succ, List.setIfInBounds_toArray, List.set_cons_zero, List.set_cons_succ]
                  refine wpAnyH_ready (rs := [2]) (by kernel_rfl) (by simp) ?_
                  refine AllReadyH.cons rfl (fun K hK => ?_) AllReadyH.nil
                  go_simp
                  go_at_call 26
                  refine (CH).mono ?_
                  rintro e w10 ⟨rfl, b10⟩
                  have bT := b10
                  refine hK.out _ _ (by exact bT) (fun hHeld => ?_)
                  clear hK K
                  try simp only [Act.put, List.getElem_toArray, List.getElem_cons_zero, List.getElem_cons_succ, List.setIfInBounds_toArray, List.set_cons_zero, List.set_cons_succ]
                  refine wpAnyH_take (i := 3) (v := .bool true) rfl (by kernel_rfl) (by kernel_rfl) (by kernel_rfl) (fun _ _ _ h => h) (Or.inl ⟨by kernel_rfl, fun w hSw => by (go_simp; first | done | with_reducible rfl)⟩) hHeld ?_
                  simp only [Act.put, List.getElem_toArray, List.getElem_cons_zero, List.getElem_cons_succ, List.setIfInBounds_toArray, List.set_cons_zero, List.set_cons_succ]
                  refine wpAnyH_take (i := 4) (v := .bool true) rfl (by kernel_rfl) (by kernel_rfl) (by kernel_rfl) (fun _ _ _ h => h) (Or.inl ⟨by kernel_rfl, fun w hSw => by (go_simp; first | done | with_reducible rfl)⟩) hHeld ?_
                  simp only [Act.put, List.getElem_toArray, List.getElem_cons_zero, List.getElem_cons_succ, List.setIfInBounds_toArray, List.set_cons_zero, List.set_cons_succ]
                  refine wpAnyH_take (i := 5) (v := .slice (some ⟨gr, or, none⟩) r.length cr) rfl (by kernel_rfl) (by kernel_rfl) (by kernel_rfl) (fun _ _ _ h => h) (Or.inl ⟨by kernel_rfl, fun w hSw => by (go_simp; first | done | with_reducible rfl)⟩) hHeld ?_
                  simp only [Act.put, List.getElem_toArray, List.getElem_cons_zero, List.getElem_cons_succ, List.setIfInBounds_toArray, List.set_cons_zero, List.set_cons_succ]
                  refine wpAnyH_take (i := 6) (v := .int .i64 (i : Int)) rfl (by kernel_rfl) (by kernel_rfl) (by kernel_rfl) (fun _ _ _ h => h) (Or.inl ⟨by kernel_rfl, fun w hSw => by (go_simp; first | done | with_reducible rfl)⟩) hHeld ?_
                  simp only [Act.put, List.getElem_toArray, List.getElem_cons_zero, List.getElem_cons_succ, List.setIfInBounds_toArray, List.set_cons_zero, List.set_cons_succ]
                  refine wpAnyH_take (i := 7) (v := .pointer (some ⟨gr, or + i * 3, none⟩)) rfl (by kernel_rfl) (by kernel_rfl) (by kernel_rfl) (fun _ _ _ h => h) (Or.inl ⟨by kernel_rfl, fun w hSw => by (go_simp; first | done | with_reducible rfl)⟩) hHeld ?_
                  simp only [Act.put, List.getElem_toArray, List.getElem_cons_zero, List.getElem_cons_succ, List.setIfInBounds_toArray, List.set_cons_zero, List.set_cons_succ]
                  refine wpAnyH_take (i := 8) (v := .agg #[.bool (ngB q.num), .slice Aq (digs 4294967296 q.num.natAbs).length cq, .slice Dq (digs 4294967296 q.den).length eq]) rfl (by kernel_rfl) (by kernel_rfl) (by kernel_rfl) (fun _ _ _ h => h) (Or.inl ⟨by kernel_rfl, fun w hSw => by (have hBw : Below wi.drew.heap.size wi.drew w := hSw; have f0 := (hBw.cell (World.block_lt_of_cell? _ _ k0)).trans k0; have f1 := (hBw.cell (World.block_lt_of_cell? _ _ k1)).trans k1; have f2 := (hBw.cell (World.block_lt_of_cell? _ _ k2)).trans k2; go_simp; first | done | with_reducible rfl)⟩) hHeld ?_
                  simp only [Act.put, List.getElem_toArray, List.getElem_cons_zero, List.getElem_cons_succ, List.setIfInBounds_toArray, List.set_cons_zero, List.set_cons_succ]
                  refine wpAnyH_take (i := 9) (v := .int .i64 (i : Int)) rfl (by kernel_rfl) (by kernel_rfl) (by kernel_rfl) (fun _ _ _ h => h) (Or.inl ⟨by kernel_rfl, fun w hSw => by (go_simp; first | done | with_reducible rfl)⟩) hHeld ?_
                  simp only [Act.put, List.getElem_toArray, List.getElem_cons_zero, List.getElem_cons_succ, List.setIfInBounds_toArray, List.set_cons_zero, List.set_cons_succ]
                  refine wpAnyH_take (i := 10) (v := .int .i64 (j : Int)) rfl (by kernel_rfl) (by kernel_rfl) (by kernel_rfl) (fun _ _ _ h => h) (Or.inl ⟨by kernel_rfl, fun w hSw => by (go_simp; first | done | with_reducible rfl)⟩) hHeld ?_
                  simp only [Act.put, List.getElem_toArray, List.getElem_cons_zero, List.getElem_cons_succ, List.setIfInBounds_toArray, List.set_cons_zero, List.set_cons_succ]
                  refine wpAnyH_take (i := 11) (v := .bool B) rfl (by kernel_rfl) (by kernel_rfl) (by kernel_rfl) (fun _ _ _ h => h) (Or.inl ⟨by kernel_rfl, fun w hSw => by (go_simp; first | done | with_reducible rfl)⟩) hHeld ?_
                  simp only [Act.put, List.getElem_toArray, List.getElem_cons_zero, List.getElem_cons_succ, List.setIfInBounds_toArray, List.set_cons_zero, List.set_cons_succ]
                  refine wpAnyH_ready (rs := [12]) (by kernel_rfl) (by simp) ?_
                  refine AllReadyH.cons rfl (fun K hK => ?_) AllReadyH.nil
                  go_simp
                  go_at_call 31
                  refine (CI _).mono ?_
                  rintro e w11 ⟨rfl, b11⟩
                  have bT := bT.trans (b11.mono bT.size)
                  refine hK.out _ _ (by exact bT) (fun hHeld => ?_)
                  clear hK K
                  try simp only [Act.put, List.getElem_toArray, List.getElem_cons_zero, List.getElem_cons_succ, List.setIfInBounds_toArray, List.set_cons_zero, List.set_cons_succ]
                  refine wpAnyH_ready (rs := [13]) (by kernel_rfl) (by simp) ?_
                  refine AllReadyH.cons rfl (fun K hK => ?_) AllReadyH.nil
                  go_simp
                  go_at_call 30
                  refine (CO _).mono ?_
                  rintro e w12 ⟨v12, rfl, k12, -, b12⟩; obtain ⟨u12, t12, rfl, s12, d12⟩ := k12; obtain ⟨A12, c12, rfl, _⟩ := id s12; obtain ⟨D12, e12, rfl, _⟩ := id d12
                  have bT := bT.trans (b12.mono bT.size)
                  refine hK.out _ _ (by exact bT) (fun hHeld => ?_)
                  clear hK K
                  try simp only [Act.put, List.getElem_toArray, List.getElem_cons_zero, List.getElem_cons_succ, List.setIfInBounds_toArray, List.set_cons_zero, List.set_cons_succ]
                  refine wpAnyH_ready (rs := [14]) (by kernel_rfl) (by simp) ?_
                  refine AllReadyH.cons rfl (fun K hK => ?_) AllReadyH.nil
                  go_simp
                  go_at_call 29
                  refine (same8_any _ _ q y true _ ⟨_, _, rfl, sq.below bT, dq.below bT⟩ ⟨_, _, rfl, s12, d12⟩ HQY.out).mono ?_
                  rintro e w13 ⟨rfl, b13⟩
                  have bT := bT.trans (b13.mono bT.size)
                  refine hK.out _ _ (by exact bT) (fun hHeld => ?_)
                  clear hK K
                  try simp only [Act.put, List.getElem_toArray, List.getElem_cons_zero, List.getElem_cons_succ, List.setIfInBounds_toArray, List.set_cons_zero, List.set_cons_succ]
                  refine wpAnyH_take (i := 15) (v := .bool false) rfl (by kernel_rfl) (by kernel_rfl) (by kernel_rfl) (fun _ _ _ h => h) (Or.inl ⟨by kernel_rfl, fun w hSw => by (go_simp; first | done | with_reducible rfl)⟩) hHeld ?_
                  simp only [Act.put, List.getElem_toArray, List.getElem_cons_zero, List.getElem_cons_succ, List.setIfInBounds_toArray, List.set_cons_zero, List.set_cons_succ]
                  refine wpAnyH_take (i := 16) (v := .bool false) rfl (by kernel_rfl) (by kernel_rfl) (by kernel_rfl) (fun _ _ _ h => h) (Or.inl ⟨by kernel_rfl, fun w hSw => by (go_simp; first | done | with_reducible rfl)⟩) hHeld ?_
                  simp only [Act.put, List.getElem_toArray, List.getElem_cons_zero, List.getElem_cons_succ, List.setIfInBounds_toArray, List.set_cons_zero, List.set_cons_succ]
                  refine wpAnyH_done (by kernel_rfl) ?_ _
                  have HB13 : Hid (Below wt.heap.size wt _) := HBd.out.trans (bT.mono HBd.out.size)
                  clear HBi HBd CH bT
                  go_wp2
                  go_roundw
                  case rel => exact ⟨i + 1, by omega, HB13, by go_num⟩
                  case measure => simp [intOf]; omega
                  --E21
              · obtain rfl : i = C := by omega
                have HBE : Hid (Below w5.heap.size w5 wi) := HB9.out.trans (HBi.out.mono HB9.out.size)
                clear HBi sr9 HB9
                go_wp2
                go_roundw
                case rel => exact ⟨j + 1, m + 1, by omega, by omega, HNX, HBE, by go_num, by go_num⟩
                case measure => simp [intOf]; omega
          · exact absurd ⟨HM.out, by rw [HRL.out]; exact HC.out.1.symm⟩ hn
      · obtain rfl : j = C := by omega
        have bbE := bb5.trans (HB.out.mono bb5.size)
        go_wp2_with fail
        refine (works14_any _).mono ?_
        rintro e w7 ⟨rfl, b7⟩
        have bb7 := bbE.trans (b7.mono bbE.size)
        go_wp2
        go_ret
        exact ⟨rfl, bb7⟩
  · have HM := Lib.hid hm
    have hV2 := hV.below b2
    have bb2 := b1.trans (b2.mono b1.size)
    clear hm b2 b1 hV hU
    go_wp2_with fail
    refine (mcheck_any _ p 8 _ hV2 (by rw [if_neg HM.out])).mono ?_
    rintro e w4 ⟨rfl, b4⟩
    have bb4 := bb2.trans (b4.mono bb2.size)
    go_wp2_with fail
    refine (works14_any _).mono ?_
    rintro e w6 ⟨rfl, b6⟩
    have bb6 := bb4.trans (b6.mono bb4.size)
    go_wp2
    go_ret
    exact ⟨rfl, bb6⟩
set_option maxRecDepth 100000 in
theorem lifted (os : Os) (started : os.Started) (H : Type) (enc : TypeId × Value → H) :
  ReturnsInHanded {} Tryz.checked os 5 .any (Rows.gaussKernelSpec.pre6 enc Tryz.prog Tryz.f5 Rows.gaussKernelRow.domain false) (Rows.gaussKernelSpec.post enc Tryz.prog Tryz.f5 false true false false) := by
 refine returnsInHanded_of_change (C := Tryz.checked) own started (by kernel_rfl) Tryz.func5
  (ChangeSpec.witness6 (enc := enc) (C := Tryz.checked) false ⟨#[], #[.slice none 0 0], []⟩ 8 (by kernel_rfl) (by kernel_rfl) (by kernel_rfl) (by kernel_rfl)) ?_
 intro W base args ds gs before hval0 hW hcnd _
 have hval : ∀ (j : Nat) t v, Tryz.f5.params[j]? = some t → args[j]? = some v → Value.okWide Tryz.prog W .any base t v := hval0
 have hW' := hW
 obtain ⟨p, q, hA0, hV, rfl, hfz, hnd⟩ := hW
 have hA : DataW.TrodAll enc Tryz.prog W 0 (fun _ => true) true Tryz.f5.params.toList args.toList ds p := hA0
 rw [Tryz.params5] at hA hval
 obtain ⟨v0, vs0, d0, ds0, p0, q0, hargs, rfl, rfl, t0, r0⟩ := trodAll_cons hA
 obtain ⟨rfl, rfl, rfl⟩ := trodAll_nil r0
 obtain rfl : args = #[v0] := by cases args; simp_all
 obtain ⟨rfl, rfl⟩ := trodVars_none hV
 have hs0 := arg_t Tryz.underlying22 (by kernel_rfl) Tryz.underlying64 Tryz.underlying44 (by kernel_rfl) (by kernel_rfl) Tryz.underlying42 (by kernel_rfl) Tryz.underlying4 Tryz.underlying40 Tryz.underlying40 Tryz.underlying99 cells_u (hval 0 22 v0 rfl rfl) t0
 clear hA0 hval0
 simp only [List.append_nil] at hW'
 have hlt0 : ∀ x ∈ p0, x.block < W.heap.size := fun x hx => hW'.lt x (hx)
 refine (walk v0 W hs0).mono fun e W' ⟨he, hb⟩ => ?_
 subst he
 have s0 := Below.trod laidOut (by kernel_rfl) (of_decide_eq_true (by kernel_rfl)) t0 hb hlt0
 exact ⟨_, rfl, _, _, _, [] ++ [], _, [], hW', trodAll_cons_mk (shut_bool Tryz.underlying4 _) trodAll_mk0, trodAll_cons_mk s0 (trodAll_mk0), rfl, hb.frame _, fun h => by cases h⟩
theorem over : Rows.gaussKernelRow.holds Tryz.pinned (OpenSpec.ofChange Rows.gaussKernelSpec) :=
 OpenClaim.holds_of_wide 5 Tryz.f5 rfl rfl rfl rfl rfl rfl rfl ⟨rfl, rfl, rfl, rfl, rfl⟩ rfl rfl rfl rfl rfl (by kernel_rfl) Tryz.func5 (by kernel_rfl)
  (of_decide_eq_true (by kernel_rfl)) (by unfold Func.isWrapper; first | (rw [if_pos (by decide +kernel)]; kernel_rfl) | (rw [if_neg (by decide +kernel)]; exact ⟨rfl, rfl⟩))
  (fun os started H enc _ => lifted os started H enc)
/-- The statement. -/
theorem proved : Rows.GaussKernelSaid := over
end Go.Proofs.YtmpalajamfiiiaaGreat.gaussKernel
