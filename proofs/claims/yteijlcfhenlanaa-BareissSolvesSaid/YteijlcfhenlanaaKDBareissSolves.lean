/- BareissSolves: equations solved, Cramer's way. Condition: the arguments can be read as data. -/
import Derived.Test.YteijlcfhenlanaaKD4
import Derived.Deep.CutRange
import Derived.OpenShut
import Derived.LaidMore
import Derived.Lay
import Derived.Stop.Joined
namespace Go.Proofs.Yteijlcfhenlanaa.bareissSolves
open Go.ChangeShapes Go.WideShapes Go.ChangeAt Go.RowKit Go.Proofs.Yteijlcfhenlanaa.num Go.Proofs.Yteijlcfhenlanaa.mem Go.Proofs.Yteijlcfhenlanaa.nat Go.Proofs.Yteijlcfhenlanaa.txt Go.Proofs.Yteijlcfhenlanaa.str Go.Proofs.Yteijlcfhenlanaa.flow Go.Proofs.Yteijlcfhenlanaa.whl Go.Proofs.Yteijlcfhenlanaa.rat
set_option linter.unusedVariables false
set_option linter.unusedSimpArgs false
theorem own : ownKnob Try.prog.godebug = none := by kernel_rfl
theorem laidOut : laidOutB Try.prog = true := by kernel_rfl
theorem cells_u : Try.prog.cellsOf 64 = 1 := by kernel_rfl
set_option maxHeartbeats 6400000 in
set_option maxRecDepth 100000 in
/-- The walk: the Go text returns true; what was there is as it was. -/
theorem walk (v0 : Value) (v1 : Value) (w : World) (h0 : ArgW w v0) (h1 : ArgW w v1) :
    Calls Try.prog 4 #[v0, v1] w (RetV (.bool true) w) := by
  obtain ⟨A0, n0, c0, rfl, -, -⟩ := h0.shape
  obtain ⟨A1, n1, c1, rfl, -, -⟩ := h1.shape
  have CF : ∀ (a : Value) (w : World), ArgW w a → Calls Try.prog 7 #[a, .int .i64 3] w (RetFewI 3 w) := fun a w h => few15_any a 3 w h (by omega)
  go_enter Try.func4, Try.ntmps4
  go_wp2_with fail
  refine (CF _ _ h0).mono ?_
  rintro e w2 ⟨V, U, T, rfl, hV, hU, hT1, hT2, hT3, b2⟩
  obtain ⟨n, hn⟩ : ∃ n, n = T.length := ⟨_, rfl⟩
  obtain ⟨AV, cV, rfl, -, -⟩ := hV.shape
  obtain ⟨AU, cU, rfl, -, -⟩ := hU.shape
  rw [← hn] at hV hU ⊢
  have hn3 : n ≤ 3 := by omega
  have HT : Hid (n = T.length ∧ T.length ≤ 3 ∧ lenI T 2 ∧ ∀ r ∈ T, r.length ≤ 3) := ⟨hn, hT1, hT3, hT2⟩
  have hB2 := h1.below b2
  clear hn hT1 hT2 hT3 h0 h1
  go_wp2_with fail
  refine (CF _ _ hB2).mono ?_
  rintro e w3 ⟨W, U2, R, rfl, hW, hU2, hT1, hT2, hT3, b3⟩
  obtain ⟨m, hm⟩ : ∃ m, m = R.length := ⟨_, rfl⟩
  obtain ⟨AW, cW, rfl, -, -⟩ := hW.shape
  obtain ⟨AU2, cU2, rfl, -, -⟩ := hU2.shape
  rw [← hm] at hW hU2 ⊢
  have hm3 : m ≤ 3 := by omega
  have HR : Hid (m = R.length ∧ R.length ≤ 3 ∧ lenI R 2 ∧ ∀ r ∈ R, r.length ≤ 3) := ⟨hm, hT1, hT3, hT2⟩
  have bb3 := b2.trans (b3.mono b2.size)
  have hV3 := hV.below b3
  have hU3 := hU.below b3
  clear hm hT1 hT2 hT3 b2 b3 hB2 hV hU CF
  have HC : Hid (lenI T 2 ∧ lenI R 2 ∧ (2 + 1) * 2 ^ T.length ≤ 5001) := ⟨HT.out.2.2.1, HR.out.2.2.1, pow_lens (n := 3) HT.out.2.1 (by omega)⟩
  go_wp2_with fail
  refine (bsolve_any _ _ T R 2 _ hV3 hW HC).mono ?_
  rintro e w4 ⟨b4, ⟨hok, X0, v4, d, X, rfl, hX, k4, hS⟩ | ⟨hok, hd0, rfl⟩ | ⟨hok, rfl⟩⟩
  · obtain rfl : n = m := by rw [HT.out.1, HR.out.1]; exact hok.2.2
    have HOK := Lib.hid hok
    have HS := Lib.hid hS
    obtain ⟨u4, rfl, s4⟩ := k4
    obtain ⟨Ad, cd, rfl, _⟩ := id s4
    obtain ⟨AX, cX, rfl, -, -⟩ := hX.shape
    have hXl : X.length = n := by rw [HT.out.1]; exact hS.sh.1
    have HXL := Lib.hid hXl
    rw [hXl] at hX ⊢
    clear hok hS hXl
    have ba4 := below_alloc (w := w4) (Nat.le_refl _) (.cells #[.bool (ngB d), .slice Ad (digs 4294967296 d.natAbs).length cd] 29)
    have bx := bb3.trans (b4.mono bb3.size)
    have bb4 := bx.trans (ba4.mono bx.size)
    have hU4 := (hU3.below b4).below ba4
    have hQ4 := (hU2.below b4).below ba4
    have BD4 := Blk.new w4 29 #[.bool (ngB d), .slice Ad (digs 4294967296 d.natAbs).length cd]
    have sd4 := s4.below ba4
    have hX4 := hX.below ba4
    clear bx bb3 b4 ba4 hU3 hU2 hV3 hW hX s4
    obtain ⟨w5, hw5⟩ : ∃ w5, w4.alloc (.cells #[.bool (ngB d), .slice Ad (digs 4294967296 d.natAbs).length cd] 29) = w5 := ⟨_, rfl⟩
    rw [hw5] at bb4 hU4 hQ4 BD4 sd4 hX4
    go_upto_region 4 with (fail)
    try rw [hw5]
    clear hw5
    have HBD := Lib.hid BD4
    have HSD := Lib.hid sd4
    have HX := Lib.hid hX4
    have HB5 := Lib.hid bb4
    clear BD4 sd4 hX4 bb4
    have HQ := Lib.hid hQ4
    have HUU := Lib.hid hU4
    have HB0 : Hid (Below w5.heap.size w5 w5) := Below.refl _ _
    clear hQ4 hU4
    go_wp2
    go_loopw [12, 13] (fun v12 v13 wr => ∃ i : Nat, i ≤ n ∧ Hid (Below w5.heap.size w5 wr) ∧ v12 = .bool true ∧ v13 = .int .i64 (i : Int)) (fun _ v13 _ => n - (intOf v13).toNat)
    case atStart => exact ⟨0, by omega, HB0, rfl, rfl⟩
    case round =>
      clear HB0
      obtain ⟨i, hi, HBi, rfl, rfl⟩ := hrel
      obtain ⟨wi, hwi⟩ : ∃ wi, wi = wr := ⟨_, rfl⟩
      subst hwi
      by_cases hin : i < n
      · obtain ⟨r, hr⟩ : ∃ r, R[i]? = some r := ⟨_, List.getElem?_eq_getElem (by rw [← HR.out.1]; exact hin)⟩
        obtain ⟨r0, hr0⟩ : ∃ r0, R[0]? = some r0 := ⟨_, List.getElem?_eq_getElem (by rw [← HR.out.1]; omega)⟩
        have hrl := (HOK.out.2.1.2 r (List.mem_of_getElem? hr)).1
        have hr0l := (HOK.out.2.1.2 r0 (List.mem_of_getElem? hr0)).1
        have hQi := HQ.out.below HBi.out
        obtain ⟨adQ, rfl⟩ := hQi.place (List.length_pos_iff.1 (by rw [← HR.out.1]; omega))
        obtain ⟨Ar, cr, hinx, ecr, -⟩ := hQi.at2 hr
        obtain ⟨A00, c00, hin0, ec0, -⟩ := hQi.at2 hr0
        obtain ⟨L, hL⟩ : ∃ L, L = wideI R := ⟨_, rfl⟩
        rw [hrl, ← hL] at ecr
        rw [hr0l, ← hL] at ec0
        have ead : adQ.add 0 = adQ := by simp [Addr.add]
        have ecz := ec0
        rw [ead] at ecz
        clear hr hr0 hrl hr0l hL hQi
        go_upto_region 8 with (fail)
        go_region
        all_goals
          have HBd : Hid (Below w5.heap.size w5 _) := HBi.out.drew
          clear ecr ec0 ecz HBi
          go_wp2
          go_roundw
          case rel => exact ⟨i + 1, by omega, HBd, rfl, by go_num⟩
          case measure => simp [intOf]; omega
      · have hU6 := HUU.out.below HBi.out
        go_wp2_with fail
        refine (rsquare_any _ T _ hU6).mono ?_
        rintro e w6 (⟨hq, rfl, b6⟩ | ⟨hq, rfl, b6⟩)
        · by_cases hn0 : 0 < n
          · have HRC : Hid (squareI T ∧ T.length ≤ 3 ∧ 0 < T.length ∧ R.length = T.length ∧ (∀ r ∈ R, r.length = wideI R) ∧ lenI T 2 ∧ lenI R 2 ∧ wideI R ≤ 3) := by
              refine ⟨HOK.out.1, HT.out.2.1, by have := HT.out.1; omega, HOK.out.2.2.symm, fun r hr => (HOK.out.2.1.2 r hr).1, HT.out.2.2.1, HR.out.2.2.1, ?_⟩
              have h2 : 0 < R.length := by have := HR.out.1; omega
              unfold wideI
              rw [List.getD_eq_getElem?_getD, List.getElem?_eq_getElem h2]
              exact HR.out.2.2.2 _ (List.getElem_mem h2)
            have hQ6 := (HQ.out.below HBi.out).below b6
            have hU7 := hU6.below b6
            go_wp2_with fail
            refine (rsolve15_any _ _ T R _ hU7 hQ6 HRC).mono ?_
            rintro e w7 ⟨b7, ⟨hdn, Y0, v7, rfl, hY, k7⟩ | ⟨hdz, rfl⟩⟩
            · obtain ⟨D, hD⟩ : ∃ D, D = detI T.length (entI T) := ⟨_, rfl⟩
              rw [← hD] at k7
              obtain ⟨u7, rfl, s7⟩ := k7
              obtain ⟨A7, c7, rfl, _⟩ := id s7
              have HDE : Hid (d = D) := Rat.intCast_inj.1 (by rw [HS.out.det, hD, detI_cast])
              have hlD : lenZ D ≤ 30000 := by rw [← HDE.out]; exact Nat.le_trans HS.out.dl (by omega)
              obtain ⟨Y, hYe⟩ : ∃ Y, Y = crmT T R := ⟨_, rfl⟩
              rw [← hYe] at hY
              have HY := Lib.hid hYe
              obtain ⟨AY, cY, rfl, -, -⟩ := hY.shape
              have hYl : Y.length = n := by rw [hYe, crmT_len, HT.out.1]
              rw [hYl] at hY ⊢
              have ba7 := below_alloc (w := w7) (Nat.le_refl _) (.cells #[.bool (ngB D), .slice A7 (digs 10000 D.natAbs).length c7] 41)
              have bi6 := HBi.out.trans (b6.mono HBi.out.size)
              have bi7 := bi6.trans (b7.mono bi6.size)
              have bi8 := bi7.trans (ba7.mono bi7.size)
              have BR8 := Blk.new w7 41 #[.bool (ngB D), .slice A7 (digs 10000 D.natAbs).length c7]
              have sr8 := s7.below ba7
              have hY8 := hY.below ba7
              clear hD hYe hYl s7 hY ba7 bi6 bi7 b6 b7 hU6 hU7 hQ6 HBi
              obtain ⟨w8, hw8⟩ : ∃ w8, w7.alloc (.cells #[.bool (ngB D), .slice A7 (digs 10000 D.natAbs).length c7] 41) = w8 := ⟨_, rfl⟩
              rw [hw8] at bi8 BR8 sr8 hY8
              go_upto_region 16 with (fail)
              try rw [hw8]
              clear hw8
              have bd := (Below.refl w8.heap.size w8).drew
              have bid := bi8.trans (bd.mono bi8.size)
              have kD : IsZ w8.drew (.agg #[.bool (ngB d), .slice Ad (digs 4294967296 d.natAbs).length cd]) d := ⟨_, rfl, HSD.out.below bid⟩
              have kR : IsR w8.drew (.agg #[.bool (ngB D), .slice A7 (digs 10000 D.natAbs).length c7]) D := ⟨_, rfl, sr8.below bd⟩
              obtain ⟨d0, d1, _, _⟩ := Blk.two (HBD.out.below bid)
              obtain ⟨r0, r1, _, _⟩ := Blk.two (BR8.below bd)
              have hYd := hY8.below bd
              clear bi8 bd BR8 sr8 hY8
              refine wp_region_held_drew (S := fun w' : World => Below w8.drew.heap.size w8.drew w') (by kernel_rfl) (Below.refl _ _) (fun hHeld => ?_)
              refine wpAnyH_take (i := 0) (v := .int .i64 0) rfl (by kernel_rfl) (by kernel_rfl) (by kernel_rfl) (fun _ _ _ h => h) (Or.inl ⟨by kernel_rfl, fun w hSw => by (go_simp; first | done | with_reducible rfl)⟩) hHeld ?_
              simp only [Act.put, List.getElem_toArray, List.getElem_cons_zero, List.getElem_cons_succ, List.setIfInBounds_toArray, List.set_cons_zero, List.set_cons_succ]
              refine wpAnyH_take (i := 1) (v := .int .i64 0) rfl (by kernel_rfl) (by kernel_rfl) (by kernel_rfl) (fun _ _ _ h => h) (Or.inl ⟨by kernel_rfl, fun w hSw => by (go_simp; first | done | with_reducible rfl)⟩) hHeld ?_
              simp only [Act.put, List.getElem_toArray, List.getElem_cons_zero, List.getElem_cons_succ, List.setIfInBounds_toArray, List.set_cons_zero, List.set_cons_succ]
              refine wpAnyH_take (i := 2) (v := .bool false) rfl (by kernel_rfl) (by kernel_rfl) (by kernel_rfl) (fun _ _ _ h => h) (Or.inl ⟨by kernel_rfl, fun w hSw => by (go_simp; first | done | with_reducible rfl)⟩) hHeld ?_
              simp only [Act.put, List.getElem_toArray, List.getElem_cons_zero, List.getElem_cons_succ, List.setIfInBounds_toArray, List.set_cons_zero, List.set_cons_succ]
              refine wpAnyH_take (i := 3) (v := .bool false) rfl (by kernel_rfl) (by kernel_rfl) (by kernel_rfl) (fun _ _ _ h => h) (Or.inl ⟨by kernel_rfl, fun w hSw => by (go_simp; first | done | with_reducible rfl)⟩) hHeld ?_
              simp only [Act.put, List.getElem_toArray, List.getElem_cons_zero, List.getElem_cons_succ, List.setIfInBounds_toArray, List.set_cons_zero, List.set_cons_succ]
              refine wpAnyH_take (i := 4) (v := .agg #[.bool (ngB d), .slice Ad (digs 4294967296 d.natAbs).length cd]) rfl (by kernel_rfl) (by kernel_rfl) (by kernel_rfl) (fun _ _ _ h => h) (Or.inl ⟨by kernel_rfl, fun w hSw => by (have hBw : Below w8.drew.heap.size w8.drew w := hSw; have f0 := (hBw.cell (World.block_lt_of_cell? _ _ d0)).trans d0; have f1 := (hBw.cell (World.block_lt_of_cell? _ _ d1)).trans d1; go_simp; first | done | with_reducible rfl)⟩) hHeld ?_
              simp only [Act.put, List.getElem_toArray, List.getElem_cons_zero, List.getElem_cons_succ, List.setIfInBounds_toArray, List.set_cons_zero, List.set_cons_succ]
              refine wpAnyH_take (i := 5) (v := .agg #[.bool (ngB D), .slice A7 (digs 10000 D.natAbs).length c7]) rfl (by kernel_rfl) (by kernel_rfl) (by kernel_rfl) (fun _ _ _ h => h) (Or.inl ⟨by kernel_rfl, fun w hSw => by (have hBw : Below w8.drew.heap.size w8.drew w := hSw; have f0 := (hBw.cell (World.block_lt_of_cell? _ _ r0)).trans r0; have f1 := (hBw.cell (World.block_lt_of_cell? _ _ r1)).trans r1; go_simp; first | done | with_reducible rfl)⟩) hHeld ?_
              simp only [Act.put, List.getElem_toArray, List.getElem_cons_zero, List.getElem_cons_succ, List.setIfInBounds_toArray, List.set_cons_zero, List.set_cons_succ]
              refine wpAnyH_ready (rs := [6]) (by kernel_rfl) (by simp) ?_
              refine AllReadyH.cons rfl (fun K hK => ?_) AllReadyH.nil
              go_simp
              go_at_call 13
              refine (rback_any _ D _ kR hlD).mono ?_
              rintro e w9 ⟨v9, rfl, k9, -, b9⟩; obtain ⟨u9, rfl, s9⟩ := k9; obtain ⟨A9, c9, rfl, _⟩ := id s9
              have bT := b9
              refine hK.out _ _ (by exact bT) (fun hHeld => ?_)
              clear hK K
              try simp only [Act.put, List.getElem_toArray, List.getElem_cons_zero, List.getElem_cons_succ, List.setIfInBounds_toArray, List.set_cons_zero, List.set_cons_succ]
              refine wpAnyH_ready (rs := [7]) (by kernel_rfl) (by simp) ?_
              refine AllReadyH.cons rfl (fun K hK => ?_) AllReadyH.nil
              go_simp
              go_at_call 12
              refine (zsame_eq _ _ d D _ (kD.below bT) ⟨_, rfl, s9⟩ HDE.out).mono ?_
              rintro e w10 ⟨rfl, b10⟩
              have bT := bT.trans (b10.mono bT.size)
              refine hK.out _ _ (by exact bT) (fun hHeld => ?_)
              clear hK K
              try simp only [Act.put, List.getElem_toArray, List.getElem_cons_zero, List.getElem_cons_succ, List.setIfInBounds_toArray, List.set_cons_zero, List.set_cons_succ]
              refine wpAnyH_take (i := 8) (v := .bool false) rfl (by kernel_rfl) (by kernel_rfl) (by kernel_rfl) (fun _ _ _ h => h) (Or.inl ⟨by kernel_rfl, fun w hSw => by (go_simp; first | done | with_reducible rfl)⟩) hHeld ?_
              simp only [Act.put, List.getElem_toArray, List.getElem_cons_zero, List.getElem_cons_succ, List.setIfInBounds_toArray, List.set_cons_zero, List.set_cons_succ]
              refine wpAnyH_take (i := 9) (v := .bool false) rfl (by kernel_rfl) (by kernel_rfl) (by kernel_rfl) (fun _ _ _ h => h) (Or.inl ⟨by kernel_rfl, fun w hSw => by (go_simp; first | done | with_reducible rfl)⟩) hHeld ?_
              simp only [Act.put, List.getElem_toArray, List.getElem_cons_zero, List.getElem_cons_succ, List.setIfInBounds_toArray, List.set_cons_zero, List.set_cons_succ]
              refine wpAnyH_take (i := 10) (v := .bool false) rfl (by kernel_rfl) (by kernel_rfl) (by kernel_rfl) (fun _ _ _ h => h) (Or.inl ⟨by kernel_rfl, fun w hSw => by (go_simp; first | done | with_reducible rfl)⟩) hHeld ?_
              simp only [Act.put, List.getElem_toArray, List.getElem_cons_zero, List.getElem_cons_succ, List.setIfInBounds_toArray, List.set_cons_zero, List.set_cons_succ]
              refine wpAnyH_take (i := 11) (v := .slice AX n cX) rfl (by kernel_rfl) (by kernel_rfl) (by kernel_rfl) (fun _ _ _ h => h) (Or.inl ⟨by kernel_rfl, fun w hSw => by (go_simp; first | done | with_reducible rfl)⟩) hHeld ?_
              simp only [Act.put, List.getElem_toArray, List.getElem_cons_zero, List.getElem_cons_succ, List.setIfInBounds_toArray, List.set_cons_zero, List.set_cons_succ]
              refine wpAnyH_take (i := 12) (v := .int .i64 (n : Int)) rfl (by kernel_rfl) (by kernel_rfl) (by kernel_rfl) (fun _ _ _ h => h) (Or.inl ⟨by kernel_rfl, fun w hSw => by (go_simp; first | done | with_reducible rfl)⟩) hHeld ?_
              simp only [Act.put, List.getElem_toArray, List.getElem_cons_zero, List.getElem_cons_succ, List.setIfInBounds_toArray, List.set_cons_zero, List.set_cons_succ]
              refine wpAnyH_take (i := 13) (v := .slice AY n cY) rfl (by kernel_rfl) (by kernel_rfl) (by kernel_rfl) (fun _ _ _ h => h) (Or.inl ⟨by kernel_rfl, fun w hSw => by (go_simp; first | done | with_reducible rfl)⟩) hHeld ?_
              simp only [Act.put, List.getElem_toArray, List.getElem_cons_zero, List.getElem_cons_succ, List.setIfInBounds_toArray, List.set_cons_zero, List.set_cons_succ]
              refine wpAnyH_take (i := 14) (v := .int .i64 (n : Int)) rfl (by kernel_rfl) (by kernel_rfl) (by kernel_rfl) (fun _ _ _ h => h) (Or.inl ⟨by kernel_rfl, fun w hSw => by (go_simp; first | done | with_reducible rfl)⟩) hHeld ?_
              simp only [Act.put, List.getElem_toArray, List.getElem_cons_zero, List.getElem_cons_succ, List.setIfInBounds_toArray, List.set_cons_zero, List.set_cons_succ]
              refine wpAnyH_take (i := 15) (v := .bool false) rfl (by kernel_rfl) (by kernel_rfl) (by kernel_rfl) (fun _ _ _ h => h) (Or.inl ⟨by kernel_rfl, fun w hSw => by (go_simp; first | done | with_reducible rfl)⟩) hHeld ?_
              simp only [Act.put, List.getElem_toArray, List.getElem_cons_zero, List.getElem_cons_succ, List.setIfInBounds_toArray, List.set_cons_zero, List.set_cons_succ]
              refine wpAnyH_take (i := 16) (v := .bool false) rfl (by kernel_rfl) (by kernel_rfl) (by kernel_rfl) (fun _ _ _ h => h) (Or.inl ⟨by kernel_rfl, fun w hSw => by (go_simp; first | done | with_reducible rfl)⟩) hHeld ?_
              simp only [Act.put, List.getElem_toArray, List.getElem_cons_zero, List.getElem_cons_succ, List.setIfInBounds_toArray, List.set_cons_zero, List.set_cons_succ]
              refine wpAnyH_done (by kernel_rfl) ?_ _
              have bi10 := bid.trans (bT.mono bid.size)
              have HY10 := Lib.hid (hYd.below bT)
              have HX10 := Lib.hid (HX.out.below bi10)
              have HB10 := Lib.hid (HB5.out.trans (bi10.mono HB5.out.size))
              have HB0 : Hid (Below w10.heap.size w10 w10) := Below.refl _ _
              clear bid hYd kD kR d0 d1 r0 r1 bT b9 b10 s9 bi10 hHeld hlD
              go_wp2
              go_loopw [17] (fun v17 wr => ∃ i : Nat, i ≤ n ∧ Hid (Below w10.heap.size w10 wr) ∧ v17 = .int .i64 (i : Int)) (fun v17 _ => n - (intOf v17).toNat)
              case atStart => exact ⟨0, by omega, HB0, rfl⟩
              case round =>
                clear HB0
                obtain ⟨i, hi, HBo, rfl⟩ := hrel
                obtain ⟨wo, hwo⟩ : ∃ wo, wo = wr := ⟨_, rfl⟩
                subst hwo
                by_cases hin : i < n
                · obtain ⟨x, hx, hxl⟩ := rowI_ex HS.out.sh (show i < T.length by rw [← HT.out.1]; exact hin)
                  obtain ⟨y, hy⟩ : ∃ y, y = (List.range (wideI R)).map fun j => detI T.length (colJ (entI T) i (fun k => entI R k j)) := ⟨_, rfl⟩
                  have hy2 : Y[i]? = some y := by rw [HY.out, hy]; exact crmT_at (by rw [← HT.out.1]; exact hin)
                  have hyl : y.length = wideI R := by rw [hy, List.length_map, List.length_range]
                  obtain ⟨L, hL⟩ : ∃ L, L = wideI R := ⟨_, rfl⟩
                  have hL3 : L ≤ 3 := by rw [hL]; exact HRC.out.2.2.2.2.2.2.2
                  rw [← hL] at hxl hyl
                  have HXY : Hid (X[i]? = some x ∧ Y[i]? = some y ∧ x.length = L ∧ y.length = L ∧ L = wideI R ∧ ∀ j, j < L → y[j]? = some (detI T.length (colJ (entI T) i (fun k => entI R k j)))) := ⟨hx, hy2, hxl, hyl, hL, fun j hj => by rw [hy, List.getElem?_map, List.getElem?_range (by omega)]; rfl⟩
                  have hXo := HX10.out.below HBo.out
                  have hYo := HY10.out.below HBo.out
                  obtain ⟨adX, rfl⟩ := hXo.place (List.length_pos_iff.1 (by rw [HXL.out]; omega))
                  obtain ⟨adY, rfl⟩ := hYo.place (List.length_pos_iff.1 (by rw [HY.out, crmT_len, ← HT.out.1]; omega))
                  obtain ⟨Ax, cx, hinx, ecx, -⟩ := hXo.at2 hx
                  obtain ⟨Ay, cy, hiny, ecy, -⟩ := hYo.at2 hy2
                  rw [hxl] at ecx
                  rw [hyl] at ecy
                  clear hx hy hy2 hxl hyl hL hXo hYo
                  go_upto_region 21 with (fail)
                  go_region
                  all_goals
                    have HBd : Hid (Below w10.heap.size w10 _) := HBo.out.drew
                    have ecyd : wo.drew.cell? _ = _ := ecy
                    have HEC : Hid (wo.cell? (adX.add i) = some (.slice Ax L cx) ∧ wo.cell? (adY.add i) = some (.slice Ay L cy)) := ⟨ecx, ecy⟩
                    clear ecx ecy ecyd HBo
                    go_wp2
                    go_loopw [18] (fun v18 wr => ∃ j : Nat, j ≤ L ∧ Hid (Below w10.heap.size w10 wr) ∧ v18 = .int .i64 (j : Int)) (fun v18 _ => L - (intOf v18).toNat)
                    case atStart => exact ⟨0, by omega, HBd, rfl⟩
                    case round =>
                      clear HBd
                      obtain ⟨j, hj, HBi, rfl⟩ := hrel
                      obtain ⟨wi, hwi⟩ : ∃ wi, wi = wr := ⟨_, rfl⟩
                      subst hwi
                      obtain ⟨Ax2, cx2, -, ecx, sx⟩ := (HX10.out.below HBi.out).at2 HXY.out.1
                      obtain ⟨Ay2, cy2, -, ecy, sy⟩ := (HY10.out.below HBi.out).at2 HXY.out.2.1
                      rw [HXY.out.2.2.1] at ecx sx
                      rw [HXY.out.2.2.2.1] at ecy sy
                      by_cases hjL : j < L
                      · obtain ⟨p, hp⟩ : ∃ p, x[j]? = some p := ⟨_, List.getElem?_eq_getElem (by rw [HXY.out.2.2.1]; exact hjL)⟩
                        obtain ⟨q, hq⟩ : ∃ q, q = detI T.length (colJ (entI T) i (fun k => entI R k j)) := ⟨_, rfl⟩
                        have hq2 : y[j]? = some q := by rw [hq]; exact HXY.out.2.2.2.2.2 j hjL
                        have HPQ : Hid (p = q) := Rat.intCast_inj.1 (by
                          have h := HS.out.cra i j (by rw [← HT.out.1]; exact hin) (by rw [← HXY.out.2.2.2.2.1]; exact hjL)
                          rw [entI_of HXY.out.1 hp] at h
                          rw [h, hq, detI_cast, colJ_q]
                          rfl)
                        have hlq : lenZ q ≤ 30000 := by rw [← HPQ.out]; exact Nat.le_trans (HS.out.len x (List.mem_of_getElem? HXY.out.1) p (List.mem_of_getElem? hp)) (by omega)
                        obtain ⟨gx, ox, ux, rfl, hia, p0, p1, sp⟩ := sx.at_ hp
                        obtain ⟨gy, oy, uy, rfl, hib, q0, q1, sq⟩ := sy.at_ hq2
                        obtain ⟨Ap, cp, rfl, _⟩ := id sp
                        obtain ⟨Aq, cq, rfl, _⟩ := id sq
                        have hi1 := fun w => index2 (P := Try.prog) Try.underlying51 (by kernel_rfl) (g := gx) (o := ox) (c := cx2) hia w
                        have hi2 := fun w => index2 (P := Try.prog) Try.underlying43 (by kernel_rfl) (g := gy) (o := oy) (c := cy2) hib w
                        have bd := (Below.refl wi.heap.size wi).drew
                        have HBd : Hid (Below w10.heap.size w10 wi.drew) := HBi.out.drew
                        have kP : IsZ wi.drew (.agg #[.bool (ngB p), .slice Ap (digs 4294967296 p.natAbs).length cp]) p := ⟨_, rfl, sp.below bd⟩
                        have kQ : IsR wi.drew (.agg #[.bool (ngB q), .slice Aq (digs 10000 q.natAbs).length cq]) q := ⟨_, rfl, sq.below bd⟩
                        clear hp hq hq2 sx sy sp sq HBi bd
                        go_upto_region 26 with (fail)
                        have ecxd : wi.drew.cell? _ = _ := ecx
                        have ecyd : wi.drew.cell? _ = _ := ecy
                        have p0d : wi.drew.cell? _ = _ := p0
                        have p1d : wi.drew.cell? _ = _ := p1
                        have q0d : wi.drew.cell? _ = _ := q0
                        have q1d : wi.drew.cell? _ = _ := q1
                        clear ecx ecy p0 p1 q0 q1
                        refine wp_region_held_drew (S := fun w' : World => Below wi.drew.heap.size wi.drew w') (by kernel_rfl) (Below.refl _ _) (fun hHeld => ?_)
                        refine wpAnyH_take (i := 0) (v := .slice (some adX) n cX) rfl (by kernel_rfl) (by kernel_rfl) (by kernel_rfl) (fun _ _ _ h => h) (Or.inl ⟨by kernel_rfl, fun w hSw => by (go_simp; first | done | with_reducible rfl)⟩) hHeld ?_
                        simp only [Act.put, List.getElem_toArray, List.getElem_cons_zero, List.getElem_cons_succ, List.setIfInBounds_toArray, List.set_cons_zero, List.set_cons_succ]
                        refine wpAnyH_take (i := 1) (v := .int .i64 (i : Int)) rfl (by kernel_rfl) (by kernel_rfl) (by kernel_rfl) (fun _ _ _ h => h) (Or.inl ⟨by kernel_rfl, fun w hSw => by (go_simp; first | done | with_reducible rfl)⟩) hHeld ?_
                        simp only [Act.put, List.getElem_toArray, List.getElem_cons_zero, List.getElem_cons_succ, List.setIfInBounds_toArray, List.set_cons_zero, List.set_cons_succ]
                        refine wpAnyH_take (i := 2) (v := .pointer (some (adX.add i))) rfl (by kernel_rfl) (by kernel_rfl) (by kernel_rfl) (fun _ _ _ h => h) (Or.inl ⟨by kernel_rfl, fun w hSw => by (go_simp; first | done | with_reducible rfl)⟩) hHeld ?_
                        simp only [Act.put, List.getElem_toArray, List.getElem_cons_zero, List.getElem_cons_succ, List.setIfInBounds_toArray, List.set_cons_zero, List.set_cons_succ]
                        refine wpAnyH_take (i := 3) (v := .slice (some ⟨gx, ox, none⟩) L cx2) rfl (by kernel_rfl) (by kernel_rfl) (by kernel_rfl) (fun _ _ _ h => h) (Or.inl ⟨by kernel_rfl, fun w hSw => by (have hBw : Below wi.drew.heap.size wi.drew w := hSw; have f0 := (hBw.cell (World.block_lt_of_cell? _ _ ecxd)).trans ecxd; go_simp; first | done | with_reducible rfl)⟩) hHeld ?_
                        simp only [Act.put, List.getElem_toArray, List.getElem_cons_zero, List.getElem_cons_succ, List.setIfInBounds_toArray, List.set_cons_zero, List.set_cons_succ]
                        refine wpAnyH_take (i := 4) (v := .int .i64 (j : Int)) rfl (by kernel_rfl) (by kernel_rfl) (by kernel_rfl) (fun _ _ _ h => h) (Or.inl ⟨by kernel_rfl, fun w hSw => by (go_simp; first | done | with_reducible rfl)⟩) hHeld ?_
                        simp only [Act.put, List.getElem_toArray, List.getElem_cons_zero, List.getElem_cons_succ, List.setIfInBounds_toArray, List.set_cons_zero, List.set_cons_succ]
                        refine wpAnyH_take (i := 5) (v := .pointer (some ⟨gx, ox + j * 2, none⟩)) rfl (by kernel_rfl) (by kernel_rfl) (by kernel_rfl) (fun _ _ _ h => h) (Or.inl ⟨by kernel_rfl, fun w hSw => by (go_simp; first | done | with_reducible rfl)⟩) hHeld ?_
                        simp only [Act.put, List.getElem_toArray, List.getElem_cons_zero, List.getElem_cons_succ, List.setIfInBounds_toArray, List.set_cons_zero, List.set_cons_succ]
                        refine wpAnyH_take (i := 6) (v := .agg #[.bool (ngB p), .slice Ap (digs 4294967296 p.natAbs).length cp]) rfl (by kernel_rfl) (by kernel_rfl) (by kernel_rfl) (fun _ _ _ h => h) (Or.inl ⟨by kernel_rfl, fun w hSw => by (have hBw : Below wi.drew.heap.size wi.drew w := hSw; have f0 := (hBw.cell (World.block_lt_of_cell? _ _ p0d)).trans p0d; have f1 := (hBw.cell (World.block_lt_of_cell? _ _ p1d)).trans p1d; go_simp; first | done | with_reducible rfl)⟩) hHeld ?_
                        simp only [Act.put, List.getElem_toArray, List.getElem_cons_zero, List.getElem_cons_succ, List.setIfInBounds_toArray, List.set_cons_zero, List.set_cons_succ]
                        refine wpAnyH_take (i := 7) (v := .slice (some adY) n cY) rfl (by kernel_rfl) (by kernel_rfl) (by kernel_rfl) (fun _ _ _ h => h) (Or.inl ⟨by kernel_rfl, fun w hSw => by (go_simp; first | done | with_reducible rfl)⟩) hHeld ?_
                        simp only [Act.put, List.getElem_toArray, List.getElem_cons_zero, List.getElem_cons_succ, List.setIfInBounds_toArray, List.set_cons_zero, List.set_cons_succ]
                        refine wpAnyH_take (i := 8) (v := .int .i64 (i : Int)) rfl (by kernel_rfl) (by kernel_rfl) (by kernel_rfl) (fun _ _ _ h => h) (Or.inl ⟨by kernel_rfl, fun w hSw => by (go_simp; first | done | with_reducible rfl)⟩) hHeld ?_
                        simp only [Act.put, List.getElem_toArray, List.getElem_cons_zero, List.getElem_cons_succ, List.setIfInBounds_toArray, List.set_cons_zero, List.set_cons_succ]
                        refine wpAnyH_take (i := 9) (v := .pointer (some (adY.add i))) rfl (by kernel_rfl) (by kernel_rfl) (by kernel_rfl) (fun _ _ _ h => h) (Or.inl ⟨by kernel_rfl, fun w hSw => by (go_simp; first | done | with_reducible rfl)⟩) hHeld ?_
                        simp only [Act.put, List.getElem_toArray, List.getElem_cons_zero, List.getElem_cons_succ, List.setIfInBounds_toArray, List.set_cons_zero, List.set_cons_succ]
                        refine wpAnyH_take (i := 10) (v := .slice (some ⟨gy, oy, none⟩) L cy2) rfl (by kernel_rfl) (by kernel_rfl) (by kernel_rfl) (fun _ _ _ h => h) (Or.inl ⟨by kernel_rfl, fun w hSw => by (have hBw : Below wi.drew.heap.size wi.drew w := hSw; have f0 := (hBw.cell (World.block_lt_of_cell? _ _ ecyd)).trans ecyd; go_simp; first | done | with_reducible rfl)⟩) hHeld ?_
                        simp only [Act.put, List.getElem_toArray, List.getElem_cons_zero, List.getElem_cons_succ, List.setIfInBounds_toArray, List.set_cons_zero, List.set_cons_succ]
                        refine wpAnyH_take (i := 11) (v := .int .i64 (j : Int)) rfl (by kernel_rfl) (by kernel_rfl) (by kernel_rfl) (fun _ _ _ h => h) (Or.inl ⟨by kernel_rfl, fun w hSw => by (go_simp; first | done | with_reducible rfl)⟩) hHeld ?_
                        simp only [Act.put, List.getElem_toArray, List.getElem_cons_zero, List.getElem_cons_succ, List.setIfInBounds_toArray, List.set_cons_zero, List.set_cons_succ]
                        refine wpAnyH_take (i := 12) (v := .pointer (some ⟨gy, oy + j * 2, none⟩)) rfl (by kernel_rfl) (by kernel_rfl) (by kernel_rfl) (fun _ _ _ h => h) (Or.inl ⟨by kernel_rfl, fun w hSw => by (go_simp; first | done | with_reducible rfl)⟩) hHeld ?_
                        simp only [Act.put, List.getElem_toArray, List.getElem_cons_zero, List.getElem_cons_succ, List.setIfInBounds_toArray, List.set_cons_zero, List.set_cons_succ]
                        refine wpAnyH_take (i := 13) (v := .agg #[.bool (ngB q), .slice Aq (digs 10000 q.natAbs).length cq]) rfl (by kernel_rfl) (by kernel_rfl) (by kernel_rfl) (fun _ _ _ h => h) (Or.inl ⟨by kernel_rfl, fun w hSw => by (have hBw : Below wi.drew.heap.size wi.drew w := hSw; have f0 := (hBw.cell (World.block_lt_of_cell? _ _ q0d)).trans q0d; have f1 := (hBw.cell (World.block_lt_of_cell? _ _ q1d)).trans q1d; go_simp; first | done | with_reducible rfl)⟩) hHeld ?_
                        simp only [Act.put, List.getElem_toArray, List.getElem_cons_zero, List.getElem_cons_succ, List.setIfInBounds_toArray, List.set_cons_zero, List.set_cons_succ]
                        refine wpAnyH_ready (rs := [14]) (by kernel_rfl) (by simp) ?_
                        refine AllReadyH.cons rfl (fun K hK => ?_) AllReadyH.nil
                        go_simp
                        go_at_call 13
                        refine (rback_any _ q _ kQ hlq).mono ?_
                        rintro e w11 ⟨v11, rfl, k11, -, b11⟩; obtain ⟨u11, rfl, s11⟩ := k11; obtain ⟨A11, c11, rfl, _⟩ := id s11
                        have bT := b11
                        refine hK.out _ _ (by exact bT) (fun hHeld => ?_)
                        clear hK K
                        try simp only [Act.put, List.getElem_toArray, List.getElem_cons_zero, List.getElem_cons_succ, List.setIfInBounds_toArray, List.set_cons_zero, List.set_cons_succ]
                        refine wpAnyH_ready (rs := [15]) (by kernel_rfl) (by simp) ?_
                        refine AllReadyH.cons rfl (fun K hK => ?_) AllReadyH.nil
                        go_simp
                        go_at_call 12
                        refine (zsame_eq _ _ p q _ (kP.below bT) ⟨_, rfl, s11⟩ HPQ.out).mono ?_
                        rintro e w12 ⟨rfl, b12⟩
                        have bT := bT.trans (b12.mono bT.size)
                        refine hK.out _ _ (by exact bT) (fun hHeld => ?_)
                        clear hK K
                        try simp only [Act.put, List.getElem_toArray, List.getElem_cons_zero, List.getElem_cons_succ, List.setIfInBounds_toArray, List.set_cons_zero, List.set_cons_succ]
                        refine wpAnyH_take (i := 16) (v := .bool false) rfl (by kernel_rfl) (by kernel_rfl) (by kernel_rfl) (fun _ _ _ h => h) (Or.inl ⟨by kernel_rfl, fun w hSw => by (go_simp; first | done | with_reducible rfl)⟩) hHeld ?_
                        simp only [Act.put, List.getElem_toArray, List.getElem_cons_zero, List.getElem_cons_succ, List.setIfInBounds_toArray, List.set_cons_zero, List.set_cons_succ]
                        refine wpAnyH_done (by kernel_rfl) ?_ _
                        have HBn : Hid (Below w10.heap.size w10 _) := HBd.out.trans (bT.mono HBd.out.size)
                        clear HBd kP kQ ecxd ecyd p0d p1d q0d q1d s11 bT b11 b12 hi1 hi2 hHeld hlq
                        go_wp2
                        go_roundw
                        case rel => exact ⟨j + 1, by omega, HBn, by go_num⟩
                        case measure => simp [intOf]; omega
                      · clear sx sy
                        go_wp2
                        go_roundw
                        case rel => exact ⟨i + 1, by omega, HBi, by go_num⟩
                        case measure => simp [intOf]; omega
                · have bbo := HB10.out.trans (HBo.out.mono HB10.out.size)
                  go_wp2_with fail
                  refine (works15_any _).mono ?_
                  rintro e w11 ⟨rfl, b11⟩
                  have bb11 := bbo.trans (b11.mono bbo.size)
                  go_wp2
                  go_ret
                  exact ⟨rfl, bb11⟩
            · exact absurd (Rat.intCast_inj.1 (by rw [HS.out.det, ← detI_cast, hdz])) HS.out.ne
          · obtain rfl : n = 0 := by omega
            have hd1 : d = 1 := Rat.intCast_inj.1 (HS.out.det.trans (by rw [← HT.out.1] <;> rfl))
            have HO : Hid (0 = ordz d 1) := by show _ = _; rw [hd1]; decide
            obtain ⟨O, hO⟩ : ∃ O : Int, O = 1 := ⟨_, rfl⟩
            have CO : ∀ w, Calls Try.prog 17 #[.int .i64 1] w (RetZ O w) := fun w => by rw [hO]; exact zof_any 1 _ (by omega) (by omega)
            rw [← hO] at HO
            have bi6 := HBi.out.trans (b6.mono HBi.out.size)
            have bb6 := HB5.out.trans (bi6.mono HB5.out.size)
            have BD6 := HBD.out.below bi6
            have sd6 := HSD.out.below bi6
            clear hd1 hO
            go_upto_region 12 with (fail)
            have bd := (Below.refl w6.heap.size w6).drew
            have bbd := bb6.trans (bd.mono bb6.size)
            have kD : IsZ w6.drew (.agg #[.bool (ngB d), .slice Ad (digs 4294967296 d.natAbs).length cd]) d := ⟨_, rfl, sd6.below bd⟩
            obtain ⟨d0, d1, _, _⟩ := Blk.two (BD6.below bd)
            refine wp_region_held_drew (S := fun w' : World => Below w6.drew.heap.size w6.drew w') (by kernel_rfl) (Below.refl _ _) (fun hHeld => ?_)
            refine wpAnyH_take (i := 0) (v := .int .i64 0) rfl (by kernel_rfl) (by kernel_rfl) (by kernel_rfl) (fun _ _ _ h => h) (Or.inl ⟨by kernel_rfl, fun w hSw => by (go_simp; first | done | with_reducible rfl)⟩) hHeld ?_
            simp only [Act.put, List.getElem_toArray, List.getElem_cons_zero, List.getElem_cons_succ, List.setIfInBounds_toArray, List.set_cons_zero, List.set_cons_succ]
            refine wpAnyH_take (i := 1) (v := .bool true) rfl (by kernel_rfl) (by kernel_rfl) (by kernel_rfl) (fun _ _ _ h => h) (Or.inl ⟨by kernel_rfl, fun w hSw => by (go_simp; first | done | with_reducible rfl)⟩) hHeld ?_
            simp only [Act.put, List.getElem_toArray, List.getElem_cons_zero, List.getElem_cons_succ, List.setIfInBounds_toArray, List.set_cons_zero, List.set_cons_succ]
            refine wpAnyH_take (i := 2) (v := .bool true) rfl (by kernel_rfl) (by kernel_rfl) (by kernel_rfl) (fun _ _ _ h => h) (Or.inl ⟨by kernel_rfl, fun w hSw => by (go_simp; first | done | with_reducible rfl)⟩) hHeld ?_
            simp only [Act.put, List.getElem_toArray, List.getElem_cons_zero, List.getElem_cons_succ, List.setIfInBounds_toArray, List.set_cons_zero, List.set_cons_succ]
            refine wpAnyH_take (i := 3) (v := .slice AX 0 cX) rfl (by kernel_rfl) (by kernel_rfl) (by kernel_rfl) (fun _ _ _ h => h) (Or.inl ⟨by kernel_rfl, fun w hSw => by (go_simp; first | done | with_reducible rfl)⟩) hHeld ?_
            simp only [Act.put, List.getElem_toArray, List.getElem_cons_zero, List.getElem_cons_succ, List.setIfInBounds_toArray, List.set_cons_zero, List.set_cons_succ]
            refine wpAnyH_take (i := 4) (v := .int .i64 0) rfl (by kernel_rfl) (by kernel_rfl) (by kernel_rfl) (fun _ _ _ h => h) (Or.inl ⟨by kernel_rfl, fun w hSw => by (go_simp; first | done | with_reducible rfl)⟩) hHeld ?_
            simp only [Act.put, List.getElem_toArray, List.getElem_cons_zero, List.getElem_cons_succ, List.setIfInBounds_toArray, List.set_cons_zero, List.set_cons_succ]
            refine wpAnyH_take (i := 5) (v := .bool true) rfl (by kernel_rfl) (by kernel_rfl) (by kernel_rfl) (fun _ _ _ h => h) (Or.inl ⟨by kernel_rfl, fun w hSw => by (go_simp; first | done | with_reducible rfl)⟩) hHeld ?_
            simp only [Act.put, List.getElem_toArray, List.getElem_cons_zero, List.getElem_cons_succ, List.setIfInBounds_toArray, List.set_cons_zero, List.set_cons_succ]
            refine wpAnyH_take (i := 6) (v := .bool true) rfl (by kernel_rfl) (by kernel_rfl) (by kernel_rfl) (fun _ _ _ h => h) (Or.inl ⟨by kernel_rfl, fun w hSw => by (go_simp; first | done | with_reducible rfl)⟩) hHeld ?_
            simp only [Act.put, List.getElem_toArray, List.getElem_cons_zero, List.getElem_cons_succ, List.setIfInBounds_toArray, List.set_cons_zero, List.set_cons_succ]
            refine wpAnyH_take (i := 7) (v := .bool true) rfl (by kernel_rfl) (by kernel_rfl) (by kernel_rfl) (fun _ _ _ h => h) (Or.inl ⟨by kernel_rfl, fun w hSw => by (go_simp; first | done | with_reducible rfl)⟩) hHeld ?_
            simp only [Act.put, List.getElem_toArray, List.getElem_cons_zero, List.getElem_cons_succ, List.setIfInBounds_toArray, List.set_cons_zero, List.set_cons_succ]
            refine wpAnyH_take (i := 8) (v := .agg #[.bool (ngB d), .slice Ad (digs 4294967296 d.natAbs).length cd]) rfl (by kernel_rfl) (by kernel_rfl) (by kernel_rfl) (fun _ _ _ h => h) (Or.inl ⟨by kernel_rfl, fun w hSw => by (have hBw : Below w6.drew.heap.size w6.drew w := hSw; have f0 := (hBw.cell (World.block_lt_of_cell? _ _ d0)).trans d0; have f1 := (hBw.cell (World.block_lt_of_cell? _ _ d1)).trans d1; go_simp; first | done | with_reducible rfl)⟩) hHeld ?_
            simp only [Act.put, List.getElem_toArray, List.getElem_cons_zero, List.getElem_cons_succ, List.setIfInBounds_toArray, List.set_cons_zero, List.set_cons_succ]
            refine wpAnyH_ready (rs := [9]) (by kernel_rfl) (by simp) ?_
            refine AllReadyH.cons rfl (fun K hK => ?_) AllReadyH.nil
            go_simp
            go_at_call 17
            refine (CO _).mono ?_
            rintro e w7 ⟨v7, rfl, k7, -, b7⟩; obtain ⟨u7, rfl, s7⟩ := k7; obtain ⟨A7, c7, rfl, _⟩ := id s7
            have bT := b7
            refine hK.out _ _ (by exact bT) (fun hHeld => ?_)
            clear hK K
            try simp only [Act.put, List.getElem_toArray, List.getElem_cons_zero, List.getElem_cons_succ, List.setIfInBounds_toArray, List.set_cons_zero, List.set_cons_succ]
            refine wpAnyH_ready (rs := [10]) (by kernel_rfl) (by simp) ?_
            refine AllReadyH.cons rfl (fun K hK => ?_) AllReadyH.nil
            go_simp
            go_at_call 16
            refine (zcmp_any _ d _ O 0 _ (kD.below bT) ⟨_, rfl, s7⟩ HO.out).mono ?_
            rintro e w8 ⟨rfl, b8⟩
            have bT := bT.trans (b8.mono bT.size)
            refine hK.out _ _ (by exact bT) (fun hHeld => ?_)
            clear hK K
            try simp only [Act.put, List.getElem_toArray, List.getElem_cons_zero, List.getElem_cons_succ, List.setIfInBounds_toArray, List.set_cons_zero, List.set_cons_succ]
            refine wpAnyH_take (i := 11) (v := .bool true) rfl (by kernel_rfl) (by kernel_rfl) (by kernel_rfl) (fun _ _ _ h => h) (Or.inl ⟨by kernel_rfl, fun w hSw => by (go_simp; first | done | with_reducible rfl)⟩) hHeld ?_
            simp only [Act.put, List.getElem_toArray, List.getElem_cons_zero, List.getElem_cons_succ, List.setIfInBounds_toArray, List.set_cons_zero, List.set_cons_succ]
            refine wpAnyH_take (i := 12) (v := .bool true) rfl (by kernel_rfl) (by kernel_rfl) (by kernel_rfl) (fun _ _ _ h => h) (Or.inl ⟨by kernel_rfl, fun w hSw => by (go_simp; first | done | with_reducible rfl)⟩) hHeld ?_
            simp only [Act.put, List.getElem_toArray, List.getElem_cons_zero, List.getElem_cons_succ, List.setIfInBounds_toArray, List.set_cons_zero, List.set_cons_succ]
            refine wpAnyH_take (i := 13) (v := .bool true) rfl (by kernel_rfl) (by kernel_rfl) (by kernel_rfl) (fun _ _ _ h => h) (Or.inl ⟨by kernel_rfl, fun w hSw => by (go_simp; first | done | with_reducible rfl)⟩) hHeld ?_
            simp only [Act.put, List.getElem_toArray, List.getElem_cons_zero, List.getElem_cons_succ, List.setIfInBounds_toArray, List.set_cons_zero, List.set_cons_succ]
            refine wpAnyH_ready (rs := [14]) (by kernel_rfl) (by simp) ?_
            refine AllReadyH.cons rfl (fun K hK => ?_) AllReadyH.nil
            go_simp
            go_at_call 11
            refine (works15_any _).mono ?_
            rintro e w9 ⟨rfl, b9⟩
            have bT := bT.trans (b9.mono bT.size)
            refine hK.out _ _ (by exact bT) (fun hHeld => ?_)
            clear hK K
            try simp only [Act.put, List.getElem_toArray, List.getElem_cons_zero, List.getElem_cons_succ, List.setIfInBounds_toArray, List.set_cons_zero, List.set_cons_succ]
            refine wpAnyH_take (i := 15) (v := .bool true) rfl (by kernel_rfl) (by kernel_rfl) (by kernel_rfl) (fun _ _ _ h => h) (Or.inl ⟨by kernel_rfl, fun w hSw => by (go_simp; first | done | with_reducible rfl)⟩) hHeld ?_
            simp only [Act.put, List.getElem_toArray, List.getElem_cons_zero, List.getElem_cons_succ, List.setIfInBounds_toArray, List.set_cons_zero, List.set_cons_succ]
            refine wpAnyH_take (i := 16) (v := .bool true) rfl (by kernel_rfl) (by kernel_rfl) (by kernel_rfl) (fun _ _ _ h => h) (Or.inl ⟨by kernel_rfl, fun w hSw => by (go_simp; first | done | with_reducible rfl)⟩) hHeld ?_
            simp only [Act.put, List.getElem_toArray, List.getElem_cons_zero, List.getElem_cons_succ, List.setIfInBounds_toArray, List.set_cons_zero, List.set_cons_succ]
            refine wpAnyH_done (by kernel_rfl) ?_ _
            have bbe := bbd.trans (bT.mono bbd.size)
            go_wp2
            go_ret
            exact ⟨rfl, bbe⟩
        · exact absurd HOK.out.1 hq
  · obtain rfl : n = m := by rw [HT.out.1, HR.out.1]; exact hok.2.2
    have HOK := Lib.hid hok
    have HD0 := Lib.hid hd0
    clear hok hd0
    have ba4 := below_alloc (w := w4) (Nat.le_refl _) (.cells #[.bool false, .slice none 0 0] 29)
    have bx := bb3.trans (b4.mono bb3.size)
    have bb4 := bx.trans (ba4.mono bx.size)
    have hU4 := (hU3.below b4).below ba4
    have hQ4 := (hU2.below b4).below ba4
    clear bx bb3 b4 ba4 hU3 hU2 hV3 hW
    go_upto_region 4 with (fail)
    obtain ⟨w5, hw5⟩ : ∃ w5, w4.alloc (.cells #[.bool false, .slice none 0 0] 29) = w5 := ⟨_, rfl⟩
    rw [hw5] at bb4 hU4 hQ4 ⊢
    clear hw5
    have HB5 := Lib.hid bb4
    clear bb4
    have HQ := Lib.hid hQ4
    have HUU := Lib.hid hU4
    have HB0 : Hid (Below w5.heap.size w5 w5) := Below.refl _ _
    clear hQ4 hU4
    go_wp2
    go_loopw [12, 13] (fun v12 v13 wr => ∃ i : Nat, i ≤ n ∧ Hid (Below w5.heap.size w5 wr) ∧ v12 = .bool true ∧ v13 = .int .i64 (i : Int)) (fun _ v13 _ => n - (intOf v13).toNat)
    case atStart => exact ⟨0, by omega, HB0, rfl, rfl⟩
    case round =>
      clear HB0
      obtain ⟨i, hi, HBi, rfl, rfl⟩ := hrel
      obtain ⟨wi, hwi⟩ : ∃ wi, wi = wr := ⟨_, rfl⟩
      subst hwi
      by_cases hin : i < n
      · obtain ⟨r, hr⟩ : ∃ r, R[i]? = some r := ⟨_, List.getElem?_eq_getElem (by rw [← HR.out.1]; exact hin)⟩
        obtain ⟨r0, hr0⟩ : ∃ r0, R[0]? = some r0 := ⟨_, List.getElem?_eq_getElem (by rw [← HR.out.1]; omega)⟩
        have hrl := (HOK.out.2.1.2 r (List.mem_of_getElem? hr)).1
        have hr0l := (HOK.out.2.1.2 r0 (List.mem_of_getElem? hr0)).1
        have hQi := HQ.out.below HBi.out
        obtain ⟨adQ, rfl⟩ := hQi.place (List.length_pos_iff.1 (by rw [← HR.out.1]; omega))
        obtain ⟨Ar, cr, hinx, ecr, -⟩ := hQi.at2 hr
        obtain ⟨A00, c00, hin0, ec0, -⟩ := hQi.at2 hr0
        obtain ⟨L, hL⟩ : ∃ L, L = wideI R := ⟨_, rfl⟩
        rw [hrl, ← hL] at ecr
        rw [hr0l, ← hL] at ec0
        have ead : adQ.add 0 = adQ := by simp [Addr.add]
        have ecz := ec0
        rw [ead] at ecz
        clear hr hr0 hrl hr0l hL hQi
        go_upto_region 8 with (fail)
        go_region
        all_goals
          have HBd : Hid (Below w5.heap.size w5 _) := HBi.out.drew
          clear ecr ec0 ecz HBi
          go_wp2
          go_roundw
          case rel => exact ⟨i + 1, by omega, HBd, rfl, by go_num⟩
          case measure => simp [intOf]; omega
      · have hU6 := HUU.out.below HBi.out
        go_wp2_with fail
        refine (rsquare_any _ T _ hU6).mono ?_
        rintro e w6 (⟨hq, rfl, b6⟩ | ⟨hq, rfl, b6⟩)
        · by_cases hn0 : 0 < n
          · have HRC : Hid (squareI T ∧ T.length ≤ 3 ∧ 0 < T.length ∧ R.length = T.length ∧ (∀ r ∈ R, r.length = wideI R) ∧ lenI T 2 ∧ lenI R 2 ∧ wideI R ≤ 3) := by
              refine ⟨HOK.out.1, HT.out.2.1, by have := HT.out.1; omega, HOK.out.2.2.symm, fun r hr => (HOK.out.2.1.2 r hr).1, HT.out.2.2.1, HR.out.2.2.1, ?_⟩
              have h2 : 0 < R.length := by have := HR.out.1; omega
              unfold wideI
              rw [List.getD_eq_getElem?_getD, List.getElem?_eq_getElem h2]
              exact HR.out.2.2.2 _ (List.getElem_mem h2)
            have hQ6 := (HQ.out.below HBi.out).below b6
            have hU7 := hU6.below b6
            go_wp2_with fail
            refine (rsolve15_any _ _ T R _ hU7 hQ6 HRC).mono ?_
            rintro e w7 ⟨b7, ⟨hdn, Y0, v7, rfl, hY, k7⟩ | ⟨hdz, rfl⟩⟩
            · exact absurd (Rat.intCast_inj.1 (by rw [detI_cast, HD0.out]; rfl)) hdn
            · have bi6 := HBi.out.trans (b6.mono HBi.out.size)
              have bi7 := bi6.trans (b7.mono bi6.size)
              have bb7 := HB5.out.trans (bi7.mono HB5.out.size)
              have bb8 := bb7.trans ((below_alloc (w := w7) (Nat.le_refl _) (.cells #[.bool false, .slice none 0 0] 41)).mono bb7.size)
              clear bi6 bi7 bb7 hdz b6 b7 HBi hU6 hU7 hQ6
              go_wp2_with fail
              refine (works15_any _).mono ?_
              rintro e w9 ⟨rfl, b9⟩
              have bb9 := bb8.trans (b9.mono bb8.size)
              go_wp2
              go_ret
              exact ⟨rfl, bb9⟩
          · obtain rfl : n = 0 := by omega
            have h := HD0.out
            rw [← HT.out.1] at h
            exact absurd (show (1 : Rat) = 0 from h) (by decide)
        · exact absurd HOK.out.1 hq
  · have HOK := Lib.hid hok
    clear hok
    have ba4 := below_alloc (w := w4) (Nat.le_refl _) (.cells #[.bool false, .slice none 0 0] 29)
    have bx := bb3.trans (b4.mono bb3.size)
    have bb4 := bx.trans (ba4.mono bx.size)
    have hU4 := (hU3.below b4).below ba4
    have hQ4 := (hU2.below b4).below ba4
    clear bx bb3 b4 ba4 hU3 hU2 hV3 hW
    go_upto_region 4 with (fail)
    obtain ⟨w5, hw5⟩ : ∃ w5, w4.alloc (.cells #[.bool false, .slice none 0 0] 29) = w5 := ⟨_, rfl⟩
    rw [hw5] at bb4 hU4 hQ4 ⊢
    clear hw5
    have HB5 := Lib.hid bb4
    have HQ := Lib.hid hQ4
    have HUU := Lib.hid hU4
    clear bb4 hQ4 hU4
    have HB0 : Hid (Below w5.heap.size w5 w5) := Below.refl _ _
    obtain ⟨b0, hb0⟩ : ∃ b, b = ((m : Int) == (n : Int)) := ⟨_, rfl⟩
    have HRB0 : Hid (b0 = true → m = n ∧ ∀ r ∈ R.take 0, r.length = wideI R) := fun h => ⟨by rw [hb0, beq_iff_eq] at h; omega, fun r hr => by simp at hr⟩
    go_upto_region 5 with (fail)
    rw [← hb0]
    clear hb0
    go_wp2
    go_loopw [12, 13] (fun v12 v13 wr => ∃ (i : Nat) (rb : Bool), i ≤ m ∧ Hid (rb = true → m = n ∧ ∀ r ∈ R.take i, r.length = wideI R) ∧ Hid (Below w5.heap.size w5 wr) ∧ v12 = .bool rb ∧ v13 = .int .i64 (i : Int)) (fun _ v13 _ => m - (intOf v13).toNat)
    case atStart => exact ⟨0, b0, by omega, HRB0, HB0, rfl, rfl⟩
    case round =>
      clear HB0 HRB0
      obtain ⟨i, rb, hi, HRB, HBi, rfl, rfl⟩ := hrel
      obtain ⟨wi, hwi⟩ : ∃ wi, wi = wr := ⟨_, rfl⟩
      subst hwi
      by_cases hin : i < m ∧ rb = true
      · obtain ⟨hin1, rfl⟩ := hin
        obtain ⟨r, hr⟩ : ∃ r, R[i]? = some r := ⟨_, List.getElem?_eq_getElem (by rw [← HR.out.1]; exact hin1)⟩
        obtain ⟨r0, hr0⟩ : ∃ r0, R[0]? = some r0 := ⟨_, List.getElem?_eq_getElem (by rw [← HR.out.1]; omega)⟩
        have hr0l : r0.length = wideI R := by unfold wideI; rw [List.getD_eq_getElem?_getD, hr0]; rfl
        have hQi := HQ.out.below HBi.out
        obtain ⟨adQ, rfl⟩ := hQi.place (List.length_pos_iff.1 (by rw [← HR.out.1]; omega))
        obtain ⟨Ar, cr, hinx, ecr, -⟩ := hQi.at2 hr
        obtain ⟨A00, c00, hin0, ec0, -⟩ := hQi.at2 hr0
        obtain ⟨L, hL⟩ : ∃ L, L = wideI R := ⟨_, rfl⟩
        obtain ⟨rl, hrl⟩ : ∃ rl, rl = r.length := ⟨_, rfl⟩
        rw [← hrl] at ecr
        rw [hr0l, ← hL] at ec0
        have ead : adQ.add 0 = adQ := by simp [Addr.add]
        have ecz := ec0
        rw [ead] at ecz
        have HRB2 : Hid ((((rl : Nat) : Int) == ((L : Nat) : Int)) = true → m = n ∧ ∀ r ∈ R.take (i + 1), r.length = wideI R) := by
          show _ → _
          intro h
          rw [beq_iff_eq] at h
          refine ⟨(HRB.out rfl).1, fun x hx => ?_⟩
          rw [List.take_add_one, hr] at hx
          rcases List.mem_append.1 hx with hx | hx
          · exact (HRB.out rfl).2 x hx
          · obtain rfl : x = r := by simpa using hx
            omega
        clear hr hr0 hr0l hL hrl hQi
        go_upto_region 8 with (fail)
        go_region
        all_goals
          have HBd : Hid (Below w5.heap.size w5 _) := HBi.out.drew
          obtain ⟨bq, hbq⟩ : ∃ b, b = (((rl : Nat) : Int) == ((L : Nat) : Int)) := ⟨_, rfl⟩
          rw [← hbq] at HRB2
          try rw [← hbq]
          clear ecr ec0 ecz HBi hbq
          go_wp2
          go_roundw
          case rel => exact ⟨i + 1, bq, by omega, HRB2, HBd, rfl, by go_num⟩
          case measure => simp [intOf]; omega
      · have hU6 := HUU.out.below HBi.out
        have HN : Hid (¬ squareI T ∨ rb = false) := by
          by_cases hs : squareI T
          · right
            cases hrb : rb with
            | false => rfl
            | true =>
              exfalso
              subst hrb
              have hx := HRB.out rfl
              have him : i = m := by
                rcases (by omega : i < m ∨ i = m) with h | h
                · exact absurd ⟨h, rfl⟩ hin
                · exact h
              have h2 := hx.2
              rw [List.take_of_length_le (by rw [← HR.out.1]; omega)] at h2
              exact HOK.out ⟨hs, ⟨by have := HR.out; omega, fun r hr => ⟨h2 r hr, Nat.le_trans (HR.out.2.2.2 r hr) (by omega)⟩⟩, by rw [← HT.out.1, ← HR.out.1]; exact hx.1.symm⟩
          · exact .inl hs
        have hx3 : ¬ i < m ∨ (i < m ∧ rb = false) := by
          cases rb with
          | false => rcases (by omega : i < m ∨ ¬ i < m) with h | h
                     · exact .inr ⟨h, rfl⟩
                     · exact .inl h
          | true => exact .inl fun h => hin ⟨h, rfl⟩
        clear hin
        rcases hx3 with hx3 | ⟨hx3, rfl⟩
        all_goals
          go_wp2_with fail
          refine (rsquare_any _ T _ hU6).mono ?_
          rintro e w6 (⟨hq, rfl, b6⟩ | ⟨hq, rfl, b6⟩)
          · have hrf := HN.out.resolve_left (fun h => h hq)
            first | subst hrf | clear hrf
            have bi6 := HBi.out.trans (b6.mono HBi.out.size)
            have bb6 := HB5.out.trans (bi6.mono HB5.out.size)
            clear bi6 b6 hq hU6
            go_wp2_with fail
            refine (works15_any _).mono ?_
            rintro e w7 ⟨rfl, b7⟩
            have bb7 := bb6.trans (b7.mono bb6.size)
            go_wp2
            go_ret
            exact ⟨rfl, bb7⟩
          · have bi6 := HBi.out.trans (b6.mono HBi.out.size)
            have bb6 := HB5.out.trans (bi6.mono HB5.out.size)
            clear bi6 b6 hq hU6
            go_wp2_with fail
            refine (works15_any _).mono ?_
            rintro e w7 ⟨rfl, b7⟩
            have bb7 := bb6.trans (b7.mono bb6.size)
            go_wp2
            go_ret
            exact ⟨rfl, bb7⟩
set_option maxRecDepth 100000 in
theorem lifted (os : Os) (started : os.Started) (H : Type) (enc : TypeId × Value → H) :
  ReturnsInHanded {} Try.checked os 4 .any (Rows.bareissSolvesSpec.pre6 enc Try.prog Try.f4 Rows.bareissSolvesRow.domain false) (Rows.bareissSolvesSpec.post enc Try.prog Try.f4 false true false false) := by
 refine returnsInHanded_of_change (C := Try.checked) own started (by kernel_rfl) Try.func4
  (ChangeSpec.witness6 (enc := enc) (C := Try.checked) false ⟨#[], #[.slice none 0 0, .slice none 0 0], []⟩ 8 (by kernel_rfl) (by kernel_rfl) (by kernel_rfl) (by kernel_rfl)) ?_
 intro W base args ds gs before hval0 hW hcnd _
 have hval : ∀ (j : Nat) t v, Try.f4.params[j]? = some t → args[j]? = some v → Value.okWide Try.prog W .any base t v := hval0
 have hW' := hW
 obtain ⟨p, q, hA0, hV, rfl, hfz, hnd⟩ := hW
 have hA : DataW.TrodAll enc Try.prog W 0 (fun _ => true) true Try.f4.params.toList args.toList ds p := hA0
 rw [Try.params4] at hA hval
 obtain ⟨v0, vs0, d0, ds0, p0, q0, hargs, rfl, rfl, t0, r0⟩ := trodAll_cons hA
 obtain ⟨v1, vs1, d1, ds1, p1, q1, rfl, rfl, rfl, t1, r1⟩ := trodAll_cons r0
 obtain ⟨rfl, rfl, rfl⟩ := trodAll_nil r1
 obtain rfl : args = #[v0, v1] := by cases args; simp_all
 obtain ⟨rfl, rfl⟩ := trodVars_none hV
 have hs0 := arg_w Try.underlying22 (by kernel_rfl) Try.underlying51 Try.underlying29 (by kernel_rfl) (by kernel_rfl) Try.underlying4 Try.underlying27 Try.underlying64 cells_u (hval 0 22 v0 rfl rfl) t0
 have hs1 := arg_w Try.underlying22 (by kernel_rfl) Try.underlying51 Try.underlying29 (by kernel_rfl) (by kernel_rfl) Try.underlying4 Try.underlying27 Try.underlying64 cells_u (hval 1 22 v1 rfl rfl) t1
 clear hA0 hval0
 simp only [List.append_nil] at hW'
 have hlt0 : ∀ x ∈ p0, x.block < W.heap.size := fun x hx => hW'.lt x (List.mem_append_left _ hx)
 have hlt1 : ∀ x ∈ p1, x.block < W.heap.size := fun x hx => hW'.lt x (List.mem_append_right _ (hx))
 refine (walk v0 v1 W hs0 hs1).mono fun e W' ⟨he, hb⟩ => ?_
 subst he
 have s0 := Below.trod laidOut (by kernel_rfl) (of_decide_eq_true (by kernel_rfl)) t0 hb hlt0
 have s1 := Below.trod laidOut (by kernel_rfl) (of_decide_eq_true (by kernel_rfl)) t1 hb hlt1
 exact ⟨_, rfl, _, _, _, [] ++ [], _, [], hW', trodAll_cons_mk (shut_bool Try.underlying4 _) trodAll_mk0, trodAll_cons_mk s0 (trodAll_cons_mk s1 (trodAll_mk0)), rfl, hb.frame _, fun h => by cases h⟩
theorem over : Rows.bareissSolvesRow.holds Try.pinned (OpenSpec.ofChange Rows.bareissSolvesSpec) :=
 OpenClaim.holds_of_wide 4 Try.f4 rfl rfl rfl rfl rfl rfl rfl ⟨rfl, rfl, rfl, rfl, rfl⟩ rfl rfl rfl rfl rfl (by kernel_rfl) Try.func4 (by kernel_rfl)
  (of_decide_eq_true (by kernel_rfl)) (by unfold Func.isWrapper; first | (rw [if_pos (by decide +kernel)]; kernel_rfl) | (rw [if_neg (by decide +kernel)]; exact ⟨rfl, rfl⟩))
  (fun os started H enc _ => lifted os started H enc)
/-- The statement. -/
theorem proved : Rows.BareissSolvesSaid := over
end Go.Proofs.Yteijlcfhenlanaa.bareissSolves
