/- BareissDets: determinants. Condition: the arguments can be read as data. -/
import Derived.Test.YteijlcfhenlanaaKA4
import Derived.Deep.CutRange
import Derived.OpenShut
import Derived.LaidMore
import Derived.Lay
import Derived.Stop.Joined
namespace Go.Proofs.Yteijlcfhenlanaa.bareissDets
open Go.ChangeShapes Go.WideShapes Go.ChangeAt Go.RowKit Go.Proofs.Yteijlcfhenlanaa.num Go.Proofs.Yteijlcfhenlanaa.mem Go.Proofs.Yteijlcfhenlanaa.nat Go.Proofs.Yteijlcfhenlanaa.txt Go.Proofs.Yteijlcfhenlanaa.str Go.Proofs.Yteijlcfhenlanaa.flow Go.Proofs.Yteijlcfhenlanaa.whl Go.Proofs.Yteijlcfhenlanaa.rat
set_option linter.unusedVariables false
set_option linter.unusedSimpArgs false
theorem own : ownKnob Try.prog.godebug = none := by kernel_rfl
theorem laidOut : laidOutB Try.prog = true := by kernel_rfl
theorem cells_u : Try.prog.cellsOf 64 = 1 := by kernel_rfl
set_option maxHeartbeats 6400000 in
set_option maxRecDepth 100000 in
/-- The walk: the Go text returns true; what was there is as it was. -/
theorem walk (v0 : Value) (a1 : Int) (w : World) (h0 : ArgW w v0) (wf1 : (Lit.int .i64 a1).wf = true) :
    Calls Try.prog 3 #[v0, .int .i64 a1] w (RetV (.bool true) w) := by
  obtain ⟨A0, n0, c0, rfl, -, -⟩ := h0.shape
  have CF : ∀ (a : Value) (w : World), ArgW w a → Calls Try.prog 7 #[a, .int .i64 4] w (RetFewI 4 w) := fun a w h => few15_any a 4 w h (by omega)
  go_enter Try.func3, Try.ntmps3
  go_wp2_with fail
  refine (CF _ _ h0).mono ?_
  rintro e w1 ⟨V, U, T, rfl, hV, hU, hT1, hT2, hT3, b1⟩
  obtain ⟨n, hn⟩ : ∃ n, n = T.length := ⟨_, rfl⟩
  obtain ⟨AV, cV, rfl, -, -⟩ := hV.shape
  obtain ⟨AU, cU, rfl, -, -⟩ := hU.shape
  rw [← hn] at hV hU ⊢
  have hn4 : n ≤ 4 := by omega
  have HN : Hid (n = T.length ∧ T.length ≤ 4 ∧ lenI T 2 ∧ ∀ r ∈ T, r.length ≤ 4) := ⟨hn, hT1, hT3, hT2⟩
  have HC : Hid (lenI T 2 ∧ (2 + 1) * 2 ^ T.length ≤ 5001) := ⟨hT3, pow_lens (n := 4) hT1 (by omega)⟩
  clear hn hT1 hT2 hT3 CF
  go_wp2_with fail
  refine (bdet_any _ T 2 _ hV HC).mono ?_
  rintro e w2 ⟨b2, (⟨hS, v2, z, rfl, k2, hl2, hd2⟩ | ⟨hS, rfl⟩)⟩
  · obtain ⟨u2, rfl, s2⟩ := k2
    obtain ⟨A2, c2, rfl, _⟩ := id s2
    have HS : Hid (squareI T ∧ z = detI T.length (entI T)) := ⟨hS, Rat.intCast_inj.1 (by rw [hd2, detI_cast])⟩
    have HZL : Hid (lenZ z ≤ 30000) := Nat.le_trans hl2 (by omega)
    clear hS hl2 hd2
    have ba2 := below_alloc (w := w2) (Nat.le_refl _) (.cells #[.bool (ngB z), .slice A2 (digs 4294967296 z.natAbs).length c2] 29)
    have bx := b1.trans (b2.mono b1.size)
    have bb2 := bx.trans (ba2.mono bx.size)
    have hV2 := (hV.below b2).below ba2
    have hU2 := (hU.below b2).below ba2
    have BZ2 := Blk.new w2 29 #[.bool (ngB z), .slice A2 (digs 4294967296 z.natAbs).length c2]
    have sZ2 := s2.below ba2
    clear s2 bx b1 b2 ba2 hV hU
    have CD : ∀ w, SlW .i64 10000 w (.slice AU n cU) T → Calls Try.prog 14 #[.slice AU n cU] w (RetR z w) := fun w h => by rw [HS.out.2]; exact rdet15_any _ T w h HN.out.2.1 HS.out.1.2 HN.out.2.2.1
    go_wp2_with fail
    refine (bminor_any _ T a1 2 _ hV2 HC).mono ?_
    rintro e w3 ⟨b3, (⟨⟨-, hm0, hm1⟩, v3, y, rfl, k3, hl3, hd3⟩ | ⟨hm, rfl⟩)⟩
    · obtain ⟨k, rfl⟩ : ∃ k : Nat, a1 = (k : Int) := ⟨a1.toNat, by omega⟩
      have hkn : k ≤ n := by have := HN.out.1; omega
      obtain ⟨u3, rfl, s3⟩ := k3
      obtain ⟨A3, c3, rfl, _⟩ := id s3
      have HY : Hid (y = detI k (entI T)) := Rat.intCast_inj.1 (by rw [hd3, detI_cast]; rfl)
      have HYL : Hid (lenZ y ≤ 30000) := Nat.le_trans hl3 (by omega)
      clear hm0 hm1 hd3 hl3 wf1
      have ba3 := below_alloc (w := w3) (Nat.le_refl _) (.cells #[.bool (ngB y), .slice A3 (digs 4294967296 y.natAbs).length c3] 29)
      have bx := bb2.trans (b3.mono bb2.size)
      have bb3 := bx.trans (ba3.mono bx.size)
      have BZ3 := (BZ2.below b3).below ba3
      have sZ3 := (sZ2.below b3).below ba3
      have hU3 := (hU2.below b3).below ba3
      have BY3 := Blk.new w3 29 #[.bool (ngB y), .slice A3 (digs 4294967296 y.natAbs).length c3]
      have sY3 := s3.below ba3
      clear s3 bx bb2 b3 ba3 BZ2 sZ2 hU2 hV2
      go_wp2_with fail
      refine (rsquare_any _ T _ hU3).mono ?_
      rintro e w4 (⟨hq, rfl, b4⟩ | ⟨hq, rfl, b4⟩)
      · have bb4 := bb3.trans (b4.mono bb3.size)
        have BZ4 := BZ3.below b4
        have sZ4 := sZ3.below b4
        have hU4 := hU3.below b4
        have BY4 := BY3.below b4
        have sY4 := sY3.below b4
        clear hq b4 bb3 BZ3 sZ3 hU3 BY3 sY3
        go_upto_region 6 with (fail)
        have bd := (Below.refl w4.heap.size w4).drew
        have bbd := bb4.trans (bd.mono bb4.size)
        have hUd := hU4.below bd
        have kZd : IsZ w4.drew (.agg #[.bool (ngB z), .slice A2 (digs 4294967296 z.natAbs).length c2]) z := ⟨_, rfl, sZ4.below bd⟩
        obtain ⟨x0, x1, _, _⟩ := Blk.two (BZ4.below bd)
        have BYd := BY4.below bd
        have sYd := sY4.below bd
        clear BY4 sY4
        clear bb4 bd BZ4 sZ4 hU4
        refine wp_region_held_drew (S := fun w' : World => Below w4.drew.heap.size w4.drew w') (by kernel_rfl) (Below.refl _ _) (fun hHeld => ?_)
        refine wpAnyH_take (i := 0) (v := .int .i64 0) rfl (by kernel_rfl) (by kernel_rfl) (by kernel_rfl) (fun _ _ _ h => h) (Or.inl ⟨by kernel_rfl, fun w hSw => by (go_simp; first | done | with_reducible rfl)⟩) hHeld ?_
        simp only [Act.put, List.getElem_toArray, List.getElem_cons_zero, List.getElem_cons_succ, List.setIfInBounds_toArray, List.set_cons_zero, List.set_cons_succ]
        refine wpAnyH_take (i := 1) (v := .bool false) rfl (by kernel_rfl) (by kernel_rfl) (by kernel_rfl) (fun _ _ _ h => h) (Or.inl ⟨by kernel_rfl, fun w hSw => by (go_simp; first | done | with_reducible rfl)⟩) hHeld ?_
        simp only [Act.put, List.getElem_toArray, List.getElem_cons_zero, List.getElem_cons_succ, List.setIfInBounds_toArray, List.set_cons_zero, List.set_cons_succ]
        refine wpAnyH_take (i := 2) (v := .bool false) rfl (by kernel_rfl) (by kernel_rfl) (by kernel_rfl) (fun _ _ _ h => h) (Or.inl ⟨by kernel_rfl, fun w hSw => by (go_simp; first | done | with_reducible rfl)⟩) hHeld ?_
        simp only [Act.put, List.getElem_toArray, List.getElem_cons_zero, List.getElem_cons_succ, List.setIfInBounds_toArray, List.set_cons_zero, List.set_cons_succ]
        refine wpAnyH_take (i := 3) (v := .agg #[.bool (ngB z), .slice A2 (digs 4294967296 z.natAbs).length c2]) rfl (by kernel_rfl) (by kernel_rfl) (by kernel_rfl) (fun _ _ _ h => h) (Or.inl ⟨by kernel_rfl, fun w hSw => by (have hBw : Below w4.drew.heap.size w4.drew w := hSw; have f0 := (hBw.cell (World.block_lt_of_cell? _ _ x0)).trans x0; have f1 := (hBw.cell (World.block_lt_of_cell? _ _ x1)).trans x1; go_simp; first | done | with_reducible rfl)⟩) hHeld ?_
        simp only [Act.put, List.getElem_toArray, List.getElem_cons_zero, List.getElem_cons_succ, List.setIfInBounds_toArray, List.set_cons_zero, List.set_cons_succ]
        refine wpAnyH_take (i := 4) (v := .slice AU n cU) rfl (by kernel_rfl) (by kernel_rfl) (by kernel_rfl) (fun _ _ _ h => h) (Or.inl ⟨by kernel_rfl, fun w hSw => by (go_simp; first | done | with_reducible rfl)⟩) hHeld ?_
        simp only [Act.put, List.getElem_toArray, List.getElem_cons_zero, List.getElem_cons_succ, List.setIfInBounds_toArray, List.set_cons_zero, List.set_cons_succ]
        refine wpAnyH_ready (rs := [5]) (by kernel_rfl) (by simp) ?_
        refine AllReadyH.cons rfl (fun K hK => ?_) AllReadyH.nil
        go_simp
        go_at_call 14
        refine (CD _ (by exact hUd)).mono ?_
        rintro e w5 ⟨v5, rfl, k5, b5⟩; obtain ⟨u5, rfl, s5⟩ := k5; obtain ⟨A5, c5, rfl, _⟩ := id s5
        have bT := b5
        refine hK.out _ _ (by exact bT) (fun hHeld => ?_)
        clear hK K
        try simp only [Act.put, List.getElem_toArray, List.getElem_cons_zero, List.getElem_cons_succ, List.setIfInBounds_toArray, List.set_cons_zero, List.set_cons_succ]
        refine wpAnyH_ready (rs := [6]) (by kernel_rfl) (by simp) ?_
        refine AllReadyH.cons rfl (fun K hK => ?_) AllReadyH.nil
        go_simp
        go_at_call 13
        refine (rback_any _ z _ ⟨_, rfl, s5⟩ HZL.out).mono ?_
        rintro e w6 ⟨v6, rfl, k6, -, b6⟩; obtain ⟨u6, rfl, s6⟩ := k6; obtain ⟨A6, c6, rfl, _⟩ := id s6
        have bT := bT.trans (b6.mono bT.size)
        refine hK.out _ _ (by exact bT) (fun hHeld => ?_)
        clear hK K
        try simp only [Act.put, List.getElem_toArray, List.getElem_cons_zero, List.getElem_cons_succ, List.setIfInBounds_toArray, List.set_cons_zero, List.set_cons_succ]
        refine wpAnyH_ready (rs := [7]) (by kernel_rfl) (by simp) ?_
        refine AllReadyH.cons rfl (fun K hK => ?_) AllReadyH.nil
        go_simp
        go_at_call 12
        refine (zsame_eq _ _ z z _ (kZd.below bT) ⟨_, rfl, s6⟩ rfl).mono ?_
        rintro e w7 ⟨rfl, b7⟩
        have bT := bT.trans (b7.mono bT.size)
        refine hK.out _ _ (by exact bT) (fun hHeld => ?_)
        clear hK K
        try simp only [Act.put, List.getElem_toArray, List.getElem_cons_zero, List.getElem_cons_succ, List.setIfInBounds_toArray, List.set_cons_zero, List.set_cons_succ]
        refine wpAnyH_take (i := 8) (v := .bool false) rfl (by kernel_rfl) (by kernel_rfl) (by kernel_rfl) (fun _ _ _ h => h) (Or.inl ⟨by kernel_rfl, fun w hSw => by (go_simp; first | done | with_reducible rfl)⟩) hHeld ?_
        simp only [Act.put, List.getElem_toArray, List.getElem_cons_zero, List.getElem_cons_succ, List.setIfInBounds_toArray, List.set_cons_zero, List.set_cons_succ]
        refine wpAnyH_take (i := 9) (v := .bool false) rfl (by kernel_rfl) (by kernel_rfl) (by kernel_rfl) (fun _ _ _ h => h) (Or.inl ⟨by kernel_rfl, fun w hSw => by (go_simp; first | done | with_reducible rfl)⟩) hHeld ?_
        simp only [Act.put, List.getElem_toArray, List.getElem_cons_zero, List.getElem_cons_succ, List.setIfInBounds_toArray, List.set_cons_zero, List.set_cons_succ]
        refine wpAnyH_done (by kernel_rfl) ?_ _
        have bb7 := bbd.trans (bT.mono bbd.size)
        have hU7 := hUd.below bT
        have BY7 := BYd.below bT
        have sY7 := sYd.below bT
        clear BYd sYd
        clear x0 x1 kZd bbd hUd s5 s6 bT b5 b6 b7
        obtain ⟨M, hM⟩ : ∃ M, M = cutI T k := ⟨_, rfl⟩
        have HM : Hid (M = cutI T k ∧ M.length = k) := ⟨hM, by rw [hM]; exact cutI_len (by rw [← HN.out.1]; exact hkn)⟩
        have HU := Lib.hid hU7
        have TG0 : TabZI .i64 10000 43 (w7.alloc (.cells #[] 43)) w7.heap.size (.slice (some ⟨w7.heap.size, 0, none⟩) 0 0) [] (M.take 0) := TabZI.nil w7 w7.heap.size (Nat.le_refl _)
        have ba := below_alloc (w := w7) (Nat.le_refl _) (.cells #[] 43)
        have HB0 : Hid (Below w7.heap.size w7 _) := ba
        clear hM ba hU7
        have g1 : ¬ (n < k) := by omega
        have g2 : ¬ ((k : Int) < 0) := by omega
        have g3 : decide (n < k) = false := decide_eq_false g1
        have g4 : decide ((k : Int) < 0) = false := decide_eq_false g2
        go_wp2
        clear g1 g2 g3 g4
        go_loopw [11, 12] (fun v11 v12 wr => ∃ (i : Nat) (us : List Value), i ≤ k ∧ TabZI .i64 10000 43 wr w7.heap.size v11 us (M.take i) ∧ Hid (Below w7.heap.size w7 wr) ∧ v12 = .int .i64 (i : Int)) (fun _ v12 _ => k - (intOf v12).toNat)
        case atStart => exact ⟨0, [], by omega, TG0, HB0, rfl⟩
        case round =>
          clear TG0 HB0
          obtain ⟨i, us, hi, TG, HBi, rfl⟩ := hrel
          obtain ⟨wi, hwi⟩ : ∃ wi, wi = wr := ⟨_, rfl⟩
          subst hwi
          obtain ⟨A11, c11, e11⟩ := RowV.slice TG.row.1
          subst e11
          by_cases hik : i < k
          · obtain ⟨r, hr⟩ : ∃ r, T[i]? = some r := ⟨_, List.getElem?_eq_getElem (by have := HN.out.1; omega)⟩
            have hrl : r.length = n := by rw [HS.out.1.2 r (List.mem_of_getElem? hr), ← HN.out.1]
            have hUi := HU.out.below HBi.out
            obtain ⟨ad, rfl⟩ := hUi.place (List.length_pos_iff.1 (by have := HN.out.1; omega))
            obtain ⟨Ar, cr, hin, ecr, sr⟩ := hUi.at2 hr
            have hrc : n ≤ cr := by obtain ⟨A', c', e, h1, h2⟩ := sr.shape; injection e with _ _ e; omega
            have hncr : ¬ (cr < k) := by omega
            have sT := sr.take (m := k) (by omega)
            have HTK : Hid (M.take (i + 1) = M.take i ++ [r.take k]) := by rw [HM.out.1]; exact take_nextD (cutI_at hr hik)
            have ba := below_alloc (w := wi) (Nat.le_refl _) (.cells #[.slice Ar k cr] 43)
            have TG2 := TG.below ba
            have sT2 := sT.below ba
            have hone := lit_cells wi 43 (.slice Ar k cr)
            have hbs := HBi.out.size
            have b2 := HBi.out.trans (ba.mono hbs)
            have hlu : us.length + 1 ≤ 1000000000 := by have h1 := TG2.len; rw [List.length_take] at h1; omega
            have hsl : ∀ u ∈ [Value.slice Ar k cr], isSl u := fun u hu => by rw [List.mem_singleton.1 hu]; exact ⟨_, _, _, rfl⟩
            clear hr hUi sr sT TG ba hrl
            go_wp2_with (at_builtin; refine wpList_append_S rfl (.tmp 71) (.tmp 78) rfl Try.underlying23 info_zdocs (news := [.slice Ar k cr]) rfl TG2.row rfl rfl (by decide) hone hsl hlu b2.size ?_; intro V3 w3 row3 G3 O3)
            have TG3 := TG2.snoc row3 G3.out sT2
            have HB3 : Hid (Below w7.heap.size w7 w3) := b2.grown G3.out b2.size (fun g hg => TG2.row.1.base_le g hg)
            rw [← HTK.out] at TG3
            clear TG2 sT2 hone row3 G3 O3 b2 ecr
            go_wp2
            go_roundw
            case rel => exact ⟨i + 1, _, by omega, TG3, HB3, by go_num⟩
            case measure => simp [intOf]; omega
          · have hik2 : i = k := by omega
            obtain ⟨w9, hw9⟩ : ∃ w9, w9 = wi := ⟨_, rfl⟩
            have hsm : SlW .i64 10000 wi (.slice A11 us.length c11) M := by have h := TG.slW; rwa [List.take_of_length_le (by rw [HM.out.2]; omega)] at h
            obtain ⟨mS, hmS⟩ : ∃ mS, mS = us.length := ⟨_, rfl⟩
            obtain ⟨AS, cS, hAc⟩ : ∃ AS cS, AS = A11 ∧ cS = c11 := ⟨_, _, rfl, rfl⟩
            obtain ⟨hA1, hA2⟩ := hAc
            have BY9 := BY7.below HBi.out
            have sY9 := sY7.below HBi.out
            have bb9 := bb7.trans (HBi.out.mono bb7.size)
            rw [← hmS, ← hA1, ← hA2] at hsm ⊢
            rw [← hw9] at hsm BY9 sY9 bb9 ⊢
            have CE : ∀ (V : Value) (w : World), SlW .i64 10000 w V M → Calls Try.prog 14 #[V] w (RetR y w) := fun V w h => by
              have hsh := cutI_sh HS.out.1 (show k ≤ T.length by rw [← HN.out.1]; exact hkn)
              have e : y = detI M.length (entI M) := by rw [HY.out, HM.out.2, HM.out.1]; exact detI_congr _ fun i j hi hj => (cutI_ent hi hj).symm
              rw [e]
              exact rdet15_any _ M w h (by have := HM.out.2; have := HN.out; omega) (fun r hr => by rw [HM.out.2]; exact hsh.2 r (by rw [← HM.out.1]; exact hr)) (by rw [HM.out.1]; exact cutI_lens HN.out.2.2.1)
            clear hw9 hmS hA1 hA2 TG BY7 sY7 bb7 HBi HU hik2 hi
            go_upto_region 15 with (fail)
            have bd := (Below.refl w9.heap.size w9).drew
            have bbd := bb9.trans (bd.mono bb9.size)
            have hmd := hsm.below bd
            have kYd : IsZ w9.drew (.agg #[.bool (ngB y), .slice A3 (digs 4294967296 y.natAbs).length c3]) y := ⟨_, rfl, sY9.below bd⟩
            obtain ⟨x0, x1, _, _⟩ := Blk.two (BY9.below bd)
            clear bb9 bd BY9 sY9 hsm
            refine wp_region_held_drew (S := fun w' : World => Below w9.drew.heap.size w9.drew w') (by kernel_rfl) (Below.refl _ _) (fun hHeld => ?_)
            refine wpAnyH_take (i := 0) (v := .int .i64 0) rfl (by kernel_rfl) (by kernel_rfl) (by kernel_rfl) (fun _ _ _ h => h) (Or.inl ⟨by kernel_rfl, fun w hSw => by (go_simp; first | done | with_reducible rfl)⟩) hHeld ?_
            simp only [Act.put, List.getElem_toArray, List.getElem_cons_zero, List.getElem_cons_succ, List.setIfInBounds_toArray, List.set_cons_zero, List.set_cons_succ]
            refine wpAnyH_take (i := 1) (v := .bool true) rfl (by kernel_rfl) (by kernel_rfl) (by kernel_rfl) (fun _ _ _ h => h) (Or.inl ⟨by kernel_rfl, fun w hSw => by (go_simp; first | done | with_reducible rfl)⟩) hHeld ?_
            simp only [Act.put, List.getElem_toArray, List.getElem_cons_zero, List.getElem_cons_succ, List.setIfInBounds_toArray, List.set_cons_zero, List.set_cons_succ]
            refine wpAnyH_take (i := 2) (v := .bool true) rfl (by kernel_rfl) (by kernel_rfl) (by kernel_rfl) (fun _ _ _ h => h) (Or.inl ⟨by kernel_rfl, fun w hSw => by (go_simp; first | done | with_reducible rfl)⟩) hHeld ?_
            simp only [Act.put, List.getElem_toArray, List.getElem_cons_zero, List.getElem_cons_succ, List.setIfInBounds_toArray, List.set_cons_zero, List.set_cons_succ]
            refine wpAnyH_take (i := 3) (v := .agg #[.bool (ngB y), .slice A3 (digs 4294967296 y.natAbs).length c3]) rfl (by kernel_rfl) (by kernel_rfl) (by kernel_rfl) (fun _ _ _ h => h) (Or.inl ⟨by kernel_rfl, fun w hSw => by (have hBw : Below w9.drew.heap.size w9.drew w := hSw; have f0 := (hBw.cell (World.block_lt_of_cell? _ _ x0)).trans x0; have f1 := (hBw.cell (World.block_lt_of_cell? _ _ x1)).trans x1; go_simp; first | done | with_reducible rfl)⟩) hHeld ?_
            simp only [Act.put, List.getElem_toArray, List.getElem_cons_zero, List.getElem_cons_succ, List.setIfInBounds_toArray, List.set_cons_zero, List.set_cons_succ]
            refine wpAnyH_take (i := 4) (v := .slice AS mS cS) rfl (by kernel_rfl) (by kernel_rfl) (by kernel_rfl) (fun _ _ _ h => h) (Or.inl ⟨by kernel_rfl, fun w hSw => by (go_simp; first | done | with_reducible rfl)⟩) hHeld ?_
            simp only [Act.put, List.getElem_toArray, List.getElem_cons_zero, List.getElem_cons_succ, List.setIfInBounds_toArray, List.set_cons_zero, List.set_cons_succ]
            refine wpAnyH_ready (rs := [5]) (by kernel_rfl) (by simp) ?_
            refine AllReadyH.cons rfl (fun K hK => ?_) AllReadyH.nil
            go_simp
            go_at_call 14
            refine (CE _ _ (by exact hmd)).mono ?_
            rintro e w10 ⟨v10, rfl, k10, b10⟩; obtain ⟨u10, rfl, s10⟩ := k10; obtain ⟨A10, c10, rfl, _⟩ := id s10
            have bT := b10
            refine hK.out _ _ (by exact bT) (fun hHeld => ?_)
            clear hK K
            try simp only [Act.put, List.getElem_toArray, List.getElem_cons_zero, List.getElem_cons_succ, List.setIfInBounds_toArray, List.set_cons_zero, List.set_cons_succ]
            refine wpAnyH_ready (rs := [6]) (by kernel_rfl) (by simp) ?_
            refine AllReadyH.cons rfl (fun K hK => ?_) AllReadyH.nil
            go_simp
            go_at_call 13
            refine (rback_any _ y _ ⟨_, rfl, s10⟩ HYL.out).mono ?_
            rintro e w11 ⟨v11, rfl, k11, -, b11⟩; obtain ⟨u11, rfl, s11⟩ := k11; obtain ⟨A11, c11, rfl, _⟩ := id s11
            have bT := bT.trans (b11.mono bT.size)
            refine hK.out _ _ (by exact bT) (fun hHeld => ?_)
            clear hK K
            try simp only [Act.put, List.getElem_toArray, List.getElem_cons_zero, List.getElem_cons_succ, List.setIfInBounds_toArray, List.set_cons_zero, List.set_cons_succ]
            refine wpAnyH_ready (rs := [7]) (by kernel_rfl) (by simp) ?_
            refine AllReadyH.cons rfl (fun K hK => ?_) AllReadyH.nil
            go_simp
            go_at_call 12
            refine (zsame_eq _ _ y y _ (kYd.below bT) ⟨_, rfl, s11⟩ rfl).mono ?_
            rintro e w12 ⟨rfl, b12⟩
            have bT := bT.trans (b12.mono bT.size)
            refine hK.out _ _ (by exact bT) (fun hHeld => ?_)
            clear hK K
            try simp only [Act.put, List.getElem_toArray, List.getElem_cons_zero, List.getElem_cons_succ, List.setIfInBounds_toArray, List.set_cons_zero, List.set_cons_succ]
            refine wpAnyH_take (i := 8) (v := .bool true) rfl (by kernel_rfl) (by kernel_rfl) (by kernel_rfl) (fun _ _ _ h => h) (Or.inl ⟨by kernel_rfl, fun w hSw => by (go_simp; first | done | with_reducible rfl)⟩) hHeld ?_
            simp only [Act.put, List.getElem_toArray, List.getElem_cons_zero, List.getElem_cons_succ, List.setIfInBounds_toArray, List.set_cons_zero, List.set_cons_succ]
            refine wpAnyH_take (i := 9) (v := .bool true) rfl (by kernel_rfl) (by kernel_rfl) (by kernel_rfl) (fun _ _ _ h => h) (Or.inl ⟨by kernel_rfl, fun w hSw => by (go_simp; first | done | with_reducible rfl)⟩) hHeld ?_
            simp only [Act.put, List.getElem_toArray, List.getElem_cons_zero, List.getElem_cons_succ, List.setIfInBounds_toArray, List.set_cons_zero, List.set_cons_succ]
            refine wpAnyH_ready (rs := [10]) (by kernel_rfl) (by simp) ?_
            refine AllReadyH.cons rfl (fun K hK => ?_) AllReadyH.nil
            go_simp
            go_at_call 11
            refine (works15_any _).mono ?_
            rintro e w13 ⟨rfl, b13⟩
            have bT := bT.trans (b13.mono bT.size)
            refine hK.out _ _ (by exact bT) (fun hHeld => ?_)
            clear hK K
            try simp only [Act.put, List.getElem_toArray, List.getElem_cons_zero, List.getElem_cons_succ, List.setIfInBounds_toArray, List.set_cons_zero, List.set_cons_succ]
            refine wpAnyH_take (i := 11) (v := .bool true) rfl (by kernel_rfl) (by kernel_rfl) (by kernel_rfl) (fun _ _ _ h => h) (Or.inl ⟨by kernel_rfl, fun w hSw => by (go_simp; first | done | with_reducible rfl)⟩) hHeld ?_
            simp only [Act.put, List.getElem_toArray, List.getElem_cons_zero, List.getElem_cons_succ, List.setIfInBounds_toArray, List.set_cons_zero, List.set_cons_succ]
            refine wpAnyH_take (i := 12) (v := .bool true) rfl (by kernel_rfl) (by kernel_rfl) (by kernel_rfl) (fun _ _ _ h => h) (Or.inl ⟨by kernel_rfl, fun w hSw => by (go_simp; first | done | with_reducible rfl)⟩) hHeld ?_
            simp only [Act.put, List.getElem_toArray, List.getElem_cons_zero, List.getElem_cons_succ, List.setIfInBounds_toArray, List.set_cons_zero, List.set_cons_succ]
            refine wpAnyH_done (by kernel_rfl) ?_ _
            have bbe := bbd.trans (bT.mono bbd.size)
            go_wp2
            go_ret
            exact ⟨rfl, bbe⟩
      · exact absurd HS.out.1 hq
    · have hm2 : a1 < 0 ∨ (n : Int) < a1 := by
        rcases (by omega : a1 < 0 ∨ 0 ≤ a1) with h | h
        · exact .inl h
        · exact .inr (by have := HN.out.1; have h3 : ¬ (a1 ≤ (T.length : Int)) := fun h2 => hm ⟨HS.out.1, h, h2⟩; omega)
      clear hm
      have ba3 := below_alloc (w := w3) (Nat.le_refl _) (.cells #[.bool false, .slice none 0 0] 29)
      have bx := bb2.trans (b3.mono bb2.size)
      have bb3 := bx.trans (ba3.mono bx.size)
      have BZ3 := (BZ2.below b3).below ba3
      have sZ3 := (sZ2.below b3).below ba3
      have hU3 := (hU2.below b3).below ba3
      clear bx bb2 b3 ba3 BZ2 sZ2 hU2 hV2
      go_wp2_with fail
      refine (rsquare_any _ T _ hU3).mono ?_
      rintro e w4 (⟨hq, rfl, b4⟩ | ⟨hq, rfl, b4⟩)
      · have bb4 := bb3.trans (b4.mono bb3.size)
        have BZ4 := BZ3.below b4
        have sZ4 := sZ3.below b4
        have hU4 := hU3.below b4
        clear hq b4 bb3 BZ3 sZ3 hU3
        go_upto_region 6 with (fail)
        have bd := (Below.refl w4.heap.size w4).drew
        have bbd := bb4.trans (bd.mono bb4.size)
        have hUd := hU4.below bd
        have kZd : IsZ w4.drew (.agg #[.bool (ngB z), .slice A2 (digs 4294967296 z.natAbs).length c2]) z := ⟨_, rfl, sZ4.below bd⟩
        obtain ⟨x0, x1, _, _⟩ := Blk.two (BZ4.below bd)
        clear bb4 bd BZ4 sZ4 hU4
        refine wp_region_held_drew (S := fun w' : World => Below w4.drew.heap.size w4.drew w') (by kernel_rfl) (Below.refl _ _) (fun hHeld => ?_)
        refine wpAnyH_take (i := 0) (v := .int .i64 0) rfl (by kernel_rfl) (by kernel_rfl) (by kernel_rfl) (fun _ _ _ h => h) (Or.inl ⟨by kernel_rfl, fun w hSw => by (go_simp; first | done | with_reducible rfl)⟩) hHeld ?_
        simp only [Act.put, List.getElem_toArray, List.getElem_cons_zero, List.getElem_cons_succ, List.setIfInBounds_toArray, List.set_cons_zero, List.set_cons_succ]
        refine wpAnyH_take (i := 1) (v := .bool false) rfl (by kernel_rfl) (by kernel_rfl) (by kernel_rfl) (fun _ _ _ h => h) (Or.inl ⟨by kernel_rfl, fun w hSw => by (go_simp; first | done | with_reducible rfl)⟩) hHeld ?_
        simp only [Act.put, List.getElem_toArray, List.getElem_cons_zero, List.getElem_cons_succ, List.setIfInBounds_toArray, List.set_cons_zero, List.set_cons_succ]
        refine wpAnyH_take (i := 2) (v := .bool false) rfl (by kernel_rfl) (by kernel_rfl) (by kernel_rfl) (fun _ _ _ h => h) (Or.inl ⟨by kernel_rfl, fun w hSw => by (go_simp; first | done | with_reducible rfl)⟩) hHeld ?_
        simp only [Act.put, List.getElem_toArray, List.getElem_cons_zero, List.getElem_cons_succ, List.setIfInBounds_toArray, List.set_cons_zero, List.set_cons_succ]
        refine wpAnyH_take (i := 3) (v := .agg #[.bool (ngB z), .slice A2 (digs 4294967296 z.natAbs).length c2]) rfl (by kernel_rfl) (by kernel_rfl) (by kernel_rfl) (fun _ _ _ h => h) (Or.inl ⟨by kernel_rfl, fun w hSw => by (have hBw : Below w4.drew.heap.size w4.drew w := hSw; have f0 := (hBw.cell (World.block_lt_of_cell? _ _ x0)).trans x0; have f1 := (hBw.cell (World.block_lt_of_cell? _ _ x1)).trans x1; go_simp; first | done | with_reducible rfl)⟩) hHeld ?_
        simp only [Act.put, List.getElem_toArray, List.getElem_cons_zero, List.getElem_cons_succ, List.setIfInBounds_toArray, List.set_cons_zero, List.set_cons_succ]
        refine wpAnyH_take (i := 4) (v := .slice AU n cU) rfl (by kernel_rfl) (by kernel_rfl) (by kernel_rfl) (fun _ _ _ h => h) (Or.inl ⟨by kernel_rfl, fun w hSw => by (go_simp; first | done | with_reducible rfl)⟩) hHeld ?_
        simp only [Act.put, List.getElem_toArray, List.getElem_cons_zero, List.getElem_cons_succ, List.setIfInBounds_toArray, List.set_cons_zero, List.set_cons_succ]
        refine wpAnyH_ready (rs := [5]) (by kernel_rfl) (by simp) ?_
        refine AllReadyH.cons rfl (fun K hK => ?_) AllReadyH.nil
        go_simp
        go_at_call 14
        refine (CD _ (by exact hUd)).mono ?_
        rintro e w5 ⟨v5, rfl, k5, b5⟩; obtain ⟨u5, rfl, s5⟩ := k5; obtain ⟨A5, c5, rfl, _⟩ := id s5
        have bT := b5
        refine hK.out _ _ (by exact bT) (fun hHeld => ?_)
        clear hK K
        try simp only [Act.put, List.getElem_toArray, List.getElem_cons_zero, List.getElem_cons_succ, List.setIfInBounds_toArray, List.set_cons_zero, List.set_cons_succ]
        refine wpAnyH_ready (rs := [6]) (by kernel_rfl) (by simp) ?_
        refine AllReadyH.cons rfl (fun K hK => ?_) AllReadyH.nil
        go_simp
        go_at_call 13
        refine (rback_any _ z _ ⟨_, rfl, s5⟩ HZL.out).mono ?_
        rintro e w6 ⟨v6, rfl, k6, -, b6⟩; obtain ⟨u6, rfl, s6⟩ := k6; obtain ⟨A6, c6, rfl, _⟩ := id s6
        have bT := bT.trans (b6.mono bT.size)
        refine hK.out _ _ (by exact bT) (fun hHeld => ?_)
        clear hK K
        try simp only [Act.put, List.getElem_toArray, List.getElem_cons_zero, List.getElem_cons_succ, List.setIfInBounds_toArray, List.set_cons_zero, List.set_cons_succ]
        refine wpAnyH_ready (rs := [7]) (by kernel_rfl) (by simp) ?_
        refine AllReadyH.cons rfl (fun K hK => ?_) AllReadyH.nil
        go_simp
        go_at_call 12
        refine (zsame_eq _ _ z z _ (kZd.below bT) ⟨_, rfl, s6⟩ rfl).mono ?_
        rintro e w7 ⟨rfl, b7⟩
        have bT := bT.trans (b7.mono bT.size)
        refine hK.out _ _ (by exact bT) (fun hHeld => ?_)
        clear hK K
        try simp only [Act.put, List.getElem_toArray, List.getElem_cons_zero, List.getElem_cons_succ, List.setIfInBounds_toArray, List.set_cons_zero, List.set_cons_succ]
        refine wpAnyH_take (i := 8) (v := .bool false) rfl (by kernel_rfl) (by kernel_rfl) (by kernel_rfl) (fun _ _ _ h => h) (Or.inl ⟨by kernel_rfl, fun w hSw => by (go_simp; first | done | with_reducible rfl)⟩) hHeld ?_
        simp only [Act.put, List.getElem_toArray, List.getElem_cons_zero, List.getElem_cons_succ, List.setIfInBounds_toArray, List.set_cons_zero, List.set_cons_succ]
        refine wpAnyH_take (i := 9) (v := .bool false) rfl (by kernel_rfl) (by kernel_rfl) (by kernel_rfl) (fun _ _ _ h => h) (Or.inl ⟨by kernel_rfl, fun w hSw => by (go_simp; first | done | with_reducible rfl)⟩) hHeld ?_
        simp only [Act.put, List.getElem_toArray, List.getElem_cons_zero, List.getElem_cons_succ, List.setIfInBounds_toArray, List.set_cons_zero, List.set_cons_succ]
        refine wpAnyH_done (by kernel_rfl) ?_ _
        have bb7 := bbd.trans (bT.mono bbd.size)
        have hU7 := hUd.below bT
        clear x0 x1 kZd bbd hUd s5 s6 bT b5 b6 b7
        rcases hm2 with hm2 | hm2
        · go_wp2_with fail
          refine (works15_any _).mono ?_
          rintro e w8 ⟨rfl, b8⟩
          have bb8 := bb7.trans (b8.mono bb7.size)
          go_wp2
          go_ret
          exact ⟨rfl, bb8⟩
        · have hm3 : ¬ a1 < 0 := by omega
          go_wp2_with fail
          refine (works15_any _).mono ?_
          rintro e w8 ⟨rfl, b8⟩
          have bb8 := bb7.trans (b8.mono bb7.size)
          go_wp2
          go_ret
          exact ⟨rfl, bb8⟩
      · exact absurd HS.out.1 hq
  · have HS := Lib.hid hS
    clear hS
    have ba2 := below_alloc (w := w2) (Nat.le_refl _) (.cells #[.bool false, .slice none 0 0] 29)
    have bx := b1.trans (b2.mono b1.size)
    have bb2 := bx.trans (ba2.mono bx.size)
    have hV2 := (hV.below b2).below ba2
    have hU2 := (hU.below b2).below ba2
    clear bx b1 b2 ba2 hV hU
    go_wp2_with fail
    refine (bminor_any _ T a1 2 _ hV2 HC).mono ?_
    rintro e w3 ⟨b3, (⟨⟨hm, -, -⟩, -⟩ | ⟨hm, rfl⟩)⟩
    · exact absurd hm HS.out
    · have ba3 := below_alloc (w := w3) (Nat.le_refl _) (.cells #[.bool false, .slice none 0 0] 29)
      have bx := bb2.trans (b3.mono bb2.size)
      have bb3 := bx.trans (ba3.mono bx.size)
      have hU3 := (hU2.below b3).below ba3
      clear hm bx bb2 b3 ba3 hU2 hV2
      go_wp2_with fail
      refine (rsquare_any _ T _ hU3).mono ?_
      rintro e w4 (⟨hq, rfl, b4⟩ | ⟨hq, rfl, b4⟩)
      · exact absurd hq HS.out
      · have bb4 := bb3.trans (b4.mono bb3.size)
        clear hq b4 bb3 hU3
        go_wp2_with fail
        refine (works15_any _).mono ?_
        rintro e w5 ⟨rfl, b5⟩
        have bb5 := bb4.trans (b5.mono bb4.size)
        go_wp2
        go_ret
        exact ⟨rfl, bb5⟩
set_option maxRecDepth 100000 in
theorem lifted (os : Os) (started : os.Started) (H : Type) (enc : TypeId × Value → H) :
  ReturnsInHanded {} Try.checked os 3 .any (Rows.bareissDetsSpec.pre6 enc Try.prog Try.f3 Rows.bareissDetsRow.domain false) (Rows.bareissDetsSpec.post enc Try.prog Try.f3 false true false false) := by
 refine returnsInHanded_of_change (C := Try.checked) own started (by kernel_rfl) Try.func3
  (ChangeSpec.witness6 (enc := enc) (C := Try.checked) false ⟨#[], #[.slice none 0 0, .int .i64 0], []⟩ 8 (by kernel_rfl) (by kernel_rfl) (by kernel_rfl) (by kernel_rfl)) ?_
 intro W base args ds gs before hval0 hW hcnd _
 have hval : ∀ (j : Nat) t v, Try.f3.params[j]? = some t → args[j]? = some v → Value.okWide Try.prog W .any base t v := hval0
 have hW' := hW
 obtain ⟨p, q, hA0, hV, rfl, hfz, hnd⟩ := hW
 have hA : DataW.TrodAll enc Try.prog W 0 (fun _ => true) true Try.f3.params.toList args.toList ds p := hA0
 rw [Try.params3] at hA hval
 obtain ⟨v0, vs0, d0, ds0, p0, q0, hargs, rfl, rfl, t0, r0⟩ := trodAll_cons hA
 obtain ⟨v1, vs1, d1, ds1, p1, q1, rfl, rfl, rfl, t1, r1⟩ := trodAll_cons r0
 obtain ⟨rfl, rfl, rfl⟩ := trodAll_nil r1
 obtain rfl : args = #[v0, v1] := by cases args; simp_all
 obtain ⟨rfl, rfl⟩ := trodVars_none hV
 have hs0 := arg_w Try.underlying22 (by kernel_rfl) Try.underlying51 Try.underlying29 (by kernel_rfl) (by kernel_rfl) Try.underlying4 Try.underlying27 Try.underlying64 cells_u (hval 0 22 v0 rfl rfl) t0
 obtain ⟨a1, rfl, hd1, hp1, wf1⟩ := open_int Try.underlying3 (hval 1 3 v1 rfl rfl) t1
 clear hA0 hval0
 simp only [List.append_nil] at hW'
 have hlt0 : ∀ x ∈ p0, x.block < W.heap.size := fun x hx => hW'.lt x (List.mem_append_left _ hx)
 have hlt1 : ∀ x ∈ p1, x.block < W.heap.size := fun x hx => hW'.lt x (List.mem_append_right _ (hx))
 refine (walk v0 a1 W hs0 wf1).mono fun e W' ⟨he, hb⟩ => ?_
 subst he
 have s0 := Below.trod laidOut (by kernel_rfl) (of_decide_eq_true (by kernel_rfl)) t0 hb hlt0
 have s1 := Below.trod laidOut (by kernel_rfl) (of_decide_eq_true (by kernel_rfl)) t1 hb hlt1
 exact ⟨_, rfl, _, _, _, [] ++ [], _, [], hW', trodAll_cons_mk (shut_bool Try.underlying4 _) trodAll_mk0, trodAll_cons_mk s0 (trodAll_cons_mk s1 (trodAll_mk0)), rfl, hb.frame _, fun h => by cases h⟩
theorem over : Rows.bareissDetsRow.holds Try.pinned (OpenSpec.ofChange Rows.bareissDetsSpec) :=
 OpenClaim.holds_of_wide 3 Try.f3 rfl rfl rfl rfl rfl rfl rfl ⟨rfl, rfl, rfl, rfl, rfl⟩ rfl rfl rfl rfl rfl (by kernel_rfl) Try.func3 (by kernel_rfl)
  (of_decide_eq_true (by kernel_rfl)) (by unfold Func.isWrapper; first | (rw [if_pos (by decide +kernel)]; kernel_rfl) | (rw [if_neg (by decide +kernel)]; exact ⟨rfl, rfl⟩))
  (fun os started H enc _ => lifted os started H enc)
/-- The statement. -/
theorem proved : Rows.BareissDetsSaid := over
end Go.Proofs.Yteijlcfhenlanaa.bareissDets
