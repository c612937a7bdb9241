/- MulPowers: powers, and products of many, are those of the document, or refused. Condition: the arguments can be read as data. -/
import Derived.Test.YtaipahooepnfpaaRefM
import Derived.Test.YtaipahooepnfpaaList
namespace Go.Proofs.Ytaipahooepnfpaa.mulPowers
open Go.ChangeShapes Go.WideShapes Go.ChangeAt Go.RowKit Go.Proofs.Ytaipahooepnfpaa.num Go.Proofs.Ytaipahooepnfpaa.mem Go.Proofs.Ytaipahooepnfpaa.nat
set_option linter.unusedVariables false

theorem own : ownKnob Try.prog.godebug = none := by kernel_rfl
theorem laidOut : laidOutB Try.prog = true := by kernel_rfl
theorem cells_u : Try.prog.cellsOf 29 = 1 := by kernel_rfl
theorem cells_n : Try.prog.cellsOf 23 = 1 := by kernel_rfl

set_option maxHeartbeats 6400000 in
set_option maxRecDepth 100000 in
/-- The walk: the Go text returns true; what was there is as it was. -/
theorem walk (v0 : Value) (l0 : List Nat) (a1 : Int) (v2 : Value) (w : World) (h0 : IsS w .u64 v0 l0) (u0 : Lt 18446744073709551616 l0) (wf1 : (Lit.int .i64 a1).wf = true) (h2 : ArgL w v2) :
    Calls Try.prog 5 #[v0, .int .i64 a1, v2] w (RetV (.bool true) w) := by
  have bn := bounds_i64 wf1
  clear wf1
  obtain ⟨A2, nn, cc, rfl, hn2, hc2, hargs⟩ := h2
  have HA := Lib.hid hargs
  clear hargs
  unfold maxLen at hc2
  have E1 : Hid (digs 4294967296 1 = [1]) := digs_one 1 (by omega) (by omega)
  rcases (show (a1 < 0 ∨ 10000 < a1) ∨ (0 ≤ a1 ∧ a1 ≤ 30) ∨ (30 < a1 ∧ a1 ≤ 10000) from by omega) with hc | ⟨hc, hc2⟩ | ⟨hc, hc2⟩
  · rcases hc with hc | hc
    all_goals
      have B : Below w.heap.size w w := Below.refl _ _
      go_enter Try.func5, Try.ntmps5
      go_wp2_with fail
      refine (clean_any v0 l0 _ 3 _ rfl (h0.below B) u0 (by omega)).mono ?_
      rintro e w1 ⟨c0, rfl, k_c0, f_c0, b1⟩
      replace B := B.trans (b1.mono B.size)
      obtain ⟨x, hxx⟩ : ∃ x, x = cleaned l0 3 := ⟨_, rfl⟩
      have mx := cleaned_len l0 3
      rw [← hxx] at k_c0 mx
      clear hxx
      go_wp2_with fail
      refine (pow_no _ _ _ (by omega)).mono ?_
      rintro e w2 ⟨p, rfl, k_p, f_p, b2⟩
      replace B := B.trans (b2.mono B.size)
      replace k_c0 := k_c0.below b2
      go_wp2_with fail
      refine (refPow_no _ _ _ (by omega)).mono ?_
      rintro e w3 ⟨r, rfl, k_r, f_r, b3⟩
      replace B := B.trans (b3.mono B.size)
      replace k_c0 := k_c0.below b3
      replace k_p := k_p.below b3
      rw [← digs_zero 4294967296] at k_p k_r
      go_wp2
      go_loopw [11, 12, 13] (fun vo vw vi wr => ∃ (k : Nat) (vs : List Value) (xs : List Nat), k ≤ 6 ∧ k ≤ nn ∧ vs.length = k ∧ RowV wr w3.heap.size 23 vo vs ∧ NumsFar wr vo vs xs ∧ IsS wr .u64 vw (digs 4294967296 xs.prod) ∧ Far vo vw ∧ plen xs ≤ 6 * k ∧ Below w3.heap.size w3 wr ∧ vi = .int .i64 (k : Int)) (fun _ _ vi _ => nn - (intOf vi).toNat)
      case atStart =>
        refine ⟨0, [], [], by omega, by omega, rfl, (rowV_lit0 w3 w3.heap.size _ (Nat.le_refl _)).below (below_alloc (Nat.le_refl _) _), NumsFar.nil _ _, ?_, ?_, by simp [plen], below_alloc (Nat.le_refl _) _ |>.alloc (by simp) _, rfl⟩
        · rw [List.prod_nil, E1.out]; exact lit1_at _ _ _ (d := 1) rfl (by simp)
        · exact (fresh_at (Nat.le_refl _)).far (fun g hg => by simp [Value.ownBlock] at hg; omega)
      case round =>
        obtain ⟨k, vs, xs, hk6, hkn, hvl, hrow, hnums, kw, fw, hpl, hb, rfl⟩ := hrel
        have hB := B.trans (hb.mono B.size)
        have hpr := prod_len xs
        by_cases hlt : k < nn ∧ k < 6
        · obtain ⟨hlt1, hlt2⟩ := hlt
          obtain ⟨ad, u, lu, rfl, hcell, hu, hul⟩ := HA.out k hlt1
          replace hcell := (hB.cell (World.block_lt_of_cell? w _ hcell)).trans hcell
          replace hu := hu.below hB
          obtain ⟨Au, cu, rfl, _⟩ := id hu
          have HVL := Lib.hid hvl
          clear hvl
          go_wp2_with fail
          refine (clean_any _ lu _ 6 _ rfl hu hul (by omega)).mono ?_
          rintro e wa ⟨vx, rfl, kx, fx, ba⟩
          obtain ⟨y, hy⟩ : ∃ y, y = cleaned lu 6 := ⟨_, rfl⟩
          have my := cleaned_len lu 6
          rw [← hy] at kx my
          clear hy
          have fvx := fx.far hrow.under
          replace hrow := hrow.below ba
          replace hnums := hnums.below ba
          replace kw := kw.below ba
          replace hb := hb.trans (ba.mono hb.size)
          have hszb := hb.size
          obtain ⟨Ax, cx, rfl, _⟩ := id kx
          have HP : Hid ((xs ++ [y]).prod = xs.prod * y) := by show _ = _; rw [List.prod_append]; simp
          have hpl2 := plen_snoc xs y
          go_wp2_with (at_builtin; refine wpList_append_val rfl (.tmp 54) (.tmp 56) rfl Try.underlying32 info_nat rfl hrow rfl rfl (by have := HVL.out; omega) hszb ?_; intro v2 wb hrow2 hb2 HK)
          have hbb := hb.trans hb2
          refine (refProd_any _ _ xs.prod y _ (HK.out _ _ _ kw fw).1 (HK.out _ _ _ kx fvx).1 (by omega) (by omega) _ HP.out).mono ?_
          rintro e wc ⟨vw2, rfl, kw2, fw2, bc⟩
          have hnums2 := (hnums.snoc HK.out kx fvx).below bc
          have hvl2 : (vs ++ [Value.slice Ax (digs 4294967296 y).length cx]).length = k + 1 := by have := HVL.out; simp; omega
          have fw3 := fw2.far hrow2.under
          have hrow3 := hrow2.below bc
          have hbc := hbb.trans (bc.mono hbb.size)
          clear hrow hnums kw fw hb hszb hrow2 hb2 hbb
          go_wp2
          go_roundw
          case rel => exact ⟨k + 1, _, _, by omega, by omega, hvl2, hrow3, hnums2, kw2, fw3, by omega, hbc, by go_num⟩
          case measure => simp [intOf]; omega
        · have hend : (k < nn ∧ ¬ k < 6) ∨ ¬ k < nn := by omega
          have HVL := Lib.hid hvl
          clear hvl hlt
          replace k_p := k_p.below hb
          replace k_r := k_r.below hb
          have hV := RowV.isV hrow
          have hN := hnums.1
          rcases hend with ⟨he1, he2⟩ | he1
          all_goals
            replace B := hB
            go_wp2_with fail
            refine (same_one _ _ 0 _ k_p k_r).mono ?_
            rintro e w4 ⟨rfl, b4⟩
            replace B := B.trans (b4.mono B.size)
            replace k_p := k_p.below b4
            replace k_r := k_r.below b4
            replace kw := kw.below b4
            replace hV := hV.below b4
            replace hN := hN.below b4
            go_wp2_with fail
            refine (product_any _ _ vs xs _ rfl (by have := HVL.out; omega) (by omega) hV hN).mono ?_
            rintro e w5 ⟨pr, rfl, k_pr, f_pr, b5⟩
            replace B := B.trans (b5.mono B.size)
            replace k_p := k_p.below b5
            replace k_r := k_r.below b5
            replace kw := kw.below b5
            replace hV := hV.below b5
            replace hN := hN.below b5
            go_wp2_with fail
            refine (same_one _ _ xs.prod _ k_pr kw).mono ?_
            rintro e w6 ⟨rfl, b6⟩
            replace B := B.trans (b6.mono B.size)
            replace k_p := k_p.below b6
            replace k_r := k_r.below b6
            replace kw := kw.below b6
            replace hV := hV.below b6
            replace hN := hN.below b6
            replace k_pr := k_pr.below b6
            go_wp2_with fail
            refine (works3_any _).mono ?_
            rintro e w7 ⟨rfl, b7⟩
            replace B := B.trans (b7.mono B.size)
            replace k_p := k_p.below b7
            replace k_r := k_r.below b7
            replace kw := kw.below b7
            replace hV := hV.below b7
            replace hN := hN.below b7
            replace k_pr := k_pr.below b7
            go_wp2
            go_ret
            exact ⟨rfl, B⟩
  · obtain ⟨n, rfl⟩ := Int.eq_ofNat_of_zero_le hc
    have hn4 : n ≤ 30 := by omega
    have B : Below w.heap.size w w := Below.refl _ _
    go_enter Try.func5, Try.ntmps5
    go_wp2_with fail
    refine (clean_any v0 l0 _ 3 _ rfl (h0.below B) u0 (by omega)).mono ?_
    rintro e w1 ⟨c0, rfl, k_c0, f_c0, b1⟩
    replace B := B.trans (b1.mono B.size)
    obtain ⟨x, hxx⟩ : ∃ x, x = cleaned l0 3 := ⟨_, rfl⟩
    have mx := cleaned_len l0 3
    rw [← hxx] at k_c0 mx
    clear hxx
    have hxn : (digs 4294967296 x).length * n ≤ 3 * 30 := Nat.mul_le_mul mx hn4
    go_wp2_with fail
    refine (pow_ok _ x _ n _ rfl (by omega) (by omega) (by omega) k_c0).mono ?_
    rintro e w2 ⟨p, rfl, k_p, f_p, b2⟩
    replace B := B.trans (b2.mono B.size)
    replace k_c0 := k_c0.below b2
    go_wp2_with fail
    refine (refPow_ok _ x _ n _ rfl (by omega) (by omega) (by omega) k_c0).mono ?_
    rintro e w3 ⟨r, rfl, k_r, f_r, b3⟩
    replace B := B.trans (b3.mono B.size)
    replace k_c0 := k_c0.below b3
    replace k_p := k_p.below b3
    go_wp2
    go_loopw [11, 12, 13] (fun vo vw vi wr => ∃ (k : Nat) (vs : List Value) (xs : List Nat), k ≤ 6 ∧ k ≤ nn ∧ vs.length = k ∧ RowV wr w3.heap.size 23 vo vs ∧ NumsFar wr vo vs xs ∧ IsS wr .u64 vw (digs 4294967296 xs.prod) ∧ Far vo vw ∧ plen xs ≤ 6 * k ∧ Below w3.heap.size w3 wr ∧ vi = .int .i64 (k : Int)) (fun _ _ vi _ => nn - (intOf vi).toNat)
    case atStart =>
      refine ⟨0, [], [], by omega, by omega, rfl, (rowV_lit0 w3 w3.heap.size _ (Nat.le_refl _)).below (below_alloc (Nat.le_refl _) _), NumsFar.nil _ _, ?_, ?_, by simp [plen], below_alloc (Nat.le_refl _) _ |>.alloc (by simp) _, rfl⟩
      · rw [List.prod_nil, E1.out]; exact lit1_at _ _ _ (d := 1) rfl (by simp)
      · exact (fresh_at (Nat.le_refl _)).far (fun g hg => by simp [Value.ownBlock] at hg; omega)
    case round =>
      obtain ⟨k, vs, xs, hk6, hkn, hvl, hrow, hnums, kw, fw, hpl, hb, rfl⟩ := hrel
      have hB := B.trans (hb.mono B.size)
      have hpr := prod_len xs
      by_cases hlt : k < nn ∧ k < 6
      · obtain ⟨hlt1, hlt2⟩ := hlt
        obtain ⟨ad, u, lu, rfl, hcell, hu, hul⟩ := HA.out k hlt1
        replace hcell := (hB.cell (World.block_lt_of_cell? w _ hcell)).trans hcell
        replace hu := hu.below hB
        obtain ⟨Au, cu, rfl, _⟩ := id hu
        have HVL := Lib.hid hvl
        clear hvl
        go_wp2_with fail
        refine (clean_any _ lu _ 6 _ rfl hu hul (by omega)).mono ?_
        rintro e wa ⟨vx, rfl, kx, fx, ba⟩
        obtain ⟨y, hy⟩ : ∃ y, y = cleaned lu 6 := ⟨_, rfl⟩
        have my := cleaned_len lu 6
        rw [← hy] at kx my
        clear hy
        have fvx := fx.far hrow.under
        replace hrow := hrow.below ba
        replace hnums := hnums.below ba
        replace kw := kw.below ba
        replace hb := hb.trans (ba.mono hb.size)
        have hszb := hb.size
        obtain ⟨Ax, cx, rfl, _⟩ := id kx
        have HP : Hid ((xs ++ [y]).prod = xs.prod * y) := by show _ = _; rw [List.prod_append]; simp
        have hpl2 := plen_snoc xs y
        go_wp2_with (at_builtin; refine wpList_append_val rfl (.tmp 54) (.tmp 56) rfl Try.underlying32 info_nat rfl hrow rfl rfl (by have := HVL.out; omega) hszb ?_; intro v2 wb hrow2 hb2 HK)
        have hbb := hb.trans hb2
        refine (refProd_any _ _ xs.prod y _ (HK.out _ _ _ kw fw).1 (HK.out _ _ _ kx fvx).1 (by omega) (by omega) _ HP.out).mono ?_
        rintro e wc ⟨vw2, rfl, kw2, fw2, bc⟩
        have hnums2 := (hnums.snoc HK.out kx fvx).below bc
        have hvl2 : (vs ++ [Value.slice Ax (digs 4294967296 y).length cx]).length = k + 1 := by have := HVL.out; simp; omega
        have fw3 := fw2.far hrow2.under
        have hrow3 := hrow2.below bc
        have hbc := hbb.trans (bc.mono hbb.size)
        clear hrow hnums kw fw hb hszb hrow2 hb2 hbb
        go_wp2
        go_roundw
        case rel => exact ⟨k + 1, _, _, by omega, by omega, hvl2, hrow3, hnums2, kw2, fw3, by omega, hbc, by go_num⟩
        case measure => simp [intOf]; omega
      · have hend : (k < nn ∧ ¬ k < 6) ∨ ¬ k < nn := by omega
        have HVL := Lib.hid hvl
        clear hvl hlt
        replace k_p := k_p.below hb
        replace k_r := k_r.below hb
        have hV := RowV.isV hrow
        have hN := hnums.1
        rcases hend with ⟨he1, he2⟩ | he1
        all_goals
          replace B := hB
          go_wp2_with fail
          refine (same_one _ _ (x ^ n) _ k_p k_r).mono ?_
          rintro e w4 ⟨rfl, b4⟩
          replace B := B.trans (b4.mono B.size)
          replace k_p := k_p.below b4
          replace k_r := k_r.below b4
          replace kw := kw.below b4
          replace hV := hV.below b4
          replace hN := hN.below b4
          go_wp2_with fail
          refine (product_any _ _ vs xs _ rfl (by have := HVL.out; omega) (by omega) hV hN).mono ?_
          rintro e w5 ⟨pr, rfl, k_pr, f_pr, b5⟩
          replace B := B.trans (b5.mono B.size)
          replace k_p := k_p.below b5
          replace k_r := k_r.below b5
          replace kw := kw.below b5
          replace hV := hV.below b5
          replace hN := hN.below b5
          go_wp2_with fail
          refine (same_one _ _ xs.prod _ k_pr kw).mono ?_
          rintro e w6 ⟨rfl, b6⟩
          replace B := B.trans (b6.mono B.size)
          replace k_p := k_p.below b6
          replace k_r := k_r.below b6
          replace kw := kw.below b6
          replace hV := hV.below b6
          replace hN := hN.below b6
          replace k_pr := k_pr.below b6
          go_wp2_with fail
          refine (works3_any _).mono ?_
          rintro e w7 ⟨rfl, b7⟩
          replace B := B.trans (b7.mono B.size)
          replace k_p := k_p.below b7
          replace k_r := k_r.below b7
          replace kw := kw.below b7
          replace hV := hV.below b7
          replace hN := hN.below b7
          replace k_pr := k_pr.below b7
          go_wp2
          go_ret
          exact ⟨rfl, B⟩
  · obtain ⟨n, hn⟩ : ∃ n : Nat, (n : Int) = a1 % 31 := ⟨(a1 % 31).toNat, by omega⟩
    have hn4 : n ≤ 30 := by omega
    have HN : Hid (a1 % 31 = (n : Int)) := hn.symm
    clear hn
    have B : Below w.heap.size w w := Below.refl _ _
    go_enter Try.func5, Try.ntmps5
    go_wp2_with fail
    refine (clean_any v0 l0 _ 3 _ rfl (h0.below B) u0 (by omega)).mono ?_
    rintro e w1 ⟨c0, rfl, k_c0, f_c0, b1⟩
    replace B := B.trans (b1.mono B.size)
    obtain ⟨x, hxx⟩ : ∃ x, x = cleaned l0 3 := ⟨_, rfl⟩
    have mx := cleaned_len l0 3
    rw [← hxx] at k_c0 mx
    clear hxx
    have hxn : (digs 4294967296 x).length * n ≤ 3 * 30 := Nat.mul_le_mul mx hn4
    go_wp2_with fail
    refine (pow_ok _ x _ n _ HN.out (by omega) (by omega) (by omega) k_c0).mono ?_
    rintro e w2 ⟨p, rfl, k_p, f_p, b2⟩
    replace B := B.trans (b2.mono B.size)
    replace k_c0 := k_c0.below b2
    go_wp2_with fail
    refine (refPow_ok _ x _ n _ HN.out (by omega) (by omega) (by omega) k_c0).mono ?_
    rintro e w3 ⟨r, rfl, k_r, f_r, b3⟩
    replace B := B.trans (b3.mono B.size)
    replace k_c0 := k_c0.below b3
    replace k_p := k_p.below b3
    go_wp2
    go_loopw [11, 12, 13] (fun vo vw vi wr => ∃ (k : Nat) (vs : List Value) (xs : List Nat), k ≤ 6 ∧ k ≤ nn ∧ vs.length = k ∧ RowV wr w3.heap.size 23 vo vs ∧ NumsFar wr vo vs xs ∧ IsS wr .u64 vw (digs 4294967296 xs.prod) ∧ Far vo vw ∧ plen xs ≤ 6 * k ∧ Below w3.heap.size w3 wr ∧ vi = .int .i64 (k : Int)) (fun _ _ vi _ => nn - (intOf vi).toNat)
    case atStart =>
      refine ⟨0, [], [], by omega, by omega, rfl, (rowV_lit0 w3 w3.heap.size _ (Nat.le_refl _)).below (below_alloc (Nat.le_refl _) _), NumsFar.nil _ _, ?_, ?_, by simp [plen], below_alloc (Nat.le_refl _) _ |>.alloc (by simp) _, rfl⟩
      · rw [List.prod_nil, E1.out]; exact lit1_at _ _ _ (d := 1) rfl (by simp)
      · exact (fresh_at (Nat.le_refl _)).far (fun g hg => by simp [Value.ownBlock] at hg; omega)
    case round =>
      obtain ⟨k, vs, xs, hk6, hkn, hvl, hrow, hnums, kw, fw, hpl, hb, rfl⟩ := hrel
      have hB := B.trans (hb.mono B.size)
      have hpr := prod_len xs
      by_cases hlt : k < nn ∧ k < 6
      · obtain ⟨hlt1, hlt2⟩ := hlt
        obtain ⟨ad, u, lu, rfl, hcell, hu, hul⟩ := HA.out k hlt1
        replace hcell := (hB.cell (World.block_lt_of_cell? w _ hcell)).trans hcell
        replace hu := hu.below hB
        obtain ⟨Au, cu, rfl, _⟩ := id hu
        have HVL := Lib.hid hvl
        clear hvl
        go_wp2_with fail
        refine (clean_any _ lu _ 6 _ rfl hu hul (by omega)).mono ?_
        rintro e wa ⟨vx, rfl, kx, fx, ba⟩
        obtain ⟨y, hy⟩ : ∃ y, y = cleaned lu 6 := ⟨_, rfl⟩
        have my := cleaned_len lu 6
        rw [← hy] at kx my
        clear hy
        have fvx := fx.far hrow.under
        replace hrow := hrow.below ba
        replace hnums := hnums.below ba
        replace kw := kw.below ba
        replace hb := hb.trans (ba.mono hb.size)
        have hszb := hb.size
        obtain ⟨Ax, cx, rfl, _⟩ := id kx
        have HP : Hid ((xs ++ [y]).prod = xs.prod * y) := by show _ = _; rw [List.prod_append]; simp
        have hpl2 := plen_snoc xs y
        go_wp2_with (at_builtin; refine wpList_append_val rfl (.tmp 54) (.tmp 56) rfl Try.underlying32 info_nat rfl hrow rfl rfl (by have := HVL.out; omega) hszb ?_; intro v2 wb hrow2 hb2 HK)
        have hbb := hb.trans hb2
        refine (refProd_any _ _ xs.prod y _ (HK.out _ _ _ kw fw).1 (HK.out _ _ _ kx fvx).1 (by omega) (by omega) _ HP.out).mono ?_
        rintro e wc ⟨vw2, rfl, kw2, fw2, bc⟩
        have hnums2 := (hnums.snoc HK.out kx fvx).below bc
        have hvl2 : (vs ++ [Value.slice Ax (digs 4294967296 y).length cx]).length = k + 1 := by have := HVL.out; simp; omega
        have fw3 := fw2.far hrow2.under
        have hrow3 := hrow2.below bc
        have hbc := hbb.trans (bc.mono hbb.size)
        clear hrow hnums kw fw hb hszb hrow2 hb2 hbb
        go_wp2
        go_roundw
        case rel => exact ⟨k + 1, _, _, by omega, by omega, hvl2, hrow3, hnums2, kw2, fw3, by omega, hbc, by go_num⟩
        case measure => simp [intOf]; omega
      · have hend : (k < nn ∧ ¬ k < 6) ∨ ¬ k < nn := by omega
        have HVL := Lib.hid hvl
        clear hvl hlt
        replace k_p := k_p.below hb
        replace k_r := k_r.below hb
        have hV := RowV.isV hrow
        have hN := hnums.1
        rcases hend with ⟨he1, he2⟩ | he1
        all_goals
          replace B := hB
          go_wp2_with fail
          refine (same_one _ _ (x ^ n) _ k_p k_r).mono ?_
          rintro e w4 ⟨rfl, b4⟩
          replace B := B.trans (b4.mono B.size)
          replace k_p := k_p.below b4
          replace k_r := k_r.below b4
          replace kw := kw.below b4
          replace hV := hV.below b4
          replace hN := hN.below b4
          go_wp2_with fail
          refine (product_any _ _ vs xs _ rfl (by have := HVL.out; omega) (by omega) hV hN).mono ?_
          rintro e w5 ⟨pr, rfl, k_pr, f_pr, b5⟩
          replace B := B.trans (b5.mono B.size)
          replace k_p := k_p.below b5
          replace k_r := k_r.below b5
          replace kw := kw.below b5
          replace hV := hV.below b5
          replace hN := hN.below b5
          go_wp2_with fail
          refine (same_one _ _ xs.prod _ k_pr kw).mono ?_
          rintro e w6 ⟨rfl, b6⟩
          replace B := B.trans (b6.mono B.size)
          replace k_p := k_p.below b6
          replace k_r := k_r.below b6
          replace kw := kw.below b6
          replace hV := hV.below b6
          replace hN := hN.below b6
          replace k_pr := k_pr.below b6
          go_wp2_with fail
          refine (works3_any _).mono ?_
          rintro e w7 ⟨rfl, b7⟩
          replace B := B.trans (b7.mono B.size)
          replace k_p := k_p.below b7
          replace k_r := k_r.below b7
          replace kw := kw.below b7
          replace hV := hV.below b7
          replace hN := hN.below b7
          replace k_pr := k_pr.below b7
          go_wp2
          go_ret
          exact ⟨rfl, B⟩

set_option maxRecDepth 100000 in
theorem lifted (os : Os) (started : os.Started) (H : Type) (enc : TypeId × Value → H) :
    ReturnsInHanded {} Try.checked os 5 .any (Rows.mulPowersSpec.pre6 enc Try.prog Try.f5 Rows.mulPowersRow.domain false) (Rows.mulPowersSpec.post enc Try.prog Try.f5 false true false false) := by
  refine returnsInHanded_of_change (C := Try.checked) own started (by kernel_rfl) Try.func5
    (ChangeSpec.witness6 (enc := enc) (C := Try.checked) false ⟨#[], #[.slice none 0 0, .int .i64 0, .slice none 0 0], []⟩ 8 (by kernel_rfl) (by kernel_rfl) (by kernel_rfl) (by kernel_rfl)) ?_
  intro W base args ds gs before hval0 hW hcnd _
  have hval : ∀ (j : Nat) t v, Try.f5.params[j]? = some t → args[j]? = some v → Value.okWide Try.prog W .any base t v := hval0
  have hW' := hW
  obtain ⟨p, q, hA0, hV, rfl, hfz, hnd⟩ := hW
  have hA : DataW.TrodAll enc Try.prog W 0 (fun _ => true) true Try.f5.params.toList args.toList ds p := hA0
  rw [Try.params5] at hA hval
  obtain ⟨v0, vs0, d0, ds0, p0, q0, hargs, rfl, rfl, t0, r0⟩ := trodAll_cons hA
  obtain ⟨v1, vs1, d1, ds1, p1, q1, rfl, rfl, rfl, t1, r1⟩ := trodAll_cons r0
  obtain ⟨v2, vs2, d2, ds2, p2, q2, rfl, rfl, rfl, t2, r2⟩ := trodAll_cons r1
  obtain ⟨rfl, rfl, rfl⟩ := trodAll_nil r2
  obtain rfl : args = #[v0, v1, v2] := by cases args; simp_all
  obtain ⟨rfl, rfl⟩ := trodVars_none hV
  obtain ⟨l0, hs0, hu0⟩ := arg_nat Try.underlying23 Try.underlying29 cells_u (hval 0 23 v0 rfl rfl) t0
  obtain ⟨a1, rfl, hd1, hp1, wf1⟩ := open_int Try.underlying3 (hval 1 3 v1 rfl rfl) t1
  have hs2 := arg_list Try.underlying32 Try.underlying23 Try.underlying29 cells_n cells_u (hval 2 32 v2 rfl rfl) t2
  clear hA0 hval0
  simp only [List.append_nil] at hW'
  have hlt0 : ∀ x ∈ p0, x.block < W.heap.size := fun x hx => hW'.lt x (List.mem_append_left _ hx)
  have hlt1 : ∀ x ∈ p1, x.block < W.heap.size := fun x hx => hW'.lt x (List.mem_append_right _ (List.mem_append_left _ hx))
  have hlt2 : ∀ x ∈ p2, x.block < W.heap.size := fun x hx => hW'.lt x (List.mem_append_right _ (List.mem_append_right _ (hx)))
  refine (walk v0 l0 a1 v2 W hs0 hu0 wf1 hs2).mono fun e W' ⟨he, hb⟩ => ?_
  subst he
  have s0 := Below.trod laidOut (by kernel_rfl) (of_decide_eq_true (by kernel_rfl)) t0 hb hlt0
  have s1 := Below.trod laidOut (by kernel_rfl) (of_decide_eq_true (by kernel_rfl)) t1 hb hlt1
  have s2 := Below.trod laidOut (by kernel_rfl) (of_decide_eq_true (by kernel_rfl)) t2 hb hlt2
  exact ⟨_, rfl, _, _, _, [] ++ [], _, [], hW', trodAll_cons_mk (shut_bool Try.underlying4 _) trodAll_mk0, trodAll_cons_mk s0 (trodAll_cons_mk s1 (trodAll_cons_mk s2 (trodAll_mk0))), rfl, hb.frame _, fun h => by cases h⟩

theorem over : Rows.mulPowersRow.holds Try.pinned (OpenSpec.ofChange Rows.mulPowersSpec) :=
  OpenClaim.holds_of_wide 5 Try.f5 rfl rfl rfl rfl rfl rfl rfl ⟨rfl, rfl, rfl, rfl, rfl⟩ rfl rfl rfl rfl rfl (by kernel_rfl) Try.func5 (by kernel_rfl)
    (of_decide_eq_true (by kernel_rfl)) (by unfold Func.isWrapper; first | (rw [if_pos (by decide +kernel)]; kernel_rfl) | (rw [if_neg (by decide +kernel)]; exact ⟨rfl, rfl⟩))
    (fun os started H enc _ => lifted os started H enc)

/-- The statement. -/
theorem proved : Rows.MulPowersSaid := over
end Go.Proofs.Ytaipahooepnfpaa.mulPowers
