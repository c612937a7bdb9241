/- Package rat: its own contracts, each said of fractions: Make, Of, Frac. Condition: as each says. -/
import Derived.Test.YtbebmknfecehnaaGreatRatP0
namespace Go.Proofs.YtbebmknfecehnaaGreat.rat
open Go.RowKit Go.Proofs.YtbebmknfecehnaaGreat.num Go.Proofs.YtbebmknfecehnaaGreat.mem Go.Proofs.YtbebmknfecehnaaGreat.nat Go.Proofs.YtbebmknfecehnaaGreat.txt Go.Proofs.YtbebmknfecehnaaGreat.str Go.Proofs.YtbebmknfecehnaaGreat.flow Go.Proofs.YtbebmknfecehnaaGreat.whl
set_option linter.unusedVariables false
set_option maxHeartbeats 1600000 in
set_option maxRecDepth 100000 in
theorem make8_ok (a0 : Value) (n : Int) (a1 : Value) (d : Int) (w : World) (h0 : IsZ w a0 n) (h1 : IsZ w a1 d) (hl : lenZ n ≤ 1000) (hl2 : lenZ d ≤ 1000) (hd : d ≠ 0) :
    Calls Tryz.prog 83 #[a0, a1] w (RetQF (Rat.divInt n d) 0 w) := by
  rcases hs1 : ngB d with _ | _
  · obtain ⟨u0, rfl, s0⟩ := h0
    obtain ⟨A0, c0, rfl, _⟩ := id s0
    obtain ⟨u1, rfl, s1⟩ := h1
    obtain ⟨A1, c1, rfl, _⟩ := id s1
    have HDN : Hid (d.natAbs ≠ 0) := by show _ ≠ _; omega
    obtain ⟨U, hU⟩ : ∃ U, U = (mkRat n d.natAbs).num := ⟨_, rfl⟩
    obtain ⟨L, hL⟩ : ∃ L, L = (mkRat n d.natAbs).den := ⟨_, rfl⟩
    have HUL : Hid (lenZ U ≤ 1000) := by show _ ≤ _; rw [hU]; exact (lenQ_mk HDN.out hl hl2).1
    have HU := Lib.hid hU
    have HL := Lib.hid hL
    obtain ⟨Q, hQ⟩ : ∃ Q, Q = Rat.divInt n d := ⟨_, rfl⟩
    have HQ0 : Hid (Rat.divInt n d = Q) := hQ.symm
    have HQ : Hid (Q = mkRat n d.natAbs) := by show _ = _; rw [hQ]; exact divInt_gt (by have := ngB_false hs1; omega)
    have HQN : Hid (Q.num = U) := by show _ = _; rw [HQ.out, ← hU]
    have HQD : Hid (Q.den = L) := by show _ = _; rw [HQ.out, ← hL]
    have HS : Hid ((1 : Int) = ordz d 0) := (ordz_gt (by have := ngB_false hs1; omega)).symm
    clear hU hL hQ
    go_enter Tryz.func83, Tryz.ntmps83
    go_upto_region 1 with (fail)
    obtain ⟨wx, hwx, bb, B0, B1, BR0, hsz⟩ := vars3 w 25 25 27 #[.bool (ngB n), .slice A0 (digs 4294967296 (n).natAbs).length c0] #[.bool false, .slice A1 (digs 4294967296 (d).natAbs).length c1] #[.bool false, .slice none 0 0, .slice none 0 0]
    rw [hwx]
    clear hwx
    have k0s := s0.below bb
    have k0 : IsZ wx (.agg #[.bool (ngB n), .slice A0 (digs 4294967296 (n).natAbs).length c0]) (n) := isZ_mk k0s rfl rfl
    have k1s := s1.below bb
    have k1 : IsZ wx (.agg #[.bool false, .slice A1 (digs 4294967296 (d).natAbs).length c1]) (d) := isZ_mk k1s rfl hs1.symm
    have hsz0 := bb.size
    have sB := bb.size
    refine flowp 3 [Pd.eq (.agg #[.bool false, .slice A1 (digs 4294967296 (d).natAbs).length c1]), Pd.eq (.int .i64 1), Pd.eq (.bool false)] (by kernel_rfl) ?ob8 ?done8
    case ob8 =>
      refine And.intro (ob_load rfl (wt_none rfl) (ev_far rfl rfl) (fun w2 hb => run_loadAll Tryz.underlying25 rfl (by kernel_rfl) (B1.below hb)) (fun _ _ => rfl)) ?_
      refine And.intro (ob_call1 rfl Tryz.func50 (by kernel_rfl) (wt_none rfl) (ev_dep (j := 0) (by kernel_rfl) rfl rfl) (fun w2 u0 hb h0 => by obtain rfl := h0; exact (sign_any _ d 1 _ (k1.below hb) HS.out).mono fun e w3 h => RetV.pd h)) ?_
      refine And.intro (ob_bin rfl (wt_none rfl) (ev_dep (j := 1) (by kernel_rfl) rfl rfl) (ev_const _) (fun _ _ _ hx hy => ⟨.bool ((1 : Int) == 0), by rw [hx, hy]; exact bin_eql_int _ _ _ _ _, congrArg Value.bool (by decide)⟩)) ?_
      trivial
    case done8 =>
      refine fun w1 hb1 v0 h0 v1 h1 v2 h2 b hbf => ?_
      obtain rfl := h0; obtain rfl := h1; obtain rfl := h2
      simp only [Act.put, List.setIfInBounds_toArray, List.set_cons_zero, List.set_cons_succ] at hbf
      subst hbf
      replace B0 := B0.below hb1
      replace k0s := k0s.below hb1
      replace k0 := k0.below hb1
      replace B1 := B1.below hb1
      replace k1s := k1s.below hb1
      replace k1 := k1.below hb1
      replace BR0 := BR0.below hb1
      replace bb := bb.trans (hb1.mono bb.size)
      have hsz1 := bb.size
      refine ops_done ?_
      have sB := bb.size
      go_upto_region 3 with (fail)
      have lt1_2 := Blk.lt B0
      have lt1_3 := Blk.lt B1
      have lt1_4 := Blk.lt BR0
      refine flowp 8 [Pd.eq (.agg #[.bool (ngB n), .slice A0 (digs 4294967296 (n).natAbs).length c0]), Pd.eq (.pointer (some ⟨w.heap.size + 1, 1, none⟩)), Pd.eq (.slice A1 (digs 4294967296 (d).natAbs).length c1), pzs (U) (L) w1.heap.size, pzs (U) (L) w1.heap.size, pz (U) w1.heap.size, ps .u64 (digs 4294967296 L) w1.heap.size, pn 25 #[.bool false, .slice none 0 0] w1.heap.size] (by kernel_rfl) ?ob9 ?done9
      case ob9 =>
        refine And.intro (ob_load rfl (wt_none rfl) (ev_far rfl rfl) (fun w2 hb => run_loadAll Tryz.underlying25 rfl (by kernel_rfl) (B0.below hb)) (fun _ _ => rfl)) ?_
        refine And.intro (ob_fieldAddr rfl (wt_none rfl) (ev_far rfl rfl) (fun _ => by kernel_rfl) (fun _ => rfl)) ?_
        refine And.intro (ob_load rfl (wt_none rfl) (ev_dep (j := 1) (by kernel_rfl) rfl rfl) (fun w2 hb => run_load1 Tryz.underlying23 rfl ((B1.below hb).cell 1)) (fun _ _ => rfl)) ?_
        refine And.intro (ob_call2 rfl Tryz.func42 (by kernel_rfl) (wt_none rfl) (ev_dep (j := 0) (by kernel_rfl) rfl rfl) (ev_dep (j := 2) (by kernel_rfl) rfl rfl) (fun w2 u0 u1 hb h0 h1 => by obtain rfl := h0; obtain rfl := h1; exact (reduced_any _ n _ d.natAbs U L _ (k0.below hb) (k1s.below hb) HDN.out (Nat.le_trans hl (by decide)) (Nat.le_trans hl2 (by decide)) HU.out HL.out).mono fun e w3 h => RetZS.pd h hb.size)) ?_
        refine And.intro (ob_move rfl (wt_none rfl) (ev_dep (j := 3) (by kernel_rfl) rfl rfl) (fun _ _ h => h)) ?_
        refine And.intro (ob_extract rfl (wt_none rfl) (ev_dep (j := 4) (by kernel_rfl) rfl rfl) (fun w2 u hu => by obtain ⟨v, u, rfl, q1, q2, q3, q4⟩ := hu; exact ⟨v, rfl, q1, q3⟩)) ?_
        refine And.intro (ob_extract rfl (wt_none rfl) (ev_dep (j := 4) (by kernel_rfl) rfl rfl) (fun w2 u hu => by obtain ⟨v, u, rfl, q1, q2, q3, q4⟩ := hu; exact ⟨u, rfl, q2, q4⟩)) ?_
        refine And.intro (ob_alloc (z := .agg #[.bool false, .slice none 0 0]) rfl rfl (fun _ => by kernel_rfl) (fun _ _ hB h => ⟨_, rfl, hB, h⟩)) ?_
        trivial
      case done9 =>
        refine fun w2 hb2 v0 h0 v1 h1 v2 h2 v3 h3 v4 h4 v5 h5 v6 h6 v7 h7 d7 b hbf => ?_
        obtain rfl := h0; obtain rfl := h1; obtain rfl := h2
        clear h3
        clear h4
        obtain ⟨q5, f5⟩ := h5
        obtain ⟨q6, f6⟩ := h6
        obtain ⟨g9_7, rfl, hg7, B7⟩ := h7
        simp only [Act.put, List.setIfInBounds_toArray, List.set_cons_zero, List.set_cons_succ] at hbf
        subst hbf
        replace B0 := B0.below hb2
        replace k0s := k0s.below hb2
        replace k0 := k0.below hb2
        replace B1 := B1.below hb2
        replace k1s := k1s.below hb2
        replace k1 := k1.below hb2
        replace BR0 := BR0.below hb2
        replace bb := bb.trans (hb2.mono bb.size)
        have hsz2 := bb.size
        have s_5 := sB
        have s_6 := sB
        obtain ⟨A18, c18, rfl, _⟩ := id q6
        have n18 := q6
        have n18f := f6
        have n18z_ := s_6
        have BA6 := B7
        obtain ⟨u5, rfl, q5⟩ := q5
        obtain ⟨A6, c6, rfl, _⟩ := id q5
        refine ops_store (i := 8) rfl rfl rfl rfl rfl rfl (cells := [.bool (ngB U), .slice A6 (digs 4294967296 (U).natAbs).length c6]) rfl BA6 rfl (by kernel_rfl) (one2 rfl rfl) fun w3 hg3 BN3 => ?_
        replace q5 := off q5 BA6 no_ints2 hg3
        replace n18 := off n18 BA6 no_ints2 hg3
        replace k0s := off k0s BA6 no_ints2 hg3
        replace k0 : IsZ w3 (.agg #[.bool (ngB n), .slice A0 (digs 4294967296 (n).natAbs).length c0]) (n) := ⟨_, rfl, k0s⟩
        replace B0 := B0.grown hg3 (by omega)
        replace k1s := off k1s BA6 no_ints2 hg3
        replace k1 : IsZ w3 (.agg #[.bool false, .slice A1 (digs 4294967296 (d).natAbs).length c1]) (d) := isZ_mk k1s rfl hs1.symm
        replace B1 := B1.grown hg3 (by omega)
        replace BR0 := BR0.grown hg3 (by omega)
        replace bb := bb.trans ((Below.refl _ _).grown hg3 bb.size (fun g hg => by injection hg with hg; omega))
        have hsz3 := bb.size
        have B6 : Blk w3 (g9_7) _ _ := BN3
        have k6s := q5
        have k6 : IsZ w3 (.agg #[.bool (ngB U), .slice A6 (digs 4294967296 (U).natAbs).length c6]) (U) := ⟨_, rfl, k6s⟩
        refine ops_assign (i := 9) (.slice A18 (digs 4294967296 L).length c18) rfl rfl rfl rfl rfl fun b hbf => ?_
        simp only [Act.put, List.setIfInBounds_toArray, List.set_cons_zero, List.set_cons_succ] at hbf
        subst hbf
        refine ops_done ?_
        have f6_ := (f5 _ _ rfl).mono s_5
        have sB := bb.size
        go_upto_region 4 with (fail)
        refine flowp 2 [Pd.eq (.pointer (some ⟨w.heap.size + 1, 0, none⟩)), Pd.eq (.bool false)] (by kernel_rfl) ?ob10 ?done10
        case ob10 =>
          refine And.intro (ob_fieldAddr rfl (wt_none rfl) (ev_far rfl rfl) (fun _ => by kernel_rfl) (fun _ => rfl)) ?_
          refine And.intro (ob_load rfl (wt_none rfl) (ev_dep (j := 0) (by kernel_rfl) rfl rfl) (fun w2 hb => run_load1 Tryz.underlying4 rfl ((B1.below hb).cell 0)) (fun _ _ => rfl)) ?_
          trivial
        case done10 =>
          refine fun w4 hb4 v0 h0 v1 h1 b hbf => ?_
          obtain rfl := h0; obtain rfl := h1
          simp only [Act.put, List.setIfInBounds_toArray, List.set_cons_zero, List.set_cons_succ] at hbf
          subst hbf
          replace B0 := B0.below hb4
          replace k0s := k0s.below hb4
          replace k0 := k0.below hb4
          replace B1 := B1.below hb4
          replace k1s := k1s.below hb4
          replace k1 := k1.below hb4
          replace BR0 := BR0.below hb4
          replace B6 := B6.below hb4
          replace k6s := k6s.below hb4
          replace k6 := k6.below hb4
          replace n18 := n18.below hb4
          replace bb := bb.trans (hb4.mono bb.size)
          have hsz4 := bb.size
          refine ops_done ?_
          have sB := bb.size
          go_upto_region 6 with (fail)
          refine flowp 3 [Pd.eq (.agg #[.bool (ngB U), .slice A6 (digs 4294967296 (U).natAbs).length c6]), Pd.eq (.slice A18 (digs 4294967296 L).length c18), Pd.eq (.agg #[.bool (ngB U), .slice A6 (digs 4294967296 (U).natAbs).length c6, .slice A18 (digs 4294967296 L).length c18])] (by kernel_rfl) ?ob11 ?done11
          case ob11 =>
            refine And.intro (ob_load rfl (wt_none rfl) (ev_far rfl rfl) (fun w2 hb => run_loadAll Tryz.underlying25 rfl (by kernel_rfl) (B6.below hb)) (fun _ _ => rfl)) ?_
            refine And.intro (ob_move rfl (wt_none rfl) (ev_far rfl rfl) (fun _ _ h => h)) ?_
            refine And.intro (ob_build2b rfl (wt_none rfl) (ev_dep (j := 0) (by kernel_rfl) rfl rfl) (ev_dep (j := 1) (by kernel_rfl) rfl rfl) (fun w2 u v hb hu hv => by obtain rfl := hu; obtain rfl := hv; exact ⟨.agg #[.bool (ngB U), .slice A6 (digs 4294967296 (U).natAbs).length c6, .slice A18 (digs 4294967296 L).length c18], by kernel_rfl, rfl⟩)) ?_
            trivial
          case done11 =>
            refine fun w5 hb5 v0 h0 v1 h1 v2 h2 b hbf => ?_
            obtain rfl := h0; obtain rfl := h1; obtain rfl := h2
            simp only [Act.put, List.setIfInBounds_toArray, List.set_cons_zero, List.set_cons_succ] at hbf
            subst hbf
            replace B0 := B0.below hb5
            replace k0s := k0s.below hb5
            replace k0 := k0.below hb5
            replace B1 := B1.below hb5
            replace k1s := k1s.below hb5
            replace k1 := k1.below hb5
            replace BR0 := BR0.below hb5
            replace B6 := B6.below hb5
            replace k6s := k6s.below hb5
            replace k6 := k6.below hb5
            replace n18 := n18.below hb5
            replace bb := bb.trans (hb5.mono bb.size)
            have hsz5 := bb.size
            refine ops_store (i := 3) rfl rfl rfl rfl rfl rfl (cells := [.bool (ngB U), .slice A6 (digs 4294967296 (U).natAbs).length c6, .slice A18 (digs 4294967296 L).length c18]) rfl BR0 rfl (by kernel_rfl) (one3 rfl rfl rfl) fun w9 hg9 B9 => ?_
            have k9 := off k6s BR0 no_ints3 hg9
            have d9 := off n18 BR0 no_ints3 hg9
            have bb9 := bb.trans ((Below.refl _ _).grown hg9 bb.size (fun g hg => by injection hg with hg; omega))
            obtain ⟨C0, C1, C2, _, _, _⟩ := three B9
            refine ops_assign (i := 4) (.int .i64 0) rfl rfl rfl rfl rfl fun b hbf => ?_
            simp only [Act.put, List.setIfInBounds_toArray, List.set_cons_zero, List.set_cons_succ] at hbf
            subst hbf
            refine ops_done ?_
            go_wp2
            rw [HQ0.out]
            exact bodyPost_ret (v := .tuple #[.agg #[.bool (ngB U), .slice A6 (digs 4294967296 (U).natAbs).length c6, .slice A18 (digs 4294967296 L).length c18], .int .i64 0]) (by simp [results, Tryz.results83, go_sem, C0, C1, C2]) rfl ⟨_, rfl, isQ_mk k9 d9 (by rw [HQN.out]) (by rw [HQN.out]) HQD.out, freshQ_mk f6_ (n18f.mono n18z_), bb9⟩
  · obtain ⟨u0, rfl, s0⟩ := h0
    obtain ⟨A0, c0, rfl, _⟩ := id s0
    obtain ⟨u1, rfl, s1⟩ := h1
    obtain ⟨A1, c1, rfl, _⟩ := id s1
    have HDN : Hid (d.natAbs ≠ 0) := by show _ ≠ _; omega
    obtain ⟨U, hU⟩ : ∃ U, U = (mkRat n d.natAbs).num := ⟨_, rfl⟩
    obtain ⟨L, hL⟩ : ∃ L, L = (mkRat n d.natAbs).den := ⟨_, rfl⟩
    have HUL : Hid (lenZ U ≤ 1000) := by show _ ≤ _; rw [hU]; exact (lenQ_mk HDN.out hl hl2).1
    have HU := Lib.hid hU
    have HL := Lib.hid hL
    obtain ⟨Q, hQ⟩ : ∃ Q, Q = Rat.divInt n d := ⟨_, rfl⟩
    have HQ0 : Hid (Rat.divInt n d = Q) := hQ.symm
    have HQ : Hid (Q = -mkRat n d.natAbs) := by show _ = _; rw [hQ, divInt_lt (ngB_true hs1)]; exact neg_make n d.natAbs HDN.out
    have HQN : Hid (Q.num = -U) := by show _ = _; rw [HQ.out, (neg_parts _).1, ← hU]
    have HQD : Hid (Q.den = L) := by show _ = _; rw [HQ.out, (neg_parts _).2, ← hL]
    have HS : Hid ((-1 : Int) = ordz d 0) := (ordz_lt (ngB_true hs1)).symm
    clear hU hL hQ
    go_enter Tryz.func83, Tryz.ntmps83
    go_upto_region 1 with (fail)
    obtain ⟨wx, hwx, bb, B0, B1, BR0, hsz⟩ := vars3 w 25 25 27 #[.bool (ngB n), .slice A0 (digs 4294967296 (n).natAbs).length c0] #[.bool true, .slice A1 (digs 4294967296 (d).natAbs).length c1] #[.bool false, .slice none 0 0, .slice none 0 0]
    rw [hwx]
    clear hwx
    have k0s := s0.below bb
    have k0 : IsZ wx (.agg #[.bool (ngB n), .slice A0 (digs 4294967296 (n).natAbs).length c0]) (n) := isZ_mk k0s rfl rfl
    have k1s := s1.below bb
    have k1 : IsZ wx (.agg #[.bool true, .slice A1 (digs 4294967296 (d).natAbs).length c1]) (d) := isZ_mk k1s rfl hs1.symm
    have hsz0 := bb.size
    have sB := bb.size
    refine flowp 3 [Pd.eq (.agg #[.bool true, .slice A1 (digs 4294967296 (d).natAbs).length c1]), Pd.eq (.int .i64 (-1)), Pd.eq (.bool false)] (by kernel_rfl) ?ob12 ?done12
    case ob12 =>
      refine And.intro (ob_load rfl (wt_none rfl) (ev_far rfl rfl) (fun w2 hb => run_loadAll Tryz.underlying25 rfl (by kernel_rfl) (B1.below hb)) (fun _ _ => rfl)) ?_
      refine And.intro (ob_call1 rfl Tryz.func50 (by kernel_rfl) (wt_none rfl) (ev_dep (j := 0) (by kernel_rfl) rfl rfl) (fun w2 u0 hb h0 => by obtain rfl := h0; exact (sign_any _ d (-1) _ (k1.below hb) HS.out).mono fun e w3 h => RetV.pd h)) ?_
      refine And.intro (ob_bin rfl (wt_none rfl) (ev_dep (j := 1) (by kernel_rfl) rfl rfl) (ev_const _) (fun _ _ _ hx hy => ⟨.bool ((-1 : Int) == 0), by rw [hx, hy]; exact bin_eql_int _ _ _ _ _, congrArg Value.bool (by decide)⟩)) ?_
      trivial
    case done12 =>
      refine fun w1 hb1 v0 h0 v1 h1 v2 h2 b hbf => ?_
      obtain rfl := h0; obtain rfl := h1; obtain rfl := h2
      simp only [Act.put, List.setIfInBounds_toArray, List.set_cons_zero, List.set_cons_succ] at hbf
      subst hbf
      replace B0 := B0.below hb1
      replace k0s := k0s.below hb1
      replace k0 := k0.below hb1
      replace B1 := B1.below hb1
      replace k1s := k1s.below hb1
      replace k1 := k1.below hb1
      replace BR0 := BR0.below hb1
      replace bb := bb.trans (hb1.mono bb.size)
      have hsz1 := bb.size
      refine ops_done ?_
      have sB := bb.size
      go_upto_region 3 with (fail)
      have lt1_2 := Blk.lt B0
      have lt1_3 := Blk.lt B1
      have lt1_4 := Blk.lt BR0
      refine flowp 8 [Pd.eq (.agg #[.bool (ngB n), .slice A0 (digs 4294967296 (n).natAbs).length c0]), Pd.eq (.pointer (some ⟨w.heap.size + 1, 1, none⟩)), Pd.eq (.slice A1 (digs 4294967296 (d).natAbs).length c1), pzs (U) (L) w1.heap.size, pzs (U) (L) w1.heap.size, pz (U) w1.heap.size, ps .u64 (digs 4294967296 L) w1.heap.size, pn 25 #[.bool false, .slice none 0 0] w1.heap.size] (by kernel_rfl) ?ob13 ?done13
      case ob13 =>
        refine And.intro (ob_load rfl (wt_none rfl) (ev_far rfl rfl) (fun w2 hb => run_loadAll Tryz.underlying25 rfl (by kernel_rfl) (B0.below hb)) (fun _ _ => rfl)) ?_
        refine And.intro (ob_fieldAddr rfl (wt_none rfl) (ev_far rfl rfl) (fun _ => by kernel_rfl) (fun _ => rfl)) ?_
        refine And.intro (ob_load rfl (wt_none rfl) (ev_dep (j := 1) (by kernel_rfl) rfl rfl) (fun w2 hb => run_load1 Tryz.underlying23 rfl ((B1.below hb).cell 1)) (fun _ _ => rfl)) ?_
        refine And.intro (ob_call2 rfl Tryz.func42 (by kernel_rfl) (wt_none rfl) (ev_dep (j := 0) (by kernel_rfl) rfl rfl) (ev_dep (j := 2) (by kernel_rfl) rfl rfl) (fun w2 u0 u1 hb h0 h1 => by obtain rfl := h0; obtain rfl := h1; exact (reduced_any _ n _ d.natAbs U L _ (k0.below hb) (k1s.below hb) HDN.out (Nat.le_trans hl (by decide)) (Nat.le_trans hl2 (by decide)) HU.out HL.out).mono fun e w3 h => RetZS.pd h hb.size)) ?_
        refine And.intro (ob_move rfl (wt_none rfl) (ev_dep (j := 3) (by kernel_rfl) rfl rfl) (fun _ _ h => h)) ?_
        refine And.intro (ob_extract rfl (wt_none rfl) (ev_dep (j := 4) (by kernel_rfl) rfl rfl) (fun w2 u hu => by obtain ⟨v, u, rfl, q1, q2, q3, q4⟩ := hu; exact ⟨v, rfl, q1, q3⟩)) ?_
        refine And.intro (ob_extract rfl (wt_none rfl) (ev_dep (j := 4) (by kernel_rfl) rfl rfl) (fun w2 u hu => by obtain ⟨v, u, rfl, q1, q2, q3, q4⟩ := hu; exact ⟨u, rfl, q2, q4⟩)) ?_
        refine And.intro (ob_alloc (z := .agg #[.bool false, .slice none 0 0]) rfl rfl (fun _ => by kernel_rfl) (fun _ _ hB h => ⟨_, rfl, hB, h⟩)) ?_
        trivial
      case done13 =>
        refine fun w2 hb2 v0 h0 v1 h1 v2 h2 v3 h3 v4 h4 v5 h5 v6 h6 v7 h7 d7 b hbf => ?_
        obtain rfl := h0; obtain rfl := h1; obtain rfl := h2
        clear h3
        clear h4
        obtain ⟨q5, f5⟩ := h5
        obtain ⟨q6, f6⟩ := h6
        obtain ⟨g13_7, rfl, hg7, B7⟩ := h7
        simp only [Act.put, List.setIfInBounds_toArray, List.set_cons_zero, List.set_cons_succ] at hbf
        subst hbf
        replace B0 := B0.below hb2
        replace k0s := k0s.below hb2
        replace k0 := k0.below hb2
        replace B1 := B1.below hb2
        replace k1s := k1s.below hb2
        replace k1 := k1.below hb2
        replace BR0 := BR0.below hb2
        replace bb := bb.trans (hb2.mono bb.size)
        have hsz2 := bb.size
        have s_5 := sB
        have s_6 := sB
        obtain ⟨A18, c18, rfl, _⟩ := id q6
        have n18 := q6
        have n18f := f6
        have n18z_ := s_6
        have BA6 := B7
        obtain ⟨u5, rfl, q5⟩ := q5
        obtain ⟨A6, c6, rfl, _⟩ := id q5
        refine ops_store (i := 8) rfl rfl rfl rfl rfl rfl (cells := [.bool (ngB U), .slice A6 (digs 4294967296 (U).natAbs).length c6]) rfl BA6 rfl (by kernel_rfl) (one2 rfl rfl) fun w3 hg3 BN3 => ?_
        replace q5 := off q5 BA6 no_ints2 hg3
        replace n18 := off n18 BA6 no_ints2 hg3
        replace k0s := off k0s BA6 no_ints2 hg3
        replace k0 : IsZ w3 (.agg #[.bool (ngB n), .slice A0 (digs 4294967296 (n).natAbs).length c0]) (n) := ⟨_, rfl, k0s⟩
        replace B0 := B0.grown hg3 (by omega)
        replace k1s := off k1s BA6 no_ints2 hg3
        replace k1 : IsZ w3 (.agg #[.bool true, .slice A1 (digs 4294967296 (d).natAbs).length c1]) (d) := isZ_mk k1s rfl hs1.symm
        replace B1 := B1.grown hg3 (by omega)
        replace BR0 := BR0.grown hg3 (by omega)
        replace bb := bb.trans ((Below.refl _ _).grown hg3 bb.size (fun g hg => by injection hg with hg; omega))
        have hsz3 := bb.size
        have B6 : Blk w3 (g13_7) _ _ := BN3
        have k6s := q5
        have k6 : IsZ w3 (.agg #[.bool (ngB U), .slice A6 (digs 4294967296 (U).natAbs).length c6]) (U) := ⟨_, rfl, k6s⟩
        refine ops_assign (i := 9) (.slice A18 (digs 4294967296 L).length c18) rfl rfl rfl rfl rfl fun b hbf => ?_
        simp only [Act.put, List.setIfInBounds_toArray, List.set_cons_zero, List.set_cons_succ] at hbf
        subst hbf
        refine ops_done ?_
        have f6_ := (f5 _ _ rfl).mono s_5
        have sB := bb.size
        go_upto_region 4 with (fail)
        refine flowp 2 [Pd.eq (.pointer (some ⟨w.heap.size + 1, 0, none⟩)), Pd.eq (.bool true)] (by kernel_rfl) ?ob14 ?done14
        case ob14 =>
          refine And.intro (ob_fieldAddr rfl (wt_none rfl) (ev_far rfl rfl) (fun _ => by kernel_rfl) (fun _ => rfl)) ?_
          refine And.intro (ob_load rfl (wt_none rfl) (ev_dep (j := 0) (by kernel_rfl) rfl rfl) (fun w2 hb => run_load1 Tryz.underlying4 rfl ((B1.below hb).cell 0)) (fun _ _ => rfl)) ?_
          trivial
        case done14 =>
          refine fun w4 hb4 v0 h0 v1 h1 b hbf => ?_
          obtain rfl := h0; obtain rfl := h1
          simp only [Act.put, List.setIfInBounds_toArray, List.set_cons_zero, List.set_cons_succ] at hbf
          subst hbf
          replace B0 := B0.below hb4
          replace k0s := k0s.below hb4
          replace k0 := k0.below hb4
          replace B1 := B1.below hb4
          replace k1s := k1s.below hb4
          replace k1 := k1.below hb4
          replace BR0 := BR0.below hb4
          replace B6 := B6.below hb4
          replace k6s := k6s.below hb4
          replace k6 := k6.below hb4
          replace n18 := n18.below hb4
          replace bb := bb.trans (hb4.mono bb.size)
          have hsz4 := bb.size
          refine ops_done ?_
          have sB := bb.size
          go_upto_region 5 with (fail)
          refine flowp 2 [Pd.eq (.agg #[.bool (ngB U), .slice A6 (digs 4294967296 (U).natAbs).length c6]), pz ((-U)) w4.heap.size] (by kernel_rfl) ?ob15 ?done15
          case ob15 =>
            refine And.intro (ob_load rfl (wt_none rfl) (ev_far rfl rfl) (fun w2 hb => run_loadAll Tryz.underlying25 rfl (by kernel_rfl) (B6.below hb)) (fun _ _ => rfl)) ?_
            refine And.intro (ob_call1 rfl Tryz.func59 (by kernel_rfl) (wt_none rfl) (ev_dep (j := 0) (by kernel_rfl) rfl rfl) (fun w2 u0 hb h0 => by obtain rfl := h0; exact (zneg_any _ U _ (k6.below hb) (Nat.le_trans HUL.out (by decide))).mono fun e w3 h => RetZ.pd h hb.size)) ?_
            trivial
          case done15 =>
            refine fun w5 hb5 v0 h0 v1 h1 b hbf => ?_
            obtain rfl := h0
            obtain ⟨q1, f1⟩ := h1
            simp only [Act.put, List.setIfInBounds_toArray, List.set_cons_zero, List.set_cons_succ] at hbf
            subst hbf
            replace B0 := B0.below hb5
            replace k0s := k0s.below hb5
            replace k0 := k0.below hb5
            replace B1 := B1.below hb5
            replace k1s := k1s.below hb5
            replace k1 := k1.below hb5
            replace BR0 := BR0.below hb5
            replace B6 := B6.below hb5
            replace k6s := k6s.below hb5
            replace k6 := k6.below hb5
            replace n18 := n18.below hb5
            replace bb := bb.trans (hb5.mono bb.size)
            have hsz5 := bb.size
            have s_1 := sB
            obtain ⟨u1, rfl, q1⟩ := q1
            obtain ⟨A6n, c6n, rfl, _⟩ := id q1
            refine ops_store (i := 2) rfl rfl rfl rfl rfl rfl (cells := [.bool (ngB (-U)), .slice A6n (digs 4294967296 ((-U)).natAbs).length c6n]) rfl B6 rfl (by kernel_rfl) (one2 rfl rfl) fun w6 hg6 BN6 => ?_
            replace q1 := off q1 B6 no_ints2 hg6
            replace n18 := off n18 B6 no_ints2 hg6
            replace k0s := off k0s B6 no_ints2 hg6
            replace k0 : IsZ w6 (.agg #[.bool (ngB n), .slice A0 (digs 4294967296 (n).natAbs).length c0]) (n) := ⟨_, rfl, k0s⟩
            replace B0 := B0.grown hg6 (by omega)
            replace k1s := off k1s B6 no_ints2 hg6
            replace k1 : IsZ w6 (.agg #[.bool true, .slice A1 (digs 4294967296 (d).natAbs).length c1]) (d) := isZ_mk k1s rfl hs1.symm
            replace B1 := B1.grown hg6 (by omega)
            replace BR0 := BR0.grown hg6 (by omega)
            replace bb := bb.trans ((Below.refl _ _).grown hg6 bb.size (fun g hg => by injection hg with hg; omega))
            have hsz6 := bb.size
            have B6n : Blk w6 (g13_7) _ _ := BN6
            have k6ns := q1
            have k6n : IsZ w6 (.agg #[.bool (ngB (-U)), .slice A6n (digs 4294967296 ((-U)).natAbs).length c6n]) ((-U)) := ⟨_, rfl, k6ns⟩
            refine ops_done ?_
            have f6n_ := (f1 _ _ rfl).mono s_1
            have sB := bb.size
            go_upto_region 6 with (fail)
            refine flowp 3 [Pd.eq (.agg #[.bool (ngB (-U)), .slice A6n (digs 4294967296 ((-U)).natAbs).length c6n]), Pd.eq (.slice A18 (digs 4294967296 L).length c18), Pd.eq (.agg #[.bool (ngB (-U)), .slice A6n (digs 4294967296 ((-U)).natAbs).length c6n, .slice A18 (digs 4294967296 L).length c18])] (by kernel_rfl) ?ob16 ?done16
            case ob16 =>
              refine And.intro (ob_load rfl (wt_none rfl) (ev_far rfl rfl) (fun w2 hb => run_loadAll Tryz.underlying25 rfl (by kernel_rfl) (B6n.below hb)) (fun _ _ => rfl)) ?_
              refine And.intro (ob_move rfl (wt_none rfl) (ev_far rfl rfl) (fun _ _ h => h)) ?_
              refine And.intro (ob_build2b rfl (wt_none rfl) (ev_dep (j := 0) (by kernel_rfl) rfl rfl) (ev_dep (j := 1) (by kernel_rfl) rfl rfl) (fun w2 u v hb hu hv => by obtain rfl := hu; obtain rfl := hv; exact ⟨.agg #[.bool (ngB (-U)), .slice A6n (digs 4294967296 ((-U)).natAbs).length c6n, .slice A18 (digs 4294967296 L).length c18], by kernel_rfl, rfl⟩)) ?_
              trivial
            case done16 =>
              refine fun w7 hb7 v0 h0 v1 h1 v2 h2 b hbf => ?_
              obtain rfl := h0; obtain rfl := h1; obtain rfl := h2
              simp only [Act.put, List.setIfInBounds_toArray, List.set_cons_zero, List.set_cons_succ] at hbf
              subst hbf
              replace B0 := B0.below hb7
              replace k0s := k0s.below hb7
              replace k0 := k0.below hb7
              replace B1 := B1.below hb7
              replace k1s := k1s.below hb7
              replace k1 := k1.below hb7
              replace BR0 := BR0.below hb7
              replace B6n := B6n.below hb7
              replace k6ns := k6ns.below hb7
              replace k6n := k6n.below hb7
              replace n18 := n18.below hb7
              replace bb := bb.trans (hb7.mono bb.size)
              have hsz7 := bb.size
              refine ops_store (i := 3) rfl rfl rfl rfl rfl rfl (cells := [.bool (ngB (-U)), .slice A6n (digs 4294967296 ((-U)).natAbs).length c6n, .slice A18 (digs 4294967296 L).length c18]) rfl BR0 rfl (by kernel_rfl) (one3 rfl rfl rfl) fun w9 hg9 B9 => ?_
              have k9 := off k6ns BR0 no_ints3 hg9
              have d9 := off n18 BR0 no_ints3 hg9
              have bb9 := bb.trans ((Below.refl _ _).grown hg9 bb.size (fun g hg => by injection hg with hg; omega))
              obtain ⟨C0, C1, C2, _, _, _⟩ := three B9
              refine ops_assign (i := 4) (.int .i64 0) rfl rfl rfl rfl rfl fun b hbf => ?_
              simp only [Act.put, List.setIfInBounds_toArray, List.set_cons_zero, List.set_cons_succ] at hbf
              subst hbf
              refine ops_done ?_
              go_wp2
              rw [HQ0.out]
              exact bodyPost_ret (v := .tuple #[.agg #[.bool (ngB (-U)), .slice A6n (digs 4294967296 ((-U)).natAbs).length c6n, .slice A18 (digs 4294967296 L).length c18], .int .i64 0]) (by simp [results, Tryz.results83, go_sem, C0, C1, C2]) rfl ⟨_, rfl, isQ_mk k9 d9 (by rw [HQN.out]) (by rw [HQN.out]) HQD.out, freshQ_mk f6n_ (n18f.mono n18z_), bb9⟩
set_option maxHeartbeats 1600000 in
set_option maxRecDepth 100000 in
theorem fmake_zero (a0 : Value) (n : Int) (a1 : Value) (d : Int) (w : World) (h0 : IsZ w a0 n) (h1 : IsZ w a1 d) (hd : d = 0) :
    Calls Tryz.prog 83 #[a0, a1] w (RetQN 3 w) := by
  obtain ⟨u0, rfl, s0⟩ := h0
  obtain ⟨A0, c0, rfl, _⟩ := id s0
  obtain ⟨u1, rfl, s1⟩ := h1
  obtain ⟨A1, c1, rfl, _⟩ := id s1
  have HS : Hid ((0 : Int) = ordz d 0) := (ordz_eq hd).symm
  clear hd
  go_enter Tryz.func83, Tryz.ntmps83
  go_upto_region 1 with (fail)
  obtain ⟨wx, hwx, bb, B0, B1, BR0, hsz⟩ := vars3 w 25 25 27 #[.bool (ngB n), .slice A0 (digs 4294967296 (n).natAbs).length c0] #[.bool (ngB d), .slice A1 (digs 4294967296 (d).natAbs).length c1] #[.bool false, .slice none 0 0, .slice none 0 0]
  rw [hwx]
  clear hwx
  have k0s := s0.below bb
  have k0 : IsZ wx (.agg #[.bool (ngB n), .slice A0 (digs 4294967296 (n).natAbs).length c0]) (n) := isZ_mk k0s rfl rfl
  have k1s := s1.below bb
  have k1 : IsZ wx (.agg #[.bool (ngB d), .slice A1 (digs 4294967296 (d).natAbs).length c1]) (d) := isZ_mk k1s rfl rfl
  have hsz0 := bb.size
  have sB := bb.size
  refine flowp 3 [Pd.eq (.agg #[.bool (ngB d), .slice A1 (digs 4294967296 (d).natAbs).length c1]), Pd.eq (.int .i64 0), Pd.eq (.bool true)] (by kernel_rfl) ?ob17 ?done17
  case ob17 =>
    refine And.intro (ob_load rfl (wt_none rfl) (ev_far rfl rfl) (fun w2 hb => run_loadAll Tryz.underlying25 rfl (by kernel_rfl) (B1.below hb)) (fun _ _ => rfl)) ?_
    refine And.intro (ob_call1 rfl Tryz.func50 (by kernel_rfl) (wt_none rfl) (ev_dep (j := 0) (by kernel_rfl) rfl rfl) (fun w2 u0 hb h0 => by obtain rfl := h0; exact (sign_any _ d 0 _ (k1.below hb) HS.out).mono fun e w3 h => RetV.pd h)) ?_
    refine And.intro (ob_bin rfl (wt_none rfl) (ev_dep (j := 1) (by kernel_rfl) rfl rfl) (ev_const _) (fun _ _ _ hx hy => ⟨.bool ((0 : Int) == 0), by rw [hx, hy]; exact bin_eql_int _ _ _ _ _, congrArg Value.bool (by decide)⟩)) ?_
    trivial
  case done17 =>
    refine fun w1 hb1 v0 h0 v1 h1 v2 h2 b hbf => ?_
    obtain rfl := h0; obtain rfl := h1; obtain rfl := h2
    simp only [Act.put, List.setIfInBounds_toArray, List.set_cons_zero, List.set_cons_succ] at hbf
    subst hbf
    replace B0 := B0.below hb1
    replace k0s := k0s.below hb1
    replace k0 := k0.below hb1
    replace B1 := B1.below hb1
    replace k1s := k1s.below hb1
    replace k1 := k1.below hb1
    replace BR0 := BR0.below hb1
    replace bb := bb.trans (hb1.mono bb.size)
    have hsz1 := bb.size
    refine ops_done ?_
    have sB := bb.size
    go_upto_region 2 with (fail)
    refine flowp 1 [Pd.eq (.agg #[.bool false, .slice none 0 0, .slice none 0 0])] (by kernel_rfl) ?ob18 ?done18
    case ob18 =>
      refine And.intro (ob_build0 (v := .agg #[.bool false, .slice none 0 0, .slice none 0 0]) rfl (wt_none rfl) (fun _ => by kernel_rfl) (fun _ => rfl)) ?_
      trivial
    case done18 =>
      refine fun w2 hb2 v0 h0 b hbf => ?_
      obtain rfl := h0
      simp only [Act.put, List.setIfInBounds_toArray, List.set_cons_zero, List.set_cons_succ] at hbf
      subst hbf
      replace B0 := B0.below hb2
      replace k0s := k0s.below hb2
      replace k0 := k0.below hb2
      replace B1 := B1.below hb2
      replace k1s := k1s.below hb2
      replace k1 := k1.below hb2
      replace BR0 := BR0.below hb2
      replace bb := bb.trans (hb2.mono bb.size)
      have hsz2 := bb.size
      refine ops_store (i := 1) rfl rfl rfl rfl rfl rfl (cells := [.bool false, .slice none 0 0, .slice none 0 0]) rfl BR0 rfl (by kernel_rfl) (one3 rfl rfl rfl) fun w9 hg9 B9 => ?_
      have bb9 := bb.trans ((Below.refl _ _).grown hg9 bb.size (fun g hg => by injection hg with hg; omega))
      obtain ⟨C0, C1, C2, _, _, _⟩ := three B9
      refine ops_assign (i := 2) (.int .i64 3) rfl rfl rfl rfl rfl fun b hbf => ?_
      simp only [Act.put, List.setIfInBounds_toArray, List.set_cons_zero, List.set_cons_succ] at hbf
      subst hbf
      refine ops_done ?_
      go_wp2
      exact bodyPost_ret (v := .tuple #[.agg #[.bool false, .slice none 0 0, .slice none 0 0], .int .i64 3]) (by simp [results, Tryz.results83, go_sem, C0, C1, C2]) rfl ⟨rfl, bb9⟩
theorem fmake_ok (a0 : Value) (n : Int) (a1 : Value) (d : Int) (w : World) (h0 : IsZ w a0 n) (h1 : IsZ w a1 d) (hl : lenZ n ≤ 1000) (hl2 : lenZ d ≤ 1000) (hd : d ≠ 0) : Calls Tryz.prog 83 #[a0, a1] w (RetQE (Rat.divInt n d) 0 w) :=
  (make8_ok a0 n a1 d w h0 h1 hl hl2 hd).mono fun _ _ h => h.e

set_option maxHeartbeats 1600000 in
set_option maxRecDepth 100000 in
theorem of8_any (n : Int) (w : World) (h1 : -9223372036854775808 ≤ n) (h2 : n ≤ 9223372036854775807) :
    Calls Tryz.prog 56 #[.int .i64 n] w (RetQ (n : Rat) w) := by
  obtain ⟨Q, hQ⟩ : ∃ Q, Q = (n : Rat) := ⟨_, rfl⟩
  have HQ0 : Hid ((n : Rat) = Q) := hQ.symm
  have HQN : Hid (Q.num = n) := by show _ = _; rw [hQ]; exact Rat.num_intCast n
  have HQD : Hid (Q.den = 1) := by show _ = _; rw [hQ]; exact Rat.den_intCast n
  clear hQ
  go_enter Tryz.func56, Tryz.ntmps56
  go_upto_region 1 with (fail)
  obtain ⟨wx, hwx, bb, BR0, hsz⟩ := vars1 w 27 #[.bool false, .slice none 0 0, .slice none 0 0]
  rw [hwx]
  clear hwx
  have hsz0 := bb.size
  have sB := bb.size
  refine flowp 4 [Pd.eq (.int .i64 n), pz ((Q).num) wx.heap.size, ps .u64 (digs 4294967296 (Q).den) wx.heap.size, pq (Q) wx.heap.size] (by kernel_rfl) ?ob19 ?done19
  case ob19 =>
    refine And.intro (ob_move rfl (wt_none rfl) (ev_far rfl rfl) (fun _ _ h => h)) ?_
    refine And.intro (ob_call1 rfl Tryz.func84 (by kernel_rfl) (wt_none rfl) (ev_dep (j := 0) (by kernel_rfl) rfl rfl) (fun w2 u0 hb h0 => by obtain rfl := h0; exact (zof_any n _ h1 h2).mono fun e w3 h => RetZ.pd (RetZ.to h HQN.out.symm) hb.size)) ?_
    refine And.intro (ob_call1 rfl Tryz.func87 (by kernel_rfl) (wt_none rfl) (ev_const _) (fun w2 u0 hb h0 => by obtain rfl := h0; exact (of_any 1 1 _ rfl (by omega)).mono fun e w3 h => RetS.pd (RetS.to h (congrArg (digs 4294967296) HQD.out.symm)) hb.size)) ?_
    refine And.intro (ob_build2b rfl (wt_none rfl) (ev_dep (j := 1) (by kernel_rfl) rfl rfl) (ev_dep (j := 2) (by kernel_rfl) rfl rfl) (fun w2 u v hb hu hv => by obtain ⟨u7, rfl, hu7⟩ := hu.1; obtain ⟨A7, c7, rfl, _⟩ := id hu7; obtain ⟨A8, c8, rfl, _⟩ := id hv.1; exact ⟨.agg #[.bool (ngB (Q).num), .slice A7 (digs 4294967296 (Q).num.natAbs).length c7, .slice A8 (digs 4294967296 (Q).den).length c8], by kernel_rfl, ⟨⟨_, _, rfl, hu7, hv.1⟩, freshQ_mk (hu.2 _ _ rfl) hv.2⟩⟩)) ?_
    trivial
  case done19 =>
    refine fun w1 hb1 v0 h0 v1 h1 v2 h2 v3 h3 b hbf => ?_
    obtain rfl := h0
    obtain ⟨q1, f1⟩ := h1
    obtain ⟨q2, f2⟩ := h2
    obtain ⟨q3, f3⟩ := h3
    simp only [Act.put, List.setIfInBounds_toArray, List.set_cons_zero, List.set_cons_succ] at hbf
    subst hbf
    replace BR0 := BR0.below hb1
    replace bb := bb.trans (hb1.mono bb.size)
    have hsz1 := bb.size
    have s_1 := sB
    have s_2 := sB
    have s_3 := sB
    obtain ⟨u3, t3, rfl, q3, d3⟩ := q3
    obtain ⟨A9, c9, rfl, _⟩ := id q3
    obtain ⟨D9, e9, rfl, _⟩ := id d3
    refine ops_store (i := 4) rfl rfl rfl rfl rfl rfl (cells := [.bool (ngB (Q).num), .slice A9 (digs 4294967296 (Q).num.natAbs).length c9, .slice D9 (digs 4294967296 (Q).den).length e9]) rfl BR0 rfl (by kernel_rfl) (one3 rfl rfl rfl) fun w9 hg9 B9 => ?_
    have k9 := off q3 BR0 no_ints3 hg9
    have d9 := off d3 BR0 no_ints3 hg9
    have f9 := f3.mono (show w.heap.size ≤ _ from s_3)
    have bb9 := bb.trans ((Below.refl _ _).grown hg9 bb.size (fun g hg => by injection hg with hg; omega))
    obtain ⟨C0, C1, C2, _, _, _⟩ := three B9
    refine ops_done ?_
    go_wp2
    rw [HQ0.out]
    exact bodyPost_ret (v := .agg #[.bool (ngB (Q).num), .slice A9 (digs 4294967296 (Q).num.natAbs).length c9, .slice D9 (digs 4294967296 (Q).den).length e9]) (by simp [results, Tryz.results56, go_sem, C0, C1, C2]) rfl ⟨_, rfl, ⟨_, _, rfl, k9, d9⟩, f9, bb9⟩
theorem fof_any (n : Int) (w : World) (h1 : -9223372036854775807 ≤ n) (h2 : n ≤ 9223372036854775807) : Calls Tryz.prog 56 #[.int .i64 n] w (RetQn (n : Rat) w) :=
  (of8_any n w (by omega) h2).mono fun _ _ h => h.n

set_option maxHeartbeats 1600000 in
set_option maxRecDepth 100000 in
theorem frac8_ok (n d : Int) (w : World) (hn : -9223372036854775808 ≤ n ∧ n ≤ 9223372036854775807) (hd : -9223372036854775808 ≤ d ∧ d ≤ 9223372036854775807) (h0_ : d ≠ 0) :
    Calls Tryz.prog 53 #[.int .i64 n, .int .i64 d] w (RetQF (Rat.divInt n d) 0 w) := by
  have HLN : Hid (lenZ n ≤ 1000) := Nat.le_trans (dig32 (by omega)) (by decide)
  have HLD : Hid (lenZ d ≤ 1000) := Nat.le_trans (dig32 (by omega)) (by decide)
  obtain ⟨Q, hQ⟩ : ∃ Q, Q = Rat.divInt n d := ⟨_, rfl⟩
  have HQ0 : Hid (Rat.divInt n d = Q) := hQ.symm
  clear hQ
  go_enter Tryz.func53, Tryz.ntmps53
  go_upto_region 1 with (fail)
  obtain ⟨wx, hwx, bb, BR0, hsz⟩ := vars1 w 27 #[.bool false, .slice none 0 0, .slice none 0 0]
  rw [hwx]
  clear hwx
  have hsz0 := bb.size
  have sB := bb.size
  refine flowp 7 [Pd.eq (.int .i64 n), pz (n) wx.heap.size, Pd.eq (.int .i64 d), pz (d) wx.heap.size, pqf (Q) 0 wx.heap.size, pq (Q) wx.heap.size, Pd.eq (.int .i64 0)] (by kernel_rfl) ?ob20 ?done20
  case ob20 =>
    refine And.intro (ob_move rfl (wt_none rfl) (ev_far rfl rfl) (fun _ _ h => h)) ?_
    refine And.intro (ob_call1 rfl Tryz.func84 (by kernel_rfl) (wt_none rfl) (ev_dep (j := 0) (by kernel_rfl) rfl rfl) (fun w2 u0 hb h0 => by obtain rfl := h0; exact (zof_any n _ hn.1 hn.2).mono fun e w3 h => RetZ.pd h hb.size)) ?_
    refine And.intro (ob_move rfl (wt_none rfl) (ev_far rfl rfl) (fun _ _ h => h)) ?_
    refine And.intro (ob_call1 rfl Tryz.func84 (by kernel_rfl) (wt_none rfl) (ev_dep (j := 2) (by kernel_rfl) rfl rfl) (fun w2 u0 hb h0 => by obtain rfl := h0; exact (zof_any d _ hd.1 hd.2).mono fun e w3 h => RetZ.pd h hb.size)) ?_
    refine And.intro (ob_call2 rfl Tryz.func83 (by kernel_rfl) (wt_none rfl) (ev_dep (j := 1) (by kernel_rfl) rfl rfl) (ev_dep (j := 3) (by kernel_rfl) rfl rfl) (fun w2 u0 u1 hb h0 h1 => by exact (HQ0.out ▸ make8_ok _ n _ d _ h0.1 h1.1 HLN.out HLD.out h0_).mono fun e w3 h => RetQF.pd h hb.size)) ?_
    refine And.intro (ob_extract rfl (wt_none rfl) (ev_dep (j := 4) (by kernel_rfl) rfl rfl) (fun w2 u hu => by obtain ⟨v, rfl, q1, q2⟩ := hu; exact ⟨v, rfl, q1, q2⟩)) ?_
    refine And.intro (ob_extract rfl (wt_none rfl) (ev_dep (j := 4) (by kernel_rfl) rfl rfl) (fun w2 u hu => by obtain ⟨v, rfl, q1, q2⟩ := hu; exact ⟨_, rfl, rfl⟩)) ?_
    trivial
  case done20 =>
    refine fun w1 hb1 v0 h0 v1 h1 v2 h2 v3 h3 v4 h4 v5 h5 v6 h6 b hbf => ?_
    obtain rfl := h0; obtain rfl := h2; obtain rfl := h6
    obtain ⟨q1, f1⟩ := h1
    obtain ⟨q3, f3⟩ := h3
    clear h4
    obtain ⟨q5, f5⟩ := h5
    simp only [Act.put, List.setIfInBounds_toArray, List.set_cons_zero, List.set_cons_succ] at hbf
    subst hbf
    replace BR0 := BR0.below hb1
    replace bb := bb.trans (hb1.mono bb.size)
    have hsz1 := bb.size
    have s_1 := sB
    have s_3 := sB
    have s_5 := sB
    obtain ⟨u5, t5, rfl, q5, d5⟩ := q5
    obtain ⟨A9, c9, rfl, _⟩ := id q5
    obtain ⟨D9, e9, rfl, _⟩ := id d5
    have fS := (f5 _ _ _ rfl).1.mono s_5
    have fT := (f5 _ _ _ rfl).2.mono s_5
    refine ops_store (i := 7) rfl rfl rfl rfl rfl rfl (cells := [.bool (ngB (Q).num), .slice A9 (digs 4294967296 (Q).num.natAbs).length c9, .slice D9 (digs 4294967296 (Q).den).length e9]) rfl BR0 rfl (by kernel_rfl) (one3 rfl rfl rfl) fun w9 hg9 B9 => ?_
    have k9 := off q5 BR0 no_ints3 hg9
    have d9 := off d5 BR0 no_ints3 hg9
    have bb9 := bb.trans ((Below.refl _ _).grown hg9 bb.size (fun g hg => by injection hg with hg; omega))
    obtain ⟨C0, C1, C2, _, _, _⟩ := three B9
    refine ops_assign (i := 8) (.int .i64 0) rfl rfl rfl rfl rfl fun b hbf => ?_
    simp only [Act.put, List.setIfInBounds_toArray, List.set_cons_zero, List.set_cons_succ] at hbf
    subst hbf
    refine ops_done ?_
    go_wp2
    rw [HQ0.out]
    exact bodyPost_ret (v := .tuple #[.agg #[.bool (ngB (Q).num), .slice A9 (digs 4294967296 (Q).num.natAbs).length c9, .slice D9 (digs 4294967296 (Q).den).length e9], .int .i64 0]) (by simp [results, Tryz.results53, go_sem, C0, C1, C2]) rfl ⟨_, rfl, isQ_mk k9 d9 rfl rfl rfl, freshQ_mk fS fT, bb9⟩
theorem ffrac_ok (n d : Int) (w : World) (hn : -9223372036854775808 ≤ n ∧ n ≤ 9223372036854775807) (hd : -9223372036854775808 ≤ d ∧ d ≤ 9223372036854775807) (h0 : d ≠ 0) : Calls Tryz.prog 53 #[.int .i64 n, .int .i64 d] w (RetQE (Rat.divInt n d) 0 w) :=
  (frac8_ok n d w hn hd h0).mono fun _ _ h => h.e
set_option maxHeartbeats 1600000 in
set_option maxRecDepth 100000 in
theorem frac8_zero (n d : Int) (w : World) (hn : -9223372036854775808 ≤ n ∧ n ≤ 9223372036854775807) (hd : -9223372036854775808 ≤ d ∧ d ≤ 9223372036854775807) (h0_ : d = 0) :
    Calls Tryz.prog 53 #[.int .i64 n, .int .i64 d] w (RetQN 3 w) := by
  have HZ := Lib.hid h0_
  clear h0_
  go_enter Tryz.func53, Tryz.ntmps53
  go_upto_region 1 with (fail)
  obtain ⟨wx, hwx, bb, BR0, hsz⟩ := vars1 w 27 #[.bool false, .slice none 0 0, .slice none 0 0]
  rw [hwx]
  clear hwx
  have hsz0 := bb.size
  have sB := bb.size
  refine flowp 7 [Pd.eq (.int .i64 n), pz (n) wx.heap.size, Pd.eq (.int .i64 d), pz (d) wx.heap.size, Pd.eq (.tuple #[.agg #[.bool false, .slice none 0 0, .slice none 0 0], .int .i64 3]), Pd.eq (.agg #[.bool false, .slice none 0 0, .slice none 0 0]), Pd.eq (.int .i64 3)] (by kernel_rfl) ?ob21 ?done21
  case ob21 =>
    refine And.intro (ob_move rfl (wt_none rfl) (ev_far rfl rfl) (fun _ _ h => h)) ?_
    refine And.intro (ob_call1 rfl Tryz.func84 (by kernel_rfl) (wt_none rfl) (ev_dep (j := 0) (by kernel_rfl) rfl rfl) (fun w2 u0 hb h0 => by obtain rfl := h0; exact (zof_any n _ hn.1 hn.2).mono fun e w3 h => RetZ.pd h hb.size)) ?_
    refine And.intro (ob_move rfl (wt_none rfl) (ev_far rfl rfl) (fun _ _ h => h)) ?_
    refine And.intro (ob_call1 rfl Tryz.func84 (by kernel_rfl) (wt_none rfl) (ev_dep (j := 2) (by kernel_rfl) rfl rfl) (fun w2 u0 hb h0 => by obtain rfl := h0; exact (zof_any d _ hd.1 hd.2).mono fun e w3 h => RetZ.pd h hb.size)) ?_
    refine And.intro (ob_call2 rfl Tryz.func83 (by kernel_rfl) (wt_none rfl) (ev_dep (j := 1) (by kernel_rfl) rfl rfl) (ev_dep (j := 3) (by kernel_rfl) rfl rfl) (fun w2 u0 u1 hb h0 h1 => by exact (fmake_zero _ n _ d _ h0.1 h1.1 HZ.out).mono fun e w3 h => RetQN.pd h)) ?_
    refine And.intro (ob_extract rfl (wt_none rfl) (ev_dep (j := 4) (by kernel_rfl) rfl rfl) (fun w2 u hu => by obtain rfl := hu; exact ⟨_, rfl, rfl⟩)) ?_
    refine And.intro (ob_extract rfl (wt_none rfl) (ev_dep (j := 4) (by kernel_rfl) rfl rfl) (fun w2 u hu => by obtain rfl := hu; exact ⟨_, rfl, rfl⟩)) ?_
    trivial
  case done21 =>
    refine fun w1 hb1 v0 h0 v1 h1 v2 h2 v3 h3 v4 h4 v5 h5 v6 h6 b hbf => ?_
    obtain rfl := h0; obtain rfl := h2; obtain rfl := h4; obtain rfl := h5; obtain rfl := h6
    obtain ⟨q1, f1⟩ := h1
    obtain ⟨q3, f3⟩ := h3
    simp only [Act.put, List.setIfInBounds_toArray, List.set_cons_zero, List.set_cons_succ] at hbf
    subst hbf
    replace BR0 := BR0.below hb1
    replace bb := bb.trans (hb1.mono bb.size)
    have hsz1 := bb.size
    have s_1 := sB
    have s_3 := sB
    refine ops_store (i := 7) rfl rfl rfl rfl rfl rfl (cells := [.bool false, .slice none 0 0, .slice none 0 0]) rfl BR0 rfl (by kernel_rfl) (one3 rfl rfl rfl) fun w9 hg9 B9 => ?_
    have bb9 := bb.trans ((Below.refl _ _).grown hg9 bb.size (fun g hg => by injection hg with hg; omega))
    obtain ⟨C0, C1, C2, _, _, _⟩ := three B9
    refine ops_assign (i := 8) (.int .i64 3) rfl rfl rfl rfl rfl fun b hbf => ?_
    simp only [Act.put, List.setIfInBounds_toArray, List.set_cons_zero, List.set_cons_succ] at hbf
    subst hbf
    refine ops_done ?_
    go_wp2
    exact bodyPost_ret (v := .tuple #[.agg #[.bool false, .slice none 0 0, .slice none 0 0], .int .i64 3]) (by simp [results, Tryz.results53, go_sem, C0, C1, C2]) rfl ⟨rfl, bb9⟩
theorem ffrac_zero (n d : Int) (w : World) (hn : -9223372036854775808 ≤ n ∧ n ≤ 9223372036854775807) (hd : -9223372036854775808 ≤ d ∧ d ≤ 9223372036854775807) (h0 : d = 0) : Calls Tryz.prog 53 #[.int .i64 n, .int .i64 d] w (RetQN 3 w) := frac8_zero n d w hn hd h0

end Go.Proofs.YtbebmknfecehnaaGreat.rat
