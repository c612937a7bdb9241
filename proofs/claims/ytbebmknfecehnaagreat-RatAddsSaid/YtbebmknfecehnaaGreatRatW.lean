/- The chapter's example of layer 8. -/
import Derived.Test.YtbebmknfecehnaaGreatRatP
import Derived.Test.YtbebmknfecehnaaGreatWhlR
namespace Go.Proofs.YtbebmknfecehnaaGreat.rat
open Go.RowKit Go.Proofs.YtbebmknfecehnaaGreat.num Go.Proofs.YtbebmknfecehnaaGreat.mem Go.Proofs.YtbebmknfecehnaaGreat.nat Go.Proofs.YtbebmknfecehnaaGreat.txt Go.Proofs.YtbebmknfecehnaaGreat.str Go.Proofs.YtbebmknfecehnaaGreat.flow Go.Proofs.YtbebmknfecehnaaGreat.whl
set_option linter.unusedVariables false
set_option maxHeartbeats 1600000 in
set_option maxRecDepth 100000 in
theorem works8_any (w : World) :
    Calls Tryz.prog 21 #[] w (RetV (.bool true) w) := by
  have bb : Below w.heap.size w w := Below.refl _ _
  have hsz0 := bb.size
  obtain ⟨Q, hQ⟩ : ∃ Q, Q = Rat.divInt 4 (-6) := ⟨_, rfl⟩
  have HQ0 : Hid (Rat.divInt 4 (-6) = Q) := hQ.symm
  have HQ1 : Hid (mkRat (-2) 3 = Q) := by show _ = _; rw [hQ]; decide +kernel
  have HQN : Hid (ngB Q.num = true) := by show _ = _; rw [hQ]; decide +kernel
  have lQ : lenQ Q 2 := by rw [← HQ1.out]; exact lenQ_mk (by omega) (dig32 (by decide)) (dig32 (by decide))
  have lO : lenQ (1 : Rat) 1 := ⟨digs_len_le (by omega) (by decide), digs_len_le (by omega) (by decide)⟩
  clear hQ
  go_enter Tryz.func21, Tryz.ntmps21
  go_upto_region 1 with (fail)
  refine flowp 5 [pqe (Q) 0, pqe (Q) 0, pqn (Q), Pd.eq (.int .i64 0), pn 27 #[.bool false, .slice none 0 0, .slice none 0 0] w.heap.size] (by kernel_rfl) ?ob1 ?done1
  case ob1 =>
    refine And.intro (ob_call2 rfl Tryz.func53 (by kernel_rfl) (wt_none rfl) (ev_const _) (ev_const _) (fun w2 u0 u1 hb h0 h1 => by obtain rfl := h0; obtain rfl := h1; exact (HQ0.out ▸ ffrac_ok 4 (-6) _ (by omega) (by omega) (by omega)).mono fun e w3 h => RetQE.pd h)) ?_
    refine And.intro (ob_move rfl (wt_none rfl) (ev_dep (j := 0) (by kernel_rfl) rfl rfl) (fun _ _ h => h)) ?_
    refine And.intro (ob_extract rfl (wt_none rfl) (ev_dep (j := 1) (by kernel_rfl) rfl rfl) (fun w2 u hu => by obtain ⟨v, rfl, q1⟩ := hu; exact ⟨v, rfl, q1⟩)) ?_
    refine And.intro (ob_extract rfl (wt_none rfl) (ev_dep (j := 1) (by kernel_rfl) rfl rfl) (fun w2 u hu => by obtain ⟨v, rfl, q1⟩ := hu; exact ⟨_, rfl, rfl⟩)) ?_
    refine And.intro (ob_alloc (z := .agg #[.bool false, .slice none 0 0, .slice none 0 0]) rfl rfl (fun _ => by kernel_rfl) (fun _ _ hB h => ⟨_, rfl, hB, h⟩)) ?_
    trivial
  case done1 =>
    refine fun w1 hb1 v0 h0 v1 h1 v2 h2 v3 h3 v4 h4 d4 b hbf => ?_
    obtain rfl := h3
    clear h0
    clear h1
    have q2 := h2
    obtain ⟨g1_4, rfl, hg4, B4⟩ := h4
    simp only [Act.put, List.setIfInBounds_toArray, List.set_cons_zero, List.set_cons_succ] at hbf
    subst hbf
    replace bb := bb.trans (hb1.mono bb.size)
    have hsz1 := bb.size
    have BA1 := B4
    obtain ⟨u2, t2, rfl, q2, d2⟩ := q2
    obtain ⟨Ap, cp, rfl, _⟩ := id q2
    obtain ⟨Dp, ep, rfl, _⟩ := id d2
    refine ops_store (i := 5) rfl rfl rfl rfl rfl rfl (cells := [.bool (ngB (Q).num), .slice Ap (digs 4294967296 (Q).num.natAbs).length cp, .slice Dp (digs 4294967296 (Q).den).length ep]) rfl BA1 rfl (by kernel_rfl) (one3 rfl rfl rfl) fun w2 hg2 BN2 => ?_
    replace q2 := off q2 BA1 no_ints3 hg2
    replace d2 := off d2 BA1 no_ints3 hg2
    replace bb := bb.trans ((Below.refl _ _).grown hg2 bb.size (fun g hg => by injection hg with hg; omega))
    have hsz2 := bb.size
    have Bp : Blk w2 (g1_4) _ _ := BN2
    have kps := q2
    have kpd := d2
    have kpz : IsZ w2 (.agg #[.bool (ngB (Q).num), .slice Ap (digs 4294967296 (Q).num.natAbs).length cp]) ((Q).num) := ⟨_, rfl, kps⟩
    have kp : IsQ w2 (.agg #[.bool (ngB (Q).num), .slice Ap (digs 4294967296 (Q).num.natAbs).length cp, .slice Dp (digs 4294967296 (Q).den).length ep]) (Q) := ⟨_, _, rfl, kps, kpd⟩
    refine ops_assign (i := 6) (.int .i64 0) rfl rfl rfl rfl rfl fun b hbf => ?_
    simp only [Act.put, List.setIfInBounds_toArray, List.set_cons_zero, List.set_cons_succ] at hbf
    subst hbf
    refine ops_done ?_
    rw [HQN.out] at Bp kpz kp
    go_upto_region 2 with (fail)
    have lt2_1 := Blk.lt Bp
    refine flowp 5 [Pd.eq (.tuple #[.agg #[.bool false, .slice none 0 0, .slice none 0 0], .int .i64 3]), Pd.eq (.tuple #[.agg #[.bool false, .slice none 0 0, .slice none 0 0], .int .i64 3]), Pd.eq (.agg #[.bool false, .slice none 0 0, .slice none 0 0]), Pd.eq (.int .i64 3), pn 27 #[.bool false, .slice none 0 0, .slice none 0 0] w2.heap.size] (by kernel_rfl) ?ob2 ?done2
    case ob2 =>
      refine And.intro (ob_call2 rfl Tryz.func53 (by kernel_rfl) (wt_none rfl) (ev_const _) (ev_const _) (fun w2 u0 u1 hb h0 h1 => by obtain rfl := h0; obtain rfl := h1; exact (ffrac_zero 1 0 _ (by omega) (by omega) rfl).mono fun e w3 h => RetQN.pd h)) ?_
      refine And.intro (ob_move rfl (wt_none rfl) (ev_dep (j := 0) (by kernel_rfl) rfl rfl) (fun _ _ h => h)) ?_
      refine And.intro (ob_extract rfl (wt_none rfl) (ev_dep (j := 1) (by kernel_rfl) rfl rfl) (fun w2 u hu => by obtain rfl := hu; exact ⟨_, rfl, rfl⟩)) ?_
      refine And.intro (ob_extract rfl (wt_none rfl) (ev_dep (j := 1) (by kernel_rfl) rfl rfl) (fun w2 u hu => by obtain rfl := hu; exact ⟨_, rfl, rfl⟩)) ?_
      refine And.intro (ob_alloc (z := .agg #[.bool false, .slice none 0 0, .slice none 0 0]) rfl rfl (fun _ => by kernel_rfl) (fun _ _ hB h => ⟨_, rfl, hB, h⟩)) ?_
      trivial
    case done2 =>
      refine fun w3 hb3 v0 h0 v1 h1 v2 h2 v3 h3 v4 h4 d4 b hbf => ?_
      obtain rfl := h0; obtain rfl := h1; obtain rfl := h2; obtain rfl := h3
      obtain ⟨g2_4, rfl, hg4, B4⟩ := h4
      simp only [Act.put, List.setIfInBounds_toArray, List.set_cons_zero, List.set_cons_succ] at hbf
      subst hbf
      replace Bp := Bp.below hb3
      replace kps := kps.below hb3
      replace kpd := kpd.below hb3
      replace kpz := kpz.below hb3
      replace kp := kp.below hb3
      replace bb := bb.trans (hb3.mono bb.size)
      have hsz3 := bb.size
      have BA3 := B4
      refine ops_store (i := 5) rfl rfl rfl rfl rfl rfl (cells := [.bool false, .slice none 0 0, .slice none 0 0]) rfl BA3 rfl (by kernel_rfl) (one3 rfl rfl rfl) fun w4 hg4 BN4 => ?_
      replace kps := off kps BA3 no_ints3 hg4
      replace kpd := off kpd BA3 no_ints3 hg4
      replace kpz : IsZ w4 (.agg #[.bool true, .slice Ap (digs 4294967296 (Q).num.natAbs).length cp]) ((Q).num) := isZ_mk kps rfl HQN.out.symm
      replace kp : IsQ w4 (.agg #[.bool true, .slice Ap (digs 4294967296 (Q).num.natAbs).length cp, .slice Dp (digs 4294967296 (Q).den).length ep]) (Q) := isQ_mk kps kpd HQN.out.symm rfl rfl
      replace Bp := Bp.grown hg4 (by omega)
      replace bb := bb.trans ((Below.refl _ _).grown hg4 bb.size (fun g hg => by injection hg with hg; omega))
      have hsz4 := bb.size
      replace BA3 : Blk w4 (g2_4) _ #[.bool false, .slice none 0 0, .slice none 0 0] := BN4
      refine ops_assign (i := 6) (.int .i64 3) rfl rfl rfl rfl rfl fun b hbf => ?_
      simp only [Act.put, List.setIfInBounds_toArray, List.set_cons_zero, List.set_cons_succ] at hbf
      subst hbf
      refine ops_done ?_
      go_upto_region 3 with (fail)
      refine flow 22 [Pd.eq (.int .i64 0), Pd.eq (.bool true), Pd.eq (.bool true), Pd.eq (.int .i64 3), Pd.eq (.bool true), Pd.eq (.bool true), Pd.eq (.bool true), Pd.eq (.pointer (some ⟨g1_4, 0, none⟩)), Pd.eq (.pointer (some ⟨g1_4, 0, none⟩)), Pd.eq (.bool true), Pd.eq (.bool true), Pd.eq (.bool true), Pd.eq (.agg #[.bool true, .slice Ap (digs 4294967296 (Q).num.natAbs).length cp, .slice Dp (digs 4294967296 (Q).den).length ep]), pp (Q), pqn (Q), Pd.eq (.bool true), Pd.eq (.bool true), Pd.eq (.bool true), pqn (1 : Rat), Pd.eq (.bool true), Pd.eq (.bool true), Pd.eq (.bool true)] (by kernel_rfl) (by kernel_rfl) ?ob3 ?done3
      case ob3 =>
        refine And.intro (ob_move rfl (wt_none rfl) (ev_far rfl rfl) (fun _ _ h => h)) ?_
        refine And.intro (ob_bin rfl (wt_none rfl) (ev_dep (j := 0) (by kernel_rfl) rfl rfl) (ev_const _) (fun _ _ _ hx hy => ⟨.bool ((0 : Int) == 0), by rw [hx, hy]; exact bin_eql_int _ _ _ _ _, congrArg Value.bool (by decide)⟩)) ?_
        refine And.intro (ob_move rfl (wt_none rfl) (ev_dep (j := 1) (by kernel_rfl) rfl rfl) (fun _ _ h => h)) ?_
        refine And.intro (ob_move rfl (wt_dep (c := true) (b := true) (g := 2) rfl (by kernel_rfl) rfl rfl rfl (by exact fun _ _ h => h)) (ev_far rfl rfl) (fun _ _ h => h)) ?_
        refine And.intro (ob_bin rfl (wt_dep (c := true) (b := true) (g := 2) rfl (by kernel_rfl) rfl rfl rfl (by exact fun _ _ h => h)) (ev_dep (j := 3) (by kernel_rfl) rfl rfl) (ev_const _) (fun _ _ _ hx hy => ⟨.bool ((3 : Int) == 3), by rw [hx, hy]; exact bin_eql_int _ _ _ _ _, congrArg Value.bool (by decide)⟩)) ?_
        refine And.intro (ob_pick (b := true) rfl (wt_none rfl) (ev_dep (j := 2) (by kernel_rfl) rfl rfl) (ev_dep (j := 4) (by kernel_rfl) rfl rfl) (fun _ _ h => h)) ?_
        refine And.intro (ob_move rfl (wt_none rfl) (ev_dep (j := 5) (by kernel_rfl) rfl rfl) (fun _ _ h => h)) ?_
        refine And.intro (ob_fieldAddr rfl (wt_dep (c := true) (b := true) (g := 6) rfl (by kernel_rfl) rfl rfl rfl (by exact fun _ _ h => h)) (ev_far rfl rfl) (fun _ => by kernel_rfl) (fun _ => rfl)) ?_
        refine And.intro (ob_fieldAddr rfl (wt_dep (c := true) (b := true) (g := 6) rfl (by kernel_rfl) rfl rfl rfl (by exact fun _ _ h => h)) (ev_dep (j := 7) (by kernel_rfl) rfl rfl) (fun _ => by kernel_rfl) (fun _ => rfl)) ?_
        refine And.intro (ob_load rfl (wt_dep (c := true) (b := true) (g := 6) rfl (by kernel_rfl) rfl rfl rfl (by exact fun _ _ h => h)) (ev_dep (j := 8) (by kernel_rfl) rfl rfl) (fun w2 hb => run_load1 Tryz.underlying4 rfl ((Bp.drew.below hb).cell 0)) (fun _ _ => rfl)) ?_
        refine And.intro (ob_pick (b := true) rfl (wt_none rfl) (ev_dep (j := 6) (by kernel_rfl) rfl rfl) (ev_dep (j := 9) (by kernel_rfl) rfl rfl) (fun _ _ h => h)) ?_
        refine And.intro (ob_move rfl (wt_none rfl) (ev_dep (j := 10) (by kernel_rfl) rfl rfl) (fun _ _ h => h)) ?_
        refine And.intro (ob_load rfl (wt_dep (c := true) (b := true) (g := 11) rfl (by kernel_rfl) rfl rfl rfl (by exact fun _ _ h => h)) (ev_far rfl rfl) (fun w2 hb => run_loadAll Tryz.underlying27 rfl (by kernel_rfl) (Bp.drew.below hb)) (fun _ _ => rfl)) ?_
        refine And.intro (ob_call2 rfl Tryz.func54 (by kernel_rfl) (wt_dep (c := true) (b := true) (g := 11) rfl (by kernel_rfl) rfl rfl rfl (by exact fun _ _ h => h)) (ev_const _) (ev_const _) (fun w2 u0 u1 hb h0 h1 => by obtain rfl := h0; obtain rfl := h1; exact (HQ1.out ▸ qnum_any (-2) 3 _ 3 rfl (by omega) (by omega) (by omega) (by omega)).mono fun e w3 h => RetPF.pd h)) ?_
        refine And.intro (ob_call1 rfl Tryz.func10 (by kernel_rfl) (wt_dep (c := true) (b := true) (g := 11) rfl (by kernel_rfl) rfl rfl rfl (by exact fun _ _ h => h)) (ev_dep (j := 13) (by kernel_rfl) rfl rfl) (fun w2 u0 hb h0 => by exact (qback_any _ _ _ h0 (lQ.mono (by decide))).mono fun e w3 h => RetQn.pd (RetQ.n h))) ?_
        refine And.intro (ob_call2 rfl Tryz.func8 (by kernel_rfl) (wt_dep (c := true) (b := true) (g := 11) rfl (by kernel_rfl) rfl rfl rfl (by exact fun _ _ h => h)) (ev_dep (j := 12) (by kernel_rfl) rfl rfl) (ev_dep (j := 14) (by kernel_rfl) rfl rfl) (fun w2 u0 u1 hb h0 h1 => by obtain rfl := h0; exact (qsame_eq _ _ (Q) (Q) _ (kp.drew.below hb) h1 rfl).mono fun e w3 h => RetV.pd h)) ?_
        refine And.intro (ob_pick (b := true) rfl (wt_none rfl) (ev_dep (j := 11) (by kernel_rfl) rfl rfl) (ev_dep (j := 15) (by kernel_rfl) rfl rfl) (fun _ _ h => h)) ?_
        refine And.intro (ob_move rfl (wt_none rfl) (ev_dep (j := 16) (by kernel_rfl) rfl rfl) (fun _ _ h => h)) ?_
        refine And.intro (ob_call1 rfl Tryz.func56 (by kernel_rfl) (wt_dep (c := true) (b := true) (g := 17) rfl (by kernel_rfl) rfl rfl rfl (by exact fun _ _ h => h)) (ev_const _) (fun w2 u0 hb h0 => by obtain rfl := h0; exact (fof_any 1 _ (by omega) (by omega)).mono fun e w3 h => RetQn.pd h)) ?_
        refine And.intro (ob_call1 rfl Tryz.func55 (by kernel_rfl) (wt_dep (c := true) (b := true) (g := 17) rfl (by kernel_rfl) rfl rfl rfl (by exact fun _ _ h => h)) (ev_dep (j := 18) (by kernel_rfl) rfl rfl) (fun w2 u0 hb h0 => by exact (fone_any _ (1 : Rat) true _ h0 (lO.mono (by decide)) (decide_eq_true rfl).symm).mono fun e w3 h => RetV.pd h)) ?_
        refine And.intro (ob_pick (b := true) rfl (wt_none rfl) (ev_dep (j := 17) (by kernel_rfl) rfl rfl) (ev_dep (j := 19) (by kernel_rfl) rfl rfl) (fun _ _ h => h)) ?_
        refine And.intro (ob_assign rfl (wt_none rfl) (ev_dep (j := 20) (by kernel_rfl) rfl rfl) (fun _ _ h => h)) ?_
        trivial
      case done3 =>
        refine fun w5 hb5 v0 h0 v1 h1 v2 h2 v3 h3 v4 h4 v5 h5 v6 h6 v7 h7 v8 h8 v9 h9 v10 h10 v11 h11 v12 h12 v13 h13 v14 h14 v15 h15 v16 h16 v17 h17 v18 h18 v19 h19 v20 h20 v21 h21 b hbf => ?_
        obtain rfl := h0; obtain rfl := h1; obtain rfl := h2; obtain rfl := h3; obtain rfl := h4; obtain rfl := h5; obtain rfl := h6; obtain rfl := h7; obtain rfl := h8; obtain rfl := h9; obtain rfl := h10; obtain rfl := h11; obtain rfl := h12; obtain rfl := h15; obtain rfl := h16; obtain rfl := h17; obtain rfl := h19; obtain rfl := h20; obtain rfl := h21
        have q13 := h13
        have q14 := h14
        have q18 := h18
        simp only [Act.put, List.setIfInBounds_toArray, List.set_cons_zero, List.set_cons_succ] at hbf
        subst hbf
        replace Bp := Bp.below hb5
        replace kps := kps.below hb5
        replace kpd := kpd.below hb5
        replace kpz := kpz.below hb5
        replace kp := kp.below hb5
        replace BA3 := BA3.below hb5
        replace bb := bb.trans (hb5.mono bb.size)
        have hsz5 := bb.size
        refine any_done (by kernel_rfl) ?_
        go_wp2
        go_ret
        exact ⟨rfl, bb⟩

end Go.Proofs.YtbebmknfecehnaaGreat.rat
