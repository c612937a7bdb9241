/- Package rat: its own contracts, each said of fractions: Inv, Mul, Div. Condition: as each says. -/
import Derived.Test.YtbebmknfecehnaaGreatRatP0
namespace Go.Proofs.YtbebmknfecehnaaGreat.rat
open Go.RowKit Go.Proofs.YtbebmknfecehnaaGreat.num Go.Proofs.YtbebmknfecehnaaGreat.mem Go.Proofs.YtbebmknfecehnaaGreat.nat Go.Proofs.YtbebmknfecehnaaGreat.txt Go.Proofs.YtbebmknfecehnaaGreat.str Go.Proofs.YtbebmknfecehnaaGreat.flow Go.Proofs.YtbebmknfecehnaaGreat.whl
set_option linter.unusedVariables false
set_option maxHeartbeats 1600000 in
set_option maxRecDepth 100000 in
theorem finv_zero (a0 : Value) (x : Rat) (w : World) (h0 : IsQ w a0 x) (hy : x = 0) :
    Calls Tryz.prog 23 #[a0] w (RetQN 3 w) := by
  obtain ⟨u0, t0, rfl, s0, r0⟩ := h0
  obtain ⟨A0, c0, rfl, _⟩ := id s0
  obtain ⟨D0, e0, rfl, _⟩ := id r0
  have HS : Hid ((0 : Int) = ordz x.num 0) := by show _ = _; rw [hy]; rfl
  clear hy
  go_enter Tryz.func23, Tryz.ntmps23
  go_upto_region 1 with (fail)
  obtain ⟨wx, hwx, bb, B0, BR0, hsz⟩ := vars2 w 27 27 #[.bool (ngB (x).num), .slice A0 (digs 4294967296 (x).num.natAbs).length c0, .slice D0 (digs 4294967296 (x).den).length e0] #[.bool false, .slice none 0 0, .slice none 0 0]
  rw [hwx]
  clear hwx
  have k0s := s0.below bb
  have k0d := r0.below bb
  have k0z : IsZ wx (.agg #[.bool (ngB (x).num), .slice A0 (digs 4294967296 (x).num.natAbs).length c0]) (x).num := ⟨_, rfl, k0s⟩
  have k0 : IsQ wx (.agg #[.bool (ngB (x).num), .slice A0 (digs 4294967296 (x).num.natAbs).length c0, .slice D0 (digs 4294967296 (x).den).length e0]) (x) := ⟨_, _, rfl, k0s, k0d⟩
  have hsz0 := bb.size
  have sB := bb.size
  refine flowp 3 [Pd.eq (.agg #[.bool (ngB (x).num), .slice A0 (digs 4294967296 (x).num.natAbs).length c0, .slice D0 (digs 4294967296 (x).den).length e0]), Pd.eq (.int .i64 0), Pd.eq (.bool true)] (by kernel_rfl) ?ob22 ?done22
  case ob22 =>
    refine And.intro (ob_load rfl (wt_none rfl) (ev_far rfl rfl) (fun w2 hb => run_loadAll Tryz.underlying27 rfl (by kernel_rfl) (B0.below hb)) (fun _ _ => rfl)) ?_
    refine And.intro (ob_call1 rfl Tryz.func18 (by kernel_rfl) (wt_none rfl) (ev_dep (j := 0) (by kernel_rfl) rfl rfl) (fun w2 u0 hb h0 => by obtain rfl := h0; exact (fsign0_any _ x 0 _ (k0.below hb) HS.out).mono fun e w3 h => RetV.pd h)) ?_
    refine And.intro (ob_bin rfl (wt_none rfl) (ev_dep (j := 1) (by kernel_rfl) rfl rfl) (ev_const _) (fun _ _ _ hx hy => ⟨.bool ((0 : Int) == 0), by rw [hx, hy]; exact bin_eql_int _ _ _ _ _, congrArg Value.bool (by decide)⟩)) ?_
    trivial
  case done22 =>
    refine fun w1 hb1 v0 h0 v1 h1 v2 h2 b hbf => ?_
    obtain rfl := h0; obtain rfl := h1; obtain rfl := h2
    simp only [Act.put, List.setIfInBounds_toArray, List.set_cons_zero, List.set_cons_succ] at hbf
    subst hbf
    replace B0 := B0.below hb1
    replace k0s := k0s.below hb1
    replace k0d := k0d.below hb1
    replace k0z := k0z.below hb1
    replace k0 := k0.below hb1
    replace BR0 := BR0.below hb1
    replace bb := bb.trans (hb1.mono bb.size)
    have hsz1 := bb.size
    refine ops_done ?_
    have sB := bb.size
    go_upto_region 2 with (fail)
    refine flowp 1 [Pd.eq (.agg #[.bool false, .slice none 0 0, .slice none 0 0])] (by kernel_rfl) ?ob23 ?done23
    case ob23 =>
      refine And.intro (ob_build0 (v := .agg #[.bool false, .slice none 0 0, .slice none 0 0]) rfl (wt_none rfl) (fun _ => by kernel_rfl) (fun _ => rfl)) ?_
      trivial
    case done23 =>
      refine fun w2 hb2 v0 h0 b hbf => ?_
      obtain rfl := h0
      simp only [Act.put, List.setIfInBounds_toArray, List.set_cons_zero, List.set_cons_succ] at hbf
      subst hbf
      replace B0 := B0.below hb2
      replace k0s := k0s.below hb2
      replace k0d := k0d.below hb2
      replace k0z := k0z.below hb2
      replace k0 := k0.below hb2
      replace BR0 := BR0.below hb2
      replace bb := bb.trans (hb2.mono bb.size)
      have hsz2 := bb.size
      refine ops_store (i := 1) rfl rfl rfl rfl rfl rfl (cells := [.bool false, .slice none 0 0, .slice none 0 0]) rfl BR0 rfl (by kernel_rfl) (one3 rfl rfl rfl) fun w9 hg9 B9 => ?_
      have bb9 := bb.trans ((Below.refl _ _).grown hg9 bb.size (fun g hg => by injection hg with hg; omega))
      obtain ⟨C0, C1, C2, _, _, _⟩ := three B9
      refine ops_assign (i := 2) (.int .i64 3) rfl rfl rfl rfl rfl fun b hbf => ?_
      simp only [Act.put, List.setIfInBounds_toArray, List.set_cons_zero, List.set_cons_succ] at hbf
      subst hbf
      refine ops_done ?_
      go_wp2
      exact bodyPost_ret (v := .tuple #[.agg #[.bool false, .slice none 0 0, .slice none 0 0], .int .i64 3]) (by simp [results, Tryz.results23, go_sem, C0, C1, C2]) rfl ⟨rfl, bb9⟩
set_option maxHeartbeats 1600000 in
set_option maxRecDepth 100000 in
theorem inv8_ok (a0 : Value) (x : Rat) (w : World) (h0 : IsQ w a0 x) (hl : lenQ x 1000000) (hy : x ≠ 0) :
    Calls Tryz.prog 23 #[a0] w (RetQF x⁻¹ 0 w) := by
  rcases Int.lt_or_gt_of_ne (fun e => hy (Rat.num_eq_zero.1 e) : x.num ≠ 0) with hlt | hlt
  · obtain ⟨u0, t0, rfl, s0, r0⟩ := h0
    obtain ⟨A0, c0, rfl, _⟩ := id s0
    obtain ⟨D0, e0, rfl, _⟩ := id r0
    obtain ⟨Q, hQ⟩ : ∃ Q, Q = x⁻¹ := ⟨_, rfl⟩
    have HQ0 : Hid (x⁻¹ = Q) := hQ.symm
    have HQN : Hid (Q.num = sg (ngB x.num) x.den) := by show _ = _; rw [hQ, (inv_parts hy).1]
    have HQD : Hid (x.num.natAbs = Q.den) := by show _ = _; rw [hQ, (inv_parts hy).2]
    have HS : Hid (((-1) : Int) = ordz x.num 0) := (ordz_lt hlt).symm
    clear hQ
    go_enter Tryz.func23, Tryz.ntmps23
    go_upto_region 1 with (fail)
    obtain ⟨wx, hwx, bb, B0, BR0, hsz⟩ := vars2 w 27 27 #[.bool (ngB (x).num), .slice A0 (digs 4294967296 (x).num.natAbs).length c0, .slice D0 (digs 4294967296 (x).den).length e0] #[.bool false, .slice none 0 0, .slice none 0 0]
    rw [hwx]
    clear hwx
    have k0s := s0.below bb
    have k0d := r0.below bb
    have k0z : IsZ wx (.agg #[.bool (ngB (x).num), .slice A0 (digs 4294967296 (x).num.natAbs).length c0]) (x).num := ⟨_, rfl, k0s⟩
    have k0 : IsQ wx (.agg #[.bool (ngB (x).num), .slice A0 (digs 4294967296 (x).num.natAbs).length c0, .slice D0 (digs 4294967296 (x).den).length e0]) (x) := ⟨_, _, rfl, k0s, k0d⟩
    have hsz0 := bb.size
    have sB := bb.size
    refine flowp 3 [Pd.eq (.agg #[.bool (ngB (x).num), .slice A0 (digs 4294967296 (x).num.natAbs).length c0, .slice D0 (digs 4294967296 (x).den).length e0]), Pd.eq (.int .i64 (-1)), Pd.eq (.bool false)] (by kernel_rfl) ?ob24 ?done24
    case ob24 =>
      refine And.intro (ob_load rfl (wt_none rfl) (ev_far rfl rfl) (fun w2 hb => run_loadAll Tryz.underlying27 rfl (by kernel_rfl) (B0.below hb)) (fun _ _ => rfl)) ?_
      refine And.intro (ob_call1 rfl Tryz.func18 (by kernel_rfl) (wt_none rfl) (ev_dep (j := 0) (by kernel_rfl) rfl rfl) (fun w2 u0 hb h0 => by obtain rfl := h0; exact (fsign0_any _ x (-1) _ (k0.below hb) HS.out).mono fun e w3 h => RetV.pd h)) ?_
      refine And.intro (ob_bin rfl (wt_none rfl) (ev_dep (j := 1) (by kernel_rfl) rfl rfl) (ev_const _) (fun _ _ _ hx hy => ⟨.bool ((-1 : Int) == 0), by rw [hx, hy]; exact bin_eql_int _ _ _ _ _, congrArg Value.bool (by decide)⟩)) ?_
      trivial
    case done24 =>
      refine fun w1 hb1 v0 h0 v1 h1 v2 h2 b hbf => ?_
      obtain rfl := h0; obtain rfl := h1; obtain rfl := h2
      simp only [Act.put, List.setIfInBounds_toArray, List.set_cons_zero, List.set_cons_succ] at hbf
      subst hbf
      replace B0 := B0.below hb1
      replace k0s := k0s.below hb1
      replace k0d := k0d.below hb1
      replace k0z := k0z.below hb1
      replace k0 := k0.below hb1
      replace BR0 := BR0.below hb1
      replace bb := bb.trans (hb1.mono bb.size)
      have hsz1 := bb.size
      refine ops_done ?_
      have sB := bb.size
      go_upto_region 3 with (fail)
      refine flow 11 [Pd.eq (.pointer (some ⟨w.heap.size, 0, none⟩)), Pd.eq (.pointer (some ⟨w.heap.size, 0, none⟩)), Pd.eq (.bool (ngB (x).num)), Pd.eq (.pointer (some ⟨w.heap.size, 2, none⟩)), Pd.eq (.slice D0 (digs 4294967296 (x).den).length e0), pz ((Q).num) w1.heap.size, Pd.eq (.pointer (some ⟨w.heap.size, 0, none⟩)), Pd.eq (.pointer (some ⟨w.heap.size, 1, none⟩)), Pd.eq (.slice A0 (digs 4294967296 (x).num.natAbs).length c0), ps .u64 (digs 4294967296 (Q).den) w1.heap.size, pq (Q) w1.heap.size] (by kernel_rfl) (by kernel_rfl) ?ob25 ?done25
      case ob25 =>
        refine And.intro (ob_fieldAddr rfl (wt_none rfl) (ev_far rfl rfl) (fun _ => by kernel_rfl) (fun _ => rfl)) ?_
        refine And.intro (ob_fieldAddr rfl (wt_none rfl) (ev_dep (j := 0) (by kernel_rfl) rfl rfl) (fun _ => by kernel_rfl) (fun _ => rfl)) ?_
        refine And.intro (ob_load rfl (wt_none rfl) (ev_dep (j := 1) (by kernel_rfl) rfl rfl) (fun w2 hb => run_load1 Tryz.underlying4 rfl ((B0.drew.below hb).cell 0)) (fun _ _ => rfl)) ?_
        refine And.intro (ob_fieldAddr rfl (wt_none rfl) (ev_far rfl rfl) (fun _ => by kernel_rfl) (fun _ => rfl)) ?_
        refine And.intro (ob_load rfl (wt_none rfl) (ev_dep (j := 3) (by kernel_rfl) rfl rfl) (fun w2 hb => run_load1 Tryz.underlying23 rfl ((B0.drew.below hb).cell 2)) (fun _ _ => rfl)) ?_
        refine And.intro (ob_call2 rfl Tryz.func57 (by kernel_rfl) (wt_none rfl) (ev_dep (j := 2) (by kernel_rfl) rfl rfl) (ev_dep (j := 4) (by kernel_rfl) rfl rfl) (fun w2 u0 u1 hb h0 h1 => by obtain rfl := h0; obtain rfl := h1; exact (made_any _ _ x.den (Q).num _ (k0d.drew.below hb) (Nat.le_trans hl.2 (by decide)) HQN.out).mono fun e w3 h => RetZ.pd h hb.size)) ?_
        refine And.intro (ob_fieldAddr rfl (wt_none rfl) (ev_far rfl rfl) (fun _ => by kernel_rfl) (fun _ => rfl)) ?_
        refine And.intro (ob_fieldAddr rfl (wt_none rfl) (ev_dep (j := 6) (by kernel_rfl) rfl rfl) (fun _ => by kernel_rfl) (fun _ => rfl)) ?_
        refine And.intro (ob_load rfl (wt_none rfl) (ev_dep (j := 7) (by kernel_rfl) rfl rfl) (fun w2 hb => run_load1 Tryz.underlying23 rfl ((B0.drew.below hb).cell 1)) (fun _ _ => rfl)) ?_
        refine And.intro (ob_call1 rfl Tryz.func58 (by kernel_rfl) (wt_none rfl) (ev_dep (j := 8) (by kernel_rfl) rfl rfl) (fun w2 u0 hb h0 => by obtain rfl := h0; exact (clone_any _ _ _ (k0s.drew.below hb) (Nat.le_trans hl.1 (by decide))).mono fun e w3 h => RetS.pd (RetS.to h (congrArg (digs 4294967296) HQD.out)) hb.size)) ?_
        refine And.intro (ob_build2b rfl (wt_none rfl) (ev_dep (j := 5) (by kernel_rfl) rfl rfl) (ev_dep (j := 9) (by kernel_rfl) rfl rfl) (fun w2 u v hb hu hv => by obtain ⟨u7, rfl, hu7⟩ := hu.1; obtain ⟨A7, c7, rfl, _⟩ := id hu7; obtain ⟨A8, c8, rfl, _⟩ := id hv.1; exact ⟨.agg #[.bool (ngB (Q).num), .slice A7 (digs 4294967296 (Q).num.natAbs).length c7, .slice A8 (digs 4294967296 (Q).den).length c8], by kernel_rfl, ⟨⟨_, _, rfl, hu7, hv.1⟩, freshQ_mk (hu.2 _ _ rfl) hv.2⟩⟩)) ?_
        trivial
      case done25 =>
        refine fun w2 hb2 v0 h0 v1 h1 v2 h2 v3 h3 v4 h4 v5 h5 v6 h6 v7 h7 v8 h8 v9 h9 v10 h10 b hbf => ?_
        obtain rfl := h0; obtain rfl := h1; obtain rfl := h2; obtain rfl := h3; obtain rfl := h4; obtain rfl := h6; obtain rfl := h7; obtain rfl := h8
        obtain ⟨q5, f5⟩ := h5
        obtain ⟨q9, f9⟩ := h9
        obtain ⟨q10, f10⟩ := h10
        simp only [Act.put, List.setIfInBounds_toArray, List.set_cons_zero, List.set_cons_succ] at hbf
        subst hbf
        replace B0 := B0.below hb2
        replace k0s := k0s.below hb2
        replace k0d := k0d.below hb2
        replace k0z := k0z.below hb2
        replace k0 := k0.below hb2
        replace BR0 := BR0.below hb2
        replace bb := bb.trans (hb2.mono bb.size)
        have hsz2 := bb.size
        have s_5 := sB
        have s_9 := sB
        have s_10 := sB
        obtain ⟨u10, t10, rfl, q10, d10⟩ := q10
        obtain ⟨A9, c9, rfl, _⟩ := id q10
        obtain ⟨D9, e9, rfl, _⟩ := id d10
        have fS := (f10 _ _ _ rfl).1.mono s_10
        have fT := (f10 _ _ _ rfl).2.mono s_10
        refine any_store (i := 11) (by kernel_rfl) rfl rfl rfl rfl rfl rfl (cells := [.bool (ngB (Q).num), .slice A9 (digs 4294967296 (Q).num.natAbs).length c9, .slice D9 (digs 4294967296 (Q).den).length e9]) rfl BR0 rfl (by kernel_rfl) (one3 rfl rfl rfl) fun w9 hg9 B9 => ?_
        have k9 := off q10 BR0 no_ints3 hg9
        have d9 := off d10 BR0 no_ints3 hg9
        have bb9 := bb.trans ((Below.refl _ _).grown hg9 bb.size (fun g hg => by injection hg with hg; omega))
        obtain ⟨C0, C1, C2, _, _, _⟩ := three B9
        refine any_assign (i := 12) (.int .i64 0) (by kernel_rfl) rfl rfl rfl rfl rfl fun b hbf => ?_
        simp only [Act.put, List.setIfInBounds_toArray, List.set_cons_zero, List.set_cons_succ] at hbf
        subst hbf
        refine any_done (by kernel_rfl) ?_
        go_wp2
        rw [HQ0.out]
        exact bodyPost_ret (v := .tuple #[.agg #[.bool (ngB (Q).num), .slice A9 (digs 4294967296 (Q).num.natAbs).length c9, .slice D9 (digs 4294967296 (Q).den).length e9], .int .i64 0]) (by simp [results, Tryz.results23, go_sem, C0, C1, C2]) rfl ⟨_, rfl, isQ_mk k9 d9 rfl rfl rfl, freshQ_mk fS fT, bb9⟩
  · obtain ⟨u0, t0, rfl, s0, r0⟩ := h0
    obtain ⟨A0, c0, rfl, _⟩ := id s0
    obtain ⟨D0, e0, rfl, _⟩ := id r0
    obtain ⟨Q, hQ⟩ : ∃ Q, Q = x⁻¹ := ⟨_, rfl⟩
    have HQ0 : Hid (x⁻¹ = Q) := hQ.symm
    have HQN : Hid (Q.num = sg (ngB x.num) x.den) := by show _ = _; rw [hQ, (inv_parts hy).1]
    have HQD : Hid (x.num.natAbs = Q.den) := by show _ = _; rw [hQ, (inv_parts hy).2]
    have HS : Hid ((1 : Int) = ordz x.num 0) := (ordz_gt hlt).symm
    clear hQ
    go_enter Tryz.func23, Tryz.ntmps23
    go_upto_region 1 with (fail)
    obtain ⟨wx, hwx, bb, B0, BR0, hsz⟩ := vars2 w 27 27 #[.bool (ngB (x).num), .slice A0 (digs 4294967296 (x).num.natAbs).length c0, .slice D0 (digs 4294967296 (x).den).length e0] #[.bool false, .slice none 0 0, .slice none 0 0]
    rw [hwx]
    clear hwx
    have k0s := s0.below bb
    have k0d := r0.below bb
    have k0z : IsZ wx (.agg #[.bool (ngB (x).num), .slice A0 (digs 4294967296 (x).num.natAbs).length c0]) (x).num := ⟨_, rfl, k0s⟩
    have k0 : IsQ wx (.agg #[.bool (ngB (x).num), .slice A0 (digs 4294967296 (x).num.natAbs).length c0, .slice D0 (digs 4294967296 (x).den).length e0]) (x) := ⟨_, _, rfl, k0s, k0d⟩
    have hsz0 := bb.size
    have sB := bb.size
    refine flowp 3 [Pd.eq (.agg #[.bool (ngB (x).num), .slice A0 (digs 4294967296 (x).num.natAbs).length c0, .slice D0 (digs 4294967296 (x).den).length e0]), Pd.eq (.int .i64 1), Pd.eq (.bool false)] (by kernel_rfl) ?ob26 ?done26
    case ob26 =>
      refine And.intro (ob_load rfl (wt_none rfl) (ev_far rfl rfl) (fun w2 hb => run_loadAll Tryz.underlying27 rfl (by kernel_rfl) (B0.below hb)) (fun _ _ => rfl)) ?_
      refine And.intro (ob_call1 rfl Tryz.func18 (by kernel_rfl) (wt_none rfl) (ev_dep (j := 0) (by kernel_rfl) rfl rfl) (fun w2 u0 hb h0 => by obtain rfl := h0; exact (fsign0_any _ x 1 _ (k0.below hb) HS.out).mono fun e w3 h => RetV.pd h)) ?_
      refine And.intro (ob_bin rfl (wt_none rfl) (ev_dep (j := 1) (by kernel_rfl) rfl rfl) (ev_const _) (fun _ _ _ hx hy => ⟨.bool ((1 : Int) == 0), by rw [hx, hy]; exact bin_eql_int _ _ _ _ _, congrArg Value.bool (by decide)⟩)) ?_
      trivial
    case done26 =>
      refine fun w1 hb1 v0 h0 v1 h1 v2 h2 b hbf => ?_
      obtain rfl := h0; obtain rfl := h1; obtain rfl := h2
      simp only [Act.put, List.setIfInBounds_toArray, List.set_cons_zero, List.set_cons_succ] at hbf
      subst hbf
      replace B0 := B0.below hb1
      replace k0s := k0s.below hb1
      replace k0d := k0d.below hb1
      replace k0z := k0z.below hb1
      replace k0 := k0.below hb1
      replace BR0 := BR0.below hb1
      replace bb := bb.trans (hb1.mono bb.size)
      have hsz1 := bb.size
      refine ops_done ?_
      have sB := bb.size
      go_upto_region 3 with (fail)
      refine flow 11 [Pd.eq (.pointer (some ⟨w.heap.size, 0, none⟩)), Pd.eq (.pointer (some ⟨w.heap.size, 0, none⟩)), Pd.eq (.bool (ngB (x).num)), Pd.eq (.pointer (some ⟨w.heap.size, 2, none⟩)), Pd.eq (.slice D0 (digs 4294967296 (x).den).length e0), pz ((Q).num) w1.heap.size, Pd.eq (.pointer (some ⟨w.heap.size, 0, none⟩)), Pd.eq (.pointer (some ⟨w.heap.size, 1, none⟩)), Pd.eq (.slice A0 (digs 4294967296 (x).num.natAbs).length c0), ps .u64 (digs 4294967296 (Q).den) w1.heap.size, pq (Q) w1.heap.size] (by kernel_rfl) (by kernel_rfl) ?ob27 ?done27
      case ob27 =>
        refine And.intro (ob_fieldAddr rfl (wt_none rfl) (ev_far rfl rfl) (fun _ => by kernel_rfl) (fun _ => rfl)) ?_
        refine And.intro (ob_fieldAddr rfl (wt_none rfl) (ev_dep (j := 0) (by kernel_rfl) rfl rfl) (fun _ => by kernel_rfl) (fun _ => rfl)) ?_
        refine And.intro (ob_load rfl (wt_none rfl) (ev_dep (j := 1) (by kernel_rfl) rfl rfl) (fun w2 hb => run_load1 Tryz.underlying4 rfl ((B0.drew.below hb).cell 0)) (fun _ _ => rfl)) ?_
        refine And.intro (ob_fieldAddr rfl (wt_none rfl) (ev_far rfl rfl) (fun _ => by kernel_rfl) (fun _ => rfl)) ?_
        refine And.intro (ob_load rfl (wt_none rfl) (ev_dep (j := 3) (by kernel_rfl) rfl rfl) (fun w2 hb => run_load1 Tryz.underlying23 rfl ((B0.drew.below hb).cell 2)) (fun _ _ => rfl)) ?_
        refine And.intro (ob_call2 rfl Tryz.func57 (by kernel_rfl) (wt_none rfl) (ev_dep (j := 2) (by kernel_rfl) rfl rfl) (ev_dep (j := 4) (by kernel_rfl) rfl rfl) (fun w2 u0 u1 hb h0 h1 => by obtain rfl := h0; obtain rfl := h1; exact (made_any _ _ x.den (Q).num _ (k0d.drew.below hb) (Nat.le_trans hl.2 (by decide)) HQN.out).mono fun e w3 h => RetZ.pd h hb.size)) ?_
        refine And.intro (ob_fieldAddr rfl (wt_none rfl) (ev_far rfl rfl) (fun _ => by kernel_rfl) (fun _ => rfl)) ?_
        refine And.intro (ob_fieldAddr rfl (wt_none rfl) (ev_dep (j := 6) (by kernel_rfl) rfl rfl) (fun _ => by kernel_rfl) (fun _ => rfl)) ?_
        refine And.intro (ob_load rfl (wt_none rfl) (ev_dep (j := 7) (by kernel_rfl) rfl rfl) (fun w2 hb => run_load1 Tryz.underlying23 rfl ((B0.drew.below hb).cell 1)) (fun _ _ => rfl)) ?_
        refine And.intro (ob_call1 rfl Tryz.func58 (by kernel_rfl) (wt_none rfl) (ev_dep (j := 8) (by kernel_rfl) rfl rfl) (fun w2 u0 hb h0 => by obtain rfl := h0; exact (clone_any _ _ _ (k0s.drew.below hb) (Nat.le_trans hl.1 (by decide))).mono fun e w3 h => RetS.pd (RetS.to h (congrArg (digs 4294967296) HQD.out)) hb.size)) ?_
        refine And.intro (ob_build2b rfl (wt_none rfl) (ev_dep (j := 5) (by kernel_rfl) rfl rfl) (ev_dep (j := 9) (by kernel_rfl) rfl rfl) (fun w2 u v hb hu hv => by obtain ⟨u7, rfl, hu7⟩ := hu.1; obtain ⟨A7, c7, rfl, _⟩ := id hu7; obtain ⟨A8, c8, rfl, _⟩ := id hv.1; exact ⟨.agg #[.bool (ngB (Q).num), .slice A7 (digs 4294967296 (Q).num.natAbs).length c7, .slice A8 (digs 4294967296 (Q).den).length c8], by kernel_rfl, ⟨⟨_, _, rfl, hu7, hv.1⟩, freshQ_mk (hu.2 _ _ rfl) hv.2⟩⟩)) ?_
        trivial
      case done27 =>
        refine fun w2 hb2 v0 h0 v1 h1 v2 h2 v3 h3 v4 h4 v5 h5 v6 h6 v7 h7 v8 h8 v9 h9 v10 h10 b hbf => ?_
        obtain rfl := h0; obtain rfl := h1; obtain rfl := h2; obtain rfl := h3; obtain rfl := h4; obtain rfl := h6; obtain rfl := h7; obtain rfl := h8
        obtain ⟨q5, f5⟩ := h5
        obtain ⟨q9, f9⟩ := h9
        obtain ⟨q10, f10⟩ := h10
        simp only [Act.put, List.setIfInBounds_toArray, List.set_cons_zero, List.set_cons_succ] at hbf
        subst hbf
        replace B0 := B0.below hb2
        replace k0s := k0s.below hb2
        replace k0d := k0d.below hb2
        replace k0z := k0z.below hb2
        replace k0 := k0.below hb2
        replace BR0 := BR0.below hb2
        replace bb := bb.trans (hb2.mono bb.size)
        have hsz2 := bb.size
        have s_5 := sB
        have s_9 := sB
        have s_10 := sB
        obtain ⟨u10, t10, rfl, q10, d10⟩ := q10
        obtain ⟨A9, c9, rfl, _⟩ := id q10
        obtain ⟨D9, e9, rfl, _⟩ := id d10
        have fS := (f10 _ _ _ rfl).1.mono s_10
        have fT := (f10 _ _ _ rfl).2.mono s_10
        refine any_store (i := 11) (by kernel_rfl) rfl rfl rfl rfl rfl rfl (cells := [.bool (ngB (Q).num), .slice A9 (digs 4294967296 (Q).num.natAbs).length c9, .slice D9 (digs 4294967296 (Q).den).length e9]) rfl BR0 rfl (by kernel_rfl) (one3 rfl rfl rfl) fun w9 hg9 B9 => ?_
        have k9 := off q10 BR0 no_ints3 hg9
        have d9 := off d10 BR0 no_ints3 hg9
        have bb9 := bb.trans ((Below.refl _ _).grown hg9 bb.size (fun g hg => by injection hg with hg; omega))
        obtain ⟨C0, C1, C2, _, _, _⟩ := three B9
        refine any_assign (i := 12) (.int .i64 0) (by kernel_rfl) rfl rfl rfl rfl rfl fun b hbf => ?_
        simp only [Act.put, List.setIfInBounds_toArray, List.set_cons_zero, List.set_cons_succ] at hbf
        subst hbf
        refine any_done (by kernel_rfl) ?_
        go_wp2
        rw [HQ0.out]
        exact bodyPost_ret (v := .tuple #[.agg #[.bool (ngB (Q).num), .slice A9 (digs 4294967296 (Q).num.natAbs).length c9, .slice D9 (digs 4294967296 (Q).den).length e9], .int .i64 0]) (by simp [results, Tryz.results23, go_sem, C0, C1, C2]) rfl ⟨_, rfl, isQ_mk k9 d9 rfl rfl rfl, freshQ_mk fS fT, bb9⟩
theorem finv_ok (a0 : Value) (x : Rat) (w : World) (h0 : IsQ w a0 x) (hl : lenQ x 1000) (hy : x ≠ 0) : Calls Tryz.prog 23 #[a0] w (RetQE x⁻¹ 0 w) :=
  (inv8_ok a0 x w h0 (hl.mono (by decide)) hy).mono fun _ _ h => h.e

set_option maxHeartbeats 3200000 in
set_option maxRecDepth 100000 in
theorem mul8_any (a0 : Value) (x : Rat) (a1 : Value) (y : Rat) (w : World) (h0 : IsQ w a0 x) (h1 : IsQ w a1 y) (hl : lenQ x 10000) (hl2 : lenQ y 10000) :
    Calls Tryz.prog 14 #[a0, a1] w (RetQ (x * y) w) := by
  obtain ⟨u0, t0, rfl, s0, r0⟩ := h0
  obtain ⟨A0, c0, rfl, _⟩ := id s0
  obtain ⟨D0, e0, rfl, _⟩ := id r0
  obtain ⟨u1, t1, rfl, s1, r1⟩ := h1
  obtain ⟨A1, c1, rfl, _⟩ := id s1
  obtain ⟨D1, e1, rfl, _⟩ := id r1
  obtain ⟨U, hU⟩ : ∃ U, U = (mkRat x.num y.den).num := ⟨_, rfl⟩
  obtain ⟨L, hL⟩ : ∃ L, L = (mkRat x.num y.den).den := ⟨_, rfl⟩
  obtain ⟨V, hV⟩ : ∃ V, V = (mkRat y.num x.den).num := ⟨_, rfl⟩
  obtain ⟨M, hM⟩ : ∃ M, M = (mkRat y.num x.den).den := ⟨_, rfl⟩
  obtain ⟨Q, hQ⟩ : ∃ Q, Q = x * y := ⟨_, rfl⟩
  have HQ0 : Hid (x * y = Q) := hQ.symm
  have HP := mul_parts x y
  rw [← hU, ← hL, ← hV, ← hM, ← hQ] at HP
  have HQN : Hid (U * V = (Q).num) := HP.1.symm
  have HQD : Hid (M * L = (Q).den) := HP.2.symm
  have lx1 := hl.1
  have lx2 := hl.2
  have ly1 := hl2.1
  have ly2 := hl2.2
  have HX : Hid (x.den ≠ 0) := x.den_nz
  have HY : Hid (y.den ≠ 0) := y.den_nz
  have lU : lenQ (mkRat x.num y.den) 10000 := lenQ_mk HY.out lx1 ly2
  have lV : lenQ (mkRat y.num x.den) 10000 := lenQ_mk HX.out ly1 lx2
  unfold lenQ at lU lV
  rw [← hU, ← hL] at lU
  rw [← hV, ← hM] at lV
  have HU := Lib.hid hU
  have HL := Lib.hid hL
  have HV := Lib.hid hV
  have HM := Lib.hid hM
  clear hU hL hV hM hQ HP
  go_enter Tryz.func14, Tryz.ntmps14
  go_upto_region 1 with (fail)
  obtain ⟨wx, hwx, bb, B0, B1, BR0, hsz⟩ := vars3 w 27 27 27 #[.bool (ngB (x).num), .slice A0 (digs 4294967296 (x).num.natAbs).length c0, .slice D0 (digs 4294967296 (x).den).length e0] #[.bool (ngB (y).num), .slice A1 (digs 4294967296 (y).num.natAbs).length c1, .slice D1 (digs 4294967296 (y).den).length e1] #[.bool false, .slice none 0 0, .slice none 0 0]
  rw [hwx]
  clear hwx
  have k0s := s0.below bb
  have k0d := r0.below bb
  have k0z : IsZ wx (.agg #[.bool (ngB (x).num), .slice A0 (digs 4294967296 (x).num.natAbs).length c0]) (x).num := ⟨_, rfl, k0s⟩
  have k0 : IsQ wx (.agg #[.bool (ngB (x).num), .slice A0 (digs 4294967296 (x).num.natAbs).length c0, .slice D0 (digs 4294967296 (x).den).length e0]) (x) := ⟨_, _, rfl, k0s, k0d⟩
  have k1s := s1.below bb
  have k1d := r1.below bb
  have k1z : IsZ wx (.agg #[.bool (ngB (y).num), .slice A1 (digs 4294967296 (y).num.natAbs).length c1]) (y).num := ⟨_, rfl, k1s⟩
  have k1 : IsQ wx (.agg #[.bool (ngB (y).num), .slice A1 (digs 4294967296 (y).num.natAbs).length c1, .slice D1 (digs 4294967296 (y).den).length e1]) (y) := ⟨_, _, rfl, k1s, k1d⟩
  have hsz0 := bb.size
  have sB := bb.size
  have lt0_2 := Blk.lt B0
  have lt0_3 := Blk.lt B1
  have lt0_4 := Blk.lt BR0
  refine flowp 9 [Pd.eq (.pointer (some ⟨w.heap.size, 0, none⟩)), Pd.eq (.agg #[.bool (ngB (x).num), .slice A0 (digs 4294967296 (x).num.natAbs).length c0]), Pd.eq (.pointer (some ⟨w.heap.size + 1, 2, none⟩)), Pd.eq (.slice D1 (digs 4294967296 (y).den).length e1), pzs (U) (L) wx.heap.size, pzs (U) (L) wx.heap.size, pz (U) wx.heap.size, ps .u64 (digs 4294967296 L) wx.heap.size, pn 25 #[.bool false, .slice none 0 0] wx.heap.size] (by kernel_rfl) ?ob28 ?done28
  case ob28 =>
    refine And.intro (ob_fieldAddr rfl (wt_none rfl) (ev_far rfl rfl) (fun _ => by kernel_rfl) (fun _ => rfl)) ?_
    refine And.intro (ob_load rfl (wt_none rfl) (ev_dep (j := 0) (by kernel_rfl) rfl rfl) (fun w2 hb => run_loadPart Tryz.underlying25 rfl (by kernel_rfl) (B0.below hb) rfl) (fun _ _ => rfl)) ?_
    refine And.intro (ob_fieldAddr rfl (wt_none rfl) (ev_far rfl rfl) (fun _ => by kernel_rfl) (fun _ => rfl)) ?_
    refine And.intro (ob_load rfl (wt_none rfl) (ev_dep (j := 2) (by kernel_rfl) rfl rfl) (fun w2 hb => run_load1 Tryz.underlying23 rfl ((B1.below hb).cell 2)) (fun _ _ => rfl)) ?_
    refine And.intro (ob_call2 rfl Tryz.func42 (by kernel_rfl) (wt_none rfl) (ev_dep (j := 1) (by kernel_rfl) rfl rfl) (ev_dep (j := 3) (by kernel_rfl) rfl rfl) (fun w2 u0 u1 hb h0 h1 => by obtain rfl := h0; obtain rfl := h1; exact (reduced_any _ x.num _ y.den U L _ (k0z.below hb) (k1d.below hb) HY.out (Nat.le_trans lx1 (by decide)) (Nat.le_trans ly2 (by decide)) HU.out HL.out).mono fun e w3 h => RetZS.pd h hb.size)) ?_
    refine And.intro (ob_move rfl (wt_none rfl) (ev_dep (j := 4) (by kernel_rfl) rfl rfl) (fun _ _ h => h)) ?_
    refine And.intro (ob_extract rfl (wt_none rfl) (ev_dep (j := 5) (by kernel_rfl) rfl rfl) (fun w2 u hu => by obtain ⟨v, u, rfl, q1, q2, q3, q4⟩ := hu; exact ⟨v, rfl, q1, q3⟩)) ?_
    refine And.intro (ob_extract rfl (wt_none rfl) (ev_dep (j := 5) (by kernel_rfl) rfl rfl) (fun w2 u hu => by obtain ⟨v, u, rfl, q1, q2, q3, q4⟩ := hu; exact ⟨u, rfl, q2, q4⟩)) ?_
    refine And.intro (ob_alloc (z := .agg #[.bool false, .slice none 0 0]) rfl rfl (fun _ => by kernel_rfl) (fun _ _ hB h => ⟨_, rfl, hB, h⟩)) ?_
    trivial
  case done28 =>
    refine fun w1 hb1 v0 h0 v1 h1 v2 h2 v3 h3 v4 h4 v5 h5 v6 h6 v7 h7 v8 h8 d8 b hbf => ?_
    obtain rfl := h0; obtain rfl := h1; obtain rfl := h2; obtain rfl := h3
    clear h4
    clear h5
    obtain ⟨q6, f6⟩ := h6
    obtain ⟨q7, f7⟩ := h7
    obtain ⟨g28_8, rfl, hg8, B8⟩ := h8
    simp only [Act.put, List.setIfInBounds_toArray, List.set_cons_zero, List.set_cons_succ] at hbf
    subst hbf
    replace B0 := B0.below hb1
    replace k0s := k0s.below hb1
    replace k0d := k0d.below hb1
    replace k0z := k0z.below hb1
    replace k0 := k0.below hb1
    replace B1 := B1.below hb1
    replace k1s := k1s.below hb1
    replace k1d := k1d.below hb1
    replace k1z := k1z.below hb1
    replace k1 := k1.below hb1
    replace BR0 := BR0.below hb1
    replace bb := bb.trans (hb1.mono bb.size)
    have hsz1 := bb.size
    have s_6 := sB
    have s_7 := sB
    obtain ⟨A16, c16, rfl, _⟩ := id q7
    have n16 := q7
    have n16f := f7
    have n16z_ := s_7
    have BA5 := B8
    obtain ⟨u6, rfl, q6⟩ := q6
    obtain ⟨A5, c5, rfl, _⟩ := id q6
    refine ops_store (i := 9) rfl rfl rfl rfl rfl rfl (cells := [.bool (ngB U), .slice A5 (digs 4294967296 (U).natAbs).length c5]) rfl BA5 rfl (by kernel_rfl) (one2 rfl rfl) fun w2 hg2 BN2 => ?_
    replace q6 := off q6 BA5 no_ints2 hg2
    replace n16 := off n16 BA5 no_ints2 hg2
    replace k0s := off k0s BA5 no_ints2 hg2
    replace k0d := off k0d BA5 no_ints2 hg2
    replace k0z : IsZ w2 (.agg #[.bool (ngB (x).num), .slice A0 (digs 4294967296 (x).num.natAbs).length c0]) ((x).num) := ⟨_, rfl, k0s⟩
    replace k0 : IsQ w2 (.agg #[.bool (ngB (x).num), .slice A0 (digs 4294967296 (x).num.natAbs).length c0, .slice D0 (digs 4294967296 (x).den).length e0]) (x) := ⟨_, _, rfl, k0s, k0d⟩
    replace B0 := B0.grown hg2 (by omega)
    replace k1s := off k1s BA5 no_ints2 hg2
    replace k1d := off k1d BA5 no_ints2 hg2
    replace k1z : IsZ w2 (.agg #[.bool (ngB (y).num), .slice A1 (digs 4294967296 (y).num.natAbs).length c1]) ((y).num) := ⟨_, rfl, k1s⟩
    replace k1 : IsQ w2 (.agg #[.bool (ngB (y).num), .slice A1 (digs 4294967296 (y).num.natAbs).length c1, .slice D1 (digs 4294967296 (y).den).length e1]) (y) := ⟨_, _, rfl, k1s, k1d⟩
    replace B1 := B1.grown hg2 (by omega)
    replace BR0 := BR0.grown hg2 (by omega)
    replace bb := bb.trans ((Below.refl _ _).grown hg2 bb.size (fun g hg => by injection hg with hg; omega))
    have hsz2 := bb.size
    have B5 : Blk w2 (g28_8) _ _ := BN2
    have k5s := q6
    have k5 : IsZ w2 (.agg #[.bool (ngB U), .slice A5 (digs 4294967296 (U).natAbs).length c5]) (U) := ⟨_, rfl, k5s⟩
    refine ops_assign (i := 10) (.slice A16 (digs 4294967296 L).length c16) rfl rfl rfl rfl rfl fun b hbf => ?_
    simp only [Act.put, List.setIfInBounds_toArray, List.set_cons_zero, List.set_cons_succ] at hbf
    subst hbf
    refine ops_done ?_
    have f5_ := (f6 _ _ rfl).mono s_6
    have sB := bb.size
    go_upto_region 2 with (fail)
    have lt2_2 := Blk.lt B0
    have lt2_3 := Blk.lt B1
    have lt2_4 := Blk.lt BR0
    have lt2_5 := Blk.lt B5
    refine flowp 9 [Pd.eq (.pointer (some ⟨w.heap.size + 1, 0, none⟩)), Pd.eq (.agg #[.bool (ngB (y).num), .slice A1 (digs 4294967296 (y).num.natAbs).length c1]), Pd.eq (.pointer (some ⟨w.heap.size, 2, none⟩)), Pd.eq (.slice D0 (digs 4294967296 (x).den).length e0), pzs (V) (M) w2.heap.size, pzs (V) (M) w2.heap.size, pz (V) w2.heap.size, ps .u64 (digs 4294967296 M) w2.heap.size, pn 25 #[.bool false, .slice none 0 0] w2.heap.size] (by kernel_rfl) ?ob29 ?done29
    case ob29 =>
      refine And.intro (ob_fieldAddr rfl (wt_none rfl) (ev_far rfl rfl) (fun _ => by kernel_rfl) (fun _ => rfl)) ?_
      refine And.intro (ob_load rfl (wt_none rfl) (ev_dep (j := 0) (by kernel_rfl) rfl rfl) (fun w2 hb => run_loadPart Tryz.underlying25 rfl (by kernel_rfl) (B1.below hb) rfl) (fun _ _ => rfl)) ?_
      refine And.intro (ob_fieldAddr rfl (wt_none rfl) (ev_far rfl rfl) (fun _ => by kernel_rfl) (fun _ => rfl)) ?_
      refine And.intro (ob_load rfl (wt_none rfl) (ev_dep (j := 2) (by kernel_rfl) rfl rfl) (fun w2 hb => run_load1 Tryz.underlying23 rfl ((B0.below hb).cell 2)) (fun _ _ => rfl)) ?_
      refine And.intro (ob_call2 rfl Tryz.func42 (by kernel_rfl) (wt_none rfl) (ev_dep (j := 1) (by kernel_rfl) rfl rfl) (ev_dep (j := 3) (by kernel_rfl) rfl rfl) (fun w2 u0 u1 hb h0 h1 => by obtain rfl := h0; obtain rfl := h1; exact (reduced_any _ y.num _ x.den V M _ (k1z.below hb) (k0d.below hb) HX.out (Nat.le_trans ly1 (by decide)) (Nat.le_trans lx2 (by decide)) HV.out HM.out).mono fun e w3 h => RetZS.pd h hb.size)) ?_
      refine And.intro (ob_move rfl (wt_none rfl) (ev_dep (j := 4) (by kernel_rfl) rfl rfl) (fun _ _ h => h)) ?_
      refine And.intro (ob_extract rfl (wt_none rfl) (ev_dep (j := 5) (by kernel_rfl) rfl rfl) (fun w2 u hu => by obtain ⟨v, u, rfl, q1, q2, q3, q4⟩ := hu; exact ⟨v, rfl, q1, q3⟩)) ?_
      refine And.intro (ob_extract rfl (wt_none rfl) (ev_dep (j := 5) (by kernel_rfl) rfl rfl) (fun w2 u hu => by obtain ⟨v, u, rfl, q1, q2, q3, q4⟩ := hu; exact ⟨u, rfl, q2, q4⟩)) ?_
      refine And.intro (ob_alloc (z := .agg #[.bool false, .slice none 0 0]) rfl rfl (fun _ => by kernel_rfl) (fun _ _ hB h => ⟨_, rfl, hB, h⟩)) ?_
      trivial
    case done29 =>
      refine fun w3 hb3 v0 h0 v1 h1 v2 h2 v3 h3 v4 h4 v5 h5 v6 h6 v7 h7 v8 h8 d8 b hbf => ?_
      obtain rfl := h0; obtain rfl := h1; obtain rfl := h2; obtain rfl := h3
      clear h4
      clear h5
      obtain ⟨q6, f6⟩ := h6
      obtain ⟨q7, f7⟩ := h7
      obtain ⟨g29_8, rfl, hg8, B8⟩ := h8
      simp only [Act.put, List.setIfInBounds_toArray, List.set_cons_zero, List.set_cons_succ] at hbf
      subst hbf
      replace B0 := B0.below hb3
      replace k0s := k0s.below hb3
      replace k0d := k0d.below hb3
      replace k0z := k0z.below hb3
      replace k0 := k0.below hb3
      replace B1 := B1.below hb3
      replace k1s := k1s.below hb3
      replace k1d := k1d.below hb3
      replace k1z := k1z.below hb3
      replace k1 := k1.below hb3
      replace BR0 := BR0.below hb3
      replace B5 := B5.below hb3
      replace k5s := k5s.below hb3
      replace k5 := k5.below hb3
      replace n16 := n16.below hb3
      replace bb := bb.trans (hb3.mono bb.size)
      have hsz3 := bb.size
      have s_6 := sB
      have s_7 := sB
      obtain ⟨A24, c24, rfl, _⟩ := id q7
      have n24 := q7
      have n24f := f7
      have n24z_ := s_7
      have BA7 := B8
      obtain ⟨u6, rfl, q6⟩ := q6
      obtain ⟨A7, c7, rfl, _⟩ := id q6
      refine ops_store (i := 9) rfl rfl rfl rfl rfl rfl (cells := [.bool (ngB V), .slice A7 (digs 4294967296 (V).natAbs).length c7]) rfl BA7 rfl (by kernel_rfl) (one2 rfl rfl) fun w4 hg4 BN4 => ?_
      replace q6 := off q6 BA7 no_ints2 hg4
      replace n16 := off n16 BA7 no_ints2 hg4
      replace n24 := off n24 BA7 no_ints2 hg4
      replace k0s := off k0s BA7 no_ints2 hg4
      replace k0d := off k0d BA7 no_ints2 hg4
      replace k0z : IsZ w4 (.agg #[.bool (ngB (x).num), .slice A0 (digs 4294967296 (x).num.natAbs).length c0]) ((x).num) := ⟨_, rfl, k0s⟩
      replace k0 : IsQ w4 (.agg #[.bool (ngB (x).num), .slice A0 (digs 4294967296 (x).num.natAbs).length c0, .slice D0 (digs 4294967296 (x).den).length e0]) (x) := ⟨_, _, rfl, k0s, k0d⟩
      replace B0 := B0.grown hg4 (by omega)
      replace k1s := off k1s BA7 no_ints2 hg4
      replace k1d := off k1d BA7 no_ints2 hg4
      replace k1z : IsZ w4 (.agg #[.bool (ngB (y).num), .slice A1 (digs 4294967296 (y).num.natAbs).length c1]) ((y).num) := ⟨_, rfl, k1s⟩
      replace k1 : IsQ w4 (.agg #[.bool (ngB (y).num), .slice A1 (digs 4294967296 (y).num.natAbs).length c1, .slice D1 (digs 4294967296 (y).den).length e1]) (y) := ⟨_, _, rfl, k1s, k1d⟩
      replace B1 := B1.grown hg4 (by omega)
      replace BR0 := BR0.grown hg4 (by omega)
      replace k5s := off k5s BA7 no_ints2 hg4
      replace k5 : IsZ w4 (.agg #[.bool (ngB U), .slice A5 (digs 4294967296 (U).natAbs).length c5]) (U) := ⟨_, rfl, k5s⟩
      replace B5 := B5.grown hg4 (by omega)
      replace bb := bb.trans ((Below.refl _ _).grown hg4 bb.size (fun g hg => by injection hg with hg; omega))
      have hsz4 := bb.size
      have B7 : Blk w4 (g29_8) _ _ := BN4
      have k7s := q6
      have k7 : IsZ w4 (.agg #[.bool (ngB V), .slice A7 (digs 4294967296 (V).natAbs).length c7]) (V) := ⟨_, rfl, k7s⟩
      refine ops_assign (i := 10) (.slice A24 (digs 4294967296 M).length c24) rfl rfl rfl rfl rfl fun b hbf => ?_
      simp only [Act.put, List.setIfInBounds_toArray, List.set_cons_zero, List.set_cons_succ] at hbf
      subst hbf
      refine ops_done ?_
      have f7_ := (f6 _ _ rfl).mono s_6
      have sB := bb.size
      go_upto_region 3 with (fail)
      refine flowp 7 [Pd.eq (.agg #[.bool (ngB U), .slice A5 (digs 4294967296 (U).natAbs).length c5]), Pd.eq (.agg #[.bool (ngB V), .slice A7 (digs 4294967296 (V).natAbs).length c7]), pz ((Q).num) w4.heap.size, Pd.eq (.slice A24 (digs 4294967296 M).length c24), Pd.eq (.slice A16 (digs 4294967296 L).length c16), ps .u64 (digs 4294967296 (Q).den) w4.heap.size, pq (Q) w4.heap.size] (by kernel_rfl) ?ob30 ?done30
      case ob30 =>
        refine And.intro (ob_load rfl (wt_none rfl) (ev_far rfl rfl) (fun w2 hb => run_loadAll Tryz.underlying25 rfl (by kernel_rfl) (B5.below hb)) (fun _ _ => rfl)) ?_
        refine And.intro (ob_load rfl (wt_none rfl) (ev_far rfl rfl) (fun w2 hb => run_loadAll Tryz.underlying25 rfl (by kernel_rfl) (B7.below hb)) (fun _ _ => rfl)) ?_
        refine And.intro (ob_call2 rfl Tryz.func40 (by kernel_rfl) (wt_none rfl) (ev_dep (j := 0) (by kernel_rfl) rfl rfl) (ev_dep (j := 1) (by kernel_rfl) rfl rfl) (fun w2 u0 u1 hb h0 h1 => by obtain rfl := h0; obtain rfl := h1; exact (zmul_any _ _ U V (Q).num _ (k5.below hb) (k7.below hb) (Nat.le_trans lU.1 (by decide)) (Nat.le_trans lV.1 (by decide)) HQN.out.symm).mono fun e w3 h => RetZ.pd h hb.size)) ?_
        refine And.intro (ob_move rfl (wt_none rfl) (ev_far rfl rfl) (fun _ _ h => h)) ?_
        refine And.intro (ob_move rfl (wt_none rfl) (ev_far rfl rfl) (fun _ _ h => h)) ?_
        refine And.intro (ob_call2 rfl Tryz.func43 (by kernel_rfl) (wt_none rfl) (ev_dep (j := 3) (by kernel_rfl) rfl rfl) (ev_dep (j := 4) (by kernel_rfl) rfl rfl) (fun w2 u0 u1 hb h0 h1 => by obtain rfl := h0; obtain rfl := h1; exact (times_any _ M _ L _ (n24.below hb) (n16.below hb) (Nat.le_trans lV.2 (by decide)) (Nat.le_trans lU.2 (by decide))).mono fun e w3 h => RetS.pd (RetS.to h (congrArg (digs 4294967296) HQD.out)) hb.size)) ?_
        refine And.intro (ob_build2b rfl (wt_none rfl) (ev_dep (j := 2) (by kernel_rfl) rfl rfl) (ev_dep (j := 5) (by kernel_rfl) rfl rfl) (fun w2 u v hb hu hv => by obtain ⟨u7, rfl, hu7⟩ := hu.1; obtain ⟨A7, c7, rfl, _⟩ := id hu7; obtain ⟨A8, c8, rfl, _⟩ := id hv.1; exact ⟨.agg #[.bool (ngB (Q).num), .slice A7 (digs 4294967296 (Q).num.natAbs).length c7, .slice A8 (digs 4294967296 (Q).den).length c8], by kernel_rfl, ⟨⟨_, _, rfl, hu7, hv.1⟩, freshQ_mk (hu.2 _ _ rfl) hv.2⟩⟩)) ?_
        trivial
      case done30 =>
        refine fun w5 hb5 v0 h0 v1 h1 v2 h2 v3 h3 v4 h4 v5 h5 v6 h6 b hbf => ?_
        obtain rfl := h0; obtain rfl := h1; obtain rfl := h3; obtain rfl := h4
        obtain ⟨q2, f2⟩ := h2
        obtain ⟨q5, f5⟩ := h5
        obtain ⟨q6, f6⟩ := h6
        simp only [Act.put, List.setIfInBounds_toArray, List.set_cons_zero, List.set_cons_succ] at hbf
        subst hbf
        replace B0 := B0.below hb5
        replace k0s := k0s.below hb5
        replace k0d := k0d.below hb5
        replace k0z := k0z.below hb5
        replace k0 := k0.below hb5
        replace B1 := B1.below hb5
        replace k1s := k1s.below hb5
        replace k1d := k1d.below hb5
        replace k1z := k1z.below hb5
        replace k1 := k1.below hb5
        replace BR0 := BR0.below hb5
        replace B5 := B5.below hb5
        replace k5s := k5s.below hb5
        replace k5 := k5.below hb5
        replace B7 := B7.below hb5
        replace k7s := k7s.below hb5
        replace k7 := k7.below hb5
        replace n16 := n16.below hb5
        replace n24 := n24.below hb5
        replace bb := bb.trans (hb5.mono bb.size)
        have hsz5 := bb.size
        have s_2 := sB
        have s_5 := sB
        have s_6 := sB
        obtain ⟨u6, t6, rfl, q6, d6⟩ := q6
        obtain ⟨A9, c9, rfl, _⟩ := id q6
        obtain ⟨D9, e9, rfl, _⟩ := id d6
        have fS := (f6 _ _ _ rfl).1.mono s_6
        have fT := (f6 _ _ _ rfl).2.mono s_6
        refine ops_store (i := 7) rfl rfl rfl rfl rfl rfl (cells := [.bool (ngB (Q).num), .slice A9 (digs 4294967296 (Q).num.natAbs).length c9, .slice D9 (digs 4294967296 (Q).den).length e9]) rfl BR0 rfl (by kernel_rfl) (one3 rfl rfl rfl) fun w9 hg9 B9 => ?_
        have k9 := off q6 BR0 no_ints3 hg9
        have d9 := off d6 BR0 no_ints3 hg9
        have bb9 := bb.trans ((Below.refl _ _).grown hg9 bb.size (fun g hg => by injection hg with hg; omega))
        obtain ⟨C0, C1, C2, _, _, _⟩ := three B9
        refine ops_done ?_
        go_wp2
        rw [HQ0.out]
        exact bodyPost_ret (v := .agg #[.bool (ngB (Q).num), .slice A9 (digs 4294967296 (Q).num.natAbs).length c9, .slice D9 (digs 4294967296 (Q).den).length e9]) (by simp [results, Tryz.results14, go_sem, C0, C1, C2]) rfl ⟨_, rfl, isQ_mk k9 d9 rfl rfl rfl, freshQ_mk fS fT, bb9⟩
theorem fmul_any (a0 : Value) (x : Rat) (a1 : Value) (y : Rat) (w : World) (h0 : IsQ w a0 x) (h1 : IsQ w a1 y) (hl : lenQ x 1000) (hl2 : lenQ y 1000) : Calls Tryz.prog 14 #[a0, a1] w (RetQn (x * y) w) :=
  (mul8_any a0 x a1 y w h0 h1 (hl.mono (by decide)) (hl2.mono (by decide))).mono fun _ _ h => h.n

set_option maxHeartbeats 1600000 in
set_option maxRecDepth 100000 in
theorem fdiv_zero (a0 : Value) (x : Rat) (a1 : Value) (y : Rat) (w : World) (h0 : IsQ w a0 x) (h1 : IsQ w a1 y) (hy : y = 0) :
    Calls Tryz.prog 22 #[a0, a1] w (RetQN 3 w) := by
  obtain ⟨u0, t0, rfl, s0, r0⟩ := h0
  obtain ⟨A0, c0, rfl, _⟩ := id s0
  obtain ⟨D0, e0, rfl, _⟩ := id r0
  obtain ⟨u1, t1, rfl, s1, r1⟩ := h1
  obtain ⟨A1, c1, rfl, _⟩ := id s1
  obtain ⟨D1, e1, rfl, _⟩ := id r1
  have HY := Lib.hid hy
  clear hy
  go_enter Tryz.func22, Tryz.ntmps22
  go_upto_region 1 with (fail)
  obtain ⟨wx, hwx, bb, B0, B1, BR0, hsz⟩ := vars3 w 27 27 27 #[.bool (ngB (x).num), .slice A0 (digs 4294967296 (x).num.natAbs).length c0, .slice D0 (digs 4294967296 (x).den).length e0] #[.bool (ngB (y).num), .slice A1 (digs 4294967296 (y).num.natAbs).length c1, .slice D1 (digs 4294967296 (y).den).length e1] #[.bool false, .slice none 0 0, .slice none 0 0]
  rw [hwx]
  clear hwx
  have k0s := s0.below bb
  have k0d := r0.below bb
  have k0z : IsZ wx (.agg #[.bool (ngB (x).num), .slice A0 (digs 4294967296 (x).num.natAbs).length c0]) (x).num := ⟨_, rfl, k0s⟩
  have k0 : IsQ wx (.agg #[.bool (ngB (x).num), .slice A0 (digs 4294967296 (x).num.natAbs).length c0, .slice D0 (digs 4294967296 (x).den).length e0]) (x) := ⟨_, _, rfl, k0s, k0d⟩
  have k1s := s1.below bb
  have k1d := r1.below bb
  have k1z : IsZ wx (.agg #[.bool (ngB (y).num), .slice A1 (digs 4294967296 (y).num.natAbs).length c1]) (y).num := ⟨_, rfl, k1s⟩
  have k1 : IsQ wx (.agg #[.bool (ngB (y).num), .slice A1 (digs 4294967296 (y).num.natAbs).length c1, .slice D1 (digs 4294967296 (y).den).length e1]) (y) := ⟨_, _, rfl, k1s, k1d⟩
  have hsz0 := bb.size
  have sB := bb.size
  have lt0_2 := Blk.lt B0
  have lt0_3 := Blk.lt B1
  have lt0_4 := Blk.lt BR0
  refine flowp 6 [Pd.eq (.agg #[.bool (ngB (y).num), .slice A1 (digs 4294967296 (y).num.natAbs).length c1, .slice D1 (digs 4294967296 (y).den).length e1]), Pd.eq (.tuple #[.agg #[.bool false, .slice none 0 0, .slice none 0 0], .int .i64 3]), Pd.eq (.tuple #[.agg #[.bool false, .slice none 0 0, .slice none 0 0], .int .i64 3]), Pd.eq (.agg #[.bool false, .slice none 0 0, .slice none 0 0]), Pd.eq (.int .i64 3), pn 27 #[.bool false, .slice none 0 0, .slice none 0 0] wx.heap.size] (by kernel_rfl) ?ob31 ?done31
  case ob31 =>
    refine And.intro (ob_load rfl (wt_none rfl) (ev_far rfl rfl) (fun w2 hb => run_loadAll Tryz.underlying27 rfl (by kernel_rfl) (B1.below hb)) (fun _ _ => rfl)) ?_
    refine And.intro (ob_call1 rfl Tryz.func23 (by kernel_rfl) (wt_none rfl) (ev_dep (j := 0) (by kernel_rfl) rfl rfl) (fun w2 u0 hb h0 => by obtain rfl := h0; exact (finv_zero _ y _ (k1.below hb) HY.out).mono fun e w3 h => RetQN.pd h)) ?_
    refine And.intro (ob_move rfl (wt_none rfl) (ev_dep (j := 1) (by kernel_rfl) rfl rfl) (fun _ _ h => h)) ?_
    refine And.intro (ob_extract rfl (wt_none rfl) (ev_dep (j := 2) (by kernel_rfl) rfl rfl) (fun w2 u hu => by obtain rfl := hu; exact ⟨_, rfl, rfl⟩)) ?_
    refine And.intro (ob_extract rfl (wt_none rfl) (ev_dep (j := 2) (by kernel_rfl) rfl rfl) (fun w2 u hu => by obtain rfl := hu; exact ⟨_, rfl, rfl⟩)) ?_
    refine And.intro (ob_alloc (z := .agg #[.bool false, .slice none 0 0, .slice none 0 0]) rfl rfl (fun _ => by kernel_rfl) (fun _ _ hB h => ⟨_, rfl, hB, h⟩)) ?_
    trivial
  case done31 =>
    refine fun w1 hb1 v0 h0 v1 h1 v2 h2 v3 h3 v4 h4 v5 h5 d5 b hbf => ?_
    obtain rfl := h0; obtain rfl := h1; obtain rfl := h2; obtain rfl := h3; obtain rfl := h4
    obtain ⟨g31_5, rfl, hg5, B5⟩ := h5
    simp only [Act.put, List.setIfInBounds_toArray, List.set_cons_zero, List.set_cons_succ] at hbf
    subst hbf
    replace B0 := B0.below hb1
    replace k0s := k0s.below hb1
    replace k0d := k0d.below hb1
    replace k0z := k0z.below hb1
    replace k0 := k0.below hb1
    replace B1 := B1.below hb1
    replace k1s := k1s.below hb1
    replace k1d := k1d.below hb1
    replace k1z := k1z.below hb1
    replace k1 := k1.below hb1
    replace BR0 := BR0.below hb1
    replace bb := bb.trans (hb1.mono bb.size)
    have hsz1 := bb.size
    have BA6 := B5
    refine ops_store (i := 6) rfl rfl rfl rfl rfl rfl (cells := [.bool false, .slice none 0 0, .slice none 0 0]) rfl BA6 rfl (by kernel_rfl) (one3 rfl rfl rfl) fun w2 hg2 BN2 => ?_
    replace k0s := off k0s BA6 no_ints3 hg2
    replace k0d := off k0d BA6 no_ints3 hg2
    replace k0z : IsZ w2 (.agg #[.bool (ngB (x).num), .slice A0 (digs 4294967296 (x).num.natAbs).length c0]) ((x).num) := ⟨_, rfl, k0s⟩
    replace k0 : IsQ w2 (.agg #[.bool (ngB (x).num), .slice A0 (digs 4294967296 (x).num.natAbs).length c0, .slice D0 (digs 4294967296 (x).den).length e0]) (x) := ⟨_, _, rfl, k0s, k0d⟩
    replace B0 := B0.grown hg2 (by omega)
    replace k1s := off k1s BA6 no_ints3 hg2
    replace k1d := off k1d BA6 no_ints3 hg2
    replace k1z : IsZ w2 (.agg #[.bool (ngB (y).num), .slice A1 (digs 4294967296 (y).num.natAbs).length c1]) ((y).num) := ⟨_, rfl, k1s⟩
    replace k1 : IsQ w2 (.agg #[.bool (ngB (y).num), .slice A1 (digs 4294967296 (y).num.natAbs).length c1, .slice D1 (digs 4294967296 (y).den).length e1]) (y) := ⟨_, _, rfl, k1s, k1d⟩
    replace B1 := B1.grown hg2 (by omega)
    replace BR0 := BR0.grown hg2 (by omega)
    replace bb := bb.trans ((Below.refl _ _).grown hg2 bb.size (fun g hg => by injection hg with hg; omega))
    have hsz2 := bb.size
    replace BA6 : Blk w2 (g31_5) _ #[.bool false, .slice none 0 0, .slice none 0 0] := BN2
    refine ops_assign (i := 7) (.int .i64 3) rfl rfl rfl rfl rfl fun b hbf => ?_
    simp only [Act.put, List.setIfInBounds_toArray, List.set_cons_zero, List.set_cons_succ] at hbf
    subst hbf
    refine ops_done ?_
    have sB := bb.size
    go_upto_region 2 with (fail)
    refine flowp 2 [Pd.eq (.int .i64 3), Pd.eq (.bool true)] (by kernel_rfl) ?ob32 ?done32
    case ob32 =>
      refine And.intro (ob_move rfl (wt_none rfl) (ev_far rfl rfl) (fun _ _ h => h)) ?_
      refine And.intro (ob_bin rfl (wt_none rfl) (ev_dep (j := 0) (by kernel_rfl) rfl rfl) (ev_const _) (fun _ _ _ hx hy => ⟨.bool true, by rw [hx, hy]; kernel_rfl, rfl⟩)) ?_
      trivial
    case done32 =>
      refine fun w3 hb3 v0 h0 v1 h1 b hbf => ?_
      obtain rfl := h0; obtain rfl := h1
      simp only [Act.put, List.setIfInBounds_toArray, List.set_cons_zero, List.set_cons_succ] at hbf
      subst hbf
      replace B0 := B0.below hb3
      replace k0s := k0s.below hb3
      replace k0d := k0d.below hb3
      replace k0z := k0z.below hb3
      replace k0 := k0.below hb3
      replace B1 := B1.below hb3
      replace k1s := k1s.below hb3
      replace k1d := k1d.below hb3
      replace k1z := k1z.below hb3
      replace k1 := k1.below hb3
      replace BR0 := BR0.below hb3
      replace BA6 := BA6.below hb3
      replace bb := bb.trans (hb3.mono bb.size)
      have hsz3 := bb.size
      refine ops_done ?_
      have sB := bb.size
      go_upto_region 3 with (fail)
      refine flowp 2 [Pd.eq (.agg #[.bool false, .slice none 0 0, .slice none 0 0]), Pd.eq (.int .i64 3)] (by kernel_rfl) ?ob33 ?done33
      case ob33 =>
        refine And.intro (ob_build0 (v := .agg #[.bool false, .slice none 0 0, .slice none 0 0]) rfl (wt_none rfl) (fun _ => by kernel_rfl) (fun _ => rfl)) ?_
        refine And.intro (ob_move rfl (wt_none rfl) (ev_far rfl rfl) (fun _ _ h => h)) ?_
        trivial
      case done33 =>
        refine fun w4 hb4 v0 h0 v1 h1 b hbf => ?_
        obtain rfl := h0; obtain rfl := h1
        simp only [Act.put, List.setIfInBounds_toArray, List.set_cons_zero, List.set_cons_succ] at hbf
        subst hbf
        replace B0 := B0.below hb4
        replace k0s := k0s.below hb4
        replace k0d := k0d.below hb4
        replace k0z := k0z.below hb4
        replace k0 := k0.below hb4
        replace B1 := B1.below hb4
        replace k1s := k1s.below hb4
        replace k1d := k1d.below hb4
        replace k1z := k1z.below hb4
        replace k1 := k1.below hb4
        replace BR0 := BR0.below hb4
        replace BA6 := BA6.below hb4
        replace bb := bb.trans (hb4.mono bb.size)
        have hsz4 := bb.size
        refine ops_store (i := 2) rfl rfl rfl rfl rfl rfl (cells := [.bool false, .slice none 0 0, .slice none 0 0]) rfl BR0 rfl (by kernel_rfl) (one3 rfl rfl rfl) fun w9 hg9 B9 => ?_
        have bb9 := bb.trans ((Below.refl _ _).grown hg9 bb.size (fun g hg => by injection hg with hg; omega))
        obtain ⟨C0, C1, C2, _, _, _⟩ := three B9
        refine ops_assign (i := 3) (.int .i64 3) rfl rfl rfl rfl rfl fun b hbf => ?_
        simp only [Act.put, List.setIfInBounds_toArray, List.set_cons_zero, List.set_cons_succ] at hbf
        subst hbf
        refine ops_done ?_
        go_wp2
        exact bodyPost_ret (v := .tuple #[.agg #[.bool false, .slice none 0 0, .slice none 0 0], .int .i64 3]) (by simp [results, Tryz.results22, go_sem, C0, C1, C2]) rfl ⟨rfl, bb9⟩
set_option maxHeartbeats 1600000 in
set_option maxRecDepth 100000 in
theorem div8_ok (a0 : Value) (x : Rat) (a1 : Value) (y : Rat) (w : World) (h0 : IsQ w a0 x) (h1 : IsQ w a1 y) (hl : lenQ x 10000) (hl2 : lenQ y 10000) (hy : y ≠ 0) :
    Calls Tryz.prog 22 #[a0, a1] w (RetQF (x / y) 0 w) := by
  obtain ⟨u0, t0, rfl, s0, r0⟩ := h0
  obtain ⟨A0, c0, rfl, _⟩ := id s0
  obtain ⟨D0, e0, rfl, _⟩ := id r0
  obtain ⟨u1, t1, rfl, s1, r1⟩ := h1
  obtain ⟨A1, c1, rfl, _⟩ := id s1
  obtain ⟨D1, e1, rfl, _⟩ := id r1
  have HD : Hid (x * y⁻¹ = x / y) := (Rat.div_def x y).symm
  have HI : lenQ y⁻¹ 10000 := lenQ_inv hy hl2
  obtain ⟨Q, hQ⟩ : ∃ Q, Q = x / y := ⟨_, rfl⟩
  have HQ0 : Hid (x / y = Q) := hQ.symm
  clear hQ
  go_enter Tryz.func22, Tryz.ntmps22
  go_upto_region 1 with (fail)
  obtain ⟨wx, hwx, bb, B0, B1, BR0, hsz⟩ := vars3 w 27 27 27 #[.bool (ngB (x).num), .slice A0 (digs 4294967296 (x).num.natAbs).length c0, .slice D0 (digs 4294967296 (x).den).length e0] #[.bool (ngB (y).num), .slice A1 (digs 4294967296 (y).num.natAbs).length c1, .slice D1 (digs 4294967296 (y).den).length e1] #[.bool false, .slice none 0 0, .slice none 0 0]
  rw [hwx]
  clear hwx
  have k0s := s0.below bb
  have k0d := r0.below bb
  have k0z : IsZ wx (.agg #[.bool (ngB (x).num), .slice A0 (digs 4294967296 (x).num.natAbs).length c0]) (x).num := ⟨_, rfl, k0s⟩
  have k0 : IsQ wx (.agg #[.bool (ngB (x).num), .slice A0 (digs 4294967296 (x).num.natAbs).length c0, .slice D0 (digs 4294967296 (x).den).length e0]) (x) := ⟨_, _, rfl, k0s, k0d⟩
  have k1s := s1.below bb
  have k1d := r1.below bb
  have k1z : IsZ wx (.agg #[.bool (ngB (y).num), .slice A1 (digs 4294967296 (y).num.natAbs).length c1]) (y).num := ⟨_, rfl, k1s⟩
  have k1 : IsQ wx (.agg #[.bool (ngB (y).num), .slice A1 (digs 4294967296 (y).num.natAbs).length c1, .slice D1 (digs 4294967296 (y).den).length e1]) (y) := ⟨_, _, rfl, k1s, k1d⟩
  have hsz0 := bb.size
  have sB := bb.size
  have lt0_2 := Blk.lt B0
  have lt0_3 := Blk.lt B1
  have lt0_4 := Blk.lt BR0
  refine flowp 6 [Pd.eq (.agg #[.bool (ngB (y).num), .slice A1 (digs 4294967296 (y).num.natAbs).length c1, .slice D1 (digs 4294967296 (y).den).length e1]), pqe (y⁻¹) 0, pqe (y⁻¹) 0, pqn (y⁻¹), Pd.eq (.int .i64 0), pn 27 #[.bool false, .slice none 0 0, .slice none 0 0] wx.heap.size] (by kernel_rfl) ?ob34 ?done34
  case ob34 =>
    refine And.intro (ob_load rfl (wt_none rfl) (ev_far rfl rfl) (fun w2 hb => run_loadAll Tryz.underlying27 rfl (by kernel_rfl) (B1.below hb)) (fun _ _ => rfl)) ?_
    refine And.intro (ob_call1 rfl Tryz.func23 (by kernel_rfl) (wt_none rfl) (ev_dep (j := 0) (by kernel_rfl) rfl rfl) (fun w2 u0 hb h0 => by obtain rfl := h0; exact (inv8_ok _ y _ (k1.below hb) (hl2.mono (by decide)) hy).mono fun e w3 h => RetQE.pd h.e)) ?_
    refine And.intro (ob_move rfl (wt_none rfl) (ev_dep (j := 1) (by kernel_rfl) rfl rfl) (fun _ _ h => h)) ?_
    refine And.intro (ob_extract rfl (wt_none rfl) (ev_dep (j := 2) (by kernel_rfl) rfl rfl) (fun w2 u hu => by obtain ⟨v, rfl, q1⟩ := hu; exact ⟨v, rfl, q1⟩)) ?_
    refine And.intro (ob_extract rfl (wt_none rfl) (ev_dep (j := 2) (by kernel_rfl) rfl rfl) (fun w2 u hu => by obtain ⟨v, rfl, q1⟩ := hu; exact ⟨_, rfl, rfl⟩)) ?_
    refine And.intro (ob_alloc (z := .agg #[.bool false, .slice none 0 0, .slice none 0 0]) rfl rfl (fun _ => by kernel_rfl) (fun _ _ hB h => ⟨_, rfl, hB, h⟩)) ?_
    trivial
  case done34 =>
    refine fun w1 hb1 v0 h0 v1 h1 v2 h2 v3 h3 v4 h4 v5 h5 d5 b hbf => ?_
    obtain rfl := h0; obtain rfl := h4
    clear h1
    clear h2
    have q3 := h3
    obtain ⟨g34_5, rfl, hg5, B5⟩ := h5
    simp only [Act.put, List.setIfInBounds_toArray, List.set_cons_zero, List.set_cons_succ] at hbf
    subst hbf
    replace B0 := B0.below hb1
    replace k0s := k0s.below hb1
    replace k0d := k0d.below hb1
    replace k0z := k0z.below hb1
    replace k0 := k0.below hb1
    replace B1 := B1.below hb1
    replace k1s := k1s.below hb1
    replace k1d := k1d.below hb1
    replace k1z := k1z.below hb1
    replace k1 := k1.below hb1
    replace BR0 := BR0.below hb1
    replace bb := bb.trans (hb1.mono bb.size)
    have hsz1 := bb.size
    have BA6 := B5
    obtain ⟨u3, t3, rfl, q3, d3⟩ := q3
    obtain ⟨A6, c6, rfl, _⟩ := id q3
    obtain ⟨D6, e6, rfl, _⟩ := id d3
    refine ops_store (i := 6) rfl rfl rfl rfl rfl rfl (cells := [.bool (ngB (y⁻¹).num), .slice A6 (digs 4294967296 (y⁻¹).num.natAbs).length c6, .slice D6 (digs 4294967296 (y⁻¹).den).length e6]) rfl BA6 rfl (by kernel_rfl) (one3 rfl rfl rfl) fun w2 hg2 BN2 => ?_
    replace q3 := off q3 BA6 no_ints3 hg2
    replace d3 := off d3 BA6 no_ints3 hg2
    replace k0s := off k0s BA6 no_ints3 hg2
    replace k0d := off k0d BA6 no_ints3 hg2
    replace k0z : IsZ w2 (.agg #[.bool (ngB (x).num), .slice A0 (digs 4294967296 (x).num.natAbs).length c0]) ((x).num) := ⟨_, rfl, k0s⟩
    replace k0 : IsQ w2 (.agg #[.bool (ngB (x).num), .slice A0 (digs 4294967296 (x).num.natAbs).length c0, .slice D0 (digs 4294967296 (x).den).length e0]) (x) := ⟨_, _, rfl, k0s, k0d⟩
    replace B0 := B0.grown hg2 (by omega)
    replace k1s := off k1s BA6 no_ints3 hg2
    replace k1d := off k1d BA6 no_ints3 hg2
    replace k1z : IsZ w2 (.agg #[.bool (ngB (y).num), .slice A1 (digs 4294967296 (y).num.natAbs).length c1]) ((y).num) := ⟨_, rfl, k1s⟩
    replace k1 : IsQ w2 (.agg #[.bool (ngB (y).num), .slice A1 (digs 4294967296 (y).num.natAbs).length c1, .slice D1 (digs 4294967296 (y).den).length e1]) (y) := ⟨_, _, rfl, k1s, k1d⟩
    replace B1 := B1.grown hg2 (by omega)
    replace BR0 := BR0.grown hg2 (by omega)
    replace bb := bb.trans ((Below.refl _ _).grown hg2 bb.size (fun g hg => by injection hg with hg; omega))
    have hsz2 := bb.size
    have B6 : Blk w2 (g34_5) _ _ := BN2
    have k6s := q3
    have k6d := d3
    have k6z : IsZ w2 (.agg #[.bool (ngB (y⁻¹).num), .slice A6 (digs 4294967296 (y⁻¹).num.natAbs).length c6]) ((y⁻¹).num) := ⟨_, rfl, k6s⟩
    have k6 : IsQ w2 (.agg #[.bool (ngB (y⁻¹).num), .slice A6 (digs 4294967296 (y⁻¹).num.natAbs).length c6, .slice D6 (digs 4294967296 (y⁻¹).den).length e6]) (y⁻¹) := ⟨_, _, rfl, k6s, k6d⟩
    refine ops_assign (i := 7) (.int .i64 0) rfl rfl rfl rfl rfl fun b hbf => ?_
    simp only [Act.put, List.setIfInBounds_toArray, List.set_cons_zero, List.set_cons_succ] at hbf
    subst hbf
    refine ops_done ?_
    have sB := bb.size
    go_upto_region 2 with (fail)
    refine flowp 2 [Pd.eq (.int .i64 0), Pd.eq (.bool false)] (by kernel_rfl) ?ob35 ?done35
    case ob35 =>
      refine And.intro (ob_move rfl (wt_none rfl) (ev_far rfl rfl) (fun _ _ h => h)) ?_
      refine And.intro (ob_bin rfl (wt_none rfl) (ev_dep (j := 0) (by kernel_rfl) rfl rfl) (ev_const _) (fun _ _ _ hx hy => ⟨.bool false, by rw [hx, hy]; kernel_rfl, rfl⟩)) ?_
      trivial
    case done35 =>
      refine fun w3 hb3 v0 h0 v1 h1 b hbf => ?_
      obtain rfl := h0; obtain rfl := h1
      simp only [Act.put, List.setIfInBounds_toArray, List.set_cons_zero, List.set_cons_succ] at hbf
      subst hbf
      replace B0 := B0.below hb3
      replace k0s := k0s.below hb3
      replace k0d := k0d.below hb3
      replace k0z := k0z.below hb3
      replace k0 := k0.below hb3
      replace B1 := B1.below hb3
      replace k1s := k1s.below hb3
      replace k1d := k1d.below hb3
      replace k1z := k1z.below hb3
      replace k1 := k1.below hb3
      replace BR0 := BR0.below hb3
      replace B6 := B6.below hb3
      replace k6s := k6s.below hb3
      replace k6d := k6d.below hb3
      replace k6z := k6z.below hb3
      replace k6 := k6.below hb3
      replace bb := bb.trans (hb3.mono bb.size)
      have hsz3 := bb.size
      refine ops_done ?_
      have sB := bb.size
      go_upto_region 4 with (fail)
      refine flowp 3 [Pd.eq (.agg #[.bool (ngB (x).num), .slice A0 (digs 4294967296 (x).num.natAbs).length c0, .slice D0 (digs 4294967296 (x).den).length e0]), Pd.eq (.agg #[.bool (ngB (y⁻¹).num), .slice A6 (digs 4294967296 (y⁻¹).num.natAbs).length c6, .slice D6 (digs 4294967296 (y⁻¹).den).length e6]), pq (Q) w3.heap.size] (by kernel_rfl) ?ob36 ?done36
      case ob36 =>
        refine And.intro (ob_load rfl (wt_none rfl) (ev_far rfl rfl) (fun w2 hb => run_loadAll Tryz.underlying27 rfl (by kernel_rfl) (B0.below hb)) (fun _ _ => rfl)) ?_
        refine And.intro (ob_load rfl (wt_none rfl) (ev_far rfl rfl) (fun w2 hb => run_loadAll Tryz.underlying27 rfl (by kernel_rfl) (B6.below hb)) (fun _ _ => rfl)) ?_
        refine And.intro (ob_call2 rfl Tryz.func14 (by kernel_rfl) (wt_none rfl) (ev_dep (j := 0) (by kernel_rfl) rfl rfl) (ev_dep (j := 1) (by kernel_rfl) rfl rfl) (fun w2 u0 u1 hb h0 h1 => by obtain rfl := h0; obtain rfl := h1; exact (mul8_any _ x _ y⁻¹ _ (k0.below hb) (k6.below hb) hl HI).mono fun e w3 h => RetQ.pd (RetQ.to h (HD.out.trans HQ0.out)) hb.size)) ?_
        trivial
      case done36 =>
        refine fun w4 hb4 v0 h0 v1 h1 v2 h2 b hbf => ?_
        obtain rfl := h0; obtain rfl := h1
        obtain ⟨q2, f2⟩ := h2
        simp only [Act.put, List.setIfInBounds_toArray, List.set_cons_zero, List.set_cons_succ] at hbf
        subst hbf
        replace B0 := B0.below hb4
        replace k0s := k0s.below hb4
        replace k0d := k0d.below hb4
        replace k0z := k0z.below hb4
        replace k0 := k0.below hb4
        replace B1 := B1.below hb4
        replace k1s := k1s.below hb4
        replace k1d := k1d.below hb4
        replace k1z := k1z.below hb4
        replace k1 := k1.below hb4
        replace BR0 := BR0.below hb4
        replace B6 := B6.below hb4
        replace k6s := k6s.below hb4
        replace k6d := k6d.below hb4
        replace k6z := k6z.below hb4
        replace k6 := k6.below hb4
        replace bb := bb.trans (hb4.mono bb.size)
        have hsz4 := bb.size
        have s_2 := sB
        obtain ⟨u2, t2, rfl, q2, d2⟩ := q2
        obtain ⟨A9, c9, rfl, _⟩ := id q2
        obtain ⟨D9, e9, rfl, _⟩ := id d2
        have fS := (f2 _ _ _ rfl).1.mono s_2
        have fT := (f2 _ _ _ rfl).2.mono s_2
        refine ops_store (i := 3) rfl rfl rfl rfl rfl rfl (cells := [.bool (ngB (Q).num), .slice A9 (digs 4294967296 (Q).num.natAbs).length c9, .slice D9 (digs 4294967296 (Q).den).length e9]) rfl BR0 rfl (by kernel_rfl) (one3 rfl rfl rfl) fun w9 hg9 B9 => ?_
        have k9 := off q2 BR0 no_ints3 hg9
        have d9 := off d2 BR0 no_ints3 hg9
        have bb9 := bb.trans ((Below.refl _ _).grown hg9 bb.size (fun g hg => by injection hg with hg; omega))
        obtain ⟨C0, C1, C2, _, _, _⟩ := three B9
        refine ops_assign (i := 4) (.int .i64 0) rfl rfl rfl rfl rfl fun b hbf => ?_
        simp only [Act.put, List.setIfInBounds_toArray, List.set_cons_zero, List.set_cons_succ] at hbf
        subst hbf
        refine ops_done ?_
        go_wp2
        rw [HQ0.out]
        exact bodyPost_ret (v := .tuple #[.agg #[.bool (ngB (Q).num), .slice A9 (digs 4294967296 (Q).num.natAbs).length c9, .slice D9 (digs 4294967296 (Q).den).length e9], .int .i64 0]) (by simp [results, Tryz.results22, go_sem, C0, C1, C2]) rfl ⟨_, rfl, isQ_mk k9 d9 rfl rfl rfl, freshQ_mk fS fT, bb9⟩
theorem fdiv_ok (a0 : Value) (x : Rat) (a1 : Value) (y : Rat) (w : World) (h0 : IsQ w a0 x) (h1 : IsQ w a1 y) (hl : lenQ x 1000) (hl2 : lenQ y 1000) (hy : y ≠ 0) : Calls Tryz.prog 22 #[a0, a1] w (RetQE (x / y) 0 w) :=
  (div8_ok a0 x a1 y w h0 h1 (hl.mono (by decide)) (hl2.mono (by decide)) hy).mono fun _ _ h => h.e

end Go.Proofs.YtbebmknfecehnaaGreat.rat
