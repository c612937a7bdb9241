/- Package whole and the document's whole numbers: the calls. Condition: as each says. -/
import Derived.Test.YtbebmknfecehnaaGreatWhlD
namespace Go.Proofs.YtbebmknfecehnaaGreat.whl
open Go.RowKit Go.Proofs.YtbebmknfecehnaaGreat.num Go.Proofs.YtbebmknfecehnaaGreat.mem Go.Proofs.YtbebmknfecehnaaGreat.nat Go.Proofs.YtbebmknfecehnaaGreat.txt Go.Proofs.YtbebmknfecehnaaGreat.str Go.Proofs.YtbebmknfecehnaaGreat.flow
set_option linter.unusedVariables false
theorem cmp_mul {x y : Int} (h : ordz (ordz x 0) (ordz y 0) = 0) : IntKind.i64.wrap (ordz x 0 * ord x.natAbs y.natAbs) = ordz x y := by
  rcases Int.lt_trichotomy x 0 with hx | hx | hx <;> rcases Int.lt_trichotomy y 0 with hy | hy | hy
  all_goals
    first
    | (exfalso; revert h; unfold ordz; (repeat' split) <;> omega)
    | (rcases Nat.lt_trichotomy x.natAbs y.natAbs with h1 | h1 | h1
       · rw [ord_lt h1]; unfold ordz; (repeat' split) <;> first | omega | (rw [IntKind.wrap_i64]; omega)
       · rw [h1, ord_eq]; unfold ordz; (repeat' split) <;> first | omega | (rw [IntKind.wrap_i64]; omega)
       · rw [ord_gt h1]; unfold ordz; (repeat' split) <;> first | omega | (rw [IntKind.wrap_i64]; omega))
theorem cmp_sgn {x y : Int} (h : ordz (ordz x 0) (ordz y 0) ≠ 0) : ordz (ordz x 0) (ordz y 0) = ordz x y := by
  revert h
  unfold ordz
  (repeat' split) <;> omega
set_option maxHeartbeats 400000 in
theorem isNaN_any (a : Int) (w : World) : Calls Tryz.prog 101 #[.int .i64 a] w fun e w' => e = .returned (.bool false) ∧ w = w' := by
  have h1 : (a != a) = false := by simp
  go_enter Tryz.func101, Tryz.ntmps101
  go_wp2
  go_ret
  exact ⟨by first | rfl | simp, rfl⟩
set_option maxHeartbeats 400000 in
theorem compare_any (a b t : Int) (w : World) (ht : t = ordz a b) : Calls Tryz.prog 82 #[.int .i64 a, .int .i64 b] w (RetV (.int .i64 t) w) := by
  rcases Int.lt_trichotomy a b with h | h | h
  · have h1 : t = -1 := by rw [ht]; exact ordz_lt h
    subst h1
    clear ht
    go_enter Tryz.func82, Tryz.ntmps82
    go_wp2_with fail
    refine (isNaN_any _ _).mono ?_
    rintro e w' ⟨rfl, rfl⟩
    go_wp2_with fail
    refine (isNaN_any _ _).mono ?_
    rintro e w' ⟨rfl, rfl⟩
    go_wp2
    go_ret
    exact ⟨rfl, Below.refl _ _⟩
  · have h1 : t = 0 := by rw [ht]; exact ordz_eq h
    subst h1; subst h
    clear ht
    have h2 : ¬ a < a := by omega
    go_enter Tryz.func82, Tryz.ntmps82
    go_wp2_with fail
    refine (isNaN_any _ _).mono ?_
    rintro e w' ⟨rfl, rfl⟩
    go_wp2_with fail
    refine (isNaN_any _ _).mono ?_
    rintro e w' ⟨rfl, rfl⟩
    go_wp2
    go_ret
    exact ⟨rfl, Below.refl _ _⟩
  · have h1 : t = 1 := by rw [ht]; exact ordz_gt h
    subst h1
    clear ht
    have h2 : ¬ a < b := by omega
    go_enter Tryz.func82, Tryz.ntmps82
    go_wp2_with fail
    refine (isNaN_any _ _).mono ?_
    rintro e w' ⟨rfl, rfl⟩
    go_wp2_with fail
    refine (isNaN_any _ _).mono ?_
    rintro e w' ⟨rfl, rfl⟩
    go_wp2
    go_ret
    exact ⟨rfl, Below.refl _ _⟩

set_option maxHeartbeats 1600000 in
set_option maxRecDepth 100000 in
theorem zcmp_any (a0 : Value) (x : Int) (a1 : Value) (y : Int) (t : Int) (w : World) (h0 : IsZ w a0 x) (h1 : IsZ w a1 y) (ht : t = ordz x y) :
    Calls Tryz.prog 49 #[a0, a1] w (RetV (.int .i64 t) w) := by
  obtain ⟨u0, rfl, s0⟩ := h0
  obtain ⟨A0, c0, rfl, _⟩ := id s0
  obtain ⟨u1, rfl, s1⟩ := h1
  obtain ⟨A1, c1, rfl, _⟩ := id s1
  by_cases hT : ordz (ordz x 0) (ordz y 0) = 0
  · have HT : Hid (0 = ordz (ordz x 0) (ordz y 0)) := hT.symm
    have HM : Hid (IntKind.i64.wrap (ordz x 0 * ord x.natAbs y.natAbs) = t) := by show _ = _; rw [ht]; exact cmp_mul hT
    clear hT ht
    go_enter Tryz.func49, Tryz.ntmps49
    go_upto_region 1 with (fail)
    obtain ⟨wx, hwx, bb, B0, B1, hsz⟩ := vars2 w 25 25 #[.bool (ngB x), .slice A0 (digs 4294967296 (x).natAbs).length c0] #[.bool (ngB y), .slice A1 (digs 4294967296 (y).natAbs).length c1]
    rw [hwx]
    clear hwx
    have k0s := s0.below bb
    have k0 : IsZ wx (.agg #[.bool (ngB x), .slice A0 (digs 4294967296 (x).natAbs).length c0]) (x) := isZ_mk k0s rfl rfl
    have k1s := s1.below bb
    have k1 : IsZ wx (.agg #[.bool (ngB y), .slice A1 (digs 4294967296 (y).natAbs).length c1]) (y) := isZ_mk k1s rfl rfl
    have hszb := bb.size
    refine flowp 3 [Pd.eq (.agg #[.bool (ngB x), .slice A0 (digs 4294967296 (x).natAbs).length c0]), Pd.eq (.int .i64 (ordz x 0)), Pd.eq (.int .i64 (ordz x 0))] (by kernel_rfl) ?ob32 ?done32
    case ob32 =>
      refine And.intro (ob_load rfl (wt_none rfl) (ev_far rfl rfl) (fun w2 hb => run_loadAll Tryz.underlying25 rfl (by kernel_rfl) (B0.below hb)) (fun _ _ => rfl)) ?_
      refine And.intro (ob_call1 rfl Tryz.func50 (by kernel_rfl) (wt_none rfl) (ev_dep (j := 0) (by kernel_rfl) rfl rfl) (fun w2 u0 hb h0 => by obtain rfl := h0; exact (sign_any _ _ _ _ (k0.below hb) rfl).mono fun e w3 h => RetV.pd h)) ?_
      refine And.intro (ob_assign rfl (wt_none rfl) (ev_dep (j := 1) (by kernel_rfl) rfl rfl) (fun _ _ h => h)) ?_
      trivial
    case done32 =>
      refine fun w1 hb1 v0 h0 v1 h1 v2 h2 b hbf => ?_
      obtain rfl := h0; obtain rfl := h1; obtain rfl := h2
      simp only [Act.put, List.setIfInBounds_toArray, List.set_cons_zero, List.set_cons_succ] at hbf
      subst hbf
      replace B0 := B0.below hb1
      replace B1 := B1.below hb1
      replace k0s := k0s.below hb1
      replace k1s := k1s.below hb1
      replace k0 := k0.below hb1
      replace k1 := k1.below hb1
      replace bb := bb.trans (hb1.mono bb.size)
      have hszb := bb.size
      obtain ⟨x00, x01, y00, y01⟩ := Blk.two B0
      obtain ⟨x10, x11, y10, y11⟩ := Blk.two B1
      refine ops_done ?_
      go_upto_region 2 with (fail)
      refine flowp 5 [Pd.eq (.int .i64 (ordz x 0)), Pd.eq (.agg #[.bool (ngB y), .slice A1 (digs 4294967296 (y).natAbs).length c1]), Pd.eq (.int .i64 (ordz y 0)), Pd.eq (.int .i64 0), Pd.eq (.int .i64 0)] (by kernel_rfl) ?ob33 ?done33
      case ob33 =>
        refine And.intro (ob_move rfl (wt_none rfl) (ev_far rfl rfl) (fun _ _ h => h)) ?_
        refine And.intro (ob_load rfl (wt_none rfl) (ev_far rfl rfl) (fun w2 hb => run_loadAll Tryz.underlying25 rfl (by kernel_rfl) (B1.below hb)) (fun _ _ => rfl)) ?_
        refine And.intro (ob_call1 rfl Tryz.func50 (by kernel_rfl) (wt_none rfl) (ev_dep (j := 1) (by kernel_rfl) rfl rfl) (fun w2 u0 hb h0 => by obtain rfl := h0; exact (sign_any _ _ _ _ (k1.below hb) rfl).mono fun e w3 h => RetV.pd h)) ?_
        refine And.intro (ob_call2 rfl Tryz.func82 (by kernel_rfl) (wt_none rfl) (ev_dep (j := 0) (by kernel_rfl) rfl rfl) (ev_dep (j := 2) (by kernel_rfl) rfl rfl) (fun w2 u0 u1 hb h0 h1 => by obtain rfl := h0; obtain rfl := h1; exact (compare_any _ _ _ _ HT.out).mono fun e w3 h => RetV.pd h)) ?_
        refine And.intro (ob_assign rfl (wt_none rfl) (ev_dep (j := 3) (by kernel_rfl) rfl rfl) (fun _ _ h => h)) ?_
        trivial
      case done33 =>
        refine fun w2 hb2 v0 h0 v1 h1 v2 h2 v3 h3 v4 h4 b hbf => ?_
        obtain rfl := h0; obtain rfl := h1; obtain rfl := h2; obtain rfl := h3; obtain rfl := h4
        simp only [Act.put, List.setIfInBounds_toArray, List.set_cons_zero, List.set_cons_succ] at hbf
        subst hbf
        replace B0 := B0.below hb2
        replace B1 := B1.below hb2
        replace k0s := k0s.below hb2
        replace k1s := k1s.below hb2
        replace k0 := k0.below hb2
        replace k1 := k1.below hb2
        replace bb := bb.trans (hb2.mono bb.size)
        have hszb := bb.size
        obtain ⟨x00, x01, y00, y01⟩ := Blk.two B0
        obtain ⟨x10, x11, y10, y11⟩ := Blk.two B1
        refine ops_done ?_
        go_upto_region 5 with (fail)
        refine flowp 8 [Pd.eq (.int .i64 (ordz x 0)), Pd.eq (.pointer (some ⟨w.heap.size, 1, none⟩)), Pd.eq (.slice A0 (digs 4294967296 (x).natAbs).length c0), Pd.eq (.pointer (some ⟨w.heap.size + 1, 1, none⟩)), Pd.eq (.slice A1 (digs 4294967296 (y).natAbs).length c1), Pd.eq (.int .i64 (ord x.natAbs y.natAbs)), Pd.eq (.int .i64 t), Pd.eq (.int .i64 t)] (by kernel_rfl) ?ob34 ?done34
        case ob34 =>
          refine And.intro (ob_move rfl (wt_none rfl) (ev_far rfl rfl) (fun _ _ h => h)) ?_
          refine And.intro (ob_fieldAddr rfl (wt_none rfl) (ev_far rfl rfl) (fun _ => by kernel_rfl) (fun _ => rfl)) ?_
          refine And.intro (ob_load rfl (wt_none rfl) (ev_dep (j := 1) (by kernel_rfl) rfl rfl) (fun w2 hb => run_load1 Tryz.underlying23 rfl ((B0.below hb).cell 1)) (fun _ _ => rfl)) ?_
          refine And.intro (ob_fieldAddr rfl (wt_none rfl) (ev_far rfl rfl) (fun _ => by kernel_rfl) (fun _ => rfl)) ?_
          refine And.intro (ob_load rfl (wt_none rfl) (ev_dep (j := 3) (by kernel_rfl) rfl rfl) (fun w2 hb => run_load1 Tryz.underlying23 rfl ((B1.below hb).cell 1)) (fun _ _ => rfl)) ?_
          refine And.intro (ob_call2 rfl Tryz.func68 (by kernel_rfl) (wt_none rfl) (ev_dep (j := 2) (by kernel_rfl) rfl rfl) (ev_dep (j := 4) (by kernel_rfl) rfl rfl) (fun w2 u0 u1 hb h0 h1 => by obtain rfl := h0; obtain rfl := h1; exact (cmp_any _ _ _ _ _ _ (k0s.below hb) (k1s.below hb) rfl).mono fun e w3 h => RetV.pd h)) ?_
          refine And.intro (ob_bin rfl (wt_none rfl) (ev_dep (j := 0) (by kernel_rfl) rfl rfl) (ev_dep (j := 5) (by kernel_rfl) rfl rfl) (fun _ _ _ hx hy => ⟨_, by rw [hx, hy]; exact bin_mul_int _ _ _ _ _, congrArg (Value.int .i64) HM.out⟩)) ?_
          refine And.intro (ob_assign rfl (wt_none rfl) (ev_dep (j := 6) (by kernel_rfl) rfl rfl) (fun _ _ h => h)) ?_
          trivial
        case done34 =>
          refine fun w3 hb3 v0 h0 v1 h1 v2 h2 v3 h3 v4 h4 v5 h5 v6 h6 v7 h7 b hbf => ?_
          obtain rfl := h0; obtain rfl := h1; obtain rfl := h2; obtain rfl := h3; obtain rfl := h4; obtain rfl := h5; obtain rfl := h6; obtain rfl := h7
          simp only [Act.put, List.setIfInBounds_toArray, List.set_cons_zero, List.set_cons_succ] at hbf
          subst hbf
          refine ops_done ?_
          go_wp2
          go_ret
          exact ⟨rfl, bb.trans (hb3.mono bb.size)⟩
  · have HR : Hid (t = ordz (ordz x 0) (ordz y 0)) := by show _ = _; rw [ht]; exact (cmp_sgn hT).symm
    obtain ⟨T, hT2⟩ : ∃ T, T = ordz (ordz x 0) (ordz y 0) := ⟨_, rfl⟩
    rw [← hT2] at hT HR
    have hTn : (T != 0) = true := by simpa using hT
    have HT := Lib.hid hT2
    clear hT2
    clear hT ht
    go_enter Tryz.func49, Tryz.ntmps49
    go_upto_region 1 with (fail)
    obtain ⟨wx, hwx, bb, B0, B1, hsz⟩ := vars2 w 25 25 #[.bool (ngB x), .slice A0 (digs 4294967296 (x).natAbs).length c0] #[.bool (ngB y), .slice A1 (digs 4294967296 (y).natAbs).length c1]
    rw [hwx]
    clear hwx
    have k0s := s0.below bb
    have k0 : IsZ wx (.agg #[.bool (ngB x), .slice A0 (digs 4294967296 (x).natAbs).length c0]) (x) := isZ_mk k0s rfl rfl
    have k1s := s1.below bb
    have k1 : IsZ wx (.agg #[.bool (ngB y), .slice A1 (digs 4294967296 (y).natAbs).length c1]) (y) := isZ_mk k1s rfl rfl
    have hszb := bb.size
    refine flowp 3 [Pd.eq (.agg #[.bool (ngB x), .slice A0 (digs 4294967296 (x).natAbs).length c0]), Pd.eq (.int .i64 (ordz x 0)), Pd.eq (.int .i64 (ordz x 0))] (by kernel_rfl) ?ob35 ?done35
    case ob35 =>
      refine And.intro (ob_load rfl (wt_none rfl) (ev_far rfl rfl) (fun w2 hb => run_loadAll Tryz.underlying25 rfl (by kernel_rfl) (B0.below hb)) (fun _ _ => rfl)) ?_
      refine And.intro (ob_call1 rfl Tryz.func50 (by kernel_rfl) (wt_none rfl) (ev_dep (j := 0) (by kernel_rfl) rfl rfl) (fun w2 u0 hb h0 => by obtain rfl := h0; exact (sign_any _ _ _ _ (k0.below hb) rfl).mono fun e w3 h => RetV.pd h)) ?_
      refine And.intro (ob_assign rfl (wt_none rfl) (ev_dep (j := 1) (by kernel_rfl) rfl rfl) (fun _ _ h => h)) ?_
      trivial
    case done35 =>
      refine fun w1 hb1 v0 h0 v1 h1 v2 h2 b hbf => ?_
      obtain rfl := h0; obtain rfl := h1; obtain rfl := h2
      simp only [Act.put, List.setIfInBounds_toArray, List.set_cons_zero, List.set_cons_succ] at hbf
      subst hbf
      replace B0 := B0.below hb1
      replace B1 := B1.below hb1
      replace k0s := k0s.below hb1
      replace k1s := k1s.below hb1
      replace k0 := k0.below hb1
      replace k1 := k1.below hb1
      replace bb := bb.trans (hb1.mono bb.size)
      have hszb := bb.size
      obtain ⟨x00, x01, y00, y01⟩ := Blk.two B0
      obtain ⟨x10, x11, y10, y11⟩ := Blk.two B1
      refine ops_done ?_
      go_upto_region 2 with (fail)
      refine flowp 5 [Pd.eq (.int .i64 (ordz x 0)), Pd.eq (.agg #[.bool (ngB y), .slice A1 (digs 4294967296 (y).natAbs).length c1]), Pd.eq (.int .i64 (ordz y 0)), Pd.eq (.int .i64 T), Pd.eq (.int .i64 T)] (by kernel_rfl) ?ob36 ?done36
      case ob36 =>
        refine And.intro (ob_move rfl (wt_none rfl) (ev_far rfl rfl) (fun _ _ h => h)) ?_
        refine And.intro (ob_load rfl (wt_none rfl) (ev_far rfl rfl) (fun w2 hb => run_loadAll Tryz.underlying25 rfl (by kernel_rfl) (B1.below hb)) (fun _ _ => rfl)) ?_
        refine And.intro (ob_call1 rfl Tryz.func50 (by kernel_rfl) (wt_none rfl) (ev_dep (j := 1) (by kernel_rfl) rfl rfl) (fun w2 u0 hb h0 => by obtain rfl := h0; exact (sign_any _ _ _ _ (k1.below hb) rfl).mono fun e w3 h => RetV.pd h)) ?_
        refine And.intro (ob_call2 rfl Tryz.func82 (by kernel_rfl) (wt_none rfl) (ev_dep (j := 0) (by kernel_rfl) rfl rfl) (ev_dep (j := 2) (by kernel_rfl) rfl rfl) (fun w2 u0 u1 hb h0 h1 => by obtain rfl := h0; obtain rfl := h1; exact (compare_any _ _ _ _ HT.out).mono fun e w3 h => RetV.pd h)) ?_
        refine And.intro (ob_assign rfl (wt_none rfl) (ev_dep (j := 3) (by kernel_rfl) rfl rfl) (fun _ _ h => h)) ?_
        trivial
      case done36 =>
        refine fun w2 hb2 v0 h0 v1 h1 v2 h2 v3 h3 v4 h4 b hbf => ?_
        obtain rfl := h0; obtain rfl := h1; obtain rfl := h2; obtain rfl := h3; obtain rfl := h4
        simp only [Act.put, List.setIfInBounds_toArray, List.set_cons_zero, List.set_cons_succ] at hbf
        subst hbf
        replace B0 := B0.below hb2
        replace B1 := B1.below hb2
        replace k0s := k0s.below hb2
        replace k1s := k1s.below hb2
        replace k0 := k0.below hb2
        replace k1 := k1.below hb2
        replace bb := bb.trans (hb2.mono bb.size)
        have hszb := bb.size
        obtain ⟨x00, x01, y00, y01⟩ := Blk.two B0
        obtain ⟨x10, x11, y10, y11⟩ := Blk.two B1
        refine ops_done ?_
        go_wp2
        go_ret
        rw [HR.out]
        exact ⟨rfl, bb⟩

set_option maxHeartbeats 1600000 in
set_option maxRecDepth 100000 in
theorem zsame_one (a0 a1 : Value) (x : Int) (w : World) (h0 : IsZ w a0 x) (h1 : IsZ w a1 x) :
    Calls Tryz.prog 35 #[a0, a1] w (RetV (.bool true) w) := by
  obtain ⟨u0, rfl, s0⟩ := h0
  obtain ⟨A0, c0, rfl, _⟩ := id s0
  obtain ⟨u1, rfl, s1⟩ := h1
  obtain ⟨A1, c1, rfl, _⟩ := id s1
  go_enter Tryz.func35, Tryz.ntmps35
  go_upto_region 1 with (fail)
  obtain ⟨wx, hwx, bb, B0, B1, hsz⟩ := vars2 w 25 25 #[.bool (ngB x), .slice A0 (digs 4294967296 (x).natAbs).length c0] #[.bool (ngB x), .slice A1 (digs 4294967296 (x).natAbs).length c1]
  rw [hwx]
  clear hwx
  have k0s := s0.below bb
  have k0 : IsZ wx (.agg #[.bool (ngB x), .slice A0 (digs 4294967296 (x).natAbs).length c0]) (x) := isZ_mk k0s rfl rfl
  have k1s := s1.below bb
  have k1 : IsZ wx (.agg #[.bool (ngB x), .slice A1 (digs 4294967296 (x).natAbs).length c1]) (x) := isZ_mk k1s rfl rfl
  have hszb := bb.size
  refine flowp 13 [Pd.eq (.pointer (some ⟨w.heap.size, 0, none⟩)), Pd.eq (.bool (ngB x)), Pd.eq (.pointer (some ⟨w.heap.size + 1, 0, none⟩)), Pd.eq (.bool (ngB x)), Pd.eq (.bool true), Pd.eq (.bool true), Pd.eq (.pointer (some ⟨w.heap.size, 1, none⟩)), Pd.eq (.slice A0 (digs 4294967296 (x).natAbs).length c0), Pd.eq (.pointer (some ⟨w.heap.size + 1, 1, none⟩)), Pd.eq (.slice A1 (digs 4294967296 (x).natAbs).length c1), Pd.eq (.bool true), Pd.eq (.bool true), Pd.eq (.bool true)] (by kernel_rfl) ?ob38 ?done38
  case ob38 =>
    refine And.intro (ob_fieldAddr rfl (wt_none rfl) (ev_far rfl rfl) (fun _ => by kernel_rfl) (fun _ => rfl)) ?_
    refine And.intro (ob_load rfl (wt_none rfl) (ev_dep (j := 0) (by kernel_rfl) rfl rfl) (fun w2 hb => run_load1 Tryz.underlying4 rfl ((B0.below hb).cell 0)) (fun _ _ => rfl)) ?_
    refine And.intro (ob_fieldAddr rfl (wt_none rfl) (ev_far rfl rfl) (fun _ => by kernel_rfl) (fun _ => rfl)) ?_
    refine And.intro (ob_load rfl (wt_none rfl) (ev_dep (j := 2) (by kernel_rfl) rfl rfl) (fun w2 hb => run_load1 Tryz.underlying4 rfl ((B1.below hb).cell 0)) (fun _ _ => rfl)) ?_
    refine And.intro (ob_bin rfl (wt_none rfl) (ev_dep (j := 1) (by kernel_rfl) rfl rfl) (ev_dep (j := 3) (by kernel_rfl) rfl rfl) (fun _ _ _ hx hy => ⟨.bool ((ngB x) == (ngB x)), by rw [hx, hy]; exact bin_eql_bool _ _ _ _ Tryz.underlying4 _, congrArg Value.bool (beq_self_eq_true _)⟩)) ?_
    refine And.intro (ob_move rfl (wt_none rfl) (ev_dep (j := 4) (by kernel_rfl) rfl rfl) (fun _ _ h => h)) ?_
    refine And.intro (ob_fieldAddr rfl (wt_dep (c := true) (b := true) (g := 5) rfl (by kernel_rfl) rfl rfl rfl (by exact fun _ _ h => h)) (ev_far rfl rfl) (fun _ => by kernel_rfl) (fun _ => rfl)) ?_
    refine And.intro (ob_load rfl (wt_dep (c := true) (b := true) (g := 5) rfl (by kernel_rfl) rfl rfl rfl (by exact fun _ _ h => h)) (ev_dep (j := 6) (by kernel_rfl) rfl rfl) (fun w2 hb => run_load1 Tryz.underlying23 rfl ((B0.below hb).cell 1)) (fun _ _ => rfl)) ?_
    refine And.intro (ob_fieldAddr rfl (wt_dep (c := true) (b := true) (g := 5) rfl (by kernel_rfl) rfl rfl rfl (by exact fun _ _ h => h)) (ev_far rfl rfl) (fun _ => by kernel_rfl) (fun _ => rfl)) ?_
    refine And.intro (ob_load rfl (wt_dep (c := true) (b := true) (g := 5) rfl (by kernel_rfl) rfl rfl rfl (by exact fun _ _ h => h)) (ev_dep (j := 8) (by kernel_rfl) rfl rfl) (fun w2 hb => run_load1 Tryz.underlying23 rfl ((B1.below hb).cell 1)) (fun _ _ => rfl)) ?_
    refine And.intro (ob_call2 rfl Tryz.func36 (by kernel_rfl) (wt_dep (c := true) (b := true) (g := 5) rfl (by kernel_rfl) rfl rfl rfl (by exact fun _ _ h => h)) (ev_dep (j := 7) (by kernel_rfl) rfl rfl) (ev_dep (j := 9) (by kernel_rfl) rfl rfl) (fun w2 u0 u1 hb h0 h1 => by obtain rfl := h0; obtain rfl := h1; exact (same_one _ _ _ _ (k0s.below hb) (k1s.below hb)).mono fun e w3 h => RetV.pd h)) ?_
    refine And.intro (ob_pick (b := true) rfl (wt_none rfl) (ev_dep (j := 5) (by kernel_rfl) rfl rfl) (ev_dep (j := 10) (by kernel_rfl) rfl rfl) (fun _ _ h => h)) ?_
    refine And.intro (ob_assign rfl (wt_none rfl) (ev_dep (j := 11) (by kernel_rfl) rfl rfl) (fun _ _ h => h)) ?_
    trivial
  case done38 =>
    refine fun w1 hb1 v0 h0 v1 h1 v2 h2 v3 h3 v4 h4 v5 h5 v6 h6 v7 h7 v8 h8 v9 h9 v10 h10 v11 h11 v12 h12 b hbf => ?_
    obtain rfl := h0; obtain rfl := h1; obtain rfl := h2; obtain rfl := h3; obtain rfl := h4; obtain rfl := h5; obtain rfl := h6; obtain rfl := h7; obtain rfl := h8; obtain rfl := h9; obtain rfl := h10; obtain rfl := h11; obtain rfl := h12
    simp only [Act.put, List.setIfInBounds_toArray, List.set_cons_zero, List.set_cons_succ] at hbf
    subst hbf
    refine ops_done ?_
    go_wp2
    go_ret
    exact ⟨rfl, bb.trans (hb1.mono bb.size)⟩

/-- The whole number that Clean makes of any. -/
def cleanZ (b : Bool) (l : List Nat) (most : Nat) : Int := sg b (cleaned l most)
theorem cleanZ_len (b : Bool) (l : List Nat) (most : Nat) : lenZ (cleanZ b l most) ≤ most := by unfold lenZ cleanZ; rw [sg_abs]; exact cleaned_len l most
set_option maxHeartbeats 800000 in
theorem zclean_any (b : Bool) (v : Value) (l : List Nat) (mI : Int) (most : Nat) (w : World) (hmI : mI = (most : Int)) (h : IsS w .u64 v l) (hu : Lt 18446744073709551616 l) (hmost : most ≤ 1000000) :
    Calls Tryz.prog 33 #[.agg #[.bool b, v], .int .i64 mI] w (RetZ (cleanZ b l most) w) := by
  obtain ⟨A, c, rfl, _⟩ := id h
  have HM := Lib.hid hmI
  clear hmI
  have hsh : Hid (IsS w .u64 (.slice A l.length c) l) := h
  go_enter Tryz.func33, Tryz.ntmps33
  go_upto_region 1 with (fail)
  obtain ⟨wx, hwx, bb, B0, B1, hsz⟩ := vars2 w 25 25 #[.bool b, .slice A l.length c] #[.bool false, .slice none 0 0]
  rw [hwx]
  clear hwx
  have k0s := h.below bb
  obtain ⟨x00, x01, _, _⟩ := Blk.two B0
  go_wp2_with fail
  refine (clean_any _ l _ most _ HM.out k0s hu hmost).mono ?_
  rintro e w1 ⟨v1, rfl, k1, f1, b1⟩
  obtain ⟨A1, c1, rfl, _⟩ := id k1
  have B0' := B0.below b1
  have B1' := B1.below b1
  have bb1 := bb.trans (b1.mono bb.size)
  have hs := b1.size
  obtain ⟨x10, x11, z10, z11⟩ := Blk.two B0'
  obtain ⟨y10, y11, q10, q11⟩ := Blk.two B1'
  clear x00 x01 B0 B1
  obtain ⟨y, hy⟩ : ∃ y, y = cleaned l most := ⟨_, rfl⟩
  have HY := Lib.hid hy.symm
  rw [← hy] at k1 f1 ⊢
  clear hy
  by_cases hy0 : 0 < y
  · have hn : 0 < (digs 4294967296 y).length := len_pos hy0
    have HE : Hid (ngB (sg b y) = b) := ngB_sg_pos hy0
    have HAb : Hid ((sg b y).natAbs = y) := sg_abs b y
    have HC : Hid (cleanZ b l most = sg b y) := by show _ = _; unfold cleanZ; rw [HY.out]
    cases b
    all_goals
      go_wp2
      refine bodyPost_ret (by simp [results, Tryz.results33, go_sem, y10, y11]; rfl) rfl ?_
      rw [HC.out]
      exact endZ bb1 (by omega) (show w.heap.size + 1 < wx.heap.size from hsz) (by rw [HAb.out]; exact k1) f1 HE.out.symm
  · obtain rfl : y = 0 := by omega
    have HC : Hid (cleanZ b l most = sg b 0) := by show _ = _; unfold cleanZ; rw [HY.out]
    have HE : Hid (ngB (sg b 0) = false) := ngB_sg_zero b
    have HAb : Hid ((sg b 0).natAbs = 0) := sg_abs b 0
    have HD : Hid (digs 4294967296 0 = []) := digs_zero _
    rw [HD.out] at k1 f1 ⊢
    cases b
    all_goals
      go_wp2
      refine bodyPost_ret (by simp [results, Tryz.results33, go_sem, y10, y11]; rfl) rfl ?_
      rw [HC.out]
      exact endZ bb1 (by omega) (show w.heap.size + 1 < wx.heap.size from hsz) (by rw [HAb.out, HD.out]; exact k1) f1 HE.out.symm
end Go.Proofs.YtbebmknfecehnaaGreat.whl
