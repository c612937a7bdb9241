/- FoldSums: the sum and the product of any fractions, whether they are a whole, and what is left of 1. Condition: the arguments can be read as data. -/
import Derived.Test.YtlnmoledijlemaaGreatK6
import Derived.Deep.Cut
import Derived.OpenShut
import Derived.LaidMore
import Derived.Lay
import Derived.Stop.Joined
namespace Go.Proofs.YtlnmoledijlemaaGreat.foldSums
open Go.ChangeShapes Go.WideShapes Go.ChangeAt Go.RowKit Go.Proofs.YtlnmoledijlemaaGreat.num Go.Proofs.YtlnmoledijlemaaGreat.mem Go.Proofs.YtlnmoledijlemaaGreat.nat Go.Proofs.YtlnmoledijlemaaGreat.txt Go.Proofs.YtlnmoledijlemaaGreat.str Go.Proofs.YtlnmoledijlemaaGreat.flow Go.Proofs.YtlnmoledijlemaaGreat.whl Go.Proofs.YtlnmoledijlemaaGreat.rat
set_option linter.unusedVariables false
theorem own : ownKnob Tryz.prog.godebug = none := by kernel_rfl
theorem laidOut : laidOutB Tryz.prog = true := by kernel_rfl
theorem cells_u : Tryz.prog.cellsOf 71 = 1 := by kernel_rfl
set_option maxHeartbeats 6400000 in
set_option maxRecDepth 100000 in
/-- The walk: the Go text returns true; what was there is as it was. -/
theorem walk (v0 : Value) (b1 : Bool) (v1 r1 : Value) (l1 m1 : List Nat) (w : World) (h0 : ArgQs w v0) (h1 : IsS w .u64 v1 l1) (u1 : Lt 18446744073709551616 l1) (j1 : IsS w .u64 r1 m1) (x1 : Lt 18446744073709551616 m1) :
    Calls Tryz.prog 3 #[v0, .agg #[.bool b1, v1, r1]] w (RetV (.bool true) w) := by
  obtain ⟨A1, c1, rfl, _⟩ := id h1
  obtain ⟨D1, e1, rfl, _⟩ := id j1
  obtain ⟨a, hx1⟩ : ∃ a, a = cleanQ b1 l1 m1 2 := ⟨_, rfl⟩
  have la : lenQ a 2 := by rw [hx1]; exact cleanQ_len _ _ _ (by omega)
  have HX1 := Lib.hid hx1.symm
  clear hx1
  go_enter Tryz.func3, Tryz.ntmps3
  go_upto_region 1 with (fail)
  obtain ⟨w0, hwx, bb, BP1, hsz⟩ := vars1 w 28 #[.bool b1, .slice A1 l1.length c1, .slice D1 m1.length e1]
  rw [hwx]
  clear hwx
  have p1s := h1.below bb
  have p1d := j1.below bb
  have hsz0 := bb.size
  go_wp2_with fail
  refine (few_any v0 _ (h0.below bb)).mono ?_
  rintro e w1 ⟨V, U, qs, rfl, hV, hU, hlen, hlq, hb1, hfV, hfU⟩
  have hneV : V.ownBlock ≠ some w.heap.size := fun e => by have := hfV _ e; omega
  have hneU : U.ownBlock ≠ some w.heap.size := fun e => by have := hfU _ e; omega
  clear hfV hfU
  replace BP1 := BP1.below hb1
  replace p1s := p1s.below hb1
  replace p1d := p1d.below hb1
  replace bb := bb.trans (hb1.mono bb.size)
  have hsz1 := bb.size
  have hq2 : ∀ q ∈ qs, lenQ q 2 := hlq
  obtain ⟨SM, hSM⟩ : ∃ SM, SM = sumq qs := ⟨_, rfl⟩
  obtain ⟨PR, hPR⟩ : ∃ PR, PR = prodq qs := ⟨_, rfl⟩
  obtain ⟨WB, hWB⟩ : ∃ WB, WB = decide (wholeQ qs) := ⟨_, rfl⟩
  have HLQ := Lib.hid hlq
  have lSM : lenQ SM 25 := by rw [hSM]; exact (lenQ_sumq hlq).mono (by omega)
  have lPR : lenQ PR 25 := by rw [hPR]; exact (lenQ_prodq hlq).mono (by omega)
  have HSM := Lib.hid hSM.symm
  have HPR := Lib.hid hPR.symm
  have HWB := Lib.hid hWB
  have HLS : Hid ((∀ q ∈ qs, lenQ q 2) ∧ (2 + 1) * qs.length + 1 ≤ 1000) := ⟨hlq, by omega⟩
  have HLP : Hid ((∀ q ∈ qs, lenQ q 2) ∧ 2 * qs.length + 1 ≤ 1000) := ⟨hlq, by omega⟩
  have HL8 : Hid (qs.length ≤ 8) := hlen
  clear hSM hPR hWB hlq hq2
  have lq1 : lenQ (1 : Rat) 1 := ⟨digs_len_le (k := 1) (by omega) (by decide +kernel), digs_len_le (k := 1) (by omega) (by decide +kernel)⟩
  go_upto_region 2 with (fail)
  refine flowp 2 [Pd.eq (.agg #[.bool b1, .slice A1 l1.length c1, .slice D1 m1.length e1]), pqn a] (by kernel_rfl) ?ob2 ?done2
  case ob2 =>
    refine And.intro (ob_load rfl (wt_none rfl) (ev_far rfl rfl) (fun w2 hb => run_loadAll Tryz.underlying28 rfl (by kernel_rfl) (BP1.below hb)) (fun _ _ => rfl)) ?_
    refine And.intro (ob_call2 rfl Tryz.func10 (by kernel_rfl) (wt_none rfl) (ev_dep (j := 0) (by kernel_rfl) rfl rfl) (ev_const _) (fun w2 u0 u1 hb h0 h1 => by obtain rfl := h0; obtain rfl := h1; exact (HX1.out ▸ qclean_any _ _ _ _ _ _ 2 _ rfl (p1s.below hb) u1 (p1d.below hb) x1 (by omega) (by omega)).mono fun e w3 h => RetQn.pd (RetQ.n h))) ?_
    trivial
  case done2 =>
    refine fun w2 hb2 v0 h0 v1 h1 b hbf => ?_
    obtain rfl := h0
    have q1 := h1
    simp only [Act.put, List.setIfInBounds_toArray, List.set_cons_zero, List.set_cons_succ] at hbf
    subst hbf
    replace BP1 := BP1.below hb2
    replace p1s := p1s.below hb2
    replace p1d := p1d.below hb2
    replace hV := hV.below hb2
    replace hU := hU.below hb2
    replace bb := bb.trans (hb2.mono bb.size)
    have hsz2 := bb.size
    obtain ⟨u1, t1, rfl, q1, d1⟩ := q1
    obtain ⟨Aa, ca, rfl, _⟩ := id q1
    obtain ⟨Da, ea, rfl, _⟩ := id d1
    refine ops_store (i := 2) rfl rfl rfl rfl rfl rfl (cells := [.bool (ngB (a).num), .slice Aa (digs 4294967296 (a).num.natAbs).length ca, .slice Da (digs 4294967296 (a).den).length ea]) rfl BP1 rfl (by kernel_rfl) (one3 rfl rfl rfl) fun w3 hg3 BN3 => ?_
    replace hV := hV.off BP1 no_ints3 hg3 hneV
    replace hU := hU.off BP1 no_ints3 hg3 hneU
    replace q1 := off q1 BP1 no_ints3 hg3
    replace d1 := off d1 BP1 no_ints3 hg3
    replace bb := bb.trans ((Below.refl _ _).grown hg3 bb.size (fun g hg => by injection hg with hg; omega))
    have hsz3 := bb.size
    have Ba : Blk w3 (w.heap.size) _ _ := BN3
    have kas := q1
    have kad := d1
    have kaz : IsZ w3 (.agg #[.bool (ngB (a).num), .slice Aa (digs 4294967296 (a).num.natAbs).length ca]) ((a).num) := ⟨_, rfl, kas⟩
    have ka : IsQ w3 (.agg #[.bool (ngB (a).num), .slice Aa (digs 4294967296 (a).num.natAbs).length ca, .slice Da (digs 4294967296 (a).den).length ea]) (a) := ⟨_, _, rfl, kas, kad⟩
    refine ops_done ?_
    go_upto_region 3 with (fail)
    refine flow 35 [Pd.eq (V), pqn (SM), Pd.eq (U), pp (SM), pqn (SM), Pd.eq (.bool true), Pd.eq (.bool true), Pd.eq (V), pqn (PR), Pd.eq (U), pp (PR), pqn (PR), Pd.eq (.bool true), Pd.eq (.bool true), Pd.eq (.bool true), Pd.eq (V), Pd.eq (.bool WB), Pd.eq (U), Pd.eq (.bool WB), Pd.eq (.bool true), Pd.eq (.bool true), Pd.eq (.bool true), Pd.eq (.agg #[.bool (ngB (a).num), .slice Aa (digs 4294967296 (a).num.natAbs).length ca, .slice Da (digs 4294967296 (a).den).length ea]), pqn (((1 : Rat) - a)), pp ((1 : Rat)), Pd.eq (.agg #[.bool (ngB (a).num), .slice Aa (digs 4294967296 (a).num.natAbs).length ca, .slice Da (digs 4294967296 (a).den).length ea]), pp (a), pp (((1 : Rat) - a)), pqn (((1 : Rat) - a)), Pd.eq (.bool true), Pd.eq (.bool true), Pd.eq (.bool true), Pd.eq (.bool true), Pd.eq (.bool true), Pd.eq (.bool true)] (by kernel_rfl) (by kernel_rfl) ?ob3 ?done3
    case ob3 =>
      refine And.intro (ob_move rfl (wt_none rfl) (ev_far rfl rfl) (fun _ _ h => h)) ?_
      refine And.intro (ob_call1 rfl Tryz.func12 (by kernel_rfl) (wt_none rfl) (ev_dep (j := 0) (by kernel_rfl) rfl rfl) (fun w2 u0 hb h0 => by obtain rfl := h0; exact (HSM.out ▸ fsum_any _ qs 2 _ (hV.drew.below hb) HLS.out).mono fun e w3 h => RetQn.pd h)) ?_
      refine And.intro (ob_move rfl (wt_none rfl) (ev_far rfl rfl) (fun _ _ h => h)) ?_
      refine And.intro (ob_call1 rfl Tryz.func14 (by kernel_rfl) (wt_none rfl) (ev_dep (j := 2) (by kernel_rfl) rfl rfl) (fun w2 u0 hb h0 => by obtain rfl := h0; exact (HSM.out ▸ rsum_any _ qs 2 _ (hU.drew.below hb) ⟨HLS.out.1, Nat.le_trans HLS.out.2 (by decide)⟩).mono fun e w3 h => RetP.pd h)) ?_
      refine And.intro (ob_call1 rfl Tryz.func13 (by kernel_rfl) (wt_none rfl) (ev_dep (j := 3) (by kernel_rfl) rfl rfl) (fun w2 u0 hb h0 => by exact (qback_any _ _ _ h0 (lSM.mono (by decide))).mono fun e w3 h => RetQn.pd (RetQ.n h))) ?_
      refine And.intro (ob_call2 rfl Tryz.func11 (by kernel_rfl) (wt_none rfl) (ev_dep (j := 1) (by kernel_rfl) rfl rfl) (ev_dep (j := 4) (by kernel_rfl) rfl rfl) (fun w2 u0 u1 hb h0 h1 => by exact (qsame_eq _ _ (SM) (SM) _ h0 h1 rfl).mono fun e w3 h => RetV.pd h)) ?_
      refine And.intro (ob_move rfl (wt_none rfl) (ev_dep (j := 5) (by kernel_rfl) rfl rfl) (fun _ _ h => h)) ?_
      refine And.intro (ob_move rfl (wt_dep (c := true) (b := true) (g := 6) rfl (by kernel_rfl) rfl rfl rfl (by exact fun _ _ h => h)) (ev_far rfl rfl) (fun _ _ h => h)) ?_
      refine And.intro (ob_call1 rfl Tryz.func15 (by kernel_rfl) (wt_dep (c := true) (b := true) (g := 6) rfl (by kernel_rfl) rfl rfl rfl (by exact fun _ _ h => h)) (ev_dep (j := 7) (by kernel_rfl) rfl rfl) (fun w2 u0 hb h0 => by obtain rfl := h0; exact (HPR.out ▸ fprod_any _ qs 2 _ (hV.drew.below hb) HLP.out).mono fun e w3 h => RetQn.pd h)) ?_
      refine And.intro (ob_move rfl (wt_dep (c := true) (b := true) (g := 6) rfl (by kernel_rfl) rfl rfl rfl (by exact fun _ _ h => h)) (ev_far rfl rfl) (fun _ _ h => h)) ?_
      refine And.intro (ob_call1 rfl Tryz.func16 (by kernel_rfl) (wt_dep (c := true) (b := true) (g := 6) rfl (by kernel_rfl) rfl rfl rfl (by exact fun _ _ h => h)) (ev_dep (j := 9) (by kernel_rfl) rfl rfl) (fun w2 u0 hb h0 => by obtain rfl := h0; exact (HPR.out ▸ rprod_any _ qs 2 _ (hU.drew.below hb) ⟨HLP.out.1, Nat.le_trans HLP.out.2 (by decide)⟩).mono fun e w3 h => RetP.pd h)) ?_
      refine And.intro (ob_call1 rfl Tryz.func13 (by kernel_rfl) (wt_dep (c := true) (b := true) (g := 6) rfl (by kernel_rfl) rfl rfl rfl (by exact fun _ _ h => h)) (ev_dep (j := 10) (by kernel_rfl) rfl rfl) (fun w2 u0 hb h0 => by exact (qback_any _ _ _ h0 (lPR.mono (by decide))).mono fun e w3 h => RetQn.pd (RetQ.n h))) ?_
      refine And.intro (ob_call2 rfl Tryz.func11 (by kernel_rfl) (wt_dep (c := true) (b := true) (g := 6) rfl (by kernel_rfl) rfl rfl rfl (by exact fun _ _ h => h)) (ev_dep (j := 8) (by kernel_rfl) rfl rfl) (ev_dep (j := 11) (by kernel_rfl) rfl rfl) (fun w2 u0 u1 hb h0 h1 => by exact (qsame_eq _ _ (PR) (PR) _ h0 h1 rfl).mono fun e w3 h => RetV.pd h)) ?_
      refine And.intro (ob_pick (b := true) rfl (wt_none rfl) (ev_dep (j := 6) (by kernel_rfl) rfl rfl) (ev_dep (j := 12) (by kernel_rfl) rfl rfl) (fun _ _ h => h)) ?_
      refine And.intro (ob_move rfl (wt_none rfl) (ev_dep (j := 13) (by kernel_rfl) rfl rfl) (fun _ _ h => h)) ?_
      refine And.intro (ob_move rfl (wt_dep (c := true) (b := true) (g := 14) rfl (by kernel_rfl) rfl rfl rfl (by exact fun _ _ h => h)) (ev_far rfl rfl) (fun _ _ h => h)) ?_
      refine And.intro (ob_call1 rfl Tryz.func17 (by kernel_rfl) (wt_dep (c := true) (b := true) (g := 14) rfl (by kernel_rfl) rfl rfl rfl (by exact fun _ _ h => h)) (ev_dep (j := 15) (by kernel_rfl) rfl rfl) (fun w2 u0 hb h0 => by obtain rfl := h0; exact (fwhole_any _ qs 2 WB _ (hV.drew.below hb) HLS.out HWB.out).mono fun e w3 h => RetV.pd h)) ?_
      refine And.intro (ob_move rfl (wt_dep (c := true) (b := true) (g := 14) rfl (by kernel_rfl) rfl rfl rfl (by exact fun _ _ h => h)) (ev_far rfl rfl) (fun _ _ h => h)) ?_
      refine And.intro (ob_call1 rfl Tryz.func18 (by kernel_rfl) (wt_dep (c := true) (b := true) (g := 14) rfl (by kernel_rfl) rfl rfl rfl (by exact fun _ _ h => h)) (ev_dep (j := 17) (by kernel_rfl) rfl rfl) (fun w2 u0 hb h0 => by obtain rfl := h0; exact (rwhole_any _ qs 2 WB _ (hU.drew.below hb) ⟨HLS.out.1, Nat.le_trans HLS.out.2 (by decide)⟩ HWB.out).mono fun e w3 h => RetV.pd h)) ?_
      refine And.intro (ob_bin rfl (wt_dep (c := true) (b := true) (g := 14) rfl (by kernel_rfl) rfl rfl rfl (by exact fun _ _ h => h)) (ev_dep (j := 16) (by kernel_rfl) rfl rfl) (ev_dep (j := 18) (by kernel_rfl) rfl rfl) (fun _ _ _ hx hy => ⟨.bool true, by rw [hx, hy]; exact (by rw [bin_eql_bool _ _ _ _ Tryz.underlying4, beq_self_eq_true]), rfl⟩)) ?_
      refine And.intro (ob_pick (b := true) rfl (wt_none rfl) (ev_dep (j := 14) (by kernel_rfl) rfl rfl) (ev_dep (j := 19) (by kernel_rfl) rfl rfl) (fun _ _ h => h)) ?_
      refine And.intro (ob_move rfl (wt_none rfl) (ev_dep (j := 20) (by kernel_rfl) rfl rfl) (fun _ _ h => h)) ?_
      refine And.intro (ob_load rfl (wt_dep (c := true) (b := true) (g := 21) rfl (by kernel_rfl) rfl rfl rfl (by exact fun _ _ h => h)) (ev_far rfl rfl) (fun w2 hb => run_loadAll Tryz.underlying28 rfl (by kernel_rfl) (Ba.drew.below hb)) (fun _ _ => rfl)) ?_
      refine And.intro (ob_call1 rfl Tryz.func19 (by kernel_rfl) (wt_dep (c := true) (b := true) (g := 21) rfl (by kernel_rfl) rfl rfl rfl (by exact fun _ _ h => h)) (ev_dep (j := 22) (by kernel_rfl) rfl rfl) (fun w2 u0 hb h0 => by obtain rfl := h0; exact (fnot_any _ a _ (ka.drew.below hb) (la.mono (by decide))).mono fun e w3 h => RetQn.pd h)) ?_
      refine And.intro (ob_call2 rfl Tryz.func21 (by kernel_rfl) (wt_dep (c := true) (b := true) (g := 21) rfl (by kernel_rfl) rfl rfl rfl (by exact fun _ _ h => h)) (ev_const _) (ev_const _) (fun w2 u0 u1 hb h0 h1 => by obtain rfl := h0; obtain rfl := h1; exact (qnum_any 1 1 _ 1 rfl (by omega) (by omega) (by omega) (by omega)).mono fun e w3 h => RetPF.pd ((show mkRat 1 1 = (1 : Rat) by decide +kernel) ▸ h))) ?_
      refine And.intro (ob_load rfl (wt_dep (c := true) (b := true) (g := 21) rfl (by kernel_rfl) rfl rfl rfl (by exact fun _ _ h => h)) (ev_far rfl rfl) (fun w2 hb => run_loadAll Tryz.underlying28 rfl (by kernel_rfl) (Ba.drew.below hb)) (fun _ _ => rfl)) ?_
      refine And.intro (ob_call1 rfl Tryz.func22 (by kernel_rfl) (wt_dep (c := true) (b := true) (g := 21) rfl (by kernel_rfl) rfl rfl rfl (by exact fun _ _ h => h)) (ev_dep (j := 25) (by kernel_rfl) rfl rfl) (fun w2 u0 hb h0 => by obtain rfl := h0; exact (qof_any _ _ _ (ka.drew.below hb) (la.mono (by decide))).mono fun e w3 h => RetP.pd h)) ?_
      refine And.intro (ob_call2 rfl Tryz.func20 (by kernel_rfl) (wt_dep (c := true) (b := true) (g := 21) rfl (by kernel_rfl) rfl rfl rfl (by exact fun _ _ h => h)) (ev_dep (j := 24) (by kernel_rfl) rfl rfl) (ev_dep (j := 26) (by kernel_rfl) rfl rfl) (fun w2 u0 u1 hb h0 h1 => by exact (qsub_any _ _ _ _ _ h0 h1 (lq1.mono (by decide)) (la.mono (by decide))).mono fun e w3 h => RetPF.pd h)) ?_
      refine And.intro (ob_call1 rfl Tryz.func13 (by kernel_rfl) (wt_dep (c := true) (b := true) (g := 21) rfl (by kernel_rfl) rfl rfl rfl (by exact fun _ _ h => h)) (ev_dep (j := 27) (by kernel_rfl) rfl rfl) (fun w2 u0 hb h0 => by exact (qback_any _ _ _ h0 ((lenQ_sub lq1 la).mono (by decide))).mono fun e w3 h => RetQn.pd (RetQ.n h))) ?_
      refine And.intro (ob_call2 rfl Tryz.func11 (by kernel_rfl) (wt_dep (c := true) (b := true) (g := 21) rfl (by kernel_rfl) rfl rfl rfl (by exact fun _ _ h => h)) (ev_dep (j := 23) (by kernel_rfl) rfl rfl) (ev_dep (j := 28) (by kernel_rfl) rfl rfl) (fun w2 u0 u1 hb h0 h1 => by exact (qsame_eq _ _ (((1 : Rat) - a)) (((1 : Rat) - a)) _ h0 h1 rfl).mono fun e w3 h => RetV.pd h)) ?_
      refine And.intro (ob_pick (b := true) rfl (wt_none rfl) (ev_dep (j := 21) (by kernel_rfl) rfl rfl) (ev_dep (j := 29) (by kernel_rfl) rfl rfl) (fun _ _ h => h)) ?_
      refine And.intro (ob_move rfl (wt_none rfl) (ev_dep (j := 30) (by kernel_rfl) rfl rfl) (fun _ _ h => h)) ?_
      refine And.intro (ob_call0 rfl Tryz.func23 (by kernel_rfl) (wt_dep (c := true) (b := true) (g := 31) rfl (by kernel_rfl) rfl rfl rfl (by exact fun _ _ h => h)) (fun w2 hb => (works10_any _).mono fun e w3 h => RetV.pd h)) ?_
      refine And.intro (ob_pick (b := true) rfl (wt_none rfl) (ev_dep (j := 31) (by kernel_rfl) rfl rfl) (ev_dep (j := 32) (by kernel_rfl) rfl rfl) (fun _ _ h => h)) ?_
      refine And.intro (ob_assign rfl (wt_none rfl) (ev_dep (j := 33) (by kernel_rfl) rfl rfl) (fun _ _ h => h)) ?_
      trivial
    case done3 =>
      refine fun w4 hb4 v0 h0 v1 h1 v2 h2 v3 h3 v4 h4 v5 h5 v6 h6 v7 h7 v8 h8 v9 h9 v10 h10 v11 h11 v12 h12 v13 h13 v14 h14 v15 h15 v16 h16 v17 h17 v18 h18 v19 h19 v20 h20 v21 h21 v22 h22 v23 h23 v24 h24 v25 h25 v26 h26 v27 h27 v28 h28 v29 h29 v30 h30 v31 h31 v32 h32 v33 h33 v34 h34 b hbf => ?_
      obtain rfl := h0; obtain rfl := h2; obtain rfl := h5; obtain rfl := h6; obtain rfl := h7; obtain rfl := h9; obtain rfl := h12; obtain rfl := h13; obtain rfl := h14; obtain rfl := h15; obtain rfl := h16; obtain rfl := h17; obtain rfl := h18; obtain rfl := h19; obtain rfl := h20; obtain rfl := h21; obtain rfl := h22; obtain rfl := h25; obtain rfl := h29; obtain rfl := h30; obtain rfl := h31; obtain rfl := h32; obtain rfl := h33; obtain rfl := h34
      have q1 := h1
      have q3 := h3
      have q4 := h4
      have q8 := h8
      have q10 := h10
      have q11 := h11
      have q23 := h23
      have q24 := h24
      have q26 := h26
      have q27 := h27
      have q28 := h28
      simp only [Act.put, List.setIfInBounds_toArray, List.set_cons_zero, List.set_cons_succ] at hbf
      subst hbf
      replace Ba := Ba.below hb4
      replace kas := kas.below hb4
      replace kad := kad.below hb4
      replace kaz := kaz.below hb4
      replace ka := ka.below hb4
      replace hV := hV.below hb4
      replace hU := hU.below hb4
      replace bb := bb.trans (hb4.mono bb.size)
      have hsz4 := bb.size
      refine any_done (by kernel_rfl) ?_
      go_wp2
      go_ret
      exact ⟨rfl, bb⟩
set_option maxRecDepth 100000 in
theorem lifted (os : Os) (started : os.Started) (H : Type) (enc : TypeId × Value → H) :
    ReturnsInHanded {} Tryz.checked os 3 .any (Rows.foldSumsSpec.pre6 enc Tryz.prog Tryz.f3 Rows.foldSumsRow.domain false) (Rows.foldSumsSpec.post enc Tryz.prog Tryz.f3 false true false false) := by
  refine returnsInHanded_of_change (C := Tryz.checked) own started (by kernel_rfl) Tryz.func3
    (ChangeSpec.witness6 (enc := enc) (C := Tryz.checked) false ⟨#[], #[.slice none 0 0, .agg #[.bool false, .slice none 0 0, .slice none 0 0]], []⟩ 8 (by kernel_rfl) (by kernel_rfl) (by kernel_rfl) (by kernel_rfl)) ?_
  intro W base args ds gs before hval0 hW hcnd _
  have hval : ∀ (j : Nat) t v, Tryz.f3.params[j]? = some t → args[j]? = some v → Value.okWide Tryz.prog W .any base t v := hval0
  have hW' := hW
  obtain ⟨p, q, hA0, hV, rfl, hfz, hnd⟩ := hW
  have hA : DataW.TrodAll enc Tryz.prog W 0 (fun _ => true) true Tryz.f3.params.toList args.toList ds p := hA0
  rw [Tryz.params3] at hA hval
  obtain ⟨v0, vs0, d0, ds0, p0, q0, hargs, rfl, rfl, t0, r0⟩ := trodAll_cons hA
  obtain ⟨v1, vs1, d1, ds1, p1, q1, rfl, rfl, rfl, t1, r1⟩ := trodAll_cons r0
  obtain ⟨rfl, rfl, rfl⟩ := trodAll_nil r1
  obtain rfl : args = #[v0, v1] := by cases args; simp_all
  obtain ⟨rfl, rfl⟩ := trodVars_none hV
  have hs0 := arg_qs Tryz.underlying22 Tryz.underlying28 (by kernel_rfl) (by kernel_rfl) Tryz.underlying26 (by kernel_rfl) Tryz.underlying4 Tryz.underlying24 Tryz.underlying24 Tryz.underlying71 cells_u (hval 0 22 v0 rfl rfl) t0
  obtain ⟨b1, x1, r1_, l1, m1, rfl, hs1, hu1, hj1, hx1⟩ := arg_q Tryz.underlying28 (by kernel_rfl) (by kernel_rfl) Tryz.underlying26 (by kernel_rfl) Tryz.underlying4 Tryz.underlying24 Tryz.underlying24 Tryz.underlying71 cells_u (hval 1 28 v1 rfl rfl) t1
  clear hA0 hval0
  simp only [List.append_nil] at hW'
  have hlt0 : ∀ x ∈ p0, x.block < W.heap.size := fun x hx => hW'.lt x (List.mem_append_left _ hx)
  have hlt1 : ∀ x ∈ p1, x.block < W.heap.size := fun x hx => hW'.lt x (List.mem_append_right _ (hx))
  refine (walk v0 b1 x1 r1_ l1 m1 W hs0 hs1 hu1 hj1 hx1).mono fun e W' ⟨he, hb⟩ => ?_
  subst he
  have s0 := Below.trod laidOut (by kernel_rfl) (of_decide_eq_true (by kernel_rfl)) t0 hb hlt0
  have s1 := Below.trod laidOut (by kernel_rfl) (of_decide_eq_true (by kernel_rfl)) t1 hb hlt1
  exact ⟨_, rfl, _, _, _, [] ++ [], _, [], hW', trodAll_cons_mk (shut_bool Tryz.underlying4 _) trodAll_mk0, trodAll_cons_mk s0 (trodAll_cons_mk s1 (trodAll_mk0)), rfl, hb.frame _, fun h => by cases h⟩
theorem over : Rows.foldSumsRow.holds Tryz.pinned (OpenSpec.ofChange Rows.foldSumsSpec) :=
  OpenClaim.holds_of_wide 3 Tryz.f3 rfl rfl rfl rfl rfl rfl rfl ⟨rfl, rfl, rfl, rfl, rfl⟩ rfl rfl rfl rfl rfl (by kernel_rfl) Tryz.func3 (by kernel_rfl)
    (of_decide_eq_true (by kernel_rfl)) (by unfold Func.isWrapper; first | (rw [if_pos (by decide +kernel)]; kernel_rfl) | (rw [if_neg (by decide +kernel)]; exact ⟨rfl, rfl⟩))
    (fun os started H enc _ => lifted os started H enc)
/-- The statement. -/
theorem proved : Rows.FoldSumsSaid := over
end Go.Proofs.YtlnmoledijlemaaGreat.foldSums
