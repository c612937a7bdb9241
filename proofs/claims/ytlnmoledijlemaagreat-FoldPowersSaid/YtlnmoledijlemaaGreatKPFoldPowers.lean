/- FoldPowers: the powers of any fraction. Condition: the arguments can be read as data. -/
import Derived.Test.YtlnmoledijlemaaGreatKP6
import Derived.Deep.Cut
import Derived.OpenShut
import Derived.LaidMore
import Derived.Lay
import Derived.Stop.Joined
namespace Go.Proofs.YtlnmoledijlemaaGreat.foldPowers
open Go.ChangeShapes Go.WideShapes Go.ChangeAt Go.RowKit Go.Proofs.YtlnmoledijlemaaGreat.num Go.Proofs.YtlnmoledijlemaaGreat.mem Go.Proofs.YtlnmoledijlemaaGreat.nat Go.Proofs.YtlnmoledijlemaaGreat.txt Go.Proofs.YtlnmoledijlemaaGreat.str Go.Proofs.YtlnmoledijlemaaGreat.flow Go.Proofs.YtlnmoledijlemaaGreat.whl Go.Proofs.YtlnmoledijlemaaGreat.rat
set_option linter.unusedVariables false
theorem own : ownKnob Tryz.prog.godebug = none := by kernel_rfl
theorem laidOut : laidOutB Tryz.prog = true := by kernel_rfl
theorem cells_u : Tryz.prog.cellsOf 71 = 1 := by kernel_rfl
set_option maxHeartbeats 6400000 in
set_option maxRecDepth 100000 in
/-- The walk: the Go text returns true; what was there is as it was. -/
theorem walk (b0 : Bool) (v0 r0 : Value) (l0 m0 : List Nat) (a1 : Int) (w : World) (h0 : IsS w .u64 v0 l0) (u0 : Lt 18446744073709551616 l0) (j0 : IsS w .u64 r0 m0) (x0 : Lt 18446744073709551616 m0) (wf1 : (Lit.int .i64 a1).wf = true) :
    Calls Tryz.prog 6 #[.agg #[.bool b0, v0, r0], .int .i64 a1] w (RetV (.bool true) w) := by
  obtain ⟨A0, c0, rfl, _⟩ := id h0
  obtain ⟨D0, e0, rfl, _⟩ := id j0
  obtain ⟨a, hx0⟩ : ∃ a, a = cleanQ b0 l0 m0 1 := ⟨_, rfl⟩
  have la : lenQ a 1 := by rw [hx0]; exact cleanQ_len _ _ _ (by omega)
  have HX0 := Lib.hid hx0.symm
  clear hx0
  have bn := bounds_i64 wf1
  go_enter Tryz.func6, Tryz.ntmps6
  go_upto_region 1 with (fail)
  obtain ⟨w0, hwx, bb, BP0, hsz⟩ := vars1 w 28 #[.bool b0, .slice A0 l0.length c0, .slice D0 m0.length e0]
  rw [hwx]
  clear hwx
  have p0s := h0.below bb
  have p0d := j0.below bb
  have hsz0 := bb.size
  refine flowp 2 [Pd.eq (.agg #[.bool b0, .slice A0 l0.length c0, .slice D0 m0.length e0]), pqn a] (by kernel_rfl) ?ob1 ?done1
  case ob1 =>
    refine And.intro (ob_load rfl (wt_none rfl) (ev_far rfl rfl) (fun w2 hb => run_loadAll Tryz.underlying28 rfl (by kernel_rfl) (BP0.below hb)) (fun _ _ => rfl)) ?_
    refine And.intro (ob_call2 rfl Tryz.func10 (by kernel_rfl) (wt_none rfl) (ev_dep (j := 0) (by kernel_rfl) rfl rfl) (ev_const _) (fun w2 u0 u1 hb h0 h1 => by obtain rfl := h0; obtain rfl := h1; exact (HX0.out ▸ qclean_any _ _ _ _ _ _ 1 _ rfl (p0s.below hb) u0 (p0d.below hb) x0 (by omega) (by omega)).mono fun e w3 h => RetQn.pd (RetQ.n h))) ?_
    trivial
  case done1 =>
    refine fun w1 hb1 v0 h0 v1 h1 b hbf => ?_
    obtain rfl := h0
    have q1 := h1
    simp only [Act.put, List.setIfInBounds_toArray, List.set_cons_zero, List.set_cons_succ] at hbf
    subst hbf
    replace BP0 := BP0.below hb1
    replace p0s := p0s.below hb1
    replace p0d := p0d.below hb1
    replace bb := bb.trans (hb1.mono bb.size)
    have hsz1 := bb.size
    obtain ⟨u1, t1, rfl, q1, d1⟩ := q1
    obtain ⟨Aa, ca, rfl, _⟩ := id q1
    obtain ⟨Da, ea, rfl, _⟩ := id d1
    refine ops_store (i := 2) rfl rfl rfl rfl rfl rfl (cells := [.bool (ngB (a).num), .slice Aa (digs 4294967296 (a).num.natAbs).length ca, .slice Da (digs 4294967296 (a).den).length ea]) rfl BP0 rfl (by kernel_rfl) (one3 rfl rfl rfl) fun w2 hg2 BN2 => ?_
    replace q1 := off q1 BP0 no_ints3 hg2
    replace d1 := off d1 BP0 no_ints3 hg2
    replace bb := bb.trans ((Below.refl _ _).grown hg2 bb.size (fun g hg => by injection hg with hg; omega))
    have hsz2 := bb.size
    have Ba : Blk w2 (w.heap.size) _ _ := BN2
    have kas := q1
    have kad := d1
    have kaz : IsZ w2 (.agg #[.bool (ngB (a).num), .slice Aa (digs 4294967296 (a).num.natAbs).length ca]) ((a).num) := ⟨_, rfl, kas⟩
    have ka : IsQ w2 (.agg #[.bool (ngB (a).num), .slice Aa (digs 4294967296 (a).num.natAbs).length ca, .slice Da (digs 4294967296 (a).den).length ea]) (a) := ⟨_, _, rfl, kas, kad⟩
    refine ops_done ?_
    by_cases t0 : 12 < a1
    · by_cases t2 : a1 ≤ 2000
      · obtain ⟨d, hd⟩ : ∃ d : Nat, (a1 % 13) = (d : Int) := ⟨((a1 % 13)).toNat, by omega⟩
        have hd12 : d ≤ 12 := by omega
        have HR := Lib.hid hd
        obtain ⟨Q, hQ⟩ : ∃ Q, Q = a ^ d := ⟨_, rfl⟩
        have lQ : lenQ Q 20 := by rw [hQ]; exact (lenQ_pow la d).mono (by omega)
        have HQ := Lib.hid hQ.symm
        clear hQ hd
        go_upto_region 4 with (fail)
        have lt2_2 := Blk.lt Ba
        refine flowp 7 [Pd.eq (.agg #[.bool (ngB (a).num), .slice Aa (digs 4294967296 (a).num.natAbs).length ca, .slice Da (digs 4294967296 (a).den).length ea]), Pd.eq (.int .i64 (a1 % 13)), pqe (Q) 0, pqe (Q) 0, pqn (Q), Pd.eq (.int .i64 0), pn 28 #[.bool false, .slice none 0 0, .slice none 0 0] w2.heap.size] (by kernel_rfl) ?ob2 ?done2
        case ob2 =>
          refine And.intro (ob_load rfl (wt_none rfl) (ev_far rfl rfl) (fun w2 hb => run_loadAll Tryz.underlying28 rfl (by kernel_rfl) (Ba.below hb)) (fun _ _ => rfl)) ?_
          refine And.intro (ob_move rfl (wt_none rfl) (ev_far rfl rfl) (fun _ _ h => h)) ?_
          refine And.intro (ob_call2 rfl Tryz.func32 (by kernel_rfl) (wt_none rfl) (ev_dep (j := 0) (by kernel_rfl) rfl rfl) (ev_dep (j := 1) (by kernel_rfl) rfl rfl) (fun w2 u0 u1 hb h0 h1 => by obtain rfl := h0; obtain rfl := h1; exact (HQ.out ▸ fpow_nat _ a _ d _ (ka.below hb) HR.out (by omega) la).mono fun e w3 h => RetQE.pd h)) ?_
          refine And.intro (ob_move rfl (wt_none rfl) (ev_dep (j := 2) (by kernel_rfl) rfl rfl) (fun _ _ h => h)) ?_
          refine And.intro (ob_extract rfl (wt_none rfl) (ev_dep (j := 3) (by kernel_rfl) rfl rfl) (fun w2 u hu => by obtain ⟨v, rfl, q1⟩ := hu; exact ⟨v, rfl, q1⟩)) ?_
          refine And.intro (ob_extract rfl (wt_none rfl) (ev_dep (j := 3) (by kernel_rfl) rfl rfl) (fun w2 u hu => by obtain ⟨v, rfl, q1⟩ := hu; exact ⟨_, rfl, rfl⟩)) ?_
          refine And.intro (ob_alloc (z := .agg #[.bool false, .slice none 0 0, .slice none 0 0]) rfl rfl (fun _ => by kernel_rfl) (fun _ _ hB h => ⟨_, rfl, hB, h⟩)) ?_
          trivial
        case done2 =>
          refine fun w3 hb3 v0 h0 v1 h1 v2 h2 v3 h3 v4 h4 v5 h5 v6 h6 d6 b hbf => ?_
          obtain rfl := h0; obtain rfl := h1; obtain rfl := h5
          clear h2
          clear h3
          have q4 := h4
          obtain ⟨g2_6, rfl, hg6, B6⟩ := h6
          simp only [Act.put, List.setIfInBounds_toArray, List.set_cons_zero, List.set_cons_succ] at hbf
          subst hbf
          replace Ba := Ba.below hb3
          replace kas := kas.below hb3
          replace kad := kad.below hb3
          replace kaz := kaz.below hb3
          replace ka := ka.below hb3
          replace bb := bb.trans (hb3.mono bb.size)
          have hsz3 := bb.size
          have BA5 := B6
          obtain ⟨u4, t4, rfl, q4, d4⟩ := q4
          obtain ⟨Ax, cx, rfl, _⟩ := id q4
          obtain ⟨Dx, ex, rfl, _⟩ := id d4
          refine ops_store (i := 7) rfl rfl rfl rfl rfl rfl (cells := [.bool (ngB (Q).num), .slice Ax (digs 4294967296 (Q).num.natAbs).length cx, .slice Dx (digs 4294967296 (Q).den).length ex]) rfl BA5 rfl (by kernel_rfl) (one3 rfl rfl rfl) fun w4 hg4 BN4 => ?_
          replace q4 := off q4 BA5 no_ints3 hg4
          replace d4 := off d4 BA5 no_ints3 hg4
          replace kas := off kas BA5 no_ints3 hg4
          replace kad := off kad BA5 no_ints3 hg4
          replace kaz : IsZ w4 (.agg #[.bool (ngB (a).num), .slice Aa (digs 4294967296 (a).num.natAbs).length ca]) ((a).num) := ⟨_, rfl, kas⟩
          replace ka : IsQ w4 (.agg #[.bool (ngB (a).num), .slice Aa (digs 4294967296 (a).num.natAbs).length ca, .slice Da (digs 4294967296 (a).den).length ea]) (a) := ⟨_, _, rfl, kas, kad⟩
          replace Ba := Ba.grown hg4 (by omega)
          replace bb := bb.trans ((Below.refl _ _).grown hg4 bb.size (fun g hg => by injection hg with hg; omega))
          have hsz4 := bb.size
          have Bx : Blk w4 (g2_6) _ _ := BN4
          have kxs := q4
          have kxd := d4
          have kxz : IsZ w4 (.agg #[.bool (ngB (Q).num), .slice Ax (digs 4294967296 (Q).num.natAbs).length cx]) ((Q).num) := ⟨_, rfl, kxs⟩
          have kx : IsQ w4 (.agg #[.bool (ngB (Q).num), .slice Ax (digs 4294967296 (Q).num.natAbs).length cx, .slice Dx (digs 4294967296 (Q).den).length ex]) (Q) := ⟨_, _, rfl, kxs, kxd⟩
          refine ops_assign (i := 8) (.int .i64 0) rfl rfl rfl rfl rfl fun b hbf => ?_
          simp only [Act.put, List.setIfInBounds_toArray, List.set_cons_zero, List.set_cons_succ] at hbf
          subst hbf
          refine ops_done ?_
          go_upto_region 5 with (fail)
          have lt4_2 := Blk.lt Ba
          have lt4_5 := Blk.lt Bx
          refine flowp 8 [Pd.eq (.agg #[.bool (ngB (a).num), .slice Aa (digs 4294967296 (a).num.natAbs).length ca, .slice Da (digs 4294967296 (a).den).length ea]), pp (a), Pd.eq (.int .i64 (a1 % 13)), ppn (Q) 0, ppn (Q) 0, pp (Q), Pd.eq (.int .i64 0), pn 41 #[.bool false, .slice none 0 0, .slice none 0 0] w4.heap.size] (by kernel_rfl) ?ob3 ?done3
          case ob3 =>
            refine And.intro (ob_load rfl (wt_none rfl) (ev_far rfl rfl) (fun w2 hb => run_loadAll Tryz.underlying28 rfl (by kernel_rfl) (Ba.below hb)) (fun _ _ => rfl)) ?_
            refine And.intro (ob_call1 rfl Tryz.func22 (by kernel_rfl) (wt_none rfl) (ev_dep (j := 0) (by kernel_rfl) rfl rfl) (fun w2 u0 hb h0 => by obtain rfl := h0; exact (qof_any _ _ _ (ka.below hb) (la.mono (by decide))).mono fun e w3 h => RetP.pd h)) ?_
            refine And.intro (ob_move rfl (wt_none rfl) (ev_far rfl rfl) (fun _ _ h => h)) ?_
            refine And.intro (ob_call2 rfl Tryz.func33 (by kernel_rfl) (wt_none rfl) (ev_dep (j := 1) (by kernel_rfl) rfl rfl) (ev_dep (j := 2) (by kernel_rfl) rfl rfl) (fun w2 u0 u1 hb h0 h1 => by obtain rfl := h1; exact (HQ.out ▸ rpow_nat _ a _ d 1 _ h0 HR.out (by omega) ⟨la, by omega⟩ (by omega)).mono fun e w3 h => RetPE.pd h)) ?_
            refine And.intro (ob_move rfl (wt_none rfl) (ev_dep (j := 3) (by kernel_rfl) rfl rfl) (fun _ _ h => h)) ?_
            refine And.intro (ob_extract rfl (wt_none rfl) (ev_dep (j := 4) (by kernel_rfl) rfl rfl) (fun w2 u hu => by obtain ⟨v, rfl, q1⟩ := hu; exact ⟨v, rfl, q1⟩)) ?_
            refine And.intro (ob_extract rfl (wt_none rfl) (ev_dep (j := 4) (by kernel_rfl) rfl rfl) (fun w2 u hu => by obtain ⟨v, rfl, q1⟩ := hu; exact ⟨_, rfl, rfl⟩)) ?_
            refine And.intro (ob_alloc (z := .agg #[.bool false, .slice none 0 0, .slice none 0 0]) rfl rfl (fun _ => by kernel_rfl) (fun _ _ hB h => ⟨_, rfl, hB, h⟩)) ?_
            trivial
          case done3 =>
            refine fun w5 hb5 v0 h0 v1 h1 v2 h2 v3 h3 v4 h4 v5 h5 v6 h6 v7 h7 d7 b hbf => ?_
            obtain rfl := h0; obtain rfl := h2; obtain rfl := h6
            have q1 := h1
            clear h3
            clear h4
            have q5 := h5
            obtain ⟨g3_7, rfl, hg7, B7⟩ := h7
            simp only [Act.put, List.setIfInBounds_toArray, List.set_cons_zero, List.set_cons_succ] at hbf
            subst hbf
            replace Ba := Ba.below hb5
            replace kas := kas.below hb5
            replace kad := kad.below hb5
            replace kaz := kaz.below hb5
            replace ka := ka.below hb5
            replace Bx := Bx.below hb5
            replace kxs := kxs.below hb5
            replace kxd := kxd.below hb5
            replace kxz := kxz.below hb5
            replace kx := kx.below hb5
            replace bb := bb.trans (hb5.mono bb.size)
            have hsz5 := bb.size
            have BA7 := B7
            obtain ⟨u5, t5, rfl, q5, d5⟩ := q5
            obtain ⟨Aq, cq, rfl, _⟩ := id q5
            obtain ⟨Dq, eq, rfl, _⟩ := id d5
            refine ops_store (i := 8) rfl rfl rfl rfl rfl rfl (cells := [.bool (ngB (Q).num), .slice Aq (digs 10000 (Q).num.natAbs).length cq, .slice Dq (digs 10000 (Q).den).length eq]) rfl BA7 rfl (by kernel_rfl) (one3 rfl rfl rfl) fun w6 hg6 BN6 => ?_
            replace q5 := off q5 BA7 no_ints3 hg6
            replace d5 := off d5 BA7 no_ints3 hg6
            replace kas := off kas BA7 no_ints3 hg6
            replace kad := off kad BA7 no_ints3 hg6
            replace kaz : IsZ w6 (.agg #[.bool (ngB (a).num), .slice Aa (digs 4294967296 (a).num.natAbs).length ca]) ((a).num) := ⟨_, rfl, kas⟩
            replace ka : IsQ w6 (.agg #[.bool (ngB (a).num), .slice Aa (digs 4294967296 (a).num.natAbs).length ca, .slice Da (digs 4294967296 (a).den).length ea]) (a) := ⟨_, _, rfl, kas, kad⟩
            replace Ba := Ba.grown hg6 (by omega)
            replace kxs := off kxs BA7 no_ints3 hg6
            replace kxd := off kxd BA7 no_ints3 hg6
            replace kxz : IsZ w6 (.agg #[.bool (ngB (Q).num), .slice Ax (digs 4294967296 (Q).num.natAbs).length cx]) ((Q).num) := ⟨_, rfl, kxs⟩
            replace kx : IsQ w6 (.agg #[.bool (ngB (Q).num), .slice Ax (digs 4294967296 (Q).num.natAbs).length cx, .slice Dx (digs 4294967296 (Q).den).length ex]) (Q) := ⟨_, _, rfl, kxs, kxd⟩
            replace Bx := Bx.grown hg6 (by omega)
            replace bb := bb.trans ((Below.refl _ _).grown hg6 bb.size (fun g hg => by injection hg with hg; omega))
            have hsz6 := bb.size
            have Bq : Blk w6 (g3_7) _ _ := BN6
            have kqs := q5
            have kqd := d5
            have kqz : IsR w6 (.agg #[.bool (ngB (Q).num), .slice Aq (digs 10000 (Q).num.natAbs).length cq]) ((Q).num) := ⟨_, rfl, kqs⟩
            have kq : IsP w6 (.agg #[.bool (ngB (Q).num), .slice Aq (digs 10000 (Q).num.natAbs).length cq, .slice Dq (digs 10000 (Q).den).length eq]) (Q) := ⟨_, _, rfl, kqs, kqd⟩
            refine ops_assign (i := 9) (.int .i64 0) rfl rfl rfl rfl rfl fun b hbf => ?_
            simp only [Act.put, List.setIfInBounds_toArray, List.set_cons_zero, List.set_cons_succ] at hbf
            subst hbf
            refine ops_done ?_
            go_upto_region 8 with (fail)
            refine flow 12 [Pd.eq (.int .i64 0), Pd.eq (.bool true), Pd.eq (.bool true), Pd.eq (.agg #[.bool (ngB (Q).num), .slice Ax (digs 4294967296 (Q).num.natAbs).length cx, .slice Dx (digs 4294967296 (Q).den).length ex]), Pd.eq (.agg #[.bool (ngB (Q).num), .slice Aq (digs 10000 (Q).num.natAbs).length cq, .slice Dq (digs 10000 (Q).den).length eq]), pqn (Q), Pd.eq (.bool true), Pd.eq (.bool true), Pd.eq (.bool true), Pd.eq (.bool true), Pd.eq (.bool true), Pd.eq (.bool true)] (by kernel_rfl) (by kernel_rfl) ?ob4 ?done4
            case ob4 =>
              refine And.intro (ob_move rfl (wt_none rfl) (ev_far rfl rfl) (fun _ _ h => h)) ?_
              refine And.intro (ob_bin rfl (wt_none rfl) (ev_dep (j := 0) (by kernel_rfl) rfl rfl) (ev_const _) (fun _ _ _ hx hy => ⟨.bool ((0 : Int) == 0), by rw [hx, hy]; exact bin_eql_int _ _ _ _ _, congrArg Value.bool (by decide)⟩)) ?_
              refine And.intro (ob_move rfl (wt_none rfl) (ev_dep (j := 1) (by kernel_rfl) rfl rfl) (fun _ _ h => h)) ?_
              refine And.intro (ob_load rfl (wt_dep (c := true) (b := true) (g := 2) rfl (by kernel_rfl) rfl rfl rfl (by exact fun _ _ h => h)) (ev_far rfl rfl) (fun w2 hb => run_loadAll Tryz.underlying28 rfl (by kernel_rfl) (Bx.drew.below hb)) (fun _ _ => rfl)) ?_
              refine And.intro (ob_load rfl (wt_dep (c := true) (b := true) (g := 2) rfl (by kernel_rfl) rfl rfl rfl (by exact fun _ _ h => h)) (ev_far rfl rfl) (fun w2 hb => run_loadAll Tryz.underlying41 rfl (by kernel_rfl) (Bq.drew.below hb)) (fun _ _ => rfl)) ?_
              refine And.intro (ob_call1 rfl Tryz.func13 (by kernel_rfl) (wt_dep (c := true) (b := true) (g := 2) rfl (by kernel_rfl) rfl rfl rfl (by exact fun _ _ h => h)) (ev_dep (j := 4) (by kernel_rfl) rfl rfl) (fun w2 u0 hb h0 => by obtain rfl := h0; exact (qback_any _ _ _ (kq.drew.below hb) (lQ.mono (by decide))).mono fun e w3 h => RetQn.pd (RetQ.n h))) ?_
              refine And.intro (ob_call2 rfl Tryz.func11 (by kernel_rfl) (wt_dep (c := true) (b := true) (g := 2) rfl (by kernel_rfl) rfl rfl rfl (by exact fun _ _ h => h)) (ev_dep (j := 3) (by kernel_rfl) rfl rfl) (ev_dep (j := 5) (by kernel_rfl) rfl rfl) (fun w2 u0 u1 hb h0 h1 => by obtain rfl := h0; exact (qsame_eq _ _ (Q) (Q) _ (kx.drew.below hb) h1 rfl).mono fun e w3 h => RetV.pd h)) ?_
              refine And.intro (ob_pick (b := true) rfl (wt_none rfl) (ev_dep (j := 2) (by kernel_rfl) rfl rfl) (ev_dep (j := 6) (by kernel_rfl) rfl rfl) (fun _ _ h => h)) ?_
              refine And.intro (ob_move rfl (wt_none rfl) (ev_dep (j := 7) (by kernel_rfl) rfl rfl) (fun _ _ h => h)) ?_
              refine And.intro (ob_call0 rfl Tryz.func23 (by kernel_rfl) (wt_dep (c := true) (b := true) (g := 8) rfl (by kernel_rfl) rfl rfl rfl (by exact fun _ _ h => h)) (fun w2 hb => (works10_any _).mono fun e w3 h => RetV.pd h)) ?_
              refine And.intro (ob_pick (b := true) rfl (wt_none rfl) (ev_dep (j := 8) (by kernel_rfl) rfl rfl) (ev_dep (j := 9) (by kernel_rfl) rfl rfl) (fun _ _ h => h)) ?_
              refine And.intro (ob_assign rfl (wt_none rfl) (ev_dep (j := 10) (by kernel_rfl) rfl rfl) (fun _ _ h => h)) ?_
              trivial
            case done4 =>
              refine fun w7 hb7 v0 h0 v1 h1 v2 h2 v3 h3 v4 h4 v5 h5 v6 h6 v7 h7 v8 h8 v9 h9 v10 h10 v11 h11 b hbf => ?_
              obtain rfl := h0; obtain rfl := h1; obtain rfl := h2; obtain rfl := h3; obtain rfl := h4; obtain rfl := h6; obtain rfl := h7; obtain rfl := h8; obtain rfl := h9; obtain rfl := h10; obtain rfl := h11
              have q5 := h5
              simp only [Act.put, List.setIfInBounds_toArray, List.set_cons_zero, List.set_cons_succ] at hbf
              subst hbf
              replace Ba := Ba.below hb7
              replace kas := kas.below hb7
              replace kad := kad.below hb7
              replace kaz := kaz.below hb7
              replace ka := ka.below hb7
              replace Bx := Bx.below hb7
              replace kxs := kxs.below hb7
              replace kxd := kxd.below hb7
              replace kxz := kxz.below hb7
              replace kx := kx.below hb7
              replace Bq := Bq.below hb7
              replace kqs := kqs.below hb7
              replace kqd := kqd.below hb7
              replace kqz := kqz.below hb7
              replace kq := kq.below hb7
              replace bb := bb.trans (hb7.mono bb.size)
              have hsz7 := bb.size
              refine any_done (by kernel_rfl) ?_
              go_wp2
              go_ret
              exact ⟨rfl, bb⟩
      · have HR : Hid (a1 < -2000 ∨ 2000 < a1) := by show _ ∨ _; omega
        go_upto_region 4 with (fail)
        have lt2_2 := Blk.lt Ba
        refine flowp 7 [Pd.eq (.agg #[.bool (ngB (a).num), .slice Aa (digs 4294967296 (a).num.natAbs).length ca, .slice Da (digs 4294967296 (a).den).length ea]), Pd.eq (.int .i64 a1), Pd.eq (.tuple #[.agg #[.bool false, .slice none 0 0, .slice none 0 0], .int .i64 2]), Pd.eq (.tuple #[.agg #[.bool false, .slice none 0 0, .slice none 0 0], .int .i64 2]), Pd.eq (.agg #[.bool false, .slice none 0 0, .slice none 0 0]), Pd.eq (.int .i64 2), pn 28 #[.bool false, .slice none 0 0, .slice none 0 0] w2.heap.size] (by kernel_rfl) ?ob5 ?done5
        case ob5 =>
          refine And.intro (ob_load rfl (wt_none rfl) (ev_far rfl rfl) (fun w2 hb => run_loadAll Tryz.underlying28 rfl (by kernel_rfl) (Ba.below hb)) (fun _ _ => rfl)) ?_
          refine And.intro (ob_move rfl (wt_none rfl) (ev_far rfl rfl) (fun _ _ h => h)) ?_
          refine And.intro (ob_call2 rfl Tryz.func32 (by kernel_rfl) (wt_none rfl) (ev_dep (j := 0) (by kernel_rfl) rfl rfl) (ev_dep (j := 1) (by kernel_rfl) rfl rfl) (fun w2 u0 u1 hb h0 h1 => by obtain rfl := h0; obtain rfl := h1; exact (fpow_arg _ a _ _ (ka.below hb) HR.out).mono fun e w3 h => RetQN.pd h)) ?_
          refine And.intro (ob_move rfl (wt_none rfl) (ev_dep (j := 2) (by kernel_rfl) rfl rfl) (fun _ _ h => h)) ?_
          refine And.intro (ob_extract rfl (wt_none rfl) (ev_dep (j := 3) (by kernel_rfl) rfl rfl) (fun w2 u hu => by obtain rfl := hu; exact ⟨_, rfl, rfl⟩)) ?_
          refine And.intro (ob_extract rfl (wt_none rfl) (ev_dep (j := 3) (by kernel_rfl) rfl rfl) (fun w2 u hu => by obtain rfl := hu; exact ⟨_, rfl, rfl⟩)) ?_
          refine And.intro (ob_alloc (z := .agg #[.bool false, .slice none 0 0, .slice none 0 0]) rfl rfl (fun _ => by kernel_rfl) (fun _ _ hB h => ⟨_, rfl, hB, h⟩)) ?_
          trivial
        case done5 =>
          refine fun w3 hb3 v0 h0 v1 h1 v2 h2 v3 h3 v4 h4 v5 h5 v6 h6 d6 b hbf => ?_
          obtain rfl := h0; obtain rfl := h1; obtain rfl := h2; obtain rfl := h3; obtain rfl := h4; obtain rfl := h5
          obtain ⟨g5_6, rfl, hg6, B6⟩ := h6
          simp only [Act.put, List.setIfInBounds_toArray, List.set_cons_zero, List.set_cons_succ] at hbf
          subst hbf
          replace Ba := Ba.below hb3
          replace kas := kas.below hb3
          replace kad := kad.below hb3
          replace kaz := kaz.below hb3
          replace ka := ka.below hb3
          replace bb := bb.trans (hb3.mono bb.size)
          have hsz3 := bb.size
          have BA5 := B6
          refine ops_store (i := 7) rfl rfl rfl rfl rfl rfl (cells := [.bool false, .slice none 0 0, .slice none 0 0]) rfl BA5 rfl (by kernel_rfl) (one3 rfl rfl rfl) fun w4 hg4 BN4 => ?_
          replace kas := off kas BA5 no_ints3 hg4
          replace kad := off kad BA5 no_ints3 hg4
          replace kaz : IsZ w4 (.agg #[.bool (ngB (a).num), .slice Aa (digs 4294967296 (a).num.natAbs).length ca]) ((a).num) := ⟨_, rfl, kas⟩
          replace ka : IsQ w4 (.agg #[.bool (ngB (a).num), .slice Aa (digs 4294967296 (a).num.natAbs).length ca, .slice Da (digs 4294967296 (a).den).length ea]) (a) := ⟨_, _, rfl, kas, kad⟩
          replace Ba := Ba.grown hg4 (by omega)
          replace bb := bb.trans ((Below.refl _ _).grown hg4 bb.size (fun g hg => by injection hg with hg; omega))
          have hsz4 := bb.size
          replace BA5 : Blk w4 (g5_6) _ #[.bool false, .slice none 0 0, .slice none 0 0] := BN4
          refine ops_assign (i := 8) (.int .i64 2) rfl rfl rfl rfl rfl fun b hbf => ?_
          simp only [Act.put, List.setIfInBounds_toArray, List.set_cons_zero, List.set_cons_succ] at hbf
          subst hbf
          refine ops_done ?_
          go_upto_region 5 with (fail)
          have lt4_2 := Blk.lt Ba
          have lt4_5 := Blk.lt BA5
          refine flowp 8 [Pd.eq (.agg #[.bool (ngB (a).num), .slice Aa (digs 4294967296 (a).num.natAbs).length ca, .slice Da (digs 4294967296 (a).den).length ea]), pp (a), Pd.eq (.int .i64 a1), Pd.eq (.tuple #[.agg #[.bool false, .slice none 0 0, .slice none 0 0], .int .i64 2]), Pd.eq (.tuple #[.agg #[.bool false, .slice none 0 0, .slice none 0 0], .int .i64 2]), Pd.eq (.agg #[.bool false, .slice none 0 0, .slice none 0 0]), Pd.eq (.int .i64 2), pn 41 #[.bool false, .slice none 0 0, .slice none 0 0] w4.heap.size] (by kernel_rfl) ?ob6 ?done6
          case ob6 =>
            refine And.intro (ob_load rfl (wt_none rfl) (ev_far rfl rfl) (fun w2 hb => run_loadAll Tryz.underlying28 rfl (by kernel_rfl) (Ba.below hb)) (fun _ _ => rfl)) ?_
            refine And.intro (ob_call1 rfl Tryz.func22 (by kernel_rfl) (wt_none rfl) (ev_dep (j := 0) (by kernel_rfl) rfl rfl) (fun w2 u0 hb h0 => by obtain rfl := h0; exact (qof_any _ _ _ (ka.below hb) (la.mono (by decide))).mono fun e w3 h => RetP.pd h)) ?_
            refine And.intro (ob_move rfl (wt_none rfl) (ev_far rfl rfl) (fun _ _ h => h)) ?_
            refine And.intro (ob_call2 rfl Tryz.func33 (by kernel_rfl) (wt_none rfl) (ev_dep (j := 1) (by kernel_rfl) rfl rfl) (ev_dep (j := 2) (by kernel_rfl) rfl rfl) (fun w2 u0 u1 hb h0 h1 => by obtain rfl := h1; exact (rpow_arg _ a _ _ h0 HR.out).mono fun e w3 h => RetQN.pd h)) ?_
            refine And.intro (ob_move rfl (wt_none rfl) (ev_dep (j := 3) (by kernel_rfl) rfl rfl) (fun _ _ h => h)) ?_
            refine And.intro (ob_extract rfl (wt_none rfl) (ev_dep (j := 4) (by kernel_rfl) rfl rfl) (fun w2 u hu => by obtain rfl := hu; exact ⟨_, rfl, rfl⟩)) ?_
            refine And.intro (ob_extract rfl (wt_none rfl) (ev_dep (j := 4) (by kernel_rfl) rfl rfl) (fun w2 u hu => by obtain rfl := hu; exact ⟨_, rfl, rfl⟩)) ?_
            refine And.intro (ob_alloc (z := .agg #[.bool false, .slice none 0 0, .slice none 0 0]) rfl rfl (fun _ => by kernel_rfl) (fun _ _ hB h => ⟨_, rfl, hB, h⟩)) ?_
            trivial
          case done6 =>
            refine fun w5 hb5 v0 h0 v1 h1 v2 h2 v3 h3 v4 h4 v5 h5 v6 h6 v7 h7 d7 b hbf => ?_
            obtain rfl := h0; obtain rfl := h2; obtain rfl := h3; obtain rfl := h4; obtain rfl := h5; obtain rfl := h6
            have q1 := h1
            obtain ⟨g6_7, rfl, hg7, B7⟩ := h7
            simp only [Act.put, List.setIfInBounds_toArray, List.set_cons_zero, List.set_cons_succ] at hbf
            subst hbf
            replace Ba := Ba.below hb5
            replace kas := kas.below hb5
            replace kad := kad.below hb5
            replace kaz := kaz.below hb5
            replace ka := ka.below hb5
            replace BA5 := BA5.below hb5
            replace bb := bb.trans (hb5.mono bb.size)
            have hsz5 := bb.size
            have BA7 := B7
            refine ops_store (i := 8) rfl rfl rfl rfl rfl rfl (cells := [.bool false, .slice none 0 0, .slice none 0 0]) rfl BA7 rfl (by kernel_rfl) (one3 rfl rfl rfl) fun w6 hg6 BN6 => ?_
            replace kas := off kas BA7 no_ints3 hg6
            replace kad := off kad BA7 no_ints3 hg6
            replace kaz : IsZ w6 (.agg #[.bool (ngB (a).num), .slice Aa (digs 4294967296 (a).num.natAbs).length ca]) ((a).num) := ⟨_, rfl, kas⟩
            replace ka : IsQ w6 (.agg #[.bool (ngB (a).num), .slice Aa (digs 4294967296 (a).num.natAbs).length ca, .slice Da (digs 4294967296 (a).den).length ea]) (a) := ⟨_, _, rfl, kas, kad⟩
            replace Ba := Ba.grown hg6 (by omega)
            replace BA5 := BA5.grown hg6 (by omega)
            replace bb := bb.trans ((Below.refl _ _).grown hg6 bb.size (fun g hg => by injection hg with hg; omega))
            have hsz6 := bb.size
            replace BA7 : Blk w6 (g6_7) _ #[.bool false, .slice none 0 0, .slice none 0 0] := BN6
            refine ops_assign (i := 9) (.int .i64 2) rfl rfl rfl rfl rfl fun b hbf => ?_
            simp only [Act.put, List.setIfInBounds_toArray, List.set_cons_zero, List.set_cons_succ] at hbf
            subst hbf
            refine ops_done ?_
            go_upto_region 7 with (fail)
            refine flowp 7 [Pd.eq (.int .i64 2), Pd.eq (.int .i64 2), Pd.eq (.bool true), Pd.eq (.bool true), Pd.eq (.bool true), Pd.eq (.bool true), Pd.eq (.bool true)] (by kernel_rfl) ?ob7 ?done7
            case ob7 =>
              refine And.intro (ob_move rfl (wt_none rfl) (ev_far rfl rfl) (fun _ _ h => h)) ?_
              refine And.intro (ob_move rfl (wt_none rfl) (ev_far rfl rfl) (fun _ _ h => h)) ?_
              refine And.intro (ob_bin rfl (wt_none rfl) (ev_dep (j := 0) (by kernel_rfl) rfl rfl) (ev_dep (j := 1) (by kernel_rfl) rfl rfl) (fun _ _ _ hx hy => ⟨.bool ((2 : Int) == 2), by rw [hx, hy]; exact bin_eql_int _ _ _ _ _, congrArg Value.bool (by decide)⟩)) ?_
              refine And.intro (ob_move rfl (wt_none rfl) (ev_dep (j := 2) (by kernel_rfl) rfl rfl) (fun _ _ h => h)) ?_
              refine And.intro (ob_call0 rfl Tryz.func23 (by kernel_rfl) (wt_dep (c := true) (b := true) (g := 3) rfl (by kernel_rfl) rfl rfl rfl (by exact fun _ _ h => h)) (fun w2 hb => (works10_any _).mono fun e w3 h => RetV.pd h)) ?_
              refine And.intro (ob_pick (b := true) rfl (wt_none rfl) (ev_dep (j := 3) (by kernel_rfl) rfl rfl) (ev_dep (j := 4) (by kernel_rfl) rfl rfl) (fun _ _ h => h)) ?_
              refine And.intro (ob_assign rfl (wt_none rfl) (ev_dep (j := 5) (by kernel_rfl) rfl rfl) (fun _ _ h => h)) ?_
              trivial
            case done7 =>
              refine fun w7 hb7 v0 h0 v1 h1 v2 h2 v3 h3 v4 h4 v5 h5 v6 h6 b hbf => ?_
              obtain rfl := h0; obtain rfl := h1; obtain rfl := h2; obtain rfl := h3; obtain rfl := h4; obtain rfl := h5; obtain rfl := h6
              simp only [Act.put, List.setIfInBounds_toArray, List.set_cons_zero, List.set_cons_succ] at hbf
              subst hbf
              replace Ba := Ba.below hb7
              replace kas := kas.below hb7
              replace kad := kad.below hb7
              replace kaz := kaz.below hb7
              replace ka := ka.below hb7
              replace BA5 := BA5.below hb7
              replace BA7 := BA7.below hb7
              replace bb := bb.trans (hb7.mono bb.size)
              have hsz7 := bb.size
              refine ops_done ?_
              go_wp2
              go_ret
              exact ⟨rfl, bb⟩
    · by_cases t1 : a1 < -12
      · by_cases t2 : -2000 ≤ a1
        · have hm1 := Int.tmod_lt_of_pos a1 (show (0 : Int) < 13 by omega)
          have hm2 := Int.lt_tmod_of_pos a1 (show (0 : Int) < 13 by omega)
          by_cases hs : 0 ≤ (a1.tmod 13)
          · obtain ⟨d, hd⟩ : ∃ d : Nat, (a1.tmod 13) = (d : Int) := ⟨((a1.tmod 13)).toNat, by omega⟩
            have hd12 : d ≤ 12 := by omega
            have HR := Lib.hid hd
            obtain ⟨Q, hQ⟩ : ∃ Q, Q = a ^ d := ⟨_, rfl⟩
            have lQ : lenQ Q 20 := by rw [hQ]; exact (lenQ_pow la d).mono (by omega)
            have HQ := Lib.hid hQ.symm
            clear hQ hd
            go_upto_region 4 with (fail)
            have lt2_2 := Blk.lt Ba
            refine flowp 7 [Pd.eq (.agg #[.bool (ngB (a).num), .slice Aa (digs 4294967296 (a).num.natAbs).length ca, .slice Da (digs 4294967296 (a).den).length ea]), Pd.eq (.int .i64 (a1.tmod 13)), pqe (Q) 0, pqe (Q) 0, pqn (Q), Pd.eq (.int .i64 0), pn 28 #[.bool false, .slice none 0 0, .slice none 0 0] w2.heap.size] (by kernel_rfl) ?ob8 ?done8
            case ob8 =>
              refine And.intro (ob_load rfl (wt_none rfl) (ev_far rfl rfl) (fun w2 hb => run_loadAll Tryz.underlying28 rfl (by kernel_rfl) (Ba.below hb)) (fun _ _ => rfl)) ?_
              refine And.intro (ob_move rfl (wt_none rfl) (ev_far rfl rfl) (fun _ _ h => h)) ?_
              refine And.intro (ob_call2 rfl Tryz.func32 (by kernel_rfl) (wt_none rfl) (ev_dep (j := 0) (by kernel_rfl) rfl rfl) (ev_dep (j := 1) (by kernel_rfl) rfl rfl) (fun w2 u0 u1 hb h0 h1 => by obtain rfl := h0; obtain rfl := h1; exact (HQ.out ▸ fpow_nat _ a _ d _ (ka.below hb) HR.out (by omega) la).mono fun e w3 h => RetQE.pd h)) ?_
              refine And.intro (ob_move rfl (wt_none rfl) (ev_dep (j := 2) (by kernel_rfl) rfl rfl) (fun _ _ h => h)) ?_
              refine And.intro (ob_extract rfl (wt_none rfl) (ev_dep (j := 3) (by kernel_rfl) rfl rfl) (fun w2 u hu => by obtain ⟨v, rfl, q1⟩ := hu; exact ⟨v, rfl, q1⟩)) ?_
              refine And.intro (ob_extract rfl (wt_none rfl) (ev_dep (j := 3) (by kernel_rfl) rfl rfl) (fun w2 u hu => by obtain ⟨v, rfl, q1⟩ := hu; exact ⟨_, rfl, rfl⟩)) ?_
              refine And.intro (ob_alloc (z := .agg #[.bool false, .slice none 0 0, .slice none 0 0]) rfl rfl (fun _ => by kernel_rfl) (fun _ _ hB h => ⟨_, rfl, hB, h⟩)) ?_
              trivial
            case done8 =>
              refine fun w3 hb3 v0 h0 v1 h1 v2 h2 v3 h3 v4 h4 v5 h5 v6 h6 d6 b hbf => ?_
              obtain rfl := h0; obtain rfl := h1; obtain rfl := h5
              clear h2
              clear h3
              have q4 := h4
              obtain ⟨g8_6, rfl, hg6, B6⟩ := h6
              simp only [Act.put, List.setIfInBounds_toArray, List.set_cons_zero, List.set_cons_succ] at hbf
              subst hbf
              replace Ba := Ba.below hb3
              replace kas := kas.below hb3
              replace kad := kad.below hb3
              replace kaz := kaz.below hb3
              replace ka := ka.below hb3
              replace bb := bb.trans (hb3.mono bb.size)
              have hsz3 := bb.size
              have BA5 := B6
              obtain ⟨u4, t4, rfl, q4, d4⟩ := q4
              obtain ⟨Ax, cx, rfl, _⟩ := id q4
              obtain ⟨Dx, ex, rfl, _⟩ := id d4
              refine ops_store (i := 7) rfl rfl rfl rfl rfl rfl (cells := [.bool (ngB (Q).num), .slice Ax (digs 4294967296 (Q).num.natAbs).length cx, .slice Dx (digs 4294967296 (Q).den).length ex]) rfl BA5 rfl (by kernel_rfl) (one3 rfl rfl rfl) fun w4 hg4 BN4 => ?_
              replace q4 := off q4 BA5 no_ints3 hg4
              replace d4 := off d4 BA5 no_ints3 hg4
              replace kas := off kas BA5 no_ints3 hg4
              replace kad := off kad BA5 no_ints3 hg4
              replace kaz : IsZ w4 (.agg #[.bool (ngB (a).num), .slice Aa (digs 4294967296 (a).num.natAbs).length ca]) ((a).num) := ⟨_, rfl, kas⟩
              replace ka : IsQ w4 (.agg #[.bool (ngB (a).num), .slice Aa (digs 4294967296 (a).num.natAbs).length ca, .slice Da (digs 4294967296 (a).den).length ea]) (a) := ⟨_, _, rfl, kas, kad⟩
              replace Ba := Ba.grown hg4 (by omega)
              replace bb := bb.trans ((Below.refl _ _).grown hg4 bb.size (fun g hg => by injection hg with hg; omega))
              have hsz4 := bb.size
              have Bx : Blk w4 (g8_6) _ _ := BN4
              have kxs := q4
              have kxd := d4
              have kxz : IsZ w4 (.agg #[.bool (ngB (Q).num), .slice Ax (digs 4294967296 (Q).num.natAbs).length cx]) ((Q).num) := ⟨_, rfl, kxs⟩
              have kx : IsQ w4 (.agg #[.bool (ngB (Q).num), .slice Ax (digs 4294967296 (Q).num.natAbs).length cx, .slice Dx (digs 4294967296 (Q).den).length ex]) (Q) := ⟨_, _, rfl, kxs, kxd⟩
              refine ops_assign (i := 8) (.int .i64 0) rfl rfl rfl rfl rfl fun b hbf => ?_
              simp only [Act.put, List.setIfInBounds_toArray, List.set_cons_zero, List.set_cons_succ] at hbf
              subst hbf
              refine ops_done ?_
              go_upto_region 5 with (fail)
              have lt4_2 := Blk.lt Ba
              have lt4_5 := Blk.lt Bx
              refine flowp 8 [Pd.eq (.agg #[.bool (ngB (a).num), .slice Aa (digs 4294967296 (a).num.natAbs).length ca, .slice Da (digs 4294967296 (a).den).length ea]), pp (a), Pd.eq (.int .i64 (a1.tmod 13)), ppn (Q) 0, ppn (Q) 0, pp (Q), Pd.eq (.int .i64 0), pn 41 #[.bool false, .slice none 0 0, .slice none 0 0] w4.heap.size] (by kernel_rfl) ?ob9 ?done9
              case ob9 =>
                refine And.intro (ob_load rfl (wt_none rfl) (ev_far rfl rfl) (fun w2 hb => run_loadAll Tryz.underlying28 rfl (by kernel_rfl) (Ba.below hb)) (fun _ _ => rfl)) ?_
                refine And.intro (ob_call1 rfl Tryz.func22 (by kernel_rfl) (wt_none rfl) (ev_dep (j := 0) (by kernel_rfl) rfl rfl) (fun w2 u0 hb h0 => by obtain rfl := h0; exact (qof_any _ _ _ (ka.below hb) (la.mono (by decide))).mono fun e w3 h => RetP.pd h)) ?_
                refine And.intro (ob_move rfl (wt_none rfl) (ev_far rfl rfl) (fun _ _ h => h)) ?_
                refine And.intro (ob_call2 rfl Tryz.func33 (by kernel_rfl) (wt_none rfl) (ev_dep (j := 1) (by kernel_rfl) rfl rfl) (ev_dep (j := 2) (by kernel_rfl) rfl rfl) (fun w2 u0 u1 hb h0 h1 => by obtain rfl := h1; exact (HQ.out ▸ rpow_nat _ a _ d 1 _ h0 HR.out (by omega) ⟨la, by omega⟩ (by omega)).mono fun e w3 h => RetPE.pd h)) ?_
                refine And.intro (ob_move rfl (wt_none rfl) (ev_dep (j := 3) (by kernel_rfl) rfl rfl) (fun _ _ h => h)) ?_
                refine And.intro (ob_extract rfl (wt_none rfl) (ev_dep (j := 4) (by kernel_rfl) rfl rfl) (fun w2 u hu => by obtain ⟨v, rfl, q1⟩ := hu; exact ⟨v, rfl, q1⟩)) ?_
                refine And.intro (ob_extract rfl (wt_none rfl) (ev_dep (j := 4) (by kernel_rfl) rfl rfl) (fun w2 u hu => by obtain ⟨v, rfl, q1⟩ := hu; exact ⟨_, rfl, rfl⟩)) ?_
                refine And.intro (ob_alloc (z := .agg #[.bool false, .slice none 0 0, .slice none 0 0]) rfl rfl (fun _ => by kernel_rfl) (fun _ _ hB h => ⟨_, rfl, hB, h⟩)) ?_
                trivial
              case done9 =>
                refine fun w5 hb5 v0 h0 v1 h1 v2 h2 v3 h3 v4 h4 v5 h5 v6 h6 v7 h7 d7 b hbf => ?_
                obtain rfl := h0; obtain rfl := h2; obtain rfl := h6
                have q1 := h1
                clear h3
                clear h4
                have q5 := h5
                obtain ⟨g9_7, rfl, hg7, B7⟩ := h7
                simp only [Act.put, List.setIfInBounds_toArray, List.set_cons_zero, List.set_cons_succ] at hbf
                subst hbf
                replace Ba := Ba.below hb5
                replace kas := kas.below hb5
                replace kad := kad.below hb5
                replace kaz := kaz.below hb5
                replace ka := ka.below hb5
                replace Bx := Bx.below hb5
                replace kxs := kxs.below hb5
                replace kxd := kxd.below hb5
                replace kxz := kxz.below hb5
                replace kx := kx.below hb5
                replace bb := bb.trans (hb5.mono bb.size)
                have hsz5 := bb.size
                have BA7 := B7
                obtain ⟨u5, t5, rfl, q5, d5⟩ := q5
                obtain ⟨Aq, cq, rfl, _⟩ := id q5
                obtain ⟨Dq, eq, rfl, _⟩ := id d5
                refine ops_store (i := 8) rfl rfl rfl rfl rfl rfl (cells := [.bool (ngB (Q).num), .slice Aq (digs 10000 (Q).num.natAbs).length cq, .slice Dq (digs 10000 (Q).den).length eq]) rfl BA7 rfl (by kernel_rfl) (one3 rfl rfl rfl) fun w6 hg6 BN6 => ?_
                replace q5 := off q5 BA7 no_ints3 hg6
                replace d5 := off d5 BA7 no_ints3 hg6
                replace kas := off kas BA7 no_ints3 hg6
                replace kad := off kad BA7 no_ints3 hg6
                replace kaz : IsZ w6 (.agg #[.bool (ngB (a).num), .slice Aa (digs 4294967296 (a).num.natAbs).length ca]) ((a).num) := ⟨_, rfl, kas⟩
                replace ka : IsQ w6 (.agg #[.bool (ngB (a).num), .slice Aa (digs 4294967296 (a).num.natAbs).length ca, .slice Da (digs 4294967296 (a).den).length ea]) (a) := ⟨_, _, rfl, kas, kad⟩
                replace Ba := Ba.grown hg6 (by omega)
                replace kxs := off kxs BA7 no_ints3 hg6
                replace kxd := off kxd BA7 no_ints3 hg6
                replace kxz : IsZ w6 (.agg #[.bool (ngB (Q).num), .slice Ax (digs 4294967296 (Q).num.natAbs).length cx]) ((Q).num) := ⟨_, rfl, kxs⟩
                replace kx : IsQ w6 (.agg #[.bool (ngB (Q).num), .slice Ax (digs 4294967296 (Q).num.natAbs).length cx, .slice Dx (digs 4294967296 (Q).den).length ex]) (Q) := ⟨_, _, rfl, kxs, kxd⟩
                replace Bx := Bx.grown hg6 (by omega)
                replace bb := bb.trans ((Below.refl _ _).grown hg6 bb.size (fun g hg => by injection hg with hg; omega))
                have hsz6 := bb.size
                have Bq : Blk w6 (g9_7) _ _ := BN6
                have kqs := q5
                have kqd := d5
                have kqz : IsR w6 (.agg #[.bool (ngB (Q).num), .slice Aq (digs 10000 (Q).num.natAbs).length cq]) ((Q).num) := ⟨_, rfl, kqs⟩
                have kq : IsP w6 (.agg #[.bool (ngB (Q).num), .slice Aq (digs 10000 (Q).num.natAbs).length cq, .slice Dq (digs 10000 (Q).den).length eq]) (Q) := ⟨_, _, rfl, kqs, kqd⟩
                refine ops_assign (i := 9) (.int .i64 0) rfl rfl rfl rfl rfl fun b hbf => ?_
                simp only [Act.put, List.setIfInBounds_toArray, List.set_cons_zero, List.set_cons_succ] at hbf
                subst hbf
                refine ops_done ?_
                go_upto_region 8 with (fail)
                refine flow 12 [Pd.eq (.int .i64 0), Pd.eq (.bool true), Pd.eq (.bool true), Pd.eq (.agg #[.bool (ngB (Q).num), .slice Ax (digs 4294967296 (Q).num.natAbs).length cx, .slice Dx (digs 4294967296 (Q).den).length ex]), Pd.eq (.agg #[.bool (ngB (Q).num), .slice Aq (digs 10000 (Q).num.natAbs).length cq, .slice Dq (digs 10000 (Q).den).length eq]), pqn (Q), Pd.eq (.bool true), Pd.eq (.bool true), Pd.eq (.bool true), Pd.eq (.bool true), Pd.eq (.bool true), Pd.eq (.bool true)] (by kernel_rfl) (by kernel_rfl) ?ob10 ?done10
                case ob10 =>
                  refine And.intro (ob_move rfl (wt_none rfl) (ev_far rfl rfl) (fun _ _ h => h)) ?_
                  refine And.intro (ob_bin rfl (wt_none rfl) (ev_dep (j := 0) (by kernel_rfl) rfl rfl) (ev_const _) (fun _ _ _ hx hy => ⟨.bool ((0 : Int) == 0), by rw [hx, hy]; exact bin_eql_int _ _ _ _ _, congrArg Value.bool (by decide)⟩)) ?_
                  refine And.intro (ob_move rfl (wt_none rfl) (ev_dep (j := 1) (by kernel_rfl) rfl rfl) (fun _ _ h => h)) ?_
                  refine And.intro (ob_load rfl (wt_dep (c := true) (b := true) (g := 2) rfl (by kernel_rfl) rfl rfl rfl (by exact fun _ _ h => h)) (ev_far rfl rfl) (fun w2 hb => run_loadAll Tryz.underlying28 rfl (by kernel_rfl) (Bx.drew.below hb)) (fun _ _ => rfl)) ?_
                  refine And.intro (ob_load rfl (wt_dep (c := true) (b := true) (g := 2) rfl (by kernel_rfl) rfl rfl rfl (by exact fun _ _ h => h)) (ev_far rfl rfl) (fun w2 hb => run_loadAll Tryz.underlying41 rfl (by kernel_rfl) (Bq.drew.below hb)) (fun _ _ => rfl)) ?_
                  refine And.intro (ob_call1 rfl Tryz.func13 (by kernel_rfl) (wt_dep (c := true) (b := true) (g := 2) rfl (by kernel_rfl) rfl rfl rfl (by exact fun _ _ h => h)) (ev_dep (j := 4) (by kernel_rfl) rfl rfl) (fun w2 u0 hb h0 => by obtain rfl := h0; exact (qback_any _ _ _ (kq.drew.below hb) (lQ.mono (by decide))).mono fun e w3 h => RetQn.pd (RetQ.n h))) ?_
                  refine And.intro (ob_call2 rfl Tryz.func11 (by kernel_rfl) (wt_dep (c := true) (b := true) (g := 2) rfl (by kernel_rfl) rfl rfl rfl (by exact fun _ _ h => h)) (ev_dep (j := 3) (by kernel_rfl) rfl rfl) (ev_dep (j := 5) (by kernel_rfl) rfl rfl) (fun w2 u0 u1 hb h0 h1 => by obtain rfl := h0; exact (qsame_eq _ _ (Q) (Q) _ (kx.drew.below hb) h1 rfl).mono fun e w3 h => RetV.pd h)) ?_
                  refine And.intro (ob_pick (b := true) rfl (wt_none rfl) (ev_dep (j := 2) (by kernel_rfl) rfl rfl) (ev_dep (j := 6) (by kernel_rfl) rfl rfl) (fun _ _ h => h)) ?_
                  refine And.intro (ob_move rfl (wt_none rfl) (ev_dep (j := 7) (by kernel_rfl) rfl rfl) (fun _ _ h => h)) ?_
                  refine And.intro (ob_call0 rfl Tryz.func23 (by kernel_rfl) (wt_dep (c := true) (b := true) (g := 8) rfl (by kernel_rfl) rfl rfl rfl (by exact fun _ _ h => h)) (fun w2 hb => (works10_any _).mono fun e w3 h => RetV.pd h)) ?_
                  refine And.intro (ob_pick (b := true) rfl (wt_none rfl) (ev_dep (j := 8) (by kernel_rfl) rfl rfl) (ev_dep (j := 9) (by kernel_rfl) rfl rfl) (fun _ _ h => h)) ?_
                  refine And.intro (ob_assign rfl (wt_none rfl) (ev_dep (j := 10) (by kernel_rfl) rfl rfl) (fun _ _ h => h)) ?_
                  trivial
                case done10 =>
                  refine fun w7 hb7 v0 h0 v1 h1 v2 h2 v3 h3 v4 h4 v5 h5 v6 h6 v7 h7 v8 h8 v9 h9 v10 h10 v11 h11 b hbf => ?_
                  obtain rfl := h0; obtain rfl := h1; obtain rfl := h2; obtain rfl := h3; obtain rfl := h4; obtain rfl := h6; obtain rfl := h7; obtain rfl := h8; obtain rfl := h9; obtain rfl := h10; obtain rfl := h11
                  have q5 := h5
                  simp only [Act.put, List.setIfInBounds_toArray, List.set_cons_zero, List.set_cons_succ] at hbf
                  subst hbf
                  replace Ba := Ba.below hb7
                  replace kas := kas.below hb7
                  replace kad := kad.below hb7
                  replace kaz := kaz.below hb7
                  replace ka := ka.below hb7
                  replace Bx := Bx.below hb7
                  replace kxs := kxs.below hb7
                  replace kxd := kxd.below hb7
                  replace kxz := kxz.below hb7
                  replace kx := kx.below hb7
                  replace Bq := Bq.below hb7
                  replace kqs := kqs.below hb7
                  replace kqd := kqd.below hb7
                  replace kqz := kqz.below hb7
                  replace kq := kq.below hb7
                  replace bb := bb.trans (hb7.mono bb.size)
                  have hsz7 := bb.size
                  refine any_done (by kernel_rfl) ?_
                  go_wp2
                  go_ret
                  exact ⟨rfl, bb⟩
          · by_cases ha : a = 0
            · have HA := Lib.hid ha
              have HR : Hid (-2000 ≤ (a1.tmod 13) ∧ (a1.tmod 13) < 0) := ⟨by omega, by omega⟩
              go_upto_region 4 with (fail)
              have lt2_2 := Blk.lt Ba
              refine flowp 7 [Pd.eq (.agg #[.bool (ngB (a).num), .slice Aa (digs 4294967296 (a).num.natAbs).length ca, .slice Da (digs 4294967296 (a).den).length ea]), Pd.eq (.int .i64 (a1.tmod 13)), Pd.eq (.tuple #[.agg #[.bool false, .slice none 0 0, .slice none 0 0], .int .i64 3]), Pd.eq (.tuple #[.agg #[.bool false, .slice none 0 0, .slice none 0 0], .int .i64 3]), Pd.eq (.agg #[.bool false, .slice none 0 0, .slice none 0 0]), Pd.eq (.int .i64 3), pn 28 #[.bool false, .slice none 0 0, .slice none 0 0] w2.heap.size] (by kernel_rfl) ?ob11 ?done11
              case ob11 =>
                refine And.intro (ob_load rfl (wt_none rfl) (ev_far rfl rfl) (fun w2 hb => run_loadAll Tryz.underlying28 rfl (by kernel_rfl) (Ba.below hb)) (fun _ _ => rfl)) ?_
                refine And.intro (ob_move rfl (wt_none rfl) (ev_far rfl rfl) (fun _ _ h => h)) ?_
                refine And.intro (ob_call2 rfl Tryz.func32 (by kernel_rfl) (wt_none rfl) (ev_dep (j := 0) (by kernel_rfl) rfl rfl) (ev_dep (j := 1) (by kernel_rfl) rfl rfl) (fun w2 u0 u1 hb h0 h1 => by obtain rfl := h0; obtain rfl := h1; exact (fpow_zero _ a _ _ (ka.below hb) HR.out HA.out).mono fun e w3 h => RetQN.pd h)) ?_
                refine And.intro (ob_move rfl (wt_none rfl) (ev_dep (j := 2) (by kernel_rfl) rfl rfl) (fun _ _ h => h)) ?_
                refine And.intro (ob_extract rfl (wt_none rfl) (ev_dep (j := 3) (by kernel_rfl) rfl rfl) (fun w2 u hu => by obtain rfl := hu; exact ⟨_, rfl, rfl⟩)) ?_
                refine And.intro (ob_extract rfl (wt_none rfl) (ev_dep (j := 3) (by kernel_rfl) rfl rfl) (fun w2 u hu => by obtain rfl := hu; exact ⟨_, rfl, rfl⟩)) ?_
                refine And.intro (ob_alloc (z := .agg #[.bool false, .slice none 0 0, .slice none 0 0]) rfl rfl (fun _ => by kernel_rfl) (fun _ _ hB h => ⟨_, rfl, hB, h⟩)) ?_
                trivial
              case done11 =>
                refine fun w3 hb3 v0 h0 v1 h1 v2 h2 v3 h3 v4 h4 v5 h5 v6 h6 d6 b hbf => ?_
                obtain rfl := h0; obtain rfl := h1; obtain rfl := h2; obtain rfl := h3; obtain rfl := h4; obtain rfl := h5
                obtain ⟨g11_6, rfl, hg6, B6⟩ := h6
                simp only [Act.put, List.setIfInBounds_toArray, List.set_cons_zero, List.set_cons_succ] at hbf
                subst hbf
                replace Ba := Ba.below hb3
                replace kas := kas.below hb3
                replace kad := kad.below hb3
                replace kaz := kaz.below hb3
                replace ka := ka.below hb3
                replace bb := bb.trans (hb3.mono bb.size)
                have hsz3 := bb.size
                have BA5 := B6
                refine ops_store (i := 7) rfl rfl rfl rfl rfl rfl (cells := [.bool false, .slice none 0 0, .slice none 0 0]) rfl BA5 rfl (by kernel_rfl) (one3 rfl rfl rfl) fun w4 hg4 BN4 => ?_
                replace kas := off kas BA5 no_ints3 hg4
                replace kad := off kad BA5 no_ints3 hg4
                replace kaz : IsZ w4 (.agg #[.bool (ngB (a).num), .slice Aa (digs 4294967296 (a).num.natAbs).length ca]) ((a).num) := ⟨_, rfl, kas⟩
                replace ka : IsQ w4 (.agg #[.bool (ngB (a).num), .slice Aa (digs 4294967296 (a).num.natAbs).length ca, .slice Da (digs 4294967296 (a).den).length ea]) (a) := ⟨_, _, rfl, kas, kad⟩
                replace Ba := Ba.grown hg4 (by omega)
                replace bb := bb.trans ((Below.refl _ _).grown hg4 bb.size (fun g hg => by injection hg with hg; omega))
                have hsz4 := bb.size
                replace BA5 : Blk w4 (g11_6) _ #[.bool false, .slice none 0 0, .slice none 0 0] := BN4
                refine ops_assign (i := 8) (.int .i64 3) rfl rfl rfl rfl rfl fun b hbf => ?_
                simp only [Act.put, List.setIfInBounds_toArray, List.set_cons_zero, List.set_cons_succ] at hbf
                subst hbf
                refine ops_done ?_
                go_upto_region 5 with (fail)
                have lt4_2 := Blk.lt Ba
                have lt4_5 := Blk.lt BA5
                refine flowp 8 [Pd.eq (.agg #[.bool (ngB (a).num), .slice Aa (digs 4294967296 (a).num.natAbs).length ca, .slice Da (digs 4294967296 (a).den).length ea]), pp (a), Pd.eq (.int .i64 (a1.tmod 13)), Pd.eq (.tuple #[.agg #[.bool false, .slice none 0 0, .slice none 0 0], .int .i64 3]), Pd.eq (.tuple #[.agg #[.bool false, .slice none 0 0, .slice none 0 0], .int .i64 3]), Pd.eq (.agg #[.bool false, .slice none 0 0, .slice none 0 0]), Pd.eq (.int .i64 3), pn 41 #[.bool false, .slice none 0 0, .slice none 0 0] w4.heap.size] (by kernel_rfl) ?ob12 ?done12
                case ob12 =>
                  refine And.intro (ob_load rfl (wt_none rfl) (ev_far rfl rfl) (fun w2 hb => run_loadAll Tryz.underlying28 rfl (by kernel_rfl) (Ba.below hb)) (fun _ _ => rfl)) ?_
                  refine And.intro (ob_call1 rfl Tryz.func22 (by kernel_rfl) (wt_none rfl) (ev_dep (j := 0) (by kernel_rfl) rfl rfl) (fun w2 u0 hb h0 => by obtain rfl := h0; exact (qof_any _ _ _ (ka.below hb) (la.mono (by decide))).mono fun e w3 h => RetP.pd h)) ?_
                  refine And.intro (ob_move rfl (wt_none rfl) (ev_far rfl rfl) (fun _ _ h => h)) ?_
                  refine And.intro (ob_call2 rfl Tryz.func33 (by kernel_rfl) (wt_none rfl) (ev_dep (j := 1) (by kernel_rfl) rfl rfl) (ev_dep (j := 2) (by kernel_rfl) rfl rfl) (fun w2 u0 u1 hb h0 h1 => by obtain rfl := h1; exact (rpow_zero _ a _ _ h0 HR.out HA.out).mono fun e w3 h => RetQN.pd h)) ?_
                  refine And.intro (ob_move rfl (wt_none rfl) (ev_dep (j := 3) (by kernel_rfl) rfl rfl) (fun _ _ h => h)) ?_
                  refine And.intro (ob_extract rfl (wt_none rfl) (ev_dep (j := 4) (by kernel_rfl) rfl rfl) (fun w2 u hu => by obtain rfl := hu; exact ⟨_, rfl, rfl⟩)) ?_
                  refine And.intro (ob_extract rfl (wt_none rfl) (ev_dep (j := 4) (by kernel_rfl) rfl rfl) (fun w2 u hu => by obtain rfl := hu; exact ⟨_, rfl, rfl⟩)) ?_
                  refine And.intro (ob_alloc (z := .agg #[.bool false, .slice none 0 0, .slice none 0 0]) rfl rfl (fun _ => by kernel_rfl) (fun _ _ hB h => ⟨_, rfl, hB, h⟩)) ?_
                  trivial
                case done12 =>
                  refine fun w5 hb5 v0 h0 v1 h1 v2 h2 v3 h3 v4 h4 v5 h5 v6 h6 v7 h7 d7 b hbf => ?_
                  obtain rfl := h0; obtain rfl := h2; obtain rfl := h3; obtain rfl := h4; obtain rfl := h5; obtain rfl := h6
                  have q1 := h1
                  obtain ⟨g12_7, rfl, hg7, B7⟩ := h7
                  simp only [Act.put, List.setIfInBounds_toArray, List.set_cons_zero, List.set_cons_succ] at hbf
                  subst hbf
                  replace Ba := Ba.below hb5
                  replace kas := kas.below hb5
                  replace kad := kad.below hb5
                  replace kaz := kaz.below hb5
                  replace ka := ka.below hb5
                  replace BA5 := BA5.below hb5
                  replace bb := bb.trans (hb5.mono bb.size)
                  have hsz5 := bb.size
                  have BA7 := B7
                  refine ops_store (i := 8) rfl rfl rfl rfl rfl rfl (cells := [.bool false, .slice none 0 0, .slice none 0 0]) rfl BA7 rfl (by kernel_rfl) (one3 rfl rfl rfl) fun w6 hg6 BN6 => ?_
                  replace kas := off kas BA7 no_ints3 hg6
                  replace kad := off kad BA7 no_ints3 hg6
                  replace kaz : IsZ w6 (.agg #[.bool (ngB (a).num), .slice Aa (digs 4294967296 (a).num.natAbs).length ca]) ((a).num) := ⟨_, rfl, kas⟩
                  replace ka : IsQ w6 (.agg #[.bool (ngB (a).num), .slice Aa (digs 4294967296 (a).num.natAbs).length ca, .slice Da (digs 4294967296 (a).den).length ea]) (a) := ⟨_, _, rfl, kas, kad⟩
                  replace Ba := Ba.grown hg6 (by omega)
                  replace BA5 := BA5.grown hg6 (by omega)
                  replace bb := bb.trans ((Below.refl _ _).grown hg6 bb.size (fun g hg => by injection hg with hg; omega))
                  have hsz6 := bb.size
                  replace BA7 : Blk w6 (g12_7) _ #[.bool false, .slice none 0 0, .slice none 0 0] := BN6
                  refine ops_assign (i := 9) (.int .i64 3) rfl rfl rfl rfl rfl fun b hbf => ?_
                  simp only [Act.put, List.setIfInBounds_toArray, List.set_cons_zero, List.set_cons_succ] at hbf
                  subst hbf
                  refine ops_done ?_
                  go_upto_region 7 with (fail)
                  refine flowp 7 [Pd.eq (.int .i64 3), Pd.eq (.int .i64 3), Pd.eq (.bool true), Pd.eq (.bool true), Pd.eq (.bool true), Pd.eq (.bool true), Pd.eq (.bool true)] (by kernel_rfl) ?ob13 ?done13
                  case ob13 =>
                    refine And.intro (ob_move rfl (wt_none rfl) (ev_far rfl rfl) (fun _ _ h => h)) ?_
                    refine And.intro (ob_move rfl (wt_none rfl) (ev_far rfl rfl) (fun _ _ h => h)) ?_
                    refine And.intro (ob_bin rfl (wt_none rfl) (ev_dep (j := 0) (by kernel_rfl) rfl rfl) (ev_dep (j := 1) (by kernel_rfl) rfl rfl) (fun _ _ _ hx hy => ⟨.bool ((3 : Int) == 3), by rw [hx, hy]; exact bin_eql_int _ _ _ _ _, congrArg Value.bool (by decide)⟩)) ?_
                    refine And.intro (ob_move rfl (wt_none rfl) (ev_dep (j := 2) (by kernel_rfl) rfl rfl) (fun _ _ h => h)) ?_
                    refine And.intro (ob_call0 rfl Tryz.func23 (by kernel_rfl) (wt_dep (c := true) (b := true) (g := 3) rfl (by kernel_rfl) rfl rfl rfl (by exact fun _ _ h => h)) (fun w2 hb => (works10_any _).mono fun e w3 h => RetV.pd h)) ?_
                    refine And.intro (ob_pick (b := true) rfl (wt_none rfl) (ev_dep (j := 3) (by kernel_rfl) rfl rfl) (ev_dep (j := 4) (by kernel_rfl) rfl rfl) (fun _ _ h => h)) ?_
                    refine And.intro (ob_assign rfl (wt_none rfl) (ev_dep (j := 5) (by kernel_rfl) rfl rfl) (fun _ _ h => h)) ?_
                    trivial
                  case done13 =>
                    refine fun w7 hb7 v0 h0 v1 h1 v2 h2 v3 h3 v4 h4 v5 h5 v6 h6 b hbf => ?_
                    obtain rfl := h0; obtain rfl := h1; obtain rfl := h2; obtain rfl := h3; obtain rfl := h4; obtain rfl := h5; obtain rfl := h6
                    simp only [Act.put, List.setIfInBounds_toArray, List.set_cons_zero, List.set_cons_succ] at hbf
                    subst hbf
                    replace Ba := Ba.below hb7
                    replace kas := kas.below hb7
                    replace kad := kad.below hb7
                    replace kaz := kaz.below hb7
                    replace ka := ka.below hb7
                    replace BA5 := BA5.below hb7
                    replace BA7 := BA7.below hb7
                    replace bb := bb.trans (hb7.mono bb.size)
                    have hsz7 := bb.size
                    refine ops_done ?_
                    go_wp2
                    go_ret
                    exact ⟨rfl, bb⟩
            · have HA := Lib.hid ha
              have HR : Hid (-12 ≤ (a1.tmod 13) ∧ (a1.tmod 13) < 0) := ⟨by omega, by omega⟩
              have HR2 : Hid (-2000 ≤ (a1.tmod 13) ∧ (a1.tmod 13) < 0) := ⟨by omega, by omega⟩
              obtain ⟨Q, hQ⟩ : ∃ Q, Q = a⁻¹ ^ ((a1.tmod 13)).natAbs := ⟨_, rfl⟩
              have lQ : lenQ Q 20 := by rw [hQ]; exact (lenQ_pow (lenQ_inv ha la) _).mono (by omega)
              have HQ := Lib.hid hQ.symm
              clear hQ
              go_upto_region 4 with (fail)
              have lt2_2 := Blk.lt Ba
              refine flowp 7 [Pd.eq (.agg #[.bool (ngB (a).num), .slice Aa (digs 4294967296 (a).num.natAbs).length ca, .slice Da (digs 4294967296 (a).den).length ea]), Pd.eq (.int .i64 (a1.tmod 13)), pqe (Q) 0, pqe (Q) 0, pqn (Q), Pd.eq (.int .i64 0), pn 28 #[.bool false, .slice none 0 0, .slice none 0 0] w2.heap.size] (by kernel_rfl) ?ob14 ?done14
              case ob14 =>
                refine And.intro (ob_load rfl (wt_none rfl) (ev_far rfl rfl) (fun w2 hb => run_loadAll Tryz.underlying28 rfl (by kernel_rfl) (Ba.below hb)) (fun _ _ => rfl)) ?_
                refine And.intro (ob_move rfl (wt_none rfl) (ev_far rfl rfl) (fun _ _ h => h)) ?_
                refine And.intro (ob_call2 rfl Tryz.func32 (by kernel_rfl) (wt_none rfl) (ev_dep (j := 0) (by kernel_rfl) rfl rfl) (ev_dep (j := 1) (by kernel_rfl) rfl rfl) (fun w2 u0 u1 hb h0 h1 => by obtain rfl := h0; obtain rfl := h1; exact (HQ.out ▸ fpow_neg _ a _ _ (ka.below hb) HR2.out HA.out la).mono fun e w3 h => RetQE.pd h)) ?_
                refine And.intro (ob_move rfl (wt_none rfl) (ev_dep (j := 2) (by kernel_rfl) rfl rfl) (fun _ _ h => h)) ?_
                refine And.intro (ob_extract rfl (wt_none rfl) (ev_dep (j := 3) (by kernel_rfl) rfl rfl) (fun w2 u hu => by obtain ⟨v, rfl, q1⟩ := hu; exact ⟨v, rfl, q1⟩)) ?_
                refine And.intro (ob_extract rfl (wt_none rfl) (ev_dep (j := 3) (by kernel_rfl) rfl rfl) (fun w2 u hu => by obtain ⟨v, rfl, q1⟩ := hu; exact ⟨_, rfl, rfl⟩)) ?_
                refine And.intro (ob_alloc (z := .agg #[.bool false, .slice none 0 0, .slice none 0 0]) rfl rfl (fun _ => by kernel_rfl) (fun _ _ hB h => ⟨_, rfl, hB, h⟩)) ?_
                trivial
              case done14 =>
                refine fun w3 hb3 v0 h0 v1 h1 v2 h2 v3 h3 v4 h4 v5 h5 v6 h6 d6 b hbf => ?_
                obtain rfl := h0; obtain rfl := h1; obtain rfl := h5
                clear h2
                clear h3
                have q4 := h4
                obtain ⟨g14_6, rfl, hg6, B6⟩ := h6
                simp only [Act.put, List.setIfInBounds_toArray, List.set_cons_zero, List.set_cons_succ] at hbf
                subst hbf
                replace Ba := Ba.below hb3
                replace kas := kas.below hb3
                replace kad := kad.below hb3
                replace kaz := kaz.below hb3
                replace ka := ka.below hb3
                replace bb := bb.trans (hb3.mono bb.size)
                have hsz3 := bb.size
                have BA5 := B6
                obtain ⟨u4, t4, rfl, q4, d4⟩ := q4
                obtain ⟨Ax, cx, rfl, _⟩ := id q4
                obtain ⟨Dx, ex, rfl, _⟩ := id d4
                refine ops_store (i := 7) rfl rfl rfl rfl rfl rfl (cells := [.bool (ngB (Q).num), .slice Ax (digs 4294967296 (Q).num.natAbs).length cx, .slice Dx (digs 4294967296 (Q).den).length ex]) rfl BA5 rfl (by kernel_rfl) (one3 rfl rfl rfl) fun w4 hg4 BN4 => ?_
                replace q4 := off q4 BA5 no_ints3 hg4
                replace d4 := off d4 BA5 no_ints3 hg4
                replace kas := off kas BA5 no_ints3 hg4
                replace kad := off kad BA5 no_ints3 hg4
                replace kaz : IsZ w4 (.agg #[.bool (ngB (a).num), .slice Aa (digs 4294967296 (a).num.natAbs).length ca]) ((a).num) := ⟨_, rfl, kas⟩
                replace ka : IsQ w4 (.agg #[.bool (ngB (a).num), .slice Aa (digs 4294967296 (a).num.natAbs).length ca, .slice Da (digs 4294967296 (a).den).length ea]) (a) := ⟨_, _, rfl, kas, kad⟩
                replace Ba := Ba.grown hg4 (by omega)
                replace bb := bb.trans ((Below.refl _ _).grown hg4 bb.size (fun g hg => by injection hg with hg; omega))
                have hsz4 := bb.size
                have Bx : Blk w4 (g14_6) _ _ := BN4
                have kxs := q4
                have kxd := d4
                have kxz : IsZ w4 (.agg #[.bool (ngB (Q).num), .slice Ax (digs 4294967296 (Q).num.natAbs).length cx]) ((Q).num) := ⟨_, rfl, kxs⟩
                have kx : IsQ w4 (.agg #[.bool (ngB (Q).num), .slice Ax (digs 4294967296 (Q).num.natAbs).length cx, .slice Dx (digs 4294967296 (Q).den).length ex]) (Q) := ⟨_, _, rfl, kxs, kxd⟩
                refine ops_assign (i := 8) (.int .i64 0) rfl rfl rfl rfl rfl fun b hbf => ?_
                simp only [Act.put, List.setIfInBounds_toArray, List.set_cons_zero, List.set_cons_succ] at hbf
                subst hbf
                refine ops_done ?_
                go_upto_region 5 with (fail)
                have lt4_2 := Blk.lt Ba
                have lt4_5 := Blk.lt Bx
                refine flowp 8 [Pd.eq (.agg #[.bool (ngB (a).num), .slice Aa (digs 4294967296 (a).num.natAbs).length ca, .slice Da (digs 4294967296 (a).den).length ea]), pp (a), Pd.eq (.int .i64 (a1.tmod 13)), ppn (Q) 0, ppn (Q) 0, pp (Q), Pd.eq (.int .i64 0), pn 41 #[.bool false, .slice none 0 0, .slice none 0 0] w4.heap.size] (by kernel_rfl) ?ob15 ?done15
                case ob15 =>
                  refine And.intro (ob_load rfl (wt_none rfl) (ev_far rfl rfl) (fun w2 hb => run_loadAll Tryz.underlying28 rfl (by kernel_rfl) (Ba.below hb)) (fun _ _ => rfl)) ?_
                  refine And.intro (ob_call1 rfl Tryz.func22 (by kernel_rfl) (wt_none rfl) (ev_dep (j := 0) (by kernel_rfl) rfl rfl) (fun w2 u0 hb h0 => by obtain rfl := h0; exact (qof_any _ _ _ (ka.below hb) (la.mono (by decide))).mono fun e w3 h => RetP.pd h)) ?_
                  refine And.intro (ob_move rfl (wt_none rfl) (ev_far rfl rfl) (fun _ _ h => h)) ?_
                  refine And.intro (ob_call2 rfl Tryz.func33 (by kernel_rfl) (wt_none rfl) (ev_dep (j := 1) (by kernel_rfl) rfl rfl) (ev_dep (j := 2) (by kernel_rfl) rfl rfl) (fun w2 u0 u1 hb h0 h1 => by obtain rfl := h1; exact (HQ.out ▸ rpow_neg _ a _ 1 _ h0 HR2.out HA.out ⟨la, by have := HR.out; omega⟩ (by omega)).mono fun e w3 h => RetPE.pd h)) ?_
                  refine And.intro (ob_move rfl (wt_none rfl) (ev_dep (j := 3) (by kernel_rfl) rfl rfl) (fun _ _ h => h)) ?_
                  refine And.intro (ob_extract rfl (wt_none rfl) (ev_dep (j := 4) (by kernel_rfl) rfl rfl) (fun w2 u hu => by obtain ⟨v, rfl, q1⟩ := hu; exact ⟨v, rfl, q1⟩)) ?_
                  refine And.intro (ob_extract rfl (wt_none rfl) (ev_dep (j := 4) (by kernel_rfl) rfl rfl) (fun w2 u hu => by obtain ⟨v, rfl, q1⟩ := hu; exact ⟨_, rfl, rfl⟩)) ?_
                  refine And.intro (ob_alloc (z := .agg #[.bool false, .slice none 0 0, .slice none 0 0]) rfl rfl (fun _ => by kernel_rfl) (fun _ _ hB h => ⟨_, rfl, hB, h⟩)) ?_
                  trivial
                case done15 =>
                  refine fun w5 hb5 v0 h0 v1 h1 v2 h2 v3 h3 v4 h4 v5 h5 v6 h6 v7 h7 d7 b hbf => ?_
                  obtain rfl := h0; obtain rfl := h2; obtain rfl := h6
                  have q1 := h1
                  clear h3
                  clear h4
                  have q5 := h5
                  obtain ⟨g15_7, rfl, hg7, B7⟩ := h7
                  simp only [Act.put, List.setIfInBounds_toArray, List.set_cons_zero, List.set_cons_succ] at hbf
                  subst hbf
                  replace Ba := Ba.below hb5
                  replace kas := kas.below hb5
                  replace kad := kad.below hb5
                  replace kaz := kaz.below hb5
                  replace ka := ka.below hb5
                  replace Bx := Bx.below hb5
                  replace kxs := kxs.below hb5
                  replace kxd := kxd.below hb5
                  replace kxz := kxz.below hb5
                  replace kx := kx.below hb5
                  replace bb := bb.trans (hb5.mono bb.size)
                  have hsz5 := bb.size
                  have BA7 := B7
                  obtain ⟨u5, t5, rfl, q5, d5⟩ := q5
                  obtain ⟨Aq, cq, rfl, _⟩ := id q5
                  obtain ⟨Dq, eq, rfl, _⟩ := id d5
                  refine ops_store (i := 8) rfl rfl rfl rfl rfl rfl (cells := [.bool (ngB (Q).num), .slice Aq (digs 10000 (Q).num.natAbs).length cq, .slice Dq (digs 10000 (Q).den).length eq]) rfl BA7 rfl (by kernel_rfl) (one3 rfl rfl rfl) fun w6 hg6 BN6 => ?_
                  replace q5 := off q5 BA7 no_ints3 hg6
                  replace d5 := off d5 BA7 no_ints3 hg6
                  replace kas := off kas BA7 no_ints3 hg6
                  replace kad := off kad BA7 no_ints3 hg6
                  replace kaz : IsZ w6 (.agg #[.bool (ngB (a).num), .slice Aa (digs 4294967296 (a).num.natAbs).length ca]) ((a).num) := ⟨_, rfl, kas⟩
                  replace ka : IsQ w6 (.agg #[.bool (ngB (a).num), .slice Aa (digs 4294967296 (a).num.natAbs).length ca, .slice Da (digs 4294967296 (a).den).length ea]) (a) := ⟨_, _, rfl, kas, kad⟩
                  replace Ba := Ba.grown hg6 (by omega)
                  replace kxs := off kxs BA7 no_ints3 hg6
                  replace kxd := off kxd BA7 no_ints3 hg6
                  replace kxz : IsZ w6 (.agg #[.bool (ngB (Q).num), .slice Ax (digs 4294967296 (Q).num.natAbs).length cx]) ((Q).num) := ⟨_, rfl, kxs⟩
                  replace kx : IsQ w6 (.agg #[.bool (ngB (Q).num), .slice Ax (digs 4294967296 (Q).num.natAbs).length cx, .slice Dx (digs 4294967296 (Q).den).length ex]) (Q) := ⟨_, _, rfl, kxs, kxd⟩
                  replace Bx := Bx.grown hg6 (by omega)
                  replace bb := bb.trans ((Below.refl _ _).grown hg6 bb.size (fun g hg => by injection hg with hg; omega))
                  have hsz6 := bb.size
                  have Bq : Blk w6 (g15_7) _ _ := BN6
                  have kqs := q5
                  have kqd := d5
                  have kqz : IsR w6 (.agg #[.bool (ngB (Q).num), .slice Aq (digs 10000 (Q).num.natAbs).length cq]) ((Q).num) := ⟨_, rfl, kqs⟩
                  have kq : IsP w6 (.agg #[.bool (ngB (Q).num), .slice Aq (digs 10000 (Q).num.natAbs).length cq, .slice Dq (digs 10000 (Q).den).length eq]) (Q) := ⟨_, _, rfl, kqs, kqd⟩
                  refine ops_assign (i := 9) (.int .i64 0) rfl rfl rfl rfl rfl fun b hbf => ?_
                  simp only [Act.put, List.setIfInBounds_toArray, List.set_cons_zero, List.set_cons_succ] at hbf
                  subst hbf
                  refine ops_done ?_
                  go_upto_region 8 with (fail)
                  refine flow 12 [Pd.eq (.int .i64 0), Pd.eq (.bool true), Pd.eq (.bool true), Pd.eq (.agg #[.bool (ngB (Q).num), .slice Ax (digs 4294967296 (Q).num.natAbs).length cx, .slice Dx (digs 4294967296 (Q).den).length ex]), Pd.eq (.agg #[.bool (ngB (Q).num), .slice Aq (digs 10000 (Q).num.natAbs).length cq, .slice Dq (digs 10000 (Q).den).length eq]), pqn (Q), Pd.eq (.bool true), Pd.eq (.bool true), Pd.eq (.bool true), Pd.eq (.bool true), Pd.eq (.bool true), Pd.eq (.bool true)] (by kernel_rfl) (by kernel_rfl) ?ob16 ?done16
                  case ob16 =>
                    refine And.intro (ob_move rfl (wt_none rfl) (ev_far rfl rfl) (fun _ _ h => h)) ?_
                    refine And.intro (ob_bin rfl (wt_none rfl) (ev_dep (j := 0) (by kernel_rfl) rfl rfl) (ev_const _) (fun _ _ _ hx hy => ⟨.bool ((0 : Int) == 0), by rw [hx, hy]; exact bin_eql_int _ _ _ _ _, congrArg Value.bool (by decide)⟩)) ?_
                    refine And.intro (ob_move rfl (wt_none rfl) (ev_dep (j := 1) (by kernel_rfl) rfl rfl) (fun _ _ h => h)) ?_
                    refine And.intro (ob_load rfl (wt_dep (c := true) (b := true) (g := 2) rfl (by kernel_rfl) rfl rfl rfl (by exact fun _ _ h => h)) (ev_far rfl rfl) (fun w2 hb => run_loadAll Tryz.underlying28 rfl (by kernel_rfl) (Bx.drew.below hb)) (fun _ _ => rfl)) ?_
                    refine And.intro (ob_load rfl (wt_dep (c := true) (b := true) (g := 2) rfl (by kernel_rfl) rfl rfl rfl (by exact fun _ _ h => h)) (ev_far rfl rfl) (fun w2 hb => run_loadAll Tryz.underlying41 rfl (by kernel_rfl) (Bq.drew.below hb)) (fun _ _ => rfl)) ?_
                    refine And.intro (ob_call1 rfl Tryz.func13 (by kernel_rfl) (wt_dep (c := true) (b := true) (g := 2) rfl (by kernel_rfl) rfl rfl rfl (by exact fun _ _ h => h)) (ev_dep (j := 4) (by kernel_rfl) rfl rfl) (fun w2 u0 hb h0 => by obtain rfl := h0; exact (qback_any _ _ _ (kq.drew.below hb) (lQ.mono (by decide))).mono fun e w3 h => RetQn.pd (RetQ.n h))) ?_
                    refine And.intro (ob_call2 rfl Tryz.func11 (by kernel_rfl) (wt_dep (c := true) (b := true) (g := 2) rfl (by kernel_rfl) rfl rfl rfl (by exact fun _ _ h => h)) (ev_dep (j := 3) (by kernel_rfl) rfl rfl) (ev_dep (j := 5) (by kernel_rfl) rfl rfl) (fun w2 u0 u1 hb h0 h1 => by obtain rfl := h0; exact (qsame_eq _ _ (Q) (Q) _ (kx.drew.below hb) h1 rfl).mono fun e w3 h => RetV.pd h)) ?_
                    refine And.intro (ob_pick (b := true) rfl (wt_none rfl) (ev_dep (j := 2) (by kernel_rfl) rfl rfl) (ev_dep (j := 6) (by kernel_rfl) rfl rfl) (fun _ _ h => h)) ?_
                    refine And.intro (ob_move rfl (wt_none rfl) (ev_dep (j := 7) (by kernel_rfl) rfl rfl) (fun _ _ h => h)) ?_
                    refine And.intro (ob_call0 rfl Tryz.func23 (by kernel_rfl) (wt_dep (c := true) (b := true) (g := 8) rfl (by kernel_rfl) rfl rfl rfl (by exact fun _ _ h => h)) (fun w2 hb => (works10_any _).mono fun e w3 h => RetV.pd h)) ?_
                    refine And.intro (ob_pick (b := true) rfl (wt_none rfl) (ev_dep (j := 8) (by kernel_rfl) rfl rfl) (ev_dep (j := 9) (by kernel_rfl) rfl rfl) (fun _ _ h => h)) ?_
                    refine And.intro (ob_assign rfl (wt_none rfl) (ev_dep (j := 10) (by kernel_rfl) rfl rfl) (fun _ _ h => h)) ?_
                    trivial
                  case done16 =>
                    refine fun w7 hb7 v0 h0 v1 h1 v2 h2 v3 h3 v4 h4 v5 h5 v6 h6 v7 h7 v8 h8 v9 h9 v10 h10 v11 h11 b hbf => ?_
                    obtain rfl := h0; obtain rfl := h1; obtain rfl := h2; obtain rfl := h3; obtain rfl := h4; obtain rfl := h6; obtain rfl := h7; obtain rfl := h8; obtain rfl := h9; obtain rfl := h10; obtain rfl := h11
                    have q5 := h5
                    simp only [Act.put, List.setIfInBounds_toArray, List.set_cons_zero, List.set_cons_succ] at hbf
                    subst hbf
                    replace Ba := Ba.below hb7
                    replace kas := kas.below hb7
                    replace kad := kad.below hb7
                    replace kaz := kaz.below hb7
                    replace ka := ka.below hb7
                    replace Bx := Bx.below hb7
                    replace kxs := kxs.below hb7
                    replace kxd := kxd.below hb7
                    replace kxz := kxz.below hb7
                    replace kx := kx.below hb7
                    replace Bq := Bq.below hb7
                    replace kqs := kqs.below hb7
                    replace kqd := kqd.below hb7
                    replace kqz := kqz.below hb7
                    replace kq := kq.below hb7
                    replace bb := bb.trans (hb7.mono bb.size)
                    have hsz7 := bb.size
                    refine any_done (by kernel_rfl) ?_
                    go_wp2
                    go_ret
                    exact ⟨rfl, bb⟩
        · have HR : Hid (a1 < -2000 ∨ 2000 < a1) := by show _ ∨ _; omega
          go_upto_region 4 with (fail)
          have lt2_2 := Blk.lt Ba
          refine flowp 7 [Pd.eq (.agg #[.bool (ngB (a).num), .slice Aa (digs 4294967296 (a).num.natAbs).length ca, .slice Da (digs 4294967296 (a).den).length ea]), Pd.eq (.int .i64 a1), Pd.eq (.tuple #[.agg #[.bool false, .slice none 0 0, .slice none 0 0], .int .i64 2]), Pd.eq (.tuple #[.agg #[.bool false, .slice none 0 0, .slice none 0 0], .int .i64 2]), Pd.eq (.agg #[.bool false, .slice none 0 0, .slice none 0 0]), Pd.eq (.int .i64 2), pn 28 #[.bool false, .slice none 0 0, .slice none 0 0] w2.heap.size] (by kernel_rfl) ?ob17 ?done17
          case ob17 =>
            refine And.intro (ob_load rfl (wt_none rfl) (ev_far rfl rfl) (fun w2 hb => run_loadAll Tryz.underlying28 rfl (by kernel_rfl) (Ba.below hb)) (fun _ _ => rfl)) ?_
            refine And.intro (ob_move rfl (wt_none rfl) (ev_far rfl rfl) (fun _ _ h => h)) ?_
            refine And.intro (ob_call2 rfl Tryz.func32 (by kernel_rfl) (wt_none rfl) (ev_dep (j := 0) (by kernel_rfl) rfl rfl) (ev_dep (j := 1) (by kernel_rfl) rfl rfl) (fun w2 u0 u1 hb h0 h1 => by obtain rfl := h0; obtain rfl := h1; exact (fpow_arg _ a _ _ (ka.below hb) HR.out).mono fun e w3 h => RetQN.pd h)) ?_
            refine And.intro (ob_move rfl (wt_none rfl) (ev_dep (j := 2) (by kernel_rfl) rfl rfl) (fun _ _ h => h)) ?_
            refine And.intro (ob_extract rfl (wt_none rfl) (ev_dep (j := 3) (by kernel_rfl) rfl rfl) (fun w2 u hu => by obtain rfl := hu; exact ⟨_, rfl, rfl⟩)) ?_
            refine And.intro (ob_extract rfl (wt_none rfl) (ev_dep (j := 3) (by kernel_rfl) rfl rfl) (fun w2 u hu => by obtain rfl := hu; exact ⟨_, rfl, rfl⟩)) ?_
            refine And.intro (ob_alloc (z := .agg #[.bool false, .slice none 0 0, .slice none 0 0]) rfl rfl (fun _ => by kernel_rfl) (fun _ _ hB h => ⟨_, rfl, hB, h⟩)) ?_
            trivial
          case done17 =>
            refine fun w3 hb3 v0 h0 v1 h1 v2 h2 v3 h3 v4 h4 v5 h5 v6 h6 d6 b hbf => ?_
            obtain rfl := h0; obtain rfl := h1; obtain rfl := h2; obtain rfl := h3; obtain rfl := h4; obtain rfl := h5
            obtain ⟨g17_6, rfl, hg6, B6⟩ := h6
            simp only [Act.put, List.setIfInBounds_toArray, List.set_cons_zero, List.set_cons_succ] at hbf
            subst hbf
            replace Ba := Ba.below hb3
            replace kas := kas.below hb3
            replace kad := kad.below hb3
            replace kaz := kaz.below hb3
            replace ka := ka.below hb3
            replace bb := bb.trans (hb3.mono bb.size)
            have hsz3 := bb.size
            have BA5 := B6
            refine ops_store (i := 7) rfl rfl rfl rfl rfl rfl (cells := [.bool false, .slice none 0 0, .slice none 0 0]) rfl BA5 rfl (by kernel_rfl) (one3 rfl rfl rfl) fun w4 hg4 BN4 => ?_
            replace kas := off kas BA5 no_ints3 hg4
            replace kad := off kad BA5 no_ints3 hg4
            replace kaz : IsZ w4 (.agg #[.bool (ngB (a).num), .slice Aa (digs 4294967296 (a).num.natAbs).length ca]) ((a).num) := ⟨_, rfl, kas⟩
            replace ka : IsQ w4 (.agg #[.bool (ngB (a).num), .slice Aa (digs 4294967296 (a).num.natAbs).length ca, .slice Da (digs 4294967296 (a).den).length ea]) (a) := ⟨_, _, rfl, kas, kad⟩
            replace Ba := Ba.grown hg4 (by omega)
            replace bb := bb.trans ((Below.refl _ _).grown hg4 bb.size (fun g hg => by injection hg with hg; omega))
            have hsz4 := bb.size
            replace BA5 : Blk w4 (g17_6) _ #[.bool false, .slice none 0 0, .slice none 0 0] := BN4
            refine ops_assign (i := 8) (.int .i64 2) rfl rfl rfl rfl rfl fun b hbf => ?_
            simp only [Act.put, List.setIfInBounds_toArray, List.set_cons_zero, List.set_cons_succ] at hbf
            subst hbf
            refine ops_done ?_
            go_upto_region 5 with (fail)
            have lt4_2 := Blk.lt Ba
            have lt4_5 := Blk.lt BA5
            refine flowp 8 [Pd.eq (.agg #[.bool (ngB (a).num), .slice Aa (digs 4294967296 (a).num.natAbs).length ca, .slice Da (digs 4294967296 (a).den).length ea]), pp (a), Pd.eq (.int .i64 a1), Pd.eq (.tuple #[.agg #[.bool false, .slice none 0 0, .slice none 0 0], .int .i64 2]), Pd.eq (.tuple #[.agg #[.bool false, .slice none 0 0, .slice none 0 0], .int .i64 2]), Pd.eq (.agg #[.bool false, .slice none 0 0, .slice none 0 0]), Pd.eq (.int .i64 2), pn 41 #[.bool false, .slice none 0 0, .slice none 0 0] w4.heap.size] (by kernel_rfl) ?ob18 ?done18
            case ob18 =>
              refine And.intro (ob_load rfl (wt_none rfl) (ev_far rfl rfl) (fun w2 hb => run_loadAll Tryz.underlying28 rfl (by kernel_rfl) (Ba.below hb)) (fun _ _ => rfl)) ?_
              refine And.intro (ob_call1 rfl Tryz.func22 (by kernel_rfl) (wt_none rfl) (ev_dep (j := 0) (by kernel_rfl) rfl rfl) (fun w2 u0 hb h0 => by obtain rfl := h0; exact (qof_any _ _ _ (ka.below hb) (la.mono (by decide))).mono fun e w3 h => RetP.pd h)) ?_
              refine And.intro (ob_move rfl (wt_none rfl) (ev_far rfl rfl) (fun _ _ h => h)) ?_
              refine And.intro (ob_call2 rfl Tryz.func33 (by kernel_rfl) (wt_none rfl) (ev_dep (j := 1) (by kernel_rfl) rfl rfl) (ev_dep (j := 2) (by kernel_rfl) rfl rfl) (fun w2 u0 u1 hb h0 h1 => by obtain rfl := h1; exact (rpow_arg _ a _ _ h0 HR.out).mono fun e w3 h => RetQN.pd h)) ?_
              refine And.intro (ob_move rfl (wt_none rfl) (ev_dep (j := 3) (by kernel_rfl) rfl rfl) (fun _ _ h => h)) ?_
              refine And.intro (ob_extract rfl (wt_none rfl) (ev_dep (j := 4) (by kernel_rfl) rfl rfl) (fun w2 u hu => by obtain rfl := hu; exact ⟨_, rfl, rfl⟩)) ?_
              refine And.intro (ob_extract rfl (wt_none rfl) (ev_dep (j := 4) (by kernel_rfl) rfl rfl) (fun w2 u hu => by obtain rfl := hu; exact ⟨_, rfl, rfl⟩)) ?_
              refine And.intro (ob_alloc (z := .agg #[.bool false, .slice none 0 0, .slice none 0 0]) rfl rfl (fun _ => by kernel_rfl) (fun _ _ hB h => ⟨_, rfl, hB, h⟩)) ?_
              trivial
            case done18 =>
              refine fun w5 hb5 v0 h0 v1 h1 v2 h2 v3 h3 v4 h4 v5 h5 v6 h6 v7 h7 d7 b hbf => ?_
              obtain rfl := h0; obtain rfl := h2; obtain rfl := h3; obtain rfl := h4; obtain rfl := h5; obtain rfl := h6
              have q1 := h1
              obtain ⟨g18_7, rfl, hg7, B7⟩ := h7
              simp only [Act.put, List.setIfInBounds_toArray, List.set_cons_zero, List.set_cons_succ] at hbf
              subst hbf
              replace Ba := Ba.below hb5
              replace kas := kas.below hb5
              replace kad := kad.below hb5
              replace kaz := kaz.below hb5
              replace ka := ka.below hb5
              replace BA5 := BA5.below hb5
              replace bb := bb.trans (hb5.mono bb.size)
              have hsz5 := bb.size
              have BA7 := B7
              refine ops_store (i := 8) rfl rfl rfl rfl rfl rfl (cells := [.bool false, .slice none 0 0, .slice none 0 0]) rfl BA7 rfl (by kernel_rfl) (one3 rfl rfl rfl) fun w6 hg6 BN6 => ?_
              replace kas := off kas BA7 no_ints3 hg6
              replace kad := off kad BA7 no_ints3 hg6
              replace kaz : IsZ w6 (.agg #[.bool (ngB (a).num), .slice Aa (digs 4294967296 (a).num.natAbs).length ca]) ((a).num) := ⟨_, rfl, kas⟩
              replace ka : IsQ w6 (.agg #[.bool (ngB (a).num), .slice Aa (digs 4294967296 (a).num.natAbs).length ca, .slice Da (digs 4294967296 (a).den).length ea]) (a) := ⟨_, _, rfl, kas, kad⟩
              replace Ba := Ba.grown hg6 (by omega)
              replace BA5 := BA5.grown hg6 (by omega)
              replace bb := bb.trans ((Below.refl _ _).grown hg6 bb.size (fun g hg => by injection hg with hg; omega))
              have hsz6 := bb.size
              replace BA7 : Blk w6 (g18_7) _ #[.bool false, .slice none 0 0, .slice none 0 0] := BN6
              refine ops_assign (i := 9) (.int .i64 2) rfl rfl rfl rfl rfl fun b hbf => ?_
              simp only [Act.put, List.setIfInBounds_toArray, List.set_cons_zero, List.set_cons_succ] at hbf
              subst hbf
              refine ops_done ?_
              go_upto_region 7 with (fail)
              refine flowp 7 [Pd.eq (.int .i64 2), Pd.eq (.int .i64 2), Pd.eq (.bool true), Pd.eq (.bool true), Pd.eq (.bool true), Pd.eq (.bool true), Pd.eq (.bool true)] (by kernel_rfl) ?ob19 ?done19
              case ob19 =>
                refine And.intro (ob_move rfl (wt_none rfl) (ev_far rfl rfl) (fun _ _ h => h)) ?_
                refine And.intro (ob_move rfl (wt_none rfl) (ev_far rfl rfl) (fun _ _ h => h)) ?_
                refine And.intro (ob_bin rfl (wt_none rfl) (ev_dep (j := 0) (by kernel_rfl) rfl rfl) (ev_dep (j := 1) (by kernel_rfl) rfl rfl) (fun _ _ _ hx hy => ⟨.bool ((2 : Int) == 2), by rw [hx, hy]; exact bin_eql_int _ _ _ _ _, congrArg Value.bool (by decide)⟩)) ?_
                refine And.intro (ob_move rfl (wt_none rfl) (ev_dep (j := 2) (by kernel_rfl) rfl rfl) (fun _ _ h => h)) ?_
                refine And.intro (ob_call0 rfl Tryz.func23 (by kernel_rfl) (wt_dep (c := true) (b := true) (g := 3) rfl (by kernel_rfl) rfl rfl rfl (by exact fun _ _ h => h)) (fun w2 hb => (works10_any _).mono fun e w3 h => RetV.pd h)) ?_
                refine And.intro (ob_pick (b := true) rfl (wt_none rfl) (ev_dep (j := 3) (by kernel_rfl) rfl rfl) (ev_dep (j := 4) (by kernel_rfl) rfl rfl) (fun _ _ h => h)) ?_
                refine And.intro (ob_assign rfl (wt_none rfl) (ev_dep (j := 5) (by kernel_rfl) rfl rfl) (fun _ _ h => h)) ?_
                trivial
              case done19 =>
                refine fun w7 hb7 v0 h0 v1 h1 v2 h2 v3 h3 v4 h4 v5 h5 v6 h6 b hbf => ?_
                obtain rfl := h0; obtain rfl := h1; obtain rfl := h2; obtain rfl := h3; obtain rfl := h4; obtain rfl := h5; obtain rfl := h6
                simp only [Act.put, List.setIfInBounds_toArray, List.set_cons_zero, List.set_cons_succ] at hbf
                subst hbf
                replace Ba := Ba.below hb7
                replace kas := kas.below hb7
                replace kad := kad.below hb7
                replace kaz := kaz.below hb7
                replace ka := ka.below hb7
                replace BA5 := BA5.below hb7
                replace BA7 := BA7.below hb7
                replace bb := bb.trans (hb7.mono bb.size)
                have hsz7 := bb.size
                refine ops_done ?_
                go_wp2
                go_ret
                exact ⟨rfl, bb⟩
      · by_cases hs : 0 ≤ a1
        · obtain ⟨d, hd⟩ : ∃ d : Nat, a1 = (d : Int) := ⟨(a1).toNat, by omega⟩
          have hd12 : d ≤ 12 := by omega
          have HR := Lib.hid hd
          obtain ⟨Q, hQ⟩ : ∃ Q, Q = a ^ d := ⟨_, rfl⟩
          have lQ : lenQ Q 20 := by rw [hQ]; exact (lenQ_pow la d).mono (by omega)
          have HQ := Lib.hid hQ.symm
          clear hQ hd
          go_upto_region 4 with (fail)
          have lt2_2 := Blk.lt Ba
          refine flowp 7 [Pd.eq (.agg #[.bool (ngB (a).num), .slice Aa (digs 4294967296 (a).num.natAbs).length ca, .slice Da (digs 4294967296 (a).den).length ea]), Pd.eq (.int .i64 a1), pqe (Q) 0, pqe (Q) 0, pqn (Q), Pd.eq (.int .i64 0), pn 28 #[.bool false, .slice none 0 0, .slice none 0 0] w2.heap.size] (by kernel_rfl) ?ob20 ?done20
          case ob20 =>
            refine And.intro (ob_load rfl (wt_none rfl) (ev_far rfl rfl) (fun w2 hb => run_loadAll Tryz.underlying28 rfl (by kernel_rfl) (Ba.below hb)) (fun _ _ => rfl)) ?_
            refine And.intro (ob_move rfl (wt_none rfl) (ev_far rfl rfl) (fun _ _ h => h)) ?_
            refine And.intro (ob_call2 rfl Tryz.func32 (by kernel_rfl) (wt_none rfl) (ev_dep (j := 0) (by kernel_rfl) rfl rfl) (ev_dep (j := 1) (by kernel_rfl) rfl rfl) (fun w2 u0 u1 hb h0 h1 => by obtain rfl := h0; obtain rfl := h1; exact (HQ.out ▸ fpow_nat _ a _ d _ (ka.below hb) HR.out (by omega) la).mono fun e w3 h => RetQE.pd h)) ?_
            refine And.intro (ob_move rfl (wt_none rfl) (ev_dep (j := 2) (by kernel_rfl) rfl rfl) (fun _ _ h => h)) ?_
            refine And.intro (ob_extract rfl (wt_none rfl) (ev_dep (j := 3) (by kernel_rfl) rfl rfl) (fun w2 u hu => by obtain ⟨v, rfl, q1⟩ := hu; exact ⟨v, rfl, q1⟩)) ?_
            refine And.intro (ob_extract rfl (wt_none rfl) (ev_dep (j := 3) (by kernel_rfl) rfl rfl) (fun w2 u hu => by obtain ⟨v, rfl, q1⟩ := hu; exact ⟨_, rfl, rfl⟩)) ?_
            refine And.intro (ob_alloc (z := .agg #[.bool false, .slice none 0 0, .slice none 0 0]) rfl rfl (fun _ => by kernel_rfl) (fun _ _ hB h => ⟨_, rfl, hB, h⟩)) ?_
            trivial
          case done20 =>
            refine fun w3 hb3 v0 h0 v1 h1 v2 h2 v3 h3 v4 h4 v5 h5 v6 h6 d6 b hbf => ?_
            obtain rfl := h0; obtain rfl := h1; obtain rfl := h5
            clear h2
            clear h3
            have q4 := h4
            obtain ⟨g20_6, rfl, hg6, B6⟩ := h6
            simp only [Act.put, List.setIfInBounds_toArray, List.set_cons_zero, List.set_cons_succ] at hbf
            subst hbf
            replace Ba := Ba.below hb3
            replace kas := kas.below hb3
            replace kad := kad.below hb3
            replace kaz := kaz.below hb3
            replace ka := ka.below hb3
            replace bb := bb.trans (hb3.mono bb.size)
            have hsz3 := bb.size
            have BA5 := B6
            obtain ⟨u4, t4, rfl, q4, d4⟩ := q4
            obtain ⟨Ax, cx, rfl, _⟩ := id q4
            obtain ⟨Dx, ex, rfl, _⟩ := id d4
            refine ops_store (i := 7) rfl rfl rfl rfl rfl rfl (cells := [.bool (ngB (Q).num), .slice Ax (digs 4294967296 (Q).num.natAbs).length cx, .slice Dx (digs 4294967296 (Q).den).length ex]) rfl BA5 rfl (by kernel_rfl) (one3 rfl rfl rfl) fun w4 hg4 BN4 => ?_
            replace q4 := off q4 BA5 no_ints3 hg4
            replace d4 := off d4 BA5 no_ints3 hg4
            replace kas := off kas BA5 no_ints3 hg4
            replace kad := off kad BA5 no_ints3 hg4
            replace kaz : IsZ w4 (.agg #[.bool (ngB (a).num), .slice Aa (digs 4294967296 (a).num.natAbs).length ca]) ((a).num) := ⟨_, rfl, kas⟩
            replace ka : IsQ w4 (.agg #[.bool (ngB (a).num), .slice Aa (digs 4294967296 (a).num.natAbs).length ca, .slice Da (digs 4294967296 (a).den).length ea]) (a) := ⟨_, _, rfl, kas, kad⟩
            replace Ba := Ba.grown hg4 (by omega)
            replace bb := bb.trans ((Below.refl _ _).grown hg4 bb.size (fun g hg => by injection hg with hg; omega))
            have hsz4 := bb.size
            have Bx : Blk w4 (g20_6) _ _ := BN4
            have kxs := q4
            have kxd := d4
            have kxz : IsZ w4 (.agg #[.bool (ngB (Q).num), .slice Ax (digs 4294967296 (Q).num.natAbs).length cx]) ((Q).num) := ⟨_, rfl, kxs⟩
            have kx : IsQ w4 (.agg #[.bool (ngB (Q).num), .slice Ax (digs 4294967296 (Q).num.natAbs).length cx, .slice Dx (digs 4294967296 (Q).den).length ex]) (Q) := ⟨_, _, rfl, kxs, kxd⟩
            refine ops_assign (i := 8) (.int .i64 0) rfl rfl rfl rfl rfl fun b hbf => ?_
            simp only [Act.put, List.setIfInBounds_toArray, List.set_cons_zero, List.set_cons_succ] at hbf
            subst hbf
            refine ops_done ?_
            go_upto_region 5 with (fail)
            have lt4_2 := Blk.lt Ba
            have lt4_5 := Blk.lt Bx
            refine flowp 8 [Pd.eq (.agg #[.bool (ngB (a).num), .slice Aa (digs 4294967296 (a).num.natAbs).length ca, .slice Da (digs 4294967296 (a).den).length ea]), pp (a), Pd.eq (.int .i64 a1), ppn (Q) 0, ppn (Q) 0, pp (Q), Pd.eq (.int .i64 0), pn 41 #[.bool false, .slice none 0 0, .slice none 0 0] w4.heap.size] (by kernel_rfl) ?ob21 ?done21
            case ob21 =>
              refine And.intro (ob_load rfl (wt_none rfl) (ev_far rfl rfl) (fun w2 hb => run_loadAll Tryz.underlying28 rfl (by kernel_rfl) (Ba.below hb)) (fun _ _ => rfl)) ?_
              refine And.intro (ob_call1 rfl Tryz.func22 (by kernel_rfl) (wt_none rfl) (ev_dep (j := 0) (by kernel_rfl) rfl rfl) (fun w2 u0 hb h0 => by obtain rfl := h0; exact (qof_any _ _ _ (ka.below hb) (la.mono (by decide))).mono fun e w3 h => RetP.pd h)) ?_
              refine And.intro (ob_move rfl (wt_none rfl) (ev_far rfl rfl) (fun _ _ h => h)) ?_
              refine And.intro (ob_call2 rfl Tryz.func33 (by kernel_rfl) (wt_none rfl) (ev_dep (j := 1) (by kernel_rfl) rfl rfl) (ev_dep (j := 2) (by kernel_rfl) rfl rfl) (fun w2 u0 u1 hb h0 h1 => by obtain rfl := h1; exact (HQ.out ▸ rpow_nat _ a _ d 1 _ h0 HR.out (by omega) ⟨la, by omega⟩ (by omega)).mono fun e w3 h => RetPE.pd h)) ?_
              refine And.intro (ob_move rfl (wt_none rfl) (ev_dep (j := 3) (by kernel_rfl) rfl rfl) (fun _ _ h => h)) ?_
              refine And.intro (ob_extract rfl (wt_none rfl) (ev_dep (j := 4) (by kernel_rfl) rfl rfl) (fun w2 u hu => by obtain ⟨v, rfl, q1⟩ := hu; exact ⟨v, rfl, q1⟩)) ?_
              refine And.intro (ob_extract rfl (wt_none rfl) (ev_dep (j := 4) (by kernel_rfl) rfl rfl) (fun w2 u hu => by obtain ⟨v, rfl, q1⟩ := hu; exact ⟨_, rfl, rfl⟩)) ?_
              refine And.intro (ob_alloc (z := .agg #[.bool false, .slice none 0 0, .slice none 0 0]) rfl rfl (fun _ => by kernel_rfl) (fun _ _ hB h => ⟨_, rfl, hB, h⟩)) ?_
              trivial
            case done21 =>
              refine fun w5 hb5 v0 h0 v1 h1 v2 h2 v3 h3 v4 h4 v5 h5 v6 h6 v7 h7 d7 b hbf => ?_
              obtain rfl := h0; obtain rfl := h2; obtain rfl := h6
              have q1 := h1
              clear h3
              clear h4
              have q5 := h5
              obtain ⟨g21_7, rfl, hg7, B7⟩ := h7
              simp only [Act.put, List.setIfInBounds_toArray, List.set_cons_zero, List.set_cons_succ] at hbf
              subst hbf
              replace Ba := Ba.below hb5
              replace kas := kas.below hb5
              replace kad := kad.below hb5
              replace kaz := kaz.below hb5
              replace ka := ka.below hb5
              replace Bx := Bx.below hb5
              replace kxs := kxs.below hb5
              replace kxd := kxd.below hb5
              replace kxz := kxz.below hb5
              replace kx := kx.below hb5
              replace bb := bb.trans (hb5.mono bb.size)
              have hsz5 := bb.size
              have BA7 := B7
              obtain ⟨u5, t5, rfl, q5, d5⟩ := q5
              obtain ⟨Aq, cq, rfl, _⟩ := id q5
              obtain ⟨Dq, eq, rfl, _⟩ := id d5
              refine ops_store (i := 8) rfl rfl rfl rfl rfl rfl (cells := [.bool (ngB (Q).num), .slice Aq (digs 10000 (Q).num.natAbs).length cq, .slice Dq (digs 10000 (Q).den).length eq]) rfl BA7 rfl (by kernel_rfl) (one3 rfl rfl rfl) fun w6 hg6 BN6 => ?_
              replace q5 := off q5 BA7 no_ints3 hg6
              replace d5 := off d5 BA7 no_ints3 hg6
              replace kas := off kas BA7 no_ints3 hg6
              replace kad := off kad BA7 no_ints3 hg6
              replace kaz : IsZ w6 (.agg #[.bool (ngB (a).num), .slice Aa (digs 4294967296 (a).num.natAbs).length ca]) ((a).num) := ⟨_, rfl, kas⟩
              replace ka : IsQ w6 (.agg #[.bool (ngB (a).num), .slice Aa (digs 4294967296 (a).num.natAbs).length ca, .slice Da (digs 4294967296 (a).den).length ea]) (a) := ⟨_, _, rfl, kas, kad⟩
              replace Ba := Ba.grown hg6 (by omega)
              replace kxs := off kxs BA7 no_ints3 hg6
              replace kxd := off kxd BA7 no_ints3 hg6
              replace kxz : IsZ w6 (.agg #[.bool (ngB (Q).num), .slice Ax (digs 4294967296 (Q).num.natAbs).length cx]) ((Q).num) := ⟨_, rfl, kxs⟩
              replace kx : IsQ w6 (.agg #[.bool (ngB (Q).num), .slice Ax (digs 4294967296 (Q).num.natAbs).length cx, .slice Dx (digs 4294967296 (Q).den).length ex]) (Q) := ⟨_, _, rfl, kxs, kxd⟩
              replace Bx := Bx.grown hg6 (by omega)
              replace bb := bb.trans ((Below.refl _ _).grown hg6 bb.size (fun g hg => by injection hg with hg; omega))
              have hsz6 := bb.size
              have Bq : Blk w6 (g21_7) _ _ := BN6
              have kqs := q5
              have kqd := d5
              have kqz : IsR w6 (.agg #[.bool (ngB (Q).num), .slice Aq (digs 10000 (Q).num.natAbs).length cq]) ((Q).num) := ⟨_, rfl, kqs⟩
              have kq : IsP w6 (.agg #[.bool (ngB (Q).num), .slice Aq (digs 10000 (Q).num.natAbs).length cq, .slice Dq (digs 10000 (Q).den).length eq]) (Q) := ⟨_, _, rfl, kqs, kqd⟩
              refine ops_assign (i := 9) (.int .i64 0) rfl rfl rfl rfl rfl fun b hbf => ?_
              simp only [Act.put, List.setIfInBounds_toArray, List.set_cons_zero, List.set_cons_succ] at hbf
              subst hbf
              refine ops_done ?_
              go_upto_region 8 with (fail)
              refine flow 12 [Pd.eq (.int .i64 0), Pd.eq (.bool true), Pd.eq (.bool true), Pd.eq (.agg #[.bool (ngB (Q).num), .slice Ax (digs 4294967296 (Q).num.natAbs).length cx, .slice Dx (digs 4294967296 (Q).den).length ex]), Pd.eq (.agg #[.bool (ngB (Q).num), .slice Aq (digs 10000 (Q).num.natAbs).length cq, .slice Dq (digs 10000 (Q).den).length eq]), pqn (Q), Pd.eq (.bool true), Pd.eq (.bool true), Pd.eq (.bool true), Pd.eq (.bool true), Pd.eq (.bool true), Pd.eq (.bool true)] (by kernel_rfl) (by kernel_rfl) ?ob22 ?done22
              case ob22 =>
                refine And.intro (ob_move rfl (wt_none rfl) (ev_far rfl rfl) (fun _ _ h => h)) ?_
                refine And.intro (ob_bin rfl (wt_none rfl) (ev_dep (j := 0) (by kernel_rfl) rfl rfl) (ev_const _) (fun _ _ _ hx hy => ⟨.bool ((0 : Int) == 0), by rw [hx, hy]; exact bin_eql_int _ _ _ _ _, congrArg Value.bool (by decide)⟩)) ?_
                refine And.intro (ob_move rfl (wt_none rfl) (ev_dep (j := 1) (by kernel_rfl) rfl rfl) (fun _ _ h => h)) ?_
                refine And.intro (ob_load rfl (wt_dep (c := true) (b := true) (g := 2) rfl (by kernel_rfl) rfl rfl rfl (by exact fun _ _ h => h)) (ev_far rfl rfl) (fun w2 hb => run_loadAll Tryz.underlying28 rfl (by kernel_rfl) (Bx.drew.below hb)) (fun _ _ => rfl)) ?_
                refine And.intro (ob_load rfl (wt_dep (c := true) (b := true) (g := 2) rfl (by kernel_rfl) rfl rfl rfl (by exact fun _ _ h => h)) (ev_far rfl rfl) (fun w2 hb => run_loadAll Tryz.underlying41 rfl (by kernel_rfl) (Bq.drew.below hb)) (fun _ _ => rfl)) ?_
                refine And.intro (ob_call1 rfl Tryz.func13 (by kernel_rfl) (wt_dep (c := true) (b := true) (g := 2) rfl (by kernel_rfl) rfl rfl rfl (by exact fun _ _ h => h)) (ev_dep (j := 4) (by kernel_rfl) rfl rfl) (fun w2 u0 hb h0 => by obtain rfl := h0; exact (qback_any _ _ _ (kq.drew.below hb) (lQ.mono (by decide))).mono fun e w3 h => RetQn.pd (RetQ.n h))) ?_
                refine And.intro (ob_call2 rfl Tryz.func11 (by kernel_rfl) (wt_dep (c := true) (b := true) (g := 2) rfl (by kernel_rfl) rfl rfl rfl (by exact fun _ _ h => h)) (ev_dep (j := 3) (by kernel_rfl) rfl rfl) (ev_dep (j := 5) (by kernel_rfl) rfl rfl) (fun w2 u0 u1 hb h0 h1 => by obtain rfl := h0; exact (qsame_eq _ _ (Q) (Q) _ (kx.drew.below hb) h1 rfl).mono fun e w3 h => RetV.pd h)) ?_
                refine And.intro (ob_pick (b := true) rfl (wt_none rfl) (ev_dep (j := 2) (by kernel_rfl) rfl rfl) (ev_dep (j := 6) (by kernel_rfl) rfl rfl) (fun _ _ h => h)) ?_
                refine And.intro (ob_move rfl (wt_none rfl) (ev_dep (j := 7) (by kernel_rfl) rfl rfl) (fun _ _ h => h)) ?_
                refine And.intro (ob_call0 rfl Tryz.func23 (by kernel_rfl) (wt_dep (c := true) (b := true) (g := 8) rfl (by kernel_rfl) rfl rfl rfl (by exact fun _ _ h => h)) (fun w2 hb => (works10_any _).mono fun e w3 h => RetV.pd h)) ?_
                refine And.intro (ob_pick (b := true) rfl (wt_none rfl) (ev_dep (j := 8) (by kernel_rfl) rfl rfl) (ev_dep (j := 9) (by kernel_rfl) rfl rfl) (fun _ _ h => h)) ?_
                refine And.intro (ob_assign rfl (wt_none rfl) (ev_dep (j := 10) (by kernel_rfl) rfl rfl) (fun _ _ h => h)) ?_
                trivial
              case done22 =>
                refine fun w7 hb7 v0 h0 v1 h1 v2 h2 v3 h3 v4 h4 v5 h5 v6 h6 v7 h7 v8 h8 v9 h9 v10 h10 v11 h11 b hbf => ?_
                obtain rfl := h0; obtain rfl := h1; obtain rfl := h2; obtain rfl := h3; obtain rfl := h4; obtain rfl := h6; obtain rfl := h7; obtain rfl := h8; obtain rfl := h9; obtain rfl := h10; obtain rfl := h11
                have q5 := h5
                simp only [Act.put, List.setIfInBounds_toArray, List.set_cons_zero, List.set_cons_succ] at hbf
                subst hbf
                replace Ba := Ba.below hb7
                replace kas := kas.below hb7
                replace kad := kad.below hb7
                replace kaz := kaz.below hb7
                replace ka := ka.below hb7
                replace Bx := Bx.below hb7
                replace kxs := kxs.below hb7
                replace kxd := kxd.below hb7
                replace kxz := kxz.below hb7
                replace kx := kx.below hb7
                replace Bq := Bq.below hb7
                replace kqs := kqs.below hb7
                replace kqd := kqd.below hb7
                replace kqz := kqz.below hb7
                replace kq := kq.below hb7
                replace bb := bb.trans (hb7.mono bb.size)
                have hsz7 := bb.size
                refine any_done (by kernel_rfl) ?_
                go_wp2
                go_ret
                exact ⟨rfl, bb⟩
        · by_cases ha : a = 0
          · have HA := Lib.hid ha
            have HR : Hid (-2000 ≤ a1 ∧ a1 < 0) := ⟨by omega, by omega⟩
            go_upto_region 4 with (fail)
            have lt2_2 := Blk.lt Ba
            refine flowp 7 [Pd.eq (.agg #[.bool (ngB (a).num), .slice Aa (digs 4294967296 (a).num.natAbs).length ca, .slice Da (digs 4294967296 (a).den).length ea]), Pd.eq (.int .i64 a1), Pd.eq (.tuple #[.agg #[.bool false, .slice none 0 0, .slice none 0 0], .int .i64 3]), Pd.eq (.tuple #[.agg #[.bool false, .slice none 0 0, .slice none 0 0], .int .i64 3]), Pd.eq (.agg #[.bool false, .slice none 0 0, .slice none 0 0]), Pd.eq (.int .i64 3), pn 28 #[.bool false, .slice none 0 0, .slice none 0 0] w2.heap.size] (by kernel_rfl) ?ob23 ?done23
            case ob23 =>
              refine And.intro (ob_load rfl (wt_none rfl) (ev_far rfl rfl) (fun w2 hb => run_loadAll Tryz.underlying28 rfl (by kernel_rfl) (Ba.below hb)) (fun _ _ => rfl)) ?_
              refine And.intro (ob_move rfl (wt_none rfl) (ev_far rfl rfl) (fun _ _ h => h)) ?_
              refine And.intro (ob_call2 rfl Tryz.func32 (by kernel_rfl) (wt_none rfl) (ev_dep (j := 0) (by kernel_rfl) rfl rfl) (ev_dep (j := 1) (by kernel_rfl) rfl rfl) (fun w2 u0 u1 hb h0 h1 => by obtain rfl := h0; obtain rfl := h1; exact (fpow_zero _ a _ _ (ka.below hb) HR.out HA.out).mono fun e w3 h => RetQN.pd h)) ?_
              refine And.intro (ob_move rfl (wt_none rfl) (ev_dep (j := 2) (by kernel_rfl) rfl rfl) (fun _ _ h => h)) ?_
              refine And.intro (ob_extract rfl (wt_none rfl) (ev_dep (j := 3) (by kernel_rfl) rfl rfl) (fun w2 u hu => by obtain rfl := hu; exact ⟨_, rfl, rfl⟩)) ?_
              refine And.intro (ob_extract rfl (wt_none rfl) (ev_dep (j := 3) (by kernel_rfl) rfl rfl) (fun w2 u hu => by obtain rfl := hu; exact ⟨_, rfl, rfl⟩)) ?_
              refine And.intro (ob_alloc (z := .agg #[.bool false, .slice none 0 0, .slice none 0 0]) rfl rfl (fun _ => by kernel_rfl) (fun _ _ hB h => ⟨_, rfl, hB, h⟩)) ?_
              trivial
            case done23 =>
              refine fun w3 hb3 v0 h0 v1 h1 v2 h2 v3 h3 v4 h4 v5 h5 v6 h6 d6 b hbf => ?_
              obtain rfl := h0; obtain rfl := h1; obtain rfl := h2; obtain rfl := h3; obtain rfl := h4; obtain rfl := h5
              obtain ⟨g23_6, rfl, hg6, B6⟩ := h6
              simp only [Act.put, List.setIfInBounds_toArray, List.set_cons_zero, List.set_cons_succ] at hbf
              subst hbf
              replace Ba := Ba.below hb3
              replace kas := kas.below hb3
              replace kad := kad.below hb3
              replace kaz := kaz.below hb3
              replace ka := ka.below hb3
              replace bb := bb.trans (hb3.mono bb.size)
              have hsz3 := bb.size
              have BA5 := B6
              refine ops_store (i := 7) rfl rfl rfl rfl rfl rfl (cells := [.bool false, .slice none 0 0, .slice none 0 0]) rfl BA5 rfl (by kernel_rfl) (one3 rfl rfl rfl) fun w4 hg4 BN4 => ?_
              replace kas := off kas BA5 no_ints3 hg4
              replace kad := off kad BA5 no_ints3 hg4
              replace kaz : IsZ w4 (.agg #[.bool (ngB (a).num), .slice Aa (digs 4294967296 (a).num.natAbs).length ca]) ((a).num) := ⟨_, rfl, kas⟩
              replace ka : IsQ w4 (.agg #[.bool (ngB (a).num), .slice Aa (digs 4294967296 (a).num.natAbs).length ca, .slice Da (digs 4294967296 (a).den).length ea]) (a) := ⟨_, _, rfl, kas, kad⟩
              replace Ba := Ba.grown hg4 (by omega)
              replace bb := bb.trans ((Below.refl _ _).grown hg4 bb.size (fun g hg => by injection hg with hg; omega))
              have hsz4 := bb.size
              replace BA5 : Blk w4 (g23_6) _ #[.bool false, .slice none 0 0, .slice none 0 0] := BN4
              refine ops_assign (i := 8) (.int .i64 3) rfl rfl rfl rfl rfl fun b hbf => ?_
              simp only [Act.put, List.setIfInBounds_toArray, List.set_cons_zero, List.set_cons_succ] at hbf
              subst hbf
              refine ops_done ?_
              go_upto_region 5 with (fail)
              have lt4_2 := Blk.lt Ba
              have lt4_5 := Blk.lt BA5
              refine flowp 8 [Pd.eq (.agg #[.bool (ngB (a).num), .slice Aa (digs 4294967296 (a).num.natAbs).length ca, .slice Da (digs 4294967296 (a).den).length ea]), pp (a), Pd.eq (.int .i64 a1), Pd.eq (.tuple #[.agg #[.bool false, .slice none 0 0, .slice none 0 0], .int .i64 3]), Pd.eq (.tuple #[.agg #[.bool false, .slice none 0 0, .slice none 0 0], .int .i64 3]), Pd.eq (.agg #[.bool false, .slice none 0 0, .slice none 0 0]), Pd.eq (.int .i64 3), pn 41 #[.bool false, .slice none 0 0, .slice none 0 0] w4.heap.size] (by kernel_rfl) ?ob24 ?done24
              case ob24 =>
                refine And.intro (ob_load rfl (wt_none rfl) (ev_far rfl rfl) (fun w2 hb => run_loadAll Tryz.underlying28 rfl (by kernel_rfl) (Ba.below hb)) (fun _ _ => rfl)) ?_
                refine And.intro (ob_call1 rfl Tryz.func22 (by kernel_rfl) (wt_none rfl) (ev_dep (j := 0) (by kernel_rfl) rfl rfl) (fun w2 u0 hb h0 => by obtain rfl := h0; exact (qof_any _ _ _ (ka.below hb) (la.mono (by decide))).mono fun e w3 h => RetP.pd h)) ?_
                refine And.intro (ob_move rfl (wt_none rfl) (ev_far rfl rfl) (fun _ _ h => h)) ?_
                refine And.intro (ob_call2 rfl Tryz.func33 (by kernel_rfl) (wt_none rfl) (ev_dep (j := 1) (by kernel_rfl) rfl rfl) (ev_dep (j := 2) (by kernel_rfl) rfl rfl) (fun w2 u0 u1 hb h0 h1 => by obtain rfl := h1; exact (rpow_zero _ a _ _ h0 HR.out HA.out).mono fun e w3 h => RetQN.pd h)) ?_
                refine And.intro (ob_move rfl (wt_none rfl) (ev_dep (j := 3) (by kernel_rfl) rfl rfl) (fun _ _ h => h)) ?_
                refine And.intro (ob_extract rfl (wt_none rfl) (ev_dep (j := 4) (by kernel_rfl) rfl rfl) (fun w2 u hu => by obtain rfl := hu; exact ⟨_, rfl, rfl⟩)) ?_
                refine And.intro (ob_extract rfl (wt_none rfl) (ev_dep (j := 4) (by kernel_rfl) rfl rfl) (fun w2 u hu => by obtain rfl := hu; exact ⟨_, rfl, rfl⟩)) ?_
                refine And.intro (ob_alloc (z := .agg #[.bool false, .slice none 0 0, .slice none 0 0]) rfl rfl (fun _ => by kernel_rfl) (fun _ _ hB h => ⟨_, rfl, hB, h⟩)) ?_
                trivial
              case done24 =>
                refine fun w5 hb5 v0 h0 v1 h1 v2 h2 v3 h3 v4 h4 v5 h5 v6 h6 v7 h7 d7 b hbf => ?_
                obtain rfl := h0; obtain rfl := h2; obtain rfl := h3; obtain rfl := h4; obtain rfl := h5; obtain rfl := h6
                have q1 := h1
                obtain ⟨g24_7, rfl, hg7, B7⟩ := h7
                simp only [Act.put, List.setIfInBounds_toArray, List.set_cons_zero, List.set_cons_succ] at hbf
                subst hbf
                replace Ba := Ba.below hb5
                replace kas := kas.below hb5
                replace kad := kad.below hb5
                replace kaz := kaz.below hb5
                replace ka := ka.below hb5
                replace BA5 := BA5.below hb5
                replace bb := bb.trans (hb5.mono bb.size)
                have hsz5 := bb.size
                have BA7 := B7
                refine ops_store (i := 8) rfl rfl rfl rfl rfl rfl (cells := [.bool false, .slice none 0 0, .slice none 0 0]) rfl BA7 rfl (by kernel_rfl) (one3 rfl rfl rfl) fun w6 hg6 BN6 => ?_
                replace kas := off kas BA7 no_ints3 hg6
                replace kad := off kad BA7 no_ints3 hg6
                replace kaz : IsZ w6 (.agg #[.bool (ngB (a).num), .slice Aa (digs 4294967296 (a).num.natAbs).length ca]) ((a).num) := ⟨_, rfl, kas⟩
                replace ka : IsQ w6 (.agg #[.bool (ngB (a).num), .slice Aa (digs 4294967296 (a).num.natAbs).length ca, .slice Da (digs 4294967296 (a).den).length ea]) (a) := ⟨_, _, rfl, kas, kad⟩
                replace Ba := Ba.grown hg6 (by omega)
                replace BA5 := BA5.grown hg6 (by omega)
                replace bb := bb.trans ((Below.refl _ _).grown hg6 bb.size (fun g hg => by injection hg with hg; omega))
                have hsz6 := bb.size
                replace BA7 : Blk w6 (g24_7) _ #[.bool false, .slice none 0 0, .slice none 0 0] := BN6
                refine ops_assign (i := 9) (.int .i64 3) rfl rfl rfl rfl rfl fun b hbf => ?_
                simp only [Act.put, List.setIfInBounds_toArray, List.set_cons_zero, List.set_cons_succ] at hbf
                subst hbf
                refine ops_done ?_
                go_upto_region 7 with (fail)
                refine flowp 7 [Pd.eq (.int .i64 3), Pd.eq (.int .i64 3), Pd.eq (.bool true), Pd.eq (.bool true), Pd.eq (.bool true), Pd.eq (.bool true), Pd.eq (.bool true)] (by kernel_rfl) ?ob25 ?done25
                case ob25 =>
                  refine And.intro (ob_move rfl (wt_none rfl) (ev_far rfl rfl) (fun _ _ h => h)) ?_
                  refine And.intro (ob_move rfl (wt_none rfl) (ev_far rfl rfl) (fun _ _ h => h)) ?_
                  refine And.intro (ob_bin rfl (wt_none rfl) (ev_dep (j := 0) (by kernel_rfl) rfl rfl) (ev_dep (j := 1) (by kernel_rfl) rfl rfl) (fun _ _ _ hx hy => ⟨.bool ((3 : Int) == 3), by rw [hx, hy]; exact bin_eql_int _ _ _ _ _, congrArg Value.bool (by decide)⟩)) ?_
                  refine And.intro (ob_move rfl (wt_none rfl) (ev_dep (j := 2) (by kernel_rfl) rfl rfl) (fun _ _ h => h)) ?_
                  refine And.intro (ob_call0 rfl Tryz.func23 (by kernel_rfl) (wt_dep (c := true) (b := true) (g := 3) rfl (by kernel_rfl) rfl rfl rfl (by exact fun _ _ h => h)) (fun w2 hb => (works10_any _).mono fun e w3 h => RetV.pd h)) ?_
                  refine And.intro (ob_pick (b := true) rfl (wt_none rfl) (ev_dep (j := 3) (by kernel_rfl) rfl rfl) (ev_dep (j := 4) (by kernel_rfl) rfl rfl) (fun _ _ h => h)) ?_
                  refine And.intro (ob_assign rfl (wt_none rfl) (ev_dep (j := 5) (by kernel_rfl) rfl rfl) (fun _ _ h => h)) ?_
                  trivial
                case done25 =>
                  refine fun w7 hb7 v0 h0 v1 h1 v2 h2 v3 h3 v4 h4 v5 h5 v6 h6 b hbf => ?_
                  obtain rfl := h0; obtain rfl := h1; obtain rfl := h2; obtain rfl := h3; obtain rfl := h4; obtain rfl := h5; obtain rfl := h6
                  simp only [Act.put, List.setIfInBounds_toArray, List.set_cons_zero, List.set_cons_succ] at hbf
                  subst hbf
                  replace Ba := Ba.below hb7
                  replace kas := kas.below hb7
                  replace kad := kad.below hb7
                  replace kaz := kaz.below hb7
                  replace ka := ka.below hb7
                  replace BA5 := BA5.below hb7
                  replace BA7 := BA7.below hb7
                  replace bb := bb.trans (hb7.mono bb.size)
                  have hsz7 := bb.size
                  refine ops_done ?_
                  go_wp2
                  go_ret
                  exact ⟨rfl, bb⟩
          · have HA := Lib.hid ha
            have HR : Hid (-12 ≤ a1 ∧ a1 < 0) := ⟨by omega, by omega⟩
            have HR2 : Hid (-2000 ≤ a1 ∧ a1 < 0) := ⟨by omega, by omega⟩
            obtain ⟨Q, hQ⟩ : ∃ Q, Q = a⁻¹ ^ (a1).natAbs := ⟨_, rfl⟩
            have lQ : lenQ Q 20 := by rw [hQ]; exact (lenQ_pow (lenQ_inv ha la) _).mono (by omega)
            have HQ := Lib.hid hQ.symm
            clear hQ
            go_upto_region 4 with (fail)
            have lt2_2 := Blk.lt Ba
            refine flowp 7 [Pd.eq (.agg #[.bool (ngB (a).num), .slice Aa (digs 4294967296 (a).num.natAbs).length ca, .slice Da (digs 4294967296 (a).den).length ea]), Pd.eq (.int .i64 a1), pqe (Q) 0, pqe (Q) 0, pqn (Q), Pd.eq (.int .i64 0), pn 28 #[.bool false, .slice none 0 0, .slice none 0 0] w2.heap.size] (by kernel_rfl) ?ob26 ?done26
            case ob26 =>
              refine And.intro (ob_load rfl (wt_none rfl) (ev_far rfl rfl) (fun w2 hb => run_loadAll Tryz.underlying28 rfl (by kernel_rfl) (Ba.below hb)) (fun _ _ => rfl)) ?_
              refine And.intro (ob_move rfl (wt_none rfl) (ev_far rfl rfl) (fun _ _ h => h)) ?_
              refine And.intro (ob_call2 rfl Tryz.func32 (by kernel_rfl) (wt_none rfl) (ev_dep (j := 0) (by kernel_rfl) rfl rfl) (ev_dep (j := 1) (by kernel_rfl) rfl rfl) (fun w2 u0 u1 hb h0 h1 => by obtain rfl := h0; obtain rfl := h1; exact (HQ.out ▸ fpow_neg _ a _ _ (ka.below hb) HR2.out HA.out la).mono fun e w3 h => RetQE.pd h)) ?_
              refine And.intro (ob_move rfl (wt_none rfl) (ev_dep (j := 2) (by kernel_rfl) rfl rfl) (fun _ _ h => h)) ?_
              refine And.intro (ob_extract rfl (wt_none rfl) (ev_dep (j := 3) (by kernel_rfl) rfl rfl) (fun w2 u hu => by obtain ⟨v, rfl, q1⟩ := hu; exact ⟨v, rfl, q1⟩)) ?_
              refine And.intro (ob_extract rfl (wt_none rfl) (ev_dep (j := 3) (by kernel_rfl) rfl rfl) (fun w2 u hu => by obtain ⟨v, rfl, q1⟩ := hu; exact ⟨_, rfl, rfl⟩)) ?_
              refine And.intro (ob_alloc (z := .agg #[.bool false, .slice none 0 0, .slice none 0 0]) rfl rfl (fun _ => by kernel_rfl) (fun _ _ hB h => ⟨_, rfl, hB, h⟩)) ?_
              trivial
            case done26 =>
              refine fun w3 hb3 v0 h0 v1 h1 v2 h2 v3 h3 v4 h4 v5 h5 v6 h6 d6 b hbf => ?_
              obtain rfl := h0; obtain rfl := h1; obtain rfl := h5
              clear h2
              clear h3
              have q4 := h4
              obtain ⟨g26_6, rfl, hg6, B6⟩ := h6
              simp only [Act.put, List.setIfInBounds_toArray, List.set_cons_zero, List.set_cons_succ] at hbf
              subst hbf
              replace Ba := Ba.below hb3
              replace kas := kas.below hb3
              replace kad := kad.below hb3
              replace kaz := kaz.below hb3
              replace ka := ka.below hb3
              replace bb := bb.trans (hb3.mono bb.size)
              have hsz3 := bb.size
              have BA5 := B6
              obtain ⟨u4, t4, rfl, q4, d4⟩ := q4
              obtain ⟨Ax, cx, rfl, _⟩ := id q4
              obtain ⟨Dx, ex, rfl, _⟩ := id d4
              refine ops_store (i := 7) rfl rfl rfl rfl rfl rfl (cells := [.bool (ngB (Q).num), .slice Ax (digs 4294967296 (Q).num.natAbs).length cx, .slice Dx (digs 4294967296 (Q).den).length ex]) rfl BA5 rfl (by kernel_rfl) (one3 rfl rfl rfl) fun w4 hg4 BN4 => ?_
              replace q4 := off q4 BA5 no_ints3 hg4
              replace d4 := off d4 BA5 no_ints3 hg4
              replace kas := off kas BA5 no_ints3 hg4
              replace kad := off kad BA5 no_ints3 hg4
              replace kaz : IsZ w4 (.agg #[.bool (ngB (a).num), .slice Aa (digs 4294967296 (a).num.natAbs).length ca]) ((a).num) := ⟨_, rfl, kas⟩
              replace ka : IsQ w4 (.agg #[.bool (ngB (a).num), .slice Aa (digs 4294967296 (a).num.natAbs).length ca, .slice Da (digs 4294967296 (a).den).length ea]) (a) := ⟨_, _, rfl, kas, kad⟩
              replace Ba := Ba.grown hg4 (by omega)
              replace bb := bb.trans ((Below.refl _ _).grown hg4 bb.size (fun g hg => by injection hg with hg; omega))
              have hsz4 := bb.size
              have Bx : Blk w4 (g26_6) _ _ := BN4
              have kxs := q4
              have kxd := d4
              have kxz : IsZ w4 (.agg #[.bool (ngB (Q).num), .slice Ax (digs 4294967296 (Q).num.natAbs).length cx]) ((Q).num) := ⟨_, rfl, kxs⟩
              have kx : IsQ w4 (.agg #[.bool (ngB (Q).num), .slice Ax (digs 4294967296 (Q).num.natAbs).length cx, .slice Dx (digs 4294967296 (Q).den).length ex]) (Q) := ⟨_, _, rfl, kxs, kxd⟩
              refine ops_assign (i := 8) (.int .i64 0) rfl rfl rfl rfl rfl fun b hbf => ?_
              simp only [Act.put, List.setIfInBounds_toArray, List.set_cons_zero, List.set_cons_succ] at hbf
              subst hbf
              refine ops_done ?_
              go_upto_region 5 with (fail)
              have lt4_2 := Blk.lt Ba
              have lt4_5 := Blk.lt Bx
              refine flowp 8 [Pd.eq (.agg #[.bool (ngB (a).num), .slice Aa (digs 4294967296 (a).num.natAbs).length ca, .slice Da (digs 4294967296 (a).den).length ea]), pp (a), Pd.eq (.int .i64 a1), ppn (Q) 0, ppn (Q) 0, pp (Q), Pd.eq (.int .i64 0), pn 41 #[.bool false, .slice none 0 0, .slice none 0 0] w4.heap.size] (by kernel_rfl) ?ob27 ?done27
              case ob27 =>
                refine And.intro (ob_load rfl (wt_none rfl) (ev_far rfl rfl) (fun w2 hb => run_loadAll Tryz.underlying28 rfl (by kernel_rfl) (Ba.below hb)) (fun _ _ => rfl)) ?_
                refine And.intro (ob_call1 rfl Tryz.func22 (by kernel_rfl) (wt_none rfl) (ev_dep (j := 0) (by kernel_rfl) rfl rfl) (fun w2 u0 hb h0 => by obtain rfl := h0; exact (qof_any _ _ _ (ka.below hb) (la.mono (by decide))).mono fun e w3 h => RetP.pd h)) ?_
                refine And.intro (ob_move rfl (wt_none rfl) (ev_far rfl rfl) (fun _ _ h => h)) ?_
                refine And.intro (ob_call2 rfl Tryz.func33 (by kernel_rfl) (wt_none rfl) (ev_dep (j := 1) (by kernel_rfl) rfl rfl) (ev_dep (j := 2) (by kernel_rfl) rfl rfl) (fun w2 u0 u1 hb h0 h1 => by obtain rfl := h1; exact (HQ.out ▸ rpow_neg _ a _ 1 _ h0 HR2.out HA.out ⟨la, by have := HR.out; omega⟩ (by omega)).mono fun e w3 h => RetPE.pd h)) ?_
                refine And.intro (ob_move rfl (wt_none rfl) (ev_dep (j := 3) (by kernel_rfl) rfl rfl) (fun _ _ h => h)) ?_
                refine And.intro (ob_extract rfl (wt_none rfl) (ev_dep (j := 4) (by kernel_rfl) rfl rfl) (fun w2 u hu => by obtain ⟨v, rfl, q1⟩ := hu; exact ⟨v, rfl, q1⟩)) ?_
                refine And.intro (ob_extract rfl (wt_none rfl) (ev_dep (j := 4) (by kernel_rfl) rfl rfl) (fun w2 u hu => by obtain ⟨v, rfl, q1⟩ := hu; exact ⟨_, rfl, rfl⟩)) ?_
                refine And.intro (ob_alloc (z := .agg #[.bool false, .slice none 0 0, .slice none 0 0]) rfl rfl (fun _ => by kernel_rfl) (fun _ _ hB h => ⟨_, rfl, hB, h⟩)) ?_
                trivial
              case done27 =>
                refine fun w5 hb5 v0 h0 v1 h1 v2 h2 v3 h3 v4 h4 v5 h5 v6 h6 v7 h7 d7 b hbf => ?_
                obtain rfl := h0; obtain rfl := h2; obtain rfl := h6
                have q1 := h1
                clear h3
                clear h4
                have q5 := h5
                obtain ⟨g27_7, rfl, hg7, B7⟩ := h7
                simp only [Act.put, List.setIfInBounds_toArray, List.set_cons_zero, List.set_cons_succ] at hbf
                subst hbf
                replace Ba := Ba.below hb5
                replace kas := kas.below hb5
                replace kad := kad.below hb5
                replace kaz := kaz.below hb5
                replace ka := ka.below hb5
                replace Bx := Bx.below hb5
                replace kxs := kxs.below hb5
                replace kxd := kxd.below hb5
                replace kxz := kxz.below hb5
                replace kx := kx.below hb5
                replace bb := bb.trans (hb5.mono bb.size)
                have hsz5 := bb.size
                have BA7 := B7
                obtain ⟨u5, t5, rfl, q5, d5⟩ := q5
                obtain ⟨Aq, cq, rfl, _⟩ := id q5
                obtain ⟨Dq, eq, rfl, _⟩ := id d5
                refine ops_store (i := 8) rfl rfl rfl rfl rfl rfl (cells := [.bool (ngB (Q).num), .slice Aq (digs 10000 (Q).num.natAbs).length cq, .slice Dq (digs 10000 (Q).den).length eq]) rfl BA7 rfl (by kernel_rfl) (one3 rfl rfl rfl) fun w6 hg6 BN6 => ?_
                replace q5 := off q5 BA7 no_ints3 hg6
                replace d5 := off d5 BA7 no_ints3 hg6
                replace kas := off kas BA7 no_ints3 hg6
                replace kad := off kad BA7 no_ints3 hg6
                replace kaz : IsZ w6 (.agg #[.bool (ngB (a).num), .slice Aa (digs 4294967296 (a).num.natAbs).length ca]) ((a).num) := ⟨_, rfl, kas⟩
                replace ka : IsQ w6 (.agg #[.bool (ngB (a).num), .slice Aa (digs 4294967296 (a).num.natAbs).length ca, .slice Da (digs 4294967296 (a).den).length ea]) (a) := ⟨_, _, rfl, kas, kad⟩
                replace Ba := Ba.grown hg6 (by omega)
                replace kxs := off kxs BA7 no_ints3 hg6
                replace kxd := off kxd BA7 no_ints3 hg6
                replace kxz : IsZ w6 (.agg #[.bool (ngB (Q).num), .slice Ax (digs 4294967296 (Q).num.natAbs).length cx]) ((Q).num) := ⟨_, rfl, kxs⟩
                replace kx : IsQ w6 (.agg #[.bool (ngB (Q).num), .slice Ax (digs 4294967296 (Q).num.natAbs).length cx, .slice Dx (digs 4294967296 (Q).den).length ex]) (Q) := ⟨_, _, rfl, kxs, kxd⟩
                replace Bx := Bx.grown hg6 (by omega)
                replace bb := bb.trans ((Below.refl _ _).grown hg6 bb.size (fun g hg => by injection hg with hg; omega))
                have hsz6 := bb.size
                have Bq : Blk w6 (g27_7) _ _ := BN6
                have kqs := q5
                have kqd := d5
                have kqz : IsR w6 (.agg #[.bool (ngB (Q).num), .slice Aq (digs 10000 (Q).num.natAbs).length cq]) ((Q).num) := ⟨_, rfl, kqs⟩
                have kq : IsP w6 (.agg #[.bool (ngB (Q).num), .slice Aq (digs 10000 (Q).num.natAbs).length cq, .slice Dq (digs 10000 (Q).den).length eq]) (Q) := ⟨_, _, rfl, kqs, kqd⟩
                refine ops_assign (i := 9) (.int .i64 0) rfl rfl rfl rfl rfl fun b hbf => ?_
                simp only [Act.put, List.setIfInBounds_toArray, List.set_cons_zero, List.set_cons_succ] at hbf
                subst hbf
                refine ops_done ?_
                go_upto_region 8 with (fail)
                refine flow 12 [Pd.eq (.int .i64 0), Pd.eq (.bool true), Pd.eq (.bool true), Pd.eq (.agg #[.bool (ngB (Q).num), .slice Ax (digs 4294967296 (Q).num.natAbs).length cx, .slice Dx (digs 4294967296 (Q).den).length ex]), Pd.eq (.agg #[.bool (ngB (Q).num), .slice Aq (digs 10000 (Q).num.natAbs).length cq, .slice Dq (digs 10000 (Q).den).length eq]), pqn (Q), Pd.eq (.bool true), Pd.eq (.bool true), Pd.eq (.bool true), Pd.eq (.bool true), Pd.eq (.bool true), Pd.eq (.bool true)] (by kernel_rfl) (by kernel_rfl) ?ob28 ?done28
                case ob28 =>
                  refine And.intro (ob_move rfl (wt_none rfl) (ev_far rfl rfl) (fun _ _ h => h)) ?_
                  refine And.intro (ob_bin rfl (wt_none rfl) (ev_dep (j := 0) (by kernel_rfl) rfl rfl) (ev_const _) (fun _ _ _ hx hy => ⟨.bool ((0 : Int) == 0), by rw [hx, hy]; exact bin_eql_int _ _ _ _ _, congrArg Value.bool (by decide)⟩)) ?_
                  refine And.intro (ob_move rfl (wt_none rfl) (ev_dep (j := 1) (by kernel_rfl) rfl rfl) (fun _ _ h => h)) ?_
                  refine And.intro (ob_load rfl (wt_dep (c := true) (b := true) (g := 2) rfl (by kernel_rfl) rfl rfl rfl (by exact fun _ _ h => h)) (ev_far rfl rfl) (fun w2 hb => run_loadAll Tryz.underlying28 rfl (by kernel_rfl) (Bx.drew.below hb)) (fun _ _ => rfl)) ?_
                  refine And.intro (ob_load rfl (wt_dep (c := true) (b := true) (g := 2) rfl (by kernel_rfl) rfl rfl rfl (by exact fun _ _ h => h)) (ev_far rfl rfl) (fun w2 hb => run_loadAll Tryz.underlying41 rfl (by kernel_rfl) (Bq.drew.below hb)) (fun _ _ => rfl)) ?_
                  refine And.intro (ob_call1 rfl Tryz.func13 (by kernel_rfl) (wt_dep (c := true) (b := true) (g := 2) rfl (by kernel_rfl) rfl rfl rfl (by exact fun _ _ h => h)) (ev_dep (j := 4) (by kernel_rfl) rfl rfl) (fun w2 u0 hb h0 => by obtain rfl := h0; exact (qback_any _ _ _ (kq.drew.below hb) (lQ.mono (by decide))).mono fun e w3 h => RetQn.pd (RetQ.n h))) ?_
                  refine And.intro (ob_call2 rfl Tryz.func11 (by kernel_rfl) (wt_dep (c := true) (b := true) (g := 2) rfl (by kernel_rfl) rfl rfl rfl (by exact fun _ _ h => h)) (ev_dep (j := 3) (by kernel_rfl) rfl rfl) (ev_dep (j := 5) (by kernel_rfl) rfl rfl) (fun w2 u0 u1 hb h0 h1 => by obtain rfl := h0; exact (qsame_eq _ _ (Q) (Q) _ (kx.drew.below hb) h1 rfl).mono fun e w3 h => RetV.pd h)) ?_
                  refine And.intro (ob_pick (b := true) rfl (wt_none rfl) (ev_dep (j := 2) (by kernel_rfl) rfl rfl) (ev_dep (j := 6) (by kernel_rfl) rfl rfl) (fun _ _ h => h)) ?_
                  refine And.intro (ob_move rfl (wt_none rfl) (ev_dep (j := 7) (by kernel_rfl) rfl rfl) (fun _ _ h => h)) ?_
                  refine And.intro (ob_call0 rfl Tryz.func23 (by kernel_rfl) (wt_dep (c := true) (b := true) (g := 8) rfl (by kernel_rfl) rfl rfl rfl (by exact fun _ _ h => h)) (fun w2 hb => (works10_any _).mono fun e w3 h => RetV.pd h)) ?_
                  refine And.intro (ob_pick (b := true) rfl (wt_none rfl) (ev_dep (j := 8) (by kernel_rfl) rfl rfl) (ev_dep (j := 9) (by kernel_rfl) rfl rfl) (fun _ _ h => h)) ?_
                  refine And.intro (ob_assign rfl (wt_none rfl) (ev_dep (j := 10) (by kernel_rfl) rfl rfl) (fun _ _ h => h)) ?_
                  trivial
                case done28 =>
                  refine fun w7 hb7 v0 h0 v1 h1 v2 h2 v3 h3 v4 h4 v5 h5 v6 h6 v7 h7 v8 h8 v9 h9 v10 h10 v11 h11 b hbf => ?_
                  obtain rfl := h0; obtain rfl := h1; obtain rfl := h2; obtain rfl := h3; obtain rfl := h4; obtain rfl := h6; obtain rfl := h7; obtain rfl := h8; obtain rfl := h9; obtain rfl := h10; obtain rfl := h11
                  have q5 := h5
                  simp only [Act.put, List.setIfInBounds_toArray, List.set_cons_zero, List.set_cons_succ] at hbf
                  subst hbf
                  replace Ba := Ba.below hb7
                  replace kas := kas.below hb7
                  replace kad := kad.below hb7
                  replace kaz := kaz.below hb7
                  replace ka := ka.below hb7
                  replace Bx := Bx.below hb7
                  replace kxs := kxs.below hb7
                  replace kxd := kxd.below hb7
                  replace kxz := kxz.below hb7
                  replace kx := kx.below hb7
                  replace Bq := Bq.below hb7
                  replace kqs := kqs.below hb7
                  replace kqd := kqd.below hb7
                  replace kqz := kqz.below hb7
                  replace kq := kq.below hb7
                  replace bb := bb.trans (hb7.mono bb.size)
                  have hsz7 := bb.size
                  refine any_done (by kernel_rfl) ?_
                  go_wp2
                  go_ret
                  exact ⟨rfl, bb⟩
set_option maxRecDepth 100000 in
theorem lifted (os : Os) (started : os.Started) (H : Type) (enc : TypeId × Value → H) :
    ReturnsInHanded {} Tryz.checked os 6 .any (Rows.foldPowersSpec.pre6 enc Tryz.prog Tryz.f6 Rows.foldPowersRow.domain false) (Rows.foldPowersSpec.post enc Tryz.prog Tryz.f6 false true false false) := by
  refine returnsInHanded_of_change (C := Tryz.checked) own started (by kernel_rfl) Tryz.func6
    (ChangeSpec.witness6 (enc := enc) (C := Tryz.checked) false ⟨#[], #[.agg #[.bool false, .slice none 0 0, .slice none 0 0], .int .i64 0], []⟩ 8 (by kernel_rfl) (by kernel_rfl) (by kernel_rfl) (by kernel_rfl)) ?_
  intro W base args ds gs before hval0 hW hcnd _
  have hval : ∀ (j : Nat) t v, Tryz.f6.params[j]? = some t → args[j]? = some v → Value.okWide Tryz.prog W .any base t v := hval0
  have hW' := hW
  obtain ⟨p, q, hA0, hV, rfl, hfz, hnd⟩ := hW
  have hA : DataW.TrodAll enc Tryz.prog W 0 (fun _ => true) true Tryz.f6.params.toList args.toList ds p := hA0
  rw [Tryz.params6] at hA hval
  obtain ⟨v0, vs0, d0, ds0, p0, q0, hargs, rfl, rfl, t0, r0⟩ := trodAll_cons hA
  obtain ⟨v1, vs1, d1, ds1, p1, q1, rfl, rfl, rfl, t1, r1⟩ := trodAll_cons r0
  obtain ⟨rfl, rfl, rfl⟩ := trodAll_nil r1
  obtain rfl : args = #[v0, v1] := by cases args; simp_all
  obtain ⟨rfl, rfl⟩ := trodVars_none hV
  obtain ⟨b0, x0, r0_, l0, m0, rfl, hs0, hu0, hj0, hx0⟩ := arg_q Tryz.underlying28 (by kernel_rfl) (by kernel_rfl) Tryz.underlying26 (by kernel_rfl) Tryz.underlying4 Tryz.underlying24 Tryz.underlying24 Tryz.underlying71 cells_u (hval 0 28 v0 rfl rfl) t0
  obtain ⟨a1, rfl, hd1, hp1, wf1⟩ := open_int Tryz.underlying3 (hval 1 3 v1 rfl rfl) t1
  clear hA0 hval0
  simp only [List.append_nil] at hW'
  have hlt0 : ∀ x ∈ p0, x.block < W.heap.size := fun x hx => hW'.lt x (List.mem_append_left _ hx)
  have hlt1 : ∀ x ∈ p1, x.block < W.heap.size := fun x hx => hW'.lt x (List.mem_append_right _ (hx))
  refine (walk b0 x0 r0_ l0 m0 a1 W hs0 hu0 hj0 hx0 wf1).mono fun e W' ⟨he, hb⟩ => ?_
  subst he
  have s0 := Below.trod laidOut (by kernel_rfl) (of_decide_eq_true (by kernel_rfl)) t0 hb hlt0
  have s1 := Below.trod laidOut (by kernel_rfl) (of_decide_eq_true (by kernel_rfl)) t1 hb hlt1
  exact ⟨_, rfl, _, _, _, [] ++ [], _, [], hW', trodAll_cons_mk (shut_bool Tryz.underlying4 _) trodAll_mk0, trodAll_cons_mk s0 (trodAll_cons_mk s1 (trodAll_mk0)), rfl, hb.frame _, fun h => by cases h⟩
theorem over : Rows.foldPowersRow.holds Tryz.pinned (OpenSpec.ofChange Rows.foldPowersSpec) :=
  OpenClaim.holds_of_wide 6 Tryz.f6 rfl rfl rfl rfl rfl rfl rfl ⟨rfl, rfl, rfl, rfl, rfl⟩ rfl rfl rfl rfl rfl (by kernel_rfl) Tryz.func6 (by kernel_rfl)
    (of_decide_eq_true (by kernel_rfl)) (by unfold Func.isWrapper; first | (rw [if_pos (by decide +kernel)]; kernel_rfl) | (rw [if_neg (by decide +kernel)]; exact ⟨rfl, rfl⟩))
    (fun os started H enc _ => lifted os started H enc)
/-- The statement. -/
theorem proved : Rows.FoldPowersSaid := over
end Go.Proofs.YtlnmoledijlemaaGreat.foldPowers
