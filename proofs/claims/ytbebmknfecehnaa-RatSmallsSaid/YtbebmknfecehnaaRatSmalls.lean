/- RatSmalls: fractions of any small numbers are as the document says, or refused. Condition: the arguments can be read as data. -/
import Derived.Test.YtbebmknfecehnaaRatW
import Derived.Test.YtbebmknfecehnaaRatE
import Derived.Deep.Cut
import Derived.OpenShut
import Derived.LaidMore
import Derived.Lay
import Derived.Stop.Joined
namespace Go.Proofs.Ytbebmknfecehnaa.ratSmalls
open Go.ChangeShapes Go.WideShapes Go.ChangeAt Go.RowKit Go.Proofs.Ytbebmknfecehnaa.num Go.Proofs.Ytbebmknfecehnaa.mem Go.Proofs.Ytbebmknfecehnaa.nat Go.Proofs.Ytbebmknfecehnaa.txt Go.Proofs.Ytbebmknfecehnaa.str Go.Proofs.Ytbebmknfecehnaa.flow Go.Proofs.Ytbebmknfecehnaa.whl Go.Proofs.Ytbebmknfecehnaa.rat
set_option linter.unusedVariables false

theorem own : ownKnob Try.prog.godebug = none := by kernel_rfl
theorem laidOut : laidOutB Try.prog = true := by kernel_rfl
theorem cells_u : Try.prog.cellsOf 69 = 1 := by kernel_rfl


set_option maxHeartbeats 6400000 in
set_option maxRecDepth 100000 in
/-- The walk: the Go text returns true; what was there is as it was. -/
theorem walk (a0 : Int) (a1 : Int) (w : World) (wf0 : (Lit.int .i64 a0).wf = true) (wf1 : (Lit.int .i64 a1).wf = true) :
    Calls Try.prog 4 #[.int .i64 a0, .int .i64 a1] w (RetV (.bool true) w) := by
  have bn := bounds_i64 wf0
  have bd := bounds_i64 wf1
  clear wf0 wf1
  have bb : Below w.heap.size w w := Below.refl _ _
  have hsz0 := bb.size
  go_enter Try.func4, Try.ntmps4
  obtain ⟨Q, hQ⟩ : ∃ Q, Q = Rat.divInt a0 a1 := ⟨_, rfl⟩
  have HQ0 : Hid (Rat.divInt a0 a1 = Q) := hQ.symm
  clear hQ
  by_cases hin : (-1152921504606846976 ≤ a0 ∧ a0 ≤ 1152921504606846976) ∧ (-1152921504606846976 ≤ a1 ∧ a1 ≤ 1152921504606846976)
  · obtain ⟨⟨n1, n2⟩, d1, d2⟩ := hin
    go_upto_region 5 with (fail)
    by_cases hd0 : a1 = 0
    · refine flowp 7 [Pd.eq (.int .i64 a0), Pd.eq (.int .i64 a1), Pd.eq (.tuple #[.agg #[.bool false, .slice none 0 0, .slice none 0 0], .int .i64 3]), Pd.eq (.tuple #[.agg #[.bool false, .slice none 0 0, .slice none 0 0], .int .i64 3]), Pd.eq (.agg #[.bool false, .slice none 0 0, .slice none 0 0]), Pd.eq (.int .i64 3), pn 27 #[.bool false, .slice none 0 0, .slice none 0 0] w.heap.size] (by kernel_rfl) ?ob17 ?done17
      case ob17 =>
        refine And.intro (ob_move rfl (wt_none rfl) (ev_far rfl rfl) (fun _ _ h => h)) ?_
        refine And.intro (ob_move rfl (wt_none rfl) (ev_far rfl rfl) (fun _ _ h => h)) ?_
        refine And.intro (ob_call2 rfl Try.func15 (by kernel_rfl) (wt_none rfl) (ev_dep (j := 0) (by kernel_rfl) rfl rfl) (ev_dep (j := 1) (by kernel_rfl) rfl rfl) (fun w2 u0 u1 hb h0 h1 => by obtain rfl := h0; obtain rfl := h1; exact (ffrac_zero a0 a1 _ bn bd hd0).mono fun e w3 h => RetQN.pd h)) ?_
        refine And.intro (ob_move rfl (wt_none rfl) (ev_dep (j := 2) (by kernel_rfl) rfl rfl) (fun _ _ h => h)) ?_
        refine And.intro (ob_extract rfl (wt_none rfl) (ev_dep (j := 3) (by kernel_rfl) rfl rfl) (fun w2 u hu => by obtain rfl := hu; exact ⟨_, rfl, rfl⟩)) ?_
        refine And.intro (ob_extract rfl (wt_none rfl) (ev_dep (j := 3) (by kernel_rfl) rfl rfl) (fun w2 u hu => by obtain rfl := hu; exact ⟨_, rfl, rfl⟩)) ?_
        refine And.intro (ob_alloc (z := .agg #[.bool false, .slice none 0 0, .slice none 0 0]) rfl rfl (fun _ => by kernel_rfl) (fun _ _ hB h => ⟨_, rfl, hB, h⟩)) ?_
        trivial
      case done17 =>
        refine fun w1 hb1 v0 h0 v1 h1 v2 h2 v3 h3 v4 h4 v5 h5 v6 h6 d6 b hbf => ?_
        obtain rfl := h0; obtain rfl := h1; obtain rfl := h2; obtain rfl := h3; obtain rfl := h4; obtain rfl := h5
        obtain ⟨g17_6, rfl, hg6, B6⟩ := h6
        simp only [Act.put, List.setIfInBounds_toArray, List.set_cons_zero, List.set_cons_succ] at hbf
        subst hbf
        replace bb := bb.trans (hb1.mono bb.size)
        have hsz1 := bb.size
        have BA9 := B6
        refine ops_store (i := 7) rfl rfl rfl rfl rfl rfl (cells := [.bool false, .slice none 0 0, .slice none 0 0]) rfl BA9 rfl (by kernel_rfl) (one3 rfl rfl rfl) fun w2 hg2 BN2 => ?_
        replace bb := bb.trans ((Below.refl _ _).grown hg2 bb.size (fun g hg => by injection hg with hg; omega))
        have hsz2 := bb.size
        replace BA9 : Blk w2 (g17_6) _ #[.bool false, .slice none 0 0, .slice none 0 0] := BN2
        refine ops_assign (i := 8) (.int .i64 3) rfl rfl rfl rfl rfl fun b hbf => ?_
        simp only [Act.put, List.setIfInBounds_toArray, List.set_cons_zero, List.set_cons_succ] at hbf
        subst hbf
        refine ops_done ?_
        go_upto_region 7 with (fail)
        refine flowp 6 [Pd.eq (.int .i64 3), Pd.eq (.bool true), Pd.eq (.bool true), Pd.eq (.bool true), Pd.eq (.bool true), Pd.eq (.bool true)] (by kernel_rfl) ?ob18 ?done18
        case ob18 =>
          refine And.intro (ob_move rfl (wt_none rfl) (ev_far rfl rfl) (fun _ _ h => h)) ?_
          refine And.intro (ob_bin rfl (wt_none rfl) (ev_dep (j := 0) (by kernel_rfl) rfl rfl) (ev_const _) (fun _ _ _ hx hy => ⟨.bool ((3 : Int) == 3), by rw [hx, hy]; exact bin_eql_int _ _ _ _ _, congrArg Value.bool (by decide)⟩)) ?_
          refine And.intro (ob_move rfl (wt_none rfl) (ev_dep (j := 1) (by kernel_rfl) rfl rfl) (fun _ _ h => h)) ?_
          refine And.intro (ob_call0 rfl Try.func7 (by kernel_rfl) (wt_dep (c := true) (b := true) (g := 2) rfl (by kernel_rfl) rfl rfl rfl (by exact fun _ _ h => h)) (fun w2 hb => (works8_any _).mono fun e w3 h => RetV.pd h)) ?_
          refine And.intro (ob_pick (b := true) rfl (wt_none rfl) (ev_dep (j := 2) (by kernel_rfl) rfl rfl) (ev_dep (j := 3) (by kernel_rfl) rfl rfl) (fun _ _ h => h)) ?_
          refine And.intro (ob_assign rfl (wt_none rfl) (ev_dep (j := 4) (by kernel_rfl) rfl rfl) (fun _ _ h => h)) ?_
          trivial
        case done18 =>
          refine fun w3 hb3 v0 h0 v1 h1 v2 h2 v3 h3 v4 h4 v5 h5 b hbf => ?_
          obtain rfl := h0; obtain rfl := h1; obtain rfl := h2; obtain rfl := h3; obtain rfl := h4; obtain rfl := h5
          simp only [Act.put, List.setIfInBounds_toArray, List.set_cons_zero, List.set_cons_succ] at hbf
          subst hbf
          replace BA9 := BA9.below hb3
          replace bb := bb.trans (hb3.mono bb.size)
          have hsz3 := bb.size
          refine ops_done ?_
          go_wp2
          go_ret
          exact ⟨rfl, bb⟩
    · refine flowp 7 [Pd.eq (.int .i64 a0), Pd.eq (.int .i64 a1), pqe (Q) 0, pqe (Q) 0, pqn (Q), Pd.eq (.int .i64 0), pn 27 #[.bool false, .slice none 0 0, .slice none 0 0] w.heap.size] (by kernel_rfl) ?ob19 ?done19
      case ob19 =>
        refine And.intro (ob_move rfl (wt_none rfl) (ev_far rfl rfl) (fun _ _ h => h)) ?_
        refine And.intro (ob_move rfl (wt_none rfl) (ev_far rfl rfl) (fun _ _ h => h)) ?_
        refine And.intro (ob_call2 rfl Try.func15 (by kernel_rfl) (wt_none rfl) (ev_dep (j := 0) (by kernel_rfl) rfl rfl) (ev_dep (j := 1) (by kernel_rfl) rfl rfl) (fun w2 u0 u1 hb h0 h1 => by obtain rfl := h0; obtain rfl := h1; exact (HQ0.out ▸ ffrac_ok a0 a1 _ bn bd hd0).mono fun e w3 h => RetQE.pd h)) ?_
        refine And.intro (ob_move rfl (wt_none rfl) (ev_dep (j := 2) (by kernel_rfl) rfl rfl) (fun _ _ h => h)) ?_
        refine And.intro (ob_extract rfl (wt_none rfl) (ev_dep (j := 3) (by kernel_rfl) rfl rfl) (fun w2 u hu => by obtain ⟨v, rfl, q1⟩ := hu; exact ⟨v, rfl, q1⟩)) ?_
        refine And.intro (ob_extract rfl (wt_none rfl) (ev_dep (j := 3) (by kernel_rfl) rfl rfl) (fun w2 u hu => by obtain ⟨v, rfl, q1⟩ := hu; exact ⟨_, rfl, rfl⟩)) ?_
        refine And.intro (ob_alloc (z := .agg #[.bool false, .slice none 0 0, .slice none 0 0]) rfl rfl (fun _ => by kernel_rfl) (fun _ _ hB h => ⟨_, rfl, hB, h⟩)) ?_
        trivial
      case done19 =>
        refine fun w1 hb1 v0 h0 v1 h1 v2 h2 v3 h3 v4 h4 v5 h5 v6 h6 d6 b hbf => ?_
        obtain rfl := h0; obtain rfl := h1; obtain rfl := h5
        clear h2
        clear h3
        have q4 := h4
        obtain ⟨g19_6, rfl, hg6, B6⟩ := h6
        simp only [Act.put, List.setIfInBounds_toArray, List.set_cons_zero, List.set_cons_succ] at hbf
        subst hbf
        replace bb := bb.trans (hb1.mono bb.size)
        have hsz1 := bb.size
        have BA9 := B6
        obtain ⟨u4, t4, rfl, q4, d4⟩ := q4
        obtain ⟨Ap, cp, rfl, _⟩ := id q4
        obtain ⟨Dp, ep, rfl, _⟩ := id d4
        refine ops_store (i := 7) rfl rfl rfl rfl rfl rfl (cells := [.bool (ngB (Q).num), .slice Ap (digs 4294967296 (Q).num.natAbs).length cp, .slice Dp (digs 4294967296 (Q).den).length ep]) rfl BA9 rfl (by kernel_rfl) (one3 rfl rfl rfl) fun w2 hg2 BN2 => ?_
        replace q4 := off q4 BA9 no_ints3 hg2
        replace d4 := off d4 BA9 no_ints3 hg2
        replace bb := bb.trans ((Below.refl _ _).grown hg2 bb.size (fun g hg => by injection hg with hg; omega))
        have hsz2 := bb.size
        have Bp : Blk w2 (g19_6) _ _ := BN2
        have kps := q4
        have kpd := d4
        have kpz : IsZ w2 (.agg #[.bool (ngB (Q).num), .slice Ap (digs 4294967296 (Q).num.natAbs).length cp]) ((Q).num) := ⟨_, rfl, kps⟩
        have kp : IsQ w2 (.agg #[.bool (ngB (Q).num), .slice Ap (digs 4294967296 (Q).num.natAbs).length cp, .slice Dp (digs 4294967296 (Q).den).length ep]) (Q) := ⟨_, _, rfl, kps, kpd⟩
        refine ops_assign (i := 8) (.int .i64 0) rfl rfl rfl rfl rfl fun b hbf => ?_
        simp only [Act.put, List.setIfInBounds_toArray, List.set_cons_zero, List.set_cons_succ] at hbf
        subst hbf
        refine ops_done ?_
        by_cases hdn : a1 < 0
        · have HQ1 : Hid (mkRat (-a0) a1.natAbs = Q) := by show _ = _; rw [← HQ0.out]; exact (divInt_lt (by omega)).symm
          have HDN : Hid ((-a1) = ((a1.natAbs : Nat) : Int)) := by show _ = _; omega
          have HD0 : Hid (a1.natAbs ≠ 0) := by show _ ≠ _; omega
          have HB1 : Hid (-9223372036854775807 ≤ (-a0)) := by show _ ≤ _; omega
          have HB2 : Hid ((-a0) ≤ 9223372036854775807) := by show _ ≤ _; omega
          have HB3 : Hid (a1.natAbs ≤ 9223372036854775807) := by show _ ≤ _; omega
          have lQ : lenQ Q 2 := by rw [← HQ1.out]; exact lenQ_mk HD0.out (dig32 (by omega)) (dig32 (by omega))
          obtain ⟨N, hN⟩ : ∃ N, N = mkRat (-a0) 1 := ⟨_, rfl⟩
          have lN : lenQ N 2 := by rw [hN]; exact lenQ_mk (by omega) (dig32 (by omega)) (dig32 (by omega))
          have HN : Hid (mkRat (-a0) 1 = N) := hN.symm
          have HN2 : Hid ((((-a0) : Int) : Rat) = N) := by show _ = _; rw [hN, Rat.mkRat_one]
          clear hN
          obtain ⟨E, hE⟩ : ∃ E, E = ((-a0) == (-a1)) := ⟨_, rfl⟩
          have HE : Hid (((-a0) == (-a1)) = E) := hE.symm
          have HE2 : Hid (E = decide (Q = 1)) := by
            show _ = _
            rw [hE, ← HQ1.out, Bool.eq_iff_iff, beq_iff_eq, decide_eq_true_eq, mk_one HD0.out, ← HDN.out]
          clear hE
          go_upto_region 10 with (fail)
          refine flow 30 [Pd.eq (.int .i64 0), Pd.eq (.bool true), Pd.eq (.bool true), Pd.eq (.agg #[.bool (ngB (Q).num), .slice Ap (digs 4294967296 (Q).num.natAbs).length cp, .slice Dp (digs 4294967296 (Q).den).length ep]), Pd.eq (.int .i64 (-a0)), Pd.eq (.int .i64 (-a1)), pp (Q), pqn (Q), Pd.eq (.bool true), Pd.eq (.bool true), Pd.eq (.bool true), Pd.eq (.int .i64 (-a0)), pqn N, Pd.eq (.int .i64 (-a0)), pp (N), pqn (N), Pd.eq (.bool true), Pd.eq (.bool true), Pd.eq (.bool true), Pd.eq (.agg #[.bool (ngB (Q).num), .slice Ap (digs 4294967296 (Q).num.natAbs).length cp, .slice Dp (digs 4294967296 (Q).den).length ep]), Pd.eq (.bool E), Pd.eq (.int .i64 (-a0)), Pd.eq (.int .i64 (-a1)), Pd.eq (.bool E), Pd.eq (.bool true), Pd.eq (.bool true), Pd.eq (.bool true), Pd.eq (.bool true), Pd.eq (.bool true), Pd.eq (.bool true)] (by kernel_rfl) (by kernel_rfl) ?ob20 ?done20
          case ob20 =>
            refine And.intro (ob_move rfl (wt_none rfl) (ev_far rfl rfl) (fun _ _ h => h)) ?_
            refine And.intro (ob_bin rfl (wt_none rfl) (ev_dep (j := 0) (by kernel_rfl) rfl rfl) (ev_const _) (fun _ _ _ hx hy => ⟨.bool ((0 : Int) == 0), by rw [hx, hy]; exact bin_eql_int _ _ _ _ _, congrArg Value.bool (by decide)⟩)) ?_
            refine And.intro (ob_move rfl (wt_none rfl) (ev_dep (j := 1) (by kernel_rfl) rfl rfl) (fun _ _ h => h)) ?_
            refine And.intro (ob_load rfl (wt_dep (c := true) (b := true) (g := 2) rfl (by kernel_rfl) rfl rfl rfl (by exact fun _ _ h => h)) (ev_far rfl rfl) (fun w2 hb => run_loadAll Try.underlying27 rfl (by kernel_rfl) (Bp.drew.below hb)) (fun _ _ => rfl)) ?_
            refine And.intro (ob_move rfl (wt_dep (c := true) (b := true) (g := 2) rfl (by kernel_rfl) rfl rfl rfl (by exact fun _ _ h => h)) (ev_far rfl rfl) (fun _ _ h => h)) ?_
            refine And.intro (ob_move rfl (wt_dep (c := true) (b := true) (g := 2) rfl (by kernel_rfl) rfl rfl rfl (by exact fun _ _ h => h)) (ev_far rfl rfl) (fun _ _ h => h)) ?_
            refine And.intro (ob_call2 rfl Try.func17 (by kernel_rfl) (wt_dep (c := true) (b := true) (g := 2) rfl (by kernel_rfl) rfl rfl rfl (by exact fun _ _ h => h)) (ev_dep (j := 4) (by kernel_rfl) rfl rfl) (ev_dep (j := 5) (by kernel_rfl) rfl rfl) (fun w2 u0 u1 hb h0 h1 => by obtain rfl := h0; obtain rfl := h1; exact (HQ1.out ▸ qnum_any _ _ _ a1.natAbs HDN.out HB1.out HB2.out HD0.out HB3.out).mono fun e w3 h => RetPF.pd h)) ?_
            refine And.intro (ob_call1 rfl Try.func10 (by kernel_rfl) (wt_dep (c := true) (b := true) (g := 2) rfl (by kernel_rfl) rfl rfl rfl (by exact fun _ _ h => h)) (ev_dep (j := 6) (by kernel_rfl) rfl rfl) (fun w2 u0 hb h0 => by exact (qback_any _ _ _ h0 (lQ.mono (by decide))).mono fun e w3 h => RetQn.pd (RetQ.n h))) ?_
            refine And.intro (ob_call2 rfl Try.func12 (by kernel_rfl) (wt_dep (c := true) (b := true) (g := 2) rfl (by kernel_rfl) rfl rfl rfl (by exact fun _ _ h => h)) (ev_dep (j := 3) (by kernel_rfl) rfl rfl) (ev_dep (j := 7) (by kernel_rfl) rfl rfl) (fun w2 u0 u1 hb h0 h1 => by obtain rfl := h0; exact (qsame_eq _ _ (Q) (Q) _ (kp.drew.below hb) h1 rfl).mono fun e w3 h => RetV.pd h)) ?_
            refine And.intro (ob_pick (b := true) rfl (wt_none rfl) (ev_dep (j := 2) (by kernel_rfl) rfl rfl) (ev_dep (j := 8) (by kernel_rfl) rfl rfl) (fun _ _ h => h)) ?_
            refine And.intro (ob_move rfl (wt_none rfl) (ev_dep (j := 9) (by kernel_rfl) rfl rfl) (fun _ _ h => h)) ?_
            refine And.intro (ob_move rfl (wt_dep (c := true) (b := true) (g := 10) rfl (by kernel_rfl) rfl rfl rfl (by exact fun _ _ h => h)) (ev_far rfl rfl) (fun _ _ h => h)) ?_
            refine And.intro (ob_call1 rfl Try.func18 (by kernel_rfl) (wt_dep (c := true) (b := true) (g := 10) rfl (by kernel_rfl) rfl rfl rfl (by exact fun _ _ h => h)) (ev_dep (j := 11) (by kernel_rfl) rfl rfl) (fun w2 u0 hb h0 => by obtain rfl := h0; exact (HN2.out ▸ fof_any (-a0) _ HB1.out HB2.out).mono fun e w3 h => RetQn.pd h)) ?_
            refine And.intro (ob_move rfl (wt_dep (c := true) (b := true) (g := 10) rfl (by kernel_rfl) rfl rfl rfl (by exact fun _ _ h => h)) (ev_far rfl rfl) (fun _ _ h => h)) ?_
            refine And.intro (ob_call2 rfl Try.func17 (by kernel_rfl) (wt_dep (c := true) (b := true) (g := 10) rfl (by kernel_rfl) rfl rfl rfl (by exact fun _ _ h => h)) (ev_dep (j := 13) (by kernel_rfl) rfl rfl) (ev_const _) (fun w2 u0 u1 hb h0 h1 => by obtain rfl := h0; obtain rfl := h1; exact (HN.out ▸ qnum_any _ _ _ 1 rfl HB1.out HB2.out (by omega) (by omega)).mono fun e w3 h => RetPF.pd h)) ?_
            refine And.intro (ob_call1 rfl Try.func10 (by kernel_rfl) (wt_dep (c := true) (b := true) (g := 10) rfl (by kernel_rfl) rfl rfl rfl (by exact fun _ _ h => h)) (ev_dep (j := 14) (by kernel_rfl) rfl rfl) (fun w2 u0 hb h0 => by exact (qback_any _ _ _ h0 (lN.mono (by decide))).mono fun e w3 h => RetQn.pd (RetQ.n h))) ?_
            refine And.intro (ob_call2 rfl Try.func12 (by kernel_rfl) (wt_dep (c := true) (b := true) (g := 10) rfl (by kernel_rfl) rfl rfl rfl (by exact fun _ _ h => h)) (ev_dep (j := 12) (by kernel_rfl) rfl rfl) (ev_dep (j := 15) (by kernel_rfl) rfl rfl) (fun w2 u0 u1 hb h0 h1 => by exact (qsame_eq _ _ (N) (N) _ h0 h1 rfl).mono fun e w3 h => RetV.pd h)) ?_
            refine And.intro (ob_pick (b := true) rfl (wt_none rfl) (ev_dep (j := 10) (by kernel_rfl) rfl rfl) (ev_dep (j := 16) (by kernel_rfl) rfl rfl) (fun _ _ h => h)) ?_
            refine And.intro (ob_move rfl (wt_none rfl) (ev_dep (j := 17) (by kernel_rfl) rfl rfl) (fun _ _ h => h)) ?_
            refine And.intro (ob_load rfl (wt_dep (c := true) (b := true) (g := 18) rfl (by kernel_rfl) rfl rfl rfl (by exact fun _ _ h => h)) (ev_far rfl rfl) (fun w2 hb => run_loadAll Try.underlying27 rfl (by kernel_rfl) (Bp.drew.below hb)) (fun _ _ => rfl)) ?_
            refine And.intro (ob_call1 rfl Try.func19 (by kernel_rfl) (wt_dep (c := true) (b := true) (g := 18) rfl (by kernel_rfl) rfl rfl rfl (by exact fun _ _ h => h)) (ev_dep (j := 19) (by kernel_rfl) rfl rfl) (fun w2 u0 hb h0 => by obtain rfl := h0; exact (fone_any _ Q E _ (kp.drew.below hb) (lQ.mono (by decide)) HE2.out).mono fun e w3 h => RetV.pd h)) ?_
            refine And.intro (ob_move rfl (wt_dep (c := true) (b := true) (g := 18) rfl (by kernel_rfl) rfl rfl rfl (by exact fun _ _ h => h)) (ev_far rfl rfl) (fun _ _ h => h)) ?_
            refine And.intro (ob_move rfl (wt_dep (c := true) (b := true) (g := 18) rfl (by kernel_rfl) rfl rfl rfl (by exact fun _ _ h => h)) (ev_far rfl rfl) (fun _ _ h => h)) ?_
            refine And.intro (ob_bin rfl (wt_dep (c := true) (b := true) (g := 18) rfl (by kernel_rfl) rfl rfl rfl (by exact fun _ _ h => h)) (ev_dep (j := 21) (by kernel_rfl) rfl rfl) (ev_dep (j := 22) (by kernel_rfl) rfl rfl) (fun _ _ _ hx hy => ⟨.bool E, by rw [hx, hy, bin_eql_int, HE.out], rfl⟩)) ?_
            refine And.intro (ob_bin rfl (wt_dep (c := true) (b := true) (g := 18) rfl (by kernel_rfl) rfl rfl rfl (by exact fun _ _ h => h)) (ev_dep (j := 20) (by kernel_rfl) rfl rfl) (ev_dep (j := 23) (by kernel_rfl) rfl rfl) (fun _ _ _ hx hy => ⟨.bool (E == E), by rw [hx, hy]; exact bin_eql_bool _ _ _ _ Try.underlying4 _, congrArg Value.bool (beq_self_eq_true _)⟩)) ?_
            refine And.intro (ob_pick (b := true) rfl (wt_none rfl) (ev_dep (j := 18) (by kernel_rfl) rfl rfl) (ev_dep (j := 24) (by kernel_rfl) rfl rfl) (fun _ _ h => h)) ?_
            refine And.intro (ob_move rfl (wt_none rfl) (ev_dep (j := 25) (by kernel_rfl) rfl rfl) (fun _ _ h => h)) ?_
            refine And.intro (ob_call0 rfl Try.func7 (by kernel_rfl) (wt_dep (c := true) (b := true) (g := 26) rfl (by kernel_rfl) rfl rfl rfl (by exact fun _ _ h => h)) (fun w2 hb => (works8_any _).mono fun e w3 h => RetV.pd h)) ?_
            refine And.intro (ob_pick (b := true) rfl (wt_none rfl) (ev_dep (j := 26) (by kernel_rfl) rfl rfl) (ev_dep (j := 27) (by kernel_rfl) rfl rfl) (fun _ _ h => h)) ?_
            refine And.intro (ob_assign rfl (wt_none rfl) (ev_dep (j := 28) (by kernel_rfl) rfl rfl) (fun _ _ h => h)) ?_
            trivial
          case done20 =>
            refine fun w3 hb3 v0 h0 v1 h1 v2 h2 v3 h3 v4 h4 v5 h5 v6 h6 v7 h7 v8 h8 v9 h9 v10 h10 v11 h11 v12 h12 v13 h13 v14 h14 v15 h15 v16 h16 v17 h17 v18 h18 v19 h19 v20 h20 v21 h21 v22 h22 v23 h23 v24 h24 v25 h25 v26 h26 v27 h27 v28 h28 v29 h29 b hbf => ?_
            obtain rfl := h0; obtain rfl := h1; obtain rfl := h2; obtain rfl := h3; obtain rfl := h4; obtain rfl := h5; obtain rfl := h8; obtain rfl := h9; obtain rfl := h10; obtain rfl := h11; obtain rfl := h13; obtain rfl := h16; obtain rfl := h17; obtain rfl := h18; obtain rfl := h19; obtain rfl := h20; obtain rfl := h21; obtain rfl := h22; obtain rfl := h23; obtain rfl := h24; obtain rfl := h25; obtain rfl := h26; obtain rfl := h27; obtain rfl := h28; obtain rfl := h29
            have q6 := h6
            have q7 := h7
            have q12 := h12
            have q14 := h14
            have q15 := h15
            simp only [Act.put, List.setIfInBounds_toArray, List.set_cons_zero, List.set_cons_succ] at hbf
            subst hbf
            replace Bp := Bp.below hb3
            replace kps := kps.below hb3
            replace kpd := kpd.below hb3
            replace kpz := kpz.below hb3
            replace kp := kp.below hb3
            replace bb := bb.trans (hb3.mono bb.size)
            have hsz3 := bb.size
            refine any_done (by kernel_rfl) ?_
            go_wp2
            go_ret
            exact ⟨rfl, bb⟩
        · have HQ1 : Hid (mkRat a0 a1.natAbs = Q) := by show _ = _; rw [← HQ0.out]; exact (divInt_gt (by omega)).symm
          have HDN : Hid (a1 = ((a1.natAbs : Nat) : Int)) := by show _ = _; omega
          have HD0 : Hid (a1.natAbs ≠ 0) := by show _ ≠ _; omega
          have HB1 : Hid (-9223372036854775807 ≤ a0) := by show _ ≤ _; omega
          have HB2 : Hid (a0 ≤ 9223372036854775807) := by show _ ≤ _; omega
          have HB3 : Hid (a1.natAbs ≤ 9223372036854775807) := by show _ ≤ _; omega
          have lQ : lenQ Q 2 := by rw [← HQ1.out]; exact lenQ_mk HD0.out (dig32 (by omega)) (dig32 (by omega))
          obtain ⟨N, hN⟩ : ∃ N, N = mkRat a0 1 := ⟨_, rfl⟩
          have lN : lenQ N 2 := by rw [hN]; exact lenQ_mk (by omega) (dig32 (by omega)) (dig32 (by omega))
          have HN : Hid (mkRat a0 1 = N) := hN.symm
          have HN2 : Hid (((a0 : Int) : Rat) = N) := by show _ = _; rw [hN, Rat.mkRat_one]
          clear hN
          obtain ⟨E, hE⟩ : ∃ E, E = (a0 == a1) := ⟨_, rfl⟩
          have HE : Hid ((a0 == a1) = E) := hE.symm
          have HE2 : Hid (E = decide (Q = 1)) := by
            show _ = _
            rw [hE, ← HQ1.out, Bool.eq_iff_iff, beq_iff_eq, decide_eq_true_eq, mk_one HD0.out, ← HDN.out]
          clear hE
          go_upto_region 10 with (fail)
          refine flow 30 [Pd.eq (.int .i64 0), Pd.eq (.bool true), Pd.eq (.bool true), Pd.eq (.agg #[.bool (ngB (Q).num), .slice Ap (digs 4294967296 (Q).num.natAbs).length cp, .slice Dp (digs 4294967296 (Q).den).length ep]), Pd.eq (.int .i64 a0), Pd.eq (.int .i64 a1), pp (Q), pqn (Q), Pd.eq (.bool true), Pd.eq (.bool true), Pd.eq (.bool true), Pd.eq (.int .i64 a0), pqn N, Pd.eq (.int .i64 a0), pp (N), pqn (N), Pd.eq (.bool true), Pd.eq (.bool true), Pd.eq (.bool true), Pd.eq (.agg #[.bool (ngB (Q).num), .slice Ap (digs 4294967296 (Q).num.natAbs).length cp, .slice Dp (digs 4294967296 (Q).den).length ep]), Pd.eq (.bool E), Pd.eq (.int .i64 a0), Pd.eq (.int .i64 a1), Pd.eq (.bool E), Pd.eq (.bool true), Pd.eq (.bool true), Pd.eq (.bool true), Pd.eq (.bool true), Pd.eq (.bool true), Pd.eq (.bool true)] (by kernel_rfl) (by kernel_rfl) ?ob21 ?done21
          case ob21 =>
            refine And.intro (ob_move rfl (wt_none rfl) (ev_far rfl rfl) (fun _ _ h => h)) ?_
            refine And.intro (ob_bin rfl (wt_none rfl) (ev_dep (j := 0) (by kernel_rfl) rfl rfl) (ev_const _) (fun _ _ _ hx hy => ⟨.bool ((0 : Int) == 0), by rw [hx, hy]; exact bin_eql_int _ _ _ _ _, congrArg Value.bool (by decide)⟩)) ?_
            refine And.intro (ob_move rfl (wt_none rfl) (ev_dep (j := 1) (by kernel_rfl) rfl rfl) (fun _ _ h => h)) ?_
            refine And.intro (ob_load rfl (wt_dep (c := true) (b := true) (g := 2) rfl (by kernel_rfl) rfl rfl rfl (by exact fun _ _ h => h)) (ev_far rfl rfl) (fun w2 hb => run_loadAll Try.underlying27 rfl (by kernel_rfl) (Bp.drew.below hb)) (fun _ _ => rfl)) ?_
            refine And.intro (ob_move rfl (wt_dep (c := true) (b := true) (g := 2) rfl (by kernel_rfl) rfl rfl rfl (by exact fun _ _ h => h)) (ev_far rfl rfl) (fun _ _ h => h)) ?_
            refine And.intro (ob_move rfl (wt_dep (c := true) (b := true) (g := 2) rfl (by kernel_rfl) rfl rfl rfl (by exact fun _ _ h => h)) (ev_far rfl rfl) (fun _ _ h => h)) ?_
            refine And.intro (ob_call2 rfl Try.func17 (by kernel_rfl) (wt_dep (c := true) (b := true) (g := 2) rfl (by kernel_rfl) rfl rfl rfl (by exact fun _ _ h => h)) (ev_dep (j := 4) (by kernel_rfl) rfl rfl) (ev_dep (j := 5) (by kernel_rfl) rfl rfl) (fun w2 u0 u1 hb h0 h1 => by obtain rfl := h0; obtain rfl := h1; exact (HQ1.out ▸ qnum_any _ _ _ a1.natAbs HDN.out HB1.out HB2.out HD0.out HB3.out).mono fun e w3 h => RetPF.pd h)) ?_
            refine And.intro (ob_call1 rfl Try.func10 (by kernel_rfl) (wt_dep (c := true) (b := true) (g := 2) rfl (by kernel_rfl) rfl rfl rfl (by exact fun _ _ h => h)) (ev_dep (j := 6) (by kernel_rfl) rfl rfl) (fun w2 u0 hb h0 => by exact (qback_any _ _ _ h0 (lQ.mono (by decide))).mono fun e w3 h => RetQn.pd (RetQ.n h))) ?_
            refine And.intro (ob_call2 rfl Try.func12 (by kernel_rfl) (wt_dep (c := true) (b := true) (g := 2) rfl (by kernel_rfl) rfl rfl rfl (by exact fun _ _ h => h)) (ev_dep (j := 3) (by kernel_rfl) rfl rfl) (ev_dep (j := 7) (by kernel_rfl) rfl rfl) (fun w2 u0 u1 hb h0 h1 => by obtain rfl := h0; exact (qsame_eq _ _ (Q) (Q) _ (kp.drew.below hb) h1 rfl).mono fun e w3 h => RetV.pd h)) ?_
            refine And.intro (ob_pick (b := true) rfl (wt_none rfl) (ev_dep (j := 2) (by kernel_rfl) rfl rfl) (ev_dep (j := 8) (by kernel_rfl) rfl rfl) (fun _ _ h => h)) ?_
            refine And.intro (ob_move rfl (wt_none rfl) (ev_dep (j := 9) (by kernel_rfl) rfl rfl) (fun _ _ h => h)) ?_
            refine And.intro (ob_move rfl (wt_dep (c := true) (b := true) (g := 10) rfl (by kernel_rfl) rfl rfl rfl (by exact fun _ _ h => h)) (ev_far rfl rfl) (fun _ _ h => h)) ?_
            refine And.intro (ob_call1 rfl Try.func18 (by kernel_rfl) (wt_dep (c := true) (b := true) (g := 10) rfl (by kernel_rfl) rfl rfl rfl (by exact fun _ _ h => h)) (ev_dep (j := 11) (by kernel_rfl) rfl rfl) (fun w2 u0 hb h0 => by obtain rfl := h0; exact (HN2.out ▸ fof_any a0 _ HB1.out HB2.out).mono fun e w3 h => RetQn.pd h)) ?_
            refine And.intro (ob_move rfl (wt_dep (c := true) (b := true) (g := 10) rfl (by kernel_rfl) rfl rfl rfl (by exact fun _ _ h => h)) (ev_far rfl rfl) (fun _ _ h => h)) ?_
            refine And.intro (ob_call2 rfl Try.func17 (by kernel_rfl) (wt_dep (c := true) (b := true) (g := 10) rfl (by kernel_rfl) rfl rfl rfl (by exact fun _ _ h => h)) (ev_dep (j := 13) (by kernel_rfl) rfl rfl) (ev_const _) (fun w2 u0 u1 hb h0 h1 => by obtain rfl := h0; obtain rfl := h1; exact (HN.out ▸ qnum_any _ _ _ 1 rfl HB1.out HB2.out (by omega) (by omega)).mono fun e w3 h => RetPF.pd h)) ?_
            refine And.intro (ob_call1 rfl Try.func10 (by kernel_rfl) (wt_dep (c := true) (b := true) (g := 10) rfl (by kernel_rfl) rfl rfl rfl (by exact fun _ _ h => h)) (ev_dep (j := 14) (by kernel_rfl) rfl rfl) (fun w2 u0 hb h0 => by exact (qback_any _ _ _ h0 (lN.mono (by decide))).mono fun e w3 h => RetQn.pd (RetQ.n h))) ?_
            refine And.intro (ob_call2 rfl Try.func12 (by kernel_rfl) (wt_dep (c := true) (b := true) (g := 10) rfl (by kernel_rfl) rfl rfl rfl (by exact fun _ _ h => h)) (ev_dep (j := 12) (by kernel_rfl) rfl rfl) (ev_dep (j := 15) (by kernel_rfl) rfl rfl) (fun w2 u0 u1 hb h0 h1 => by exact (qsame_eq _ _ (N) (N) _ h0 h1 rfl).mono fun e w3 h => RetV.pd h)) ?_
            refine And.intro (ob_pick (b := true) rfl (wt_none rfl) (ev_dep (j := 10) (by kernel_rfl) rfl rfl) (ev_dep (j := 16) (by kernel_rfl) rfl rfl) (fun _ _ h => h)) ?_
            refine And.intro (ob_move rfl (wt_none rfl) (ev_dep (j := 17) (by kernel_rfl) rfl rfl) (fun _ _ h => h)) ?_
            refine And.intro (ob_load rfl (wt_dep (c := true) (b := true) (g := 18) rfl (by kernel_rfl) rfl rfl rfl (by exact fun _ _ h => h)) (ev_far rfl rfl) (fun w2 hb => run_loadAll Try.underlying27 rfl (by kernel_rfl) (Bp.drew.below hb)) (fun _ _ => rfl)) ?_
            refine And.intro (ob_call1 rfl Try.func19 (by kernel_rfl) (wt_dep (c := true) (b := true) (g := 18) rfl (by kernel_rfl) rfl rfl rfl (by exact fun _ _ h => h)) (ev_dep (j := 19) (by kernel_rfl) rfl rfl) (fun w2 u0 hb h0 => by obtain rfl := h0; exact (fone_any _ Q E _ (kp.drew.below hb) (lQ.mono (by decide)) HE2.out).mono fun e w3 h => RetV.pd h)) ?_
            refine And.intro (ob_move rfl (wt_dep (c := true) (b := true) (g := 18) rfl (by kernel_rfl) rfl rfl rfl (by exact fun _ _ h => h)) (ev_far rfl rfl) (fun _ _ h => h)) ?_
            refine And.intro (ob_move rfl (wt_dep (c := true) (b := true) (g := 18) rfl (by kernel_rfl) rfl rfl rfl (by exact fun _ _ h => h)) (ev_far rfl rfl) (fun _ _ h => h)) ?_
            refine And.intro (ob_bin rfl (wt_dep (c := true) (b := true) (g := 18) rfl (by kernel_rfl) rfl rfl rfl (by exact fun _ _ h => h)) (ev_dep (j := 21) (by kernel_rfl) rfl rfl) (ev_dep (j := 22) (by kernel_rfl) rfl rfl) (fun _ _ _ hx hy => ⟨.bool E, by rw [hx, hy, bin_eql_int, HE.out], rfl⟩)) ?_
            refine And.intro (ob_bin rfl (wt_dep (c := true) (b := true) (g := 18) rfl (by kernel_rfl) rfl rfl rfl (by exact fun _ _ h => h)) (ev_dep (j := 20) (by kernel_rfl) rfl rfl) (ev_dep (j := 23) (by kernel_rfl) rfl rfl) (fun _ _ _ hx hy => ⟨.bool (E == E), by rw [hx, hy]; exact bin_eql_bool _ _ _ _ Try.underlying4 _, congrArg Value.bool (beq_self_eq_true _)⟩)) ?_
            refine And.intro (ob_pick (b := true) rfl (wt_none rfl) (ev_dep (j := 18) (by kernel_rfl) rfl rfl) (ev_dep (j := 24) (by kernel_rfl) rfl rfl) (fun _ _ h => h)) ?_
            refine And.intro (ob_move rfl (wt_none rfl) (ev_dep (j := 25) (by kernel_rfl) rfl rfl) (fun _ _ h => h)) ?_
            refine And.intro (ob_call0 rfl Try.func7 (by kernel_rfl) (wt_dep (c := true) (b := true) (g := 26) rfl (by kernel_rfl) rfl rfl rfl (by exact fun _ _ h => h)) (fun w2 hb => (works8_any _).mono fun e w3 h => RetV.pd h)) ?_
            refine And.intro (ob_pick (b := true) rfl (wt_none rfl) (ev_dep (j := 26) (by kernel_rfl) rfl rfl) (ev_dep (j := 27) (by kernel_rfl) rfl rfl) (fun _ _ h => h)) ?_
            refine And.intro (ob_assign rfl (wt_none rfl) (ev_dep (j := 28) (by kernel_rfl) rfl rfl) (fun _ _ h => h)) ?_
            trivial
          case done21 =>
            refine fun w3 hb3 v0 h0 v1 h1 v2 h2 v3 h3 v4 h4 v5 h5 v6 h6 v7 h7 v8 h8 v9 h9 v10 h10 v11 h11 v12 h12 v13 h13 v14 h14 v15 h15 v16 h16 v17 h17 v18 h18 v19 h19 v20 h20 v21 h21 v22 h22 v23 h23 v24 h24 v25 h25 v26 h26 v27 h27 v28 h28 v29 h29 b hbf => ?_
            obtain rfl := h0; obtain rfl := h1; obtain rfl := h2; obtain rfl := h3; obtain rfl := h4; obtain rfl := h5; obtain rfl := h8; obtain rfl := h9; obtain rfl := h10; obtain rfl := h11; obtain rfl := h13; obtain rfl := h16; obtain rfl := h17; obtain rfl := h18; obtain rfl := h19; obtain rfl := h20; obtain rfl := h21; obtain rfl := h22; obtain rfl := h23; obtain rfl := h24; obtain rfl := h25; obtain rfl := h26; obtain rfl := h27; obtain rfl := h28; obtain rfl := h29
            have q6 := h6
            have q7 := h7
            have q12 := h12
            have q14 := h14
            have q15 := h15
            simp only [Act.put, List.setIfInBounds_toArray, List.set_cons_zero, List.set_cons_succ] at hbf
            subst hbf
            replace Bp := Bp.below hb3
            replace kps := kps.below hb3
            replace kpd := kpd.below hb3
            replace kpz := kpz.below hb3
            replace kp := kp.below hb3
            replace bb := bb.trans (hb3.mono bb.size)
            have hsz3 := bb.size
            refine any_done (by kernel_rfl) ?_
            go_wp2
            go_ret
            exact ⟨rfl, bb⟩
  · rcases (by omega : a0 < -1152921504606846976 ∨ (¬ a0 < -1152921504606846976 ∧ 1152921504606846976 < a0) ∨ (¬ a0 < -1152921504606846976 ∧ ¬ 1152921504606846976 < a0 ∧ a1 < -1152921504606846976) ∨ (¬ a0 < -1152921504606846976 ∧ ¬ 1152921504606846976 < a0 ∧ ¬ a1 < -1152921504606846976 ∧ 1152921504606846976 < a1)) with o1 | ⟨o1, o2⟩ | ⟨o1, o2, o3⟩ | ⟨o1, o2, o3, o4⟩
    all_goals
      go_upto_region 2 with (fail)
      by_cases hd0 : a1 = 0
      · refine flowp 7 [Pd.eq (.int .i64 a0), Pd.eq (.int .i64 a1), Pd.eq (.tuple #[.agg #[.bool false, .slice none 0 0, .slice none 0 0], .int .i64 3]), Pd.eq (.tuple #[.agg #[.bool false, .slice none 0 0, .slice none 0 0], .int .i64 3]), Pd.eq (.agg #[.bool false, .slice none 0 0, .slice none 0 0]), Pd.eq (.int .i64 3), pn 27 #[.bool false, .slice none 0 0, .slice none 0 0] w.heap.size] (by kernel_rfl) ?ob22 ?done22
        case ob22 =>
          refine And.intro (ob_move rfl (wt_none rfl) (ev_far rfl rfl) (fun _ _ h => h)) ?_
          refine And.intro (ob_move rfl (wt_none rfl) (ev_far rfl rfl) (fun _ _ h => h)) ?_
          refine And.intro (ob_call2 rfl Try.func15 (by kernel_rfl) (wt_none rfl) (ev_dep (j := 0) (by kernel_rfl) rfl rfl) (ev_dep (j := 1) (by kernel_rfl) rfl rfl) (fun w2 u0 u1 hb h0 h1 => by obtain rfl := h0; obtain rfl := h1; exact (ffrac_zero a0 a1 _ bn bd hd0).mono fun e w3 h => RetQN.pd h)) ?_
          refine And.intro (ob_move rfl (wt_none rfl) (ev_dep (j := 2) (by kernel_rfl) rfl rfl) (fun _ _ h => h)) ?_
          refine And.intro (ob_extract rfl (wt_none rfl) (ev_dep (j := 3) (by kernel_rfl) rfl rfl) (fun w2 u hu => by obtain rfl := hu; exact ⟨_, rfl, rfl⟩)) ?_
          refine And.intro (ob_extract rfl (wt_none rfl) (ev_dep (j := 3) (by kernel_rfl) rfl rfl) (fun w2 u hu => by obtain rfl := hu; exact ⟨_, rfl, rfl⟩)) ?_
          refine And.intro (ob_alloc (z := .agg #[.bool false, .slice none 0 0, .slice none 0 0]) rfl rfl (fun _ => by kernel_rfl) (fun _ _ hB h => ⟨_, rfl, hB, h⟩)) ?_
          trivial
        case done22 =>
          refine fun w1 hb1 v0 h0 v1 h1 v2 h2 v3 h3 v4 h4 v5 h5 v6 h6 d6 b hbf => ?_
          obtain rfl := h0; obtain rfl := h1; obtain rfl := h2; obtain rfl := h3; obtain rfl := h4; obtain rfl := h5
          obtain ⟨g22_6, rfl, hg6, B6⟩ := h6
          simp only [Act.put, List.setIfInBounds_toArray, List.set_cons_zero, List.set_cons_succ] at hbf
          subst hbf
          replace bb := bb.trans (hb1.mono bb.size)
          have hsz1 := bb.size
          have BA5 := B6
          refine ops_store (i := 7) rfl rfl rfl rfl rfl rfl (cells := [.bool false, .slice none 0 0, .slice none 0 0]) rfl BA5 rfl (by kernel_rfl) (one3 rfl rfl rfl) fun w2 hg2 BN2 => ?_
          replace bb := bb.trans ((Below.refl _ _).grown hg2 bb.size (fun g hg => by injection hg with hg; omega))
          have hsz2 := bb.size
          replace BA5 : Blk w2 (g22_6) _ #[.bool false, .slice none 0 0, .slice none 0 0] := BN2
          refine ops_assign (i := 8) (.int .i64 3) rfl rfl rfl rfl rfl fun b hbf => ?_
          simp only [Act.put, List.setIfInBounds_toArray, List.set_cons_zero, List.set_cons_succ] at hbf
          subst hbf
          refine ops_done ?_
          go_upto_region 3 with (fail)
          have lt2_5 := Blk.lt BA5
          refine flowp 9 [Pd.eq (.int .i64 a0), pi (a0), Pd.eq (.int .i64 a1), pi (a1), Pd.eq (.tuple #[.agg #[.bool false, .slice none 0 0, .slice none 0 0], .int .i64 3]), Pd.eq (.tuple #[.agg #[.bool false, .slice none 0 0, .slice none 0 0], .int .i64 3]), Pd.eq (.agg #[.bool false, .slice none 0 0, .slice none 0 0]), Pd.eq (.int .i64 3), pn 27 #[.bool false, .slice none 0 0, .slice none 0 0] w2.heap.size] (by kernel_rfl) ?ob23 ?done23
          case ob23 =>
            refine And.intro (ob_move rfl (wt_none rfl) (ev_far rfl rfl) (fun _ _ h => h)) ?_
            refine And.intro (ob_call1 rfl Try.func16 (by kernel_rfl) (wt_none rfl) (ev_dep (j := 0) (by kernel_rfl) rfl rfl) (fun w2 u0 hb h0 => by obtain rfl := h0; exact (zof_any a0 _ bn.1 bn.2).mono fun e w3 h => RetZ.pi h)) ?_
            refine And.intro (ob_move rfl (wt_none rfl) (ev_far rfl rfl) (fun _ _ h => h)) ?_
            refine And.intro (ob_call1 rfl Try.func16 (by kernel_rfl) (wt_none rfl) (ev_dep (j := 2) (by kernel_rfl) rfl rfl) (fun w2 u0 hb h0 => by obtain rfl := h0; exact (zof_any a1 _ bd.1 bd.2).mono fun e w3 h => RetZ.pi h)) ?_
            refine And.intro (ob_call2 rfl Try.func6 (by kernel_rfl) (wt_none rfl) (ev_dep (j := 1) (by kernel_rfl) rfl rfl) (ev_dep (j := 3) (by kernel_rfl) rfl rfl) (fun w2 u0 u1 hb h0 h1 => by exact (fmake_zero _ a0 _ a1 _ h0 h1 hd0).mono fun e w3 h => RetQN.pd h)) ?_
            refine And.intro (ob_move rfl (wt_none rfl) (ev_dep (j := 4) (by kernel_rfl) rfl rfl) (fun _ _ h => h)) ?_
            refine And.intro (ob_extract rfl (wt_none rfl) (ev_dep (j := 5) (by kernel_rfl) rfl rfl) (fun w2 u hu => by obtain rfl := hu; exact ⟨_, rfl, rfl⟩)) ?_
            refine And.intro (ob_extract rfl (wt_none rfl) (ev_dep (j := 5) (by kernel_rfl) rfl rfl) (fun w2 u hu => by obtain rfl := hu; exact ⟨_, rfl, rfl⟩)) ?_
            refine And.intro (ob_alloc (z := .agg #[.bool false, .slice none 0 0, .slice none 0 0]) rfl rfl (fun _ => by kernel_rfl) (fun _ _ hB h => ⟨_, rfl, hB, h⟩)) ?_
            trivial
          case done23 =>
            refine fun w3 hb3 v0 h0 v1 h1 v2 h2 v3 h3 v4 h4 v5 h5 v6 h6 v7 h7 v8 h8 d8 b hbf => ?_
            obtain rfl := h0; obtain rfl := h2; obtain rfl := h4; obtain rfl := h5; obtain rfl := h6; obtain rfl := h7
            have q1 := h1
            have q3 := h3
            obtain ⟨g23_8, rfl, hg8, B8⟩ := h8
            simp only [Act.put, List.setIfInBounds_toArray, List.set_cons_zero, List.set_cons_succ] at hbf
            subst hbf
            replace BA5 := BA5.below hb3
            replace bb := bb.trans (hb3.mono bb.size)
            have hsz3 := bb.size
            have BA7 := B8
            refine ops_store (i := 9) rfl rfl rfl rfl rfl rfl (cells := [.bool false, .slice none 0 0, .slice none 0 0]) rfl BA7 rfl (by kernel_rfl) (one3 rfl rfl rfl) fun w4 hg4 BN4 => ?_
            replace BA5 := BA5.grown hg4 (by omega)
            replace bb := bb.trans ((Below.refl _ _).grown hg4 bb.size (fun g hg => by injection hg with hg; omega))
            have hsz4 := bb.size
            replace BA7 : Blk w4 (g23_8) _ #[.bool false, .slice none 0 0, .slice none 0 0] := BN4
            refine ops_assign (i := 10) (.int .i64 3) rfl rfl rfl rfl rfl fun b hbf => ?_
            simp only [Act.put, List.setIfInBounds_toArray, List.set_cons_zero, List.set_cons_succ] at hbf
            subst hbf
            refine ops_done ?_
            go_upto_region 4 with (fail)
            refine flowp 12 [Pd.eq (.agg #[.bool false, .slice none 0 0, .slice none 0 0]), Pd.eq (.agg #[.bool false, .slice none 0 0, .slice none 0 0]), Pd.eq (.bool true), Pd.eq (.bool true), Pd.eq (.int .i64 3), Pd.eq (.int .i64 3), Pd.eq (.bool true), Pd.eq (.bool true), Pd.eq (.bool true), Pd.eq (.bool true), Pd.eq (.bool true), Pd.eq (.bool true)] (by kernel_rfl) ?ob24 ?done24
            case ob24 =>
              refine And.intro (ob_load rfl (wt_none rfl) (ev_far rfl rfl) (fun w2 hb => run_loadAll Try.underlying27 rfl (by kernel_rfl) (BA5.below hb)) (fun _ _ => rfl)) ?_
              refine And.intro (ob_load rfl (wt_none rfl) (ev_far rfl rfl) (fun w2 hb => run_loadAll Try.underlying27 rfl (by kernel_rfl) (BA7.below hb)) (fun _ _ => rfl)) ?_
              refine And.intro (ob_call2 rfl Try.func12 (by kernel_rfl) (wt_none rfl) (ev_dep (j := 0) (by kernel_rfl) rfl rfl) (ev_dep (j := 1) (by kernel_rfl) rfl rfl) (fun w2 u0 u1 hb h0 h1 => by obtain rfl := h0; obtain rfl := h1; exact (qsame_null _).mono fun e w3 h => RetV.pd h)) ?_
              refine And.intro (ob_move rfl (wt_none rfl) (ev_dep (j := 2) (by kernel_rfl) rfl rfl) (fun _ _ h => h)) ?_
              refine And.intro (ob_move rfl (wt_dep (c := true) (b := true) (g := 3) rfl (by kernel_rfl) rfl rfl rfl (by exact fun _ _ h => h)) (ev_far rfl rfl) (fun _ _ h => h)) ?_
              refine And.intro (ob_move rfl (wt_dep (c := true) (b := true) (g := 3) rfl (by kernel_rfl) rfl rfl rfl (by exact fun _ _ h => h)) (ev_far rfl rfl) (fun _ _ h => h)) ?_
              refine And.intro (ob_bin rfl (wt_dep (c := true) (b := true) (g := 3) rfl (by kernel_rfl) rfl rfl rfl (by exact fun _ _ h => h)) (ev_dep (j := 4) (by kernel_rfl) rfl rfl) (ev_dep (j := 5) (by kernel_rfl) rfl rfl) (fun _ _ _ hx hy => ⟨.bool ((3 : Int) == 3), by rw [hx, hy]; exact bin_eql_int _ _ _ _ _, congrArg Value.bool (by decide)⟩)) ?_
              refine And.intro (ob_pick (b := true) rfl (wt_none rfl) (ev_dep (j := 3) (by kernel_rfl) rfl rfl) (ev_dep (j := 6) (by kernel_rfl) rfl rfl) (fun _ _ h => h)) ?_
              refine And.intro (ob_move rfl (wt_none rfl) (ev_dep (j := 7) (by kernel_rfl) rfl rfl) (fun _ _ h => h)) ?_
              refine And.intro (ob_call0 rfl Try.func7 (by kernel_rfl) (wt_dep (c := true) (b := true) (g := 8) rfl (by kernel_rfl) rfl rfl rfl (by exact fun _ _ h => h)) (fun w2 hb => (works8_any _).mono fun e w3 h => RetV.pd h)) ?_
              refine And.intro (ob_pick (b := true) rfl (wt_none rfl) (ev_dep (j := 8) (by kernel_rfl) rfl rfl) (ev_dep (j := 9) (by kernel_rfl) rfl rfl) (fun _ _ h => h)) ?_
              refine And.intro (ob_assign rfl (wt_none rfl) (ev_dep (j := 10) (by kernel_rfl) rfl rfl) (fun _ _ h => h)) ?_
              trivial
            case done24 =>
              refine fun w5 hb5 v0 h0 v1 h1 v2 h2 v3 h3 v4 h4 v5 h5 v6 h6 v7 h7 v8 h8 v9 h9 v10 h10 v11 h11 b hbf => ?_
              obtain rfl := h0; obtain rfl := h1; obtain rfl := h2; obtain rfl := h3; obtain rfl := h4; obtain rfl := h5; obtain rfl := h6; obtain rfl := h7; obtain rfl := h8; obtain rfl := h9; obtain rfl := h10; obtain rfl := h11
              simp only [Act.put, List.setIfInBounds_toArray, List.set_cons_zero, List.set_cons_succ] at hbf
              subst hbf
              replace BA5 := BA5.below hb5
              replace BA7 := BA7.below hb5
              replace bb := bb.trans (hb5.mono bb.size)
              have hsz5 := bb.size
              refine ops_done ?_
              go_wp2
              go_ret
              exact ⟨rfl, bb⟩
      · refine flowp 7 [Pd.eq (.int .i64 a0), Pd.eq (.int .i64 a1), pqe (Q) 0, pqe (Q) 0, pqn (Q), Pd.eq (.int .i64 0), pn 27 #[.bool false, .slice none 0 0, .slice none 0 0] w.heap.size] (by kernel_rfl) ?ob25 ?done25
        case ob25 =>
          refine And.intro (ob_move rfl (wt_none rfl) (ev_far rfl rfl) (fun _ _ h => h)) ?_
          refine And.intro (ob_move rfl (wt_none rfl) (ev_far rfl rfl) (fun _ _ h => h)) ?_
          refine And.intro (ob_call2 rfl Try.func15 (by kernel_rfl) (wt_none rfl) (ev_dep (j := 0) (by kernel_rfl) rfl rfl) (ev_dep (j := 1) (by kernel_rfl) rfl rfl) (fun w2 u0 u1 hb h0 h1 => by obtain rfl := h0; obtain rfl := h1; exact (HQ0.out ▸ ffrac_ok a0 a1 _ bn bd hd0).mono fun e w3 h => RetQE.pd h)) ?_
          refine And.intro (ob_move rfl (wt_none rfl) (ev_dep (j := 2) (by kernel_rfl) rfl rfl) (fun _ _ h => h)) ?_
          refine And.intro (ob_extract rfl (wt_none rfl) (ev_dep (j := 3) (by kernel_rfl) rfl rfl) (fun w2 u hu => by obtain ⟨v, rfl, q1⟩ := hu; exact ⟨v, rfl, q1⟩)) ?_
          refine And.intro (ob_extract rfl (wt_none rfl) (ev_dep (j := 3) (by kernel_rfl) rfl rfl) (fun w2 u hu => by obtain ⟨v, rfl, q1⟩ := hu; exact ⟨_, rfl, rfl⟩)) ?_
          refine And.intro (ob_alloc (z := .agg #[.bool false, .slice none 0 0, .slice none 0 0]) rfl rfl (fun _ => by kernel_rfl) (fun _ _ hB h => ⟨_, rfl, hB, h⟩)) ?_
          trivial
        case done25 =>
          refine fun w1 hb1 v0 h0 v1 h1 v2 h2 v3 h3 v4 h4 v5 h5 v6 h6 d6 b hbf => ?_
          obtain rfl := h0; obtain rfl := h1; obtain rfl := h5
          clear h2
          clear h3
          have q4 := h4
          obtain ⟨g25_6, rfl, hg6, B6⟩ := h6
          simp only [Act.put, List.setIfInBounds_toArray, List.set_cons_zero, List.set_cons_succ] at hbf
          subst hbf
          replace bb := bb.trans (hb1.mono bb.size)
          have hsz1 := bb.size
          have BA5 := B6
          obtain ⟨u4, t4, rfl, q4, d4⟩ := q4
          obtain ⟨Ap, cp, rfl, _⟩ := id q4
          obtain ⟨Dp, ep, rfl, _⟩ := id d4
          refine ops_store (i := 7) rfl rfl rfl rfl rfl rfl (cells := [.bool (ngB (Q).num), .slice Ap (digs 4294967296 (Q).num.natAbs).length cp, .slice Dp (digs 4294967296 (Q).den).length ep]) rfl BA5 rfl (by kernel_rfl) (one3 rfl rfl rfl) fun w2 hg2 BN2 => ?_
          replace q4 := off q4 BA5 no_ints3 hg2
          replace d4 := off d4 BA5 no_ints3 hg2
          replace bb := bb.trans ((Below.refl _ _).grown hg2 bb.size (fun g hg => by injection hg with hg; omega))
          have hsz2 := bb.size
          have Bp : Blk w2 (g25_6) _ _ := BN2
          have kps := q4
          have kpd := d4
          have kpz : IsZ w2 (.agg #[.bool (ngB (Q).num), .slice Ap (digs 4294967296 (Q).num.natAbs).length cp]) ((Q).num) := ⟨_, rfl, kps⟩
          have kp : IsQ w2 (.agg #[.bool (ngB (Q).num), .slice Ap (digs 4294967296 (Q).num.natAbs).length cp, .slice Dp (digs 4294967296 (Q).den).length ep]) (Q) := ⟨_, _, rfl, kps, kpd⟩
          refine ops_assign (i := 8) (.int .i64 0) rfl rfl rfl rfl rfl fun b hbf => ?_
          simp only [Act.put, List.setIfInBounds_toArray, List.set_cons_zero, List.set_cons_succ] at hbf
          subst hbf
          refine ops_done ?_
          go_upto_region 3 with (fail)
          have lt2_5 := Blk.lt Bp
          refine flowp 9 [Pd.eq (.int .i64 a0), pi (a0), Pd.eq (.int .i64 a1), pi (a1), pqe (Q) 0, pqe (Q) 0, pqn (Q), Pd.eq (.int .i64 0), pn 27 #[.bool false, .slice none 0 0, .slice none 0 0] w2.heap.size] (by kernel_rfl) ?ob26 ?done26
          case ob26 =>
            refine And.intro (ob_move rfl (wt_none rfl) (ev_far rfl rfl) (fun _ _ h => h)) ?_
            refine And.intro (ob_call1 rfl Try.func16 (by kernel_rfl) (wt_none rfl) (ev_dep (j := 0) (by kernel_rfl) rfl rfl) (fun w2 u0 hb h0 => by obtain rfl := h0; exact (zof_any a0 _ bn.1 bn.2).mono fun e w3 h => RetZ.pi h)) ?_
            refine And.intro (ob_move rfl (wt_none rfl) (ev_far rfl rfl) (fun _ _ h => h)) ?_
            refine And.intro (ob_call1 rfl Try.func16 (by kernel_rfl) (wt_none rfl) (ev_dep (j := 2) (by kernel_rfl) rfl rfl) (fun w2 u0 hb h0 => by obtain rfl := h0; exact (zof_any a1 _ bd.1 bd.2).mono fun e w3 h => RetZ.pi h)) ?_
            refine And.intro (ob_call2 rfl Try.func6 (by kernel_rfl) (wt_none rfl) (ev_dep (j := 1) (by kernel_rfl) rfl rfl) (ev_dep (j := 3) (by kernel_rfl) rfl rfl) (fun w2 u0 u1 hb h0 h1 => by exact (HQ0.out ▸ fmake_ok _ a0 _ a1 _ h0 h1 (Nat.le_trans (dig32 (by omega)) (by decide)) (Nat.le_trans (dig32 (by omega)) (by decide)) hd0).mono fun e w3 h => RetQE.pd h)) ?_
            refine And.intro (ob_move rfl (wt_none rfl) (ev_dep (j := 4) (by kernel_rfl) rfl rfl) (fun _ _ h => h)) ?_
            refine And.intro (ob_extract rfl (wt_none rfl) (ev_dep (j := 5) (by kernel_rfl) rfl rfl) (fun w2 u hu => by obtain ⟨v, rfl, q1⟩ := hu; exact ⟨v, rfl, q1⟩)) ?_
            refine And.intro (ob_extract rfl (wt_none rfl) (ev_dep (j := 5) (by kernel_rfl) rfl rfl) (fun w2 u hu => by obtain ⟨v, rfl, q1⟩ := hu; exact ⟨_, rfl, rfl⟩)) ?_
            refine And.intro (ob_alloc (z := .agg #[.bool false, .slice none 0 0, .slice none 0 0]) rfl rfl (fun _ => by kernel_rfl) (fun _ _ hB h => ⟨_, rfl, hB, h⟩)) ?_
            trivial
          case done26 =>
            refine fun w3 hb3 v0 h0 v1 h1 v2 h2 v3 h3 v4 h4 v5 h5 v6 h6 v7 h7 v8 h8 d8 b hbf => ?_
            obtain rfl := h0; obtain rfl := h2; obtain rfl := h7
            have q1 := h1
            have q3 := h3
            clear h4
            clear h5
            have q6 := h6
            obtain ⟨g26_8, rfl, hg8, B8⟩ := h8
            simp only [Act.put, List.setIfInBounds_toArray, List.set_cons_zero, List.set_cons_succ] at hbf
            subst hbf
            replace Bp := Bp.below hb3
            replace kps := kps.below hb3
            replace kpd := kpd.below hb3
            replace kpz := kpz.below hb3
            replace kp := kp.below hb3
            replace bb := bb.trans (hb3.mono bb.size)
            have hsz3 := bb.size
            have BA7 := B8
            obtain ⟨u6, t6, rfl, q6, d6⟩ := q6
            obtain ⟨Ar, cr, rfl, _⟩ := id q6
            obtain ⟨Dr, er, rfl, _⟩ := id d6
            refine ops_store (i := 9) rfl rfl rfl rfl rfl rfl (cells := [.bool (ngB (Q).num), .slice Ar (digs 4294967296 (Q).num.natAbs).length cr, .slice Dr (digs 4294967296 (Q).den).length er]) rfl BA7 rfl (by kernel_rfl) (one3 rfl rfl rfl) fun w4 hg4 BN4 => ?_
            replace q6 := off q6 BA7 no_ints3 hg4
            replace d6 := off d6 BA7 no_ints3 hg4
            replace kps := off kps BA7 no_ints3 hg4
            replace kpd := off kpd BA7 no_ints3 hg4
            replace kpz : IsZ w4 (.agg #[.bool (ngB (Q).num), .slice Ap (digs 4294967296 (Q).num.natAbs).length cp]) ((Q).num) := ⟨_, rfl, kps⟩
            replace kp : IsQ w4 (.agg #[.bool (ngB (Q).num), .slice Ap (digs 4294967296 (Q).num.natAbs).length cp, .slice Dp (digs 4294967296 (Q).den).length ep]) (Q) := ⟨_, _, rfl, kps, kpd⟩
            replace Bp := Bp.grown hg4 (by omega)
            replace bb := bb.trans ((Below.refl _ _).grown hg4 bb.size (fun g hg => by injection hg with hg; omega))
            have hsz4 := bb.size
            have Br : Blk w4 (g26_8) _ _ := BN4
            have krs := q6
            have krd := d6
            have krz : IsZ w4 (.agg #[.bool (ngB (Q).num), .slice Ar (digs 4294967296 (Q).num.natAbs).length cr]) ((Q).num) := ⟨_, rfl, krs⟩
            have kr : IsQ w4 (.agg #[.bool (ngB (Q).num), .slice Ar (digs 4294967296 (Q).num.natAbs).length cr, .slice Dr (digs 4294967296 (Q).den).length er]) (Q) := ⟨_, _, rfl, krs, krd⟩
            refine ops_assign (i := 10) (.int .i64 0) rfl rfl rfl rfl rfl fun b hbf => ?_
            simp only [Act.put, List.setIfInBounds_toArray, List.set_cons_zero, List.set_cons_succ] at hbf
            subst hbf
            refine ops_done ?_
            go_upto_region 4 with (fail)
            refine flowp 12 [Pd.eq (.agg #[.bool (ngB (Q).num), .slice Ap (digs 4294967296 (Q).num.natAbs).length cp, .slice Dp (digs 4294967296 (Q).den).length ep]), Pd.eq (.agg #[.bool (ngB (Q).num), .slice Ar (digs 4294967296 (Q).num.natAbs).length cr, .slice Dr (digs 4294967296 (Q).den).length er]), Pd.eq (.bool true), Pd.eq (.bool true), Pd.eq (.int .i64 0), Pd.eq (.int .i64 0), Pd.eq (.bool true), Pd.eq (.bool true), Pd.eq (.bool true), Pd.eq (.bool true), Pd.eq (.bool true), Pd.eq (.bool true)] (by kernel_rfl) ?ob27 ?done27
            case ob27 =>
              refine And.intro (ob_load rfl (wt_none rfl) (ev_far rfl rfl) (fun w2 hb => run_loadAll Try.underlying27 rfl (by kernel_rfl) (Bp.below hb)) (fun _ _ => rfl)) ?_
              refine And.intro (ob_load rfl (wt_none rfl) (ev_far rfl rfl) (fun w2 hb => run_loadAll Try.underlying27 rfl (by kernel_rfl) (Br.below hb)) (fun _ _ => rfl)) ?_
              refine And.intro (ob_call2 rfl Try.func12 (by kernel_rfl) (wt_none rfl) (ev_dep (j := 0) (by kernel_rfl) rfl rfl) (ev_dep (j := 1) (by kernel_rfl) rfl rfl) (fun w2 u0 u1 hb h0 h1 => by obtain rfl := h0; obtain rfl := h1; exact (qsame_eq _ _ (Q) (Q) _ (kp.below hb) (kr.below hb) rfl).mono fun e w3 h => RetV.pd h)) ?_
              refine And.intro (ob_move rfl (wt_none rfl) (ev_dep (j := 2) (by kernel_rfl) rfl rfl) (fun _ _ h => h)) ?_
              refine And.intro (ob_move rfl (wt_dep (c := true) (b := true) (g := 3) rfl (by kernel_rfl) rfl rfl rfl (by exact fun _ _ h => h)) (ev_far rfl rfl) (fun _ _ h => h)) ?_
              refine And.intro (ob_move rfl (wt_dep (c := true) (b := true) (g := 3) rfl (by kernel_rfl) rfl rfl rfl (by exact fun _ _ h => h)) (ev_far rfl rfl) (fun _ _ h => h)) ?_
              refine And.intro (ob_bin rfl (wt_dep (c := true) (b := true) (g := 3) rfl (by kernel_rfl) rfl rfl rfl (by exact fun _ _ h => h)) (ev_dep (j := 4) (by kernel_rfl) rfl rfl) (ev_dep (j := 5) (by kernel_rfl) rfl rfl) (fun _ _ _ hx hy => ⟨.bool ((0 : Int) == 0), by rw [hx, hy]; exact bin_eql_int _ _ _ _ _, congrArg Value.bool (by decide)⟩)) ?_
              refine And.intro (ob_pick (b := true) rfl (wt_none rfl) (ev_dep (j := 3) (by kernel_rfl) rfl rfl) (ev_dep (j := 6) (by kernel_rfl) rfl rfl) (fun _ _ h => h)) ?_
              refine And.intro (ob_move rfl (wt_none rfl) (ev_dep (j := 7) (by kernel_rfl) rfl rfl) (fun _ _ h => h)) ?_
              refine And.intro (ob_call0 rfl Try.func7 (by kernel_rfl) (wt_dep (c := true) (b := true) (g := 8) rfl (by kernel_rfl) rfl rfl rfl (by exact fun _ _ h => h)) (fun w2 hb => (works8_any _).mono fun e w3 h => RetV.pd h)) ?_
              refine And.intro (ob_pick (b := true) rfl (wt_none rfl) (ev_dep (j := 8) (by kernel_rfl) rfl rfl) (ev_dep (j := 9) (by kernel_rfl) rfl rfl) (fun _ _ h => h)) ?_
              refine And.intro (ob_assign rfl (wt_none rfl) (ev_dep (j := 10) (by kernel_rfl) rfl rfl) (fun _ _ h => h)) ?_
              trivial
            case done27 =>
              refine fun w5 hb5 v0 h0 v1 h1 v2 h2 v3 h3 v4 h4 v5 h5 v6 h6 v7 h7 v8 h8 v9 h9 v10 h10 v11 h11 b hbf => ?_
              obtain rfl := h0; obtain rfl := h1; obtain rfl := h2; obtain rfl := h3; obtain rfl := h4; obtain rfl := h5; obtain rfl := h6; obtain rfl := h7; obtain rfl := h8; obtain rfl := h9; obtain rfl := h10; obtain rfl := h11
              simp only [Act.put, List.setIfInBounds_toArray, List.set_cons_zero, List.set_cons_succ] at hbf
              subst hbf
              replace Bp := Bp.below hb5
              replace kps := kps.below hb5
              replace kpd := kpd.below hb5
              replace kpz := kpz.below hb5
              replace kp := kp.below hb5
              replace Br := Br.below hb5
              replace krs := krs.below hb5
              replace krd := krd.below hb5
              replace krz := krz.below hb5
              replace kr := kr.below hb5
              replace bb := bb.trans (hb5.mono bb.size)
              have hsz5 := bb.size
              refine ops_done ?_
              go_wp2
              go_ret
              exact ⟨rfl, bb⟩

set_option maxRecDepth 100000 in
theorem lifted (os : Os) (started : os.Started) (H : Type) (enc : TypeId × Value → H) :
    ReturnsInHanded {} Try.checked os 4 .any (Rows.ratSmallsSpec.pre6 enc Try.prog Try.f4 Rows.ratSmallsRow.domain false) (Rows.ratSmallsSpec.post enc Try.prog Try.f4 false true false false) := by
  refine returnsInHanded_of_change (C := Try.checked) own started (by kernel_rfl) Try.func4
    (ChangeSpec.witness6 (enc := enc) (C := Try.checked) false ⟨#[], #[.int .i64 0, .int .i64 0], []⟩ 8 (by kernel_rfl) (by kernel_rfl) (by kernel_rfl) (by kernel_rfl)) ?_
  intro W base args ds gs before hval0 hW hcnd _
  have hval : ∀ (j : Nat) t v, Try.f4.params[j]? = some t → args[j]? = some v → Value.okWide Try.prog W .any base t v := hval0
  have hW' := hW
  obtain ⟨p, q, hA0, hV, rfl, hfz, hnd⟩ := hW
  have hA : DataW.TrodAll enc Try.prog W 0 (fun _ => true) true Try.f4.params.toList args.toList ds p := hA0
  rw [Try.params4] at hA hval
  obtain ⟨v0, vs0, d0, ds0, p0, q0, hargs, rfl, rfl, t0, r0⟩ := trodAll_cons hA
  obtain ⟨v1, vs1, d1, ds1, p1, q1, rfl, rfl, rfl, t1, r1⟩ := trodAll_cons r0
  obtain ⟨rfl, rfl, rfl⟩ := trodAll_nil r1
  obtain rfl : args = #[v0, v1] := by cases args; simp_all
  obtain ⟨rfl, rfl⟩ := trodVars_none hV
  obtain ⟨a0, rfl, hd0, hp0, wf0⟩ := open_int Try.underlying3 (hval 0 3 v0 rfl rfl) t0
  obtain ⟨a1, rfl, hd1, hp1, wf1⟩ := open_int Try.underlying3 (hval 1 3 v1 rfl rfl) t1
  clear hA0 hval0
  simp only [List.append_nil] at hW'
  have hlt0 : ∀ x ∈ p0, x.block < W.heap.size := fun x hx => hW'.lt x (List.mem_append_left _ hx)
  have hlt1 : ∀ x ∈ p1, x.block < W.heap.size := fun x hx => hW'.lt x (List.mem_append_right _ (hx))
  refine (walk a0 a1 W wf0 wf1).mono fun e W' ⟨he, hb⟩ => ?_
  subst he
  have s0 := Below.trod laidOut (by kernel_rfl) (of_decide_eq_true (by kernel_rfl)) t0 hb hlt0
  have s1 := Below.trod laidOut (by kernel_rfl) (of_decide_eq_true (by kernel_rfl)) t1 hb hlt1
  exact ⟨_, rfl, _, _, _, [] ++ [], _, [], hW', trodAll_cons_mk (shut_bool Try.underlying4 _) trodAll_mk0, trodAll_cons_mk s0 (trodAll_cons_mk s1 (trodAll_mk0)), rfl, hb.frame _, fun h => by cases h⟩

theorem over : Rows.ratSmallsRow.holds Try.pinned (OpenSpec.ofChange Rows.ratSmallsSpec) :=
  OpenClaim.holds_of_wide 4 Try.f4 rfl rfl rfl rfl rfl rfl rfl ⟨rfl, rfl, rfl, rfl, rfl⟩ rfl rfl rfl rfl rfl (by kernel_rfl) Try.func4 (by kernel_rfl)
    (of_decide_eq_true (by kernel_rfl)) (by unfold Func.isWrapper; first | (rw [if_pos (by decide +kernel)]; kernel_rfl) | (rw [if_neg (by decide +kernel)]; exact ⟨rfl, rfl⟩))
    (fun os started H enc _ => lifted os started H enc)

/-- The statement. -/
theorem proved : Rows.RatSmallsSaid := over
end Go.Proofs.Ytbebmknfecehnaa.ratSmalls
