/- VectMakes: rows of noughts, and units. Condition: the arguments can be read as data. -/
import Derived.Test.YtodpjmbclmlieaaK4
import Derived.Deep.Cut
import Derived.OpenShut
import Derived.LaidMore
import Derived.Lay
import Derived.Stop.Joined
namespace Go.Proofs.Ytodpjmbclmlieaa.vectMakes
open Go.ChangeShapes Go.WideShapes Go.ChangeAt Go.RowKit Go.Proofs.Ytodpjmbclmlieaa.num Go.Proofs.Ytodpjmbclmlieaa.mem Go.Proofs.Ytodpjmbclmlieaa.nat Go.Proofs.Ytodpjmbclmlieaa.txt Go.Proofs.Ytodpjmbclmlieaa.str Go.Proofs.Ytodpjmbclmlieaa.flow Go.Proofs.Ytodpjmbclmlieaa.whl Go.Proofs.Ytodpjmbclmlieaa.rat
set_option linter.unusedVariables false
theorem own : ownKnob Try.prog.godebug = none := by kernel_rfl
theorem laidOut : laidOutB Try.prog = true := by kernel_rfl
theorem cells_u : Try.prog.cellsOf 53 = 1 := by kernel_rfl
set_option maxHeartbeats 6400000 in
set_option maxRecDepth 100000 in
/-- The walk: the Go text returns true; what was there is as it was. -/
theorem walk (a0 : Int) (a1 : Int) (w : World) (wf0 : (Lit.int .i64 a0).wf = true) (wf1 : (Lit.int .i64 a1).wf = true) :
    Calls Try.prog 3 #[.int .i64 a0, .int .i64 a1] w (RetV (.bool true) w) := by
  have HE0 : Hid ((((([] : List Rat).length : Nat) : Int) == 0) = true) := rfl
  go_enter Try.func3, Try.ntmps3
  have bb : Below w.heap.size w w := Below.refl _ _
  have hsz0 := bb.size
  by_cases hr : a0 < 0 ∨ 200 < a0
  · have HN := Lib.hid hr
    have HU : Hid (a0 < 0 ∨ 200 < a0 ∨ a1 < 0 ∨ a0 ≤ a1) := by have := HN.out; show _ ∨ _; omega
    go_upto_region 1 with (fail)
    refine flowp 7 [Pd.eq (.int .i64 a0), psl .u64 4294967296 ([]) 2, psl .u64 4294967296 ([]) 2, pslv .u64 4294967296 ([]), Pd.eq (.int .i64 2), pslv .u64 4294967296 ([]), Pd.eq (.int .i64 2)] (by kernel_rfl) ?ob3 ?done3
    case ob3 =>
      refine And.intro (ob_move rfl (wt_none rfl) (ev_far rfl rfl) (fun _ _ h => h)) ?_
      refine And.intro (ob_call1 rfl Try.func5 (by kernel_rfl) (wt_none rfl) (ev_dep (j := 0) (by kernel_rfl) rfl rfl) (fun w2 u0 hb h0 => by obtain rfl := h0; exact (fzero_no a0 _ HN.out).mono fun e w3 h => RetQLE.pd h)) ?_
      refine And.intro (ob_move rfl (wt_none rfl) (ev_dep (j := 1) (by kernel_rfl) rfl rfl) (fun _ _ h => h)) ?_
      refine And.intro (ob_extract rfl (wt_none rfl) (ev_dep (j := 2) (by kernel_rfl) rfl rfl) (fun w2 u hu => by obtain ⟨V, rfl, h1⟩ := hu; exact ⟨V, rfl, h1⟩)) ?_
      refine And.intro (ob_extract rfl (wt_none rfl) (ev_dep (j := 2) (by kernel_rfl) rfl rfl) (fun w2 u hu => by obtain ⟨V, rfl, h1⟩ := hu; exact ⟨_, rfl, rfl⟩)) ?_
      refine And.intro (ob_assign rfl (wt_none rfl) (ev_dep (j := 3) (by kernel_rfl) rfl rfl) (fun _ _ h => h)) ?_
      refine And.intro (ob_assign rfl (wt_none rfl) (ev_dep (j := 4) (by kernel_rfl) rfl rfl) (fun _ _ h => h)) ?_
      trivial
    case done3 =>
      refine fun w1 hb1 v0 h0 v1 h1 v2 h2 v3 h3 v4 h4 v5 h5 v6 h6 b hbf => ?_
      obtain rfl := h0; obtain rfl := h4; obtain rfl := h6
      clear h1
      clear h2
      have q3 := h3
      have q5 := h5
      simp only [Act.put, List.setIfInBounds_toArray, List.set_cons_zero, List.set_cons_succ] at hbf
      subst hbf
      replace bb := bb.trans (hb1.mono bb.size)
      have hsz1 := bb.size
      refine ops_done ?_
      have hZ := q5
      obtain ⟨AZ, cZ, rfl, _, hmZ⟩ := hZ.shape
      go_upto_region 2 with (fail)
      refine flowp 8 [Pd.eq (.int .i64 a0), Pd.eq (.int .i64 a1), psl .u64 4294967296 ([]) 2, psl .u64 4294967296 ([]) 2, pslv .u64 4294967296 ([]), Pd.eq (.int .i64 2), pslv .u64 4294967296 ([]), Pd.eq (.int .i64 2)] (by kernel_rfl) ?ob4 ?done4
      case ob4 =>
        refine And.intro (ob_move rfl (wt_none rfl) (ev_far rfl rfl) (fun _ _ h => h)) ?_
        refine And.intro (ob_move rfl (wt_none rfl) (ev_far rfl rfl) (fun _ _ h => h)) ?_
        refine And.intro (ob_call2 rfl Try.func6 (by kernel_rfl) (wt_none rfl) (ev_dep (j := 0) (by kernel_rfl) rfl rfl) (ev_dep (j := 1) (by kernel_rfl) rfl rfl) (fun w2 u0 u1 hb h0 h1 => by obtain rfl := h0; obtain rfl := h1; exact (funit_no a0 a1 _ HU.out).mono fun e w3 h => RetQLE.pd h)) ?_
        refine And.intro (ob_move rfl (wt_none rfl) (ev_dep (j := 2) (by kernel_rfl) rfl rfl) (fun _ _ h => h)) ?_
        refine And.intro (ob_extract rfl (wt_none rfl) (ev_dep (j := 3) (by kernel_rfl) rfl rfl) (fun w2 u hu => by obtain ⟨V, rfl, h1⟩ := hu; exact ⟨V, rfl, h1⟩)) ?_
        refine And.intro (ob_extract rfl (wt_none rfl) (ev_dep (j := 3) (by kernel_rfl) rfl rfl) (fun w2 u hu => by obtain ⟨V, rfl, h1⟩ := hu; exact ⟨_, rfl, rfl⟩)) ?_
        refine And.intro (ob_assign rfl (wt_none rfl) (ev_dep (j := 4) (by kernel_rfl) rfl rfl) (fun _ _ h => h)) ?_
        refine And.intro (ob_assign rfl (wt_none rfl) (ev_dep (j := 5) (by kernel_rfl) rfl rfl) (fun _ _ h => h)) ?_
        trivial
      case done4 =>
        refine fun w2 hb2 v0 h0 v1 h1 v2 h2 v3 h3 v4 h4 v5 h5 v6 h6 v7 h7 b hbf => ?_
        obtain rfl := h0; obtain rfl := h1; obtain rfl := h5; obtain rfl := h7
        clear h2
        clear h3
        have q4 := h4
        have q6 := h6
        simp only [Act.put, List.setIfInBounds_toArray, List.set_cons_zero, List.set_cons_succ] at hbf
        subst hbf
        replace hZ := hZ.below hb2
        replace bb := bb.trans (hb2.mono bb.size)
        have hsz2 := bb.size
        refine ops_done ?_
        have hU := q6
        obtain ⟨AU, cU, rfl, _, hmU⟩ := hU.shape
        by_cases hlo : a0 < 0
        · have H1 : Hid (decide (a0 < 0) = true) := decide_eq_true hlo
          clear hlo hr
          go_upto_region 3 with (fail)
          refine flowp 6 [Pd.eq (.int .i64 a0), Pd.eq (.bool true), Pd.eq (.bool true), Pd.any, Pd.any, Pd.eq (.bool true)] (by kernel_rfl) ?ob5 ?done5
          case ob5 =>
            refine And.intro (ob_move rfl (wt_none rfl) (ev_far rfl rfl) (fun _ _ h => h)) ?_
            refine And.intro (ob_bin rfl (wt_none rfl) (ev_dep (j := 0) (by kernel_rfl) rfl rfl) (ev_const _) (fun _ _ _ hx hy => ⟨.bool true, by rw [hx, hy, bin_lss_int, H1.out], rfl⟩)) ?_
            refine And.intro (ob_move rfl (wt_none rfl) (ev_dep (j := 1) (by kernel_rfl) rfl rfl) (fun _ _ h => h)) ?_
            refine And.intro (ob_not (wt_dep (c := true) (b := false) (g := 2) rfl (by kernel_rfl) rfl rfl rfl (by exact fun _ _ h => h)) (fun _ => trivial) rfl) ?_
            refine And.intro (ob_not (wt_dep (c := true) (b := false) (g := 2) rfl (by kernel_rfl) rfl rfl rfl (by exact fun _ _ h => h)) (fun _ => trivial) rfl) ?_
            refine And.intro (ob_pick (b := true) rfl (wt_none rfl) (ev_dep (j := 2) (by kernel_rfl) rfl rfl) (ev_const _) (fun _ _ h => h)) ?_
            trivial
          case done5 =>
            refine fun w3 hb3 v0 h0 v1 h1 v2 h2 v3 h3 v4 h4 v5 h5 b hbf => ?_
            obtain rfl := h0; obtain rfl := h1; obtain rfl := h2; obtain rfl := h5
            clear h3
            clear h4
            simp only [Act.put, List.setIfInBounds_toArray, List.set_cons_zero, List.set_cons_succ] at hbf
            subst hbf
            replace hZ := hZ.below hb3
            replace hU := hU.below hb3
            replace bb := bb.trans (hb3.mono bb.size)
            have hsz3 := bb.size
            refine ops_done ?_
            go_upto_region 4 with (fail)
            refine flowp 19 [Pd.eq (.int .i64 2), Pd.eq (.bool true), Pd.eq (.bool true), Pd.eq (.int .i64 2), Pd.eq (.int .i64 2), Pd.eq (.bool true), Pd.eq (.bool true), Pd.eq (.bool true), Pd.eq (.slice AZ ([] : List Rat).length cZ), Pd.eq (.int .i64 ((([] : List Rat).length : Nat) : Int)), Pd.eq (.slice AU ([] : List Rat).length cU), Pd.eq (.int .i64 ((([] : List Rat).length : Nat) : Int)), Pd.eq (.int .i64 0), Pd.eq (.bool true), Pd.eq (.bool true), Pd.eq (.bool true), Pd.eq (.bool true), Pd.eq (.bool true), Pd.eq (.bool true)] (by kernel_rfl) ?ob6 ?done6
            case ob6 =>
              refine And.intro (ob_move rfl (wt_none rfl) (ev_far rfl rfl) (fun _ _ h => h)) ?_
              refine And.intro (ob_bin rfl (wt_none rfl) (ev_dep (j := 0) (by kernel_rfl) rfl rfl) (ev_const _) (fun _ _ _ hx hy => ⟨.bool ((2 : Int) == 2), by rw [hx, hy]; exact bin_eql_int _ _ _ _ _, congrArg Value.bool (by decide)⟩)) ?_
              refine And.intro (ob_move rfl (wt_none rfl) (ev_dep (j := 1) (by kernel_rfl) rfl rfl) (fun _ _ h => h)) ?_
              refine And.intro (ob_move rfl (wt_dep (c := true) (b := true) (g := 2) rfl (by kernel_rfl) rfl rfl rfl (by exact fun _ _ h => h)) (ev_far rfl rfl) (fun _ _ h => h)) ?_
              refine And.intro (ob_move rfl (wt_dep (c := true) (b := true) (g := 2) rfl (by kernel_rfl) rfl rfl rfl (by exact fun _ _ h => h)) (ev_far rfl rfl) (fun _ _ h => h)) ?_
              refine And.intro (ob_bin rfl (wt_dep (c := true) (b := true) (g := 2) rfl (by kernel_rfl) rfl rfl rfl (by exact fun _ _ h => h)) (ev_dep (j := 3) (by kernel_rfl) rfl rfl) (ev_dep (j := 4) (by kernel_rfl) rfl rfl) (fun _ _ _ hx hy => ⟨.bool ((2 : Int) == 2), by rw [hx, hy]; exact bin_eql_int _ _ _ _ _, congrArg Value.bool (by decide)⟩)) ?_
              refine And.intro (ob_pick (b := true) rfl (wt_none rfl) (ev_dep (j := 2) (by kernel_rfl) rfl rfl) (ev_dep (j := 5) (by kernel_rfl) rfl rfl) (fun _ _ h => h)) ?_
              refine And.intro (ob_move rfl (wt_none rfl) (ev_dep (j := 6) (by kernel_rfl) rfl rfl) (fun _ _ h => h)) ?_
              refine And.intro (ob_move rfl (wt_dep (c := true) (b := true) (g := 7) rfl (by kernel_rfl) rfl rfl rfl (by exact fun _ _ h => h)) (ev_far rfl rfl) (fun _ _ h => h)) ?_
              refine And.intro (ob_len rfl (wt_dep (c := true) (b := true) (g := 7) rfl (by kernel_rfl) rfl rfl rfl (by exact fun _ _ h => h)) (ev_dep (j := 8) (by kernel_rfl) rfl rfl) (fun _ _ hx => ⟨_, by rw [hx]; exact len_slice Try.underlying22 _ _ _ _, rfl⟩)) ?_
              refine And.intro (ob_move rfl (wt_dep (c := true) (b := true) (g := 7) rfl (by kernel_rfl) rfl rfl rfl (by exact fun _ _ h => h)) (ev_far rfl rfl) (fun _ _ h => h)) ?_
              refine And.intro (ob_len rfl (wt_dep (c := true) (b := true) (g := 7) rfl (by kernel_rfl) rfl rfl rfl (by exact fun _ _ h => h)) (ev_dep (j := 10) (by kernel_rfl) rfl rfl) (fun _ _ hx => ⟨_, by rw [hx]; exact len_slice Try.underlying22 _ _ _ _, rfl⟩)) ?_
              refine And.intro (ob_bin rfl (wt_dep (c := true) (b := true) (g := 7) rfl (by kernel_rfl) rfl rfl rfl (by exact fun _ _ h => h)) (ev_dep (j := 9) (by kernel_rfl) rfl rfl) (ev_dep (j := 11) (by kernel_rfl) rfl rfl) (fun _ _ _ hx hy => ⟨_, by rw [hx, hy]; exact bin_add_nat _ _ 0 0 (by omega) _, rfl⟩)) ?_
              refine And.intro (ob_bin rfl (wt_dep (c := true) (b := true) (g := 7) rfl (by kernel_rfl) rfl rfl rfl (by exact fun _ _ h => h)) (ev_dep (j := 12) (by kernel_rfl) rfl rfl) (ev_const _) (fun _ _ _ hx hy => ⟨.bool ((0 : Int) == 0), by rw [hx, hy]; exact bin_eql_int _ _ _ _ _, congrArg Value.bool (by decide)⟩)) ?_
              refine And.intro (ob_pick (b := true) rfl (wt_none rfl) (ev_dep (j := 7) (by kernel_rfl) rfl rfl) (ev_dep (j := 13) (by kernel_rfl) rfl rfl) (fun _ _ h => h)) ?_
              refine And.intro (ob_move rfl (wt_none rfl) (ev_dep (j := 14) (by kernel_rfl) rfl rfl) (fun _ _ h => h)) ?_
              refine And.intro (ob_call0 rfl Try.func7 (by kernel_rfl) (wt_dep (c := true) (b := true) (g := 15) rfl (by kernel_rfl) rfl rfl rfl (by exact fun _ _ h => h)) (fun w2 hb => (works11_any _).mono fun e w3 h => RetV.pd h)) ?_
              refine And.intro (ob_pick (b := true) rfl (wt_none rfl) (ev_dep (j := 15) (by kernel_rfl) rfl rfl) (ev_dep (j := 16) (by kernel_rfl) rfl rfl) (fun _ _ h => h)) ?_
              refine And.intro (ob_assign rfl (wt_none rfl) (ev_dep (j := 17) (by kernel_rfl) rfl rfl) (fun _ _ h => h)) ?_
              trivial
            case done6 =>
              refine fun w4 hb4 v0 h0 v1 h1 v2 h2 v3 h3 v4 h4 v5 h5 v6 h6 v7 h7 v8 h8 v9 h9 v10 h10 v11 h11 v12 h12 v13 h13 v14 h14 v15 h15 v16 h16 v17 h17 v18 h18 b hbf => ?_
              obtain rfl := h0; obtain rfl := h1; obtain rfl := h2; obtain rfl := h3; obtain rfl := h4; obtain rfl := h5; obtain rfl := h6; obtain rfl := h7; obtain rfl := h8; obtain rfl := h9; obtain rfl := h10; obtain rfl := h11; obtain rfl := h12; obtain rfl := h13; obtain rfl := h14; obtain rfl := h15; obtain rfl := h16; obtain rfl := h17; obtain rfl := h18
              simp only [Act.put, List.setIfInBounds_toArray, List.set_cons_zero, List.set_cons_succ] at hbf
              subst hbf
              replace hZ := hZ.below hb4
              replace hU := hU.below hb4
              replace bb := bb.trans (hb4.mono bb.size)
              have hsz4 := bb.size
              refine ops_done ?_
              go_wp2
              go_ret
              exact ⟨rfl, bb⟩
        · have H1 : Hid (decide (a0 < 0) = false) := decide_eq_false hlo
          have H2 : Hid (decide (200 < a0) = true) := decide_eq_true (by omega)
          clear hlo hr
          go_upto_region 3 with (fail)
          refine flowp 6 [Pd.eq (.int .i64 a0), Pd.eq (.bool false), Pd.eq (.bool false), Pd.eq (.int .i64 a0), Pd.eq (.bool true), Pd.eq (.bool true)] (by kernel_rfl) ?ob7 ?done7
          case ob7 =>
            refine And.intro (ob_move rfl (wt_none rfl) (ev_far rfl rfl) (fun _ _ h => h)) ?_
            refine And.intro (ob_bin rfl (wt_none rfl) (ev_dep (j := 0) (by kernel_rfl) rfl rfl) (ev_const _) (fun _ _ _ hx hy => ⟨.bool false, by rw [hx, hy, bin_lss_int, H1.out], rfl⟩)) ?_
            refine And.intro (ob_move rfl (wt_none rfl) (ev_dep (j := 1) (by kernel_rfl) rfl rfl) (fun _ _ h => h)) ?_
            refine And.intro (ob_move rfl (wt_dep (c := false) (b := false) (g := 2) rfl (by kernel_rfl) rfl rfl rfl (by exact fun _ _ h => h)) (ev_far rfl rfl) (fun _ _ h => h)) ?_
            refine And.intro (ob_bin rfl (wt_dep (c := false) (b := false) (g := 2) rfl (by kernel_rfl) rfl rfl rfl (by exact fun _ _ h => h)) (ev_dep (j := 3) (by kernel_rfl) rfl rfl) (ev_const _) (fun _ _ _ hx hy => ⟨.bool true, by rw [hx, hy, bin_gtr_int, H2.out], rfl⟩)) ?_
            refine And.intro (ob_pick (b := false) rfl (wt_none rfl) (ev_dep (j := 2) (by kernel_rfl) rfl rfl) (ev_dep (j := 4) (by kernel_rfl) rfl rfl) (fun _ _ h => h)) ?_
            trivial
          case done7 =>
            refine fun w3 hb3 v0 h0 v1 h1 v2 h2 v3 h3 v4 h4 v5 h5 b hbf => ?_
            obtain rfl := h0; obtain rfl := h1; obtain rfl := h2; obtain rfl := h3; obtain rfl := h4; obtain rfl := h5
            simp only [Act.put, List.setIfInBounds_toArray, List.set_cons_zero, List.set_cons_succ] at hbf
            subst hbf
            replace hZ := hZ.below hb3
            replace hU := hU.below hb3
            replace bb := bb.trans (hb3.mono bb.size)
            have hsz3 := bb.size
            refine ops_done ?_
            go_upto_region 4 with (fail)
            refine flowp 19 [Pd.eq (.int .i64 2), Pd.eq (.bool true), Pd.eq (.bool true), Pd.eq (.int .i64 2), Pd.eq (.int .i64 2), Pd.eq (.bool true), Pd.eq (.bool true), Pd.eq (.bool true), Pd.eq (.slice AZ ([] : List Rat).length cZ), Pd.eq (.int .i64 ((([] : List Rat).length : Nat) : Int)), Pd.eq (.slice AU ([] : List Rat).length cU), Pd.eq (.int .i64 ((([] : List Rat).length : Nat) : Int)), Pd.eq (.int .i64 0), Pd.eq (.bool true), Pd.eq (.bool true), Pd.eq (.bool true), Pd.eq (.bool true), Pd.eq (.bool true), Pd.eq (.bool true)] (by kernel_rfl) ?ob8 ?done8
            case ob8 =>
              refine And.intro (ob_move rfl (wt_none rfl) (ev_far rfl rfl) (fun _ _ h => h)) ?_
              refine And.intro (ob_bin rfl (wt_none rfl) (ev_dep (j := 0) (by kernel_rfl) rfl rfl) (ev_const _) (fun _ _ _ hx hy => ⟨.bool ((2 : Int) == 2), by rw [hx, hy]; exact bin_eql_int _ _ _ _ _, congrArg Value.bool (by decide)⟩)) ?_
              refine And.intro (ob_move rfl (wt_none rfl) (ev_dep (j := 1) (by kernel_rfl) rfl rfl) (fun _ _ h => h)) ?_
              refine And.intro (ob_move rfl (wt_dep (c := true) (b := true) (g := 2) rfl (by kernel_rfl) rfl rfl rfl (by exact fun _ _ h => h)) (ev_far rfl rfl) (fun _ _ h => h)) ?_
              refine And.intro (ob_move rfl (wt_dep (c := true) (b := true) (g := 2) rfl (by kernel_rfl) rfl rfl rfl (by exact fun _ _ h => h)) (ev_far rfl rfl) (fun _ _ h => h)) ?_
              refine And.intro (ob_bin rfl (wt_dep (c := true) (b := true) (g := 2) rfl (by kernel_rfl) rfl rfl rfl (by exact fun _ _ h => h)) (ev_dep (j := 3) (by kernel_rfl) rfl rfl) (ev_dep (j := 4) (by kernel_rfl) rfl rfl) (fun _ _ _ hx hy => ⟨.bool ((2 : Int) == 2), by rw [hx, hy]; exact bin_eql_int _ _ _ _ _, congrArg Value.bool (by decide)⟩)) ?_
              refine And.intro (ob_pick (b := true) rfl (wt_none rfl) (ev_dep (j := 2) (by kernel_rfl) rfl rfl) (ev_dep (j := 5) (by kernel_rfl) rfl rfl) (fun _ _ h => h)) ?_
              refine And.intro (ob_move rfl (wt_none rfl) (ev_dep (j := 6) (by kernel_rfl) rfl rfl) (fun _ _ h => h)) ?_
              refine And.intro (ob_move rfl (wt_dep (c := true) (b := true) (g := 7) rfl (by kernel_rfl) rfl rfl rfl (by exact fun _ _ h => h)) (ev_far rfl rfl) (fun _ _ h => h)) ?_
              refine And.intro (ob_len rfl (wt_dep (c := true) (b := true) (g := 7) rfl (by kernel_rfl) rfl rfl rfl (by exact fun _ _ h => h)) (ev_dep (j := 8) (by kernel_rfl) rfl rfl) (fun _ _ hx => ⟨_, by rw [hx]; exact len_slice Try.underlying22 _ _ _ _, rfl⟩)) ?_
              refine And.intro (ob_move rfl (wt_dep (c := true) (b := true) (g := 7) rfl (by kernel_rfl) rfl rfl rfl (by exact fun _ _ h => h)) (ev_far rfl rfl) (fun _ _ h => h)) ?_
              refine And.intro (ob_len rfl (wt_dep (c := true) (b := true) (g := 7) rfl (by kernel_rfl) rfl rfl rfl (by exact fun _ _ h => h)) (ev_dep (j := 10) (by kernel_rfl) rfl rfl) (fun _ _ hx => ⟨_, by rw [hx]; exact len_slice Try.underlying22 _ _ _ _, rfl⟩)) ?_
              refine And.intro (ob_bin rfl (wt_dep (c := true) (b := true) (g := 7) rfl (by kernel_rfl) rfl rfl rfl (by exact fun _ _ h => h)) (ev_dep (j := 9) (by kernel_rfl) rfl rfl) (ev_dep (j := 11) (by kernel_rfl) rfl rfl) (fun _ _ _ hx hy => ⟨_, by rw [hx, hy]; exact bin_add_nat _ _ 0 0 (by omega) _, rfl⟩)) ?_
              refine And.intro (ob_bin rfl (wt_dep (c := true) (b := true) (g := 7) rfl (by kernel_rfl) rfl rfl rfl (by exact fun _ _ h => h)) (ev_dep (j := 12) (by kernel_rfl) rfl rfl) (ev_const _) (fun _ _ _ hx hy => ⟨.bool ((0 : Int) == 0), by rw [hx, hy]; exact bin_eql_int _ _ _ _ _, congrArg Value.bool (by decide)⟩)) ?_
              refine And.intro (ob_pick (b := true) rfl (wt_none rfl) (ev_dep (j := 7) (by kernel_rfl) rfl rfl) (ev_dep (j := 13) (by kernel_rfl) rfl rfl) (fun _ _ h => h)) ?_
              refine And.intro (ob_move rfl (wt_none rfl) (ev_dep (j := 14) (by kernel_rfl) rfl rfl) (fun _ _ h => h)) ?_
              refine And.intro (ob_call0 rfl Try.func7 (by kernel_rfl) (wt_dep (c := true) (b := true) (g := 15) rfl (by kernel_rfl) rfl rfl rfl (by exact fun _ _ h => h)) (fun w2 hb => (works11_any _).mono fun e w3 h => RetV.pd h)) ?_
              refine And.intro (ob_pick (b := true) rfl (wt_none rfl) (ev_dep (j := 15) (by kernel_rfl) rfl rfl) (ev_dep (j := 16) (by kernel_rfl) rfl rfl) (fun _ _ h => h)) ?_
              refine And.intro (ob_assign rfl (wt_none rfl) (ev_dep (j := 17) (by kernel_rfl) rfl rfl) (fun _ _ h => h)) ?_
              trivial
            case done8 =>
              refine fun w4 hb4 v0 h0 v1 h1 v2 h2 v3 h3 v4 h4 v5 h5 v6 h6 v7 h7 v8 h8 v9 h9 v10 h10 v11 h11 v12 h12 v13 h13 v14 h14 v15 h15 v16 h16 v17 h17 v18 h18 b hbf => ?_
              obtain rfl := h0; obtain rfl := h1; obtain rfl := h2; obtain rfl := h3; obtain rfl := h4; obtain rfl := h5; obtain rfl := h6; obtain rfl := h7; obtain rfl := h8; obtain rfl := h9; obtain rfl := h10; obtain rfl := h11; obtain rfl := h12; obtain rfl := h13; obtain rfl := h14; obtain rfl := h15; obtain rfl := h16; obtain rfl := h17; obtain rfl := h18
              simp only [Act.put, List.setIfInBounds_toArray, List.set_cons_zero, List.set_cons_succ] at hbf
              subst hbf
              replace hZ := hZ.below hb4
              replace hU := hU.below hb4
              replace bb := bb.trans (hb4.mono bb.size)
              have hsz4 := bb.size
              refine ops_done ?_
              go_wp2
              go_ret
              exact ⟨rfl, bb⟩
  · obtain ⟨d, hd⟩ : ∃ d : Nat, a0 = (d : Int) := ⟨a0.toNat, by omega⟩
    have hd2 : d ≤ 200 := by omega
    have H1 : Hid (decide (a0 < 0) = false) := decide_eq_false (by omega)
    have H2 : Hid (decide (200 < a0) = false) := decide_eq_false (by omega)
    have HD := Lib.hid hd
    obtain ⟨Z, hz⟩ : ∃ Z, Z = zerosq d := ⟨_, rfl⟩
    have HZ := Lib.hid hz
    have HZL : Hid (Z.length = d) := by show _ = _; rw [hz]; exact zerosq_len d
    have HZN : Hid ((((Z.length : Nat) : Int) != a0) = false) := by show _ = _; rw [HZL.out, hd, bne_self_eq_false]
    have HZE : Hid ((((Z.length : Nat) : Int) == a0) = true) := by show _ = _; rw [HZL.out, hd, beq_self_eq_true]
    have HLZ : Hid (Z.length ≤ 200 ∧ ∀ x ∈ Z, lenQ x 3) := ⟨by rw [HZL.out]; exact hd2, fun x hx => (lenQ_01 (.inl (zerosq_mem (by rw [← hz]; exact hx)))).mono (by omega)⟩
    have HKZ : Hid (a0 = ((leadq Z : Nat) : Int)) := by show _ = _; rw [hz, leadq_zeros, hd]
    have l0 : lenQ ((0 : Int) : Rat) 1 := ⟨digs_len_le (k := 1) (by omega) (by decide +kernel), digs_len_le (k := 1) (by omega) (by decide +kernel)⟩
    clear hz hr hd
    go_upto_region 1 with (fail)
    refine flowp 7 [Pd.eq (.int .i64 a0), psl .u64 4294967296 (Z) 0, psl .u64 4294967296 (Z) 0, pslv .u64 4294967296 (Z), Pd.eq (.int .i64 0), pslv .u64 4294967296 (Z), Pd.eq (.int .i64 0)] (by kernel_rfl) ?ob9 ?done9
    case ob9 =>
      refine And.intro (ob_move rfl (wt_none rfl) (ev_far rfl rfl) (fun _ _ h => h)) ?_
      refine And.intro (ob_call1 rfl Try.func5 (by kernel_rfl) (wt_none rfl) (ev_dep (j := 0) (by kernel_rfl) rfl rfl) (fun w2 u0 hb h0 => by obtain rfl := h0; exact (HZ.out ▸ fzero_ok a0 d _ HD.out hd2).mono fun e w3 h => RetQLE.pd h)) ?_
      refine And.intro (ob_move rfl (wt_none rfl) (ev_dep (j := 1) (by kernel_rfl) rfl rfl) (fun _ _ h => h)) ?_
      refine And.intro (ob_extract rfl (wt_none rfl) (ev_dep (j := 2) (by kernel_rfl) rfl rfl) (fun w2 u hu => by obtain ⟨V, rfl, h1⟩ := hu; exact ⟨V, rfl, h1⟩)) ?_
      refine And.intro (ob_extract rfl (wt_none rfl) (ev_dep (j := 2) (by kernel_rfl) rfl rfl) (fun w2 u hu => by obtain ⟨V, rfl, h1⟩ := hu; exact ⟨_, rfl, rfl⟩)) ?_
      refine And.intro (ob_assign rfl (wt_none rfl) (ev_dep (j := 3) (by kernel_rfl) rfl rfl) (fun _ _ h => h)) ?_
      refine And.intro (ob_assign rfl (wt_none rfl) (ev_dep (j := 4) (by kernel_rfl) rfl rfl) (fun _ _ h => h)) ?_
      trivial
    case done9 =>
      refine fun w1 hb1 v0 h0 v1 h1 v2 h2 v3 h3 v4 h4 v5 h5 v6 h6 b hbf => ?_
      obtain rfl := h0; obtain rfl := h4; obtain rfl := h6
      clear h1
      clear h2
      have q3 := h3
      have q5 := h5
      simp only [Act.put, List.setIfInBounds_toArray, List.set_cons_zero, List.set_cons_succ] at hbf
      subst hbf
      replace bb := bb.trans (hb1.mono bb.size)
      have hsz1 := bb.size
      refine ops_done ?_
      have hZ := q5
      obtain ⟨AZ, cZ, rfl, _, hmZ⟩ := hZ.shape
      by_cases hi : 0 ≤ a1 ∧ a1 < a0
      · obtain ⟨k, hk⟩ : ∃ k : Nat, a1 = (k : Int) := ⟨a1.toNat, by omega⟩
        have hkd : k < d := by have := HD.out; omega
        have HK := Lib.hid hk
        obtain ⟨U, hu⟩ : ∃ U, U = unitq d k := ⟨_, rfl⟩
        have HU := Lib.hid hu
        have HUL : Hid (U.length = d) := by show _ = _; rw [hu]; exact unitq_len d k
        have HUE : Hid ((((U.length : Nat) : Int) == a0) = true) := by show _ = _; rw [HUL.out, HD.out, beq_self_eq_true]
        have HLU : Hid (U.length ≤ 200 ∧ ∀ x ∈ U, lenQ x 3) := ⟨by rw [HUL.out]; exact hd2, fun x hx => (lenQ_01 (unitq_mem (by rw [← hu]; exact hx))).mono (by omega)⟩
        have HKU : Hid (a1 = ((leadq U : Nat) : Int)) := by show _ = _; rw [hu, leadq_unit hkd, hk]
        have HUA : Hid (U[k]? = some 1) := by show _ = _; rw [hu]; exact unitq_at hkd
        have HKE : Hid ((a1 == a1) = true) := beq_self_eq_true _
        have hneU : U ≠ [] := List.length_pos_iff.1 (by rw [HUL.out]; omega)
        have HON : Hid (true = decide ((1 : Rat) = ((1 : Int) : Rat))) := by show _ = _; decide +kernel
        have l1 : lenQ (1 : Rat) 1 := lenQ_01 (.inr rfl)
        clear hu hk
        go_upto_region 2 with (fail)
        refine flowp 8 [Pd.eq (.int .i64 a0), Pd.eq (.int .i64 a1), psl .u64 4294967296 (U) 0, psl .u64 4294967296 (U) 0, pslv .u64 4294967296 (U), Pd.eq (.int .i64 0), pslv .u64 4294967296 (U), Pd.eq (.int .i64 0)] (by kernel_rfl) ?ob10 ?done10
        case ob10 =>
          refine And.intro (ob_move rfl (wt_none rfl) (ev_far rfl rfl) (fun _ _ h => h)) ?_
          refine And.intro (ob_move rfl (wt_none rfl) (ev_far rfl rfl) (fun _ _ h => h)) ?_
          refine And.intro (ob_call2 rfl Try.func6 (by kernel_rfl) (wt_none rfl) (ev_dep (j := 0) (by kernel_rfl) rfl rfl) (ev_dep (j := 1) (by kernel_rfl) rfl rfl) (fun w2 u0 u1 hb h0 h1 => by obtain rfl := h0; obtain rfl := h1; exact (HU.out ▸ funit_ok a0 a1 d k _ HD.out HK.out hd2 hkd).mono fun e w3 h => RetQLE.pd h)) ?_
          refine And.intro (ob_move rfl (wt_none rfl) (ev_dep (j := 2) (by kernel_rfl) rfl rfl) (fun _ _ h => h)) ?_
          refine And.intro (ob_extract rfl (wt_none rfl) (ev_dep (j := 3) (by kernel_rfl) rfl rfl) (fun w2 u hu => by obtain ⟨V, rfl, h1⟩ := hu; exact ⟨V, rfl, h1⟩)) ?_
          refine And.intro (ob_extract rfl (wt_none rfl) (ev_dep (j := 3) (by kernel_rfl) rfl rfl) (fun w2 u hu => by obtain ⟨V, rfl, h1⟩ := hu; exact ⟨_, rfl, rfl⟩)) ?_
          refine And.intro (ob_assign rfl (wt_none rfl) (ev_dep (j := 4) (by kernel_rfl) rfl rfl) (fun _ _ h => h)) ?_
          refine And.intro (ob_assign rfl (wt_none rfl) (ev_dep (j := 5) (by kernel_rfl) rfl rfl) (fun _ _ h => h)) ?_
          trivial
        case done10 =>
          refine fun w2 hb2 v0 h0 v1 h1 v2 h2 v3 h3 v4 h4 v5 h5 v6 h6 v7 h7 b hbf => ?_
          obtain rfl := h0; obtain rfl := h1; obtain rfl := h5; obtain rfl := h7
          clear h2
          clear h3
          have q4 := h4
          have q6 := h6
          simp only [Act.put, List.setIfInBounds_toArray, List.set_cons_zero, List.set_cons_succ] at hbf
          subst hbf
          replace hZ := hZ.below hb2
          replace bb := bb.trans (hb2.mono bb.size)
          have hsz2 := bb.size
          refine ops_done ?_
          have hU := q6
          obtain ⟨AU, cU, rfl, _, hmU⟩ := hU.shape
          go_upto_region 3 with (fail)
          refine flowp 6 [Pd.eq (.int .i64 a0), Pd.eq (.bool false), Pd.eq (.bool false), Pd.eq (.int .i64 a0), Pd.eq (.bool false), Pd.eq (.bool false)] (by kernel_rfl) ?ob11 ?done11
          case ob11 =>
            refine And.intro (ob_move rfl (wt_none rfl) (ev_far rfl rfl) (fun _ _ h => h)) ?_
            refine And.intro (ob_bin rfl (wt_none rfl) (ev_dep (j := 0) (by kernel_rfl) rfl rfl) (ev_const _) (fun _ _ _ hx hy => ⟨.bool false, by rw [hx, hy, bin_lss_int, H1.out], rfl⟩)) ?_
            refine And.intro (ob_move rfl (wt_none rfl) (ev_dep (j := 1) (by kernel_rfl) rfl rfl) (fun _ _ h => h)) ?_
            refine And.intro (ob_move rfl (wt_dep (c := false) (b := false) (g := 2) rfl (by kernel_rfl) rfl rfl rfl (by exact fun _ _ h => h)) (ev_far rfl rfl) (fun _ _ h => h)) ?_
            refine And.intro (ob_bin rfl (wt_dep (c := false) (b := false) (g := 2) rfl (by kernel_rfl) rfl rfl rfl (by exact fun _ _ h => h)) (ev_dep (j := 3) (by kernel_rfl) rfl rfl) (ev_const _) (fun _ _ _ hx hy => ⟨.bool false, by rw [hx, hy, bin_gtr_int, H2.out], rfl⟩)) ?_
            refine And.intro (ob_pick (b := false) rfl (wt_none rfl) (ev_dep (j := 2) (by kernel_rfl) rfl rfl) (ev_dep (j := 4) (by kernel_rfl) rfl rfl) (fun _ _ h => h)) ?_
            trivial
          case done11 =>
            refine fun w3 hb3 v0 h0 v1 h1 v2 h2 v3 h3 v4 h4 v5 h5 b hbf => ?_
            obtain rfl := h0; obtain rfl := h1; obtain rfl := h2; obtain rfl := h3; obtain rfl := h4; obtain rfl := h5
            simp only [Act.put, List.setIfInBounds_toArray, List.set_cons_zero, List.set_cons_succ] at hbf
            subst hbf
            replace hZ := hZ.below hb3
            replace hU := hU.below hb3
            replace bb := bb.trans (hb3.mono bb.size)
            have hsz3 := bb.size
            refine ops_done ?_
            go_upto_region 5 with (fail)
            refine flowp 8 [Pd.eq (.slice AZ (Z).length cZ), Pd.eq (.int .i64 (((Z).length : Nat) : Int)), Pd.eq (.int .i64 a0), Pd.eq (.bool false), Pd.eq (.bool false), Pd.eq (.int .i64 0), Pd.eq (.bool false), Pd.eq (.bool false)] (by kernel_rfl) ?ob12 ?done12
            case ob12 =>
              refine And.intro (ob_move rfl (wt_none rfl) (ev_far rfl rfl) (fun _ _ h => h)) ?_
              refine And.intro (ob_len rfl (wt_none rfl) (ev_dep (j := 0) (by kernel_rfl) rfl rfl) (fun _ _ hx => ⟨_, by rw [hx]; exact len_slice Try.underlying22 _ _ _ _, rfl⟩)) ?_
              refine And.intro (ob_move rfl (wt_none rfl) (ev_far rfl rfl) (fun _ _ h => h)) ?_
              refine And.intro (ob_bin rfl (wt_none rfl) (ev_dep (j := 1) (by kernel_rfl) rfl rfl) (ev_dep (j := 2) (by kernel_rfl) rfl rfl) (fun _ _ _ hx hy => ⟨.bool false, by rw [hx, hy, bin_neq_int, HZN.out], rfl⟩)) ?_
              refine And.intro (ob_move rfl (wt_none rfl) (ev_dep (j := 3) (by kernel_rfl) rfl rfl) (fun _ _ h => h)) ?_
              refine And.intro (ob_move rfl (wt_dep (c := false) (b := false) (g := 4) rfl (by kernel_rfl) rfl rfl rfl (by exact fun _ _ h => h)) (ev_far rfl rfl) (fun _ _ h => h)) ?_
              refine And.intro (ob_bin rfl (wt_dep (c := false) (b := false) (g := 4) rfl (by kernel_rfl) rfl rfl rfl (by exact fun _ _ h => h)) (ev_dep (j := 5) (by kernel_rfl) rfl rfl) (ev_const _) (fun _ _ _ hx hy => ⟨.bool ((0 : Int) != 0), by rw [hx, hy]; exact bin_neq_int _ _ _ _ _, congrArg Value.bool (by decide)⟩)) ?_
              refine And.intro (ob_pick (b := false) rfl (wt_none rfl) (ev_dep (j := 4) (by kernel_rfl) rfl rfl) (ev_dep (j := 6) (by kernel_rfl) rfl rfl) (fun _ _ h => h)) ?_
              trivial
            case done12 =>
              refine fun w4 hb4 v0 h0 v1 h1 v2 h2 v3 h3 v4 h4 v5 h5 v6 h6 v7 h7 b hbf => ?_
              obtain rfl := h0; obtain rfl := h1; obtain rfl := h2; obtain rfl := h3; obtain rfl := h4; obtain rfl := h5; obtain rfl := h6; obtain rfl := h7
              simp only [Act.put, List.setIfInBounds_toArray, List.set_cons_zero, List.set_cons_succ] at hbf
              subst hbf
              replace hZ := hZ.below hb4
              replace hU := hU.below hb4
              replace bb := bb.trans (hb4.mono bb.size)
              have hsz4 := bb.size
              refine ops_done ?_
              go_wp2
              go_loopw [9] (fun v9 wr => ∃ j : Nat, j ≤ d ∧ Below w.heap.size w wr ∧ SlF .u64 4294967296 wr (.slice AZ Z.length cZ) Z ∧ SlF .u64 4294967296 wr (.slice AU (U).length cU) U ∧ v9 = .int .i64 (j : Int)) (fun v9 _ => d - (RowKit.intOf v9).toNat)
              case atStart => exact ⟨0, by omega, bb, hZ, hU, rfl⟩
              case round =>
                obtain ⟨j, hj, hbw, hZ2, hU2, rfl⟩ := hrel
                clear bb hZ hU
                have bb := hbw
                have hZ := hZ2
                have hU := hU2
                clear hbw hZ2 hU2
                have hszr := bb.size
                by_cases hlt : j < d
                · have H8 : Hid (decide ((j : Int) < a0) = true) := decide_eq_true (by rw [HD.out]; omega)
                  have hat : Z[j]? = some 0 := by rw [HZ.out]; exact zerosq_at hlt
                  have HAT := Lib.hid hat
                  have HSM : Hid (true = decide ((0 : Rat) = ((0 : Int) : Rat))) := by show _ = _; decide +kernel
                  have lz : lenQ (0 : Rat) 1 := lenQ_01 (.inl rfl)
                  clear hat
                  go_upto_region 8 with (fail)
                  refine flowp 3 [Pd.eq (.int .i64 (j : Int)), Pd.eq (.int .i64 a0), Pd.eq (.bool true)] (by kernel_rfl) ?ob13 ?done13
                  case ob13 =>
                    refine And.intro (ob_move rfl (wt_none rfl) (ev_far rfl rfl) (fun _ _ h => h)) ?_
                    refine And.intro (ob_move rfl (wt_none rfl) (ev_far rfl rfl) (fun _ _ h => h)) ?_
                    refine And.intro (ob_bin rfl (wt_none rfl) (ev_dep (j := 0) (by kernel_rfl) rfl rfl) (ev_dep (j := 1) (by kernel_rfl) rfl rfl) (fun _ _ _ hx hy => ⟨.bool true, by rw [hx, hy, bin_lss_int, H8.out], rfl⟩)) ?_
                    trivial
                  case done13 =>
                    refine fun w5 hb5 v0 h0 v1 h1 v2 h2 b hbf => ?_
                    obtain rfl := h0; obtain rfl := h1; obtain rfl := h2
                    simp only [Act.put, List.setIfInBounds_toArray, List.set_cons_zero, List.set_cons_succ] at hbf
                    subst hbf
                    replace hZ := hZ.below hb5
                    replace hU := hU.below hb5
                    replace bb := bb.trans (hb5.mono bb.size)
                    have hsz5 := bb.size
                    refine ops_done ?_
                    have hne : Z ≠ [] := List.length_pos_iff.1 (by rw [HZL.out]; omega)
                    obtain ⟨gV_, oV_, cV_, eV_, _, _, hmV_⟩ := hZ.place hne
                    injection eV_ with eV1 eV2 eV3
                    subst eV1
                    subst eV3
                    have hV := hZ
                    obtain ⟨ue1, te1, hlte1, ze10, ze11, ze12, ze1s, ze1d⟩ := hV.at2 HAT.out
                    obtain ⟨Ae1, ce1, rfl, _⟩ := id ze1s
                    obtain ⟨De1, ee1, rfl, _⟩ := id ze1d
                    have ze1 : IsQ w5 (.agg #[.bool (ngB ((0 : Rat)).num), .slice Ae1 (digs 4294967296 ((0 : Rat)).num.natAbs).length ce1, .slice De1 (digs 4294967296 ((0 : Rat)).den).length ee1]) ((0 : Rat)) := ⟨_, _, rfl, ze1s, ze1d⟩
                    go_upto_region 10 with (fail)
                    refine flow 7 [Pd.eq (.slice (some ⟨gV_, oV_, none⟩) Z.length cZ), Pd.eq (.int .i64 (j : Int)), Pd.eq (.pointer (some ⟨gV_, oV_ + j * 3, none⟩)), Pd.eq (.agg #[.bool (ngB ((0 : Rat)).num), .slice Ae1 (digs 4294967296 ((0 : Rat)).num.natAbs).length ce1, .slice De1 (digs 4294967296 ((0 : Rat)).den).length ee1]), pqn (((0 : Int) : Rat)), Pd.eq (.bool true), Pd.eq (.bool false)] (by kernel_rfl) (by kernel_rfl) ?ob14 ?done14
                    case ob14 =>
                      refine And.intro (ob_move rfl (wt_none rfl) (ev_far rfl rfl) (fun _ _ h => h)) ?_
                      refine And.intro (ob_move rfl (wt_none rfl) (ev_far rfl rfl) (fun _ _ h => h)) ?_
                      refine And.intro (ob_indexAddr rfl (wt_none rfl) (ev_dep (j := 0) (by kernel_rfl) rfl rfl) (ev_dep (j := 1) (by kernel_rfl) rfl rfl) (fun _ _ _ hx hy => ⟨_, by rw [hx, hy]; exact index3 (k := j) Try.underlying22 (by kernel_rfl) hlte1 _, rfl⟩)) ?_
                      refine And.intro (ob_load rfl (wt_none rfl) (ev_dep (j := 2) (by kernel_rfl) rfl rfl) (fun w2 hb => load3 Try.underlying34 rfl (by kernel_rfl) ((hb.cell (World.block_lt_of_cell? w5 _ ze10)).trans ze10) ((hb.cell (World.block_lt_of_cell? w5 _ ze11)).trans ze11) ((hb.cell (World.block_lt_of_cell? w5 _ ze12)).trans ze12)) (fun _ _ => rfl)) ?_
                      refine And.intro (ob_call1 rfl Try.func9 (by kernel_rfl) (wt_none rfl) (ev_const _) (fun w2 u0 hb h0 => by obtain rfl := h0; exact (of8_any 0 _ (by omega) (by omega)).mono fun e w3 h => RetQn.pd h.n)) ?_
                      refine And.intro (ob_call2 rfl Try.func8 (by kernel_rfl) (wt_none rfl) (ev_dep (j := 3) (by kernel_rfl) rfl rfl) (ev_dep (j := 4) (by kernel_rfl) rfl rfl) (fun w2 u0 u1 hb h0 h1 => by obtain rfl := h0; exact (same8_any _ _ (0 : Rat) ((0 : Int) : Rat) true _ (ze1.drew.below hb) h1 HSM.out).mono fun e w3 h => RetV.pd h)) ?_
                      refine And.intro (ob_un rfl (wt_none rfl) (ev_dep (j := 5) (by kernel_rfl) rfl rfl) (fun _ => un_not _ _) (fun _ => rfl)) ?_
                      trivial
                    case done14 =>
                      refine fun w6 hb6 v0 h0 v1 h1 v2 h2 v3 h3 v4 h4 v5 h5 v6 h6 b hbf => ?_
                      obtain rfl := h0; obtain rfl := h1; obtain rfl := h2; obtain rfl := h3; obtain rfl := h5; obtain rfl := h6
                      have q4 := h4
                      simp only [Act.put, List.setIfInBounds_toArray, List.set_cons_zero, List.set_cons_succ] at hbf
                      subst hbf
                      replace hV := hV.below hb6
                      replace hU := hU.below hb6
                      replace bb := bb.trans (hb6.mono bb.size)
                      have hsz6 := bb.size
                      refine any_done (by kernel_rfl) ?_
                      go_wp2
                      go_roundw
                      case rel => exact ⟨j + 1, by omega, bb, hV, hU, by go_num⟩
                      case measure => simp [RowKit.intOf]; omega
                · have H8 : Hid (decide ((j : Int) < a0) = false) := decide_eq_false (by rw [HD.out]; omega)
                  go_upto_region 8 with (fail)
                  refine flowp 3 [Pd.eq (.int .i64 (j : Int)), Pd.eq (.int .i64 a0), Pd.eq (.bool false)] (by kernel_rfl) ?ob15 ?done15
                  case ob15 =>
                    refine And.intro (ob_move rfl (wt_none rfl) (ev_far rfl rfl) (fun _ _ h => h)) ?_
                    refine And.intro (ob_move rfl (wt_none rfl) (ev_far rfl rfl) (fun _ _ h => h)) ?_
                    refine And.intro (ob_bin rfl (wt_none rfl) (ev_dep (j := 0) (by kernel_rfl) rfl rfl) (ev_dep (j := 1) (by kernel_rfl) rfl rfl) (fun _ _ _ hx hy => ⟨.bool false, by rw [hx, hy, bin_lss_int, H8.out], rfl⟩)) ?_
                    trivial
                  case done15 =>
                    refine fun w5 hb5 v0 h0 v1 h1 v2 h2 b hbf => ?_
                    obtain rfl := h0; obtain rfl := h1; obtain rfl := h2
                    simp only [Act.put, List.setIfInBounds_toArray, List.set_cons_zero, List.set_cons_succ] at hbf
                    subst hbf
                    replace hZ := hZ.below hb5
                    replace hU := hU.below hb5
                    replace bb := bb.trans (hb5.mono bb.size)
                    have hsz5 := bb.size
                    refine ops_done ?_
                    have H3 : Hid (decide (a1 < 0) = false) := decide_eq_false (by have := HK.out; omega)
                    have H4 : Hid (decide (a0 ≤ a1) = false) := decide_eq_false (by have := HK.out; have := HD.out; omega)
                    go_upto_region 12 with (fail)
                    refine flowp 7 [Pd.eq (.int .i64 a1), Pd.eq (.bool false), Pd.eq (.bool false), Pd.eq (.int .i64 a1), Pd.eq (.int .i64 a0), Pd.eq (.bool false), Pd.eq (.bool false)] (by kernel_rfl) ?ob16 ?done16
                    case ob16 =>
                      refine And.intro (ob_move rfl (wt_none rfl) (ev_far rfl rfl) (fun _ _ h => h)) ?_
                      refine And.intro (ob_bin rfl (wt_none rfl) (ev_dep (j := 0) (by kernel_rfl) rfl rfl) (ev_const _) (fun _ _ _ hx hy => ⟨.bool false, by rw [hx, hy, bin_lss_int, H3.out], rfl⟩)) ?_
                      refine And.intro (ob_move rfl (wt_none rfl) (ev_dep (j := 1) (by kernel_rfl) rfl rfl) (fun _ _ h => h)) ?_
                      refine And.intro (ob_move rfl (wt_dep (c := false) (b := false) (g := 2) rfl (by kernel_rfl) rfl rfl rfl (by exact fun _ _ h => h)) (ev_far rfl rfl) (fun _ _ h => h)) ?_
                      refine And.intro (ob_move rfl (wt_dep (c := false) (b := false) (g := 2) rfl (by kernel_rfl) rfl rfl rfl (by exact fun _ _ h => h)) (ev_far rfl rfl) (fun _ _ h => h)) ?_
                      refine And.intro (ob_bin rfl (wt_dep (c := false) (b := false) (g := 2) rfl (by kernel_rfl) rfl rfl rfl (by exact fun _ _ h => h)) (ev_dep (j := 3) (by kernel_rfl) rfl rfl) (ev_dep (j := 4) (by kernel_rfl) rfl rfl) (fun _ _ _ hx hy => ⟨.bool false, by rw [hx, hy, bin_geq_int, H4.out], rfl⟩)) ?_
                      refine And.intro (ob_pick (b := false) rfl (wt_none rfl) (ev_dep (j := 2) (by kernel_rfl) rfl rfl) (ev_dep (j := 5) (by kernel_rfl) rfl rfl) (fun _ _ h => h)) ?_
                      trivial
                    case done16 =>
                      refine fun w6 hb6 v0 h0 v1 h1 v2 h2 v3 h3 v4 h4 v5 h5 v6 h6 b hbf => ?_
                      obtain rfl := h0; obtain rfl := h1; obtain rfl := h2; obtain rfl := h3; obtain rfl := h4; obtain rfl := h5; obtain rfl := h6
                      simp only [Act.put, List.setIfInBounds_toArray, List.set_cons_zero, List.set_cons_succ] at hbf
                      subst hbf
                      replace hZ := hZ.below hb6
                      replace hU := hU.below hb6
                      replace bb := bb.trans (hb6.mono bb.size)
                      have hsz6 := bb.size
                      refine ops_done ?_
                      obtain ⟨gV_, oV_, cV_, eV_, _, _, hmV_⟩ := hU.place hneU
                      injection eV_ with eV1 eV2 eV3
                      subst eV1
                      subst eV3
                      have hV := hU
                      obtain ⟨ue1, te1, hlte1, ze10, ze11, ze12, ze1s, ze1d⟩ := hV.at2 HUA.out
                      obtain ⟨Ae1, ce1, rfl, _⟩ := id ze1s
                      obtain ⟨De1, ee1, rfl, _⟩ := id ze1d
                      have ze1 : IsQ w6 (.agg #[.bool (ngB ((1 : Rat)).num), .slice Ae1 (digs 4294967296 ((1 : Rat)).num.natAbs).length ce1, .slice De1 (digs 4294967296 ((1 : Rat)).den).length ee1]) ((1 : Rat)) := ⟨_, _, rfl, ze1s, ze1d⟩
                      go_upto_region 14 with (fail)
                      refine flowp 31 [Pd.eq (.int .i64 0), Pd.eq (.bool true), Pd.eq (.bool true), Pd.eq (.slice (some ⟨gV_, oV_, none⟩) U.length cU), Pd.eq (.int .i64 ((U.length : Nat) : Int)), Pd.eq (.int .i64 a0), Pd.eq (.bool true), Pd.eq (.bool true), Pd.eq (.bool true), Pd.eq (.slice (some ⟨gV_, oV_, none⟩) U.length cU), Pd.eq (.int .i64 a1), Pd.eq (.int .i64 a1), Pd.eq (.bool true), Pd.eq (.bool true), Pd.eq (.bool true), Pd.eq (.slice (some ⟨gV_, oV_, none⟩) U.length cU), Pd.eq (.int .i64 a1), Pd.eq (.pointer (some ⟨gV_, oV_ + k * 3, none⟩)), Pd.eq (.agg #[.bool (ngB ((1 : Rat)).num), .slice Ae1 (digs 4294967296 ((1 : Rat)).num.natAbs).length ce1, .slice De1 (digs 4294967296 ((1 : Rat)).den).length ee1]), Pd.eq (.bool true), Pd.eq (.bool true), Pd.eq (.bool true), Pd.eq (.slice AZ (Z).length cZ), Pd.eq (.int .i64 a0), Pd.eq (.int .i64 a0), Pd.eq (.bool true), Pd.eq (.bool true), Pd.eq (.bool true), Pd.eq (.bool true), Pd.eq (.bool true), Pd.eq (.bool true)] (by kernel_rfl) ?ob17 ?done17
                      case ob17 =>
                        refine And.intro (ob_move rfl (wt_none rfl) (ev_far rfl rfl) (fun _ _ h => h)) ?_
                        refine And.intro (ob_bin rfl (wt_none rfl) (ev_dep (j := 0) (by kernel_rfl) rfl rfl) (ev_const _) (fun _ _ _ hx hy => ⟨.bool ((0 : Int) == 0), by rw [hx, hy]; exact bin_eql_int _ _ _ _ _, congrArg Value.bool (by decide)⟩)) ?_
                        refine And.intro (ob_move rfl (wt_none rfl) (ev_dep (j := 1) (by kernel_rfl) rfl rfl) (fun _ _ h => h)) ?_
                        refine And.intro (ob_move rfl (wt_dep (c := true) (b := true) (g := 2) rfl (by kernel_rfl) rfl rfl rfl (by exact fun _ _ h => h)) (ev_far rfl rfl) (fun _ _ h => h)) ?_
                        refine And.intro (ob_len rfl (wt_dep (c := true) (b := true) (g := 2) rfl (by kernel_rfl) rfl rfl rfl (by exact fun _ _ h => h)) (ev_dep (j := 3) (by kernel_rfl) rfl rfl) (fun _ _ hx => ⟨_, by rw [hx]; exact len_slice Try.underlying22 _ _ _ _, rfl⟩)) ?_
                        refine And.intro (ob_move rfl (wt_dep (c := true) (b := true) (g := 2) rfl (by kernel_rfl) rfl rfl rfl (by exact fun _ _ h => h)) (ev_far rfl rfl) (fun _ _ h => h)) ?_
                        refine And.intro (ob_bin rfl (wt_dep (c := true) (b := true) (g := 2) rfl (by kernel_rfl) rfl rfl rfl (by exact fun _ _ h => h)) (ev_dep (j := 4) (by kernel_rfl) rfl rfl) (ev_dep (j := 5) (by kernel_rfl) rfl rfl) (fun _ _ _ hx hy => ⟨.bool true, by rw [hx, hy, bin_eql_int, HUE.out], rfl⟩)) ?_
                        refine And.intro (ob_pick (b := true) rfl (wt_none rfl) (ev_dep (j := 2) (by kernel_rfl) rfl rfl) (ev_dep (j := 6) (by kernel_rfl) rfl rfl) (fun _ _ h => h)) ?_
                        refine And.intro (ob_move rfl (wt_none rfl) (ev_dep (j := 7) (by kernel_rfl) rfl rfl) (fun _ _ h => h)) ?_
                        refine And.intro (ob_move rfl (wt_dep (c := true) (b := true) (g := 8) rfl (by kernel_rfl) rfl rfl rfl (by exact fun _ _ h => h)) (ev_far rfl rfl) (fun _ _ h => h)) ?_
                        refine And.intro (ob_call1 rfl Try.func10 (by kernel_rfl) (wt_dep (c := true) (b := true) (g := 8) rfl (by kernel_rfl) rfl rfl rfl (by exact fun _ _ h => h)) (ev_dep (j := 9) (by kernel_rfl) rfl rfl) (fun w2 u0 hb h0 => by obtain rfl := h0; exact (flead_any _ U a1 _ (hV.below hb) HLU.out HKU.out).mono fun e w3 h => RetV.pd h)) ?_
                        refine And.intro (ob_move rfl (wt_dep (c := true) (b := true) (g := 8) rfl (by kernel_rfl) rfl rfl rfl (by exact fun _ _ h => h)) (ev_far rfl rfl) (fun _ _ h => h)) ?_
                        refine And.intro (ob_bin rfl (wt_dep (c := true) (b := true) (g := 8) rfl (by kernel_rfl) rfl rfl rfl (by exact fun _ _ h => h)) (ev_dep (j := 10) (by kernel_rfl) rfl rfl) (ev_dep (j := 11) (by kernel_rfl) rfl rfl) (fun _ _ _ hx hy => ⟨.bool (a1 == a1), by rw [hx, hy]; exact bin_eql_int _ _ _ _ _, congrArg Value.bool (beq_self_eq_true _)⟩)) ?_
                        refine And.intro (ob_pick (b := true) rfl (wt_none rfl) (ev_dep (j := 8) (by kernel_rfl) rfl rfl) (ev_dep (j := 12) (by kernel_rfl) rfl rfl) (fun _ _ h => h)) ?_
                        refine And.intro (ob_move rfl (wt_none rfl) (ev_dep (j := 13) (by kernel_rfl) rfl rfl) (fun _ _ h => h)) ?_
                        refine And.intro (ob_move rfl (wt_dep (c := true) (b := true) (g := 14) rfl (by kernel_rfl) rfl rfl rfl (by exact fun _ _ h => h)) (ev_far rfl rfl) (fun _ _ h => h)) ?_
                        refine And.intro (ob_move rfl (wt_dep (c := true) (b := true) (g := 14) rfl (by kernel_rfl) rfl rfl rfl (by exact fun _ _ h => h)) (ev_far rfl rfl) (fun _ _ h => h)) ?_
                        refine And.intro (ob_indexAddr rfl (wt_dep (c := true) (b := true) (g := 14) rfl (by kernel_rfl) rfl rfl rfl (by exact fun _ _ h => h)) (ev_dep (j := 15) (by kernel_rfl) rfl rfl) (ev_dep (j := 16) (by kernel_rfl) rfl rfl) (fun _ _ _ hx hy => ⟨_, by rw [hx, hy, HK.out]; exact index3 (k := k) Try.underlying22 (by kernel_rfl) hlte1 _, rfl⟩)) ?_
                        refine And.intro (ob_load rfl (wt_dep (c := true) (b := true) (g := 14) rfl (by kernel_rfl) rfl rfl rfl (by exact fun _ _ h => h)) (ev_dep (j := 17) (by kernel_rfl) rfl rfl) (fun w2 hb => load3 Try.underlying34 rfl (by kernel_rfl) ((hb.cell (World.block_lt_of_cell? w6 _ ze10)).trans ze10) ((hb.cell (World.block_lt_of_cell? w6 _ ze11)).trans ze11) ((hb.cell (World.block_lt_of_cell? w6 _ ze12)).trans ze12)) (fun _ _ => rfl)) ?_
                        refine And.intro (ob_call1 rfl Try.func11 (by kernel_rfl) (wt_dep (c := true) (b := true) (g := 14) rfl (by kernel_rfl) rfl rfl rfl (by exact fun _ _ h => h)) (ev_dep (j := 18) (by kernel_rfl) rfl rfl) (fun w2 u0 hb h0 => by obtain rfl := h0; exact (one8_any _ (1 : Rat) true _ (ze1.below hb) HON.out).mono fun e w3 h => RetV.pd h)) ?_
                        refine And.intro (ob_pick (b := true) rfl (wt_none rfl) (ev_dep (j := 14) (by kernel_rfl) rfl rfl) (ev_dep (j := 19) (by kernel_rfl) rfl rfl) (fun _ _ h => h)) ?_
                        refine And.intro (ob_move rfl (wt_none rfl) (ev_dep (j := 20) (by kernel_rfl) rfl rfl) (fun _ _ h => h)) ?_
                        refine And.intro (ob_move rfl (wt_dep (c := true) (b := true) (g := 21) rfl (by kernel_rfl) rfl rfl rfl (by exact fun _ _ h => h)) (ev_far rfl rfl) (fun _ _ h => h)) ?_
                        refine And.intro (ob_call1 rfl Try.func10 (by kernel_rfl) (wt_dep (c := true) (b := true) (g := 21) rfl (by kernel_rfl) rfl rfl rfl (by exact fun _ _ h => h)) (ev_dep (j := 22) (by kernel_rfl) rfl rfl) (fun w2 u0 hb h0 => by obtain rfl := h0; exact (flead_any _ Z a0 _ (hZ.below hb) HLZ.out HKZ.out).mono fun e w3 h => RetV.pd h)) ?_
                        refine And.intro (ob_move rfl (wt_dep (c := true) (b := true) (g := 21) rfl (by kernel_rfl) rfl rfl rfl (by exact fun _ _ h => h)) (ev_far rfl rfl) (fun _ _ h => h)) ?_
                        refine And.intro (ob_bin rfl (wt_dep (c := true) (b := true) (g := 21) rfl (by kernel_rfl) rfl rfl rfl (by exact fun _ _ h => h)) (ev_dep (j := 23) (by kernel_rfl) rfl rfl) (ev_dep (j := 24) (by kernel_rfl) rfl rfl) (fun _ _ _ hx hy => ⟨.bool (a0 == a0), by rw [hx, hy]; exact bin_eql_int _ _ _ _ _, congrArg Value.bool (beq_self_eq_true _)⟩)) ?_
                        refine And.intro (ob_pick (b := true) rfl (wt_none rfl) (ev_dep (j := 21) (by kernel_rfl) rfl rfl) (ev_dep (j := 25) (by kernel_rfl) rfl rfl) (fun _ _ h => h)) ?_
                        refine And.intro (ob_move rfl (wt_none rfl) (ev_dep (j := 26) (by kernel_rfl) rfl rfl) (fun _ _ h => h)) ?_
                        refine And.intro (ob_call0 rfl Try.func7 (by kernel_rfl) (wt_dep (c := true) (b := true) (g := 27) rfl (by kernel_rfl) rfl rfl rfl (by exact fun _ _ h => h)) (fun w2 hb => (works11_any _).mono fun e w3 h => RetV.pd h)) ?_
                        refine And.intro (ob_pick (b := true) rfl (wt_none rfl) (ev_dep (j := 27) (by kernel_rfl) rfl rfl) (ev_dep (j := 28) (by kernel_rfl) rfl rfl) (fun _ _ h => h)) ?_
                        refine And.intro (ob_assign rfl (wt_none rfl) (ev_dep (j := 29) (by kernel_rfl) rfl rfl) (fun _ _ h => h)) ?_
                        trivial
                      case done17 =>
                        refine fun w7 hb7 v0 h0 v1 h1 v2 h2 v3 h3 v4 h4 v5 h5 v6 h6 v7 h7 v8 h8 v9 h9 v10 h10 v11 h11 v12 h12 v13 h13 v14 h14 v15 h15 v16 h16 v17 h17 v18 h18 v19 h19 v20 h20 v21 h21 v22 h22 v23 h23 v24 h24 v25 h25 v26 h26 v27 h27 v28 h28 v29 h29 v30 h30 b hbf => ?_
                        obtain rfl := h0; obtain rfl := h1; obtain rfl := h2; obtain rfl := h3; obtain rfl := h4; obtain rfl := h5; obtain rfl := h6; obtain rfl := h7; obtain rfl := h8; obtain rfl := h9; obtain rfl := h10; obtain rfl := h11; obtain rfl := h12; obtain rfl := h13; obtain rfl := h14; obtain rfl := h15; obtain rfl := h16; obtain rfl := h17; obtain rfl := h18; obtain rfl := h19; obtain rfl := h20; obtain rfl := h21; obtain rfl := h22; obtain rfl := h23; obtain rfl := h24; obtain rfl := h25; obtain rfl := h26; obtain rfl := h27; obtain rfl := h28; obtain rfl := h29; obtain rfl := h30
                        simp only [Act.put, List.setIfInBounds_toArray, List.set_cons_zero, List.set_cons_succ] at hbf
                        subst hbf
                        replace hV := hV.below hb7
                        replace hZ := hZ.below hb7
                        replace bb := bb.trans (hb7.mono bb.size)
                        have hsz7 := bb.size
                        refine ops_done ?_
                        go_wp2
                        go_ret
                        exact ⟨rfl, bb⟩
      · have HU : Hid (a0 < 0 ∨ 200 < a0 ∨ a1 < 0 ∨ a0 ≤ a1) := by have := HD.out; show _ ∨ _; omega
        go_upto_region 2 with (fail)
        refine flowp 8 [Pd.eq (.int .i64 a0), Pd.eq (.int .i64 a1), psl .u64 4294967296 ([]) 2, psl .u64 4294967296 ([]) 2, pslv .u64 4294967296 ([]), Pd.eq (.int .i64 2), pslv .u64 4294967296 ([]), Pd.eq (.int .i64 2)] (by kernel_rfl) ?ob18 ?done18
        case ob18 =>
          refine And.intro (ob_move rfl (wt_none rfl) (ev_far rfl rfl) (fun _ _ h => h)) ?_
          refine And.intro (ob_move rfl (wt_none rfl) (ev_far rfl rfl) (fun _ _ h => h)) ?_
          refine And.intro (ob_call2 rfl Try.func6 (by kernel_rfl) (wt_none rfl) (ev_dep (j := 0) (by kernel_rfl) rfl rfl) (ev_dep (j := 1) (by kernel_rfl) rfl rfl) (fun w2 u0 u1 hb h0 h1 => by obtain rfl := h0; obtain rfl := h1; exact (funit_no a0 a1 _ HU.out).mono fun e w3 h => RetQLE.pd h)) ?_
          refine And.intro (ob_move rfl (wt_none rfl) (ev_dep (j := 2) (by kernel_rfl) rfl rfl) (fun _ _ h => h)) ?_
          refine And.intro (ob_extract rfl (wt_none rfl) (ev_dep (j := 3) (by kernel_rfl) rfl rfl) (fun w2 u hu => by obtain ⟨V, rfl, h1⟩ := hu; exact ⟨V, rfl, h1⟩)) ?_
          refine And.intro (ob_extract rfl (wt_none rfl) (ev_dep (j := 3) (by kernel_rfl) rfl rfl) (fun w2 u hu => by obtain ⟨V, rfl, h1⟩ := hu; exact ⟨_, rfl, rfl⟩)) ?_
          refine And.intro (ob_assign rfl (wt_none rfl) (ev_dep (j := 4) (by kernel_rfl) rfl rfl) (fun _ _ h => h)) ?_
          refine And.intro (ob_assign rfl (wt_none rfl) (ev_dep (j := 5) (by kernel_rfl) rfl rfl) (fun _ _ h => h)) ?_
          trivial
        case done18 =>
          refine fun w2 hb2 v0 h0 v1 h1 v2 h2 v3 h3 v4 h4 v5 h5 v6 h6 v7 h7 b hbf => ?_
          obtain rfl := h0; obtain rfl := h1; obtain rfl := h5; obtain rfl := h7
          clear h2
          clear h3
          have q4 := h4
          have q6 := h6
          simp only [Act.put, List.setIfInBounds_toArray, List.set_cons_zero, List.set_cons_succ] at hbf
          subst hbf
          replace hZ := hZ.below hb2
          replace bb := bb.trans (hb2.mono bb.size)
          have hsz2 := bb.size
          refine ops_done ?_
          have hU := q6
          obtain ⟨AU, cU, rfl, _, hmU⟩ := hU.shape
          go_upto_region 3 with (fail)
          refine flowp 6 [Pd.eq (.int .i64 a0), Pd.eq (.bool false), Pd.eq (.bool false), Pd.eq (.int .i64 a0), Pd.eq (.bool false), Pd.eq (.bool false)] (by kernel_rfl) ?ob19 ?done19
          case ob19 =>
            refine And.intro (ob_move rfl (wt_none rfl) (ev_far rfl rfl) (fun _ _ h => h)) ?_
            refine And.intro (ob_bin rfl (wt_none rfl) (ev_dep (j := 0) (by kernel_rfl) rfl rfl) (ev_const _) (fun _ _ _ hx hy => ⟨.bool false, by rw [hx, hy, bin_lss_int, H1.out], rfl⟩)) ?_
            refine And.intro (ob_move rfl (wt_none rfl) (ev_dep (j := 1) (by kernel_rfl) rfl rfl) (fun _ _ h => h)) ?_
            refine And.intro (ob_move rfl (wt_dep (c := false) (b := false) (g := 2) rfl (by kernel_rfl) rfl rfl rfl (by exact fun _ _ h => h)) (ev_far rfl rfl) (fun _ _ h => h)) ?_
            refine And.intro (ob_bin rfl (wt_dep (c := false) (b := false) (g := 2) rfl (by kernel_rfl) rfl rfl rfl (by exact fun _ _ h => h)) (ev_dep (j := 3) (by kernel_rfl) rfl rfl) (ev_const _) (fun _ _ _ hx hy => ⟨.bool false, by rw [hx, hy, bin_gtr_int, H2.out], rfl⟩)) ?_
            refine And.intro (ob_pick (b := false) rfl (wt_none rfl) (ev_dep (j := 2) (by kernel_rfl) rfl rfl) (ev_dep (j := 4) (by kernel_rfl) rfl rfl) (fun _ _ h => h)) ?_
            trivial
          case done19 =>
            refine fun w3 hb3 v0 h0 v1 h1 v2 h2 v3 h3 v4 h4 v5 h5 b hbf => ?_
            obtain rfl := h0; obtain rfl := h1; obtain rfl := h2; obtain rfl := h3; obtain rfl := h4; obtain rfl := h5
            simp only [Act.put, List.setIfInBounds_toArray, List.set_cons_zero, List.set_cons_succ] at hbf
            subst hbf
            replace hZ := hZ.below hb3
            replace hU := hU.below hb3
            replace bb := bb.trans (hb3.mono bb.size)
            have hsz3 := bb.size
            refine ops_done ?_
            go_upto_region 5 with (fail)
            refine flowp 8 [Pd.eq (.slice AZ (Z).length cZ), Pd.eq (.int .i64 (((Z).length : Nat) : Int)), Pd.eq (.int .i64 a0), Pd.eq (.bool false), Pd.eq (.bool false), Pd.eq (.int .i64 0), Pd.eq (.bool false), Pd.eq (.bool false)] (by kernel_rfl) ?ob20 ?done20
            case ob20 =>
              refine And.intro (ob_move rfl (wt_none rfl) (ev_far rfl rfl) (fun _ _ h => h)) ?_
              refine And.intro (ob_len rfl (wt_none rfl) (ev_dep (j := 0) (by kernel_rfl) rfl rfl) (fun _ _ hx => ⟨_, by rw [hx]; exact len_slice Try.underlying22 _ _ _ _, rfl⟩)) ?_
              refine And.intro (ob_move rfl (wt_none rfl) (ev_far rfl rfl) (fun _ _ h => h)) ?_
              refine And.intro (ob_bin rfl (wt_none rfl) (ev_dep (j := 1) (by kernel_rfl) rfl rfl) (ev_dep (j := 2) (by kernel_rfl) rfl rfl) (fun _ _ _ hx hy => ⟨.bool false, by rw [hx, hy, bin_neq_int, HZN.out], rfl⟩)) ?_
              refine And.intro (ob_move rfl (wt_none rfl) (ev_dep (j := 3) (by kernel_rfl) rfl rfl) (fun _ _ h => h)) ?_
              refine And.intro (ob_move rfl (wt_dep (c := false) (b := false) (g := 4) rfl (by kernel_rfl) rfl rfl rfl (by exact fun _ _ h => h)) (ev_far rfl rfl) (fun _ _ h => h)) ?_
              refine And.intro (ob_bin rfl (wt_dep (c := false) (b := false) (g := 4) rfl (by kernel_rfl) rfl rfl rfl (by exact fun _ _ h => h)) (ev_dep (j := 5) (by kernel_rfl) rfl rfl) (ev_const _) (fun _ _ _ hx hy => ⟨.bool ((0 : Int) != 0), by rw [hx, hy]; exact bin_neq_int _ _ _ _ _, congrArg Value.bool (by decide)⟩)) ?_
              refine And.intro (ob_pick (b := false) rfl (wt_none rfl) (ev_dep (j := 4) (by kernel_rfl) rfl rfl) (ev_dep (j := 6) (by kernel_rfl) rfl rfl) (fun _ _ h => h)) ?_
              trivial
            case done20 =>
              refine fun w4 hb4 v0 h0 v1 h1 v2 h2 v3 h3 v4 h4 v5 h5 v6 h6 v7 h7 b hbf => ?_
              obtain rfl := h0; obtain rfl := h1; obtain rfl := h2; obtain rfl := h3; obtain rfl := h4; obtain rfl := h5; obtain rfl := h6; obtain rfl := h7
              simp only [Act.put, List.setIfInBounds_toArray, List.set_cons_zero, List.set_cons_succ] at hbf
              subst hbf
              replace hZ := hZ.below hb4
              replace hU := hU.below hb4
              replace bb := bb.trans (hb4.mono bb.size)
              have hsz4 := bb.size
              refine ops_done ?_
              go_wp2
              go_loopw [9] (fun v9 wr => ∃ j : Nat, j ≤ d ∧ Below w.heap.size w wr ∧ SlF .u64 4294967296 wr (.slice AZ Z.length cZ) Z ∧ SlF .u64 4294967296 wr (.slice AU ([] : List Rat).length cU) [] ∧ v9 = .int .i64 (j : Int)) (fun v9 _ => d - (RowKit.intOf v9).toNat)
              case atStart => exact ⟨0, by omega, bb, hZ, hU, rfl⟩
              case round =>
                obtain ⟨j, hj, hbw, hZ2, hU2, rfl⟩ := hrel
                clear bb hZ hU
                have bb := hbw
                have hZ := hZ2
                have hU := hU2
                clear hbw hZ2 hU2
                have hszr := bb.size
                by_cases hlt : j < d
                · have H8 : Hid (decide ((j : Int) < a0) = true) := decide_eq_true (by rw [HD.out]; omega)
                  have hat : Z[j]? = some 0 := by rw [HZ.out]; exact zerosq_at hlt
                  have HAT := Lib.hid hat
                  have HSM : Hid (true = decide ((0 : Rat) = ((0 : Int) : Rat))) := by show _ = _; decide +kernel
                  have lz : lenQ (0 : Rat) 1 := lenQ_01 (.inl rfl)
                  clear hat
                  go_upto_region 8 with (fail)
                  refine flowp 3 [Pd.eq (.int .i64 (j : Int)), Pd.eq (.int .i64 a0), Pd.eq (.bool true)] (by kernel_rfl) ?ob21 ?done21
                  case ob21 =>
                    refine And.intro (ob_move rfl (wt_none rfl) (ev_far rfl rfl) (fun _ _ h => h)) ?_
                    refine And.intro (ob_move rfl (wt_none rfl) (ev_far rfl rfl) (fun _ _ h => h)) ?_
                    refine And.intro (ob_bin rfl (wt_none rfl) (ev_dep (j := 0) (by kernel_rfl) rfl rfl) (ev_dep (j := 1) (by kernel_rfl) rfl rfl) (fun _ _ _ hx hy => ⟨.bool true, by rw [hx, hy, bin_lss_int, H8.out], rfl⟩)) ?_
                    trivial
                  case done21 =>
                    refine fun w5 hb5 v0 h0 v1 h1 v2 h2 b hbf => ?_
                    obtain rfl := h0; obtain rfl := h1; obtain rfl := h2
                    simp only [Act.put, List.setIfInBounds_toArray, List.set_cons_zero, List.set_cons_succ] at hbf
                    subst hbf
                    replace hZ := hZ.below hb5
                    replace hU := hU.below hb5
                    replace bb := bb.trans (hb5.mono bb.size)
                    have hsz5 := bb.size
                    refine ops_done ?_
                    have hne : Z ≠ [] := List.length_pos_iff.1 (by rw [HZL.out]; omega)
                    obtain ⟨gV_, oV_, cV_, eV_, _, _, hmV_⟩ := hZ.place hne
                    injection eV_ with eV1 eV2 eV3
                    subst eV1
                    subst eV3
                    have hV := hZ
                    obtain ⟨ue1, te1, hlte1, ze10, ze11, ze12, ze1s, ze1d⟩ := hV.at2 HAT.out
                    obtain ⟨Ae1, ce1, rfl, _⟩ := id ze1s
                    obtain ⟨De1, ee1, rfl, _⟩ := id ze1d
                    have ze1 : IsQ w5 (.agg #[.bool (ngB ((0 : Rat)).num), .slice Ae1 (digs 4294967296 ((0 : Rat)).num.natAbs).length ce1, .slice De1 (digs 4294967296 ((0 : Rat)).den).length ee1]) ((0 : Rat)) := ⟨_, _, rfl, ze1s, ze1d⟩
                    go_upto_region 10 with (fail)
                    refine flow 7 [Pd.eq (.slice (some ⟨gV_, oV_, none⟩) Z.length cZ), Pd.eq (.int .i64 (j : Int)), Pd.eq (.pointer (some ⟨gV_, oV_ + j * 3, none⟩)), Pd.eq (.agg #[.bool (ngB ((0 : Rat)).num), .slice Ae1 (digs 4294967296 ((0 : Rat)).num.natAbs).length ce1, .slice De1 (digs 4294967296 ((0 : Rat)).den).length ee1]), pqn (((0 : Int) : Rat)), Pd.eq (.bool true), Pd.eq (.bool false)] (by kernel_rfl) (by kernel_rfl) ?ob22 ?done22
                    case ob22 =>
                      refine And.intro (ob_move rfl (wt_none rfl) (ev_far rfl rfl) (fun _ _ h => h)) ?_
                      refine And.intro (ob_move rfl (wt_none rfl) (ev_far rfl rfl) (fun _ _ h => h)) ?_
                      refine And.intro (ob_indexAddr rfl (wt_none rfl) (ev_dep (j := 0) (by kernel_rfl) rfl rfl) (ev_dep (j := 1) (by kernel_rfl) rfl rfl) (fun _ _ _ hx hy => ⟨_, by rw [hx, hy]; exact index3 (k := j) Try.underlying22 (by kernel_rfl) hlte1 _, rfl⟩)) ?_
                      refine And.intro (ob_load rfl (wt_none rfl) (ev_dep (j := 2) (by kernel_rfl) rfl rfl) (fun w2 hb => load3 Try.underlying34 rfl (by kernel_rfl) ((hb.cell (World.block_lt_of_cell? w5 _ ze10)).trans ze10) ((hb.cell (World.block_lt_of_cell? w5 _ ze11)).trans ze11) ((hb.cell (World.block_lt_of_cell? w5 _ ze12)).trans ze12)) (fun _ _ => rfl)) ?_
                      refine And.intro (ob_call1 rfl Try.func9 (by kernel_rfl) (wt_none rfl) (ev_const _) (fun w2 u0 hb h0 => by obtain rfl := h0; exact (of8_any 0 _ (by omega) (by omega)).mono fun e w3 h => RetQn.pd h.n)) ?_
                      refine And.intro (ob_call2 rfl Try.func8 (by kernel_rfl) (wt_none rfl) (ev_dep (j := 3) (by kernel_rfl) rfl rfl) (ev_dep (j := 4) (by kernel_rfl) rfl rfl) (fun w2 u0 u1 hb h0 h1 => by obtain rfl := h0; exact (same8_any _ _ (0 : Rat) ((0 : Int) : Rat) true _ (ze1.drew.below hb) h1 HSM.out).mono fun e w3 h => RetV.pd h)) ?_
                      refine And.intro (ob_un rfl (wt_none rfl) (ev_dep (j := 5) (by kernel_rfl) rfl rfl) (fun _ => un_not _ _) (fun _ => rfl)) ?_
                      trivial
                    case done22 =>
                      refine fun w6 hb6 v0 h0 v1 h1 v2 h2 v3 h3 v4 h4 v5 h5 v6 h6 b hbf => ?_
                      obtain rfl := h0; obtain rfl := h1; obtain rfl := h2; obtain rfl := h3; obtain rfl := h5; obtain rfl := h6
                      have q4 := h4
                      simp only [Act.put, List.setIfInBounds_toArray, List.set_cons_zero, List.set_cons_succ] at hbf
                      subst hbf
                      replace hV := hV.below hb6
                      replace hU := hU.below hb6
                      replace bb := bb.trans (hb6.mono bb.size)
                      have hsz6 := bb.size
                      refine any_done (by kernel_rfl) ?_
                      go_wp2
                      go_roundw
                      case rel => exact ⟨j + 1, by omega, bb, hV, hU, by go_num⟩
                      case measure => simp [RowKit.intOf]; omega
                · have H8 : Hid (decide ((j : Int) < a0) = false) := decide_eq_false (by rw [HD.out]; omega)
                  go_upto_region 8 with (fail)
                  refine flowp 3 [Pd.eq (.int .i64 (j : Int)), Pd.eq (.int .i64 a0), Pd.eq (.bool false)] (by kernel_rfl) ?ob23 ?done23
                  case ob23 =>
                    refine And.intro (ob_move rfl (wt_none rfl) (ev_far rfl rfl) (fun _ _ h => h)) ?_
                    refine And.intro (ob_move rfl (wt_none rfl) (ev_far rfl rfl) (fun _ _ h => h)) ?_
                    refine And.intro (ob_bin rfl (wt_none rfl) (ev_dep (j := 0) (by kernel_rfl) rfl rfl) (ev_dep (j := 1) (by kernel_rfl) rfl rfl) (fun _ _ _ hx hy => ⟨.bool false, by rw [hx, hy, bin_lss_int, H8.out], rfl⟩)) ?_
                    trivial
                  case done23 =>
                    refine fun w5 hb5 v0 h0 v1 h1 v2 h2 b hbf => ?_
                    obtain rfl := h0; obtain rfl := h1; obtain rfl := h2
                    simp only [Act.put, List.setIfInBounds_toArray, List.set_cons_zero, List.set_cons_succ] at hbf
                    subst hbf
                    replace hZ := hZ.below hb5
                    replace hU := hU.below hb5
                    replace bb := bb.trans (hb5.mono bb.size)
                    have hsz5 := bb.size
                    refine ops_done ?_
                    by_cases hlo : a1 < 0
                    · have H3 : Hid (decide (a1 < 0) = true) := decide_eq_true hlo
                      clear hlo hi
                      go_upto_region 12 with (fail)
                      refine flowp 7 [Pd.eq (.int .i64 a1), Pd.eq (.bool true), Pd.eq (.bool true), Pd.any, Pd.any, Pd.any, Pd.eq (.bool true)] (by kernel_rfl) ?ob24 ?done24
                      case ob24 =>
                        refine And.intro (ob_move rfl (wt_none rfl) (ev_far rfl rfl) (fun _ _ h => h)) ?_
                        refine And.intro (ob_bin rfl (wt_none rfl) (ev_dep (j := 0) (by kernel_rfl) rfl rfl) (ev_const _) (fun _ _ _ hx hy => ⟨.bool true, by rw [hx, hy, bin_lss_int, H3.out], rfl⟩)) ?_
                        refine And.intro (ob_move rfl (wt_none rfl) (ev_dep (j := 1) (by kernel_rfl) rfl rfl) (fun _ _ h => h)) ?_
                        refine And.intro (ob_not (wt_dep (c := true) (b := false) (g := 2) rfl (by kernel_rfl) rfl rfl rfl (by exact fun _ _ h => h)) (fun _ => trivial) rfl) ?_
                        refine And.intro (ob_not (wt_dep (c := true) (b := false) (g := 2) rfl (by kernel_rfl) rfl rfl rfl (by exact fun _ _ h => h)) (fun _ => trivial) rfl) ?_
                        refine And.intro (ob_not (wt_dep (c := true) (b := false) (g := 2) rfl (by kernel_rfl) rfl rfl rfl (by exact fun _ _ h => h)) (fun _ => trivial) rfl) ?_
                        refine And.intro (ob_pick (b := true) rfl (wt_none rfl) (ev_dep (j := 2) (by kernel_rfl) rfl rfl) (ev_const _) (fun _ _ h => h)) ?_
                        trivial
                      case done24 =>
                        refine fun w6 hb6 v0 h0 v1 h1 v2 h2 v3 h3 v4 h4 v5 h5 v6 h6 b hbf => ?_
                        obtain rfl := h0; obtain rfl := h1; obtain rfl := h2; obtain rfl := h6
                        clear h3
                        clear h4
                        clear h5
                        simp only [Act.put, List.setIfInBounds_toArray, List.set_cons_zero, List.set_cons_succ] at hbf
                        subst hbf
                        replace hZ := hZ.below hb6
                        replace hU := hU.below hb6
                        replace bb := bb.trans (hb6.mono bb.size)
                        have hsz6 := bb.size
                        refine ops_done ?_
                        go_upto_region 13 with (fail)
                        refine flowp 11 [Pd.eq (.int .i64 2), Pd.eq (.bool true), Pd.eq (.bool true), Pd.eq (.slice AU ([] : List Rat).length cU), Pd.eq (.int .i64 ((([] : List Rat).length : Nat) : Int)), Pd.eq (.bool true), Pd.eq (.bool true), Pd.eq (.bool true), Pd.eq (.bool true), Pd.eq (.bool true), Pd.eq (.bool true)] (by kernel_rfl) ?ob25 ?done25
                        case ob25 =>
                          refine And.intro (ob_move rfl (wt_none rfl) (ev_far rfl rfl) (fun _ _ h => h)) ?_
                          refine And.intro (ob_bin rfl (wt_none rfl) (ev_dep (j := 0) (by kernel_rfl) rfl rfl) (ev_const _) (fun _ _ _ hx hy => ⟨.bool ((2 : Int) == 2), by rw [hx, hy]; exact bin_eql_int _ _ _ _ _, congrArg Value.bool (by decide)⟩)) ?_
                          refine And.intro (ob_move rfl (wt_none rfl) (ev_dep (j := 1) (by kernel_rfl) rfl rfl) (fun _ _ h => h)) ?_
                          refine And.intro (ob_move rfl (wt_dep (c := true) (b := true) (g := 2) rfl (by kernel_rfl) rfl rfl rfl (by exact fun _ _ h => h)) (ev_far rfl rfl) (fun _ _ h => h)) ?_
                          refine And.intro (ob_len rfl (wt_dep (c := true) (b := true) (g := 2) rfl (by kernel_rfl) rfl rfl rfl (by exact fun _ _ h => h)) (ev_dep (j := 3) (by kernel_rfl) rfl rfl) (fun _ _ hx => ⟨_, by rw [hx]; exact len_slice Try.underlying22 _ _ _ _, rfl⟩)) ?_
                          refine And.intro (ob_bin rfl (wt_dep (c := true) (b := true) (g := 2) rfl (by kernel_rfl) rfl rfl rfl (by exact fun _ _ h => h)) (ev_dep (j := 4) (by kernel_rfl) rfl rfl) (ev_const _) (fun _ _ _ hx hy => ⟨.bool true, by rw [hx, hy, bin_eql_int, HE0.out], rfl⟩)) ?_
                          refine And.intro (ob_pick (b := true) rfl (wt_none rfl) (ev_dep (j := 2) (by kernel_rfl) rfl rfl) (ev_dep (j := 5) (by kernel_rfl) rfl rfl) (fun _ _ h => h)) ?_
                          refine And.intro (ob_move rfl (wt_none rfl) (ev_dep (j := 6) (by kernel_rfl) rfl rfl) (fun _ _ h => h)) ?_
                          refine And.intro (ob_call0 rfl Try.func7 (by kernel_rfl) (wt_dep (c := true) (b := true) (g := 7) rfl (by kernel_rfl) rfl rfl rfl (by exact fun _ _ h => h)) (fun w2 hb => (works11_any _).mono fun e w3 h => RetV.pd h)) ?_
                          refine And.intro (ob_pick (b := true) rfl (wt_none rfl) (ev_dep (j := 7) (by kernel_rfl) rfl rfl) (ev_dep (j := 8) (by kernel_rfl) rfl rfl) (fun _ _ h => h)) ?_
                          refine And.intro (ob_assign rfl (wt_none rfl) (ev_dep (j := 9) (by kernel_rfl) rfl rfl) (fun _ _ h => h)) ?_
                          trivial
                        case done25 =>
                          refine fun w7 hb7 v0 h0 v1 h1 v2 h2 v3 h3 v4 h4 v5 h5 v6 h6 v7 h7 v8 h8 v9 h9 v10 h10 b hbf => ?_
                          obtain rfl := h0; obtain rfl := h1; obtain rfl := h2; obtain rfl := h3; obtain rfl := h4; obtain rfl := h5; obtain rfl := h6; obtain rfl := h7; obtain rfl := h8; obtain rfl := h9; obtain rfl := h10
                          simp only [Act.put, List.setIfInBounds_toArray, List.set_cons_zero, List.set_cons_succ] at hbf
                          subst hbf
                          replace hZ := hZ.below hb7
                          replace hU := hU.below hb7
                          replace bb := bb.trans (hb7.mono bb.size)
                          have hsz7 := bb.size
                          refine ops_done ?_
                          go_wp2
                          go_ret
                          exact ⟨rfl, bb⟩
                    · have H3 : Hid (decide (a1 < 0) = false) := decide_eq_false hlo
                      have H4 : Hid (decide (a0 ≤ a1) = true) := decide_eq_true (by omega)
                      clear hlo hi
                      go_upto_region 12 with (fail)
                      refine flowp 7 [Pd.eq (.int .i64 a1), Pd.eq (.bool false), Pd.eq (.bool false), Pd.eq (.int .i64 a1), Pd.eq (.int .i64 a0), Pd.eq (.bool true), Pd.eq (.bool true)] (by kernel_rfl) ?ob26 ?done26
                      case ob26 =>
                        refine And.intro (ob_move rfl (wt_none rfl) (ev_far rfl rfl) (fun _ _ h => h)) ?_
                        refine And.intro (ob_bin rfl (wt_none rfl) (ev_dep (j := 0) (by kernel_rfl) rfl rfl) (ev_const _) (fun _ _ _ hx hy => ⟨.bool false, by rw [hx, hy, bin_lss_int, H3.out], rfl⟩)) ?_
                        refine And.intro (ob_move rfl (wt_none rfl) (ev_dep (j := 1) (by kernel_rfl) rfl rfl) (fun _ _ h => h)) ?_
                        refine And.intro (ob_move rfl (wt_dep (c := false) (b := false) (g := 2) rfl (by kernel_rfl) rfl rfl rfl (by exact fun _ _ h => h)) (ev_far rfl rfl) (fun _ _ h => h)) ?_
                        refine And.intro (ob_move rfl (wt_dep (c := false) (b := false) (g := 2) rfl (by kernel_rfl) rfl rfl rfl (by exact fun _ _ h => h)) (ev_far rfl rfl) (fun _ _ h => h)) ?_
                        refine And.intro (ob_bin rfl (wt_dep (c := false) (b := false) (g := 2) rfl (by kernel_rfl) rfl rfl rfl (by exact fun _ _ h => h)) (ev_dep (j := 3) (by kernel_rfl) rfl rfl) (ev_dep (j := 4) (by kernel_rfl) rfl rfl) (fun _ _ _ hx hy => ⟨.bool true, by rw [hx, hy, bin_geq_int, H4.out], rfl⟩)) ?_
                        refine And.intro (ob_pick (b := false) rfl (wt_none rfl) (ev_dep (j := 2) (by kernel_rfl) rfl rfl) (ev_dep (j := 5) (by kernel_rfl) rfl rfl) (fun _ _ h => h)) ?_
                        trivial
                      case done26 =>
                        refine fun w6 hb6 v0 h0 v1 h1 v2 h2 v3 h3 v4 h4 v5 h5 v6 h6 b hbf => ?_
                        obtain rfl := h0; obtain rfl := h1; obtain rfl := h2; obtain rfl := h3; obtain rfl := h4; obtain rfl := h5; obtain rfl := h6
                        simp only [Act.put, List.setIfInBounds_toArray, List.set_cons_zero, List.set_cons_succ] at hbf
                        subst hbf
                        replace hZ := hZ.below hb6
                        replace hU := hU.below hb6
                        replace bb := bb.trans (hb6.mono bb.size)
                        have hsz6 := bb.size
                        refine ops_done ?_
                        go_upto_region 13 with (fail)
                        refine flowp 11 [Pd.eq (.int .i64 2), Pd.eq (.bool true), Pd.eq (.bool true), Pd.eq (.slice AU ([] : List Rat).length cU), Pd.eq (.int .i64 ((([] : List Rat).length : Nat) : Int)), Pd.eq (.bool true), Pd.eq (.bool true), Pd.eq (.bool true), Pd.eq (.bool true), Pd.eq (.bool true), Pd.eq (.bool true)] (by kernel_rfl) ?ob27 ?done27
                        case ob27 =>
                          refine And.intro (ob_move rfl (wt_none rfl) (ev_far rfl rfl) (fun _ _ h => h)) ?_
                          refine And.intro (ob_bin rfl (wt_none rfl) (ev_dep (j := 0) (by kernel_rfl) rfl rfl) (ev_const _) (fun _ _ _ hx hy => ⟨.bool ((2 : Int) == 2), by rw [hx, hy]; exact bin_eql_int _ _ _ _ _, congrArg Value.bool (by decide)⟩)) ?_
                          refine And.intro (ob_move rfl (wt_none rfl) (ev_dep (j := 1) (by kernel_rfl) rfl rfl) (fun _ _ h => h)) ?_
                          refine And.intro (ob_move rfl (wt_dep (c := true) (b := true) (g := 2) rfl (by kernel_rfl) rfl rfl rfl (by exact fun _ _ h => h)) (ev_far rfl rfl) (fun _ _ h => h)) ?_
                          refine And.intro (ob_len rfl (wt_dep (c := true) (b := true) (g := 2) rfl (by kernel_rfl) rfl rfl rfl (by exact fun _ _ h => h)) (ev_dep (j := 3) (by kernel_rfl) rfl rfl) (fun _ _ hx => ⟨_, by rw [hx]; exact len_slice Try.underlying22 _ _ _ _, rfl⟩)) ?_
                          refine And.intro (ob_bin rfl (wt_dep (c := true) (b := true) (g := 2) rfl (by kernel_rfl) rfl rfl rfl (by exact fun _ _ h => h)) (ev_dep (j := 4) (by kernel_rfl) rfl rfl) (ev_const _) (fun _ _ _ hx hy => ⟨.bool true, by rw [hx, hy, bin_eql_int, HE0.out], rfl⟩)) ?_
                          refine And.intro (ob_pick (b := true) rfl (wt_none rfl) (ev_dep (j := 2) (by kernel_rfl) rfl rfl) (ev_dep (j := 5) (by kernel_rfl) rfl rfl) (fun _ _ h => h)) ?_
                          refine And.intro (ob_move rfl (wt_none rfl) (ev_dep (j := 6) (by kernel_rfl) rfl rfl) (fun _ _ h => h)) ?_
                          refine And.intro (ob_call0 rfl Try.func7 (by kernel_rfl) (wt_dep (c := true) (b := true) (g := 7) rfl (by kernel_rfl) rfl rfl rfl (by exact fun _ _ h => h)) (fun w2 hb => (works11_any _).mono fun e w3 h => RetV.pd h)) ?_
                          refine And.intro (ob_pick (b := true) rfl (wt_none rfl) (ev_dep (j := 7) (by kernel_rfl) rfl rfl) (ev_dep (j := 8) (by kernel_rfl) rfl rfl) (fun _ _ h => h)) ?_
                          refine And.intro (ob_assign rfl (wt_none rfl) (ev_dep (j := 9) (by kernel_rfl) rfl rfl) (fun _ _ h => h)) ?_
                          trivial
                        case done27 =>
                          refine fun w7 hb7 v0 h0 v1 h1 v2 h2 v3 h3 v4 h4 v5 h5 v6 h6 v7 h7 v8 h8 v9 h9 v10 h10 b hbf => ?_
                          obtain rfl := h0; obtain rfl := h1; obtain rfl := h2; obtain rfl := h3; obtain rfl := h4; obtain rfl := h5; obtain rfl := h6; obtain rfl := h7; obtain rfl := h8; obtain rfl := h9; obtain rfl := h10
                          simp only [Act.put, List.setIfInBounds_toArray, List.set_cons_zero, List.set_cons_succ] at hbf
                          subst hbf
                          replace hZ := hZ.below hb7
                          replace hU := hU.below hb7
                          replace bb := bb.trans (hb7.mono bb.size)
                          have hsz7 := bb.size
                          refine ops_done ?_
                          go_wp2
                          go_ret
                          exact ⟨rfl, bb⟩
set_option maxRecDepth 100000 in
theorem lifted (os : Os) (started : os.Started) (H : Type) (enc : TypeId × Value → H) :
    ReturnsInHanded {} Try.checked os 3 .any (Rows.vectMakesSpec.pre6 enc Try.prog Try.f3 Rows.vectMakesRow.domain false) (Rows.vectMakesSpec.post enc Try.prog Try.f3 false true false false) := by
  refine returnsInHanded_of_change (C := Try.checked) own started (by kernel_rfl) Try.func3
    (ChangeSpec.witness6 (enc := enc) (C := Try.checked) false ⟨#[], #[.int .i64 0, .int .i64 0], []⟩ 8 (by kernel_rfl) (by kernel_rfl) (by kernel_rfl) (by kernel_rfl)) ?_
  intro W base args ds gs before hval0 hW hcnd _
  have hval : ∀ (j : Nat) t v, Try.f3.params[j]? = some t → args[j]? = some v → Value.okWide Try.prog W .any base t v := hval0
  have hW' := hW
  obtain ⟨p, q, hA0, hV, rfl, hfz, hnd⟩ := hW
  have hA : DataW.TrodAll enc Try.prog W 0 (fun _ => true) true Try.f3.params.toList args.toList ds p := hA0
  rw [Try.params3] at hA hval
  obtain ⟨v0, vs0, d0, ds0, p0, q0, hargs, rfl, rfl, t0, r0⟩ := trodAll_cons hA
  obtain ⟨v1, vs1, d1, ds1, p1, q1, rfl, rfl, rfl, t1, r1⟩ := trodAll_cons r0
  obtain ⟨rfl, rfl, rfl⟩ := trodAll_nil r1
  obtain rfl : args = #[v0, v1] := by cases args; simp_all
  obtain ⟨rfl, rfl⟩ := trodVars_none hV
  obtain ⟨a0, rfl, hd0, hp0, wf0⟩ := open_int Try.underlying3 (hval 0 3 v0 rfl rfl) t0
  obtain ⟨a1, rfl, hd1, hp1, wf1⟩ := open_int Try.underlying3 (hval 1 3 v1 rfl rfl) t1
  clear hA0 hval0
  simp only [List.append_nil] at hW'
  have hlt0 : ∀ x ∈ p0, x.block < W.heap.size := fun x hx => hW'.lt x (List.mem_append_left _ hx)
  have hlt1 : ∀ x ∈ p1, x.block < W.heap.size := fun x hx => hW'.lt x (List.mem_append_right _ (hx))
  refine (walk a0 a1 W wf0 wf1).mono fun e W' ⟨he, hb⟩ => ?_
  subst he
  have s0 := Below.trod laidOut (by kernel_rfl) (of_decide_eq_true (by kernel_rfl)) t0 hb hlt0
  have s1 := Below.trod laidOut (by kernel_rfl) (of_decide_eq_true (by kernel_rfl)) t1 hb hlt1
  exact ⟨_, rfl, _, _, _, [] ++ [], _, [], hW', trodAll_cons_mk (shut_bool Try.underlying4 _) trodAll_mk0, trodAll_cons_mk s0 (trodAll_cons_mk s1 (trodAll_mk0)), rfl, hb.frame _, fun h => by cases h⟩
theorem over : Rows.vectMakesRow.holds Try.pinned (OpenSpec.ofChange Rows.vectMakesSpec) :=
  OpenClaim.holds_of_wide 3 Try.f3 rfl rfl rfl rfl rfl rfl rfl ⟨rfl, rfl, rfl, rfl, rfl⟩ rfl rfl rfl rfl rfl (by kernel_rfl) Try.func3 (by kernel_rfl)
    (of_decide_eq_true (by kernel_rfl)) (by unfold Func.isWrapper; first | (rw [if_pos (by decide +kernel)]; kernel_rfl) | (rw [if_neg (by decide +kernel)]; exact ⟨rfl, rfl⟩))
    (fun os started H enc _ => lifted os started H enc)
/-- The statement. -/
theorem proved : Rows.VectMakesSaid := over
end Go.Proofs.Ytodpjmbclmlieaa.vectMakes
