/- RatMakes: any two numbers are made a fraction, in lowest terms, as the document says, or refused; and which may be fractions. Condition: the arguments can be read as data. -/
import Derived.Test.YtbebmknfecehnaaRatW
import Derived.Test.YtbebmknfecehnaaRatE
import Derived.Deep.Cut
import Derived.OpenShut
import Derived.LaidMore
import Derived.Lay
import Derived.Stop.Joined
import Derived.Test.YtbebmknfecehnaaRatH
namespace Go.Proofs.Ytbebmknfecehnaa.ratMakes
open Go.ChangeShapes Go.WideShapes Go.ChangeAt Go.RowKit Go.Proofs.Ytbebmknfecehnaa.num Go.Proofs.Ytbebmknfecehnaa.mem Go.Proofs.Ytbebmknfecehnaa.nat Go.Proofs.Ytbebmknfecehnaa.txt Go.Proofs.Ytbebmknfecehnaa.str Go.Proofs.Ytbebmknfecehnaa.flow Go.Proofs.Ytbebmknfecehnaa.whl Go.Proofs.Ytbebmknfecehnaa.rat
set_option linter.unusedVariables false

theorem own : ownKnob Try.prog.godebug = none := by kernel_rfl
theorem laidOut : laidOutB Try.prog = true := by kernel_rfl
theorem cells_u : Try.prog.cellsOf 69 = 1 := by kernel_rfl


set_option maxHeartbeats 6400000 in
set_option maxRecDepth 100000 in
/-- The walk: the Go text returns true; what was there is as it was. -/
theorem walk (b0 : Bool) (v0 : Value) (l0 : List Nat) (b1 : Bool) (v1 : Value) (l1 : List Nat) (b2 : Bool) (v2 r2 : Value) (l2 m2 : List Nat) (w : World) (h0 : IsS w .u64 v0 l0) (u0 : Lt 18446744073709551616 l0) (h1 : IsS w .u64 v1 l1) (u1 : Lt 18446744073709551616 l1) (h2 : IsS w .u64 v2 l2) (u2 : Lt 18446744073709551616 l2) (j2 : IsS w .u64 r2 m2) (x2 : Lt 18446744073709551616 m2) :
    Calls Try.prog 3 #[.agg #[.bool b0, v0], .agg #[.bool b1, v1], .agg #[.bool b2, v2, r2]] w (RetV (.bool true) w) := by
  obtain ⟨x, hx0⟩ : ∃ x, x = cleanZ b0 l0 4 := ⟨_, rfl⟩
  have lx : lenZ x ≤ 4 := by rw [hx0]; exact cleanZ_len _ _ _
  have HX0 := Lib.hid hx0.symm
  clear hx0
  obtain ⟨y, hx1⟩ : ∃ y, y = cleanZ b1 l1 4 := ⟨_, rfl⟩
  have ly : lenZ y ≤ 4 := by rw [hx1]; exact cleanZ_len _ _ _
  have HX1 := Lib.hid hx1.symm
  clear hx1
  obtain ⟨A0, c0, rfl, _⟩ := id h0
  obtain ⟨A1, c1, rfl, _⟩ := id h1
  obtain ⟨A2, c2, rfl, hA2, _⟩ := id h2
  obtain ⟨D2, e2, rfl, hD2, _⟩ := id j2
  have HA2 := Lib.hid hA2
  have HD2 := Lib.hid hD2
  clear hA2 hD2
  go_enter Try.func3, Try.ntmps3
  go_upto_region 1 with (fail)
  obtain ⟨w0, hwx, bb, BP0, BP1, BP2, hsz⟩ := vars3 w 25 25 27 #[.bool b0, .slice A0 l0.length c0] #[.bool b1, .slice A1 l1.length c1] #[.bool b2, .slice A2 l2.length c2, .slice D2 m2.length e2]
  rw [hwx]
  clear hwx
  have p0s := h0.below bb
  have p1s := h1.below bb
  have p2s := h2.below bb
  have p2d := j2.below bb
  have hsz0 := bb.size
  refine flow 4 [Pd.eq (.agg #[.bool b0, .slice A0 l0.length c0]), pz (x) w0.heap.size, Pd.eq (.agg #[.bool b1, .slice A1 l1.length c1]), pz (y) w0.heap.size] (by kernel_rfl) (by kernel_rfl) ?ob1 ?done1
  case ob1 =>
    refine And.intro (ob_load rfl (wt_none rfl) (ev_far rfl rfl) (fun w2 hb => run_loadAll Try.underlying25 rfl (by kernel_rfl) (BP0.drew.below hb)) (fun _ _ => rfl)) ?_
    refine And.intro (ob_call2 rfl Try.func5 (by kernel_rfl) (wt_none rfl) (ev_dep (j := 0) (by kernel_rfl) rfl rfl) (ev_const _) (fun w2 u0 u1 hb h0 h1 => by obtain rfl := h0; obtain rfl := h1; exact (HX0.out ▸ zclean_any _ _ _ _ 4 _ rfl (p0s.drew.below hb) u0 (by omega)).mono fun e w3 h => RetZ.pd h hb.size)) ?_
    refine And.intro (ob_load rfl (wt_none rfl) (ev_far rfl rfl) (fun w2 hb => run_loadAll Try.underlying25 rfl (by kernel_rfl) (BP1.drew.below hb)) (fun _ _ => rfl)) ?_
    refine And.intro (ob_call2 rfl Try.func5 (by kernel_rfl) (wt_none rfl) (ev_dep (j := 2) (by kernel_rfl) rfl rfl) (ev_const _) (fun w2 u0 u1 hb h0 h1 => by obtain rfl := h0; obtain rfl := h1; exact (HX1.out ▸ zclean_any _ _ _ _ 4 _ rfl (p1s.drew.below hb) u1 (by omega)).mono fun e w3 h => RetZ.pd h hb.size)) ?_
    trivial
  case done1 =>
    refine fun w1 hb1 v0 h0 v1 h1 v2 h2 v3 h3 b hbf => ?_
    obtain rfl := h0; obtain rfl := h2
    obtain ⟨q1, f1⟩ := h1
    obtain ⟨q3, f3⟩ := h3
    simp only [Act.put, List.setIfInBounds_toArray, List.set_cons_zero, List.set_cons_succ] at hbf
    subst hbf
    replace BP0 := BP0.below hb1
    replace p0s := p0s.below hb1
    replace BP1 := BP1.below hb1
    replace p1s := p1s.below hb1
    replace BP2 := BP2.below hb1
    replace p2s := p2s.below hb1
    replace p2d := p2d.below hb1
    replace bb := bb.trans (hb1.mono bb.size)
    have hsz1 := bb.size
    obtain ⟨u1, rfl, q1⟩ := q1
    obtain ⟨Ax, cx, rfl, _⟩ := id q1
    obtain ⟨u3, rfl, q3⟩ := q3
    obtain ⟨Ay, cy, rfl, _⟩ := id q3
    refine any_store (i := 4) (by kernel_rfl) rfl rfl rfl rfl rfl rfl (cells := [.bool (ngB x), .slice Ax (digs 4294967296 (x).natAbs).length cx]) rfl BP0 rfl (by kernel_rfl) (one2 rfl rfl) fun w2 hg2 BN2 => ?_
    replace q3 := off q3 BP0 no_ints2 hg2
    replace q1 := off q1 BP0 no_ints2 hg2
    replace p1s := off p1s BP0 no_ints2 hg2
    replace BP1 := BP1.grown hg2 (by omega)
    replace p2s := off p2s BP0 no_ints2 hg2
    replace p2d := off p2d BP0 no_ints2 hg2
    replace BP2 := BP2.grown hg2 (by omega)
    replace bb := bb.trans ((Below.refl _ _).grown hg2 bb.size (fun g hg => by injection hg with hg; omega))
    have hsz2 := bb.size
    have Bx : Blk w2 (w.heap.size) _ _ := BN2
    have kxs := q1
    have kx : IsZ w2 (.agg #[.bool (ngB x), .slice Ax (digs 4294967296 (x).natAbs).length cx]) (x) := ⟨_, rfl, kxs⟩
    refine any_store (i := 5) (by kernel_rfl) rfl rfl rfl rfl rfl rfl (cells := [.bool (ngB y), .slice Ay (digs 4294967296 (y).natAbs).length cy]) rfl BP1 rfl (by kernel_rfl) (one2 rfl rfl) fun w3 hg3 BN3 => ?_
    replace q3 := off q3 BP1 no_ints2 hg3
    replace kxs := off kxs BP1 no_ints2 hg3
    replace kx : IsZ w3 (.agg #[.bool (ngB x), .slice Ax (digs 4294967296 (x).natAbs).length cx]) (x) := ⟨_, rfl, kxs⟩
    replace Bx := Bx.grown hg3 (by omega)
    replace p2s := off p2s BP1 no_ints2 hg3
    replace p2d := off p2d BP1 no_ints2 hg3
    replace BP2 := BP2.grown hg3 (by omega)
    replace bb := bb.trans ((Below.refl _ _).grown hg3 bb.size (fun g hg => by injection hg with hg; omega))
    have hsz3 := bb.size
    have By : Blk w3 (w.heap.size + 1) _ _ := BN3
    have kys := q3
    have ky : IsZ w3 (.agg #[.bool (ngB y), .slice Ay (digs 4294967296 (y).natAbs).length cy]) (y) := ⟨_, rfl, kys⟩
    refine any_done (by kernel_rfl) ?_
    obtain ⟨Q, hQ⟩ : ∃ Q, Q = Rat.divInt x y := ⟨_, rfl⟩
    have HQ0 : Hid (Rat.divInt x y = Q) := hQ.symm
    clear hQ
    by_cases hy0 : y = 0
    · have HLY : Hid (((((digs 4294967296 (y).natAbs).length : Nat) : Int) == 0) = true) := by show _ = _; rw [hy0, Int.natAbs_zero, digs_zero]; rfl
      go_upto_region 2 with (fail)
      have lt3_3 := Blk.lt Bx
      have lt3_4 := Blk.lt By
      have lt3_5 := Blk.lt BP2
      refine flowp 7 [Pd.eq (.agg #[.bool (ngB x), .slice Ax (digs 4294967296 (x).natAbs).length cx]), Pd.eq (.agg #[.bool (ngB y), .slice Ay (digs 4294967296 (y).natAbs).length cy]), Pd.eq (.tuple #[.agg #[.bool false, .slice none 0 0, .slice none 0 0], .int .i64 3]), Pd.eq (.tuple #[.agg #[.bool false, .slice none 0 0, .slice none 0 0], .int .i64 3]), Pd.eq (.agg #[.bool false, .slice none 0 0, .slice none 0 0]), Pd.eq (.int .i64 3), pn 27 #[.bool false, .slice none 0 0, .slice none 0 0] w3.heap.size] (by kernel_rfl) ?ob2 ?done2
      case ob2 =>
        refine And.intro (ob_load rfl (wt_none rfl) (ev_far rfl rfl) (fun w2 hb => run_loadAll Try.underlying25 rfl (by kernel_rfl) (Bx.below hb)) (fun _ _ => rfl)) ?_
        refine And.intro (ob_load rfl (wt_none rfl) (ev_far rfl rfl) (fun w2 hb => run_loadAll Try.underlying25 rfl (by kernel_rfl) (By.below hb)) (fun _ _ => rfl)) ?_
        refine And.intro (ob_call2 rfl Try.func6 (by kernel_rfl) (wt_none rfl) (ev_dep (j := 0) (by kernel_rfl) rfl rfl) (ev_dep (j := 1) (by kernel_rfl) rfl rfl) (fun w2 u0 u1 hb h0 h1 => by obtain rfl := h0; obtain rfl := h1; exact (fmake_zero _ x _ y _ (kx.below hb) (ky.below hb) hy0).mono fun e w3 h => RetQN.pd h)) ?_
        refine And.intro (ob_move rfl (wt_none rfl) (ev_dep (j := 2) (by kernel_rfl) rfl rfl) (fun _ _ h => h)) ?_
        refine And.intro (ob_extract rfl (wt_none rfl) (ev_dep (j := 3) (by kernel_rfl) rfl rfl) (fun w2 u hu => by obtain rfl := hu; exact ⟨_, rfl, rfl⟩)) ?_
        refine And.intro (ob_extract rfl (wt_none rfl) (ev_dep (j := 3) (by kernel_rfl) rfl rfl) (fun w2 u hu => by obtain rfl := hu; exact ⟨_, rfl, rfl⟩)) ?_
        refine And.intro (ob_alloc (z := .agg #[.bool false, .slice none 0 0, .slice none 0 0]) rfl rfl (fun _ => by kernel_rfl) (fun _ _ hB h => ⟨_, rfl, hB, h⟩)) ?_
        trivial
      case done2 =>
        refine fun w4 hb4 v0 h0 v1 h1 v2 h2 v3 h3 v4 h4 v5 h5 v6 h6 d6 b hbf => ?_
        obtain rfl := h0; obtain rfl := h1; obtain rfl := h2; obtain rfl := h3; obtain rfl := h4; obtain rfl := h5
        obtain ⟨g2_6, rfl, hg6, B6⟩ := h6
        simp only [Act.put, List.setIfInBounds_toArray, List.set_cons_zero, List.set_cons_succ] at hbf
        subst hbf
        replace Bx := Bx.below hb4
        replace kxs := kxs.below hb4
        replace kx := kx.below hb4
        replace By := By.below hb4
        replace kys := kys.below hb4
        replace ky := ky.below hb4
        replace BP2 := BP2.below hb4
        replace p2s := p2s.below hb4
        replace p2d := p2d.below hb4
        replace bb := bb.trans (hb4.mono bb.size)
        have hsz4 := bb.size
        have BA7 := B6
        refine ops_store (i := 7) rfl rfl rfl rfl rfl rfl (cells := [.bool false, .slice none 0 0, .slice none 0 0]) rfl BA7 rfl (by kernel_rfl) (one3 rfl rfl rfl) fun w5 hg5 BN5 => ?_
        replace kxs := off kxs BA7 no_ints3 hg5
        replace kx : IsZ w5 (.agg #[.bool (ngB x), .slice Ax (digs 4294967296 (x).natAbs).length cx]) (x) := ⟨_, rfl, kxs⟩
        replace Bx := Bx.grown hg5 (by omega)
        replace kys := off kys BA7 no_ints3 hg5
        replace ky : IsZ w5 (.agg #[.bool (ngB y), .slice Ay (digs 4294967296 (y).natAbs).length cy]) (y) := ⟨_, rfl, kys⟩
        replace By := By.grown hg5 (by omega)
        replace p2s := off p2s BA7 no_ints3 hg5
        replace p2d := off p2d BA7 no_ints3 hg5
        replace BP2 := BP2.grown hg5 (by omega)
        replace bb := bb.trans ((Below.refl _ _).grown hg5 bb.size (fun g hg => by injection hg with hg; omega))
        have hsz5 := bb.size
        replace BA7 : Blk w5 (g2_6) _ #[.bool false, .slice none 0 0, .slice none 0 0] := BN5
        refine ops_assign (i := 8) (.int .i64 3) rfl rfl rfl rfl rfl fun b hbf => ?_
        simp only [Act.put, List.setIfInBounds_toArray, List.set_cons_zero, List.set_cons_succ] at hbf
        subst hbf
        refine ops_done ?_
        go_upto_region 3 with (fail)
        refine flowp 4 [Pd.eq (.pointer (some ⟨w.heap.size + 1, 1, none⟩)), Pd.eq (.slice Ay (digs 4294967296 (y).natAbs).length cy), Pd.eq (.int .i64 (((digs 4294967296 (y).natAbs).length : Nat) : Int)), Pd.eq (.bool true)] (by kernel_rfl) ?ob3 ?done3
        case ob3 =>
          refine And.intro (ob_fieldAddr rfl (wt_none rfl) (ev_far rfl rfl) (fun _ => by kernel_rfl) (fun _ => rfl)) ?_
          refine And.intro (ob_load rfl (wt_none rfl) (ev_dep (j := 0) (by kernel_rfl) rfl rfl) (fun w2 hb => run_load1 Try.underlying23 rfl ((By.below hb).cell 1)) (fun _ _ => rfl)) ?_
          refine And.intro (ob_len rfl (wt_none rfl) (ev_dep (j := 1) (by kernel_rfl) rfl rfl) (fun _ _ hx => ⟨_, by rw [hx]; exact len_slice Try.underlying23 _ _ _ _, rfl⟩)) ?_
          refine And.intro (ob_bin rfl (wt_none rfl) (ev_dep (j := 2) (by kernel_rfl) rfl rfl) (ev_const _) (fun _ _ _ hx hy => ⟨.bool true, by rw [hx, hy, bin_eql_int, HLY.out], rfl⟩)) ?_
          trivial
        case done3 =>
          refine fun w6 hb6 v0 h0 v1 h1 v2 h2 v3 h3 b hbf => ?_
          obtain rfl := h0; obtain rfl := h1; obtain rfl := h2; obtain rfl := h3
          simp only [Act.put, List.setIfInBounds_toArray, List.set_cons_zero, List.set_cons_succ] at hbf
          subst hbf
          replace Bx := Bx.below hb6
          replace kxs := kxs.below hb6
          replace kx := kx.below hb6
          replace By := By.below hb6
          replace kys := kys.below hb6
          replace ky := ky.below hb6
          replace BP2 := BP2.below hb6
          replace p2s := p2s.below hb6
          replace p2d := p2d.below hb6
          replace BA7 := BA7.below hb6
          replace bb := bb.trans (hb6.mono bb.size)
          have hsz6 := bb.size
          refine ops_done ?_
          go_upto_region 4 with (fail)
          refine flowp 17 [Pd.eq (.int .i64 3), Pd.eq (.bool true), Pd.eq (.bool true), Pd.eq (.pointer (some ⟨g2_6, 2, none⟩)), Pd.eq (.slice none 0 0), Pd.eq (.int .i64 ((0 : Nat) : Int)), Pd.eq (.pointer (some ⟨g2_6, 0, none⟩)), Pd.eq (.pointer (some ⟨g2_6, 1, none⟩)), Pd.eq (.slice none 0 0), Pd.eq (.int .i64 ((0 : Nat) : Int)), Pd.eq (.int .i64 0), Pd.eq (.bool true), Pd.eq (.bool true), Pd.eq (.bool true), Pd.eq (.bool true), Pd.eq (.bool true), Pd.eq (.bool true)] (by kernel_rfl) ?ob4 ?done4
          case ob4 =>
            refine And.intro (ob_move rfl (wt_none rfl) (ev_far rfl rfl) (fun _ _ h => h)) ?_
            refine And.intro (ob_bin rfl (wt_none rfl) (ev_dep (j := 0) (by kernel_rfl) rfl rfl) (ev_const _) (fun _ _ _ hx hy => ⟨.bool ((3 : Int) == 3), by rw [hx, hy]; exact bin_eql_int _ _ _ _ _, congrArg Value.bool (by decide)⟩)) ?_
            refine And.intro (ob_move rfl (wt_none rfl) (ev_dep (j := 1) (by kernel_rfl) rfl rfl) (fun _ _ h => h)) ?_
            refine And.intro (ob_fieldAddr rfl (wt_dep (c := true) (b := true) (g := 2) rfl (by kernel_rfl) rfl rfl rfl (by exact fun _ _ h => h)) (ev_far rfl rfl) (fun _ => by kernel_rfl) (fun _ => rfl)) ?_
            refine And.intro (ob_load rfl (wt_dep (c := true) (b := true) (g := 2) rfl (by kernel_rfl) rfl rfl rfl (by exact fun _ _ h => h)) (ev_dep (j := 3) (by kernel_rfl) rfl rfl) (fun w2 hb => run_load1 Try.underlying23 rfl ((BA7.below hb).cell 2)) (fun _ _ => rfl)) ?_
            refine And.intro (ob_len rfl (wt_dep (c := true) (b := true) (g := 2) rfl (by kernel_rfl) rfl rfl rfl (by exact fun _ _ h => h)) (ev_dep (j := 4) (by kernel_rfl) rfl rfl) (fun _ _ hx => ⟨_, by rw [hx]; exact len_slice Try.underlying23 _ _ _ _, rfl⟩)) ?_
            refine And.intro (ob_fieldAddr rfl (wt_dep (c := true) (b := true) (g := 2) rfl (by kernel_rfl) rfl rfl rfl (by exact fun _ _ h => h)) (ev_far rfl rfl) (fun _ => by kernel_rfl) (fun _ => rfl)) ?_
            refine And.intro (ob_fieldAddr rfl (wt_dep (c := true) (b := true) (g := 2) rfl (by kernel_rfl) rfl rfl rfl (by exact fun _ _ h => h)) (ev_dep (j := 6) (by kernel_rfl) rfl rfl) (fun _ => by kernel_rfl) (fun _ => rfl)) ?_
            refine And.intro (ob_load rfl (wt_dep (c := true) (b := true) (g := 2) rfl (by kernel_rfl) rfl rfl rfl (by exact fun _ _ h => h)) (ev_dep (j := 7) (by kernel_rfl) rfl rfl) (fun w2 hb => run_load1 Try.underlying23 rfl ((BA7.below hb).cell 1)) (fun _ _ => rfl)) ?_
            refine And.intro (ob_len rfl (wt_dep (c := true) (b := true) (g := 2) rfl (by kernel_rfl) rfl rfl rfl (by exact fun _ _ h => h)) (ev_dep (j := 8) (by kernel_rfl) rfl rfl) (fun _ _ hx => ⟨_, by rw [hx]; exact len_slice Try.underlying23 _ _ _ _, rfl⟩)) ?_
            refine And.intro (ob_bin rfl (wt_dep (c := true) (b := true) (g := 2) rfl (by kernel_rfl) rfl rfl rfl (by exact fun _ _ h => h)) (ev_dep (j := 5) (by kernel_rfl) rfl rfl) (ev_dep (j := 9) (by kernel_rfl) rfl rfl) (fun _ _ _ hx hy => ⟨.int .i64 0, by rw [hx, hy]; kernel_rfl, rfl⟩)) ?_
            refine And.intro (ob_bin rfl (wt_dep (c := true) (b := true) (g := 2) rfl (by kernel_rfl) rfl rfl rfl (by exact fun _ _ h => h)) (ev_dep (j := 10) (by kernel_rfl) rfl rfl) (ev_const _) (fun _ _ _ hx hy => ⟨.bool ((0 : Int) == 0), by rw [hx, hy]; exact bin_eql_int _ _ _ _ _, congrArg Value.bool (by decide)⟩)) ?_
            refine And.intro (ob_pick (b := true) rfl (wt_none rfl) (ev_dep (j := 2) (by kernel_rfl) rfl rfl) (ev_dep (j := 11) (by kernel_rfl) rfl rfl) (fun _ _ h => h)) ?_
            refine And.intro (ob_move rfl (wt_none rfl) (ev_dep (j := 12) (by kernel_rfl) rfl rfl) (fun _ _ h => h)) ?_
            refine And.intro (ob_call0 rfl Try.func7 (by kernel_rfl) (wt_dep (c := true) (b := true) (g := 13) rfl (by kernel_rfl) rfl rfl rfl (by exact fun _ _ h => h)) (fun w2 hb => (works8_any _).mono fun e w3 h => RetV.pd h)) ?_
            refine And.intro (ob_pick (b := true) rfl (wt_none rfl) (ev_dep (j := 13) (by kernel_rfl) rfl rfl) (ev_dep (j := 14) (by kernel_rfl) rfl rfl) (fun _ _ h => h)) ?_
            refine And.intro (ob_assign rfl (wt_none rfl) (ev_dep (j := 15) (by kernel_rfl) rfl rfl) (fun _ _ h => h)) ?_
            trivial
          case done4 =>
            refine fun w7 hb7 v0 h0 v1 h1 v2 h2 v3 h3 v4 h4 v5 h5 v6 h6 v7 h7 v8 h8 v9 h9 v10 h10 v11 h11 v12 h12 v13 h13 v14 h14 v15 h15 v16 h16 b hbf => ?_
            obtain rfl := h0; obtain rfl := h1; obtain rfl := h2; obtain rfl := h3; obtain rfl := h4; obtain rfl := h5; obtain rfl := h6; obtain rfl := h7; obtain rfl := h8; obtain rfl := h9; obtain rfl := h10; obtain rfl := h11; obtain rfl := h12; obtain rfl := h13; obtain rfl := h14; obtain rfl := h15; obtain rfl := h16
            simp only [Act.put, List.setIfInBounds_toArray, List.set_cons_zero, List.set_cons_succ] at hbf
            subst hbf
            replace Bx := Bx.below hb7
            replace kxs := kxs.below hb7
            replace kx := kx.below hb7
            replace By := By.below hb7
            replace kys := kys.below hb7
            replace ky := ky.below hb7
            replace BP2 := BP2.below hb7
            replace p2s := p2s.below hb7
            replace p2d := p2d.below hb7
            replace BA7 := BA7.below hb7
            replace bb := bb.trans (hb7.mono bb.size)
            have hsz7 := bb.size
            refine ops_done ?_
            go_wp2
            go_ret
            exact ⟨rfl, bb⟩
    · have HLY : Hid (((((digs 4294967296 (y).natAbs).length : Nat) : Int) == 0) = false) := by show _ = _; have := len_pos (y := y.natAbs) (by omega); rw [beq_eq_false_iff_ne]; omega
      have lQ : lenQ Q 4 := by
        rw [← HQ0.out]
        by_cases h : y < 0
        · rw [divInt_lt h]; exact lenQ_mk (by omega) (by rw [lenZ_neg]; exact lx) ly
        · rw [divInt_gt (by omega)]; exact lenQ_mk (by omega) lx ly
      go_upto_region 2 with (fail)
      have lt3_3 := Blk.lt Bx
      have lt3_4 := Blk.lt By
      have lt3_5 := Blk.lt BP2
      refine flowp 7 [Pd.eq (.agg #[.bool (ngB x), .slice Ax (digs 4294967296 (x).natAbs).length cx]), Pd.eq (.agg #[.bool (ngB y), .slice Ay (digs 4294967296 (y).natAbs).length cy]), pqe (Q) 0, pqe (Q) 0, pqn (Q), Pd.eq (.int .i64 0), pn 27 #[.bool false, .slice none 0 0, .slice none 0 0] w3.heap.size] (by kernel_rfl) ?ob5 ?done5
      case ob5 =>
        refine And.intro (ob_load rfl (wt_none rfl) (ev_far rfl rfl) (fun w2 hb => run_loadAll Try.underlying25 rfl (by kernel_rfl) (Bx.below hb)) (fun _ _ => rfl)) ?_
        refine And.intro (ob_load rfl (wt_none rfl) (ev_far rfl rfl) (fun w2 hb => run_loadAll Try.underlying25 rfl (by kernel_rfl) (By.below hb)) (fun _ _ => rfl)) ?_
        refine And.intro (ob_call2 rfl Try.func6 (by kernel_rfl) (wt_none rfl) (ev_dep (j := 0) (by kernel_rfl) rfl rfl) (ev_dep (j := 1) (by kernel_rfl) rfl rfl) (fun w2 u0 u1 hb h0 h1 => by obtain rfl := h0; obtain rfl := h1; exact (HQ0.out ▸ fmake_ok _ x _ y _ (kx.below hb) (ky.below hb) (Nat.le_trans lx (by decide)) (Nat.le_trans ly (by decide)) hy0).mono fun e w3 h => RetQE.pd h)) ?_
        refine And.intro (ob_move rfl (wt_none rfl) (ev_dep (j := 2) (by kernel_rfl) rfl rfl) (fun _ _ h => h)) ?_
        refine And.intro (ob_extract rfl (wt_none rfl) (ev_dep (j := 3) (by kernel_rfl) rfl rfl) (fun w2 u hu => by obtain ⟨v, rfl, q1⟩ := hu; exact ⟨v, rfl, q1⟩)) ?_
        refine And.intro (ob_extract rfl (wt_none rfl) (ev_dep (j := 3) (by kernel_rfl) rfl rfl) (fun w2 u hu => by obtain ⟨v, rfl, q1⟩ := hu; exact ⟨_, rfl, rfl⟩)) ?_
        refine And.intro (ob_alloc (z := .agg #[.bool false, .slice none 0 0, .slice none 0 0]) rfl rfl (fun _ => by kernel_rfl) (fun _ _ hB h => ⟨_, rfl, hB, h⟩)) ?_
        trivial
      case done5 =>
        refine fun w4 hb4 v0 h0 v1 h1 v2 h2 v3 h3 v4 h4 v5 h5 v6 h6 d6 b hbf => ?_
        obtain rfl := h0; obtain rfl := h1; obtain rfl := h5
        clear h2
        clear h3
        have q4 := h4
        obtain ⟨g5_6, rfl, hg6, B6⟩ := h6
        simp only [Act.put, List.setIfInBounds_toArray, List.set_cons_zero, List.set_cons_succ] at hbf
        subst hbf
        replace Bx := Bx.below hb4
        replace kxs := kxs.below hb4
        replace kx := kx.below hb4
        replace By := By.below hb4
        replace kys := kys.below hb4
        replace ky := ky.below hb4
        replace BP2 := BP2.below hb4
        replace p2s := p2s.below hb4
        replace p2d := p2d.below hb4
        replace bb := bb.trans (hb4.mono bb.size)
        have hsz4 := bb.size
        have BA7 := B6
        obtain ⟨u4, t4, rfl, q4, d4⟩ := q4
        obtain ⟨Ap, cp, rfl, _⟩ := id q4
        obtain ⟨Dp, ep, rfl, _⟩ := id d4
        refine ops_store (i := 7) rfl rfl rfl rfl rfl rfl (cells := [.bool (ngB (Q).num), .slice Ap (digs 4294967296 (Q).num.natAbs).length cp, .slice Dp (digs 4294967296 (Q).den).length ep]) rfl BA7 rfl (by kernel_rfl) (one3 rfl rfl rfl) fun w5 hg5 BN5 => ?_
        replace q4 := off q4 BA7 no_ints3 hg5
        replace d4 := off d4 BA7 no_ints3 hg5
        replace kxs := off kxs BA7 no_ints3 hg5
        replace kx : IsZ w5 (.agg #[.bool (ngB x), .slice Ax (digs 4294967296 (x).natAbs).length cx]) (x) := ⟨_, rfl, kxs⟩
        replace Bx := Bx.grown hg5 (by omega)
        replace kys := off kys BA7 no_ints3 hg5
        replace ky : IsZ w5 (.agg #[.bool (ngB y), .slice Ay (digs 4294967296 (y).natAbs).length cy]) (y) := ⟨_, rfl, kys⟩
        replace By := By.grown hg5 (by omega)
        replace p2s := off p2s BA7 no_ints3 hg5
        replace p2d := off p2d BA7 no_ints3 hg5
        replace BP2 := BP2.grown hg5 (by omega)
        replace bb := bb.trans ((Below.refl _ _).grown hg5 bb.size (fun g hg => by injection hg with hg; omega))
        have hsz5 := bb.size
        have Bp : Blk w5 (g5_6) _ _ := BN5
        have kps := q4
        have kpd := d4
        have kpz : IsZ w5 (.agg #[.bool (ngB (Q).num), .slice Ap (digs 4294967296 (Q).num.natAbs).length cp]) ((Q).num) := ⟨_, rfl, kps⟩
        have kp : IsQ w5 (.agg #[.bool (ngB (Q).num), .slice Ap (digs 4294967296 (Q).num.natAbs).length cp, .slice Dp (digs 4294967296 (Q).den).length ep]) (Q) := ⟨_, _, rfl, kps, kpd⟩
        refine ops_assign (i := 8) (.int .i64 0) rfl rfl rfl rfl rfl fun b hbf => ?_
        simp only [Act.put, List.setIfInBounds_toArray, List.set_cons_zero, List.set_cons_succ] at hbf
        subst hbf
        refine ops_done ?_
        go_upto_region 3 with (fail)
        refine flowp 4 [Pd.eq (.pointer (some ⟨w.heap.size + 1, 1, none⟩)), Pd.eq (.slice Ay (digs 4294967296 (y).natAbs).length cy), Pd.eq (.int .i64 (((digs 4294967296 (y).natAbs).length : Nat) : Int)), Pd.eq (.bool false)] (by kernel_rfl) ?ob6 ?done6
        case ob6 =>
          refine And.intro (ob_fieldAddr rfl (wt_none rfl) (ev_far rfl rfl) (fun _ => by kernel_rfl) (fun _ => rfl)) ?_
          refine And.intro (ob_load rfl (wt_none rfl) (ev_dep (j := 0) (by kernel_rfl) rfl rfl) (fun w2 hb => run_load1 Try.underlying23 rfl ((By.below hb).cell 1)) (fun _ _ => rfl)) ?_
          refine And.intro (ob_len rfl (wt_none rfl) (ev_dep (j := 1) (by kernel_rfl) rfl rfl) (fun _ _ hx => ⟨_, by rw [hx]; exact len_slice Try.underlying23 _ _ _ _, rfl⟩)) ?_
          refine And.intro (ob_bin rfl (wt_none rfl) (ev_dep (j := 2) (by kernel_rfl) rfl rfl) (ev_const _) (fun _ _ _ hx hy => ⟨.bool false, by rw [hx, hy, bin_eql_int, HLY.out], rfl⟩)) ?_
          trivial
        case done6 =>
          refine fun w6 hb6 v0 h0 v1 h1 v2 h2 v3 h3 b hbf => ?_
          obtain rfl := h0; obtain rfl := h1; obtain rfl := h2; obtain rfl := h3
          simp only [Act.put, List.setIfInBounds_toArray, List.set_cons_zero, List.set_cons_succ] at hbf
          subst hbf
          replace Bx := Bx.below hb6
          replace kxs := kxs.below hb6
          replace kx := kx.below hb6
          replace By := By.below hb6
          replace kys := kys.below hb6
          replace ky := ky.below hb6
          replace BP2 := BP2.below hb6
          replace p2s := p2s.below hb6
          replace p2d := p2d.below hb6
          replace Bp := Bp.below hb6
          replace kps := kps.below hb6
          replace kpd := kpd.below hb6
          replace kpz := kpz.below hb6
          replace kp := kp.below hb6
          replace bb := bb.trans (hb6.mono bb.size)
          have hsz6 := bb.size
          refine ops_done ?_
          go_upto_region 5 with (fail)
          have lt6_3 := Blk.lt Bx
          have lt6_4 := Blk.lt By
          have lt6_5 := Blk.lt BP2
          have lt6_7 := Blk.lt Bp
          refine flowp 3 [Pd.eq (.agg #[.bool (ngB x), .slice Ax (digs 4294967296 (x).natAbs).length cx]), pr (x), pn 36 #[.bool false, .slice none 0 0] w6.heap.size] (by kernel_rfl) ?ob7 ?done7
          case ob7 =>
            refine And.intro (ob_load rfl (wt_none rfl) (ev_far rfl rfl) (fun w2 hb => run_loadAll Try.underlying25 rfl (by kernel_rfl) (Bx.below hb)) (fun _ _ => rfl)) ?_
            refine And.intro (ob_call1 rfl Try.func8 (by kernel_rfl) (wt_none rfl) (ev_dep (j := 0) (by kernel_rfl) rfl rfl) (fun w2 u0 hb h0 => by obtain rfl := h0; exact (rof_any _ x _ (kx.below hb) (Nat.le_trans lx (by decide))).mono fun e w3 h => RetR.pd h)) ?_
            refine And.intro (ob_alloc (z := .agg #[.bool false, .slice none 0 0]) rfl rfl (fun _ => by kernel_rfl) (fun _ _ hB h => ⟨_, rfl, hB, h⟩)) ?_
            trivial
          case done7 =>
            refine fun w7 hb7 v0 h0 v1 h1 v2 h2 d2 b hbf => ?_
            obtain rfl := h0
            have q1 := h1
            obtain ⟨g7_2, rfl, hg2, B2⟩ := h2
            simp only [Act.put, List.setIfInBounds_toArray, List.set_cons_zero, List.set_cons_succ] at hbf
            subst hbf
            replace Bx := Bx.below hb7
            replace kxs := kxs.below hb7
            replace kx := kx.below hb7
            replace By := By.below hb7
            replace kys := kys.below hb7
            replace ky := ky.below hb7
            replace BP2 := BP2.below hb7
            replace p2s := p2s.below hb7
            replace p2d := p2d.below hb7
            replace Bp := Bp.below hb7
            replace kps := kps.below hb7
            replace kpd := kpd.below hb7
            replace kpz := kpz.below hb7
            replace kp := kp.below hb7
            replace bb := bb.trans (hb7.mono bb.size)
            have hsz7 := bb.size
            have BA9 := B2
            obtain ⟨u1, rfl, q1⟩ := q1
            obtain ⟨Az, cz, rfl, _⟩ := id q1
            refine ops_store (i := 3) rfl rfl rfl rfl rfl rfl (cells := [.bool (ngB x), .slice Az (digs 10000 (x).natAbs).length cz]) rfl BA9 rfl (by kernel_rfl) (one2 rfl rfl) fun w8 hg8 BN8 => ?_
            replace q1 := off q1 BA9 no_ints2 hg8
            replace kxs := off kxs BA9 no_ints2 hg8
            replace kx : IsZ w8 (.agg #[.bool (ngB x), .slice Ax (digs 4294967296 (x).natAbs).length cx]) (x) := ⟨_, rfl, kxs⟩
            replace Bx := Bx.grown hg8 (by omega)
            replace kys := off kys BA9 no_ints2 hg8
            replace ky : IsZ w8 (.agg #[.bool (ngB y), .slice Ay (digs 4294967296 (y).natAbs).length cy]) (y) := ⟨_, rfl, kys⟩
            replace By := By.grown hg8 (by omega)
            replace p2s := off p2s BA9 no_ints2 hg8
            replace p2d := off p2d BA9 no_ints2 hg8
            replace BP2 := BP2.grown hg8 (by omega)
            replace kps := off kps BA9 no_ints2 hg8
            replace kpd := off kpd BA9 no_ints2 hg8
            replace kpz : IsZ w8 (.agg #[.bool (ngB (Q).num), .slice Ap (digs 4294967296 (Q).num.natAbs).length cp]) ((Q).num) := ⟨_, rfl, kps⟩
            replace kp : IsQ w8 (.agg #[.bool (ngB (Q).num), .slice Ap (digs 4294967296 (Q).num.natAbs).length cp, .slice Dp (digs 4294967296 (Q).den).length ep]) (Q) := ⟨_, _, rfl, kps, kpd⟩
            replace Bp := Bp.grown hg8 (by omega)
            replace bb := bb.trans ((Below.refl _ _).grown hg8 bb.size (fun g hg => by injection hg with hg; omega))
            have hsz8 := bb.size
            have Bz : Blk w8 (g7_2) _ _ := BN8
            have kzs := q1
            have kz : IsR w8 (.agg #[.bool (ngB x), .slice Az (digs 10000 (x).natAbs).length cz]) (x) := ⟨_, rfl, kzs⟩
            refine ops_done ?_
            by_cases hyn : y < 0
            · have HYN : Hid (ngB y = true) := ngB_of_neg hyn
              have HQ1 : Hid (mkRat (-x) y.natAbs = Q) := by show _ = _; rw [← HQ0.out]; exact (divInt_lt hyn).symm
              have lN : lenZ (-x) ≤ 4 := by first | exact lx | (rw [lenZ_neg]; exact lx)
              rw [HYN.out] at By ky
              go_upto_region 6 with (fail)
              refine flowp 2 [Pd.eq (.pointer (some ⟨w.heap.size + 1, 0, none⟩)), Pd.eq (.bool true)] (by kernel_rfl) ?ob8 ?done8
              case ob8 =>
                refine And.intro (ob_fieldAddr rfl (wt_none rfl) (ev_far rfl rfl) (fun _ => by kernel_rfl) (fun _ => rfl)) ?_
                refine And.intro (ob_load rfl (wt_none rfl) (ev_dep (j := 0) (by kernel_rfl) rfl rfl) (fun w2 hb => run_load1 Try.underlying4 rfl ((By.below hb).cell 0)) (fun _ _ => rfl)) ?_
                trivial
              case done8 =>
                refine fun w9 hb9 v0 h0 v1 h1 b hbf => ?_
                obtain rfl := h0; obtain rfl := h1
                simp only [Act.put, List.setIfInBounds_toArray, List.set_cons_zero, List.set_cons_succ] at hbf
                subst hbf
                replace Bx := Bx.below hb9
                replace kxs := kxs.below hb9
                replace kx := kx.below hb9
                replace By := By.below hb9
                replace kys := kys.below hb9
                replace ky := ky.below hb9
                replace BP2 := BP2.below hb9
                replace p2s := p2s.below hb9
                replace p2d := p2d.below hb9
                replace Bp := Bp.below hb9
                replace kps := kps.below hb9
                replace kpd := kpd.below hb9
                replace kpz := kpz.below hb9
                replace kp := kp.below hb9
                replace Bz := Bz.below hb9
                replace kzs := kzs.below hb9
                replace kz := kz.below hb9
                replace bb := bb.trans (hb9.mono bb.size)
                have hsz9 := bb.size
                refine ops_done ?_
                go_upto_region 7 with (fail)
                refine flowp 2 [Pd.eq (.agg #[.bool (ngB x), .slice Az (digs 10000 (x).natAbs).length cz]), pr ((-x))] (by kernel_rfl) ?ob9 ?done9
                case ob9 =>
                  refine And.intro (ob_load rfl (wt_none rfl) (ev_far rfl rfl) (fun w2 hb => run_loadAll Try.underlying36 rfl (by kernel_rfl) (Bz.below hb)) (fun _ _ => rfl)) ?_
                  refine And.intro (ob_call1 rfl Try.func9 (by kernel_rfl) (wt_none rfl) (ev_dep (j := 0) (by kernel_rfl) rfl rfl) (fun w2 u0 hb h0 => by obtain rfl := h0; exact (rneg_any _ x _ (kz.below hb)).mono fun e w3 h => RetR.pd h)) ?_
                  trivial
                case done9 =>
                  refine fun w10 hb10 v0 h0 v1 h1 b hbf => ?_
                  obtain rfl := h0
                  have q1 := h1
                  simp only [Act.put, List.setIfInBounds_toArray, List.set_cons_zero, List.set_cons_succ] at hbf
                  subst hbf
                  replace Bx := Bx.below hb10
                  replace kxs := kxs.below hb10
                  replace kx := kx.below hb10
                  replace By := By.below hb10
                  replace kys := kys.below hb10
                  replace ky := ky.below hb10
                  replace BP2 := BP2.below hb10
                  replace p2s := p2s.below hb10
                  replace p2d := p2d.below hb10
                  replace Bp := Bp.below hb10
                  replace kps := kps.below hb10
                  replace kpd := kpd.below hb10
                  replace kpz := kpz.below hb10
                  replace kp := kp.below hb10
                  replace Bz := Bz.below hb10
                  replace kzs := kzs.below hb10
                  replace kz := kz.below hb10
                  replace bb := bb.trans (hb10.mono bb.size)
                  have hsz10 := bb.size
                  obtain ⟨u1, rfl, q1⟩ := q1
                  obtain ⟨Azn, czn, rfl, _⟩ := id q1
                  refine ops_store (i := 2) rfl rfl rfl rfl rfl rfl (cells := [.bool (ngB (-x)), .slice Azn (digs 10000 ((-x)).natAbs).length czn]) rfl Bz rfl (by kernel_rfl) (one2 rfl rfl) fun w11 hg11 BN11 => ?_
                  replace q1 := off q1 Bz no_ints2 hg11
                  replace kxs := off kxs Bz no_ints2 hg11
                  replace kx : IsZ w11 (.agg #[.bool (ngB x), .slice Ax (digs 4294967296 (x).natAbs).length cx]) (x) := ⟨_, rfl, kxs⟩
                  replace Bx := Bx.grown hg11 (by omega)
                  replace kys := off kys Bz no_ints2 hg11
                  replace ky : IsZ w11 (.agg #[.bool true, .slice Ay (digs 4294967296 (y).natAbs).length cy]) (y) := isZ_mk kys rfl HYN.out.symm
                  replace By := By.grown hg11 (by omega)
                  replace p2s := off p2s Bz no_ints2 hg11
                  replace p2d := off p2d Bz no_ints2 hg11
                  replace BP2 := BP2.grown hg11 (by omega)
                  replace kps := off kps Bz no_ints2 hg11
                  replace kpd := off kpd Bz no_ints2 hg11
                  replace kpz : IsZ w11 (.agg #[.bool (ngB (Q).num), .slice Ap (digs 4294967296 (Q).num.natAbs).length cp]) ((Q).num) := ⟨_, rfl, kps⟩
                  replace kp : IsQ w11 (.agg #[.bool (ngB (Q).num), .slice Ap (digs 4294967296 (Q).num.natAbs).length cp, .slice Dp (digs 4294967296 (Q).den).length ep]) (Q) := ⟨_, _, rfl, kps, kpd⟩
                  replace Bp := Bp.grown hg11 (by omega)
                  replace bb := bb.trans ((Below.refl _ _).grown hg11 bb.size (fun g hg => by injection hg with hg; omega))
                  have hsz11 := bb.size
                  have Bzn : Blk w11 (g7_2) _ _ := BN11
                  have kzns := q1
                  have kzn : IsR w11 (.agg #[.bool (ngB (-x)), .slice Azn (digs 10000 ((-x)).natAbs).length czn]) ((-x)) := ⟨_, rfl, kzns⟩
                  refine ops_done ?_
                  go_upto_region 8 with (fail)
                  have lt11_3 := Blk.lt Bx
                  have lt11_4 := Blk.lt By
                  have lt11_5 := Blk.lt BP2
                  have lt11_7 := Blk.lt Bp
                  have lt11_9 := Blk.lt Bzn
                  refine flow 7 [Pd.eq (.agg #[.bool (ngB (-x)), .slice Azn (digs 10000 ((-x)).natAbs).length czn]), Pd.eq (.agg #[.bool true, .slice Ay (digs 4294967296 (y).natAbs).length cy]), pr (y), psn .i64 (digs 10000 y.natAbs), pp (Q), pqn (Q), pn 27 #[.bool false, .slice none 0 0, .slice none 0 0] w11.heap.size] (by kernel_rfl) (by kernel_rfl) ?ob10 ?done10
                  case ob10 =>
                    refine And.intro (ob_load rfl (wt_none rfl) (ev_far rfl rfl) (fun w2 hb => run_loadAll Try.underlying36 rfl (by kernel_rfl) (Bzn.drew.below hb)) (fun _ _ => rfl)) ?_
                    refine And.intro (ob_load rfl (wt_none rfl) (ev_far rfl rfl) (fun w2 hb => run_loadAll Try.underlying25 rfl (by kernel_rfl) (By.drew.below hb)) (fun _ _ => rfl)) ?_
                    refine And.intro (ob_call1 rfl Try.func8 (by kernel_rfl) (wt_none rfl) (ev_dep (j := 1) (by kernel_rfl) rfl rfl) (fun w2 u0 hb h0 => by obtain rfl := h0; exact (rof_any _ y _ (ky.drew.below hb) (Nat.le_trans ly (by decide))).mono fun e w3 h => RetR.pd h)) ?_
                    refine And.intro (ob_field rfl (wt_none rfl) (ev_dep (j := 2) (by kernel_rfl) rfl rfl) (fun w2 u hu => by obtain ⟨u', rfl, q'⟩ := hu; exact ⟨u', by kernel_rfl, q'⟩)) ?_
                    refine And.intro (ob_call2 rfl Try.func11 (by kernel_rfl) (wt_none rfl) (ev_dep (j := 0) (by kernel_rfl) rfl rfl) (ev_dep (j := 3) (by kernel_rfl) rfl rfl) (fun w2 u0 u1 hb h0 h1 => by obtain rfl := h0; exact (HQ1.out ▸ rlow_any _ (-x) _ y.natAbs _ (kzn.drew.below hb) h1 (by omega) (Nat.le_trans lN (by decide)) (Nat.le_trans ly (by decide))).mono fun e w3 h => RetPF.pd h)) ?_
                    refine And.intro (ob_call1 rfl Try.func10 (by kernel_rfl) (wt_none rfl) (ev_dep (j := 4) (by kernel_rfl) rfl rfl) (fun w2 u0 hb h0 => by exact (qback_any _ _ _ h0 (lQ.mono (by decide))).mono fun e w3 h => RetQn.pd (RetQ.n h))) ?_
                    refine And.intro (ob_alloc (z := .agg #[.bool false, .slice none 0 0, .slice none 0 0]) rfl rfl (fun _ => by kernel_rfl) (fun _ _ hB h => ⟨_, rfl, hB, h⟩)) ?_
                    trivial
                  case done10 =>
                    refine fun w12 hb12 v0 h0 v1 h1 v2 h2 v3 h3 v4 h4 v5 h5 v6 h6 d6 b hbf => ?_
                    obtain rfl := h0; obtain rfl := h1
                    have q2 := h2
                    have q3 := h3
                    have q4 := h4
                    have q5 := h5
                    obtain ⟨g10_6, rfl, hg6, B6⟩ := h6
                    simp only [Act.put, List.setIfInBounds_toArray, List.set_cons_zero, List.set_cons_succ] at hbf
                    subst hbf
                    replace Bx := Bx.below hb12
                    replace kxs := kxs.below hb12
                    replace kx := kx.below hb12
                    replace By := By.below hb12
                    replace kys := kys.below hb12
                    replace ky := ky.below hb12
                    replace BP2 := BP2.below hb12
                    replace p2s := p2s.below hb12
                    replace p2d := p2d.below hb12
                    replace Bp := Bp.below hb12
                    replace kps := kps.below hb12
                    replace kpd := kpd.below hb12
                    replace kpz := kpz.below hb12
                    replace kp := kp.below hb12
                    replace Bzn := Bzn.below hb12
                    replace kzns := kzns.below hb12
                    replace kzn := kzn.below hb12
                    replace bb := bb.trans (hb12.mono bb.size)
                    have hsz12 := bb.size
                    have BA10 := B6
                    obtain ⟨u5, t5, rfl, q5, d5⟩ := q5
                    obtain ⟨AW, cW, rfl, _⟩ := id q5
                    obtain ⟨DW, eW, rfl, _⟩ := id d5
                    refine any_store (i := 7) (by kernel_rfl) rfl rfl rfl rfl rfl rfl (cells := [.bool (ngB (Q).num), .slice AW (digs 4294967296 (Q).num.natAbs).length cW, .slice DW (digs 4294967296 (Q).den).length eW]) rfl BA10 rfl (by kernel_rfl) (one3 rfl rfl rfl) fun w13 hg13 BN13 => ?_
                    replace q5 := off q5 BA10 no_ints3 hg13
                    replace d5 := off d5 BA10 no_ints3 hg13
                    replace kxs := off kxs BA10 no_ints3 hg13
                    replace kx : IsZ w13 (.agg #[.bool (ngB x), .slice Ax (digs 4294967296 (x).natAbs).length cx]) (x) := ⟨_, rfl, kxs⟩
                    replace Bx := Bx.grown hg13 (by omega)
                    replace kys := off kys BA10 no_ints3 hg13
                    replace ky : IsZ w13 (.agg #[.bool true, .slice Ay (digs 4294967296 (y).natAbs).length cy]) (y) := isZ_mk kys rfl HYN.out.symm
                    replace By := By.grown hg13 (by omega)
                    replace p2s := off p2s BA10 no_ints3 hg13
                    replace p2d := off p2d BA10 no_ints3 hg13
                    replace BP2 := BP2.grown hg13 (by omega)
                    replace kps := off kps BA10 no_ints3 hg13
                    replace kpd := off kpd BA10 no_ints3 hg13
                    replace kpz : IsZ w13 (.agg #[.bool (ngB (Q).num), .slice Ap (digs 4294967296 (Q).num.natAbs).length cp]) ((Q).num) := ⟨_, rfl, kps⟩
                    replace kp : IsQ w13 (.agg #[.bool (ngB (Q).num), .slice Ap (digs 4294967296 (Q).num.natAbs).length cp, .slice Dp (digs 4294967296 (Q).den).length ep]) (Q) := ⟨_, _, rfl, kps, kpd⟩
                    replace Bp := Bp.grown hg13 (by omega)
                    replace kzns := off kzns BA10 no_ints3 hg13
                    replace kzn : IsR w13 (.agg #[.bool (ngB (-x)), .slice Azn (digs 10000 ((-x)).natAbs).length czn]) ((-x)) := ⟨_, rfl, kzns⟩
                    replace Bzn := Bzn.grown hg13 (by omega)
                    replace bb := bb.trans ((Below.refl _ _).grown hg13 bb.size (fun g hg => by injection hg with hg; omega))
                    have hsz13 := bb.size
                    have BW : Blk w13 (g10_6) _ _ := BN13
                    have kWs := q5
                    have kWd := d5
                    have kWz : IsZ w13 (.agg #[.bool (ngB (Q).num), .slice AW (digs 4294967296 (Q).num.natAbs).length cW]) ((Q).num) := ⟨_, rfl, kWs⟩
                    have kW : IsQ w13 (.agg #[.bool (ngB (Q).num), .slice AW (digs 4294967296 (Q).num.natAbs).length cW, .slice DW (digs 4294967296 (Q).den).length eW]) (Q) := ⟨_, _, rfl, kWs, kWd⟩
                    refine any_done (by kernel_rfl) ?_
                    go_upto_region 9 with (fail)
                    refine flowc 18 [Pd.eq (.pointer (some ⟨w.heap.size + 1 + 1, 0, none⟩)), Pd.eq (.pointer (some ⟨w.heap.size + 1 + 1, 1, none⟩)), Pd.eq (.slice A2 l2.length c2), Pd.eq (.pointer (some ⟨w.heap.size + 1 + 1, 0, none⟩)), Pd.eq (.pointer (some ⟨w.heap.size + 1 + 1, 1, none⟩)), Pd.eq (.slice A2 l2.length c2), Pd.eq (.int .i64 ((l2.length : Nat) : Int)), Pd.eq (.int .i64 ((min l2.length 4 : Nat) : Int)), Pd.eq (.slice A2 (min l2.length 4) c2), Pd.eq (.pointer (some ⟨w.heap.size + 1 + 1, 2, none⟩)), Pd.eq (.slice D2 m2.length e2), Pd.eq (.pointer (some ⟨w.heap.size + 1 + 1, 2, none⟩)), Pd.eq (.slice D2 m2.length e2), Pd.eq (.int .i64 ((m2.length : Nat) : Int)), Pd.eq (.int .i64 ((min m2.length 4 : Nat) : Int)), Pd.eq (.slice D2 (min m2.length 4) e2), Pd.eq (.pointer (some ⟨w.heap.size + 1 + 1, 0, none⟩)), Pd.eq (.pointer (some ⟨w.heap.size + 1 + 1, 1, none⟩))] (by kernel_rfl) [13, 14, 15] (by kernel_rfl) (fun _ _ _ d _ h => by cases d <;> exact h) ⟨⟨_, rfl, late_len rfl (wt_none rfl) (ev_dep (j := 12) (by kernel_rfl) rfl rfl) (fun _ _ hx => ⟨_, fun _ => by rw [hx]; exact len_slice Try.underlying23 _ _ _ _, rfl⟩)⟩, ⟨_, rfl, late_min rfl (wt_none rfl) (ev_dep (j := 13) (by kernel_rfl) rfl rfl) (ev_const _) (fun _ _ _ hx hy => ⟨_, fun _ => by rw [hx, hy]; exact min_nat m2.length 4 _, rfl⟩)⟩, ⟨_, rfl, late_slice_to rfl (wt_none rfl) (ev_dep (j := 10) (by kernel_rfl) rfl rfl) (ev_dep (j := 14) (by kernel_rfl) rfl rfl) (fun _ _ _ hx hy => ⟨.slice D2 (min m2.length 4) e2, fun _ => by rw [hx, hy]; exact cut_slice Try.underlying23 (by kernel_rfl) _ _ _ _ (Nat.le_trans (Nat.min_le_left _ _) HD2.out) _, rfl⟩)⟩, trivial⟩ ?ob11 ?done11
                    case ob11 =>
                      refine And.intro (ob_fieldAddr rfl (wt_none rfl) (ev_far rfl rfl) (fun _ => by kernel_rfl) (fun _ => rfl)) ?_
                      refine And.intro (ob_fieldAddr rfl (wt_none rfl) (ev_dep (j := 0) (by kernel_rfl) rfl rfl) (fun _ => by kernel_rfl) (fun _ => rfl)) ?_
                      refine And.intro (ob_load rfl (wt_none rfl) (ev_dep (j := 1) (by kernel_rfl) rfl rfl) (fun w2 hb => run_load1 Try.underlying23 rfl ((BP2.drew.below hb).cell 1)) (fun _ _ => rfl)) ?_
                      refine And.intro (ob_fieldAddr rfl (wt_none rfl) (ev_far rfl rfl) (fun _ => by kernel_rfl) (fun _ => rfl)) ?_
                      refine And.intro (ob_fieldAddr rfl (wt_none rfl) (ev_dep (j := 3) (by kernel_rfl) rfl rfl) (fun _ => by kernel_rfl) (fun _ => rfl)) ?_
                      refine And.intro (ob_load rfl (wt_none rfl) (ev_dep (j := 4) (by kernel_rfl) rfl rfl) (fun w2 hb => run_load1 Try.underlying23 rfl ((BP2.drew.below hb).cell 1)) (fun _ _ => rfl)) ?_
                      refine And.intro (ob_len rfl (wt_none rfl) (ev_dep (j := 5) (by kernel_rfl) rfl rfl) (fun _ _ hx => ⟨_, by rw [hx]; exact len_slice Try.underlying23 _ _ _ _, rfl⟩)) ?_
                      refine And.intro (ob_min rfl (wt_none rfl) (ev_dep (j := 6) (by kernel_rfl) rfl rfl) (ev_const _) (fun _ _ _ hx hy => ⟨_, by rw [hx, hy]; exact min_nat l2.length 4 _, rfl⟩)) ?_
                      refine And.intro (ob_slice_to rfl (wt_none rfl) (ev_dep (j := 2) (by kernel_rfl) rfl rfl) (ev_dep (j := 7) (by kernel_rfl) rfl rfl) (fun _ _ _ hx hy => ⟨.slice A2 (min l2.length 4) c2, by rw [hx, hy]; exact cut_slice Try.underlying23 (by kernel_rfl) _ _ _ _ (Nat.le_trans (Nat.min_le_left _ _) HA2.out) _, rfl⟩)) ?_
                      refine And.intro (ob_fieldAddr rfl (wt_none rfl) (ev_far rfl rfl) (fun _ => by kernel_rfl) (fun _ => rfl)) ?_
                      refine And.intro (ob_load rfl (wt_none rfl) (ev_dep (j := 9) (by kernel_rfl) rfl rfl) (fun w2 hb => run_load1 Try.underlying23 rfl ((BP2.drew.below hb).cell 2)) (fun _ _ => rfl)) ?_
                      refine And.intro (ob_fieldAddr rfl (wt_none rfl) (ev_far rfl rfl) (fun _ => by kernel_rfl) (fun _ => rfl)) ?_
                      refine And.intro (ob_load rfl (wt_none rfl) (ev_dep (j := 11) (by kernel_rfl) rfl rfl) (fun w2 hb => run_load1 Try.underlying23 rfl ((BP2.drew.below hb).cell 2)) (fun _ _ => rfl)) ?_
                      refine And.intro (ob_len rfl (wt_none rfl) (ev_dep (j := 12) (by kernel_rfl) rfl rfl) (fun _ _ hx => ⟨_, by rw [hx]; exact len_slice Try.underlying23 _ _ _ _, rfl⟩)) ?_
                      refine And.intro (ob_min rfl (wt_none rfl) (ev_dep (j := 13) (by kernel_rfl) rfl rfl) (ev_const _) (fun _ _ _ hx hy => ⟨_, by rw [hx, hy]; exact min_nat m2.length 4 _, rfl⟩)) ?_
                      refine And.intro (ob_slice_to rfl (wt_none rfl) (ev_dep (j := 10) (by kernel_rfl) rfl rfl) (ev_dep (j := 14) (by kernel_rfl) rfl rfl) (fun _ _ _ hx hy => ⟨.slice D2 (min m2.length 4) e2, by rw [hx, hy]; exact cut_slice Try.underlying23 (by kernel_rfl) _ _ _ _ (Nat.le_trans (Nat.min_le_left _ _) HD2.out) _, rfl⟩)) ?_
                      refine And.intro (ob_fieldAddr rfl (wt_none rfl) (ev_far rfl rfl) (fun _ => by kernel_rfl) (fun _ => rfl)) ?_
                      refine And.intro (ob_fieldAddr rfl (wt_none rfl) (ev_dep (j := 16) (by kernel_rfl) rfl rfl) (fun _ => by kernel_rfl) (fun _ => rfl)) ?_
                      trivial
                    case done11 =>
                      refine fun w14 hb14 v0 h0 v1 h1 v2 h2 v3 h3 v4 h4 v5 h5 v6 h6 v7 h7 v8 h8 v9 h9 v10 h10 v11 h11 v12 h12 v13 h13 v14 h14 v15 h15 v16 h16 v17 h17 b hbf => ?_
                      obtain rfl := h0; obtain rfl := h1; obtain rfl := h2; obtain rfl := h3; obtain rfl := h4; obtain rfl := h5; obtain rfl := h6; obtain rfl := h7; obtain rfl := h8; obtain rfl := h9; obtain rfl := h10; obtain rfl := h11; obtain rfl := h12; obtain rfl := h13; obtain rfl := h14; obtain rfl := h15; obtain rfl := h16; obtain rfl := h17
                      simp only [Act.put, List.setIfInBounds_toArray, List.set_cons_zero, List.set_cons_succ] at hbf
                      subst hbf
                      replace Bx := Bx.below hb14
                      replace kxs := kxs.below hb14
                      replace kx := kx.below hb14
                      replace By := By.below hb14
                      replace kys := kys.below hb14
                      replace ky := ky.below hb14
                      replace BP2 := BP2.below hb14
                      replace p2s := p2s.below hb14
                      replace p2d := p2d.below hb14
                      replace Bp := Bp.below hb14
                      replace kps := kps.below hb14
                      replace kpd := kpd.below hb14
                      replace kpz := kpz.below hb14
                      replace kp := kp.below hb14
                      replace Bzn := Bzn.below hb14
                      replace kzns := kzns.below hb14
                      replace kzn := kzn.below hb14
                      replace BW := BW.below hb14
                      replace kWs := kWs.below hb14
                      replace kWd := kWd.below hb14
                      replace kWz := kWz.below hb14
                      replace kW := kW.below hb14
                      replace bb := bb.trans (hb14.mono bb.size)
                      have hsz14 := bb.size
                      refine any_store_at (i := 18) (v := .slice A2 (min l2.length 4) c2) (by kernel_rfl) rfl rfl rfl rfl rfl rfl rfl rfl BP2 (by show 1 < 3; omega) (by kernel_rfl) fun w15 hg15 BN15 => ?_
                      replace kxs := off kxs BP2 no_ints3 hg15
                      replace kx : IsZ w15 (.agg #[.bool (ngB x), .slice Ax (digs 4294967296 (x).natAbs).length cx]) (x) := ⟨_, rfl, kxs⟩
                      replace Bx := Bx.grown hg15 (by omega)
                      replace kys := off kys BP2 no_ints3 hg15
                      replace ky : IsZ w15 (.agg #[.bool true, .slice Ay (digs 4294967296 (y).natAbs).length cy]) (y) := isZ_mk kys rfl HYN.out.symm
                      replace By := By.grown hg15 (by omega)
                      replace p2s := off p2s BP2 no_ints3 hg15
                      replace p2d := off p2d BP2 no_ints3 hg15
                      replace kps := off kps BP2 no_ints3 hg15
                      replace kpd := off kpd BP2 no_ints3 hg15
                      replace kpz : IsZ w15 (.agg #[.bool (ngB (Q).num), .slice Ap (digs 4294967296 (Q).num.natAbs).length cp]) ((Q).num) := ⟨_, rfl, kps⟩
                      replace kp : IsQ w15 (.agg #[.bool (ngB (Q).num), .slice Ap (digs 4294967296 (Q).num.natAbs).length cp, .slice Dp (digs 4294967296 (Q).den).length ep]) (Q) := ⟨_, _, rfl, kps, kpd⟩
                      replace Bp := Bp.grown hg15 (by omega)
                      replace kzns := off kzns BP2 no_ints3 hg15
                      replace kzn : IsR w15 (.agg #[.bool (ngB (-x)), .slice Azn (digs 10000 ((-x)).natAbs).length czn]) ((-x)) := ⟨_, rfl, kzns⟩
                      replace Bzn := Bzn.grown hg15 (by omega)
                      replace kWs := off kWs BP2 no_ints3 hg15
                      replace kWd := off kWd BP2 no_ints3 hg15
                      replace kWz : IsZ w15 (.agg #[.bool (ngB (Q).num), .slice AW (digs 4294967296 (Q).num.natAbs).length cW]) ((Q).num) := ⟨_, rfl, kWs⟩
                      replace kW : IsQ w15 (.agg #[.bool (ngB (Q).num), .slice AW (digs 4294967296 (Q).num.natAbs).length cW, .slice DW (digs 4294967296 (Q).den).length eW]) (Q) := ⟨_, _, rfl, kWs, kWd⟩
                      replace BW := BW.grown hg15 (by omega)
                      replace bb := bb.trans ((Below.refl _ _).grown hg15 bb.size (fun g hg => by injection hg with hg; omega))
                      have hsz15 := bb.size
                      replace BP2 : Blk w15 (w.heap.size + 1 + 1) _ #[.bool b2, .slice A2 (min l2.length 4) c2, .slice D2 m2.length e2] := BN15
                      refine any_fieldAddr (i := 19) (.pointer (some ⟨w.heap.size + 1 + 1, 2, none⟩)) (by kernel_rfl) rfl rfl rfl rfl (fun _ => by kernel_rfl) rfl fun b hbf => ?_
                      simp only [Act.put, List.setIfInBounds_toArray, List.set_cons_zero, List.set_cons_succ] at hbf
                      subst hbf
                      refine any_store_at (i := 20) (v := .slice D2 (min m2.length 4) e2) (by kernel_rfl) rfl rfl rfl rfl rfl rfl rfl rfl BP2 (by show 2 < 3; omega) (by kernel_rfl) fun w16 hg16 BN16 => ?_
                      replace kxs := off kxs BP2 no_ints3 hg16
                      replace kx : IsZ w16 (.agg #[.bool (ngB x), .slice Ax (digs 4294967296 (x).natAbs).length cx]) (x) := ⟨_, rfl, kxs⟩
                      replace Bx := Bx.grown hg16 (by omega)
                      replace kys := off kys BP2 no_ints3 hg16
                      replace ky : IsZ w16 (.agg #[.bool true, .slice Ay (digs 4294967296 (y).natAbs).length cy]) (y) := isZ_mk kys rfl HYN.out.symm
                      replace By := By.grown hg16 (by omega)
                      replace p2s := off p2s BP2 no_ints3 hg16
                      replace p2d := off p2d BP2 no_ints3 hg16
                      replace kps := off kps BP2 no_ints3 hg16
                      replace kpd := off kpd BP2 no_ints3 hg16
                      replace kpz : IsZ w16 (.agg #[.bool (ngB (Q).num), .slice Ap (digs 4294967296 (Q).num.natAbs).length cp]) ((Q).num) := ⟨_, rfl, kps⟩
                      replace kp : IsQ w16 (.agg #[.bool (ngB (Q).num), .slice Ap (digs 4294967296 (Q).num.natAbs).length cp, .slice Dp (digs 4294967296 (Q).den).length ep]) (Q) := ⟨_, _, rfl, kps, kpd⟩
                      replace Bp := Bp.grown hg16 (by omega)
                      replace kzns := off kzns BP2 no_ints3 hg16
                      replace kzn : IsR w16 (.agg #[.bool (ngB (-x)), .slice Azn (digs 10000 ((-x)).natAbs).length czn]) ((-x)) := ⟨_, rfl, kzns⟩
                      replace Bzn := Bzn.grown hg16 (by omega)
                      replace kWs := off kWs BP2 no_ints3 hg16
                      replace kWd := off kWd BP2 no_ints3 hg16
                      replace kWz : IsZ w16 (.agg #[.bool (ngB (Q).num), .slice AW (digs 4294967296 (Q).num.natAbs).length cW]) ((Q).num) := ⟨_, rfl, kWs⟩
                      replace kW : IsQ w16 (.agg #[.bool (ngB (Q).num), .slice AW (digs 4294967296 (Q).num.natAbs).length cW, .slice DW (digs 4294967296 (Q).den).length eW]) (Q) := ⟨_, _, rfl, kWs, kWd⟩
                      replace BW := BW.grown hg16 (by omega)
                      replace bb := bb.trans ((Below.refl _ _).grown hg16 bb.size (fun g hg => by injection hg with hg; omega))
                      have hsz16 := bb.size
                      replace BP2 : Blk w16 (w.heap.size + 1 + 1) _ #[.bool b2, .slice A2 (min l2.length 4) c2, .slice D2 (min m2.length 4) e2] := BN16
                      refine any_done (by kernel_rfl) ?_
                      replace p2s := IsS.cut p2s 4
                      replace p2d := IsS.cut p2d 4
                      have HU2 : Hid (Lt 18446744073709551616 (l2.take 4)) := u2.take 4
                      have HX2 : Hid (Lt 18446744073709551616 (m2.take 4)) := x2.take 4
                      obtain ⟨V, hV⟩ : ∃ V, V = mayQ b2 (l2.take 4) (m2.take 4) := ⟨_, rfl⟩
                      have HV := Lib.hid hV
                      clear hV
                      go_upto_region 10 with (fail)
                      refine flow 22 [Pd.eq (.int .i64 0), Pd.eq (.bool true), Pd.eq (.bool true), Pd.eq (.agg #[.bool (ngB (Q).num), .slice Ap (digs 4294967296 (Q).num.natAbs).length cp, .slice Dp (digs 4294967296 (Q).den).length ep]), Pd.eq (.agg #[.bool (ngB (Q).num), .slice AW (digs 4294967296 (Q).num.natAbs).length cW, .slice DW (digs 4294967296 (Q).den).length eW]), Pd.eq (.bool true), Pd.eq (.bool true), Pd.eq (.bool true), Pd.eq (.agg #[.bool (ngB (Q).num), .slice Ap (digs 4294967296 (Q).num.natAbs).length cp, .slice Dp (digs 4294967296 (Q).den).length ep]), Pd.eq (.bool true), Pd.eq (.bool true), Pd.eq (.bool true), Pd.eq (.agg #[.bool b2, .slice A2 (min l2.length 4) c2, .slice D2 (min m2.length 4) e2]), Pd.eq (.bool V), Pd.eq (.agg #[.bool b2, .slice A2 (min l2.length 4) c2, .slice D2 (min m2.length 4) e2]), Pd.eq (.bool V), Pd.eq (.bool true), Pd.eq (.bool true), Pd.eq (.bool true), Pd.eq (.bool true), Pd.eq (.bool true), Pd.eq (.bool true)] (by kernel_rfl) (by kernel_rfl) ?ob12 ?done12
                      case ob12 =>
                        refine And.intro (ob_move rfl (wt_none rfl) (ev_far rfl rfl) (fun _ _ h => h)) ?_
                        refine And.intro (ob_bin rfl (wt_none rfl) (ev_dep (j := 0) (by kernel_rfl) rfl rfl) (ev_const _) (fun _ _ _ hx hy => ⟨.bool ((0 : Int) == 0), by rw [hx, hy]; exact bin_eql_int _ _ _ _ _, congrArg Value.bool (by decide)⟩)) ?_
                        refine And.intro (ob_move rfl (wt_none rfl) (ev_dep (j := 1) (by kernel_rfl) rfl rfl) (fun _ _ h => h)) ?_
                        refine And.intro (ob_load rfl (wt_dep (c := true) (b := true) (g := 2) rfl (by kernel_rfl) rfl rfl rfl (by exact fun _ _ h => h)) (ev_far rfl rfl) (fun w2 hb => run_loadAll Try.underlying27 rfl (by kernel_rfl) (Bp.drew.below hb)) (fun _ _ => rfl)) ?_
                        refine And.intro (ob_load rfl (wt_dep (c := true) (b := true) (g := 2) rfl (by kernel_rfl) rfl rfl rfl (by exact fun _ _ h => h)) (ev_far rfl rfl) (fun w2 hb => run_loadAll Try.underlying27 rfl (by kernel_rfl) (BW.drew.below hb)) (fun _ _ => rfl)) ?_
                        refine And.intro (ob_call2 rfl Try.func12 (by kernel_rfl) (wt_dep (c := true) (b := true) (g := 2) rfl (by kernel_rfl) rfl rfl rfl (by exact fun _ _ h => h)) (ev_dep (j := 3) (by kernel_rfl) rfl rfl) (ev_dep (j := 4) (by kernel_rfl) rfl rfl) (fun w2 u0 u1 hb h0 h1 => by obtain rfl := h0; obtain rfl := h1; exact (qsame_eq _ _ (Q) (Q) _ (kp.drew.below hb) (kW.drew.below hb) rfl).mono fun e w3 h => RetV.pd h)) ?_
                        refine And.intro (ob_pick (b := true) rfl (wt_none rfl) (ev_dep (j := 2) (by kernel_rfl) rfl rfl) (ev_dep (j := 5) (by kernel_rfl) rfl rfl) (fun _ _ h => h)) ?_
                        refine And.intro (ob_move rfl (wt_none rfl) (ev_dep (j := 6) (by kernel_rfl) rfl rfl) (fun _ _ h => h)) ?_
                        refine And.intro (ob_load rfl (wt_dep (c := true) (b := true) (g := 7) rfl (by kernel_rfl) rfl rfl rfl (by exact fun _ _ h => h)) (ev_far rfl rfl) (fun w2 hb => run_loadAll Try.underlying27 rfl (by kernel_rfl) (Bp.drew.below hb)) (fun _ _ => rfl)) ?_
                        refine And.intro (ob_call1 rfl Try.func13 (by kernel_rfl) (wt_dep (c := true) (b := true) (g := 7) rfl (by kernel_rfl) rfl rfl rfl (by exact fun _ _ h => h)) (ev_dep (j := 8) (by kernel_rfl) rfl rfl) (fun w2 u0 hb h0 => by obtain rfl := h0; exact (fmay_any _ (Q) _ (kp.drew.below hb) (lQ.mono (by decide))).mono fun e w3 h => RetV.pd h)) ?_
                        refine And.intro (ob_pick (b := true) rfl (wt_none rfl) (ev_dep (j := 7) (by kernel_rfl) rfl rfl) (ev_dep (j := 9) (by kernel_rfl) rfl rfl) (fun _ _ h => h)) ?_
                        refine And.intro (ob_move rfl (wt_none rfl) (ev_dep (j := 10) (by kernel_rfl) rfl rfl) (fun _ _ h => h)) ?_
                        refine And.intro (ob_load rfl (wt_dep (c := true) (b := true) (g := 11) rfl (by kernel_rfl) rfl rfl rfl (by exact fun _ _ h => h)) (ev_far rfl rfl) (fun w2 hb => run_loadAll Try.underlying27 rfl (by kernel_rfl) (BP2.drew.below hb)) (fun _ _ => rfl)) ?_
                        refine And.intro (ob_call1 rfl Try.func13 (by kernel_rfl) (wt_dep (c := true) (b := true) (g := 11) rfl (by kernel_rfl) rfl rfl rfl (by exact fun _ _ h => h)) (ev_dep (j := 12) (by kernel_rfl) rfl rfl) (fun w2 u0 hb h0 => by obtain rfl := h0; exact (fmayraw_any b2 _ _ _ _ V _ (p2s.drew.below hb) HU2.out (p2d.drew.below hb) HX2.out (by rw [List.length_take]; omega) (by rw [List.length_take]; omega) HV.out).mono fun e w3 h => RetV.pd h)) ?_
                        refine And.intro (ob_load rfl (wt_dep (c := true) (b := true) (g := 11) rfl (by kernel_rfl) rfl rfl rfl (by exact fun _ _ h => h)) (ev_far rfl rfl) (fun w2 hb => run_loadAll Try.underlying27 rfl (by kernel_rfl) (BP2.drew.below hb)) (fun _ _ => rfl)) ?_
                        refine And.intro (ob_call1 rfl Try.func14 (by kernel_rfl) (wt_dep (c := true) (b := true) (g := 11) rfl (by kernel_rfl) rfl rfl rfl (by exact fun _ _ h => h)) (ev_dep (j := 14) (by kernel_rfl) rfl rfl) (fun w2 u0 hb h0 => by obtain rfl := h0; exact (qmay_any b2 _ _ _ _ V _ (p2s.drew.below hb) HU2.out (p2d.drew.below hb) HX2.out (by rw [List.length_take]; omega) (by rw [List.length_take]; omega) HV.out).mono fun e w3 h => RetV.pd h)) ?_
                        refine And.intro (ob_bin rfl (wt_dep (c := true) (b := true) (g := 11) rfl (by kernel_rfl) rfl rfl rfl (by exact fun _ _ h => h)) (ev_dep (j := 13) (by kernel_rfl) rfl rfl) (ev_dep (j := 15) (by kernel_rfl) rfl rfl) (fun _ _ _ hx hy => ⟨.bool (V == V), by rw [hx, hy]; exact bin_eql_bool _ _ _ _ Try.underlying4 _, congrArg Value.bool (beq_self_eq_true _)⟩)) ?_
                        refine And.intro (ob_pick (b := true) rfl (wt_none rfl) (ev_dep (j := 11) (by kernel_rfl) rfl rfl) (ev_dep (j := 16) (by kernel_rfl) rfl rfl) (fun _ _ h => h)) ?_
                        refine And.intro (ob_move rfl (wt_none rfl) (ev_dep (j := 17) (by kernel_rfl) rfl rfl) (fun _ _ h => h)) ?_
                        refine And.intro (ob_call0 rfl Try.func7 (by kernel_rfl) (wt_dep (c := true) (b := true) (g := 18) rfl (by kernel_rfl) rfl rfl rfl (by exact fun _ _ h => h)) (fun w2 hb => (works8_any _).mono fun e w3 h => RetV.pd h)) ?_
                        refine And.intro (ob_pick (b := true) rfl (wt_none rfl) (ev_dep (j := 18) (by kernel_rfl) rfl rfl) (ev_dep (j := 19) (by kernel_rfl) rfl rfl) (fun _ _ h => h)) ?_
                        refine And.intro (ob_assign rfl (wt_none rfl) (ev_dep (j := 20) (by kernel_rfl) rfl rfl) (fun _ _ h => h)) ?_
                        trivial
                      case done12 =>
                        refine fun w17 hb17 v0 h0 v1 h1 v2 h2 v3 h3 v4 h4 v5 h5 v6 h6 v7 h7 v8 h8 v9 h9 v10 h10 v11 h11 v12 h12 v13 h13 v14 h14 v15 h15 v16 h16 v17 h17 v18 h18 v19 h19 v20 h20 v21 h21 b hbf => ?_
                        obtain rfl := h0; obtain rfl := h1; obtain rfl := h2; obtain rfl := h3; obtain rfl := h4; obtain rfl := h5; obtain rfl := h6; obtain rfl := h7; obtain rfl := h8; obtain rfl := h9; obtain rfl := h10; obtain rfl := h11; obtain rfl := h12; obtain rfl := h13; obtain rfl := h14; obtain rfl := h15; obtain rfl := h16; obtain rfl := h17; obtain rfl := h18; obtain rfl := h19; obtain rfl := h20; obtain rfl := h21
                        simp only [Act.put, List.setIfInBounds_toArray, List.set_cons_zero, List.set_cons_succ] at hbf
                        subst hbf
                        replace Bx := Bx.below hb17
                        replace kxs := kxs.below hb17
                        replace kx := kx.below hb17
                        replace By := By.below hb17
                        replace kys := kys.below hb17
                        replace ky := ky.below hb17
                        replace BP2 := BP2.below hb17
                        replace p2s := p2s.below hb17
                        replace p2d := p2d.below hb17
                        replace Bp := Bp.below hb17
                        replace kps := kps.below hb17
                        replace kpd := kpd.below hb17
                        replace kpz := kpz.below hb17
                        replace kp := kp.below hb17
                        replace Bzn := Bzn.below hb17
                        replace kzns := kzns.below hb17
                        replace kzn := kzn.below hb17
                        replace BW := BW.below hb17
                        replace kWs := kWs.below hb17
                        replace kWd := kWd.below hb17
                        replace kWz := kWz.below hb17
                        replace kW := kW.below hb17
                        replace bb := bb.trans (hb17.mono bb.size)
                        have hsz17 := bb.size
                        refine any_done (by kernel_rfl) ?_
                        go_wp2
                        go_ret
                        exact ⟨rfl, bb⟩
            · have HYN : Hid (ngB y = false) := ngB_of_pos hyn
              have HQ1 : Hid (mkRat x y.natAbs = Q) := by show _ = _; rw [← HQ0.out]; exact (divInt_gt (by omega)).symm
              have lN : lenZ x ≤ 4 := by first | exact lx | (rw [lenZ_neg]; exact lx)
              rw [HYN.out] at By ky
              go_upto_region 6 with (fail)
              refine flowp 2 [Pd.eq (.pointer (some ⟨w.heap.size + 1, 0, none⟩)), Pd.eq (.bool false)] (by kernel_rfl) ?ob13 ?done13
              case ob13 =>
                refine And.intro (ob_fieldAddr rfl (wt_none rfl) (ev_far rfl rfl) (fun _ => by kernel_rfl) (fun _ => rfl)) ?_
                refine And.intro (ob_load rfl (wt_none rfl) (ev_dep (j := 0) (by kernel_rfl) rfl rfl) (fun w2 hb => run_load1 Try.underlying4 rfl ((By.below hb).cell 0)) (fun _ _ => rfl)) ?_
                trivial
              case done13 =>
                refine fun w9 hb9 v0 h0 v1 h1 b hbf => ?_
                obtain rfl := h0; obtain rfl := h1
                simp only [Act.put, List.setIfInBounds_toArray, List.set_cons_zero, List.set_cons_succ] at hbf
                subst hbf
                replace Bx := Bx.below hb9
                replace kxs := kxs.below hb9
                replace kx := kx.below hb9
                replace By := By.below hb9
                replace kys := kys.below hb9
                replace ky := ky.below hb9
                replace BP2 := BP2.below hb9
                replace p2s := p2s.below hb9
                replace p2d := p2d.below hb9
                replace Bp := Bp.below hb9
                replace kps := kps.below hb9
                replace kpd := kpd.below hb9
                replace kpz := kpz.below hb9
                replace kp := kp.below hb9
                replace Bz := Bz.below hb9
                replace kzs := kzs.below hb9
                replace kz := kz.below hb9
                replace bb := bb.trans (hb9.mono bb.size)
                have hsz9 := bb.size
                refine ops_done ?_
                go_upto_region 8 with (fail)
                have lt9_3 := Blk.lt Bx
                have lt9_4 := Blk.lt By
                have lt9_5 := Blk.lt BP2
                have lt9_7 := Blk.lt Bp
                have lt9_9 := Blk.lt Bz
                refine flow 7 [Pd.eq (.agg #[.bool (ngB x), .slice Az (digs 10000 (x).natAbs).length cz]), Pd.eq (.agg #[.bool false, .slice Ay (digs 4294967296 (y).natAbs).length cy]), pr (y), psn .i64 (digs 10000 y.natAbs), pp (Q), pqn (Q), pn 27 #[.bool false, .slice none 0 0, .slice none 0 0] w9.heap.size] (by kernel_rfl) (by kernel_rfl) ?ob14 ?done14
                case ob14 =>
                  refine And.intro (ob_load rfl (wt_none rfl) (ev_far rfl rfl) (fun w2 hb => run_loadAll Try.underlying36 rfl (by kernel_rfl) (Bz.drew.below hb)) (fun _ _ => rfl)) ?_
                  refine And.intro (ob_load rfl (wt_none rfl) (ev_far rfl rfl) (fun w2 hb => run_loadAll Try.underlying25 rfl (by kernel_rfl) (By.drew.below hb)) (fun _ _ => rfl)) ?_
                  refine And.intro (ob_call1 rfl Try.func8 (by kernel_rfl) (wt_none rfl) (ev_dep (j := 1) (by kernel_rfl) rfl rfl) (fun w2 u0 hb h0 => by obtain rfl := h0; exact (rof_any _ y _ (ky.drew.below hb) (Nat.le_trans ly (by decide))).mono fun e w3 h => RetR.pd h)) ?_
                  refine And.intro (ob_field rfl (wt_none rfl) (ev_dep (j := 2) (by kernel_rfl) rfl rfl) (fun w2 u hu => by obtain ⟨u', rfl, q'⟩ := hu; exact ⟨u', by kernel_rfl, q'⟩)) ?_
                  refine And.intro (ob_call2 rfl Try.func11 (by kernel_rfl) (wt_none rfl) (ev_dep (j := 0) (by kernel_rfl) rfl rfl) (ev_dep (j := 3) (by kernel_rfl) rfl rfl) (fun w2 u0 u1 hb h0 h1 => by obtain rfl := h0; exact (HQ1.out ▸ rlow_any _ x _ y.natAbs _ (kz.drew.below hb) h1 (by omega) (Nat.le_trans lN (by decide)) (Nat.le_trans ly (by decide))).mono fun e w3 h => RetPF.pd h)) ?_
                  refine And.intro (ob_call1 rfl Try.func10 (by kernel_rfl) (wt_none rfl) (ev_dep (j := 4) (by kernel_rfl) rfl rfl) (fun w2 u0 hb h0 => by exact (qback_any _ _ _ h0 (lQ.mono (by decide))).mono fun e w3 h => RetQn.pd (RetQ.n h))) ?_
                  refine And.intro (ob_alloc (z := .agg #[.bool false, .slice none 0 0, .slice none 0 0]) rfl rfl (fun _ => by kernel_rfl) (fun _ _ hB h => ⟨_, rfl, hB, h⟩)) ?_
                  trivial
                case done14 =>
                  refine fun w10 hb10 v0 h0 v1 h1 v2 h2 v3 h3 v4 h4 v5 h5 v6 h6 d6 b hbf => ?_
                  obtain rfl := h0; obtain rfl := h1
                  have q2 := h2
                  have q3 := h3
                  have q4 := h4
                  have q5 := h5
                  obtain ⟨g14_6, rfl, hg6, B6⟩ := h6
                  simp only [Act.put, List.setIfInBounds_toArray, List.set_cons_zero, List.set_cons_succ] at hbf
                  subst hbf
                  replace Bx := Bx.below hb10
                  replace kxs := kxs.below hb10
                  replace kx := kx.below hb10
                  replace By := By.below hb10
                  replace kys := kys.below hb10
                  replace ky := ky.below hb10
                  replace BP2 := BP2.below hb10
                  replace p2s := p2s.below hb10
                  replace p2d := p2d.below hb10
                  replace Bp := Bp.below hb10
                  replace kps := kps.below hb10
                  replace kpd := kpd.below hb10
                  replace kpz := kpz.below hb10
                  replace kp := kp.below hb10
                  replace Bz := Bz.below hb10
                  replace kzs := kzs.below hb10
                  replace kz := kz.below hb10
                  replace bb := bb.trans (hb10.mono bb.size)
                  have hsz10 := bb.size
                  have BA10 := B6
                  obtain ⟨u5, t5, rfl, q5, d5⟩ := q5
                  obtain ⟨AW, cW, rfl, _⟩ := id q5
                  obtain ⟨DW, eW, rfl, _⟩ := id d5
                  refine any_store (i := 7) (by kernel_rfl) rfl rfl rfl rfl rfl rfl (cells := [.bool (ngB (Q).num), .slice AW (digs 4294967296 (Q).num.natAbs).length cW, .slice DW (digs 4294967296 (Q).den).length eW]) rfl BA10 rfl (by kernel_rfl) (one3 rfl rfl rfl) fun w11 hg11 BN11 => ?_
                  replace q5 := off q5 BA10 no_ints3 hg11
                  replace d5 := off d5 BA10 no_ints3 hg11
                  replace kxs := off kxs BA10 no_ints3 hg11
                  replace kx : IsZ w11 (.agg #[.bool (ngB x), .slice Ax (digs 4294967296 (x).natAbs).length cx]) (x) := ⟨_, rfl, kxs⟩
                  replace Bx := Bx.grown hg11 (by omega)
                  replace kys := off kys BA10 no_ints3 hg11
                  replace ky : IsZ w11 (.agg #[.bool false, .slice Ay (digs 4294967296 (y).natAbs).length cy]) (y) := isZ_mk kys rfl HYN.out.symm
                  replace By := By.grown hg11 (by omega)
                  replace p2s := off p2s BA10 no_ints3 hg11
                  replace p2d := off p2d BA10 no_ints3 hg11
                  replace BP2 := BP2.grown hg11 (by omega)
                  replace kps := off kps BA10 no_ints3 hg11
                  replace kpd := off kpd BA10 no_ints3 hg11
                  replace kpz : IsZ w11 (.agg #[.bool (ngB (Q).num), .slice Ap (digs 4294967296 (Q).num.natAbs).length cp]) ((Q).num) := ⟨_, rfl, kps⟩
                  replace kp : IsQ w11 (.agg #[.bool (ngB (Q).num), .slice Ap (digs 4294967296 (Q).num.natAbs).length cp, .slice Dp (digs 4294967296 (Q).den).length ep]) (Q) := ⟨_, _, rfl, kps, kpd⟩
                  replace Bp := Bp.grown hg11 (by omega)
                  replace kzs := off kzs BA10 no_ints3 hg11
                  replace kz : IsR w11 (.agg #[.bool (ngB x), .slice Az (digs 10000 (x).natAbs).length cz]) (x) := ⟨_, rfl, kzs⟩
                  replace Bz := Bz.grown hg11 (by omega)
                  replace bb := bb.trans ((Below.refl _ _).grown hg11 bb.size (fun g hg => by injection hg with hg; omega))
                  have hsz11 := bb.size
                  have BW : Blk w11 (g14_6) _ _ := BN11
                  have kWs := q5
                  have kWd := d5
                  have kWz : IsZ w11 (.agg #[.bool (ngB (Q).num), .slice AW (digs 4294967296 (Q).num.natAbs).length cW]) ((Q).num) := ⟨_, rfl, kWs⟩
                  have kW : IsQ w11 (.agg #[.bool (ngB (Q).num), .slice AW (digs 4294967296 (Q).num.natAbs).length cW, .slice DW (digs 4294967296 (Q).den).length eW]) (Q) := ⟨_, _, rfl, kWs, kWd⟩
                  refine any_done (by kernel_rfl) ?_
                  go_upto_region 9 with (fail)
                  refine flowc 18 [Pd.eq (.pointer (some ⟨w.heap.size + 1 + 1, 0, none⟩)), Pd.eq (.pointer (some ⟨w.heap.size + 1 + 1, 1, none⟩)), Pd.eq (.slice A2 l2.length c2), Pd.eq (.pointer (some ⟨w.heap.size + 1 + 1, 0, none⟩)), Pd.eq (.pointer (some ⟨w.heap.size + 1 + 1, 1, none⟩)), Pd.eq (.slice A2 l2.length c2), Pd.eq (.int .i64 ((l2.length : Nat) : Int)), Pd.eq (.int .i64 ((min l2.length 4 : Nat) : Int)), Pd.eq (.slice A2 (min l2.length 4) c2), Pd.eq (.pointer (some ⟨w.heap.size + 1 + 1, 2, none⟩)), Pd.eq (.slice D2 m2.length e2), Pd.eq (.pointer (some ⟨w.heap.size + 1 + 1, 2, none⟩)), Pd.eq (.slice D2 m2.length e2), Pd.eq (.int .i64 ((m2.length : Nat) : Int)), Pd.eq (.int .i64 ((min m2.length 4 : Nat) : Int)), Pd.eq (.slice D2 (min m2.length 4) e2), Pd.eq (.pointer (some ⟨w.heap.size + 1 + 1, 0, none⟩)), Pd.eq (.pointer (some ⟨w.heap.size + 1 + 1, 1, none⟩))] (by kernel_rfl) [13, 14, 15] (by kernel_rfl) (fun _ _ _ d _ h => by cases d <;> exact h) ⟨⟨_, rfl, late_len rfl (wt_none rfl) (ev_dep (j := 12) (by kernel_rfl) rfl rfl) (fun _ _ hx => ⟨_, fun _ => by rw [hx]; exact len_slice Try.underlying23 _ _ _ _, rfl⟩)⟩, ⟨_, rfl, late_min rfl (wt_none rfl) (ev_dep (j := 13) (by kernel_rfl) rfl rfl) (ev_const _) (fun _ _ _ hx hy => ⟨_, fun _ => by rw [hx, hy]; exact min_nat m2.length 4 _, rfl⟩)⟩, ⟨_, rfl, late_slice_to rfl (wt_none rfl) (ev_dep (j := 10) (by kernel_rfl) rfl rfl) (ev_dep (j := 14) (by kernel_rfl) rfl rfl) (fun _ _ _ hx hy => ⟨.slice D2 (min m2.length 4) e2, fun _ => by rw [hx, hy]; exact cut_slice Try.underlying23 (by kernel_rfl) _ _ _ _ (Nat.le_trans (Nat.min_le_left _ _) HD2.out) _, rfl⟩)⟩, trivial⟩ ?ob15 ?done15
                  case ob15 =>
                    refine And.intro (ob_fieldAddr rfl (wt_none rfl) (ev_far rfl rfl) (fun _ => by kernel_rfl) (fun _ => rfl)) ?_
                    refine And.intro (ob_fieldAddr rfl (wt_none rfl) (ev_dep (j := 0) (by kernel_rfl) rfl rfl) (fun _ => by kernel_rfl) (fun _ => rfl)) ?_
                    refine And.intro (ob_load rfl (wt_none rfl) (ev_dep (j := 1) (by kernel_rfl) rfl rfl) (fun w2 hb => run_load1 Try.underlying23 rfl ((BP2.drew.below hb).cell 1)) (fun _ _ => rfl)) ?_
                    refine And.intro (ob_fieldAddr rfl (wt_none rfl) (ev_far rfl rfl) (fun _ => by kernel_rfl) (fun _ => rfl)) ?_
                    refine And.intro (ob_fieldAddr rfl (wt_none rfl) (ev_dep (j := 3) (by kernel_rfl) rfl rfl) (fun _ => by kernel_rfl) (fun _ => rfl)) ?_
                    refine And.intro (ob_load rfl (wt_none rfl) (ev_dep (j := 4) (by kernel_rfl) rfl rfl) (fun w2 hb => run_load1 Try.underlying23 rfl ((BP2.drew.below hb).cell 1)) (fun _ _ => rfl)) ?_
                    refine And.intro (ob_len rfl (wt_none rfl) (ev_dep (j := 5) (by kernel_rfl) rfl rfl) (fun _ _ hx => ⟨_, by rw [hx]; exact len_slice Try.underlying23 _ _ _ _, rfl⟩)) ?_
                    refine And.intro (ob_min rfl (wt_none rfl) (ev_dep (j := 6) (by kernel_rfl) rfl rfl) (ev_const _) (fun _ _ _ hx hy => ⟨_, by rw [hx, hy]; exact min_nat l2.length 4 _, rfl⟩)) ?_
                    refine And.intro (ob_slice_to rfl (wt_none rfl) (ev_dep (j := 2) (by kernel_rfl) rfl rfl) (ev_dep (j := 7) (by kernel_rfl) rfl rfl) (fun _ _ _ hx hy => ⟨.slice A2 (min l2.length 4) c2, by rw [hx, hy]; exact cut_slice Try.underlying23 (by kernel_rfl) _ _ _ _ (Nat.le_trans (Nat.min_le_left _ _) HA2.out) _, rfl⟩)) ?_
                    refine And.intro (ob_fieldAddr rfl (wt_none rfl) (ev_far rfl rfl) (fun _ => by kernel_rfl) (fun _ => rfl)) ?_
                    refine And.intro (ob_load rfl (wt_none rfl) (ev_dep (j := 9) (by kernel_rfl) rfl rfl) (fun w2 hb => run_load1 Try.underlying23 rfl ((BP2.drew.below hb).cell 2)) (fun _ _ => rfl)) ?_
                    refine And.intro (ob_fieldAddr rfl (wt_none rfl) (ev_far rfl rfl) (fun _ => by kernel_rfl) (fun _ => rfl)) ?_
                    refine And.intro (ob_load rfl (wt_none rfl) (ev_dep (j := 11) (by kernel_rfl) rfl rfl) (fun w2 hb => run_load1 Try.underlying23 rfl ((BP2.drew.below hb).cell 2)) (fun _ _ => rfl)) ?_
                    refine And.intro (ob_len rfl (wt_none rfl) (ev_dep (j := 12) (by kernel_rfl) rfl rfl) (fun _ _ hx => ⟨_, by rw [hx]; exact len_slice Try.underlying23 _ _ _ _, rfl⟩)) ?_
                    refine And.intro (ob_min rfl (wt_none rfl) (ev_dep (j := 13) (by kernel_rfl) rfl rfl) (ev_const _) (fun _ _ _ hx hy => ⟨_, by rw [hx, hy]; exact min_nat m2.length 4 _, rfl⟩)) ?_
                    refine And.intro (ob_slice_to rfl (wt_none rfl) (ev_dep (j := 10) (by kernel_rfl) rfl rfl) (ev_dep (j := 14) (by kernel_rfl) rfl rfl) (fun _ _ _ hx hy => ⟨.slice D2 (min m2.length 4) e2, by rw [hx, hy]; exact cut_slice Try.underlying23 (by kernel_rfl) _ _ _ _ (Nat.le_trans (Nat.min_le_left _ _) HD2.out) _, rfl⟩)) ?_
                    refine And.intro (ob_fieldAddr rfl (wt_none rfl) (ev_far rfl rfl) (fun _ => by kernel_rfl) (fun _ => rfl)) ?_
                    refine And.intro (ob_fieldAddr rfl (wt_none rfl) (ev_dep (j := 16) (by kernel_rfl) rfl rfl) (fun _ => by kernel_rfl) (fun _ => rfl)) ?_
                    trivial
                  case done15 =>
                    refine fun w12 hb12 v0 h0 v1 h1 v2 h2 v3 h3 v4 h4 v5 h5 v6 h6 v7 h7 v8 h8 v9 h9 v10 h10 v11 h11 v12 h12 v13 h13 v14 h14 v15 h15 v16 h16 v17 h17 b hbf => ?_
                    obtain rfl := h0; obtain rfl := h1; obtain rfl := h2; obtain rfl := h3; obtain rfl := h4; obtain rfl := h5; obtain rfl := h6; obtain rfl := h7; obtain rfl := h8; obtain rfl := h9; obtain rfl := h10; obtain rfl := h11; obtain rfl := h12; obtain rfl := h13; obtain rfl := h14; obtain rfl := h15; obtain rfl := h16; obtain rfl := h17
                    simp only [Act.put, List.setIfInBounds_toArray, List.set_cons_zero, List.set_cons_succ] at hbf
                    subst hbf
                    replace Bx := Bx.below hb12
                    replace kxs := kxs.below hb12
                    replace kx := kx.below hb12
                    replace By := By.below hb12
                    replace kys := kys.below hb12
                    replace ky := ky.below hb12
                    replace BP2 := BP2.below hb12
                    replace p2s := p2s.below hb12
                    replace p2d := p2d.below hb12
                    replace Bp := Bp.below hb12
                    replace kps := kps.below hb12
                    replace kpd := kpd.below hb12
                    replace kpz := kpz.below hb12
                    replace kp := kp.below hb12
                    replace Bz := Bz.below hb12
                    replace kzs := kzs.below hb12
                    replace kz := kz.below hb12
                    replace BW := BW.below hb12
                    replace kWs := kWs.below hb12
                    replace kWd := kWd.below hb12
                    replace kWz := kWz.below hb12
                    replace kW := kW.below hb12
                    replace bb := bb.trans (hb12.mono bb.size)
                    have hsz12 := bb.size
                    refine any_store_at (i := 18) (v := .slice A2 (min l2.length 4) c2) (by kernel_rfl) rfl rfl rfl rfl rfl rfl rfl rfl BP2 (by show 1 < 3; omega) (by kernel_rfl) fun w13 hg13 BN13 => ?_
                    replace kxs := off kxs BP2 no_ints3 hg13
                    replace kx : IsZ w13 (.agg #[.bool (ngB x), .slice Ax (digs 4294967296 (x).natAbs).length cx]) (x) := ⟨_, rfl, kxs⟩
                    replace Bx := Bx.grown hg13 (by omega)
                    replace kys := off kys BP2 no_ints3 hg13
                    replace ky : IsZ w13 (.agg #[.bool false, .slice Ay (digs 4294967296 (y).natAbs).length cy]) (y) := isZ_mk kys rfl HYN.out.symm
                    replace By := By.grown hg13 (by omega)
                    replace p2s := off p2s BP2 no_ints3 hg13
                    replace p2d := off p2d BP2 no_ints3 hg13
                    replace kps := off kps BP2 no_ints3 hg13
                    replace kpd := off kpd BP2 no_ints3 hg13
                    replace kpz : IsZ w13 (.agg #[.bool (ngB (Q).num), .slice Ap (digs 4294967296 (Q).num.natAbs).length cp]) ((Q).num) := ⟨_, rfl, kps⟩
                    replace kp : IsQ w13 (.agg #[.bool (ngB (Q).num), .slice Ap (digs 4294967296 (Q).num.natAbs).length cp, .slice Dp (digs 4294967296 (Q).den).length ep]) (Q) := ⟨_, _, rfl, kps, kpd⟩
                    replace Bp := Bp.grown hg13 (by omega)
                    replace kzs := off kzs BP2 no_ints3 hg13
                    replace kz : IsR w13 (.agg #[.bool (ngB x), .slice Az (digs 10000 (x).natAbs).length cz]) (x) := ⟨_, rfl, kzs⟩
                    replace Bz := Bz.grown hg13 (by omega)
                    replace kWs := off kWs BP2 no_ints3 hg13
                    replace kWd := off kWd BP2 no_ints3 hg13
                    replace kWz : IsZ w13 (.agg #[.bool (ngB (Q).num), .slice AW (digs 4294967296 (Q).num.natAbs).length cW]) ((Q).num) := ⟨_, rfl, kWs⟩
                    replace kW : IsQ w13 (.agg #[.bool (ngB (Q).num), .slice AW (digs 4294967296 (Q).num.natAbs).length cW, .slice DW (digs 4294967296 (Q).den).length eW]) (Q) := ⟨_, _, rfl, kWs, kWd⟩
                    replace BW := BW.grown hg13 (by omega)
                    replace bb := bb.trans ((Below.refl _ _).grown hg13 bb.size (fun g hg => by injection hg with hg; omega))
                    have hsz13 := bb.size
                    replace BP2 : Blk w13 (w.heap.size + 1 + 1) _ #[.bool b2, .slice A2 (min l2.length 4) c2, .slice D2 m2.length e2] := BN13
                    refine any_fieldAddr (i := 19) (.pointer (some ⟨w.heap.size + 1 + 1, 2, none⟩)) (by kernel_rfl) rfl rfl rfl rfl (fun _ => by kernel_rfl) rfl fun b hbf => ?_
                    simp only [Act.put, List.setIfInBounds_toArray, List.set_cons_zero, List.set_cons_succ] at hbf
                    subst hbf
                    refine any_store_at (i := 20) (v := .slice D2 (min m2.length 4) e2) (by kernel_rfl) rfl rfl rfl rfl rfl rfl rfl rfl BP2 (by show 2 < 3; omega) (by kernel_rfl) fun w14 hg14 BN14 => ?_
                    replace kxs := off kxs BP2 no_ints3 hg14
                    replace kx : IsZ w14 (.agg #[.bool (ngB x), .slice Ax (digs 4294967296 (x).natAbs).length cx]) (x) := ⟨_, rfl, kxs⟩
                    replace Bx := Bx.grown hg14 (by omega)
                    replace kys := off kys BP2 no_ints3 hg14
                    replace ky : IsZ w14 (.agg #[.bool false, .slice Ay (digs 4294967296 (y).natAbs).length cy]) (y) := isZ_mk kys rfl HYN.out.symm
                    replace By := By.grown hg14 (by omega)
                    replace p2s := off p2s BP2 no_ints3 hg14
                    replace p2d := off p2d BP2 no_ints3 hg14
                    replace kps := off kps BP2 no_ints3 hg14
                    replace kpd := off kpd BP2 no_ints3 hg14
                    replace kpz : IsZ w14 (.agg #[.bool (ngB (Q).num), .slice Ap (digs 4294967296 (Q).num.natAbs).length cp]) ((Q).num) := ⟨_, rfl, kps⟩
                    replace kp : IsQ w14 (.agg #[.bool (ngB (Q).num), .slice Ap (digs 4294967296 (Q).num.natAbs).length cp, .slice Dp (digs 4294967296 (Q).den).length ep]) (Q) := ⟨_, _, rfl, kps, kpd⟩
                    replace Bp := Bp.grown hg14 (by omega)
                    replace kzs := off kzs BP2 no_ints3 hg14
                    replace kz : IsR w14 (.agg #[.bool (ngB x), .slice Az (digs 10000 (x).natAbs).length cz]) (x) := ⟨_, rfl, kzs⟩
                    replace Bz := Bz.grown hg14 (by omega)
                    replace kWs := off kWs BP2 no_ints3 hg14
                    replace kWd := off kWd BP2 no_ints3 hg14
                    replace kWz : IsZ w14 (.agg #[.bool (ngB (Q).num), .slice AW (digs 4294967296 (Q).num.natAbs).length cW]) ((Q).num) := ⟨_, rfl, kWs⟩
                    replace kW : IsQ w14 (.agg #[.bool (ngB (Q).num), .slice AW (digs 4294967296 (Q).num.natAbs).length cW, .slice DW (digs 4294967296 (Q).den).length eW]) (Q) := ⟨_, _, rfl, kWs, kWd⟩
                    replace BW := BW.grown hg14 (by omega)
                    replace bb := bb.trans ((Below.refl _ _).grown hg14 bb.size (fun g hg => by injection hg with hg; omega))
                    have hsz14 := bb.size
                    replace BP2 : Blk w14 (w.heap.size + 1 + 1) _ #[.bool b2, .slice A2 (min l2.length 4) c2, .slice D2 (min m2.length 4) e2] := BN14
                    refine any_done (by kernel_rfl) ?_
                    replace p2s := IsS.cut p2s 4
                    replace p2d := IsS.cut p2d 4
                    have HU2 : Hid (Lt 18446744073709551616 (l2.take 4)) := u2.take 4
                    have HX2 : Hid (Lt 18446744073709551616 (m2.take 4)) := x2.take 4
                    obtain ⟨V, hV⟩ : ∃ V, V = mayQ b2 (l2.take 4) (m2.take 4) := ⟨_, rfl⟩
                    have HV := Lib.hid hV
                    clear hV
                    go_upto_region 10 with (fail)
                    refine flow 22 [Pd.eq (.int .i64 0), Pd.eq (.bool true), Pd.eq (.bool true), Pd.eq (.agg #[.bool (ngB (Q).num), .slice Ap (digs 4294967296 (Q).num.natAbs).length cp, .slice Dp (digs 4294967296 (Q).den).length ep]), Pd.eq (.agg #[.bool (ngB (Q).num), .slice AW (digs 4294967296 (Q).num.natAbs).length cW, .slice DW (digs 4294967296 (Q).den).length eW]), Pd.eq (.bool true), Pd.eq (.bool true), Pd.eq (.bool true), Pd.eq (.agg #[.bool (ngB (Q).num), .slice Ap (digs 4294967296 (Q).num.natAbs).length cp, .slice Dp (digs 4294967296 (Q).den).length ep]), Pd.eq (.bool true), Pd.eq (.bool true), Pd.eq (.bool true), Pd.eq (.agg #[.bool b2, .slice A2 (min l2.length 4) c2, .slice D2 (min m2.length 4) e2]), Pd.eq (.bool V), Pd.eq (.agg #[.bool b2, .slice A2 (min l2.length 4) c2, .slice D2 (min m2.length 4) e2]), Pd.eq (.bool V), Pd.eq (.bool true), Pd.eq (.bool true), Pd.eq (.bool true), Pd.eq (.bool true), Pd.eq (.bool true), Pd.eq (.bool true)] (by kernel_rfl) (by kernel_rfl) ?ob16 ?done16
                    case ob16 =>
                      refine And.intro (ob_move rfl (wt_none rfl) (ev_far rfl rfl) (fun _ _ h => h)) ?_
                      refine And.intro (ob_bin rfl (wt_none rfl) (ev_dep (j := 0) (by kernel_rfl) rfl rfl) (ev_const _) (fun _ _ _ hx hy => ⟨.bool ((0 : Int) == 0), by rw [hx, hy]; exact bin_eql_int _ _ _ _ _, congrArg Value.bool (by decide)⟩)) ?_
                      refine And.intro (ob_move rfl (wt_none rfl) (ev_dep (j := 1) (by kernel_rfl) rfl rfl) (fun _ _ h => h)) ?_
                      refine And.intro (ob_load rfl (wt_dep (c := true) (b := true) (g := 2) rfl (by kernel_rfl) rfl rfl rfl (by exact fun _ _ h => h)) (ev_far rfl rfl) (fun w2 hb => run_loadAll Try.underlying27 rfl (by kernel_rfl) (Bp.drew.below hb)) (fun _ _ => rfl)) ?_
                      refine And.intro (ob_load rfl (wt_dep (c := true) (b := true) (g := 2) rfl (by kernel_rfl) rfl rfl rfl (by exact fun _ _ h => h)) (ev_far rfl rfl) (fun w2 hb => run_loadAll Try.underlying27 rfl (by kernel_rfl) (BW.drew.below hb)) (fun _ _ => rfl)) ?_
                      refine And.intro (ob_call2 rfl Try.func12 (by kernel_rfl) (wt_dep (c := true) (b := true) (g := 2) rfl (by kernel_rfl) rfl rfl rfl (by exact fun _ _ h => h)) (ev_dep (j := 3) (by kernel_rfl) rfl rfl) (ev_dep (j := 4) (by kernel_rfl) rfl rfl) (fun w2 u0 u1 hb h0 h1 => by obtain rfl := h0; obtain rfl := h1; exact (qsame_eq _ _ (Q) (Q) _ (kp.drew.below hb) (kW.drew.below hb) rfl).mono fun e w3 h => RetV.pd h)) ?_
                      refine And.intro (ob_pick (b := true) rfl (wt_none rfl) (ev_dep (j := 2) (by kernel_rfl) rfl rfl) (ev_dep (j := 5) (by kernel_rfl) rfl rfl) (fun _ _ h => h)) ?_
                      refine And.intro (ob_move rfl (wt_none rfl) (ev_dep (j := 6) (by kernel_rfl) rfl rfl) (fun _ _ h => h)) ?_
                      refine And.intro (ob_load rfl (wt_dep (c := true) (b := true) (g := 7) rfl (by kernel_rfl) rfl rfl rfl (by exact fun _ _ h => h)) (ev_far rfl rfl) (fun w2 hb => run_loadAll Try.underlying27 rfl (by kernel_rfl) (Bp.drew.below hb)) (fun _ _ => rfl)) ?_
                      refine And.intro (ob_call1 rfl Try.func13 (by kernel_rfl) (wt_dep (c := true) (b := true) (g := 7) rfl (by kernel_rfl) rfl rfl rfl (by exact fun _ _ h => h)) (ev_dep (j := 8) (by kernel_rfl) rfl rfl) (fun w2 u0 hb h0 => by obtain rfl := h0; exact (fmay_any _ (Q) _ (kp.drew.below hb) (lQ.mono (by decide))).mono fun e w3 h => RetV.pd h)) ?_
                      refine And.intro (ob_pick (b := true) rfl (wt_none rfl) (ev_dep (j := 7) (by kernel_rfl) rfl rfl) (ev_dep (j := 9) (by kernel_rfl) rfl rfl) (fun _ _ h => h)) ?_
                      refine And.intro (ob_move rfl (wt_none rfl) (ev_dep (j := 10) (by kernel_rfl) rfl rfl) (fun _ _ h => h)) ?_
                      refine And.intro (ob_load rfl (wt_dep (c := true) (b := true) (g := 11) rfl (by kernel_rfl) rfl rfl rfl (by exact fun _ _ h => h)) (ev_far rfl rfl) (fun w2 hb => run_loadAll Try.underlying27 rfl (by kernel_rfl) (BP2.drew.below hb)) (fun _ _ => rfl)) ?_
                      refine And.intro (ob_call1 rfl Try.func13 (by kernel_rfl) (wt_dep (c := true) (b := true) (g := 11) rfl (by kernel_rfl) rfl rfl rfl (by exact fun _ _ h => h)) (ev_dep (j := 12) (by kernel_rfl) rfl rfl) (fun w2 u0 hb h0 => by obtain rfl := h0; exact (fmayraw_any b2 _ _ _ _ V _ (p2s.drew.below hb) HU2.out (p2d.drew.below hb) HX2.out (by rw [List.length_take]; omega) (by rw [List.length_take]; omega) HV.out).mono fun e w3 h => RetV.pd h)) ?_
                      refine And.intro (ob_load rfl (wt_dep (c := true) (b := true) (g := 11) rfl (by kernel_rfl) rfl rfl rfl (by exact fun _ _ h => h)) (ev_far rfl rfl) (fun w2 hb => run_loadAll Try.underlying27 rfl (by kernel_rfl) (BP2.drew.below hb)) (fun _ _ => rfl)) ?_
                      refine And.intro (ob_call1 rfl Try.func14 (by kernel_rfl) (wt_dep (c := true) (b := true) (g := 11) rfl (by kernel_rfl) rfl rfl rfl (by exact fun _ _ h => h)) (ev_dep (j := 14) (by kernel_rfl) rfl rfl) (fun w2 u0 hb h0 => by obtain rfl := h0; exact (qmay_any b2 _ _ _ _ V _ (p2s.drew.below hb) HU2.out (p2d.drew.below hb) HX2.out (by rw [List.length_take]; omega) (by rw [List.length_take]; omega) HV.out).mono fun e w3 h => RetV.pd h)) ?_
                      refine And.intro (ob_bin rfl (wt_dep (c := true) (b := true) (g := 11) rfl (by kernel_rfl) rfl rfl rfl (by exact fun _ _ h => h)) (ev_dep (j := 13) (by kernel_rfl) rfl rfl) (ev_dep (j := 15) (by kernel_rfl) rfl rfl) (fun _ _ _ hx hy => ⟨.bool (V == V), by rw [hx, hy]; exact bin_eql_bool _ _ _ _ Try.underlying4 _, congrArg Value.bool (beq_self_eq_true _)⟩)) ?_
                      refine And.intro (ob_pick (b := true) rfl (wt_none rfl) (ev_dep (j := 11) (by kernel_rfl) rfl rfl) (ev_dep (j := 16) (by kernel_rfl) rfl rfl) (fun _ _ h => h)) ?_
                      refine And.intro (ob_move rfl (wt_none rfl) (ev_dep (j := 17) (by kernel_rfl) rfl rfl) (fun _ _ h => h)) ?_
                      refine And.intro (ob_call0 rfl Try.func7 (by kernel_rfl) (wt_dep (c := true) (b := true) (g := 18) rfl (by kernel_rfl) rfl rfl rfl (by exact fun _ _ h => h)) (fun w2 hb => (works8_any _).mono fun e w3 h => RetV.pd h)) ?_
                      refine And.intro (ob_pick (b := true) rfl (wt_none rfl) (ev_dep (j := 18) (by kernel_rfl) rfl rfl) (ev_dep (j := 19) (by kernel_rfl) rfl rfl) (fun _ _ h => h)) ?_
                      refine And.intro (ob_assign rfl (wt_none rfl) (ev_dep (j := 20) (by kernel_rfl) rfl rfl) (fun _ _ h => h)) ?_
                      trivial
                    case done16 =>
                      refine fun w15 hb15 v0 h0 v1 h1 v2 h2 v3 h3 v4 h4 v5 h5 v6 h6 v7 h7 v8 h8 v9 h9 v10 h10 v11 h11 v12 h12 v13 h13 v14 h14 v15 h15 v16 h16 v17 h17 v18 h18 v19 h19 v20 h20 v21 h21 b hbf => ?_
                      obtain rfl := h0; obtain rfl := h1; obtain rfl := h2; obtain rfl := h3; obtain rfl := h4; obtain rfl := h5; obtain rfl := h6; obtain rfl := h7; obtain rfl := h8; obtain rfl := h9; obtain rfl := h10; obtain rfl := h11; obtain rfl := h12; obtain rfl := h13; obtain rfl := h14; obtain rfl := h15; obtain rfl := h16; obtain rfl := h17; obtain rfl := h18; obtain rfl := h19; obtain rfl := h20; obtain rfl := h21
                      simp only [Act.put, List.setIfInBounds_toArray, List.set_cons_zero, List.set_cons_succ] at hbf
                      subst hbf
                      replace Bx := Bx.below hb15
                      replace kxs := kxs.below hb15
                      replace kx := kx.below hb15
                      replace By := By.below hb15
                      replace kys := kys.below hb15
                      replace ky := ky.below hb15
                      replace BP2 := BP2.below hb15
                      replace p2s := p2s.below hb15
                      replace p2d := p2d.below hb15
                      replace Bp := Bp.below hb15
                      replace kps := kps.below hb15
                      replace kpd := kpd.below hb15
                      replace kpz := kpz.below hb15
                      replace kp := kp.below hb15
                      replace Bz := Bz.below hb15
                      replace kzs := kzs.below hb15
                      replace kz := kz.below hb15
                      replace BW := BW.below hb15
                      replace kWs := kWs.below hb15
                      replace kWd := kWd.below hb15
                      replace kWz := kWz.below hb15
                      replace kW := kW.below hb15
                      replace bb := bb.trans (hb15.mono bb.size)
                      have hsz15 := bb.size
                      refine any_done (by kernel_rfl) ?_
                      go_wp2
                      go_ret
                      exact ⟨rfl, bb⟩

set_option maxRecDepth 100000 in
theorem lifted (os : Os) (started : os.Started) (H : Type) (enc : TypeId × Value → H) :
    ReturnsInHanded {} Try.checked os 3 .any (Rows.ratMakesSpec.pre6 enc Try.prog Try.f3 Rows.ratMakesRow.domain false) (Rows.ratMakesSpec.post enc Try.prog Try.f3 false true false false) := by
  refine returnsInHanded_of_change (C := Try.checked) own started (by kernel_rfl) Try.func3
    (ChangeSpec.witness6 (enc := enc) (C := Try.checked) false ⟨#[], #[.agg #[.bool false, .slice none 0 0], .agg #[.bool false, .slice none 0 0], .agg #[.bool false, .slice none 0 0, .slice none 0 0]], []⟩ 8 (by kernel_rfl) (by kernel_rfl) (by kernel_rfl) (by kernel_rfl)) ?_
  intro W base args ds gs before hval0 hW hcnd _
  have hval : ∀ (j : Nat) t v, Try.f3.params[j]? = some t → args[j]? = some v → Value.okWide Try.prog W .any base t v := hval0
  have hW' := hW
  obtain ⟨p, q, hA0, hV, rfl, hfz, hnd⟩ := hW
  have hA : DataW.TrodAll enc Try.prog W 0 (fun _ => true) true Try.f3.params.toList args.toList ds p := hA0
  rw [Try.params3] at hA hval
  obtain ⟨v0, vs0, d0, ds0, p0, q0, hargs, rfl, rfl, t0, r0⟩ := trodAll_cons hA
  obtain ⟨v1, vs1, d1, ds1, p1, q1, rfl, rfl, rfl, t1, r1⟩ := trodAll_cons r0
  obtain ⟨v2, vs2, d2, ds2, p2, q2, rfl, rfl, rfl, t2, r2⟩ := trodAll_cons r1
  obtain ⟨rfl, rfl, rfl⟩ := trodAll_nil r2
  obtain rfl : args = #[v0, v1, v2] := by cases args; simp_all
  obtain ⟨rfl, rfl⟩ := trodVars_none hV
  obtain ⟨b0, x0, l0, rfl, hs0, hu0⟩ := arg_z Try.underlying25 (by kernel_rfl) (by kernel_rfl) Try.underlying4 Try.underlying23 Try.underlying69 cells_u (hval 0 25 v0 rfl rfl) t0
  obtain ⟨b1, x1, l1, rfl, hs1, hu1⟩ := arg_z Try.underlying25 (by kernel_rfl) (by kernel_rfl) Try.underlying4 Try.underlying23 Try.underlying69 cells_u (hval 1 25 v1 rfl rfl) t1
  obtain ⟨b2, x2, r2_, l2, m2, rfl, hs2, hu2, hj2, hx2⟩ := arg_q Try.underlying27 (by kernel_rfl) (by kernel_rfl) Try.underlying25 (by kernel_rfl) Try.underlying4 Try.underlying23 Try.underlying23 Try.underlying69 cells_u (hval 2 27 v2 rfl rfl) t2
  clear hA0 hval0
  simp only [List.append_nil] at hW'
  have hlt0 : ∀ x ∈ p0, x.block < W.heap.size := fun x hx => hW'.lt x (List.mem_append_left _ hx)
  have hlt1 : ∀ x ∈ p1, x.block < W.heap.size := fun x hx => hW'.lt x (List.mem_append_right _ (List.mem_append_left _ hx))
  have hlt2 : ∀ x ∈ p2, x.block < W.heap.size := fun x hx => hW'.lt x (List.mem_append_right _ (List.mem_append_right _ (hx)))
  refine (walk b0 x0 l0 b1 x1 l1 b2 x2 r2_ l2 m2 W hs0 hu0 hs1 hu1 hs2 hu2 hj2 hx2).mono fun e W' ⟨he, hb⟩ => ?_
  subst he
  have s0 := Below.trod laidOut (by kernel_rfl) (of_decide_eq_true (by kernel_rfl)) t0 hb hlt0
  have s1 := Below.trod laidOut (by kernel_rfl) (of_decide_eq_true (by kernel_rfl)) t1 hb hlt1
  have s2 := Below.trod laidOut (by kernel_rfl) (of_decide_eq_true (by kernel_rfl)) t2 hb hlt2
  exact ⟨_, rfl, _, _, _, [] ++ [], _, [], hW', trodAll_cons_mk (shut_bool Try.underlying4 _) trodAll_mk0, trodAll_cons_mk s0 (trodAll_cons_mk s1 (trodAll_cons_mk s2 (trodAll_mk0))), rfl, hb.frame _, fun h => by cases h⟩

theorem over : Rows.ratMakesRow.holds Try.pinned (OpenSpec.ofChange Rows.ratMakesSpec) :=
  OpenClaim.holds_of_wide 3 Try.f3 rfl rfl rfl rfl rfl rfl rfl ⟨rfl, rfl, rfl, rfl, rfl⟩ rfl rfl rfl rfl rfl (by kernel_rfl) Try.func3 (by kernel_rfl)
    (of_decide_eq_true (by kernel_rfl)) (by unfold Func.isWrapper; first | (rw [if_pos (by decide +kernel)]; kernel_rfl) | (rw [if_neg (by decide +kernel)]; exact ⟨rfl, rfl⟩))
    (fun os started H enc _ => lifted os started H enc)

/-- The statement. -/
theorem proved : Rows.RatMakesSaid := over
end Go.Proofs.Ytbebmknfecehnaa.ratMakes
