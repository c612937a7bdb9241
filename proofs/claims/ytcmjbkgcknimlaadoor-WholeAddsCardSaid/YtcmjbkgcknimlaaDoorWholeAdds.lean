/- WholeAdds: any two whole numbers are compared, added, taken off and multiplied as the document says. Condition: the arguments can be read as data. -/
import Derived.Test.YtcmjbkgcknimlaaDoorWhlL
import Derived.Deep.Cut
import Derived.Test.YtcmjbkgcknimlaaDoorCards
import Derived.Test.YtcmjbkgcknimlaaDoorTie
import Derived.OpenShut
import Derived.LaidMore
import Derived.Lay
import Derived.SevenTiedAt
import Derived.Stop.Joined
namespace Go.Proofs.YtcmjbkgcknimlaaDoor.wholeAdds
open Go.ChangeShapes Go.WideShapes Go.ChangeAt Go.RowKit Go.Proofs.YtcmjbkgcknimlaaDoor.num Go.Proofs.YtcmjbkgcknimlaaDoor.mem Go.Proofs.YtcmjbkgcknimlaaDoor.nat Go.Proofs.YtcmjbkgcknimlaaDoor.txt Go.Proofs.YtcmjbkgcknimlaaDoor.str Go.Proofs.YtcmjbkgcknimlaaDoor.flow Go.Proofs.YtcmjbkgcknimlaaDoor.whl
set_option linter.unusedVariables false

theorem own : ownKnob Tryd.prog.godebug = none := by kernel_rfl
theorem laidOut : laidOutB Tryd.prog = true := by kernel_rfl
theorem cells_u : Tryd.prog.cellsOf 74 = 1 := by kernel_rfl


set_option maxHeartbeats 6400000 in
set_option maxRecDepth 100000 in
/-- The walk: the Go text returns true; what was there is as it was. -/
theorem walk (b0 : Bool) (v0 : Value) (l0 : List Nat) (b1 : Bool) (v1 : Value) (l1 : List Nat) (w : World) (h0 : IsS w .u64 v0 l0) (u0 : Lt 18446744073709551616 l0) (h1 : IsS w .u64 v1 l1) (u1 : Lt 18446744073709551616 l1) :
    Calls Tryd.prog 3 #[.agg #[.bool b0, v0], .agg #[.bool b1, v1]] w (RetV (.bool true) w) := by
  obtain ⟨x, hx0⟩ : ∃ x, x = cleanZ b0 l0 10 := ⟨_, rfl⟩
  have lx : lenZ x ≤ 10 := by rw [hx0]; exact cleanZ_len _ _ _
  have HX0 := Lib.hid hx0.symm
  clear hx0
  obtain ⟨y, hx1⟩ : ∃ y, y = cleanZ b1 l1 10 := ⟨_, rfl⟩
  have ly : lenZ y ≤ 10 := by rw [hx1]; exact cleanZ_len _ _ _
  have HX1 := Lib.hid hx1.symm
  clear hx1
  obtain ⟨A0, c0, rfl, _⟩ := id h0
  obtain ⟨A1, c1, rfl, _⟩ := id h1
  go_enter Tryd.func3, Tryd.ntmps3
  go_upto_region 1 with (fail)
  obtain ⟨w0, hwx, bb, BP0, BP1, hsz⟩ := vars2 w 25 25 #[.bool b0, .slice A0 l0.length c0] #[.bool b1, .slice A1 l1.length c1]
  rw [hwx]
  clear hwx
  have kp0s := h0.below bb
  have kp1s := h1.below bb
  have hsz0 := bb.size
  refine flow 4 [Pd.eq (.agg #[.bool b0, .slice A0 l0.length c0]), pz (x) w0.heap.size, Pd.eq (.agg #[.bool b1, .slice A1 l1.length c1]), pz (y) w0.heap.size] (by kernel_rfl) (by kernel_rfl) ?ob1 ?done1
  case ob1 =>
    refine And.intro (ob_load rfl (wt_none rfl) (ev_far rfl rfl) (fun w2 hb => run_loadAll Tryd.underlying25 rfl (by kernel_rfl) (BP0.drew.below hb)) (fun _ _ => rfl)) ?_
    refine And.intro (ob_call2 rfl Tryd.func8 (by kernel_rfl) (wt_none rfl) (ev_dep (j := 0) (by kernel_rfl) rfl rfl) (ev_const _) (fun w2 u0 u1 hb h0 h1 => by obtain rfl := h0; obtain rfl := h1; exact (HX0.out ▸ zclean_any _ _ _ _ 10 _ rfl (kp0s.drew.below hb) u0 (by omega)).mono fun e w3 h => RetZ.pd h hb.size)) ?_
    refine And.intro (ob_load rfl (wt_none rfl) (ev_far rfl rfl) (fun w2 hb => run_loadAll Tryd.underlying25 rfl (by kernel_rfl) (BP1.drew.below hb)) (fun _ _ => rfl)) ?_
    refine And.intro (ob_call2 rfl Tryd.func8 (by kernel_rfl) (wt_none rfl) (ev_dep (j := 2) (by kernel_rfl) rfl rfl) (ev_const _) (fun w2 u0 u1 hb h0 h1 => by obtain rfl := h0; obtain rfl := h1; exact (HX1.out ▸ zclean_any _ _ _ _ 10 _ rfl (kp1s.drew.below hb) u1 (by omega)).mono fun e w3 h => RetZ.pd h hb.size)) ?_
    trivial
  case done1 =>
    refine fun w1 hb1 v0 h0 v1 h1 v2 h2 v3 h3 b hbf => ?_
    obtain rfl := h0; obtain rfl := h2
    obtain ⟨q1, f1⟩ := h1
    obtain ⟨q3, f3⟩ := h3
    simp only [Act.put, List.setIfInBounds_toArray, List.set_cons_zero, List.set_cons_succ] at hbf
    subst hbf
    replace BP0 := BP0.below hb1
    replace BP1 := BP1.below hb1
    replace kp0s := kp0s.below hb1
    replace kp1s := kp1s.below hb1
    replace bb := bb.trans (hb1.mono bb.size)
    have hsz1 := bb.size
    obtain ⟨u1, rfl, q1⟩ := q1
    obtain ⟨A2, c2, rfl, _⟩ := id q1
    obtain ⟨u3, rfl, q3⟩ := q3
    obtain ⟨A3, c3, rfl, _⟩ := id q3
    refine any_store (i := 4) (by kernel_rfl) rfl rfl rfl rfl rfl rfl (cells := [.bool (ngB x), .slice A2 (digs 4294967296 (x).natAbs).length c2]) rfl BP0 rfl (by kernel_rfl) (one2 rfl rfl) fun w2 hg2 BN2 => ?_
    replace q3 := off q3 BP0 no_ints2 hg2
    replace q1 := off q1 BP0 no_ints2 hg2
    replace kp1s := off kp1s BP0 no_ints2 hg2
    replace BP1 := BP1.grown hg2 (by omega)
    replace bb := bb.trans ((Below.refl _ _).grown hg2 bb.size (fun g hg => by injection hg with hg; omega))
    have hsz2 := bb.size
    have Bx : Blk w2 (w.heap.size) _ _ := BN2
    have kxs := q1
    have kx : IsZ w2 (.agg #[.bool (ngB x), .slice A2 (digs 4294967296 (x).natAbs).length c2]) (x) := ⟨_, rfl, kxs⟩
    refine any_store (i := 5) (by kernel_rfl) rfl rfl rfl rfl rfl rfl (cells := [.bool (ngB y), .slice A3 (digs 4294967296 (y).natAbs).length c3]) rfl BP1 rfl (by kernel_rfl) (one2 rfl rfl) fun w3 hg3 BN3 => ?_
    replace q3 := off q3 BP1 no_ints2 hg3
    replace kxs := off kxs BP1 no_ints2 hg3
    replace kx : IsZ w3 (.agg #[.bool (ngB x), .slice A2 (digs 4294967296 (x).natAbs).length c2]) (x) := ⟨_, rfl, kxs⟩
    replace Bx := Bx.grown hg3 (by omega)
    replace bb := bb.trans ((Below.refl _ _).grown hg3 bb.size (fun g hg => by injection hg with hg; omega))
    have hsz3 := bb.size
    have By : Blk w3 (w.heap.size + 1) _ _ := BN3
    have kys := q3
    have ky : IsZ w3 (.agg #[.bool (ngB y), .slice A3 (digs 4294967296 (y).natAbs).length c3]) (y) := ⟨_, rfl, kys⟩
    refine any_done (by kernel_rfl) ?_
    go_upto_region 2 with (fail)
    have lt3_2 := Blk.lt Bx
    have lt3_3 := Blk.lt By
    refine flow 6 [Pd.eq (.agg #[.bool (ngB x), .slice A2 (digs 4294967296 (x).natAbs).length c2]), pr (x), Pd.eq (.agg #[.bool (ngB y), .slice A3 (digs 4294967296 (y).natAbs).length c3]), pr (y), pn 30 #[.bool false, .slice none 0 0] w3.heap.size, pn 30 #[.bool false, .slice none 0 0] w3.heap.size] (by kernel_rfl) (by kernel_rfl) ?ob2 ?done2
    case ob2 =>
      refine And.intro (ob_load rfl (wt_none rfl) (ev_far rfl rfl) (fun w2 hb => run_loadAll Tryd.underlying25 rfl (by kernel_rfl) (Bx.drew.below hb)) (fun _ _ => rfl)) ?_
      refine And.intro (ob_call1 rfl Tryd.func9 (by kernel_rfl) (wt_none rfl) (ev_dep (j := 0) (by kernel_rfl) rfl rfl) (fun w2 u0 hb h0 => by obtain rfl := h0; exact (rof_any _ _ _ (kx.drew.below hb) (Nat.le_trans lx (by decide))).mono fun e w3 h => RetR.pd h)) ?_
      refine And.intro (ob_load rfl (wt_none rfl) (ev_far rfl rfl) (fun w2 hb => run_loadAll Tryd.underlying25 rfl (by kernel_rfl) (By.drew.below hb)) (fun _ _ => rfl)) ?_
      refine And.intro (ob_call1 rfl Tryd.func9 (by kernel_rfl) (wt_none rfl) (ev_dep (j := 2) (by kernel_rfl) rfl rfl) (fun w2 u0 hb h0 => by obtain rfl := h0; exact (rof_any _ _ _ (ky.drew.below hb) (Nat.le_trans ly (by decide))).mono fun e w3 h => RetR.pd h)) ?_
      refine And.intro (ob_alloc (z := .agg #[.bool false, .slice none 0 0]) rfl rfl (fun _ => by kernel_rfl) (fun _ _ hB h => ⟨_, rfl, hB, h⟩)) ?_
      refine And.intro (ob_alloc (z := .agg #[.bool false, .slice none 0 0]) rfl rfl (fun _ => by kernel_rfl) (fun _ _ hB h => ⟨_, rfl, hB, h⟩)) ?_
      trivial
    case done2 =>
      refine fun w4 hb4 v0 h0 v1 h1 v2 h2 v3 h3 v4 h4 d4 v5 h5 d5 b hbf => ?_
      obtain rfl := h0; obtain rfl := h2
      have q1 := h1
      have q3 := h3
      obtain ⟨g4, rfl, hg4, B4⟩ := h4
      obtain ⟨g5, rfl, hg5, B5⟩ := h5
      simp only [Act.put, List.setIfInBounds_toArray, List.set_cons_zero, List.set_cons_succ] at hbf
      subst hbf
      replace Bx := Bx.below hb4
      replace By := By.below hb4
      replace kxs := kxs.below hb4
      replace kys := kys.below hb4
      replace kx := kx.below hb4
      replace ky := ky.below hb4
      replace bb := bb.trans (hb4.mono bb.size)
      have hsz4 := bb.size
      have BA5 := B4
      have BA6 := B5
      have hne4_5 : g4 ≠ g5 := fun e => d5 (.pointer (some ⟨g4, 0, none⟩)) (by simp) (by rw [e])
      obtain ⟨u1, rfl, q1⟩ := q1
      obtain ⟨A5, c5, rfl, _⟩ := id q1
      obtain ⟨u3, rfl, q3⟩ := q3
      obtain ⟨A6, c6, rfl, _⟩ := id q3
      refine any_store (i := 6) (by kernel_rfl) rfl rfl rfl rfl rfl rfl (cells := [.bool (ngB x), .slice A5 (digs 10000 (x).natAbs).length c5]) rfl BA5 rfl (by kernel_rfl) (one2 rfl rfl) fun w5 hg5 BN5 => ?_
      replace q3 := off q3 BA5 no_ints2 hg5
      replace q1 := off q1 BA5 no_ints2 hg5
      replace kxs := off kxs BA5 no_ints2 hg5
      replace kx : IsZ w5 (.agg #[.bool (ngB x), .slice A2 (digs 4294967296 (x).natAbs).length c2]) (x) := ⟨_, rfl, kxs⟩
      replace Bx := Bx.grown hg5 (by omega)
      replace kys := off kys BA5 no_ints2 hg5
      replace ky : IsZ w5 (.agg #[.bool (ngB y), .slice A3 (digs 4294967296 (y).natAbs).length c3]) (y) := ⟨_, rfl, kys⟩
      replace By := By.grown hg5 (by omega)
      replace BA6 := BA6.grown hg5 (by omega)
      replace bb := bb.trans ((Below.refl _ _).grown hg5 bb.size (fun g hg => by injection hg with hg; omega))
      have hsz5 := bb.size
      have BX : Blk w5 (g4) _ _ := BN5
      have kXs := q1
      have kX : IsR w5 (.agg #[.bool (ngB x), .slice A5 (digs 10000 (x).natAbs).length c5]) (x) := ⟨_, rfl, kXs⟩
      refine any_store (i := 7) (by kernel_rfl) rfl rfl rfl rfl rfl rfl (cells := [.bool (ngB y), .slice A6 (digs 10000 (y).natAbs).length c6]) rfl BA6 rfl (by kernel_rfl) (one2 rfl rfl) fun w6 hg6 BN6 => ?_
      replace q3 := off q3 BA6 no_ints2 hg6
      replace kxs := off kxs BA6 no_ints2 hg6
      replace kx : IsZ w6 (.agg #[.bool (ngB x), .slice A2 (digs 4294967296 (x).natAbs).length c2]) (x) := ⟨_, rfl, kxs⟩
      replace Bx := Bx.grown hg6 (by omega)
      replace kys := off kys BA6 no_ints2 hg6
      replace ky : IsZ w6 (.agg #[.bool (ngB y), .slice A3 (digs 4294967296 (y).natAbs).length c3]) (y) := ⟨_, rfl, kys⟩
      replace By := By.grown hg6 (by omega)
      replace kXs := off kXs BA6 no_ints2 hg6
      replace kX : IsR w6 (.agg #[.bool (ngB x), .slice A5 (digs 10000 (x).natAbs).length c5]) (x) := ⟨_, rfl, kXs⟩
      replace BX := BX.grown hg6 (by omega)
      replace bb := bb.trans ((Below.refl _ _).grown hg6 bb.size (fun g hg => by injection hg with hg; omega))
      have hsz6 := bb.size
      have BY : Blk w6 (g5) _ _ := BN6
      have kYs := q3
      have kY : IsR w6 (.agg #[.bool (ngB y), .slice A6 (digs 10000 (y).natAbs).length c6]) (y) := ⟨_, rfl, kYs⟩
      refine any_done (by kernel_rfl) ?_
      go_upto_region 3 with (fail)
      refine flow 56 [Pd.eq (.agg #[.bool (ngB x), .slice A2 (digs 4294967296 (x).natAbs).length c2]), Pd.eq (.agg #[.bool (ngB y), .slice A3 (digs 4294967296 (y).natAbs).length c3]), pz ((x + y)) w6.heap.size, Pd.eq (.agg #[.bool (ngB x), .slice A5 (digs 10000 (x).natAbs).length c5]), Pd.eq (.agg #[.bool (ngB y), .slice A6 (digs 10000 (y).natAbs).length c6]), pr ((x + y)), pz ((x + y)) w6.heap.size, Pd.eq (.bool true), Pd.eq (.bool true), Pd.eq (.agg #[.bool (ngB x), .slice A2 (digs 4294967296 (x).natAbs).length c2]), Pd.eq (.agg #[.bool (ngB y), .slice A3 (digs 4294967296 (y).natAbs).length c3]), pz ((x - y)) w6.heap.size, Pd.eq (.agg #[.bool (ngB x), .slice A5 (digs 10000 (x).natAbs).length c5]), Pd.eq (.agg #[.bool (ngB y), .slice A6 (digs 10000 (y).natAbs).length c6]), pr ((x - y)), pz ((x - y)) w6.heap.size, Pd.eq (.bool true), Pd.eq (.bool true), Pd.eq (.bool true), Pd.eq (.agg #[.bool (ngB x), .slice A2 (digs 4294967296 (x).natAbs).length c2]), Pd.eq (.agg #[.bool (ngB y), .slice A3 (digs 4294967296 (y).natAbs).length c3]), pz ((x * y)) w6.heap.size, Pd.eq (.agg #[.bool (ngB x), .slice A5 (digs 10000 (x).natAbs).length c5]), Pd.eq (.agg #[.bool (ngB y), .slice A6 (digs 10000 (y).natAbs).length c6]), pr ((x * y)), pz ((x * y)) w6.heap.size, Pd.eq (.bool true), Pd.eq (.bool true), Pd.eq (.bool true), Pd.eq (.agg #[.bool (ngB x), .slice A2 (digs 4294967296 (x).natAbs).length c2]), pz ((-x)) w6.heap.size, Pd.eq (.agg #[.bool (ngB x), .slice A5 (digs 10000 (x).natAbs).length c5]), pr ((-x)), pz ((-x)) w6.heap.size, Pd.eq (.bool true), Pd.eq (.bool true), Pd.eq (.bool true), Pd.eq (.agg #[.bool (ngB x), .slice A2 (digs 4294967296 (x).natAbs).length c2]), Pd.eq (.agg #[.bool (ngB y), .slice A3 (digs 4294967296 (y).natAbs).length c3]), Pd.eq (.int .i64 (ordz (x) (y))), Pd.eq (.agg #[.bool (ngB x), .slice A5 (digs 10000 (x).natAbs).length c5]), Pd.eq (.agg #[.bool (ngB y), .slice A6 (digs 10000 (y).natAbs).length c6]), Pd.eq (.int .i64 (ordz (x) (y))), Pd.eq (.bool true), Pd.eq (.bool true), Pd.eq (.bool true), Pd.eq (.agg #[.bool (ngB x), .slice A2 (digs 4294967296 (x).natAbs).length c2]), Pd.eq (.int .i64 (ordz (x) 0)), Pd.eq (.agg #[.bool (ngB x), .slice A5 (digs 10000 (x).natAbs).length c5]), Pd.eq (.int .i64 (ordz (x) 0)), Pd.eq (.bool true), Pd.eq (.bool true), Pd.eq (.bool true), Pd.eq (.bool true), Pd.eq (.bool true), Pd.eq (.bool true)] (by kernel_rfl) (by kernel_rfl) ?ob3 ?done3
      case ob3 =>
        refine And.intro (ob_load rfl (wt_none rfl) (ev_far rfl rfl) (fun w2 hb => run_loadAll Tryd.underlying25 rfl (by kernel_rfl) (Bx.drew.below hb)) (fun _ _ => rfl)) ?_
        refine And.intro (ob_load rfl (wt_none rfl) (ev_far rfl rfl) (fun w2 hb => run_loadAll Tryd.underlying25 rfl (by kernel_rfl) (By.drew.below hb)) (fun _ _ => rfl)) ?_
        refine And.intro (ob_call2 rfl Tryd.func11 (by kernel_rfl) (wt_none rfl) (ev_dep (j := 0) (by kernel_rfl) rfl rfl) (ev_dep (j := 1) (by kernel_rfl) rfl rfl) (fun w2 u0 u1 hb h0 h1 => by obtain rfl := h0; obtain rfl := h1; exact (zadd_any _ _ _ _ _ (kx.drew.below hb) (ky.drew.below hb) (Nat.le_trans lx (by decide)) (Nat.le_trans ly (by decide))).mono fun e w3 h => RetZ.pd h hb.size)) ?_
        refine And.intro (ob_load rfl (wt_none rfl) (ev_far rfl rfl) (fun w2 hb => run_loadAll Tryd.underlying30 rfl (by kernel_rfl) (BX.drew.below hb)) (fun _ _ => rfl)) ?_
        refine And.intro (ob_load rfl (wt_none rfl) (ev_far rfl rfl) (fun w2 hb => run_loadAll Tryd.underlying30 rfl (by kernel_rfl) (BY.drew.below hb)) (fun _ _ => rfl)) ?_
        refine And.intro (ob_call2 rfl Tryd.func13 (by kernel_rfl) (wt_none rfl) (ev_dep (j := 3) (by kernel_rfl) rfl rfl) (ev_dep (j := 4) (by kernel_rfl) rfl rfl) (fun w2 u0 u1 hb h0 h1 => by obtain rfl := h0; obtain rfl := h1; exact (radd_any _ _ _ _ _ (kX.drew.below hb) (kY.drew.below hb) (Nat.le_trans lx (by decide)) (Nat.le_trans ly (by decide))).mono fun e w3 h => RetR.pd h)) ?_
        refine And.intro (ob_call1 rfl Tryd.func12 (by kernel_rfl) (wt_none rfl) (ev_dep (j := 5) (by kernel_rfl) rfl rfl) (fun w2 u0 hb h0 => by exact (rback_any _ _ _ h0 (Nat.le_trans (lenZ_add_le lx ly) (by decide))).mono fun e w3 h => RetZ.pd h hb.size)) ?_
        refine And.intro (ob_call2 rfl Tryd.func10 (by kernel_rfl) (wt_none rfl) (ev_dep (j := 2) (by kernel_rfl) rfl rfl) (ev_dep (j := 6) (by kernel_rfl) rfl rfl) (fun w2 u0 u1 hb h0 h1 => by exact (zsame_eq _ _ ((x + y)) ((x + y)) _ h0.1 h1.1 rfl).mono fun e w3 h => RetV.pd h)) ?_
        refine And.intro (ob_move rfl (wt_none rfl) (ev_dep (j := 7) (by kernel_rfl) rfl rfl) (fun _ _ h => h)) ?_
        refine And.intro (ob_load rfl (wt_dep (c := true) (b := true) (g := 8) rfl (by kernel_rfl) rfl rfl rfl (by exact fun _ _ h => h)) (ev_far rfl rfl) (fun w2 hb => run_loadAll Tryd.underlying25 rfl (by kernel_rfl) (Bx.drew.below hb)) (fun _ _ => rfl)) ?_
        refine And.intro (ob_load rfl (wt_dep (c := true) (b := true) (g := 8) rfl (by kernel_rfl) rfl rfl rfl (by exact fun _ _ h => h)) (ev_far rfl rfl) (fun w2 hb => run_loadAll Tryd.underlying25 rfl (by kernel_rfl) (By.drew.below hb)) (fun _ _ => rfl)) ?_
        refine And.intro (ob_call2 rfl Tryd.func14 (by kernel_rfl) (wt_dep (c := true) (b := true) (g := 8) rfl (by kernel_rfl) rfl rfl rfl (by exact fun _ _ h => h)) (ev_dep (j := 9) (by kernel_rfl) rfl rfl) (ev_dep (j := 10) (by kernel_rfl) rfl rfl) (fun w2 u0 u1 hb h0 h1 => by obtain rfl := h0; obtain rfl := h1; exact (zsub_any _ _ _ _ _ (kx.drew.below hb) (ky.drew.below hb) (Nat.le_trans lx (by decide)) (Nat.le_trans ly (by decide))).mono fun e w3 h => RetZ.pd h hb.size)) ?_
        refine And.intro (ob_load rfl (wt_dep (c := true) (b := true) (g := 8) rfl (by kernel_rfl) rfl rfl rfl (by exact fun _ _ h => h)) (ev_far rfl rfl) (fun w2 hb => run_loadAll Tryd.underlying30 rfl (by kernel_rfl) (BX.drew.below hb)) (fun _ _ => rfl)) ?_
        refine And.intro (ob_load rfl (wt_dep (c := true) (b := true) (g := 8) rfl (by kernel_rfl) rfl rfl rfl (by exact fun _ _ h => h)) (ev_far rfl rfl) (fun w2 hb => run_loadAll Tryd.underlying30 rfl (by kernel_rfl) (BY.drew.below hb)) (fun _ _ => rfl)) ?_
        refine And.intro (ob_call2 rfl Tryd.func15 (by kernel_rfl) (wt_dep (c := true) (b := true) (g := 8) rfl (by kernel_rfl) rfl rfl rfl (by exact fun _ _ h => h)) (ev_dep (j := 12) (by kernel_rfl) rfl rfl) (ev_dep (j := 13) (by kernel_rfl) rfl rfl) (fun w2 u0 u1 hb h0 h1 => by obtain rfl := h0; obtain rfl := h1; exact (rsub_any _ _ _ _ _ (kX.drew.below hb) (kY.drew.below hb) (Nat.le_trans lx (by decide)) (Nat.le_trans ly (by decide))).mono fun e w3 h => RetR.pd h)) ?_
        refine And.intro (ob_call1 rfl Tryd.func12 (by kernel_rfl) (wt_dep (c := true) (b := true) (g := 8) rfl (by kernel_rfl) rfl rfl rfl (by exact fun _ _ h => h)) (ev_dep (j := 14) (by kernel_rfl) rfl rfl) (fun w2 u0 hb h0 => by exact (rback_any _ _ _ h0 (Nat.le_trans (lenZ_sub_le lx ly) (by decide))).mono fun e w3 h => RetZ.pd h hb.size)) ?_
        refine And.intro (ob_call2 rfl Tryd.func10 (by kernel_rfl) (wt_dep (c := true) (b := true) (g := 8) rfl (by kernel_rfl) rfl rfl rfl (by exact fun _ _ h => h)) (ev_dep (j := 11) (by kernel_rfl) rfl rfl) (ev_dep (j := 15) (by kernel_rfl) rfl rfl) (fun w2 u0 u1 hb h0 h1 => by exact (zsame_eq _ _ ((x - y)) ((x - y)) _ h0.1 h1.1 rfl).mono fun e w3 h => RetV.pd h)) ?_
        refine And.intro (ob_pick (b := true) rfl (wt_none rfl) (ev_dep (j := 8) (by kernel_rfl) rfl rfl) (ev_dep (j := 16) (by kernel_rfl) rfl rfl) (fun _ _ h => h)) ?_
        refine And.intro (ob_move rfl (wt_none rfl) (ev_dep (j := 17) (by kernel_rfl) rfl rfl) (fun _ _ h => h)) ?_
        refine And.intro (ob_load rfl (wt_dep (c := true) (b := true) (g := 18) rfl (by kernel_rfl) rfl rfl rfl (by exact fun _ _ h => h)) (ev_far rfl rfl) (fun w2 hb => run_loadAll Tryd.underlying25 rfl (by kernel_rfl) (Bx.drew.below hb)) (fun _ _ => rfl)) ?_
        refine And.intro (ob_load rfl (wt_dep (c := true) (b := true) (g := 18) rfl (by kernel_rfl) rfl rfl rfl (by exact fun _ _ h => h)) (ev_far rfl rfl) (fun w2 hb => run_loadAll Tryd.underlying25 rfl (by kernel_rfl) (By.drew.below hb)) (fun _ _ => rfl)) ?_
        refine And.intro (ob_call2 rfl Tryd.func16 (by kernel_rfl) (wt_dep (c := true) (b := true) (g := 18) rfl (by kernel_rfl) rfl rfl rfl (by exact fun _ _ h => h)) (ev_dep (j := 19) (by kernel_rfl) rfl rfl) (ev_dep (j := 20) (by kernel_rfl) rfl rfl) (fun w2 u0 u1 hb h0 h1 => by obtain rfl := h0; obtain rfl := h1; exact (zmul_any _ _ _ _ _ _ (kx.drew.below hb) (ky.drew.below hb) (Nat.le_trans lx (by decide)) (Nat.le_trans ly (by decide)) rfl).mono fun e w3 h => RetZ.pd h hb.size)) ?_
        refine And.intro (ob_load rfl (wt_dep (c := true) (b := true) (g := 18) rfl (by kernel_rfl) rfl rfl rfl (by exact fun _ _ h => h)) (ev_far rfl rfl) (fun w2 hb => run_loadAll Tryd.underlying30 rfl (by kernel_rfl) (BX.drew.below hb)) (fun _ _ => rfl)) ?_
        refine And.intro (ob_load rfl (wt_dep (c := true) (b := true) (g := 18) rfl (by kernel_rfl) rfl rfl rfl (by exact fun _ _ h => h)) (ev_far rfl rfl) (fun w2 hb => run_loadAll Tryd.underlying30 rfl (by kernel_rfl) (BY.drew.below hb)) (fun _ _ => rfl)) ?_
        refine And.intro (ob_call2 rfl Tryd.func17 (by kernel_rfl) (wt_dep (c := true) (b := true) (g := 18) rfl (by kernel_rfl) rfl rfl rfl (by exact fun _ _ h => h)) (ev_dep (j := 22) (by kernel_rfl) rfl rfl) (ev_dep (j := 23) (by kernel_rfl) rfl rfl) (fun w2 u0 u1 hb h0 h1 => by obtain rfl := h0; obtain rfl := h1; exact (rmul_any _ _ _ _ _ (kX.drew.below hb) (kY.drew.below hb) (Nat.le_trans lx (by decide)) (Nat.le_trans ly (by decide))).mono fun e w3 h => RetR.pd h)) ?_
        refine And.intro (ob_call1 rfl Tryd.func12 (by kernel_rfl) (wt_dep (c := true) (b := true) (g := 18) rfl (by kernel_rfl) rfl rfl rfl (by exact fun _ _ h => h)) (ev_dep (j := 24) (by kernel_rfl) rfl rfl) (fun w2 u0 hb h0 => by exact (rback_any _ _ _ h0 (Nat.le_trans (lenZ_mul_le lx ly) (by decide))).mono fun e w3 h => RetZ.pd h hb.size)) ?_
        refine And.intro (ob_call2 rfl Tryd.func10 (by kernel_rfl) (wt_dep (c := true) (b := true) (g := 18) rfl (by kernel_rfl) rfl rfl rfl (by exact fun _ _ h => h)) (ev_dep (j := 21) (by kernel_rfl) rfl rfl) (ev_dep (j := 25) (by kernel_rfl) rfl rfl) (fun w2 u0 u1 hb h0 h1 => by exact (zsame_eq _ _ ((x * y)) ((x * y)) _ h0.1 h1.1 rfl).mono fun e w3 h => RetV.pd h)) ?_
        refine And.intro (ob_pick (b := true) rfl (wt_none rfl) (ev_dep (j := 18) (by kernel_rfl) rfl rfl) (ev_dep (j := 26) (by kernel_rfl) rfl rfl) (fun _ _ h => h)) ?_
        refine And.intro (ob_move rfl (wt_none rfl) (ev_dep (j := 27) (by kernel_rfl) rfl rfl) (fun _ _ h => h)) ?_
        refine And.intro (ob_load rfl (wt_dep (c := true) (b := true) (g := 28) rfl (by kernel_rfl) rfl rfl rfl (by exact fun _ _ h => h)) (ev_far rfl rfl) (fun w2 hb => run_loadAll Tryd.underlying25 rfl (by kernel_rfl) (Bx.drew.below hb)) (fun _ _ => rfl)) ?_
        refine And.intro (ob_call1 rfl Tryd.func18 (by kernel_rfl) (wt_dep (c := true) (b := true) (g := 28) rfl (by kernel_rfl) rfl rfl rfl (by exact fun _ _ h => h)) (ev_dep (j := 29) (by kernel_rfl) rfl rfl) (fun w2 u0 hb h0 => by obtain rfl := h0; exact (zneg_any _ _ _ (kx.drew.below hb) (Nat.le_trans lx (by decide))).mono fun e w3 h => RetZ.pd h hb.size)) ?_
        refine And.intro (ob_load rfl (wt_dep (c := true) (b := true) (g := 28) rfl (by kernel_rfl) rfl rfl rfl (by exact fun _ _ h => h)) (ev_far rfl rfl) (fun w2 hb => run_loadAll Tryd.underlying30 rfl (by kernel_rfl) (BX.drew.below hb)) (fun _ _ => rfl)) ?_
        refine And.intro (ob_call1 rfl Tryd.func19 (by kernel_rfl) (wt_dep (c := true) (b := true) (g := 28) rfl (by kernel_rfl) rfl rfl rfl (by exact fun _ _ h => h)) (ev_dep (j := 31) (by kernel_rfl) rfl rfl) (fun w2 u0 hb h0 => by obtain rfl := h0; exact (rneg_any _ _ _ (kX.drew.below hb) ).mono fun e w3 h => RetR.pd h)) ?_
        refine And.intro (ob_call1 rfl Tryd.func12 (by kernel_rfl) (wt_dep (c := true) (b := true) (g := 28) rfl (by kernel_rfl) rfl rfl rfl (by exact fun _ _ h => h)) (ev_dep (j := 32) (by kernel_rfl) rfl rfl) (fun w2 u0 hb h0 => by exact (rback_any _ _ _ h0 (Nat.le_trans (lenZ_neg_le lx) (by decide))).mono fun e w3 h => RetZ.pd h hb.size)) ?_
        refine And.intro (ob_call2 rfl Tryd.func10 (by kernel_rfl) (wt_dep (c := true) (b := true) (g := 28) rfl (by kernel_rfl) rfl rfl rfl (by exact fun _ _ h => h)) (ev_dep (j := 30) (by kernel_rfl) rfl rfl) (ev_dep (j := 33) (by kernel_rfl) rfl rfl) (fun w2 u0 u1 hb h0 h1 => by exact (zsame_eq _ _ ((-x)) ((-x)) _ h0.1 h1.1 rfl).mono fun e w3 h => RetV.pd h)) ?_
        refine And.intro (ob_pick (b := true) rfl (wt_none rfl) (ev_dep (j := 28) (by kernel_rfl) rfl rfl) (ev_dep (j := 34) (by kernel_rfl) rfl rfl) (fun _ _ h => h)) ?_
        refine And.intro (ob_move rfl (wt_none rfl) (ev_dep (j := 35) (by kernel_rfl) rfl rfl) (fun _ _ h => h)) ?_
        refine And.intro (ob_load rfl (wt_dep (c := true) (b := true) (g := 36) rfl (by kernel_rfl) rfl rfl rfl (by exact fun _ _ h => h)) (ev_far rfl rfl) (fun w2 hb => run_loadAll Tryd.underlying25 rfl (by kernel_rfl) (Bx.drew.below hb)) (fun _ _ => rfl)) ?_
        refine And.intro (ob_load rfl (wt_dep (c := true) (b := true) (g := 36) rfl (by kernel_rfl) rfl rfl rfl (by exact fun _ _ h => h)) (ev_far rfl rfl) (fun w2 hb => run_loadAll Tryd.underlying25 rfl (by kernel_rfl) (By.drew.below hb)) (fun _ _ => rfl)) ?_
        refine And.intro (ob_call2 rfl Tryd.func20 (by kernel_rfl) (wt_dep (c := true) (b := true) (g := 36) rfl (by kernel_rfl) rfl rfl rfl (by exact fun _ _ h => h)) (ev_dep (j := 37) (by kernel_rfl) rfl rfl) (ev_dep (j := 38) (by kernel_rfl) rfl rfl) (fun w2 u0 u1 hb h0 h1 => by obtain rfl := h0; obtain rfl := h1; exact (zcmp_any _ _ _ _ _ _ (kx.drew.below hb) (ky.drew.below hb) rfl).mono fun e w3 h => RetV.pd h)) ?_
        refine And.intro (ob_load rfl (wt_dep (c := true) (b := true) (g := 36) rfl (by kernel_rfl) rfl rfl rfl (by exact fun _ _ h => h)) (ev_far rfl rfl) (fun w2 hb => run_loadAll Tryd.underlying30 rfl (by kernel_rfl) (BX.drew.below hb)) (fun _ _ => rfl)) ?_
        refine And.intro (ob_load rfl (wt_dep (c := true) (b := true) (g := 36) rfl (by kernel_rfl) rfl rfl rfl (by exact fun _ _ h => h)) (ev_far rfl rfl) (fun w2 hb => run_loadAll Tryd.underlying30 rfl (by kernel_rfl) (BY.drew.below hb)) (fun _ _ => rfl)) ?_
        refine And.intro (ob_call2 rfl Tryd.func21 (by kernel_rfl) (wt_dep (c := true) (b := true) (g := 36) rfl (by kernel_rfl) rfl rfl rfl (by exact fun _ _ h => h)) (ev_dep (j := 40) (by kernel_rfl) rfl rfl) (ev_dep (j := 41) (by kernel_rfl) rfl rfl) (fun w2 u0 u1 hb h0 h1 => by obtain rfl := h0; obtain rfl := h1; exact (rcmp_any _ _ _ _ _ _ (kX.drew.below hb) (kY.drew.below hb) rfl (Nat.le_trans lx (by decide)) (Nat.le_trans ly (by decide))).mono fun e w3 h => RetV.pd h)) ?_
        refine And.intro (ob_bin rfl (wt_dep (c := true) (b := true) (g := 36) rfl (by kernel_rfl) rfl rfl rfl (by exact fun _ _ h => h)) (ev_dep (j := 39) (by kernel_rfl) rfl rfl) (ev_dep (j := 42) (by kernel_rfl) rfl rfl) (fun _ _ _ hx hy => ⟨.bool ((ordz (x) (y)) == (ordz (x) (y))), by rw [hx, hy]; exact bin_eql_int _ _ _ _ _, congrArg Value.bool (beq_self_eq_true _)⟩)) ?_
        refine And.intro (ob_pick (b := true) rfl (wt_none rfl) (ev_dep (j := 36) (by kernel_rfl) rfl rfl) (ev_dep (j := 43) (by kernel_rfl) rfl rfl) (fun _ _ h => h)) ?_
        refine And.intro (ob_move rfl (wt_none rfl) (ev_dep (j := 44) (by kernel_rfl) rfl rfl) (fun _ _ h => h)) ?_
        refine And.intro (ob_load rfl (wt_dep (c := true) (b := true) (g := 45) rfl (by kernel_rfl) rfl rfl rfl (by exact fun _ _ h => h)) (ev_far rfl rfl) (fun w2 hb => run_loadAll Tryd.underlying25 rfl (by kernel_rfl) (Bx.drew.below hb)) (fun _ _ => rfl)) ?_
        refine And.intro (ob_call1 rfl Tryd.func22 (by kernel_rfl) (wt_dep (c := true) (b := true) (g := 45) rfl (by kernel_rfl) rfl rfl rfl (by exact fun _ _ h => h)) (ev_dep (j := 46) (by kernel_rfl) rfl rfl) (fun w2 u0 hb h0 => by obtain rfl := h0; exact (sign_any _ _ _ _ (kx.drew.below hb) rfl).mono fun e w3 h => RetV.pd h)) ?_
        refine And.intro (ob_load rfl (wt_dep (c := true) (b := true) (g := 45) rfl (by kernel_rfl) rfl rfl rfl (by exact fun _ _ h => h)) (ev_far rfl rfl) (fun w2 hb => run_loadAll Tryd.underlying30 rfl (by kernel_rfl) (BX.drew.below hb)) (fun _ _ => rfl)) ?_
        refine And.intro (ob_call1 rfl Tryd.func23 (by kernel_rfl) (wt_dep (c := true) (b := true) (g := 45) rfl (by kernel_rfl) rfl rfl rfl (by exact fun _ _ h => h)) (ev_dep (j := 48) (by kernel_rfl) rfl rfl) (fun w2 u0 hb h0 => by obtain rfl := h0; exact (rsign_any _ _ _ _ (kX.drew.below hb) rfl).mono fun e w3 h => RetV.pd h)) ?_
        refine And.intro (ob_bin rfl (wt_dep (c := true) (b := true) (g := 45) rfl (by kernel_rfl) rfl rfl rfl (by exact fun _ _ h => h)) (ev_dep (j := 47) (by kernel_rfl) rfl rfl) (ev_dep (j := 49) (by kernel_rfl) rfl rfl) (fun _ _ _ hx hy => ⟨.bool ((ordz (x) 0) == (ordz (x) 0)), by rw [hx, hy]; exact bin_eql_int _ _ _ _ _, congrArg Value.bool (beq_self_eq_true _)⟩)) ?_
        refine And.intro (ob_pick (b := true) rfl (wt_none rfl) (ev_dep (j := 45) (by kernel_rfl) rfl rfl) (ev_dep (j := 50) (by kernel_rfl) rfl rfl) (fun _ _ h => h)) ?_
        refine And.intro (ob_move rfl (wt_none rfl) (ev_dep (j := 51) (by kernel_rfl) rfl rfl) (fun _ _ h => h)) ?_
        refine And.intro (ob_call0 rfl Tryd.func24 (by kernel_rfl) (wt_dep (c := true) (b := true) (g := 52) rfl (by kernel_rfl) rfl rfl rfl (by exact fun _ _ h => h)) (fun w2 hb => (works7_any _).mono fun e w3 h => RetV.pd h)) ?_
        refine And.intro (ob_pick (b := true) rfl (wt_none rfl) (ev_dep (j := 52) (by kernel_rfl) rfl rfl) (ev_dep (j := 53) (by kernel_rfl) rfl rfl) (fun _ _ h => h)) ?_
        refine And.intro (ob_assign rfl (wt_none rfl) (ev_dep (j := 54) (by kernel_rfl) rfl rfl) (fun _ _ h => h)) ?_
        trivial
      case done3 =>
        refine fun w7 hb7 v0 h0 v1 h1 v2 h2 v3 h3 v4 h4 v5 h5 v6 h6 v7 h7 v8 h8 v9 h9 v10 h10 v11 h11 v12 h12 v13 h13 v14 h14 v15 h15 v16 h16 v17 h17 v18 h18 v19 h19 v20 h20 v21 h21 v22 h22 v23 h23 v24 h24 v25 h25 v26 h26 v27 h27 v28 h28 v29 h29 v30 h30 v31 h31 v32 h32 v33 h33 v34 h34 v35 h35 v36 h36 v37 h37 v38 h38 v39 h39 v40 h40 v41 h41 v42 h42 v43 h43 v44 h44 v45 h45 v46 h46 v47 h47 v48 h48 v49 h49 v50 h50 v51 h51 v52 h52 v53 h53 v54 h54 v55 h55 b hbf => ?_
        obtain rfl := h0; obtain rfl := h1; obtain rfl := h3; obtain rfl := h4; obtain rfl := h7; obtain rfl := h8; obtain rfl := h9; obtain rfl := h10; obtain rfl := h12; obtain rfl := h13; obtain rfl := h16; obtain rfl := h17; obtain rfl := h18; obtain rfl := h19; obtain rfl := h20; obtain rfl := h22; obtain rfl := h23; obtain rfl := h26; obtain rfl := h27; obtain rfl := h28; obtain rfl := h29; obtain rfl := h31; obtain rfl := h34; obtain rfl := h35; obtain rfl := h36; obtain rfl := h37; obtain rfl := h38; obtain rfl := h39; obtain rfl := h40; obtain rfl := h41; obtain rfl := h42; obtain rfl := h43; obtain rfl := h44; obtain rfl := h45; obtain rfl := h46; obtain rfl := h47; obtain rfl := h48; obtain rfl := h49; obtain rfl := h50; obtain rfl := h51; obtain rfl := h52; obtain rfl := h53; obtain rfl := h54; obtain rfl := h55
        obtain ⟨q2, f2⟩ := h2
        have q5 := h5
        obtain ⟨q6, f6⟩ := h6
        obtain ⟨q11, f11⟩ := h11
        have q14 := h14
        obtain ⟨q15, f15⟩ := h15
        obtain ⟨q21, f21⟩ := h21
        have q24 := h24
        obtain ⟨q25, f25⟩ := h25
        obtain ⟨q30, f30⟩ := h30
        have q32 := h32
        obtain ⟨q33, f33⟩ := h33
        simp only [Act.put, List.setIfInBounds_toArray, List.set_cons_zero, List.set_cons_succ] at hbf
        subst hbf
        replace Bx := Bx.below hb7
        replace By := By.below hb7
        replace BX := BX.below hb7
        replace BY := BY.below hb7
        replace kxs := kxs.below hb7
        replace kys := kys.below hb7
        replace kXs := kXs.below hb7
        replace kYs := kYs.below hb7
        replace kx := kx.below hb7
        replace ky := ky.below hb7
        replace kX := kX.below hb7
        replace kY := kY.below hb7
        replace bb := bb.trans (hb7.mono bb.size)
        have hsz7 := bb.size
        refine any_done (by kernel_rfl) ?_
        go_wp2
        go_ret
        exact ⟨rfl, bb⟩

set_option maxRecDepth 100000 in
theorem lifted (os : Os) (started : os.Started) (H : Type) (enc : TypeId × Value → H) :
    ReturnsInHanded {} Tryd.checked os 3 .any (fun w args => (Rows.wholeAddsSpec.pre enc Tryd.prog Tryd.f3 Rows.wholeAddsRow.domain false w args ∧ laidMetH Tryd.prog Rows.wholeAddsRow.laid w) ∧ sizedMet enc Tryd.prog Tryd.f3 (OpenSpec.ofChange Rows.wholeAddsSpec) false w args)
      (Rows.wholeAddsSpec.post enc Tryd.prog Tryd.f3 false true false false) := by
  refine returnsInHanded_of_change_and (C := Tryd.checked) (X := fun w _ => laidMetH Tryd.prog Rows.wholeAddsRow.laid w) (fun _ _ _ hh h => h.of_heap hh) own started (by kernel_rfl) Tryd.func3
    (ChangeSpec.witness_shaped (enc := enc) (C := Tryd.checked) (os := os) (X := fun w _ => laidMetH Tryd.prog Rows.wholeAddsRow.laid w) false (World.laidAll Tryd.prog os Rows.wholeAddsRow.laid) #[.agg #[.bool false, .slice none 0 0], .agg #[.bool false, .slice none 0 0]] 8 (World.laidAll_os _ _ _)
      (World.shaped_of_ZipB (by kernel_rfl) (by kernel_rfl)) (by kernel_rfl) (by kernel_rfl) (by kernel_rfl)
      (by rw [MakeChecks.laidMetH_plain _ _ _ (by kernel_rfl)]; exact laidMet_laidAll _ (by kernel_rfl) (by kernel_rfl))) ?_
  intro W base args ds gs before hval0 hW hcnd _ hL _
  have hval : ∀ (j : Nat) t v, Tryd.f3.params[j]? = some t → args[j]? = some v → Value.okWide Tryd.prog W .any base t v := hval0
  have hW' := hW
  obtain ⟨p, q, hA0, hV, rfl, hfz, hnd⟩ := hW
  have hA : DataW.TrodAll enc Tryd.prog W 0 (fun _ => true) true Tryd.f3.params.toList args.toList ds p := hA0
  rw [Tryd.params3] at hA hval
  obtain ⟨v0, vs0, d0, ds0, p0, q0, hargs, rfl, rfl, t0, r0⟩ := trodAll_cons hA
  obtain ⟨v1, vs1, d1, ds1, p1, q1, rfl, rfl, rfl, t1, r1⟩ := trodAll_cons r0
  obtain ⟨rfl, rfl, rfl⟩ := trodAll_nil r1
  obtain rfl : args = #[v0, v1] := by cases args; simp_all
  obtain ⟨rfl, rfl⟩ := trodVars_none hV
  obtain ⟨b0, x0, l0, rfl, hs0, hu0⟩ := arg_z Tryd.underlying25 (by kernel_rfl) (by kernel_rfl) Tryd.underlying4 Tryd.underlying23 Tryd.underlying74 cells_u (hval 0 25 v0 rfl rfl) t0
  obtain ⟨b1, x1, l1, rfl, hs1, hu1⟩ := arg_z Tryd.underlying25 (by kernel_rfl) (by kernel_rfl) Tryd.underlying4 Tryd.underlying23 Tryd.underlying74 cells_u (hval 1 25 v1 rfl rfl) t1
  clear hA0 hval0
  simp only [List.append_nil] at hW'
  have hlt0 : ∀ x ∈ p0, x.block < W.heap.size := fun x hx => hW'.lt x (List.mem_append_left _ hx)
  have hlt1 : ∀ x ∈ p1, x.block < W.heap.size := fun x hx => hW'.lt x (List.mem_append_right _ (hx))
  refine (walk b0 x0 l0 b1 x1 l1 W hs0 hu0 hs1 hu1).mono fun e W' ⟨he, hb⟩ => ?_
  subst he
  have s0 := Below.trod laidOut (by kernel_rfl) (of_decide_eq_true (by kernel_rfl)) t0 hb hlt0
  have s1 := Below.trod laidOut (by kernel_rfl) (of_decide_eq_true (by kernel_rfl)) t1 hb hlt1
  exact ⟨_, rfl, _, _, _, [] ++ [], _, [], hW', trodAll_cons_mk (shut_bool Tryd.underlying4 _) trodAll_mk0, trodAll_cons_mk s0 (trodAll_cons_mk s1 (trodAll_mk0)), rfl, hb.frame _, fun h => by cases h⟩

theorem over : Rows.wholeAddsRow.holds Tryd.pinned (OpenSpec.ofChange Rows.wholeAddsSpec) :=
  OpenClaim.holds_of_wide 3 Tryd.f3 rfl rfl rfl rfl rfl rfl rfl ⟨rfl, rfl, rfl, rfl, rfl⟩ rfl rfl rfl rfl rfl (by kernel_rfl) Tryd.func3 (by kernel_rfl)
    (of_decide_eq_true (by kernel_rfl)) (by unfold Func.isWrapper; first | (rw [if_pos (by decide +kernel)]; kernel_rfl) | (rw [if_neg (by decide +kernel)]; exact ⟨rfl, rfl⟩))
    (fun os started H enc _ => lifted os started H enc)

/-- The statement: the card. -/
theorem proved : Rows.WholeAddsCardSaid :=
  Claim7.holds_tied_plain_at .later [] [.data, .pinned] true _ false over (fun _ h => by cases h) (by kernel_rfl) (fun _ h => by cases h) wholeAdds_row_tie rfl ⟨rfl, rfl⟩ (by kernel_rfl) rfl
    (fun f fn hf hfn => by
      obtain rfl : f = 3 := Option.some.inj ((show Tryd.prog.funcNamed Rows.wholeAddsRow.func = some 3 by kernel_rfl).symm.trans hf) |>.symm
      obtain rfl : fn = Tryd.f3 := (Option.some.inj (Tryd.func3.symm.trans hfn)).symm
      exact ⟨by kernel_rfl, fun j t ht => by
        rw [Tryd.params3] at ht
        have hm : t ∈ [25, 25] := by simpa using Array.mem_of_getElem? ht
        have hall : ([25, 25].all fun u => !Tryd.prog.wantsStandIn u) = true := by kernel_rfl
        exact (show Tryd.prog.wantsStandIn t = false by simpa using List.all_eq_true.1 hall t hm)⟩)
    (by kernel_rfl)
end Go.Proofs.YtcmjbkgcknimlaaDoor.wholeAdds
