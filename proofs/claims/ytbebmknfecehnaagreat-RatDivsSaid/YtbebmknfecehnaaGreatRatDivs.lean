/- RatDivs: any fraction is divided by any other one, and turned over, as the document says, or refused. Condition: the arguments can be read as data. -/
import Derived.Test.YtbebmknfecehnaaGreatRatW
import Derived.Test.YtbebmknfecehnaaGreatRatE
import Derived.Deep.Cut
import Derived.OpenShut
import Derived.LaidMore
import Derived.Lay
import Derived.Stop.Joined
namespace Go.Proofs.YtbebmknfecehnaaGreat.ratDivs
open Go.ChangeShapes Go.WideShapes Go.ChangeAt Go.RowKit Go.Proofs.YtbebmknfecehnaaGreat.num Go.Proofs.YtbebmknfecehnaaGreat.mem Go.Proofs.YtbebmknfecehnaaGreat.nat Go.Proofs.YtbebmknfecehnaaGreat.txt Go.Proofs.YtbebmknfecehnaaGreat.str Go.Proofs.YtbebmknfecehnaaGreat.flow Go.Proofs.YtbebmknfecehnaaGreat.whl Go.Proofs.YtbebmknfecehnaaGreat.rat
set_option linter.unusedVariables false

theorem own : ownKnob Tryz.prog.godebug = none := by kernel_rfl
theorem laidOut : laidOutB Tryz.prog = true := by kernel_rfl
theorem cells_u : Tryz.prog.cellsOf 55 = 1 := by kernel_rfl


set_option maxHeartbeats 6400000 in
set_option maxRecDepth 100000 in
/-- The walk: the Go text returns true; what was there is as it was. -/
theorem walk (b0 : Bool) (v0 r0 : Value) (l0 m0 : List Nat) (b1 : Bool) (v1 r1 : Value) (l1 m1 : List Nat) (w : World) (h0 : IsS w .u64 v0 l0) (u0 : Lt 18446744073709551616 l0) (j0 : IsS w .u64 r0 m0) (x0 : Lt 18446744073709551616 m0) (h1 : IsS w .u64 v1 l1) (u1 : Lt 18446744073709551616 l1) (j1 : IsS w .u64 r1 m1) (x1 : Lt 18446744073709551616 m1) :
    Calls Tryz.prog 4 #[.agg #[.bool b0, v0, r0], .agg #[.bool b1, v1, r1]] w (RetV (.bool true) w) := by
  obtain ⟨x, hx0⟩ : ∃ x, x = cleanQ b0 l0 m0 4 := ⟨_, rfl⟩
  have lx : lenQ x 4 := by rw [hx0]; exact cleanQ_len _ _ _ (by omega)
  have HX0 := Lib.hid hx0.symm
  clear hx0
  obtain ⟨y, hx1⟩ : ∃ y, y = cleanQ b1 l1 m1 4 := ⟨_, rfl⟩
  have ly : lenQ y 4 := by rw [hx1]; exact cleanQ_len _ _ _ (by omega)
  have HX1 := Lib.hid hx1.symm
  clear hx1
  obtain ⟨A0, c0, rfl, _⟩ := id h0
  obtain ⟨D0, e0, rfl, _⟩ := id j0
  obtain ⟨A1, c1, rfl, _⟩ := id h1
  obtain ⟨D1, e1, rfl, _⟩ := id j1
  go_enter Tryz.func4, Tryz.ntmps4
  go_upto_region 1 with (fail)
  obtain ⟨w0, hwx, bb, BP0, BP1, hsz⟩ := vars2 w 27 27 #[.bool b0, .slice A0 l0.length c0, .slice D0 m0.length e0] #[.bool b1, .slice A1 l1.length c1, .slice D1 m1.length e1]
  rw [hwx]
  clear hwx
  have p0s := h0.below bb
  have p0d := j0.below bb
  have p1s := h1.below bb
  have p1d := j1.below bb
  have hsz0 := bb.size
  refine flow 4 [Pd.eq (.agg #[.bool b0, .slice A0 l0.length c0, .slice D0 m0.length e0]), pqn x, Pd.eq (.agg #[.bool b1, .slice A1 l1.length c1, .slice D1 m1.length e1]), pqn y] (by kernel_rfl) (by kernel_rfl) ?ob4 ?done4
  case ob4 =>
    refine And.intro (ob_load rfl (wt_none rfl) (ev_far rfl rfl) (fun w2 hb => run_loadAll Tryz.underlying27 rfl (by kernel_rfl) (BP0.drew.below hb)) (fun _ _ => rfl)) ?_
    refine And.intro (ob_call2 rfl Tryz.func6 (by kernel_rfl) (wt_none rfl) (ev_dep (j := 0) (by kernel_rfl) rfl rfl) (ev_const _) (fun w2 u0 u1 hb h0 h1 => by obtain rfl := h0; obtain rfl := h1; exact (HX0.out ▸ qclean_any _ _ _ _ _ _ 4 _ rfl (p0s.drew.below hb) u0 (p0d.drew.below hb) x0 (by omega) (by omega)).mono fun e w3 h => RetQn.pd (RetQ.n h))) ?_
    refine And.intro (ob_load rfl (wt_none rfl) (ev_far rfl rfl) (fun w2 hb => run_loadAll Tryz.underlying27 rfl (by kernel_rfl) (BP1.drew.below hb)) (fun _ _ => rfl)) ?_
    refine And.intro (ob_call2 rfl Tryz.func6 (by kernel_rfl) (wt_none rfl) (ev_dep (j := 2) (by kernel_rfl) rfl rfl) (ev_const _) (fun w2 u0 u1 hb h0 h1 => by obtain rfl := h0; obtain rfl := h1; exact (HX1.out ▸ qclean_any _ _ _ _ _ _ 4 _ rfl (p1s.drew.below hb) u1 (p1d.drew.below hb) x1 (by omega) (by omega)).mono fun e w3 h => RetQn.pd (RetQ.n h))) ?_
    trivial
  case done4 =>
    refine fun w1 hb1 v0 h0 v1 h1 v2 h2 v3 h3 b hbf => ?_
    obtain rfl := h0; obtain rfl := h2
    have q1 := h1
    have q3 := h3
    simp only [Act.put, List.setIfInBounds_toArray, List.set_cons_zero, List.set_cons_succ] at hbf
    subst hbf
    replace BP0 := BP0.below hb1
    replace p0s := p0s.below hb1
    replace p0d := p0d.below hb1
    replace BP1 := BP1.below hb1
    replace p1s := p1s.below hb1
    replace p1d := p1d.below hb1
    replace bb := bb.trans (hb1.mono bb.size)
    have hsz1 := bb.size
    obtain ⟨u1, t1, rfl, q1, d1⟩ := q1
    obtain ⟨Ax, cx, rfl, _⟩ := id q1
    obtain ⟨Dx, ex, rfl, _⟩ := id d1
    obtain ⟨u3, t3, rfl, q3, d3⟩ := q3
    obtain ⟨Ay, cy, rfl, _⟩ := id q3
    obtain ⟨Dy, ey, rfl, _⟩ := id d3
    refine any_store (i := 4) (by kernel_rfl) rfl rfl rfl rfl rfl rfl (cells := [.bool (ngB (x).num), .slice Ax (digs 4294967296 (x).num.natAbs).length cx, .slice Dx (digs 4294967296 (x).den).length ex]) rfl BP0 rfl (by kernel_rfl) (one3 rfl rfl rfl) fun w2 hg2 BN2 => ?_
    replace q3 := off q3 BP0 no_ints3 hg2
    replace d3 := off d3 BP0 no_ints3 hg2
    replace q1 := off q1 BP0 no_ints3 hg2
    replace d1 := off d1 BP0 no_ints3 hg2
    replace p1s := off p1s BP0 no_ints3 hg2
    replace p1d := off p1d BP0 no_ints3 hg2
    replace BP1 := BP1.grown hg2 (by omega)
    replace bb := bb.trans ((Below.refl _ _).grown hg2 bb.size (fun g hg => by injection hg with hg; omega))
    have hsz2 := bb.size
    have Bx : Blk w2 (w.heap.size) _ _ := BN2
    have kxs := q1
    have kxd := d1
    have kxz : IsZ w2 (.agg #[.bool (ngB (x).num), .slice Ax (digs 4294967296 (x).num.natAbs).length cx]) ((x).num) := ⟨_, rfl, kxs⟩
    have kx : IsQ w2 (.agg #[.bool (ngB (x).num), .slice Ax (digs 4294967296 (x).num.natAbs).length cx, .slice Dx (digs 4294967296 (x).den).length ex]) (x) := ⟨_, _, rfl, kxs, kxd⟩
    refine any_store (i := 5) (by kernel_rfl) rfl rfl rfl rfl rfl rfl (cells := [.bool (ngB (y).num), .slice Ay (digs 4294967296 (y).num.natAbs).length cy, .slice Dy (digs 4294967296 (y).den).length ey]) rfl BP1 rfl (by kernel_rfl) (one3 rfl rfl rfl) fun w3 hg3 BN3 => ?_
    replace q3 := off q3 BP1 no_ints3 hg3
    replace d3 := off d3 BP1 no_ints3 hg3
    replace kxs := off kxs BP1 no_ints3 hg3
    replace kxd := off kxd BP1 no_ints3 hg3
    replace kxz : IsZ w3 (.agg #[.bool (ngB (x).num), .slice Ax (digs 4294967296 (x).num.natAbs).length cx]) ((x).num) := ⟨_, rfl, kxs⟩
    replace kx : IsQ w3 (.agg #[.bool (ngB (x).num), .slice Ax (digs 4294967296 (x).num.natAbs).length cx, .slice Dx (digs 4294967296 (x).den).length ex]) (x) := ⟨_, _, rfl, kxs, kxd⟩
    replace Bx := Bx.grown hg3 (by omega)
    replace bb := bb.trans ((Below.refl _ _).grown hg3 bb.size (fun g hg => by injection hg with hg; omega))
    have hsz3 := bb.size
    have By : Blk w3 (w.heap.size + 1) _ _ := BN3
    have kys := q3
    have kyd := d3
    have kyz : IsZ w3 (.agg #[.bool (ngB (y).num), .slice Ay (digs 4294967296 (y).num.natAbs).length cy]) ((y).num) := ⟨_, rfl, kys⟩
    have ky : IsQ w3 (.agg #[.bool (ngB (y).num), .slice Ay (digs 4294967296 (y).num.natAbs).length cy, .slice Dy (digs 4294967296 (y).den).length ey]) (y) := ⟨_, _, rfl, kys, kyd⟩
    refine any_done (by kernel_rfl) ?_
    go_upto_region 2 with (fail)
    have lt3_2 := Blk.lt Bx
    have lt3_3 := Blk.lt By
    refine flow 6 [Pd.eq (.agg #[.bool (ngB (x).num), .slice Ax (digs 4294967296 (x).num.natAbs).length cx, .slice Dx (digs 4294967296 (x).den).length ex]), pp (x), Pd.eq (.agg #[.bool (ngB (y).num), .slice Ay (digs 4294967296 (y).num.natAbs).length cy, .slice Dy (digs 4294967296 (y).den).length ey]), pp (y), pn 34 #[.bool false, .slice none 0 0, .slice none 0 0] w3.heap.size, pn 34 #[.bool false, .slice none 0 0, .slice none 0 0] w3.heap.size] (by kernel_rfl) (by kernel_rfl) ?ob5 ?done5
    case ob5 =>
      refine And.intro (ob_load rfl (wt_none rfl) (ev_far rfl rfl) (fun w2 hb => run_loadAll Tryz.underlying27 rfl (by kernel_rfl) (Bx.drew.below hb)) (fun _ _ => rfl)) ?_
      refine And.intro (ob_call1 rfl Tryz.func7 (by kernel_rfl) (wt_none rfl) (ev_dep (j := 0) (by kernel_rfl) rfl rfl) (fun w2 u0 hb h0 => by obtain rfl := h0; exact (qof_any _ _ _ (kx.drew.below hb) (lx.mono (by decide))).mono fun e w3 h => RetP.pd h)) ?_
      refine And.intro (ob_load rfl (wt_none rfl) (ev_far rfl rfl) (fun w2 hb => run_loadAll Tryz.underlying27 rfl (by kernel_rfl) (By.drew.below hb)) (fun _ _ => rfl)) ?_
      refine And.intro (ob_call1 rfl Tryz.func7 (by kernel_rfl) (wt_none rfl) (ev_dep (j := 2) (by kernel_rfl) rfl rfl) (fun w2 u0 hb h0 => by obtain rfl := h0; exact (qof_any _ _ _ (ky.drew.below hb) (ly.mono (by decide))).mono fun e w3 h => RetP.pd h)) ?_
      refine And.intro (ob_alloc (z := .agg #[.bool false, .slice none 0 0, .slice none 0 0]) rfl rfl (fun _ => by kernel_rfl) (fun _ _ hB h => ⟨_, rfl, hB, h⟩)) ?_
      refine And.intro (ob_alloc (z := .agg #[.bool false, .slice none 0 0, .slice none 0 0]) rfl rfl (fun _ => by kernel_rfl) (fun _ _ hB h => ⟨_, rfl, hB, h⟩)) ?_
      trivial
    case done5 =>
      refine fun w4 hb4 v0 h0 v1 h1 v2 h2 v3 h3 v4 h4 d4 v5 h5 d5 b hbf => ?_
      obtain rfl := h0; obtain rfl := h2
      have q1 := h1
      have q3 := h3
      obtain ⟨g5_4, rfl, hg4, B4⟩ := h4
      obtain ⟨g5_5, rfl, hg5, B5⟩ := h5
      simp only [Act.put, List.setIfInBounds_toArray, List.set_cons_zero, List.set_cons_succ] at hbf
      subst hbf
      replace Bx := Bx.below hb4
      replace kxs := kxs.below hb4
      replace kxd := kxd.below hb4
      replace kxz := kxz.below hb4
      replace kx := kx.below hb4
      replace By := By.below hb4
      replace kys := kys.below hb4
      replace kyd := kyd.below hb4
      replace kyz := kyz.below hb4
      replace ky := ky.below hb4
      replace bb := bb.trans (hb4.mono bb.size)
      have hsz4 := bb.size
      have BA5 := B4
      have BA6 := B5
      have hne4_5 : g5_4 ≠ g5_5 := fun e => d5 (.pointer (some ⟨g5_4, 0, none⟩)) (by simp) (by rw [e])
      obtain ⟨u1, t1, rfl, q1, d1⟩ := q1
      obtain ⟨AX, cX, rfl, _⟩ := id q1
      obtain ⟨DX, eX, rfl, _⟩ := id d1
      obtain ⟨u3, t3, rfl, q3, d3⟩ := q3
      obtain ⟨AY, cY, rfl, _⟩ := id q3
      obtain ⟨DY, eY, rfl, _⟩ := id d3
      refine any_store (i := 6) (by kernel_rfl) rfl rfl rfl rfl rfl rfl (cells := [.bool (ngB (x).num), .slice AX (digs 10000 (x).num.natAbs).length cX, .slice DX (digs 10000 (x).den).length eX]) rfl BA5 rfl (by kernel_rfl) (one3 rfl rfl rfl) fun w5 hg5 BN5 => ?_
      replace q3 := off q3 BA5 no_ints3 hg5
      replace d3 := off d3 BA5 no_ints3 hg5
      replace q1 := off q1 BA5 no_ints3 hg5
      replace d1 := off d1 BA5 no_ints3 hg5
      replace kxs := off kxs BA5 no_ints3 hg5
      replace kxd := off kxd BA5 no_ints3 hg5
      replace kxz : IsZ w5 (.agg #[.bool (ngB (x).num), .slice Ax (digs 4294967296 (x).num.natAbs).length cx]) ((x).num) := ⟨_, rfl, kxs⟩
      replace kx : IsQ w5 (.agg #[.bool (ngB (x).num), .slice Ax (digs 4294967296 (x).num.natAbs).length cx, .slice Dx (digs 4294967296 (x).den).length ex]) (x) := ⟨_, _, rfl, kxs, kxd⟩
      replace Bx := Bx.grown hg5 (by omega)
      replace kys := off kys BA5 no_ints3 hg5
      replace kyd := off kyd BA5 no_ints3 hg5
      replace kyz : IsZ w5 (.agg #[.bool (ngB (y).num), .slice Ay (digs 4294967296 (y).num.natAbs).length cy]) ((y).num) := ⟨_, rfl, kys⟩
      replace ky : IsQ w5 (.agg #[.bool (ngB (y).num), .slice Ay (digs 4294967296 (y).num.natAbs).length cy, .slice Dy (digs 4294967296 (y).den).length ey]) (y) := ⟨_, _, rfl, kys, kyd⟩
      replace By := By.grown hg5 (by omega)
      replace BA6 := BA6.grown hg5 (by omega)
      replace bb := bb.trans ((Below.refl _ _).grown hg5 bb.size (fun g hg => by injection hg with hg; omega))
      have hsz5 := bb.size
      have BX : Blk w5 (g5_4) _ _ := BN5
      have kXs := q1
      have kXd := d1
      have kXz : IsR w5 (.agg #[.bool (ngB (x).num), .slice AX (digs 10000 (x).num.natAbs).length cX]) ((x).num) := ⟨_, rfl, kXs⟩
      have kX : IsP w5 (.agg #[.bool (ngB (x).num), .slice AX (digs 10000 (x).num.natAbs).length cX, .slice DX (digs 10000 (x).den).length eX]) (x) := ⟨_, _, rfl, kXs, kXd⟩
      refine any_store (i := 7) (by kernel_rfl) rfl rfl rfl rfl rfl rfl (cells := [.bool (ngB (y).num), .slice AY (digs 10000 (y).num.natAbs).length cY, .slice DY (digs 10000 (y).den).length eY]) rfl BA6 rfl (by kernel_rfl) (one3 rfl rfl rfl) fun w6 hg6 BN6 => ?_
      replace q3 := off q3 BA6 no_ints3 hg6
      replace d3 := off d3 BA6 no_ints3 hg6
      replace kxs := off kxs BA6 no_ints3 hg6
      replace kxd := off kxd BA6 no_ints3 hg6
      replace kxz : IsZ w6 (.agg #[.bool (ngB (x).num), .slice Ax (digs 4294967296 (x).num.natAbs).length cx]) ((x).num) := ⟨_, rfl, kxs⟩
      replace kx : IsQ w6 (.agg #[.bool (ngB (x).num), .slice Ax (digs 4294967296 (x).num.natAbs).length cx, .slice Dx (digs 4294967296 (x).den).length ex]) (x) := ⟨_, _, rfl, kxs, kxd⟩
      replace Bx := Bx.grown hg6 (by omega)
      replace kys := off kys BA6 no_ints3 hg6
      replace kyd := off kyd BA6 no_ints3 hg6
      replace kyz : IsZ w6 (.agg #[.bool (ngB (y).num), .slice Ay (digs 4294967296 (y).num.natAbs).length cy]) ((y).num) := ⟨_, rfl, kys⟩
      replace ky : IsQ w6 (.agg #[.bool (ngB (y).num), .slice Ay (digs 4294967296 (y).num.natAbs).length cy, .slice Dy (digs 4294967296 (y).den).length ey]) (y) := ⟨_, _, rfl, kys, kyd⟩
      replace By := By.grown hg6 (by omega)
      replace kXs := off kXs BA6 no_ints3 hg6
      replace kXd := off kXd BA6 no_ints3 hg6
      replace kXz : IsR w6 (.agg #[.bool (ngB (x).num), .slice AX (digs 10000 (x).num.natAbs).length cX]) ((x).num) := ⟨_, rfl, kXs⟩
      replace kX : IsP w6 (.agg #[.bool (ngB (x).num), .slice AX (digs 10000 (x).num.natAbs).length cX, .slice DX (digs 10000 (x).den).length eX]) (x) := ⟨_, _, rfl, kXs, kXd⟩
      replace BX := BX.grown hg6 (by omega)
      replace bb := bb.trans ((Below.refl _ _).grown hg6 bb.size (fun g hg => by injection hg with hg; omega))
      have hsz6 := bb.size
      have BY : Blk w6 (g5_5) _ _ := BN6
      have kYs := q3
      have kYd := d3
      have kYz : IsR w6 (.agg #[.bool (ngB (y).num), .slice AY (digs 10000 (y).num.natAbs).length cY]) ((y).num) := ⟨_, rfl, kYs⟩
      have kY : IsP w6 (.agg #[.bool (ngB (y).num), .slice AY (digs 10000 (y).num.natAbs).length cY, .slice DY (digs 10000 (y).den).length eY]) (y) := ⟨_, _, rfl, kYs, kYd⟩
      refine any_done (by kernel_rfl) ?_
      by_cases hy0 : y = 0
      · go_upto_region 3 with (fail)
        have lt6_2 := Blk.lt Bx
        have lt6_3 := Blk.lt By
        have lt6_5 := Blk.lt BX
        have lt6_6 := Blk.lt BY
        refine flowp 7 [Pd.eq (.agg #[.bool (ngB (x).num), .slice Ax (digs 4294967296 (x).num.natAbs).length cx, .slice Dx (digs 4294967296 (x).den).length ex]), Pd.eq (.agg #[.bool (ngB (y).num), .slice Ay (digs 4294967296 (y).num.natAbs).length cy, .slice Dy (digs 4294967296 (y).den).length ey]), Pd.eq (.tuple #[.agg #[.bool false, .slice none 0 0, .slice none 0 0], .int .i64 3]), Pd.eq (.tuple #[.agg #[.bool false, .slice none 0 0, .slice none 0 0], .int .i64 3]), Pd.eq (.agg #[.bool false, .slice none 0 0, .slice none 0 0]), Pd.eq (.int .i64 3), pn 27 #[.bool false, .slice none 0 0, .slice none 0 0] w6.heap.size] (by kernel_rfl) ?ob6 ?done6
        case ob6 =>
          refine And.intro (ob_load rfl (wt_none rfl) (ev_far rfl rfl) (fun w2 hb => run_loadAll Tryz.underlying27 rfl (by kernel_rfl) (Bx.below hb)) (fun _ _ => rfl)) ?_
          refine And.intro (ob_load rfl (wt_none rfl) (ev_far rfl rfl) (fun w2 hb => run_loadAll Tryz.underlying27 rfl (by kernel_rfl) (By.below hb)) (fun _ _ => rfl)) ?_
          refine And.intro (ob_call2 rfl Tryz.func22 (by kernel_rfl) (wt_none rfl) (ev_dep (j := 0) (by kernel_rfl) rfl rfl) (ev_dep (j := 1) (by kernel_rfl) rfl rfl) (fun w2 u0 u1 hb h0 h1 => by obtain rfl := h0; obtain rfl := h1; exact (fdiv_zero _ _ _ _ _ (kx.below hb) (ky.below hb) hy0).mono fun e w3 h => RetQN.pd h)) ?_
          refine And.intro (ob_move rfl (wt_none rfl) (ev_dep (j := 2) (by kernel_rfl) rfl rfl) (fun _ _ h => h)) ?_
          refine And.intro (ob_extract rfl (wt_none rfl) (ev_dep (j := 3) (by kernel_rfl) rfl rfl) (fun w2 u hu => by obtain rfl := hu; exact ⟨_, rfl, rfl⟩)) ?_
          refine And.intro (ob_extract rfl (wt_none rfl) (ev_dep (j := 3) (by kernel_rfl) rfl rfl) (fun w2 u hu => by obtain rfl := hu; exact ⟨_, rfl, rfl⟩)) ?_
          refine And.intro (ob_alloc (z := .agg #[.bool false, .slice none 0 0, .slice none 0 0]) rfl rfl (fun _ => by kernel_rfl) (fun _ _ hB h => ⟨_, rfl, hB, h⟩)) ?_
          trivial
        case done6 =>
          refine fun w7 hb7 v0 h0 v1 h1 v2 h2 v3 h3 v4 h4 v5 h5 v6 h6 d6 b hbf => ?_
          obtain rfl := h0; obtain rfl := h1; obtain rfl := h2; obtain rfl := h3; obtain rfl := h4; obtain rfl := h5
          obtain ⟨g6_6, rfl, hg6, B6⟩ := h6
          simp only [Act.put, List.setIfInBounds_toArray, List.set_cons_zero, List.set_cons_succ] at hbf
          subst hbf
          replace Bx := Bx.below hb7
          replace kxs := kxs.below hb7
          replace kxd := kxd.below hb7
          replace kxz := kxz.below hb7
          replace kx := kx.below hb7
          replace By := By.below hb7
          replace kys := kys.below hb7
          replace kyd := kyd.below hb7
          replace kyz := kyz.below hb7
          replace ky := ky.below hb7
          replace BX := BX.below hb7
          replace kXs := kXs.below hb7
          replace kXd := kXd.below hb7
          replace kXz := kXz.below hb7
          replace kX := kX.below hb7
          replace BY := BY.below hb7
          replace kYs := kYs.below hb7
          replace kYd := kYd.below hb7
          replace kYz := kYz.below hb7
          replace kY := kY.below hb7
          replace bb := bb.trans (hb7.mono bb.size)
          have hsz7 := bb.size
          have BA7 := B6
          refine ops_store (i := 7) rfl rfl rfl rfl rfl rfl (cells := [.bool false, .slice none 0 0, .slice none 0 0]) rfl BA7 rfl (by kernel_rfl) (one3 rfl rfl rfl) fun w8 hg8 BN8 => ?_
          replace kxs := off kxs BA7 no_ints3 hg8
          replace kxd := off kxd BA7 no_ints3 hg8
          replace kxz : IsZ w8 (.agg #[.bool (ngB (x).num), .slice Ax (digs 4294967296 (x).num.natAbs).length cx]) ((x).num) := ⟨_, rfl, kxs⟩
          replace kx : IsQ w8 (.agg #[.bool (ngB (x).num), .slice Ax (digs 4294967296 (x).num.natAbs).length cx, .slice Dx (digs 4294967296 (x).den).length ex]) (x) := ⟨_, _, rfl, kxs, kxd⟩
          replace Bx := Bx.grown hg8 (by omega)
          replace kys := off kys BA7 no_ints3 hg8
          replace kyd := off kyd BA7 no_ints3 hg8
          replace kyz : IsZ w8 (.agg #[.bool (ngB (y).num), .slice Ay (digs 4294967296 (y).num.natAbs).length cy]) ((y).num) := ⟨_, rfl, kys⟩
          replace ky : IsQ w8 (.agg #[.bool (ngB (y).num), .slice Ay (digs 4294967296 (y).num.natAbs).length cy, .slice Dy (digs 4294967296 (y).den).length ey]) (y) := ⟨_, _, rfl, kys, kyd⟩
          replace By := By.grown hg8 (by omega)
          replace kXs := off kXs BA7 no_ints3 hg8
          replace kXd := off kXd BA7 no_ints3 hg8
          replace kXz : IsR w8 (.agg #[.bool (ngB (x).num), .slice AX (digs 10000 (x).num.natAbs).length cX]) ((x).num) := ⟨_, rfl, kXs⟩
          replace kX : IsP w8 (.agg #[.bool (ngB (x).num), .slice AX (digs 10000 (x).num.natAbs).length cX, .slice DX (digs 10000 (x).den).length eX]) (x) := ⟨_, _, rfl, kXs, kXd⟩
          replace BX := BX.grown hg8 (by omega)
          replace kYs := off kYs BA7 no_ints3 hg8
          replace kYd := off kYd BA7 no_ints3 hg8
          replace kYz : IsR w8 (.agg #[.bool (ngB (y).num), .slice AY (digs 10000 (y).num.natAbs).length cY]) ((y).num) := ⟨_, rfl, kYs⟩
          replace kY : IsP w8 (.agg #[.bool (ngB (y).num), .slice AY (digs 10000 (y).num.natAbs).length cY, .slice DY (digs 10000 (y).den).length eY]) (y) := ⟨_, _, rfl, kYs, kYd⟩
          replace BY := BY.grown hg8 (by omega)
          replace bb := bb.trans ((Below.refl _ _).grown hg8 bb.size (fun g hg => by injection hg with hg; omega))
          have hsz8 := bb.size
          replace BA7 : Blk w8 (g6_6) _ #[.bool false, .slice none 0 0, .slice none 0 0] := BN8
          refine ops_assign (i := 8) (.int .i64 3) rfl rfl rfl rfl rfl fun b hbf => ?_
          simp only [Act.put, List.setIfInBounds_toArray, List.set_cons_zero, List.set_cons_succ] at hbf
          subst hbf
          refine ops_done ?_
          go_upto_region 4 with (fail)
          have lt8_2 := Blk.lt Bx
          have lt8_3 := Blk.lt By
          have lt8_5 := Blk.lt BX
          have lt8_6 := Blk.lt BY
          have lt8_7 := Blk.lt BA7
          refine flowp 6 [Pd.eq (.agg #[.bool (ngB (y).num), .slice Ay (digs 4294967296 (y).num.natAbs).length cy, .slice Dy (digs 4294967296 (y).den).length ey]), Pd.eq (.tuple #[.agg #[.bool false, .slice none 0 0, .slice none 0 0], .int .i64 3]), Pd.eq (.tuple #[.agg #[.bool false, .slice none 0 0, .slice none 0 0], .int .i64 3]), Pd.eq (.agg #[.bool false, .slice none 0 0, .slice none 0 0]), Pd.eq (.int .i64 3), pn 27 #[.bool false, .slice none 0 0, .slice none 0 0] w8.heap.size] (by kernel_rfl) ?ob7 ?done7
          case ob7 =>
            refine And.intro (ob_load rfl (wt_none rfl) (ev_far rfl rfl) (fun w2 hb => run_loadAll Tryz.underlying27 rfl (by kernel_rfl) (By.below hb)) (fun _ _ => rfl)) ?_
            refine And.intro (ob_call1 rfl Tryz.func23 (by kernel_rfl) (wt_none rfl) (ev_dep (j := 0) (by kernel_rfl) rfl rfl) (fun w2 u0 hb h0 => by obtain rfl := h0; exact (finv_zero _ _ _ (ky.below hb) hy0).mono fun e w3 h => RetQN.pd h)) ?_
            refine And.intro (ob_move rfl (wt_none rfl) (ev_dep (j := 1) (by kernel_rfl) rfl rfl) (fun _ _ h => h)) ?_
            refine And.intro (ob_extract rfl (wt_none rfl) (ev_dep (j := 2) (by kernel_rfl) rfl rfl) (fun w2 u hu => by obtain rfl := hu; exact ⟨_, rfl, rfl⟩)) ?_
            refine And.intro (ob_extract rfl (wt_none rfl) (ev_dep (j := 2) (by kernel_rfl) rfl rfl) (fun w2 u hu => by obtain rfl := hu; exact ⟨_, rfl, rfl⟩)) ?_
            refine And.intro (ob_alloc (z := .agg #[.bool false, .slice none 0 0, .slice none 0 0]) rfl rfl (fun _ => by kernel_rfl) (fun _ _ hB h => ⟨_, rfl, hB, h⟩)) ?_
            trivial
          case done7 =>
            refine fun w9 hb9 v0 h0 v1 h1 v2 h2 v3 h3 v4 h4 v5 h5 d5 b hbf => ?_
            obtain rfl := h0; obtain rfl := h1; obtain rfl := h2; obtain rfl := h3; obtain rfl := h4
            obtain ⟨g7_5, rfl, hg5, B5⟩ := h5
            simp only [Act.put, List.setIfInBounds_toArray, List.set_cons_zero, List.set_cons_succ] at hbf
            subst hbf
            replace Bx := Bx.below hb9
            replace kxs := kxs.below hb9
            replace kxd := kxd.below hb9
            replace kxz := kxz.below hb9
            replace kx := kx.below hb9
            replace By := By.below hb9
            replace kys := kys.below hb9
            replace kyd := kyd.below hb9
            replace kyz := kyz.below hb9
            replace ky := ky.below hb9
            replace BX := BX.below hb9
            replace kXs := kXs.below hb9
            replace kXd := kXd.below hb9
            replace kXz := kXz.below hb9
            replace kX := kX.below hb9
            replace BY := BY.below hb9
            replace kYs := kYs.below hb9
            replace kYd := kYd.below hb9
            replace kYz := kYz.below hb9
            replace kY := kY.below hb9
            replace BA7 := BA7.below hb9
            replace bb := bb.trans (hb9.mono bb.size)
            have hsz9 := bb.size
            have BA9 := B5
            refine ops_store (i := 6) rfl rfl rfl rfl rfl rfl (cells := [.bool false, .slice none 0 0, .slice none 0 0]) rfl BA9 rfl (by kernel_rfl) (one3 rfl rfl rfl) fun w10 hg10 BN10 => ?_
            replace kxs := off kxs BA9 no_ints3 hg10
            replace kxd := off kxd BA9 no_ints3 hg10
            replace kxz : IsZ w10 (.agg #[.bool (ngB (x).num), .slice Ax (digs 4294967296 (x).num.natAbs).length cx]) ((x).num) := ⟨_, rfl, kxs⟩
            replace kx : IsQ w10 (.agg #[.bool (ngB (x).num), .slice Ax (digs 4294967296 (x).num.natAbs).length cx, .slice Dx (digs 4294967296 (x).den).length ex]) (x) := ⟨_, _, rfl, kxs, kxd⟩
            replace Bx := Bx.grown hg10 (by omega)
            replace kys := off kys BA9 no_ints3 hg10
            replace kyd := off kyd BA9 no_ints3 hg10
            replace kyz : IsZ w10 (.agg #[.bool (ngB (y).num), .slice Ay (digs 4294967296 (y).num.natAbs).length cy]) ((y).num) := ⟨_, rfl, kys⟩
            replace ky : IsQ w10 (.agg #[.bool (ngB (y).num), .slice Ay (digs 4294967296 (y).num.natAbs).length cy, .slice Dy (digs 4294967296 (y).den).length ey]) (y) := ⟨_, _, rfl, kys, kyd⟩
            replace By := By.grown hg10 (by omega)
            replace kXs := off kXs BA9 no_ints3 hg10
            replace kXd := off kXd BA9 no_ints3 hg10
            replace kXz : IsR w10 (.agg #[.bool (ngB (x).num), .slice AX (digs 10000 (x).num.natAbs).length cX]) ((x).num) := ⟨_, rfl, kXs⟩
            replace kX : IsP w10 (.agg #[.bool (ngB (x).num), .slice AX (digs 10000 (x).num.natAbs).length cX, .slice DX (digs 10000 (x).den).length eX]) (x) := ⟨_, _, rfl, kXs, kXd⟩
            replace BX := BX.grown hg10 (by omega)
            replace kYs := off kYs BA9 no_ints3 hg10
            replace kYd := off kYd BA9 no_ints3 hg10
            replace kYz : IsR w10 (.agg #[.bool (ngB (y).num), .slice AY (digs 10000 (y).num.natAbs).length cY]) ((y).num) := ⟨_, rfl, kYs⟩
            replace kY : IsP w10 (.agg #[.bool (ngB (y).num), .slice AY (digs 10000 (y).num.natAbs).length cY, .slice DY (digs 10000 (y).den).length eY]) (y) := ⟨_, _, rfl, kYs, kYd⟩
            replace BY := BY.grown hg10 (by omega)
            replace BA7 := BA7.grown hg10 (by omega)
            replace bb := bb.trans ((Below.refl _ _).grown hg10 bb.size (fun g hg => by injection hg with hg; omega))
            have hsz10 := bb.size
            replace BA9 : Blk w10 (g7_5) _ #[.bool false, .slice none 0 0, .slice none 0 0] := BN10
            refine ops_assign (i := 7) (.int .i64 3) rfl rfl rfl rfl rfl fun b hbf => ?_
            simp only [Act.put, List.setIfInBounds_toArray, List.set_cons_zero, List.set_cons_succ] at hbf
            subst hbf
            refine ops_done ?_
            go_upto_region 5 with (fail)
            refine flowp 2 [Pd.eq (.agg #[.bool (ngB (y).num), .slice AY (digs 10000 (y).num.natAbs).length cY, .slice DY (digs 10000 (y).den).length eY]), Pd.eq (.bool true)] (by kernel_rfl) ?ob8 ?done8
            case ob8 =>
              refine And.intro (ob_load rfl (wt_none rfl) (ev_far rfl rfl) (fun w2 hb => run_loadAll Tryz.underlying34 rfl (by kernel_rfl) (BY.below hb)) (fun _ _ => rfl)) ?_
              refine And.intro (ob_call1 rfl Tryz.func24 (by kernel_rfl) (wt_none rfl) (ev_dep (j := 0) (by kernel_rfl) rfl rfl) (fun w2 u0 hb h0 => by obtain rfl := h0; exact (qzero_any _ (y) true _ (kY.below hb) (decide_eq_true hy0).symm).mono fun e w3 h => RetV.pd h)) ?_
              trivial
            case done8 =>
              refine fun w11 hb11 v0 h0 v1 h1 b hbf => ?_
              obtain rfl := h0; obtain rfl := h1
              simp only [Act.put, List.setIfInBounds_toArray, List.set_cons_zero, List.set_cons_succ] at hbf
              subst hbf
              replace Bx := Bx.below hb11
              replace kxs := kxs.below hb11
              replace kxd := kxd.below hb11
              replace kxz := kxz.below hb11
              replace kx := kx.below hb11
              replace By := By.below hb11
              replace kys := kys.below hb11
              replace kyd := kyd.below hb11
              replace kyz := kyz.below hb11
              replace ky := ky.below hb11
              replace BX := BX.below hb11
              replace kXs := kXs.below hb11
              replace kXd := kXd.below hb11
              replace kXz := kXz.below hb11
              replace kX := kX.below hb11
              replace BY := BY.below hb11
              replace kYs := kYs.below hb11
              replace kYd := kYd.below hb11
              replace kYz := kYz.below hb11
              replace kY := kY.below hb11
              replace BA7 := BA7.below hb11
              replace BA9 := BA9.below hb11
              replace bb := bb.trans (hb11.mono bb.size)
              have hsz11 := bb.size
              refine ops_done ?_
              go_upto_region 6 with (fail)
              refine flowp 11 [Pd.eq (.int .i64 3), Pd.eq (.bool true), Pd.eq (.bool true), Pd.eq (.int .i64 3), Pd.eq (.int .i64 3), Pd.eq (.bool true), Pd.eq (.bool true), Pd.eq (.bool true), Pd.eq (.bool true), Pd.eq (.bool true), Pd.eq (.bool true)] (by kernel_rfl) ?ob9 ?done9
              case ob9 =>
                refine And.intro (ob_move rfl (wt_none rfl) (ev_far rfl rfl) (fun _ _ h => h)) ?_
                refine And.intro (ob_bin rfl (wt_none rfl) (ev_dep (j := 0) (by kernel_rfl) rfl rfl) (ev_const _) (fun _ _ _ hx hy => ⟨.bool ((3 : Int) == 3), by rw [hx, hy]; exact bin_eql_int _ _ _ _ _, congrArg Value.bool (by decide)⟩)) ?_
                refine And.intro (ob_move rfl (wt_none rfl) (ev_dep (j := 1) (by kernel_rfl) rfl rfl) (fun _ _ h => h)) ?_
                refine And.intro (ob_move rfl (wt_dep (c := true) (b := true) (g := 2) rfl (by kernel_rfl) rfl rfl rfl (by exact fun _ _ h => h)) (ev_far rfl rfl) (fun _ _ h => h)) ?_
                refine And.intro (ob_move rfl (wt_dep (c := true) (b := true) (g := 2) rfl (by kernel_rfl) rfl rfl rfl (by exact fun _ _ h => h)) (ev_far rfl rfl) (fun _ _ h => h)) ?_
                refine And.intro (ob_bin rfl (wt_dep (c := true) (b := true) (g := 2) rfl (by kernel_rfl) rfl rfl rfl (by exact fun _ _ h => h)) (ev_dep (j := 3) (by kernel_rfl) rfl rfl) (ev_dep (j := 4) (by kernel_rfl) rfl rfl) (fun _ _ _ hx hy => ⟨.bool ((3 : Int) == 3), by rw [hx, hy]; exact bin_eql_int _ _ _ _ _, congrArg Value.bool (by decide)⟩)) ?_
                refine And.intro (ob_pick (b := true) rfl (wt_none rfl) (ev_dep (j := 2) (by kernel_rfl) rfl rfl) (ev_dep (j := 5) (by kernel_rfl) rfl rfl) (fun _ _ h => h)) ?_
                refine And.intro (ob_move rfl (wt_none rfl) (ev_dep (j := 6) (by kernel_rfl) rfl rfl) (fun _ _ h => h)) ?_
                refine And.intro (ob_call0 rfl Tryz.func21 (by kernel_rfl) (wt_dep (c := true) (b := true) (g := 7) rfl (by kernel_rfl) rfl rfl rfl (by exact fun _ _ h => h)) (fun w2 hb => (works8_any _).mono fun e w3 h => RetV.pd h)) ?_
                refine And.intro (ob_pick (b := true) rfl (wt_none rfl) (ev_dep (j := 7) (by kernel_rfl) rfl rfl) (ev_dep (j := 8) (by kernel_rfl) rfl rfl) (fun _ _ h => h)) ?_
                refine And.intro (ob_assign rfl (wt_none rfl) (ev_dep (j := 9) (by kernel_rfl) rfl rfl) (fun _ _ h => h)) ?_
                trivial
              case done9 =>
                refine fun w12 hb12 v0 h0 v1 h1 v2 h2 v3 h3 v4 h4 v5 h5 v6 h6 v7 h7 v8 h8 v9 h9 v10 h10 b hbf => ?_
                obtain rfl := h0; obtain rfl := h1; obtain rfl := h2; obtain rfl := h3; obtain rfl := h4; obtain rfl := h5; obtain rfl := h6; obtain rfl := h7; obtain rfl := h8; obtain rfl := h9; obtain rfl := h10
                simp only [Act.put, List.setIfInBounds_toArray, List.set_cons_zero, List.set_cons_succ] at hbf
                subst hbf
                replace Bx := Bx.below hb12
                replace kxs := kxs.below hb12
                replace kxd := kxd.below hb12
                replace kxz := kxz.below hb12
                replace kx := kx.below hb12
                replace By := By.below hb12
                replace kys := kys.below hb12
                replace kyd := kyd.below hb12
                replace kyz := kyz.below hb12
                replace ky := ky.below hb12
                replace BX := BX.below hb12
                replace kXs := kXs.below hb12
                replace kXd := kXd.below hb12
                replace kXz := kXz.below hb12
                replace kX := kX.below hb12
                replace BY := BY.below hb12
                replace kYs := kYs.below hb12
                replace kYd := kYd.below hb12
                replace kYz := kYz.below hb12
                replace kY := kY.below hb12
                replace BA7 := BA7.below hb12
                replace BA9 := BA9.below hb12
                replace bb := bb.trans (hb12.mono bb.size)
                have hsz12 := bb.size
                refine ops_done ?_
                go_wp2
                go_ret
                exact ⟨rfl, bb⟩
      · go_upto_region 3 with (fail)
        have lt6_2 := Blk.lt Bx
        have lt6_3 := Blk.lt By
        have lt6_5 := Blk.lt BX
        have lt6_6 := Blk.lt BY
        refine flowp 7 [Pd.eq (.agg #[.bool (ngB (x).num), .slice Ax (digs 4294967296 (x).num.natAbs).length cx, .slice Dx (digs 4294967296 (x).den).length ex]), Pd.eq (.agg #[.bool (ngB (y).num), .slice Ay (digs 4294967296 (y).num.natAbs).length cy, .slice Dy (digs 4294967296 (y).den).length ey]), pqe ((x / y)) 0, pqe ((x / y)) 0, pqn ((x / y)), Pd.eq (.int .i64 0), pn 27 #[.bool false, .slice none 0 0, .slice none 0 0] w6.heap.size] (by kernel_rfl) ?ob10 ?done10
        case ob10 =>
          refine And.intro (ob_load rfl (wt_none rfl) (ev_far rfl rfl) (fun w2 hb => run_loadAll Tryz.underlying27 rfl (by kernel_rfl) (Bx.below hb)) (fun _ _ => rfl)) ?_
          refine And.intro (ob_load rfl (wt_none rfl) (ev_far rfl rfl) (fun w2 hb => run_loadAll Tryz.underlying27 rfl (by kernel_rfl) (By.below hb)) (fun _ _ => rfl)) ?_
          refine And.intro (ob_call2 rfl Tryz.func22 (by kernel_rfl) (wt_none rfl) (ev_dep (j := 0) (by kernel_rfl) rfl rfl) (ev_dep (j := 1) (by kernel_rfl) rfl rfl) (fun w2 u0 u1 hb h0 h1 => by obtain rfl := h0; obtain rfl := h1; exact (fdiv_ok _ _ _ _ _ (kx.below hb) (ky.below hb) (lx.mono (by decide)) (ly.mono (by decide)) hy0).mono fun e w3 h => RetQE.pd h)) ?_
          refine And.intro (ob_move rfl (wt_none rfl) (ev_dep (j := 2) (by kernel_rfl) rfl rfl) (fun _ _ h => h)) ?_
          refine And.intro (ob_extract rfl (wt_none rfl) (ev_dep (j := 3) (by kernel_rfl) rfl rfl) (fun w2 u hu => by obtain ⟨v, rfl, q1⟩ := hu; exact ⟨v, rfl, q1⟩)) ?_
          refine And.intro (ob_extract rfl (wt_none rfl) (ev_dep (j := 3) (by kernel_rfl) rfl rfl) (fun w2 u hu => by obtain ⟨v, rfl, q1⟩ := hu; exact ⟨_, rfl, rfl⟩)) ?_
          refine And.intro (ob_alloc (z := .agg #[.bool false, .slice none 0 0, .slice none 0 0]) rfl rfl (fun _ => by kernel_rfl) (fun _ _ hB h => ⟨_, rfl, hB, h⟩)) ?_
          trivial
        case done10 =>
          refine fun w7 hb7 v0 h0 v1 h1 v2 h2 v3 h3 v4 h4 v5 h5 v6 h6 d6 b hbf => ?_
          obtain rfl := h0; obtain rfl := h1; obtain rfl := h5
          clear h2
          clear h3
          have q4 := h4
          obtain ⟨g10_6, rfl, hg6, B6⟩ := h6
          simp only [Act.put, List.setIfInBounds_toArray, List.set_cons_zero, List.set_cons_succ] at hbf
          subst hbf
          replace Bx := Bx.below hb7
          replace kxs := kxs.below hb7
          replace kxd := kxd.below hb7
          replace kxz := kxz.below hb7
          replace kx := kx.below hb7
          replace By := By.below hb7
          replace kys := kys.below hb7
          replace kyd := kyd.below hb7
          replace kyz := kyz.below hb7
          replace ky := ky.below hb7
          replace BX := BX.below hb7
          replace kXs := kXs.below hb7
          replace kXd := kXd.below hb7
          replace kXz := kXz.below hb7
          replace kX := kX.below hb7
          replace BY := BY.below hb7
          replace kYs := kYs.below hb7
          replace kYd := kYd.below hb7
          replace kYz := kYz.below hb7
          replace kY := kY.below hb7
          replace bb := bb.trans (hb7.mono bb.size)
          have hsz7 := bb.size
          have BA7 := B6
          obtain ⟨u4, t4, rfl, q4, d4⟩ := q4
          obtain ⟨Aq, cq, rfl, _⟩ := id q4
          obtain ⟨Dq, eq, rfl, _⟩ := id d4
          refine ops_store (i := 7) rfl rfl rfl rfl rfl rfl (cells := [.bool (ngB ((x / y)).num), .slice Aq (digs 4294967296 ((x / y)).num.natAbs).length cq, .slice Dq (digs 4294967296 ((x / y)).den).length eq]) rfl BA7 rfl (by kernel_rfl) (one3 rfl rfl rfl) fun w8 hg8 BN8 => ?_
          replace q4 := off q4 BA7 no_ints3 hg8
          replace d4 := off d4 BA7 no_ints3 hg8
          replace kxs := off kxs BA7 no_ints3 hg8
          replace kxd := off kxd BA7 no_ints3 hg8
          replace kxz : IsZ w8 (.agg #[.bool (ngB (x).num), .slice Ax (digs 4294967296 (x).num.natAbs).length cx]) ((x).num) := ⟨_, rfl, kxs⟩
          replace kx : IsQ w8 (.agg #[.bool (ngB (x).num), .slice Ax (digs 4294967296 (x).num.natAbs).length cx, .slice Dx (digs 4294967296 (x).den).length ex]) (x) := ⟨_, _, rfl, kxs, kxd⟩
          replace Bx := Bx.grown hg8 (by omega)
          replace kys := off kys BA7 no_ints3 hg8
          replace kyd := off kyd BA7 no_ints3 hg8
          replace kyz : IsZ w8 (.agg #[.bool (ngB (y).num), .slice Ay (digs 4294967296 (y).num.natAbs).length cy]) ((y).num) := ⟨_, rfl, kys⟩
          replace ky : IsQ w8 (.agg #[.bool (ngB (y).num), .slice Ay (digs 4294967296 (y).num.natAbs).length cy, .slice Dy (digs 4294967296 (y).den).length ey]) (y) := ⟨_, _, rfl, kys, kyd⟩
          replace By := By.grown hg8 (by omega)
          replace kXs := off kXs BA7 no_ints3 hg8
          replace kXd := off kXd BA7 no_ints3 hg8
          replace kXz : IsR w8 (.agg #[.bool (ngB (x).num), .slice AX (digs 10000 (x).num.natAbs).length cX]) ((x).num) := ⟨_, rfl, kXs⟩
          replace kX : IsP w8 (.agg #[.bool (ngB (x).num), .slice AX (digs 10000 (x).num.natAbs).length cX, .slice DX (digs 10000 (x).den).length eX]) (x) := ⟨_, _, rfl, kXs, kXd⟩
          replace BX := BX.grown hg8 (by omega)
          replace kYs := off kYs BA7 no_ints3 hg8
          replace kYd := off kYd BA7 no_ints3 hg8
          replace kYz : IsR w8 (.agg #[.bool (ngB (y).num), .slice AY (digs 10000 (y).num.natAbs).length cY]) ((y).num) := ⟨_, rfl, kYs⟩
          replace kY : IsP w8 (.agg #[.bool (ngB (y).num), .slice AY (digs 10000 (y).num.natAbs).length cY, .slice DY (digs 10000 (y).den).length eY]) (y) := ⟨_, _, rfl, kYs, kYd⟩
          replace BY := BY.grown hg8 (by omega)
          replace bb := bb.trans ((Below.refl _ _).grown hg8 bb.size (fun g hg => by injection hg with hg; omega))
          have hsz8 := bb.size
          have Bq : Blk w8 (g10_6) _ _ := BN8
          have kqs := q4
          have kqd := d4
          have kqz : IsZ w8 (.agg #[.bool (ngB ((x / y)).num), .slice Aq (digs 4294967296 ((x / y)).num.natAbs).length cq]) (((x / y)).num) := ⟨_, rfl, kqs⟩
          have kq : IsQ w8 (.agg #[.bool (ngB ((x / y)).num), .slice Aq (digs 4294967296 ((x / y)).num.natAbs).length cq, .slice Dq (digs 4294967296 ((x / y)).den).length eq]) ((x / y)) := ⟨_, _, rfl, kqs, kqd⟩
          refine ops_assign (i := 8) (.int .i64 0) rfl rfl rfl rfl rfl fun b hbf => ?_
          simp only [Act.put, List.setIfInBounds_toArray, List.set_cons_zero, List.set_cons_succ] at hbf
          subst hbf
          refine ops_done ?_
          go_upto_region 4 with (fail)
          have lt8_2 := Blk.lt Bx
          have lt8_3 := Blk.lt By
          have lt8_5 := Blk.lt BX
          have lt8_6 := Blk.lt BY
          have lt8_7 := Blk.lt Bq
          refine flowp 6 [Pd.eq (.agg #[.bool (ngB (y).num), .slice Ay (digs 4294967296 (y).num.natAbs).length cy, .slice Dy (digs 4294967296 (y).den).length ey]), pqe ((y)⁻¹) 0, pqe ((y)⁻¹) 0, pqn ((y)⁻¹), Pd.eq (.int .i64 0), pn 27 #[.bool false, .slice none 0 0, .slice none 0 0] w8.heap.size] (by kernel_rfl) ?ob11 ?done11
          case ob11 =>
            refine And.intro (ob_load rfl (wt_none rfl) (ev_far rfl rfl) (fun w2 hb => run_loadAll Tryz.underlying27 rfl (by kernel_rfl) (By.below hb)) (fun _ _ => rfl)) ?_
            refine And.intro (ob_call1 rfl Tryz.func23 (by kernel_rfl) (wt_none rfl) (ev_dep (j := 0) (by kernel_rfl) rfl rfl) (fun w2 u0 hb h0 => by obtain rfl := h0; exact (finv_ok _ _ _ (ky.below hb) (ly.mono (by decide)) hy0).mono fun e w3 h => RetQE.pd h)) ?_
            refine And.intro (ob_move rfl (wt_none rfl) (ev_dep (j := 1) (by kernel_rfl) rfl rfl) (fun _ _ h => h)) ?_
            refine And.intro (ob_extract rfl (wt_none rfl) (ev_dep (j := 2) (by kernel_rfl) rfl rfl) (fun w2 u hu => by obtain ⟨v, rfl, q1⟩ := hu; exact ⟨v, rfl, q1⟩)) ?_
            refine And.intro (ob_extract rfl (wt_none rfl) (ev_dep (j := 2) (by kernel_rfl) rfl rfl) (fun w2 u hu => by obtain ⟨v, rfl, q1⟩ := hu; exact ⟨_, rfl, rfl⟩)) ?_
            refine And.intro (ob_alloc (z := .agg #[.bool false, .slice none 0 0, .slice none 0 0]) rfl rfl (fun _ => by kernel_rfl) (fun _ _ hB h => ⟨_, rfl, hB, h⟩)) ?_
            trivial
          case done11 =>
            refine fun w9 hb9 v0 h0 v1 h1 v2 h2 v3 h3 v4 h4 v5 h5 d5 b hbf => ?_
            obtain rfl := h0; obtain rfl := h4
            clear h1
            clear h2
            have q3 := h3
            obtain ⟨g11_5, rfl, hg5, B5⟩ := h5
            simp only [Act.put, List.setIfInBounds_toArray, List.set_cons_zero, List.set_cons_succ] at hbf
            subst hbf
            replace Bx := Bx.below hb9
            replace kxs := kxs.below hb9
            replace kxd := kxd.below hb9
            replace kxz := kxz.below hb9
            replace kx := kx.below hb9
            replace By := By.below hb9
            replace kys := kys.below hb9
            replace kyd := kyd.below hb9
            replace kyz := kyz.below hb9
            replace ky := ky.below hb9
            replace BX := BX.below hb9
            replace kXs := kXs.below hb9
            replace kXd := kXd.below hb9
            replace kXz := kXz.below hb9
            replace kX := kX.below hb9
            replace BY := BY.below hb9
            replace kYs := kYs.below hb9
            replace kYd := kYd.below hb9
            replace kYz := kYz.below hb9
            replace kY := kY.below hb9
            replace Bq := Bq.below hb9
            replace kqs := kqs.below hb9
            replace kqd := kqd.below hb9
            replace kqz := kqz.below hb9
            replace kq := kq.below hb9
            replace bb := bb.trans (hb9.mono bb.size)
            have hsz9 := bb.size
            have BA9 := B5
            obtain ⟨u3, t3, rfl, q3, d3⟩ := q3
            obtain ⟨Ai, ci, rfl, _⟩ := id q3
            obtain ⟨Di, ei, rfl, _⟩ := id d3
            refine ops_store (i := 6) rfl rfl rfl rfl rfl rfl (cells := [.bool (ngB ((y)⁻¹).num), .slice Ai (digs 4294967296 ((y)⁻¹).num.natAbs).length ci, .slice Di (digs 4294967296 ((y)⁻¹).den).length ei]) rfl BA9 rfl (by kernel_rfl) (one3 rfl rfl rfl) fun w10 hg10 BN10 => ?_
            replace q3 := off q3 BA9 no_ints3 hg10
            replace d3 := off d3 BA9 no_ints3 hg10
            replace kxs := off kxs BA9 no_ints3 hg10
            replace kxd := off kxd BA9 no_ints3 hg10
            replace kxz : IsZ w10 (.agg #[.bool (ngB (x).num), .slice Ax (digs 4294967296 (x).num.natAbs).length cx]) ((x).num) := ⟨_, rfl, kxs⟩
            replace kx : IsQ w10 (.agg #[.bool (ngB (x).num), .slice Ax (digs 4294967296 (x).num.natAbs).length cx, .slice Dx (digs 4294967296 (x).den).length ex]) (x) := ⟨_, _, rfl, kxs, kxd⟩
            replace Bx := Bx.grown hg10 (by omega)
            replace kys := off kys BA9 no_ints3 hg10
            replace kyd := off kyd BA9 no_ints3 hg10
            replace kyz : IsZ w10 (.agg #[.bool (ngB (y).num), .slice Ay (digs 4294967296 (y).num.natAbs).length cy]) ((y).num) := ⟨_, rfl, kys⟩
            replace ky : IsQ w10 (.agg #[.bool (ngB (y).num), .slice Ay (digs 4294967296 (y).num.natAbs).length cy, .slice Dy (digs 4294967296 (y).den).length ey]) (y) := ⟨_, _, rfl, kys, kyd⟩
            replace By := By.grown hg10 (by omega)
            replace kXs := off kXs BA9 no_ints3 hg10
            replace kXd := off kXd BA9 no_ints3 hg10
            replace kXz : IsR w10 (.agg #[.bool (ngB (x).num), .slice AX (digs 10000 (x).num.natAbs).length cX]) ((x).num) := ⟨_, rfl, kXs⟩
            replace kX : IsP w10 (.agg #[.bool (ngB (x).num), .slice AX (digs 10000 (x).num.natAbs).length cX, .slice DX (digs 10000 (x).den).length eX]) (x) := ⟨_, _, rfl, kXs, kXd⟩
            replace BX := BX.grown hg10 (by omega)
            replace kYs := off kYs BA9 no_ints3 hg10
            replace kYd := off kYd BA9 no_ints3 hg10
            replace kYz : IsR w10 (.agg #[.bool (ngB (y).num), .slice AY (digs 10000 (y).num.natAbs).length cY]) ((y).num) := ⟨_, rfl, kYs⟩
            replace kY : IsP w10 (.agg #[.bool (ngB (y).num), .slice AY (digs 10000 (y).num.natAbs).length cY, .slice DY (digs 10000 (y).den).length eY]) (y) := ⟨_, _, rfl, kYs, kYd⟩
            replace BY := BY.grown hg10 (by omega)
            replace kqs := off kqs BA9 no_ints3 hg10
            replace kqd := off kqd BA9 no_ints3 hg10
            replace kqz : IsZ w10 (.agg #[.bool (ngB ((x / y)).num), .slice Aq (digs 4294967296 ((x / y)).num.natAbs).length cq]) (((x / y)).num) := ⟨_, rfl, kqs⟩
            replace kq : IsQ w10 (.agg #[.bool (ngB ((x / y)).num), .slice Aq (digs 4294967296 ((x / y)).num.natAbs).length cq, .slice Dq (digs 4294967296 ((x / y)).den).length eq]) ((x / y)) := ⟨_, _, rfl, kqs, kqd⟩
            replace Bq := Bq.grown hg10 (by omega)
            replace bb := bb.trans ((Below.refl _ _).grown hg10 bb.size (fun g hg => by injection hg with hg; omega))
            have hsz10 := bb.size
            have Bi : Blk w10 (g11_5) _ _ := BN10
            have kis := q3
            have kid := d3
            have kiz : IsZ w10 (.agg #[.bool (ngB ((y)⁻¹).num), .slice Ai (digs 4294967296 ((y)⁻¹).num.natAbs).length ci]) (((y)⁻¹).num) := ⟨_, rfl, kis⟩
            have ki : IsQ w10 (.agg #[.bool (ngB ((y)⁻¹).num), .slice Ai (digs 4294967296 ((y)⁻¹).num.natAbs).length ci, .slice Di (digs 4294967296 ((y)⁻¹).den).length ei]) ((y)⁻¹) := ⟨_, _, rfl, kis, kid⟩
            refine ops_assign (i := 7) (.int .i64 0) rfl rfl rfl rfl rfl fun b hbf => ?_
            simp only [Act.put, List.setIfInBounds_toArray, List.set_cons_zero, List.set_cons_succ] at hbf
            subst hbf
            refine ops_done ?_
            go_upto_region 5 with (fail)
            refine flowp 2 [Pd.eq (.agg #[.bool (ngB (y).num), .slice AY (digs 10000 (y).num.natAbs).length cY, .slice DY (digs 10000 (y).den).length eY]), Pd.eq (.bool false)] (by kernel_rfl) ?ob12 ?done12
            case ob12 =>
              refine And.intro (ob_load rfl (wt_none rfl) (ev_far rfl rfl) (fun w2 hb => run_loadAll Tryz.underlying34 rfl (by kernel_rfl) (BY.below hb)) (fun _ _ => rfl)) ?_
              refine And.intro (ob_call1 rfl Tryz.func24 (by kernel_rfl) (wt_none rfl) (ev_dep (j := 0) (by kernel_rfl) rfl rfl) (fun w2 u0 hb h0 => by obtain rfl := h0; exact (qzero_any _ (y) false _ (kY.below hb) (decide_eq_false hy0).symm).mono fun e w3 h => RetV.pd h)) ?_
              trivial
            case done12 =>
              refine fun w11 hb11 v0 h0 v1 h1 b hbf => ?_
              obtain rfl := h0; obtain rfl := h1
              simp only [Act.put, List.setIfInBounds_toArray, List.set_cons_zero, List.set_cons_succ] at hbf
              subst hbf
              replace Bx := Bx.below hb11
              replace kxs := kxs.below hb11
              replace kxd := kxd.below hb11
              replace kxz := kxz.below hb11
              replace kx := kx.below hb11
              replace By := By.below hb11
              replace kys := kys.below hb11
              replace kyd := kyd.below hb11
              replace kyz := kyz.below hb11
              replace ky := ky.below hb11
              replace BX := BX.below hb11
              replace kXs := kXs.below hb11
              replace kXd := kXd.below hb11
              replace kXz := kXz.below hb11
              replace kX := kX.below hb11
              replace BY := BY.below hb11
              replace kYs := kYs.below hb11
              replace kYd := kYd.below hb11
              replace kYz := kYz.below hb11
              replace kY := kY.below hb11
              replace Bq := Bq.below hb11
              replace kqs := kqs.below hb11
              replace kqd := kqd.below hb11
              replace kqz := kqz.below hb11
              replace kq := kq.below hb11
              replace Bi := Bi.below hb11
              replace kis := kis.below hb11
              replace kid := kid.below hb11
              replace kiz := kiz.below hb11
              replace ki := ki.below hb11
              replace bb := bb.trans (hb11.mono bb.size)
              have hsz11 := bb.size
              refine ops_done ?_
              go_upto_region 7 with (fail)
              refine flow 33 [Pd.eq (.int .i64 0), Pd.eq (.bool true), Pd.eq (.bool true), Pd.eq (.int .i64 0), Pd.eq (.bool true), Pd.eq (.bool true), Pd.eq (.bool true), Pd.eq (.agg #[.bool (ngB ((x / y)).num), .slice Aq (digs 4294967296 ((x / y)).num.natAbs).length cq, .slice Dq (digs 4294967296 ((x / y)).den).length eq]), Pd.eq (.agg #[.bool (ngB (x).num), .slice AX (digs 10000 (x).num.natAbs).length cX, .slice DX (digs 10000 (x).den).length eX]), Pd.eq (.agg #[.bool (ngB (y).num), .slice AY (digs 10000 (y).num.natAbs).length cY, .slice DY (digs 10000 (y).den).length eY]), pp ((x / y)), pqn ((x / y)), Pd.eq (.bool true), Pd.eq (.bool true), Pd.eq (.bool true), Pd.eq (.agg #[.bool (ngB ((y)⁻¹).num), .slice Ai (digs 4294967296 ((y)⁻¹).num.natAbs).length ci, .slice Di (digs 4294967296 ((y)⁻¹).den).length ei]), Pd.eq (.agg #[.bool (ngB (y).num), .slice AY (digs 10000 (y).num.natAbs).length cY, .slice DY (digs 10000 (y).den).length eY]), pp ((y)⁻¹), pqn ((y)⁻¹), Pd.eq (.bool true), Pd.eq (.bool true), Pd.eq (.bool true), Pd.eq (.agg #[.bool (ngB (x).num), .slice Ax (digs 4294967296 (x).num.natAbs).length cx, .slice Dx (digs 4294967296 (x).den).length ex]), pqn ((-x)), Pd.eq (.agg #[.bool (ngB (x).num), .slice AX (digs 10000 (x).num.natAbs).length cX, .slice DX (digs 10000 (x).den).length eX]), pp ((-x)), pqn ((-x)), Pd.eq (.bool true), Pd.eq (.bool true), Pd.eq (.bool true), Pd.eq (.bool true), Pd.eq (.bool true), Pd.eq (.bool true)] (by kernel_rfl) (by kernel_rfl) ?ob13 ?done13
              case ob13 =>
                refine And.intro (ob_move rfl (wt_none rfl) (ev_far rfl rfl) (fun _ _ h => h)) ?_
                refine And.intro (ob_bin rfl (wt_none rfl) (ev_dep (j := 0) (by kernel_rfl) rfl rfl) (ev_const _) (fun _ _ _ hx hy => ⟨.bool ((0 : Int) == 0), by rw [hx, hy]; exact bin_eql_int _ _ _ _ _, congrArg Value.bool (by decide)⟩)) ?_
                refine And.intro (ob_move rfl (wt_none rfl) (ev_dep (j := 1) (by kernel_rfl) rfl rfl) (fun _ _ h => h)) ?_
                refine And.intro (ob_move rfl (wt_dep (c := true) (b := true) (g := 2) rfl (by kernel_rfl) rfl rfl rfl (by exact fun _ _ h => h)) (ev_far rfl rfl) (fun _ _ h => h)) ?_
                refine And.intro (ob_bin rfl (wt_dep (c := true) (b := true) (g := 2) rfl (by kernel_rfl) rfl rfl rfl (by exact fun _ _ h => h)) (ev_dep (j := 3) (by kernel_rfl) rfl rfl) (ev_const _) (fun _ _ _ hx hy => ⟨.bool ((0 : Int) == 0), by rw [hx, hy]; exact bin_eql_int _ _ _ _ _, congrArg Value.bool (by decide)⟩)) ?_
                refine And.intro (ob_pick (b := true) rfl (wt_none rfl) (ev_dep (j := 2) (by kernel_rfl) rfl rfl) (ev_dep (j := 4) (by kernel_rfl) rfl rfl) (fun _ _ h => h)) ?_
                refine And.intro (ob_move rfl (wt_none rfl) (ev_dep (j := 5) (by kernel_rfl) rfl rfl) (fun _ _ h => h)) ?_
                refine And.intro (ob_load rfl (wt_dep (c := true) (b := true) (g := 6) rfl (by kernel_rfl) rfl rfl rfl (by exact fun _ _ h => h)) (ev_far rfl rfl) (fun w2 hb => run_loadAll Tryz.underlying27 rfl (by kernel_rfl) (Bq.drew.below hb)) (fun _ _ => rfl)) ?_
                refine And.intro (ob_load rfl (wt_dep (c := true) (b := true) (g := 6) rfl (by kernel_rfl) rfl rfl rfl (by exact fun _ _ h => h)) (ev_far rfl rfl) (fun w2 hb => run_loadAll Tryz.underlying34 rfl (by kernel_rfl) (BX.drew.below hb)) (fun _ _ => rfl)) ?_
                refine And.intro (ob_load rfl (wt_dep (c := true) (b := true) (g := 6) rfl (by kernel_rfl) rfl rfl rfl (by exact fun _ _ h => h)) (ev_far rfl rfl) (fun w2 hb => run_loadAll Tryz.underlying34 rfl (by kernel_rfl) (BY.drew.below hb)) (fun _ _ => rfl)) ?_
                refine And.intro (ob_call2 rfl Tryz.func25 (by kernel_rfl) (wt_dep (c := true) (b := true) (g := 6) rfl (by kernel_rfl) rfl rfl rfl (by exact fun _ _ h => h)) (ev_dep (j := 8) (by kernel_rfl) rfl rfl) (ev_dep (j := 9) (by kernel_rfl) rfl rfl) (fun w2 u0 u1 hb h0 h1 => by obtain rfl := h0; obtain rfl := h1; exact (qdiv_any _ _ _ _ _ (kX.drew.below hb) (kY.drew.below hb) (lx.mono (by decide)) (ly.mono (by decide)) hy0).mono fun e w3 h => RetPF.pd h)) ?_
                refine And.intro (ob_call1 rfl Tryz.func10 (by kernel_rfl) (wt_dep (c := true) (b := true) (g := 6) rfl (by kernel_rfl) rfl rfl rfl (by exact fun _ _ h => h)) (ev_dep (j := 10) (by kernel_rfl) rfl rfl) (fun w2 u0 hb h0 => by exact (qback_any _ _ _ h0 ((lenQ_div hy0 lx ly).mono (by decide))).mono fun e w3 h => RetQn.pd (RetQ.n h))) ?_
                refine And.intro (ob_call2 rfl Tryz.func8 (by kernel_rfl) (wt_dep (c := true) (b := true) (g := 6) rfl (by kernel_rfl) rfl rfl rfl (by exact fun _ _ h => h)) (ev_dep (j := 7) (by kernel_rfl) rfl rfl) (ev_dep (j := 11) (by kernel_rfl) rfl rfl) (fun w2 u0 u1 hb h0 h1 => by obtain rfl := h0; exact (qsame_eq _ _ ((x / y)) ((x / y)) _ (kq.drew.below hb) h1 rfl).mono fun e w3 h => RetV.pd h)) ?_
                refine And.intro (ob_pick (b := true) rfl (wt_none rfl) (ev_dep (j := 6) (by kernel_rfl) rfl rfl) (ev_dep (j := 12) (by kernel_rfl) rfl rfl) (fun _ _ h => h)) ?_
                refine And.intro (ob_move rfl (wt_none rfl) (ev_dep (j := 13) (by kernel_rfl) rfl rfl) (fun _ _ h => h)) ?_
                refine And.intro (ob_load rfl (wt_dep (c := true) (b := true) (g := 14) rfl (by kernel_rfl) rfl rfl rfl (by exact fun _ _ h => h)) (ev_far rfl rfl) (fun w2 hb => run_loadAll Tryz.underlying27 rfl (by kernel_rfl) (Bi.drew.below hb)) (fun _ _ => rfl)) ?_
                refine And.intro (ob_load rfl (wt_dep (c := true) (b := true) (g := 14) rfl (by kernel_rfl) rfl rfl rfl (by exact fun _ _ h => h)) (ev_far rfl rfl) (fun w2 hb => run_loadAll Tryz.underlying34 rfl (by kernel_rfl) (BY.drew.below hb)) (fun _ _ => rfl)) ?_
                refine And.intro (ob_call1 rfl Tryz.func26 (by kernel_rfl) (wt_dep (c := true) (b := true) (g := 14) rfl (by kernel_rfl) rfl rfl rfl (by exact fun _ _ h => h)) (ev_dep (j := 16) (by kernel_rfl) rfl rfl) (fun w2 u0 hb h0 => by obtain rfl := h0; exact (qinv_any _ _ _ (kY.drew.below hb) hy0).mono fun e w3 h => RetP.pd h)) ?_
                refine And.intro (ob_call1 rfl Tryz.func10 (by kernel_rfl) (wt_dep (c := true) (b := true) (g := 14) rfl (by kernel_rfl) rfl rfl rfl (by exact fun _ _ h => h)) (ev_dep (j := 17) (by kernel_rfl) rfl rfl) (fun w2 u0 hb h0 => by exact (qback_any _ _ _ h0 ((lenQ_inv hy0 ly).mono (by decide))).mono fun e w3 h => RetQn.pd (RetQ.n h))) ?_
                refine And.intro (ob_call2 rfl Tryz.func8 (by kernel_rfl) (wt_dep (c := true) (b := true) (g := 14) rfl (by kernel_rfl) rfl rfl rfl (by exact fun _ _ h => h)) (ev_dep (j := 15) (by kernel_rfl) rfl rfl) (ev_dep (j := 18) (by kernel_rfl) rfl rfl) (fun w2 u0 u1 hb h0 h1 => by obtain rfl := h0; exact (qsame_eq _ _ ((y)⁻¹) ((y)⁻¹) _ (ki.drew.below hb) h1 rfl).mono fun e w3 h => RetV.pd h)) ?_
                refine And.intro (ob_pick (b := true) rfl (wt_none rfl) (ev_dep (j := 14) (by kernel_rfl) rfl rfl) (ev_dep (j := 19) (by kernel_rfl) rfl rfl) (fun _ _ h => h)) ?_
                refine And.intro (ob_move rfl (wt_none rfl) (ev_dep (j := 20) (by kernel_rfl) rfl rfl) (fun _ _ h => h)) ?_
                refine And.intro (ob_load rfl (wt_dep (c := true) (b := true) (g := 21) rfl (by kernel_rfl) rfl rfl rfl (by exact fun _ _ h => h)) (ev_far rfl rfl) (fun w2 hb => run_loadAll Tryz.underlying27 rfl (by kernel_rfl) (Bx.drew.below hb)) (fun _ _ => rfl)) ?_
                refine And.intro (ob_call1 rfl Tryz.func27 (by kernel_rfl) (wt_dep (c := true) (b := true) (g := 21) rfl (by kernel_rfl) rfl rfl rfl (by exact fun _ _ h => h)) (ev_dep (j := 22) (by kernel_rfl) rfl rfl) (fun w2 u0 hb h0 => by obtain rfl := h0; exact (fneg_any _ _ _ (kx.drew.below hb) (lx.mono (by decide))).mono fun e w3 h => RetQn.pd h)) ?_
                refine And.intro (ob_load rfl (wt_dep (c := true) (b := true) (g := 21) rfl (by kernel_rfl) rfl rfl rfl (by exact fun _ _ h => h)) (ev_far rfl rfl) (fun w2 hb => run_loadAll Tryz.underlying34 rfl (by kernel_rfl) (BX.drew.below hb)) (fun _ _ => rfl)) ?_
                refine And.intro (ob_call1 rfl Tryz.func28 (by kernel_rfl) (wt_dep (c := true) (b := true) (g := 21) rfl (by kernel_rfl) rfl rfl rfl (by exact fun _ _ h => h)) (ev_dep (j := 24) (by kernel_rfl) rfl rfl) (fun w2 u0 hb h0 => by obtain rfl := h0; exact (qneg_any _ _ _ (kX.drew.below hb) ).mono fun e w3 h => RetP.pd h)) ?_
                refine And.intro (ob_call1 rfl Tryz.func10 (by kernel_rfl) (wt_dep (c := true) (b := true) (g := 21) rfl (by kernel_rfl) rfl rfl rfl (by exact fun _ _ h => h)) (ev_dep (j := 25) (by kernel_rfl) rfl rfl) (fun w2 u0 hb h0 => by exact (qback_any _ _ _ h0 ((lenQ_neg lx).mono (by decide))).mono fun e w3 h => RetQn.pd (RetQ.n h))) ?_
                refine And.intro (ob_call2 rfl Tryz.func8 (by kernel_rfl) (wt_dep (c := true) (b := true) (g := 21) rfl (by kernel_rfl) rfl rfl rfl (by exact fun _ _ h => h)) (ev_dep (j := 23) (by kernel_rfl) rfl rfl) (ev_dep (j := 26) (by kernel_rfl) rfl rfl) (fun w2 u0 u1 hb h0 h1 => by exact (qsame_eq _ _ ((-x)) ((-x)) _ h0 h1 rfl).mono fun e w3 h => RetV.pd h)) ?_
                refine And.intro (ob_pick (b := true) rfl (wt_none rfl) (ev_dep (j := 21) (by kernel_rfl) rfl rfl) (ev_dep (j := 27) (by kernel_rfl) rfl rfl) (fun _ _ h => h)) ?_
                refine And.intro (ob_move rfl (wt_none rfl) (ev_dep (j := 28) (by kernel_rfl) rfl rfl) (fun _ _ h => h)) ?_
                refine And.intro (ob_call0 rfl Tryz.func21 (by kernel_rfl) (wt_dep (c := true) (b := true) (g := 29) rfl (by kernel_rfl) rfl rfl rfl (by exact fun _ _ h => h)) (fun w2 hb => (works8_any _).mono fun e w3 h => RetV.pd h)) ?_
                refine And.intro (ob_pick (b := true) rfl (wt_none rfl) (ev_dep (j := 29) (by kernel_rfl) rfl rfl) (ev_dep (j := 30) (by kernel_rfl) rfl rfl) (fun _ _ h => h)) ?_
                refine And.intro (ob_assign rfl (wt_none rfl) (ev_dep (j := 31) (by kernel_rfl) rfl rfl) (fun _ _ h => h)) ?_
                trivial
              case done13 =>
                refine fun w12 hb12 v0 h0 v1 h1 v2 h2 v3 h3 v4 h4 v5 h5 v6 h6 v7 h7 v8 h8 v9 h9 v10 h10 v11 h11 v12 h12 v13 h13 v14 h14 v15 h15 v16 h16 v17 h17 v18 h18 v19 h19 v20 h20 v21 h21 v22 h22 v23 h23 v24 h24 v25 h25 v26 h26 v27 h27 v28 h28 v29 h29 v30 h30 v31 h31 v32 h32 b hbf => ?_
                obtain rfl := h0; obtain rfl := h1; obtain rfl := h2; obtain rfl := h3; obtain rfl := h4; obtain rfl := h5; obtain rfl := h6; obtain rfl := h7; obtain rfl := h8; obtain rfl := h9; obtain rfl := h12; obtain rfl := h13; obtain rfl := h14; obtain rfl := h15; obtain rfl := h16; obtain rfl := h19; obtain rfl := h20; obtain rfl := h21; obtain rfl := h22; obtain rfl := h24; obtain rfl := h27; obtain rfl := h28; obtain rfl := h29; obtain rfl := h30; obtain rfl := h31; obtain rfl := h32
                have q10 := h10
                have q11 := h11
                have q17 := h17
                have q18 := h18
                have q23 := h23
                have q25 := h25
                have q26 := h26
                simp only [Act.put, List.setIfInBounds_toArray, List.set_cons_zero, List.set_cons_succ] at hbf
                subst hbf
                replace Bx := Bx.below hb12
                replace kxs := kxs.below hb12
                replace kxd := kxd.below hb12
                replace kxz := kxz.below hb12
                replace kx := kx.below hb12
                replace By := By.below hb12
                replace kys := kys.below hb12
                replace kyd := kyd.below hb12
                replace kyz := kyz.below hb12
                replace ky := ky.below hb12
                replace BX := BX.below hb12
                replace kXs := kXs.below hb12
                replace kXd := kXd.below hb12
                replace kXz := kXz.below hb12
                replace kX := kX.below hb12
                replace BY := BY.below hb12
                replace kYs := kYs.below hb12
                replace kYd := kYd.below hb12
                replace kYz := kYz.below hb12
                replace kY := kY.below hb12
                replace Bq := Bq.below hb12
                replace kqs := kqs.below hb12
                replace kqd := kqd.below hb12
                replace kqz := kqz.below hb12
                replace kq := kq.below hb12
                replace Bi := Bi.below hb12
                replace kis := kis.below hb12
                replace kid := kid.below hb12
                replace kiz := kiz.below hb12
                replace ki := ki.below hb12
                replace bb := bb.trans (hb12.mono bb.size)
                have hsz12 := bb.size
                refine any_done (by kernel_rfl) ?_
                go_wp2
                go_ret
                exact ⟨rfl, bb⟩

set_option maxRecDepth 100000 in
theorem lifted (os : Os) (started : os.Started) (H : Type) (enc : TypeId × Value → H) :
    ReturnsInHanded {} Tryz.checked os 4 .any (Rows.ratDivsSpec.pre6 enc Tryz.prog Tryz.f4 Rows.ratDivsRow.domain false) (Rows.ratDivsSpec.post enc Tryz.prog Tryz.f4 false true false false) := by
  refine returnsInHanded_of_change (C := Tryz.checked) own started (by kernel_rfl) Tryz.func4
    (ChangeSpec.witness6 (enc := enc) (C := Tryz.checked) false ⟨#[], #[.agg #[.bool false, .slice none 0 0, .slice none 0 0], .agg #[.bool false, .slice none 0 0, .slice none 0 0]], []⟩ 8 (by kernel_rfl) (by kernel_rfl) (by kernel_rfl) (by kernel_rfl)) ?_
  intro W base args ds gs before hval0 hW hcnd _
  have hval : ∀ (j : Nat) t v, Tryz.f4.params[j]? = some t → args[j]? = some v → Value.okWide Tryz.prog W .any base t v := hval0
  have hW' := hW
  obtain ⟨p, q, hA0, hV, rfl, hfz, hnd⟩ := hW
  have hA : DataW.TrodAll enc Tryz.prog W 0 (fun _ => true) true Tryz.f4.params.toList args.toList ds p := hA0
  rw [Tryz.params4] at hA hval
  obtain ⟨v0, vs0, d0, ds0, p0, q0, hargs, rfl, rfl, t0, r0⟩ := trodAll_cons hA
  obtain ⟨v1, vs1, d1, ds1, p1, q1, rfl, rfl, rfl, t1, r1⟩ := trodAll_cons r0
  obtain ⟨rfl, rfl, rfl⟩ := trodAll_nil r1
  obtain rfl : args = #[v0, v1] := by cases args; simp_all
  obtain ⟨rfl, rfl⟩ := trodVars_none hV
  obtain ⟨b0, x0, r0_, l0, m0, rfl, hs0, hu0, hj0, hx0⟩ := arg_q Tryz.underlying27 (by kernel_rfl) (by kernel_rfl) Tryz.underlying25 (by kernel_rfl) Tryz.underlying4 Tryz.underlying23 Tryz.underlying23 Tryz.underlying55 cells_u (hval 0 27 v0 rfl rfl) t0
  obtain ⟨b1, x1, r1_, l1, m1, rfl, hs1, hu1, hj1, hx1⟩ := arg_q Tryz.underlying27 (by kernel_rfl) (by kernel_rfl) Tryz.underlying25 (by kernel_rfl) Tryz.underlying4 Tryz.underlying23 Tryz.underlying23 Tryz.underlying55 cells_u (hval 1 27 v1 rfl rfl) t1
  clear hA0 hval0
  simp only [List.append_nil] at hW'
  have hlt0 : ∀ x ∈ p0, x.block < W.heap.size := fun x hx => hW'.lt x (List.mem_append_left _ hx)
  have hlt1 : ∀ x ∈ p1, x.block < W.heap.size := fun x hx => hW'.lt x (List.mem_append_right _ (hx))
  refine (walk b0 x0 r0_ l0 m0 b1 x1 r1_ l1 m1 W hs0 hu0 hj0 hx0 hs1 hu1 hj1 hx1).mono fun e W' ⟨he, hb⟩ => ?_
  subst he
  have s0 := Below.trod laidOut (by kernel_rfl) (of_decide_eq_true (by kernel_rfl)) t0 hb hlt0
  have s1 := Below.trod laidOut (by kernel_rfl) (of_decide_eq_true (by kernel_rfl)) t1 hb hlt1
  exact ⟨_, rfl, _, _, _, [] ++ [], _, [], hW', trodAll_cons_mk (shut_bool Tryz.underlying4 _) trodAll_mk0, trodAll_cons_mk s0 (trodAll_cons_mk s1 (trodAll_mk0)), rfl, hb.frame _, fun h => by cases h⟩

theorem over : Rows.ratDivsRow.holds Tryz.pinned (OpenSpec.ofChange Rows.ratDivsSpec) :=
  OpenClaim.holds_of_wide 4 Tryz.f4 rfl rfl rfl rfl rfl rfl rfl ⟨rfl, rfl, rfl, rfl, rfl⟩ rfl rfl rfl rfl rfl (by kernel_rfl) Tryz.func4 (by kernel_rfl)
    (of_decide_eq_true (by kernel_rfl)) (by unfold Func.isWrapper; first | (rw [if_pos (by decide +kernel)]; kernel_rfl) | (rw [if_neg (by decide +kernel)]; exact ⟨rfl, rfl⟩))
    (fun os started H enc _ => lifted os started H enc)

/-- The statement. -/
theorem proved : Rows.RatDivsSaid := over
end Go.Proofs.YtbebmknfecehnaaGreat.ratDivs
