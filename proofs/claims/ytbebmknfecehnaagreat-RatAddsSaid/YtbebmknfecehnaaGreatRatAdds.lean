/- RatAdds: any two fractions are compared, added, taken off and multiplied as the document says. Condition: the arguments can be read as data. -/
import Derived.Test.YtbebmknfecehnaaGreatRatW
import Derived.Test.YtbebmknfecehnaaGreatRatE
import Derived.Deep.Cut
import Derived.OpenShut
import Derived.LaidMore
import Derived.Lay
import Derived.Stop.Joined
import Derived.Test.YtbebmknfecehnaaGreatRatF
namespace Go.Proofs.YtbebmknfecehnaaGreat.ratAdds
open Go.ChangeShapes Go.WideShapes Go.ChangeAt Go.RowKit Go.Proofs.YtbebmknfecehnaaGreat.num Go.Proofs.YtbebmknfecehnaaGreat.mem Go.Proofs.YtbebmknfecehnaaGreat.nat Go.Proofs.YtbebmknfecehnaaGreat.txt Go.Proofs.YtbebmknfecehnaaGreat.str Go.Proofs.YtbebmknfecehnaaGreat.flow Go.Proofs.YtbebmknfecehnaaGreat.whl Go.Proofs.YtbebmknfecehnaaGreat.rat
set_option linter.unusedVariables false

theorem own : ownKnob Tryz.prog.godebug = none := by kernel_rfl
theorem laidOut : laidOutB Tryz.prog = true := by kernel_rfl
theorem cells_u : Tryz.prog.cellsOf 55 = 1 := by kernel_rfl


set_option maxHeartbeats 6400000 in
set_option maxRecDepth 100000 in
/-- The walk: the Go text returns true; what was there is as it was. -/
theorem walk (b0 : Bool) (v0 r0 : Value) (l0 m0 : List Nat) (b1 : Bool) (v1 r1 : Value) (l1 m1 : List Nat) (w : World) (h0 : IsS w .u64 v0 l0) (u0 : Lt 18446744073709551616 l0) (j0 : IsS w .u64 r0 m0) (x0 : Lt 18446744073709551616 m0) (h1 : IsS w .u64 v1 l1) (u1 : Lt 18446744073709551616 l1) (j1 : IsS w .u64 r1 m1) (x1 : Lt 18446744073709551616 m1) :
    Calls Tryz.prog 3 #[.agg #[.bool b0, v0, r0], .agg #[.bool b1, v1, r1]] w (RetV (.bool true) w) := by
  obtain ⟨x, hx0⟩ : ∃ x, x = cleanQ b0 l0 m0 4 := ⟨_, rfl⟩
  have lx : lenQ x 4 := by rw [hx0]; exact cleanQ_len _ _ _ (by omega)
  have HX0 := Lib.hid hx0.symm
  clear hx0
  obtain ⟨y, hx1⟩ : ∃ y, y = cleanQ b1 l1 m1 4 := ⟨_, rfl⟩
  have ly : lenQ y 4 := by rw [hx1]; exact cleanQ_len _ _ _ (by omega)
  have HX1 := Lib.hid hx1.symm
  clear hx1
  obtain ⟨A0, c0, rfl, _⟩ := id h0
  obtain ⟨D0, e0, rfl, _⟩ := id j0
  obtain ⟨A1, c1, rfl, _⟩ := id h1
  obtain ⟨D1, e1, rfl, _⟩ := id j1
  go_enter Tryz.func3, Tryz.ntmps3
  go_upto_region 1 with (fail)
  obtain ⟨w0, hwx, bb, BP0, BP1, hsz⟩ := vars2 w 27 27 #[.bool b0, .slice A0 l0.length c0, .slice D0 m0.length e0] #[.bool b1, .slice A1 l1.length c1, .slice D1 m1.length e1]
  rw [hwx]
  clear hwx
  have p0s := h0.below bb
  have p0d := j0.below bb
  have p1s := h1.below bb
  have p1d := j1.below bb
  have hsz0 := bb.size
  refine flow 4 [Pd.eq (.agg #[.bool b0, .slice A0 l0.length c0, .slice D0 m0.length e0]), pqn x, Pd.eq (.agg #[.bool b1, .slice A1 l1.length c1, .slice D1 m1.length e1]), pqn y] (by kernel_rfl) (by kernel_rfl) ?ob1 ?done1
  case ob1 =>
    refine And.intro (ob_load rfl (wt_none rfl) (ev_far rfl rfl) (fun w2 hb => run_loadAll Tryz.underlying27 rfl (by kernel_rfl) (BP0.drew.below hb)) (fun _ _ => rfl)) ?_
    refine And.intro (ob_call2 rfl Tryz.func6 (by kernel_rfl) (wt_none rfl) (ev_dep (j := 0) (by kernel_rfl) rfl rfl) (ev_const _) (fun w2 u0 u1 hb h0 h1 => by obtain rfl := h0; obtain rfl := h1; exact (HX0.out ▸ qclean_any _ _ _ _ _ _ 4 _ rfl (p0s.drew.below hb) u0 (p0d.drew.below hb) x0 (by omega) (by omega)).mono fun e w3 h => RetQn.pd (RetQ.n h))) ?_
    refine And.intro (ob_load rfl (wt_none rfl) (ev_far rfl rfl) (fun w2 hb => run_loadAll Tryz.underlying27 rfl (by kernel_rfl) (BP1.drew.below hb)) (fun _ _ => rfl)) ?_
    refine And.intro (ob_call2 rfl Tryz.func6 (by kernel_rfl) (wt_none rfl) (ev_dep (j := 2) (by kernel_rfl) rfl rfl) (ev_const _) (fun w2 u0 u1 hb h0 h1 => by obtain rfl := h0; obtain rfl := h1; exact (HX1.out ▸ qclean_any _ _ _ _ _ _ 4 _ rfl (p1s.drew.below hb) u1 (p1d.drew.below hb) x1 (by omega) (by omega)).mono fun e w3 h => RetQn.pd (RetQ.n h))) ?_
    trivial
  case done1 =>
    refine fun w1 hb1 v0 h0 v1 h1 v2 h2 v3 h3 b hbf => ?_
    obtain rfl := h0; obtain rfl := h2
    have q1 := h1
    have q3 := h3
    simp only [Act.put, List.setIfInBounds_toArray, List.set_cons_zero, List.set_cons_succ] at hbf
    subst hbf
    replace BP0 := BP0.below hb1
    replace p0s := p0s.below hb1
    replace p0d := p0d.below hb1
    replace BP1 := BP1.below hb1
    replace p1s := p1s.below hb1
    replace p1d := p1d.below hb1
    replace bb := bb.trans (hb1.mono bb.size)
    have hsz1 := bb.size
    obtain ⟨u1, t1, rfl, q1, d1⟩ := q1
    obtain ⟨Ax, cx, rfl, _⟩ := id q1
    obtain ⟨Dx, ex, rfl, _⟩ := id d1
    obtain ⟨u3, t3, rfl, q3, d3⟩ := q3
    obtain ⟨Ay, cy, rfl, _⟩ := id q3
    obtain ⟨Dy, ey, rfl, _⟩ := id d3
    refine any_store (i := 4) (by kernel_rfl) rfl rfl rfl rfl rfl rfl (cells := [.bool (ngB (x).num), .slice Ax (digs 4294967296 (x).num.natAbs).length cx, .slice Dx (digs 4294967296 (x).den).length ex]) rfl BP0 rfl (by kernel_rfl) (one3 rfl rfl rfl) fun w2 hg2 BN2 => ?_
    replace q3 := off q3 BP0 no_ints3 hg2
    replace d3 := off d3 BP0 no_ints3 hg2
    replace q1 := off q1 BP0 no_ints3 hg2
    replace d1 := off d1 BP0 no_ints3 hg2
    replace p1s := off p1s BP0 no_ints3 hg2
    replace p1d := off p1d BP0 no_ints3 hg2
    replace BP1 := BP1.grown hg2 (by omega)
    replace bb := bb.trans ((Below.refl _ _).grown hg2 bb.size (fun g hg => by injection hg with hg; omega))
    have hsz2 := bb.size
    have Bx : Blk w2 (w.heap.size) _ _ := BN2
    have kxs := q1
    have kxd := d1
    have kxz : IsZ w2 (.agg #[.bool (ngB (x).num), .slice Ax (digs 4294967296 (x).num.natAbs).length cx]) ((x).num) := ⟨_, rfl, kxs⟩
    have kx : IsQ w2 (.agg #[.bool (ngB (x).num), .slice Ax (digs 4294967296 (x).num.natAbs).length cx, .slice Dx (digs 4294967296 (x).den).length ex]) (x) := ⟨_, _, rfl, kxs, kxd⟩
    refine any_store (i := 5) (by kernel_rfl) rfl rfl rfl rfl rfl rfl (cells := [.bool (ngB (y).num), .slice Ay (digs 4294967296 (y).num.natAbs).length cy, .slice Dy (digs 4294967296 (y).den).length ey]) rfl BP1 rfl (by kernel_rfl) (one3 rfl rfl rfl) fun w3 hg3 BN3 => ?_
    replace q3 := off q3 BP1 no_ints3 hg3
    replace d3 := off d3 BP1 no_ints3 hg3
    replace kxs := off kxs BP1 no_ints3 hg3
    replace kxd := off kxd BP1 no_ints3 hg3
    replace kxz : IsZ w3 (.agg #[.bool (ngB (x).num), .slice Ax (digs 4294967296 (x).num.natAbs).length cx]) ((x).num) := ⟨_, rfl, kxs⟩
    replace kx : IsQ w3 (.agg #[.bool (ngB (x).num), .slice Ax (digs 4294967296 (x).num.natAbs).length cx, .slice Dx (digs 4294967296 (x).den).length ex]) (x) := ⟨_, _, rfl, kxs, kxd⟩
    replace Bx := Bx.grown hg3 (by omega)
    replace bb := bb.trans ((Below.refl _ _).grown hg3 bb.size (fun g hg => by injection hg with hg; omega))
    have hsz3 := bb.size
    have By : Blk w3 (w.heap.size + 1) _ _ := BN3
    have kys := q3
    have kyd := d3
    have kyz : IsZ w3 (.agg #[.bool (ngB (y).num), .slice Ay (digs 4294967296 (y).num.natAbs).length cy]) ((y).num) := ⟨_, rfl, kys⟩
    have ky : IsQ w3 (.agg #[.bool (ngB (y).num), .slice Ay (digs 4294967296 (y).num.natAbs).length cy, .slice Dy (digs 4294967296 (y).den).length ey]) (y) := ⟨_, _, rfl, kys, kyd⟩
    refine any_done (by kernel_rfl) ?_
    go_upto_region 2 with (fail)
    have lt3_2 := Blk.lt Bx
    have lt3_3 := Blk.lt By
    refine flow 6 [Pd.eq (.agg #[.bool (ngB (x).num), .slice Ax (digs 4294967296 (x).num.natAbs).length cx, .slice Dx (digs 4294967296 (x).den).length ex]), pp (x), Pd.eq (.agg #[.bool (ngB (y).num), .slice Ay (digs 4294967296 (y).num.natAbs).length cy, .slice Dy (digs 4294967296 (y).den).length ey]), pp (y), pn 34 #[.bool false, .slice none 0 0, .slice none 0 0] w3.heap.size, pn 34 #[.bool false, .slice none 0 0, .slice none 0 0] w3.heap.size] (by kernel_rfl) (by kernel_rfl) ?ob2 ?done2
    case ob2 =>
      refine And.intro (ob_load rfl (wt_none rfl) (ev_far rfl rfl) (fun w2 hb => run_loadAll Tryz.underlying27 rfl (by kernel_rfl) (Bx.drew.below hb)) (fun _ _ => rfl)) ?_
      refine And.intro (ob_call1 rfl Tryz.func7 (by kernel_rfl) (wt_none rfl) (ev_dep (j := 0) (by kernel_rfl) rfl rfl) (fun w2 u0 hb h0 => by obtain rfl := h0; exact (qof_any _ _ _ (kx.drew.below hb) (lx.mono (by decide))).mono fun e w3 h => RetP.pd h)) ?_
      refine And.intro (ob_load rfl (wt_none rfl) (ev_far rfl rfl) (fun w2 hb => run_loadAll Tryz.underlying27 rfl (by kernel_rfl) (By.drew.below hb)) (fun _ _ => rfl)) ?_
      refine And.intro (ob_call1 rfl Tryz.func7 (by kernel_rfl) (wt_none rfl) (ev_dep (j := 2) (by kernel_rfl) rfl rfl) (fun w2 u0 hb h0 => by obtain rfl := h0; exact (qof_any _ _ _ (ky.drew.below hb) (ly.mono (by decide))).mono fun e w3 h => RetP.pd h)) ?_
      refine And.intro (ob_alloc (z := .agg #[.bool false, .slice none 0 0, .slice none 0 0]) rfl rfl (fun _ => by kernel_rfl) (fun _ _ hB h => ⟨_, rfl, hB, h⟩)) ?_
      refine And.intro (ob_alloc (z := .agg #[.bool false, .slice none 0 0, .slice none 0 0]) rfl rfl (fun _ => by kernel_rfl) (fun _ _ hB h => ⟨_, rfl, hB, h⟩)) ?_
      trivial
    case done2 =>
      refine fun w4 hb4 v0 h0 v1 h1 v2 h2 v3 h3 v4 h4 d4 v5 h5 d5 b hbf => ?_
      obtain rfl := h0; obtain rfl := h2
      have q1 := h1
      have q3 := h3
      obtain ⟨g2_4, rfl, hg4, B4⟩ := h4
      obtain ⟨g2_5, rfl, hg5, B5⟩ := h5
      simp only [Act.put, List.setIfInBounds_toArray, List.set_cons_zero, List.set_cons_succ] at hbf
      subst hbf
      replace Bx := Bx.below hb4
      replace kxs := kxs.below hb4
      replace kxd := kxd.below hb4
      replace kxz := kxz.below hb4
      replace kx := kx.below hb4
      replace By := By.below hb4
      replace kys := kys.below hb4
      replace kyd := kyd.below hb4
      replace kyz := kyz.below hb4
      replace ky := ky.below hb4
      replace bb := bb.trans (hb4.mono bb.size)
      have hsz4 := bb.size
      have BA5 := B4
      have BA6 := B5
      have hne4_5 : g2_4 ≠ g2_5 := fun e => d5 (.pointer (some ⟨g2_4, 0, none⟩)) (by simp) (by rw [e])
      obtain ⟨u1, t1, rfl, q1, d1⟩ := q1
      obtain ⟨AX, cX, rfl, _⟩ := id q1
      obtain ⟨DX, eX, rfl, _⟩ := id d1
      obtain ⟨u3, t3, rfl, q3, d3⟩ := q3
      obtain ⟨AY, cY, rfl, _⟩ := id q3
      obtain ⟨DY, eY, rfl, _⟩ := id d3
      refine any_store (i := 6) (by kernel_rfl) rfl rfl rfl rfl rfl rfl (cells := [.bool (ngB (x).num), .slice AX (digs 10000 (x).num.natAbs).length cX, .slice DX (digs 10000 (x).den).length eX]) rfl BA5 rfl (by kernel_rfl) (one3 rfl rfl rfl) fun w5 hg5 BN5 => ?_
      replace q3 := off q3 BA5 no_ints3 hg5
      replace d3 := off d3 BA5 no_ints3 hg5
      replace q1 := off q1 BA5 no_ints3 hg5
      replace d1 := off d1 BA5 no_ints3 hg5
      replace kxs := off kxs BA5 no_ints3 hg5
      replace kxd := off kxd BA5 no_ints3 hg5
      replace kxz : IsZ w5 (.agg #[.bool (ngB (x).num), .slice Ax (digs 4294967296 (x).num.natAbs).length cx]) ((x).num) := ⟨_, rfl, kxs⟩
      replace kx : IsQ w5 (.agg #[.bool (ngB (x).num), .slice Ax (digs 4294967296 (x).num.natAbs).length cx, .slice Dx (digs 4294967296 (x).den).length ex]) (x) := ⟨_, _, rfl, kxs, kxd⟩
      replace Bx := Bx.grown hg5 (by omega)
      replace kys := off kys BA5 no_ints3 hg5
      replace kyd := off kyd BA5 no_ints3 hg5
      replace kyz : IsZ w5 (.agg #[.bool (ngB (y).num), .slice Ay (digs 4294967296 (y).num.natAbs).length cy]) ((y).num) := ⟨_, rfl, kys⟩
      replace ky : IsQ w5 (.agg #[.bool (ngB (y).num), .slice Ay (digs 4294967296 (y).num.natAbs).length cy, .slice Dy (digs 4294967296 (y).den).length ey]) (y) := ⟨_, _, rfl, kys, kyd⟩
      replace By := By.grown hg5 (by omega)
      replace BA6 := BA6.grown hg5 (by omega)
      replace bb := bb.trans ((Below.refl _ _).grown hg5 bb.size (fun g hg => by injection hg with hg; omega))
      have hsz5 := bb.size
      have BX : Blk w5 (g2_4) _ _ := BN5
      have kXs := q1
      have kXd := d1
      have kXz : IsR w5 (.agg #[.bool (ngB (x).num), .slice AX (digs 10000 (x).num.natAbs).length cX]) ((x).num) := ⟨_, rfl, kXs⟩
      have kX : IsP w5 (.agg #[.bool (ngB (x).num), .slice AX (digs 10000 (x).num.natAbs).length cX, .slice DX (digs 10000 (x).den).length eX]) (x) := ⟨_, _, rfl, kXs, kXd⟩
      refine any_store (i := 7) (by kernel_rfl) rfl rfl rfl rfl rfl rfl (cells := [.bool (ngB (y).num), .slice AY (digs 10000 (y).num.natAbs).length cY, .slice DY (digs 10000 (y).den).length eY]) rfl BA6 rfl (by kernel_rfl) (one3 rfl rfl rfl) fun w6 hg6 BN6 => ?_
      replace q3 := off q3 BA6 no_ints3 hg6
      replace d3 := off d3 BA6 no_ints3 hg6
      replace kxs := off kxs BA6 no_ints3 hg6
      replace kxd := off kxd BA6 no_ints3 hg6
      replace kxz : IsZ w6 (.agg #[.bool (ngB (x).num), .slice Ax (digs 4294967296 (x).num.natAbs).length cx]) ((x).num) := ⟨_, rfl, kxs⟩
      replace kx : IsQ w6 (.agg #[.bool (ngB (x).num), .slice Ax (digs 4294967296 (x).num.natAbs).length cx, .slice Dx (digs 4294967296 (x).den).length ex]) (x) := ⟨_, _, rfl, kxs, kxd⟩
      replace Bx := Bx.grown hg6 (by omega)
      replace kys := off kys BA6 no_ints3 hg6
      replace kyd := off kyd BA6 no_ints3 hg6
      replace kyz : IsZ w6 (.agg #[.bool (ngB (y).num), .slice Ay (digs 4294967296 (y).num.natAbs).length cy]) ((y).num) := ⟨_, rfl, kys⟩
      replace ky : IsQ w6 (.agg #[.bool (ngB (y).num), .slice Ay (digs 4294967296 (y).num.natAbs).length cy, .slice Dy (digs 4294967296 (y).den).length ey]) (y) := ⟨_, _, rfl, kys, kyd⟩
      replace By := By.grown hg6 (by omega)
      replace kXs := off kXs BA6 no_ints3 hg6
      replace kXd := off kXd BA6 no_ints3 hg6
      replace kXz : IsR w6 (.agg #[.bool (ngB (x).num), .slice AX (digs 10000 (x).num.natAbs).length cX]) ((x).num) := ⟨_, rfl, kXs⟩
      replace kX : IsP w6 (.agg #[.bool (ngB (x).num), .slice AX (digs 10000 (x).num.natAbs).length cX, .slice DX (digs 10000 (x).den).length eX]) (x) := ⟨_, _, rfl, kXs, kXd⟩
      replace BX := BX.grown hg6 (by omega)
      replace bb := bb.trans ((Below.refl _ _).grown hg6 bb.size (fun g hg => by injection hg with hg; omega))
      have hsz6 := bb.size
      have BY : Blk w6 (g2_5) _ _ := BN6
      have kYs := q3
      have kYd := d3
      have kYz : IsR w6 (.agg #[.bool (ngB (y).num), .slice AY (digs 10000 (y).num.natAbs).length cY]) ((y).num) := ⟨_, rfl, kYs⟩
      have kY : IsP w6 (.agg #[.bool (ngB (y).num), .slice AY (digs 10000 (y).num.natAbs).length cY, .slice DY (digs 10000 (y).den).length eY]) (y) := ⟨_, _, rfl, kYs, kYd⟩
      refine any_done (by kernel_rfl) ?_
      obtain ⟨C, hC⟩ : ∃ C, C = ordq x y := ⟨_, rfl⟩
      have HC := Lib.hid hC
      clear hC
      obtain ⟨E, hE⟩ : ∃ E, E = decide (x = y) := ⟨_, rfl⟩
      have HE := Lib.hid hE
      clear hE
      obtain ⟨S, hS⟩ : ∃ S, S = ordz x.num 0 := ⟨_, rfl⟩
      have HS := Lib.hid hS
      clear hS
      go_upto_region 3 with (fail)
      refine flow 57 [Pd.eq (.agg #[.bool (ngB (x).num), .slice Ax (digs 4294967296 (x).num.natAbs).length cx, .slice Dx (digs 4294967296 (x).den).length ex]), Pd.eq (.agg #[.bool (ngB (y).num), .slice Ay (digs 4294967296 (y).num.natAbs).length cy, .slice Dy (digs 4294967296 (y).den).length ey]), pqn ((x + y)), Pd.eq (.agg #[.bool (ngB (x).num), .slice AX (digs 10000 (x).num.natAbs).length cX, .slice DX (digs 10000 (x).den).length eX]), Pd.eq (.agg #[.bool (ngB (y).num), .slice AY (digs 10000 (y).num.natAbs).length cY, .slice DY (digs 10000 (y).den).length eY]), pp ((x + y)), pqn ((x + y)), Pd.eq (.bool true), Pd.eq (.bool true), Pd.eq (.agg #[.bool (ngB (x).num), .slice Ax (digs 4294967296 (x).num.natAbs).length cx, .slice Dx (digs 4294967296 (x).den).length ex]), Pd.eq (.agg #[.bool (ngB (y).num), .slice Ay (digs 4294967296 (y).num.natAbs).length cy, .slice Dy (digs 4294967296 (y).den).length ey]), pqn ((x - y)), Pd.eq (.agg #[.bool (ngB (x).num), .slice AX (digs 10000 (x).num.natAbs).length cX, .slice DX (digs 10000 (x).den).length eX]), Pd.eq (.agg #[.bool (ngB (y).num), .slice AY (digs 10000 (y).num.natAbs).length cY, .slice DY (digs 10000 (y).den).length eY]), pp ((x - y)), pqn ((x - y)), Pd.eq (.bool true), Pd.eq (.bool true), Pd.eq (.bool true), Pd.eq (.agg #[.bool (ngB (x).num), .slice Ax (digs 4294967296 (x).num.natAbs).length cx, .slice Dx (digs 4294967296 (x).den).length ex]), Pd.eq (.agg #[.bool (ngB (y).num), .slice Ay (digs 4294967296 (y).num.natAbs).length cy, .slice Dy (digs 4294967296 (y).den).length ey]), pqn ((x * y)), Pd.eq (.agg #[.bool (ngB (x).num), .slice AX (digs 10000 (x).num.natAbs).length cX, .slice DX (digs 10000 (x).den).length eX]), Pd.eq (.agg #[.bool (ngB (y).num), .slice AY (digs 10000 (y).num.natAbs).length cY, .slice DY (digs 10000 (y).den).length eY]), pp ((x * y)), pqn ((x * y)), Pd.eq (.bool true), Pd.eq (.bool true), Pd.eq (.bool true), Pd.eq (.agg #[.bool (ngB (x).num), .slice Ax (digs 4294967296 (x).num.natAbs).length cx, .slice Dx (digs 4294967296 (x).den).length ex]), Pd.eq (.agg #[.bool (ngB (y).num), .slice Ay (digs 4294967296 (y).num.natAbs).length cy, .slice Dy (digs 4294967296 (y).den).length ey]), Pd.eq (.int .i64 C), Pd.eq (.agg #[.bool (ngB (x).num), .slice AX (digs 10000 (x).num.natAbs).length cX, .slice DX (digs 10000 (x).den).length eX]), Pd.eq (.agg #[.bool (ngB (y).num), .slice AY (digs 10000 (y).num.natAbs).length cY, .slice DY (digs 10000 (y).den).length eY]), Pd.eq (.int .i64 C), Pd.eq (.bool true), Pd.eq (.bool true), Pd.eq (.bool true), Pd.eq (.agg #[.bool (ngB (x).num), .slice Ax (digs 4294967296 (x).num.natAbs).length cx, .slice Dx (digs 4294967296 (x).den).length ex]), Pd.eq (.int .i64 S), Pd.eq (.agg #[.bool (ngB (x).num), .slice AX (digs 10000 (x).num.natAbs).length cX, .slice DX (digs 10000 (x).den).length eX]), Pd.eq (.int .i64 S), Pd.eq (.bool true), Pd.eq (.bool true), Pd.eq (.bool true), Pd.eq (.agg #[.bool (ngB (x).num), .slice Ax (digs 4294967296 (x).num.natAbs).length cx, .slice Dx (digs 4294967296 (x).den).length ex]), Pd.eq (.agg #[.bool (ngB (y).num), .slice Ay (digs 4294967296 (y).num.natAbs).length cy, .slice Dy (digs 4294967296 (y).den).length ey]), Pd.eq (.bool E), Pd.eq (.agg #[.bool (ngB (x).num), .slice Ax (digs 4294967296 (x).num.natAbs).length cx, .slice Dx (digs 4294967296 (x).den).length ex]), Pd.eq (.agg #[.bool (ngB (y).num), .slice Ay (digs 4294967296 (y).num.natAbs).length cy, .slice Dy (digs 4294967296 (y).den).length ey]), Pd.eq (.bool E), Pd.eq (.bool true), Pd.eq (.bool true), Pd.eq (.bool true), Pd.eq (.bool true), Pd.eq (.bool true), Pd.eq (.bool true)] (by kernel_rfl) (by kernel_rfl) ?ob3 ?done3
      case ob3 =>
        refine And.intro (ob_load rfl (wt_none rfl) (ev_far rfl rfl) (fun w2 hb => run_loadAll Tryz.underlying27 rfl (by kernel_rfl) (Bx.drew.below hb)) (fun _ _ => rfl)) ?_
        refine And.intro (ob_load rfl (wt_none rfl) (ev_far rfl rfl) (fun w2 hb => run_loadAll Tryz.underlying27 rfl (by kernel_rfl) (By.drew.below hb)) (fun _ _ => rfl)) ?_
        refine And.intro (ob_call2 rfl Tryz.func9 (by kernel_rfl) (wt_none rfl) (ev_dep (j := 0) (by kernel_rfl) rfl rfl) (ev_dep (j := 1) (by kernel_rfl) rfl rfl) (fun w2 u0 u1 hb h0 h1 => by obtain rfl := h0; obtain rfl := h1; exact (fadd_any _ _ _ _ _ (kx.drew.below hb) (ky.drew.below hb) (lx.mono (by decide)) (ly.mono (by decide))).mono fun e w3 h => RetQn.pd h)) ?_
        refine And.intro (ob_load rfl (wt_none rfl) (ev_far rfl rfl) (fun w2 hb => run_loadAll Tryz.underlying34 rfl (by kernel_rfl) (BX.drew.below hb)) (fun _ _ => rfl)) ?_
        refine And.intro (ob_load rfl (wt_none rfl) (ev_far rfl rfl) (fun w2 hb => run_loadAll Tryz.underlying34 rfl (by kernel_rfl) (BY.drew.below hb)) (fun _ _ => rfl)) ?_
        refine And.intro (ob_call2 rfl Tryz.func11 (by kernel_rfl) (wt_none rfl) (ev_dep (j := 3) (by kernel_rfl) rfl rfl) (ev_dep (j := 4) (by kernel_rfl) rfl rfl) (fun w2 u0 u1 hb h0 h1 => by obtain rfl := h0; obtain rfl := h1; exact (qadd_any _ _ _ _ _ (kX.drew.below hb) (kY.drew.below hb) (lx.mono (by decide)) (ly.mono (by decide))).mono fun e w3 h => RetPF.pd h)) ?_
        refine And.intro (ob_call1 rfl Tryz.func10 (by kernel_rfl) (wt_none rfl) (ev_dep (j := 5) (by kernel_rfl) rfl rfl) (fun w2 u0 hb h0 => by exact (qback_any _ _ _ h0 ((lenQ_add lx ly).mono (by decide))).mono fun e w3 h => RetQn.pd (RetQ.n h))) ?_
        refine And.intro (ob_call2 rfl Tryz.func8 (by kernel_rfl) (wt_none rfl) (ev_dep (j := 2) (by kernel_rfl) rfl rfl) (ev_dep (j := 6) (by kernel_rfl) rfl rfl) (fun w2 u0 u1 hb h0 h1 => by exact (qsame_eq _ _ ((x + y)) ((x + y)) _ h0 h1 rfl).mono fun e w3 h => RetV.pd h)) ?_
        refine And.intro (ob_move rfl (wt_none rfl) (ev_dep (j := 7) (by kernel_rfl) rfl rfl) (fun _ _ h => h)) ?_
        refine And.intro (ob_load rfl (wt_dep (c := true) (b := true) (g := 8) rfl (by kernel_rfl) rfl rfl rfl (by exact fun _ _ h => h)) (ev_far rfl rfl) (fun w2 hb => run_loadAll Tryz.underlying27 rfl (by kernel_rfl) (Bx.drew.below hb)) (fun _ _ => rfl)) ?_
        refine And.intro (ob_load rfl (wt_dep (c := true) (b := true) (g := 8) rfl (by kernel_rfl) rfl rfl rfl (by exact fun _ _ h => h)) (ev_far rfl rfl) (fun w2 hb => run_loadAll Tryz.underlying27 rfl (by kernel_rfl) (By.drew.below hb)) (fun _ _ => rfl)) ?_
        refine And.intro (ob_call2 rfl Tryz.func12 (by kernel_rfl) (wt_dep (c := true) (b := true) (g := 8) rfl (by kernel_rfl) rfl rfl rfl (by exact fun _ _ h => h)) (ev_dep (j := 9) (by kernel_rfl) rfl rfl) (ev_dep (j := 10) (by kernel_rfl) rfl rfl) (fun w2 u0 u1 hb h0 h1 => by obtain rfl := h0; obtain rfl := h1; exact (fsub_any _ _ _ _ _ (kx.drew.below hb) (ky.drew.below hb) (lx.mono (by decide)) (ly.mono (by decide))).mono fun e w3 h => RetQn.pd h)) ?_
        refine And.intro (ob_load rfl (wt_dep (c := true) (b := true) (g := 8) rfl (by kernel_rfl) rfl rfl rfl (by exact fun _ _ h => h)) (ev_far rfl rfl) (fun w2 hb => run_loadAll Tryz.underlying34 rfl (by kernel_rfl) (BX.drew.below hb)) (fun _ _ => rfl)) ?_
        refine And.intro (ob_load rfl (wt_dep (c := true) (b := true) (g := 8) rfl (by kernel_rfl) rfl rfl rfl (by exact fun _ _ h => h)) (ev_far rfl rfl) (fun w2 hb => run_loadAll Tryz.underlying34 rfl (by kernel_rfl) (BY.drew.below hb)) (fun _ _ => rfl)) ?_
        refine And.intro (ob_call2 rfl Tryz.func13 (by kernel_rfl) (wt_dep (c := true) (b := true) (g := 8) rfl (by kernel_rfl) rfl rfl rfl (by exact fun _ _ h => h)) (ev_dep (j := 12) (by kernel_rfl) rfl rfl) (ev_dep (j := 13) (by kernel_rfl) rfl rfl) (fun w2 u0 u1 hb h0 h1 => by obtain rfl := h0; obtain rfl := h1; exact (qsub_any _ _ _ _ _ (kX.drew.below hb) (kY.drew.below hb) (lx.mono (by decide)) (ly.mono (by decide))).mono fun e w3 h => RetPF.pd h)) ?_
        refine And.intro (ob_call1 rfl Tryz.func10 (by kernel_rfl) (wt_dep (c := true) (b := true) (g := 8) rfl (by kernel_rfl) rfl rfl rfl (by exact fun _ _ h => h)) (ev_dep (j := 14) (by kernel_rfl) rfl rfl) (fun w2 u0 hb h0 => by exact (qback_any _ _ _ h0 ((lenQ_sub lx ly).mono (by decide))).mono fun e w3 h => RetQn.pd (RetQ.n h))) ?_
        refine And.intro (ob_call2 rfl Tryz.func8 (by kernel_rfl) (wt_dep (c := true) (b := true) (g := 8) rfl (by kernel_rfl) rfl rfl rfl (by exact fun _ _ h => h)) (ev_dep (j := 11) (by kernel_rfl) rfl rfl) (ev_dep (j := 15) (by kernel_rfl) rfl rfl) (fun w2 u0 u1 hb h0 h1 => by exact (qsame_eq _ _ ((x - y)) ((x - y)) _ h0 h1 rfl).mono fun e w3 h => RetV.pd h)) ?_
        refine And.intro (ob_pick (b := true) rfl (wt_none rfl) (ev_dep (j := 8) (by kernel_rfl) rfl rfl) (ev_dep (j := 16) (by kernel_rfl) rfl rfl) (fun _ _ h => h)) ?_
        refine And.intro (ob_move rfl (wt_none rfl) (ev_dep (j := 17) (by kernel_rfl) rfl rfl) (fun _ _ h => h)) ?_
        refine And.intro (ob_load rfl (wt_dep (c := true) (b := true) (g := 18) rfl (by kernel_rfl) rfl rfl rfl (by exact fun _ _ h => h)) (ev_far rfl rfl) (fun w2 hb => run_loadAll Tryz.underlying27 rfl (by kernel_rfl) (Bx.drew.below hb)) (fun _ _ => rfl)) ?_
        refine And.intro (ob_load rfl (wt_dep (c := true) (b := true) (g := 18) rfl (by kernel_rfl) rfl rfl rfl (by exact fun _ _ h => h)) (ev_far rfl rfl) (fun w2 hb => run_loadAll Tryz.underlying27 rfl (by kernel_rfl) (By.drew.below hb)) (fun _ _ => rfl)) ?_
        refine And.intro (ob_call2 rfl Tryz.func14 (by kernel_rfl) (wt_dep (c := true) (b := true) (g := 18) rfl (by kernel_rfl) rfl rfl rfl (by exact fun _ _ h => h)) (ev_dep (j := 19) (by kernel_rfl) rfl rfl) (ev_dep (j := 20) (by kernel_rfl) rfl rfl) (fun w2 u0 u1 hb h0 h1 => by obtain rfl := h0; obtain rfl := h1; exact (fmul_any _ _ _ _ _ (kx.drew.below hb) (ky.drew.below hb) (lx.mono (by decide)) (ly.mono (by decide))).mono fun e w3 h => RetQn.pd h)) ?_
        refine And.intro (ob_load rfl (wt_dep (c := true) (b := true) (g := 18) rfl (by kernel_rfl) rfl rfl rfl (by exact fun _ _ h => h)) (ev_far rfl rfl) (fun w2 hb => run_loadAll Tryz.underlying34 rfl (by kernel_rfl) (BX.drew.below hb)) (fun _ _ => rfl)) ?_
        refine And.intro (ob_load rfl (wt_dep (c := true) (b := true) (g := 18) rfl (by kernel_rfl) rfl rfl rfl (by exact fun _ _ h => h)) (ev_far rfl rfl) (fun w2 hb => run_loadAll Tryz.underlying34 rfl (by kernel_rfl) (BY.drew.below hb)) (fun _ _ => rfl)) ?_
        refine And.intro (ob_call2 rfl Tryz.func15 (by kernel_rfl) (wt_dep (c := true) (b := true) (g := 18) rfl (by kernel_rfl) rfl rfl rfl (by exact fun _ _ h => h)) (ev_dep (j := 22) (by kernel_rfl) rfl rfl) (ev_dep (j := 23) (by kernel_rfl) rfl rfl) (fun w2 u0 u1 hb h0 h1 => by obtain rfl := h0; obtain rfl := h1; exact (qmul_any _ _ _ _ _ (kX.drew.below hb) (kY.drew.below hb) (lx.mono (by decide)) (ly.mono (by decide))).mono fun e w3 h => RetPF.pd h)) ?_
        refine And.intro (ob_call1 rfl Tryz.func10 (by kernel_rfl) (wt_dep (c := true) (b := true) (g := 18) rfl (by kernel_rfl) rfl rfl rfl (by exact fun _ _ h => h)) (ev_dep (j := 24) (by kernel_rfl) rfl rfl) (fun w2 u0 hb h0 => by exact (qback_any _ _ _ h0 ((lenQ_mul lx ly).mono (by decide))).mono fun e w3 h => RetQn.pd (RetQ.n h))) ?_
        refine And.intro (ob_call2 rfl Tryz.func8 (by kernel_rfl) (wt_dep (c := true) (b := true) (g := 18) rfl (by kernel_rfl) rfl rfl rfl (by exact fun _ _ h => h)) (ev_dep (j := 21) (by kernel_rfl) rfl rfl) (ev_dep (j := 25) (by kernel_rfl) rfl rfl) (fun w2 u0 u1 hb h0 h1 => by exact (qsame_eq _ _ ((x * y)) ((x * y)) _ h0 h1 rfl).mono fun e w3 h => RetV.pd h)) ?_
        refine And.intro (ob_pick (b := true) rfl (wt_none rfl) (ev_dep (j := 18) (by kernel_rfl) rfl rfl) (ev_dep (j := 26) (by kernel_rfl) rfl rfl) (fun _ _ h => h)) ?_
        refine And.intro (ob_move rfl (wt_none rfl) (ev_dep (j := 27) (by kernel_rfl) rfl rfl) (fun _ _ h => h)) ?_
        refine And.intro (ob_load rfl (wt_dep (c := true) (b := true) (g := 28) rfl (by kernel_rfl) rfl rfl rfl (by exact fun _ _ h => h)) (ev_far rfl rfl) (fun w2 hb => run_loadAll Tryz.underlying27 rfl (by kernel_rfl) (Bx.drew.below hb)) (fun _ _ => rfl)) ?_
        refine And.intro (ob_load rfl (wt_dep (c := true) (b := true) (g := 28) rfl (by kernel_rfl) rfl rfl rfl (by exact fun _ _ h => h)) (ev_far rfl rfl) (fun w2 hb => run_loadAll Tryz.underlying27 rfl (by kernel_rfl) (By.drew.below hb)) (fun _ _ => rfl)) ?_
        refine And.intro (ob_call2 rfl Tryz.func16 (by kernel_rfl) (wt_dep (c := true) (b := true) (g := 28) rfl (by kernel_rfl) rfl rfl rfl (by exact fun _ _ h => h)) (ev_dep (j := 29) (by kernel_rfl) rfl rfl) (ev_dep (j := 30) (by kernel_rfl) rfl rfl) (fun w2 u0 u1 hb h0 h1 => by obtain rfl := h0; obtain rfl := h1; exact (fcmp_any _ _ (x) (y) C _ (kx.drew.below hb) (ky.drew.below hb) (lx.mono (by decide)) (ly.mono (by decide)) HC.out).mono fun e w3 h => RetV.pd h)) ?_
        refine And.intro (ob_load rfl (wt_dep (c := true) (b := true) (g := 28) rfl (by kernel_rfl) rfl rfl rfl (by exact fun _ _ h => h)) (ev_far rfl rfl) (fun w2 hb => run_loadAll Tryz.underlying34 rfl (by kernel_rfl) (BX.drew.below hb)) (fun _ _ => rfl)) ?_
        refine And.intro (ob_load rfl (wt_dep (c := true) (b := true) (g := 28) rfl (by kernel_rfl) rfl rfl rfl (by exact fun _ _ h => h)) (ev_far rfl rfl) (fun w2 hb => run_loadAll Tryz.underlying34 rfl (by kernel_rfl) (BY.drew.below hb)) (fun _ _ => rfl)) ?_
        refine And.intro (ob_call2 rfl Tryz.func17 (by kernel_rfl) (wt_dep (c := true) (b := true) (g := 28) rfl (by kernel_rfl) rfl rfl rfl (by exact fun _ _ h => h)) (ev_dep (j := 32) (by kernel_rfl) rfl rfl) (ev_dep (j := 33) (by kernel_rfl) rfl rfl) (fun w2 u0 u1 hb h0 h1 => by obtain rfl := h0; obtain rfl := h1; exact (qcmp_any _ x _ y C _ (kX.drew.below hb) (kY.drew.below hb) (lx.mono (by decide)) (ly.mono (by decide)) HC.out).mono fun e w3 h => RetV.pd h)) ?_
        refine And.intro (ob_bin rfl (wt_dep (c := true) (b := true) (g := 28) rfl (by kernel_rfl) rfl rfl rfl (by exact fun _ _ h => h)) (ev_dep (j := 31) (by kernel_rfl) rfl rfl) (ev_dep (j := 34) (by kernel_rfl) rfl rfl) (fun _ _ _ hx hy => ⟨.bool (C == C), by rw [hx, hy]; exact bin_eql_int _ _ _ _ _, congrArg Value.bool (beq_self_eq_true _)⟩)) ?_
        refine And.intro (ob_pick (b := true) rfl (wt_none rfl) (ev_dep (j := 28) (by kernel_rfl) rfl rfl) (ev_dep (j := 35) (by kernel_rfl) rfl rfl) (fun _ _ h => h)) ?_
        refine And.intro (ob_move rfl (wt_none rfl) (ev_dep (j := 36) (by kernel_rfl) rfl rfl) (fun _ _ h => h)) ?_
        refine And.intro (ob_load rfl (wt_dep (c := true) (b := true) (g := 37) rfl (by kernel_rfl) rfl rfl rfl (by exact fun _ _ h => h)) (ev_far rfl rfl) (fun w2 hb => run_loadAll Tryz.underlying27 rfl (by kernel_rfl) (Bx.drew.below hb)) (fun _ _ => rfl)) ?_
        refine And.intro (ob_call1 rfl Tryz.func18 (by kernel_rfl) (wt_dep (c := true) (b := true) (g := 37) rfl (by kernel_rfl) rfl rfl rfl (by exact fun _ _ h => h)) (ev_dep (j := 38) (by kernel_rfl) rfl rfl) (fun w2 u0 hb h0 => by obtain rfl := h0; exact (fsign_any _ x S _ (kx.drew.below hb) (lx.mono (by decide)) HS.out).mono fun e w3 h => RetV.pd h)) ?_
        refine And.intro (ob_load rfl (wt_dep (c := true) (b := true) (g := 37) rfl (by kernel_rfl) rfl rfl rfl (by exact fun _ _ h => h)) (ev_far rfl rfl) (fun w2 hb => run_loadAll Tryz.underlying34 rfl (by kernel_rfl) (BX.drew.below hb)) (fun _ _ => rfl)) ?_
        refine And.intro (ob_call1 rfl Tryz.func19 (by kernel_rfl) (wt_dep (c := true) (b := true) (g := 37) rfl (by kernel_rfl) rfl rfl rfl (by exact fun _ _ h => h)) (ev_dep (j := 40) (by kernel_rfl) rfl rfl) (fun w2 u0 hb h0 => by obtain rfl := h0; exact (qsign_any _ x S _ (kX.drew.below hb) HS.out).mono fun e w3 h => RetV.pd h)) ?_
        refine And.intro (ob_bin rfl (wt_dep (c := true) (b := true) (g := 37) rfl (by kernel_rfl) rfl rfl rfl (by exact fun _ _ h => h)) (ev_dep (j := 39) (by kernel_rfl) rfl rfl) (ev_dep (j := 41) (by kernel_rfl) rfl rfl) (fun _ _ _ hx hy => ⟨.bool (S == S), by rw [hx, hy]; exact bin_eql_int _ _ _ _ _, congrArg Value.bool (beq_self_eq_true _)⟩)) ?_
        refine And.intro (ob_pick (b := true) rfl (wt_none rfl) (ev_dep (j := 37) (by kernel_rfl) rfl rfl) (ev_dep (j := 42) (by kernel_rfl) rfl rfl) (fun _ _ h => h)) ?_
        refine And.intro (ob_move rfl (wt_none rfl) (ev_dep (j := 43) (by kernel_rfl) rfl rfl) (fun _ _ h => h)) ?_
        refine And.intro (ob_load rfl (wt_dep (c := true) (b := true) (g := 44) rfl (by kernel_rfl) rfl rfl rfl (by exact fun _ _ h => h)) (ev_far rfl rfl) (fun w2 hb => run_loadAll Tryz.underlying27 rfl (by kernel_rfl) (Bx.drew.below hb)) (fun _ _ => rfl)) ?_
        refine And.intro (ob_load rfl (wt_dep (c := true) (b := true) (g := 44) rfl (by kernel_rfl) rfl rfl rfl (by exact fun _ _ h => h)) (ev_far rfl rfl) (fun w2 hb => run_loadAll Tryz.underlying27 rfl (by kernel_rfl) (By.drew.below hb)) (fun _ _ => rfl)) ?_
        refine And.intro (ob_call2 rfl Tryz.func20 (by kernel_rfl) (wt_dep (c := true) (b := true) (g := 44) rfl (by kernel_rfl) rfl rfl rfl (by exact fun _ _ h => h)) (ev_dep (j := 45) (by kernel_rfl) rfl rfl) (ev_dep (j := 46) (by kernel_rfl) rfl rfl) (fun w2 u0 u1 hb h0 h1 => by obtain rfl := h0; obtain rfl := h1; exact (fsame_any _ _ (x) (y) E _ (kx.drew.below hb) (ky.drew.below hb) (lx.mono (by decide)) (ly.mono (by decide)) HE.out).mono fun e w3 h => RetV.pd h)) ?_
        refine And.intro (ob_load rfl (wt_dep (c := true) (b := true) (g := 44) rfl (by kernel_rfl) rfl rfl rfl (by exact fun _ _ h => h)) (ev_far rfl rfl) (fun w2 hb => run_loadAll Tryz.underlying27 rfl (by kernel_rfl) (Bx.drew.below hb)) (fun _ _ => rfl)) ?_
        refine And.intro (ob_load rfl (wt_dep (c := true) (b := true) (g := 44) rfl (by kernel_rfl) rfl rfl rfl (by exact fun _ _ h => h)) (ev_far rfl rfl) (fun w2 hb => run_loadAll Tryz.underlying27 rfl (by kernel_rfl) (By.drew.below hb)) (fun _ _ => rfl)) ?_
        refine And.intro (ob_call2 rfl Tryz.func8 (by kernel_rfl) (wt_dep (c := true) (b := true) (g := 44) rfl (by kernel_rfl) rfl rfl rfl (by exact fun _ _ h => h)) (ev_dep (j := 48) (by kernel_rfl) rfl rfl) (ev_dep (j := 49) (by kernel_rfl) rfl rfl) (fun w2 u0 u1 hb h0 h1 => by obtain rfl := h0; obtain rfl := h1; exact (qsame_any _ _ x y E _ (kx.drew.below hb) (ky.drew.below hb) HE.out).mono fun e w3 h => RetV.pd h)) ?_
        refine And.intro (ob_bin rfl (wt_dep (c := true) (b := true) (g := 44) rfl (by kernel_rfl) rfl rfl rfl (by exact fun _ _ h => h)) (ev_dep (j := 47) (by kernel_rfl) rfl rfl) (ev_dep (j := 50) (by kernel_rfl) rfl rfl) (fun _ _ _ hx hy => ⟨.bool (E == E), by rw [hx, hy]; exact bin_eql_bool _ _ _ _ Tryz.underlying4 _, congrArg Value.bool (beq_self_eq_true _)⟩)) ?_
        refine And.intro (ob_pick (b := true) rfl (wt_none rfl) (ev_dep (j := 44) (by kernel_rfl) rfl rfl) (ev_dep (j := 51) (by kernel_rfl) rfl rfl) (fun _ _ h => h)) ?_
        refine And.intro (ob_move rfl (wt_none rfl) (ev_dep (j := 52) (by kernel_rfl) rfl rfl) (fun _ _ h => h)) ?_
        refine And.intro (ob_call0 rfl Tryz.func21 (by kernel_rfl) (wt_dep (c := true) (b := true) (g := 53) rfl (by kernel_rfl) rfl rfl rfl (by exact fun _ _ h => h)) (fun w2 hb => (works8_any _).mono fun e w3 h => RetV.pd h)) ?_
        refine And.intro (ob_pick (b := true) rfl (wt_none rfl) (ev_dep (j := 53) (by kernel_rfl) rfl rfl) (ev_dep (j := 54) (by kernel_rfl) rfl rfl) (fun _ _ h => h)) ?_
        refine And.intro (ob_assign rfl (wt_none rfl) (ev_dep (j := 55) (by kernel_rfl) rfl rfl) (fun _ _ h => h)) ?_
        trivial
      case done3 =>
        refine fun w7 hb7 v0 h0 v1 h1 v2 h2 v3 h3 v4 h4 v5 h5 v6 h6 v7 h7 v8 h8 v9 h9 v10 h10 v11 h11 v12 h12 v13 h13 v14 h14 v15 h15 v16 h16 v17 h17 v18 h18 v19 h19 v20 h20 v21 h21 v22 h22 v23 h23 v24 h24 v25 h25 v26 h26 v27 h27 v28 h28 v29 h29 v30 h30 v31 h31 v32 h32 v33 h33 v34 h34 v35 h35 v36 h36 v37 h37 v38 h38 v39 h39 v40 h40 v41 h41 v42 h42 v43 h43 v44 h44 v45 h45 v46 h46 v47 h47 v48 h48 v49 h49 v50 h50 v51 h51 v52 h52 v53 h53 v54 h54 v55 h55 v56 h56 b hbf => ?_
        obtain rfl := h0; obtain rfl := h1; obtain rfl := h3; obtain rfl := h4; obtain rfl := h7; obtain rfl := h8; obtain rfl := h9; obtain rfl := h10; obtain rfl := h12; obtain rfl := h13; obtain rfl := h16; obtain rfl := h17; obtain rfl := h18; obtain rfl := h19; obtain rfl := h20; obtain rfl := h22; obtain rfl := h23; obtain rfl := h26; obtain rfl := h27; obtain rfl := h28; obtain rfl := h29; obtain rfl := h30; obtain rfl := h31; obtain rfl := h32; obtain rfl := h33; obtain rfl := h34; obtain rfl := h35; obtain rfl := h36; obtain rfl := h37; obtain rfl := h38; obtain rfl := h39; obtain rfl := h40; obtain rfl := h41; obtain rfl := h42; obtain rfl := h43; obtain rfl := h44; obtain rfl := h45; obtain rfl := h46; obtain rfl := h47; obtain rfl := h48; obtain rfl := h49; obtain rfl := h50; obtain rfl := h51; obtain rfl := h52; obtain rfl := h53; obtain rfl := h54; obtain rfl := h55; obtain rfl := h56
        have q2 := h2
        have q5 := h5
        have q6 := h6
        have q11 := h11
        have q14 := h14
        have q15 := h15
        have q21 := h21
        have q24 := h24
        have q25 := h25
        simp only [Act.put, List.setIfInBounds_toArray, List.set_cons_zero, List.set_cons_succ] at hbf
        subst hbf
        replace Bx := Bx.below hb7
        replace kxs := kxs.below hb7
        replace kxd := kxd.below hb7
        replace kxz := kxz.below hb7
        replace kx := kx.below hb7
        replace By := By.below hb7
        replace kys := kys.below hb7
        replace kyd := kyd.below hb7
        replace kyz := kyz.below hb7
        replace ky := ky.below hb7
        replace BX := BX.below hb7
        replace kXs := kXs.below hb7
        replace kXd := kXd.below hb7
        replace kXz := kXz.below hb7
        replace kX := kX.below hb7
        replace BY := BY.below hb7
        replace kYs := kYs.below hb7
        replace kYd := kYd.below hb7
        replace kYz := kYz.below hb7
        replace kY := kY.below hb7
        replace bb := bb.trans (hb7.mono bb.size)
        have hsz7 := bb.size
        refine any_done (by kernel_rfl) ?_
        go_wp2
        go_ret
        exact ⟨rfl, bb⟩

set_option maxRecDepth 100000 in
theorem lifted (os : Os) (started : os.Started) (H : Type) (enc : TypeId × Value → H) :
    ReturnsInHanded {} Tryz.checked os 3 .any (Rows.ratAddsSpec.pre6 enc Tryz.prog Tryz.f3 Rows.ratAddsRow.domain false) (Rows.ratAddsSpec.post enc Tryz.prog Tryz.f3 false true false false) := by
  refine returnsInHanded_of_change (C := Tryz.checked) own started (by kernel_rfl) Tryz.func3
    (ChangeSpec.witness6 (enc := enc) (C := Tryz.checked) false ⟨#[], #[.agg #[.bool false, .slice none 0 0, .slice none 0 0], .agg #[.bool false, .slice none 0 0, .slice none 0 0]], []⟩ 8 (by kernel_rfl) (by kernel_rfl) (by kernel_rfl) (by kernel_rfl)) ?_
  intro W base args ds gs before hval0 hW hcnd _
  have hval : ∀ (j : Nat) t v, Tryz.f3.params[j]? = some t → args[j]? = some v → Value.okWide Tryz.prog W .any base t v := hval0
  have hW' := hW
  obtain ⟨p, q, hA0, hV, rfl, hfz, hnd⟩ := hW
  have hA : DataW.TrodAll enc Tryz.prog W 0 (fun _ => true) true Tryz.f3.params.toList args.toList ds p := hA0
  rw [Tryz.params3] at hA hval
  obtain ⟨v0, vs0, d0, ds0, p0, q0, hargs, rfl, rfl, t0, r0⟩ := trodAll_cons hA
  obtain ⟨v1, vs1, d1, ds1, p1, q1, rfl, rfl, rfl, t1, r1⟩ := trodAll_cons r0
  obtain ⟨rfl, rfl, rfl⟩ := trodAll_nil r1
  obtain rfl : args = #[v0, v1] := by cases args; simp_all
  obtain ⟨rfl, rfl⟩ := trodVars_none hV
  obtain ⟨b0, x0, r0_, l0, m0, rfl, hs0, hu0, hj0, hx0⟩ := arg_q Tryz.underlying27 (by kernel_rfl) (by kernel_rfl) Tryz.underlying25 (by kernel_rfl) Tryz.underlying4 Tryz.underlying23 Tryz.underlying23 Tryz.underlying55 cells_u (hval 0 27 v0 rfl rfl) t0
  obtain ⟨b1, x1, r1_, l1, m1, rfl, hs1, hu1, hj1, hx1⟩ := arg_q Tryz.underlying27 (by kernel_rfl) (by kernel_rfl) Tryz.underlying25 (by kernel_rfl) Tryz.underlying4 Tryz.underlying23 Tryz.underlying23 Tryz.underlying55 cells_u (hval 1 27 v1 rfl rfl) t1
  clear hA0 hval0
  simp only [List.append_nil] at hW'
  have hlt0 : ∀ x ∈ p0, x.block < W.heap.size := fun x hx => hW'.lt x (List.mem_append_left _ hx)
  have hlt1 : ∀ x ∈ p1, x.block < W.heap.size := fun x hx => hW'.lt x (List.mem_append_right _ (hx))
  refine (walk b0 x0 r0_ l0 m0 b1 x1 r1_ l1 m1 W hs0 hu0 hj0 hx0 hs1 hu1 hj1 hx1).mono fun e W' ⟨he, hb⟩ => ?_
  subst he
  have s0 := Below.trod laidOut (by kernel_rfl) (of_decide_eq_true (by kernel_rfl)) t0 hb hlt0
  have s1 := Below.trod laidOut (by kernel_rfl) (of_decide_eq_true (by kernel_rfl)) t1 hb hlt1
  exact ⟨_, rfl, _, _, _, [] ++ [], _, [], hW', trodAll_cons_mk (shut_bool Tryz.underlying4 _) trodAll_mk0, trodAll_cons_mk s0 (trodAll_cons_mk s1 (trodAll_mk0)), rfl, hb.frame _, fun h => by cases h⟩

theorem over : Rows.ratAddsRow.holds Tryz.pinned (OpenSpec.ofChange Rows.ratAddsSpec) :=
  OpenClaim.holds_of_wide 3 Tryz.f3 rfl rfl rfl rfl rfl rfl rfl ⟨rfl, rfl, rfl, rfl, rfl⟩ rfl rfl rfl rfl rfl (by kernel_rfl) Tryz.func3 (by kernel_rfl)
    (of_decide_eq_true (by kernel_rfl)) (by unfold Func.isWrapper; first | (rw [if_pos (by decide +kernel)]; kernel_rfl) | (rw [if_neg (by decide +kernel)]; exact ⟨rfl, rfl⟩))
    (fun os started H enc _ => lifted os started H enc)

/-- The statement. -/
theorem proved : Rows.RatAddsSaid := over
end Go.Proofs.YtbebmknfecehnaaGreat.ratAdds
