/- RatField: sums and products of fractions may be put together in any order, products of sums are sums of products, what was added is taken off, what was multiplied is divided, all answers may be, and sums keep the order. Condition: the arguments can be read as data. -/
import Derived.Test.YtbebmknfecehnaaGreatRatW
import Derived.Test.YtbebmknfecehnaaGreatRatE
import Derived.Deep.Cut
import Derived.OpenShut
import Derived.LaidMore
import Derived.Lay
import Derived.Stop.Joined
namespace Go.Proofs.YtbebmknfecehnaaGreat.ratField
open Go.ChangeShapes Go.WideShapes Go.ChangeAt Go.RowKit Go.Proofs.YtbebmknfecehnaaGreat.num Go.Proofs.YtbebmknfecehnaaGreat.mem Go.Proofs.YtbebmknfecehnaaGreat.nat Go.Proofs.YtbebmknfecehnaaGreat.txt Go.Proofs.YtbebmknfecehnaaGreat.str Go.Proofs.YtbebmknfecehnaaGreat.flow Go.Proofs.YtbebmknfecehnaaGreat.whl Go.Proofs.YtbebmknfecehnaaGreat.rat
set_option linter.unusedVariables false

theorem own : ownKnob Tryz.prog.godebug = none := by kernel_rfl
theorem laidOut : laidOutB Tryz.prog = true := by kernel_rfl
theorem cells_u : Tryz.prog.cellsOf 55 = 1 := by kernel_rfl


set_option maxHeartbeats 6400000 in
set_option maxRecDepth 100000 in
/-- The walk: the Go text returns true; what was there is as it was. -/
theorem walk (b0 : Bool) (v0 r0 : Value) (l0 m0 : List Nat) (b1 : Bool) (v1 r1 : Value) (l1 m1 : List Nat) (b2 : Bool) (v2 r2 : Value) (l2 m2 : List Nat) (w : World) (h0 : IsS w .u64 v0 l0) (u0 : Lt 18446744073709551616 l0) (j0 : IsS w .u64 r0 m0) (x0 : Lt 18446744073709551616 m0) (h1 : IsS w .u64 v1 l1) (u1 : Lt 18446744073709551616 l1) (j1 : IsS w .u64 r1 m1) (x1 : Lt 18446744073709551616 m1) (h2 : IsS w .u64 v2 l2) (u2 : Lt 18446744073709551616 l2) (j2 : IsS w .u64 r2 m2) (x2 : Lt 18446744073709551616 m2) :
    Calls Tryz.prog 5 #[.agg #[.bool b0, v0, r0], .agg #[.bool b1, v1, r1], .agg #[.bool b2, v2, r2]] w (RetV (.bool true) w) := by
  obtain ⟨x, hx0⟩ : ∃ x, x = cleanQ b0 l0 m0 3 := ⟨_, rfl⟩
  have lx : lenQ x 3 := by rw [hx0]; exact cleanQ_len _ _ _ (by omega)
  have HX0 := Lib.hid hx0.symm
  clear hx0
  obtain ⟨y, hx1⟩ : ∃ y, y = cleanQ b1 l1 m1 3 := ⟨_, rfl⟩
  have ly : lenQ y 3 := by rw [hx1]; exact cleanQ_len _ _ _ (by omega)
  have HX1 := Lib.hid hx1.symm
  clear hx1
  obtain ⟨z, hx2⟩ : ∃ z, z = cleanQ b2 l2 m2 3 := ⟨_, rfl⟩
  have lz : lenQ z 3 := by rw [hx2]; exact cleanQ_len _ _ _ (by omega)
  have HX2 := Lib.hid hx2.symm
  clear hx2
  obtain ⟨A0, c0, rfl, _⟩ := id h0
  obtain ⟨D0, e0, rfl, _⟩ := id j0
  obtain ⟨A1, c1, rfl, _⟩ := id h1
  obtain ⟨D1, e1, rfl, _⟩ := id j1
  obtain ⟨A2, c2, rfl, _⟩ := id h2
  obtain ⟨D2, e2, rfl, _⟩ := id j2
  go_enter Tryz.func5, Tryz.ntmps5
  go_upto_region 1 with (fail)
  obtain ⟨w0, hwx, bb, BP0, BP1, BP2, hsz⟩ := vars3 w 27 27 27 #[.bool b0, .slice A0 l0.length c0, .slice D0 m0.length e0] #[.bool b1, .slice A1 l1.length c1, .slice D1 m1.length e1] #[.bool b2, .slice A2 l2.length c2, .slice D2 m2.length e2]
  rw [hwx]
  clear hwx
  have p0s := h0.below bb
  have p0d := j0.below bb
  have p1s := h1.below bb
  have p1d := j1.below bb
  have p2s := h2.below bb
  have p2d := j2.below bb
  have hsz0 := bb.size
  refine flowp 2 [Pd.eq (.bool true), Pd.eq (.bool false)] (by kernel_rfl) ?ob14 ?done14
  case ob14 =>
    refine And.intro (ob_call0 rfl Tryz.func21 (by kernel_rfl) (wt_none rfl) (fun w2 hb => (works8_any _).mono fun e w3 h => RetV.pd h)) ?_
    refine And.intro (ob_un rfl (wt_none rfl) (ev_dep (j := 0) (by kernel_rfl) rfl rfl) (fun _ => un_not _ _) (fun _ => rfl)) ?_
    trivial
  case done14 =>
    refine fun w1 hb1 v0 h0 v1 h1 b hbf => ?_
    obtain rfl := h0; obtain rfl := h1
    simp only [Act.put, List.setIfInBounds_toArray, List.set_cons_zero, List.set_cons_succ] at hbf
    subst hbf
    replace BP0 := BP0.below hb1
    replace p0s := p0s.below hb1
    replace p0d := p0d.below hb1
    replace BP1 := BP1.below hb1
    replace p1s := p1s.below hb1
    replace p1d := p1d.below hb1
    replace BP2 := BP2.below hb1
    replace p2s := p2s.below hb1
    replace p2d := p2d.below hb1
    replace bb := bb.trans (hb1.mono bb.size)
    have hsz1 := bb.size
    refine ops_done ?_
    go_upto_region 3 with (fail)
    refine flow 6 [Pd.eq (.agg #[.bool b0, .slice A0 l0.length c0, .slice D0 m0.length e0]), pqn x, Pd.eq (.agg #[.bool b1, .slice A1 l1.length c1, .slice D1 m1.length e1]), pqn y, Pd.eq (.agg #[.bool b2, .slice A2 l2.length c2, .slice D2 m2.length e2]), pqn z] (by kernel_rfl) (by kernel_rfl) ?ob15 ?done15
    case ob15 =>
      refine And.intro (ob_load rfl (wt_none rfl) (ev_far rfl rfl) (fun w2 hb => run_loadAll Tryz.underlying27 rfl (by kernel_rfl) (BP0.drew.below hb)) (fun _ _ => rfl)) ?_
      refine And.intro (ob_call2 rfl Tryz.func6 (by kernel_rfl) (wt_none rfl) (ev_dep (j := 0) (by kernel_rfl) rfl rfl) (ev_const _) (fun w2 u0 u1 hb h0 h1 => by obtain rfl := h0; obtain rfl := h1; exact (HX0.out ▸ qclean_any _ _ _ _ _ _ 3 _ rfl (p0s.drew.below hb) u0 (p0d.drew.below hb) x0 (by omega) (by omega)).mono fun e w3 h => RetQn.pd (RetQ.n h))) ?_
      refine And.intro (ob_load rfl (wt_none rfl) (ev_far rfl rfl) (fun w2 hb => run_loadAll Tryz.underlying27 rfl (by kernel_rfl) (BP1.drew.below hb)) (fun _ _ => rfl)) ?_
      refine And.intro (ob_call2 rfl Tryz.func6 (by kernel_rfl) (wt_none rfl) (ev_dep (j := 2) (by kernel_rfl) rfl rfl) (ev_const _) (fun w2 u0 u1 hb h0 h1 => by obtain rfl := h0; obtain rfl := h1; exact (HX1.out ▸ qclean_any _ _ _ _ _ _ 3 _ rfl (p1s.drew.below hb) u1 (p1d.drew.below hb) x1 (by omega) (by omega)).mono fun e w3 h => RetQn.pd (RetQ.n h))) ?_
      refine And.intro (ob_load rfl (wt_none rfl) (ev_far rfl rfl) (fun w2 hb => run_loadAll Tryz.underlying27 rfl (by kernel_rfl) (BP2.drew.below hb)) (fun _ _ => rfl)) ?_
      refine And.intro (ob_call2 rfl Tryz.func6 (by kernel_rfl) (wt_none rfl) (ev_dep (j := 4) (by kernel_rfl) rfl rfl) (ev_const _) (fun w2 u0 u1 hb h0 h1 => by obtain rfl := h0; obtain rfl := h1; exact (HX2.out ▸ qclean_any _ _ _ _ _ _ 3 _ rfl (p2s.drew.below hb) u2 (p2d.drew.below hb) x2 (by omega) (by omega)).mono fun e w3 h => RetQn.pd (RetQ.n h))) ?_
      trivial
    case done15 =>
      refine fun w2 hb2 v0 h0 v1 h1 v2 h2 v3 h3 v4 h4 v5 h5 b hbf => ?_
      obtain rfl := h0; obtain rfl := h2; obtain rfl := h4
      have q1 := h1
      have q3 := h3
      have q5 := h5
      simp only [Act.put, List.setIfInBounds_toArray, List.set_cons_zero, List.set_cons_succ] at hbf
      subst hbf
      replace BP0 := BP0.below hb2
      replace p0s := p0s.below hb2
      replace p0d := p0d.below hb2
      replace BP1 := BP1.below hb2
      replace p1s := p1s.below hb2
      replace p1d := p1d.below hb2
      replace BP2 := BP2.below hb2
      replace p2s := p2s.below hb2
      replace p2d := p2d.below hb2
      replace bb := bb.trans (hb2.mono bb.size)
      have hsz2 := bb.size
      obtain ⟨u1, t1, rfl, q1, d1⟩ := q1
      obtain ⟨Ax, cx, rfl, _⟩ := id q1
      obtain ⟨Dx, ex, rfl, _⟩ := id d1
      obtain ⟨u3, t3, rfl, q3, d3⟩ := q3
      obtain ⟨Ay, cy, rfl, _⟩ := id q3
      obtain ⟨Dy, ey, rfl, _⟩ := id d3
      obtain ⟨u5, t5, rfl, q5, d5⟩ := q5
      obtain ⟨Az, cz, rfl, _⟩ := id q5
      obtain ⟨Dz, ez, rfl, _⟩ := id d5
      refine any_store (i := 6) (by kernel_rfl) rfl rfl rfl rfl rfl rfl (cells := [.bool (ngB (x).num), .slice Ax (digs 4294967296 (x).num.natAbs).length cx, .slice Dx (digs 4294967296 (x).den).length ex]) rfl BP0 rfl (by kernel_rfl) (one3 rfl rfl rfl) fun w3 hg3 BN3 => ?_
      replace q3 := off q3 BP0 no_ints3 hg3
      replace d3 := off d3 BP0 no_ints3 hg3
      replace q5 := off q5 BP0 no_ints3 hg3
      replace d5 := off d5 BP0 no_ints3 hg3
      replace q1 := off q1 BP0 no_ints3 hg3
      replace d1 := off d1 BP0 no_ints3 hg3
      replace p1s := off p1s BP0 no_ints3 hg3
      replace p1d := off p1d BP0 no_ints3 hg3
      replace BP1 := BP1.grown hg3 (by omega)
      replace p2s := off p2s BP0 no_ints3 hg3
      replace p2d := off p2d BP0 no_ints3 hg3
      replace BP2 := BP2.grown hg3 (by omega)
      replace bb := bb.trans ((Below.refl _ _).grown hg3 bb.size (fun g hg => by injection hg with hg; omega))
      have hsz3 := bb.size
      have Bx : Blk w3 (w.heap.size) _ _ := BN3
      have kxs := q1
      have kxd := d1
      have kxz : IsZ w3 (.agg #[.bool (ngB (x).num), .slice Ax (digs 4294967296 (x).num.natAbs).length cx]) ((x).num) := ⟨_, rfl, kxs⟩
      have kx : IsQ w3 (.agg #[.bool (ngB (x).num), .slice Ax (digs 4294967296 (x).num.natAbs).length cx, .slice Dx (digs 4294967296 (x).den).length ex]) (x) := ⟨_, _, rfl, kxs, kxd⟩
      refine any_store (i := 7) (by kernel_rfl) rfl rfl rfl rfl rfl rfl (cells := [.bool (ngB (y).num), .slice Ay (digs 4294967296 (y).num.natAbs).length cy, .slice Dy (digs 4294967296 (y).den).length ey]) rfl BP1 rfl (by kernel_rfl) (one3 rfl rfl rfl) fun w4 hg4 BN4 => ?_
      replace q5 := off q5 BP1 no_ints3 hg4
      replace d5 := off d5 BP1 no_ints3 hg4
      replace q3 := off q3 BP1 no_ints3 hg4
      replace d3 := off d3 BP1 no_ints3 hg4
      replace kxs := off kxs BP1 no_ints3 hg4
      replace kxd := off kxd BP1 no_ints3 hg4
      replace kxz : IsZ w4 (.agg #[.bool (ngB (x).num), .slice Ax (digs 4294967296 (x).num.natAbs).length cx]) ((x).num) := ⟨_, rfl, kxs⟩
      replace kx : IsQ w4 (.agg #[.bool (ngB (x).num), .slice Ax (digs 4294967296 (x).num.natAbs).length cx, .slice Dx (digs 4294967296 (x).den).length ex]) (x) := ⟨_, _, rfl, kxs, kxd⟩
      replace Bx := Bx.grown hg4 (by omega)
      replace p2s := off p2s BP1 no_ints3 hg4
      replace p2d := off p2d BP1 no_ints3 hg4
      replace BP2 := BP2.grown hg4 (by omega)
      replace bb := bb.trans ((Below.refl _ _).grown hg4 bb.size (fun g hg => by injection hg with hg; omega))
      have hsz4 := bb.size
      have By : Blk w4 (w.heap.size + 1) _ _ := BN4
      have kys := q3
      have kyd := d3
      have kyz : IsZ w4 (.agg #[.bool (ngB (y).num), .slice Ay (digs 4294967296 (y).num.natAbs).length cy]) ((y).num) := ⟨_, rfl, kys⟩
      have ky : IsQ w4 (.agg #[.bool (ngB (y).num), .slice Ay (digs 4294967296 (y).num.natAbs).length cy, .slice Dy (digs 4294967296 (y).den).length ey]) (y) := ⟨_, _, rfl, kys, kyd⟩
      refine any_store (i := 8) (by kernel_rfl) rfl rfl rfl rfl rfl rfl (cells := [.bool (ngB (z).num), .slice Az (digs 4294967296 (z).num.natAbs).length cz, .slice Dz (digs 4294967296 (z).den).length ez]) rfl BP2 rfl (by kernel_rfl) (one3 rfl rfl rfl) fun w5 hg5 BN5 => ?_
      replace q5 := off q5 BP2 no_ints3 hg5
      replace d5 := off d5 BP2 no_ints3 hg5
      replace kxs := off kxs BP2 no_ints3 hg5
      replace kxd := off kxd BP2 no_ints3 hg5
      replace kxz : IsZ w5 (.agg #[.bool (ngB (x).num), .slice Ax (digs 4294967296 (x).num.natAbs).length cx]) ((x).num) := ⟨_, rfl, kxs⟩
      replace kx : IsQ w5 (.agg #[.bool (ngB (x).num), .slice Ax (digs 4294967296 (x).num.natAbs).length cx, .slice Dx (digs 4294967296 (x).den).length ex]) (x) := ⟨_, _, rfl, kxs, kxd⟩
      replace Bx := Bx.grown hg5 (by omega)
      replace kys := off kys BP2 no_ints3 hg5
      replace kyd := off kyd BP2 no_ints3 hg5
      replace kyz : IsZ w5 (.agg #[.bool (ngB (y).num), .slice Ay (digs 4294967296 (y).num.natAbs).length cy]) ((y).num) := ⟨_, rfl, kys⟩
      replace ky : IsQ w5 (.agg #[.bool (ngB (y).num), .slice Ay (digs 4294967296 (y).num.natAbs).length cy, .slice Dy (digs 4294967296 (y).den).length ey]) (y) := ⟨_, _, rfl, kys, kyd⟩
      replace By := By.grown hg5 (by omega)
      replace bb := bb.trans ((Below.refl _ _).grown hg5 bb.size (fun g hg => by injection hg with hg; omega))
      have hsz5 := bb.size
      have Bz : Blk w5 (w.heap.size + 1 + 1) _ _ := BN5
      have kzs := q5
      have kzd := d5
      have kzz : IsZ w5 (.agg #[.bool (ngB (z).num), .slice Az (digs 4294967296 (z).num.natAbs).length cz]) ((z).num) := ⟨_, rfl, kzs⟩
      have kz : IsQ w5 (.agg #[.bool (ngB (z).num), .slice Az (digs 4294967296 (z).num.natAbs).length cz, .slice Dz (digs 4294967296 (z).den).length ez]) (z) := ⟨_, _, rfl, kzs, kzd⟩
      refine any_done (by kernel_rfl) ?_
      go_upto_region 4 with (fail)
      have lt5_3 := Blk.lt Bx
      have lt5_4 := Blk.lt By
      have lt5_5 := Blk.lt Bz
      refine flow 8 [Pd.eq (.agg #[.bool (ngB (x).num), .slice Ax (digs 4294967296 (x).num.natAbs).length cx, .slice Dx (digs 4294967296 (x).den).length ex]), Pd.eq (.agg #[.bool (ngB (y).num), .slice Ay (digs 4294967296 (y).num.natAbs).length cy, .slice Dy (digs 4294967296 (y).den).length ey]), pqn ((x + y)), Pd.eq (.agg #[.bool (ngB (x).num), .slice Ax (digs 4294967296 (x).num.natAbs).length cx, .slice Dx (digs 4294967296 (x).den).length ex]), Pd.eq (.agg #[.bool (ngB (y).num), .slice Ay (digs 4294967296 (y).num.natAbs).length cy, .slice Dy (digs 4294967296 (y).den).length ey]), pqn ((x * y)), pn 27 #[.bool false, .slice none 0 0, .slice none 0 0] w5.heap.size, pn 27 #[.bool false, .slice none 0 0, .slice none 0 0] w5.heap.size] (by kernel_rfl) (by kernel_rfl) ?ob16 ?done16
      case ob16 =>
        refine And.intro (ob_load rfl (wt_none rfl) (ev_far rfl rfl) (fun w2 hb => run_loadAll Tryz.underlying27 rfl (by kernel_rfl) (Bx.drew.below hb)) (fun _ _ => rfl)) ?_
        refine And.intro (ob_load rfl (wt_none rfl) (ev_far rfl rfl) (fun w2 hb => run_loadAll Tryz.underlying27 rfl (by kernel_rfl) (By.drew.below hb)) (fun _ _ => rfl)) ?_
        refine And.intro (ob_call2 rfl Tryz.func9 (by kernel_rfl) (wt_none rfl) (ev_dep (j := 0) (by kernel_rfl) rfl rfl) (ev_dep (j := 1) (by kernel_rfl) rfl rfl) (fun w2 u0 u1 hb h0 h1 => by obtain rfl := h0; obtain rfl := h1; exact (fadd_any _ _ _ _ _ (kx.drew.below hb) (ky.drew.below hb) (lx.mono (by decide)) (ly.mono (by decide))).mono fun e w3 h => RetQn.pd h)) ?_
        refine And.intro (ob_load rfl (wt_none rfl) (ev_far rfl rfl) (fun w2 hb => run_loadAll Tryz.underlying27 rfl (by kernel_rfl) (Bx.drew.below hb)) (fun _ _ => rfl)) ?_
        refine And.intro (ob_load rfl (wt_none rfl) (ev_far rfl rfl) (fun w2 hb => run_loadAll Tryz.underlying27 rfl (by kernel_rfl) (By.drew.below hb)) (fun _ _ => rfl)) ?_
        refine And.intro (ob_call2 rfl Tryz.func14 (by kernel_rfl) (wt_none rfl) (ev_dep (j := 3) (by kernel_rfl) rfl rfl) (ev_dep (j := 4) (by kernel_rfl) rfl rfl) (fun w2 u0 u1 hb h0 h1 => by obtain rfl := h0; obtain rfl := h1; exact (fmul_any _ _ _ _ _ (kx.drew.below hb) (ky.drew.below hb) (lx.mono (by decide)) (ly.mono (by decide))).mono fun e w3 h => RetQn.pd h)) ?_
        refine And.intro (ob_alloc (z := .agg #[.bool false, .slice none 0 0, .slice none 0 0]) rfl rfl (fun _ => by kernel_rfl) (fun _ _ hB h => ⟨_, rfl, hB, h⟩)) ?_
        refine And.intro (ob_alloc (z := .agg #[.bool false, .slice none 0 0, .slice none 0 0]) rfl rfl (fun _ => by kernel_rfl) (fun _ _ hB h => ⟨_, rfl, hB, h⟩)) ?_
        trivial
      case done16 =>
        refine fun w6 hb6 v0 h0 v1 h1 v2 h2 v3 h3 v4 h4 v5 h5 v6 h6 d6 v7 h7 d7 b hbf => ?_
        obtain rfl := h0; obtain rfl := h1; obtain rfl := h3; obtain rfl := h4
        have q2 := h2
        have q5 := h5
        obtain ⟨g16_6, rfl, hg6, B6⟩ := h6
        obtain ⟨g16_7, rfl, hg7, B7⟩ := h7
        simp only [Act.put, List.setIfInBounds_toArray, List.set_cons_zero, List.set_cons_succ] at hbf
        subst hbf
        replace Bx := Bx.below hb6
        replace kxs := kxs.below hb6
        replace kxd := kxd.below hb6
        replace kxz := kxz.below hb6
        replace kx := kx.below hb6
        replace By := By.below hb6
        replace kys := kys.below hb6
        replace kyd := kyd.below hb6
        replace kyz := kyz.below hb6
        replace ky := ky.below hb6
        replace Bz := Bz.below hb6
        replace kzs := kzs.below hb6
        replace kzd := kzd.below hb6
        replace kzz := kzz.below hb6
        replace kz := kz.below hb6
        replace bb := bb.trans (hb6.mono bb.size)
        have hsz6 := bb.size
        have BA7 := B6
        have BA8 := B7
        have hne6_7 : g16_6 ≠ g16_7 := fun e => d7 (.pointer (some ⟨g16_6, 0, none⟩)) (by simp) (by rw [e])
        obtain ⟨u2, t2, rfl, q2, d2⟩ := q2
        obtain ⟨AS, cS, rfl, _⟩ := id q2
        obtain ⟨DS, eS, rfl, _⟩ := id d2
        obtain ⟨u5, t5, rfl, q5, d5⟩ := q5
        obtain ⟨AP, cP, rfl, _⟩ := id q5
        obtain ⟨DP, eP, rfl, _⟩ := id d5
        refine any_store (i := 8) (by kernel_rfl) rfl rfl rfl rfl rfl rfl (cells := [.bool (ngB ((x + y)).num), .slice AS (digs 4294967296 ((x + y)).num.natAbs).length cS, .slice DS (digs 4294967296 ((x + y)).den).length eS]) rfl BA7 rfl (by kernel_rfl) (one3 rfl rfl rfl) fun w7 hg7 BN7 => ?_
        replace q5 := off q5 BA7 no_ints3 hg7
        replace d5 := off d5 BA7 no_ints3 hg7
        replace q2 := off q2 BA7 no_ints3 hg7
        replace d2 := off d2 BA7 no_ints3 hg7
        replace kxs := off kxs BA7 no_ints3 hg7
        replace kxd := off kxd BA7 no_ints3 hg7
        replace kxz : IsZ w7 (.agg #[.bool (ngB (x).num), .slice Ax (digs 4294967296 (x).num.natAbs).length cx]) ((x).num) := ⟨_, rfl, kxs⟩
        replace kx : IsQ w7 (.agg #[.bool (ngB (x).num), .slice Ax (digs 4294967296 (x).num.natAbs).length cx, .slice Dx (digs 4294967296 (x).den).length ex]) (x) := ⟨_, _, rfl, kxs, kxd⟩
        replace Bx := Bx.grown hg7 (by omega)
        replace kys := off kys BA7 no_ints3 hg7
        replace kyd := off kyd BA7 no_ints3 hg7
        replace kyz : IsZ w7 (.agg #[.bool (ngB (y).num), .slice Ay (digs 4294967296 (y).num.natAbs).length cy]) ((y).num) := ⟨_, rfl, kys⟩
        replace ky : IsQ w7 (.agg #[.bool (ngB (y).num), .slice Ay (digs 4294967296 (y).num.natAbs).length cy, .slice Dy (digs 4294967296 (y).den).length ey]) (y) := ⟨_, _, rfl, kys, kyd⟩
        replace By := By.grown hg7 (by omega)
        replace kzs := off kzs BA7 no_ints3 hg7
        replace kzd := off kzd BA7 no_ints3 hg7
        replace kzz : IsZ w7 (.agg #[.bool (ngB (z).num), .slice Az (digs 4294967296 (z).num.natAbs).length cz]) ((z).num) := ⟨_, rfl, kzs⟩
        replace kz : IsQ w7 (.agg #[.bool (ngB (z).num), .slice Az (digs 4294967296 (z).num.natAbs).length cz, .slice Dz (digs 4294967296 (z).den).length ez]) (z) := ⟨_, _, rfl, kzs, kzd⟩
        replace Bz := Bz.grown hg7 (by omega)
        replace BA8 := BA8.grown hg7 (by omega)
        replace bb := bb.trans ((Below.refl _ _).grown hg7 bb.size (fun g hg => by injection hg with hg; omega))
        have hsz7 := bb.size
        have BS : Blk w7 (g16_6) _ _ := BN7
        have kSs := q2
        have kSd := d2
        have kSz : IsZ w7 (.agg #[.bool (ngB ((x + y)).num), .slice AS (digs 4294967296 ((x + y)).num.natAbs).length cS]) (((x + y)).num) := ⟨_, rfl, kSs⟩
        have kS : IsQ w7 (.agg #[.bool (ngB ((x + y)).num), .slice AS (digs 4294967296 ((x + y)).num.natAbs).length cS, .slice DS (digs 4294967296 ((x + y)).den).length eS]) ((x + y)) := ⟨_, _, rfl, kSs, kSd⟩
        refine any_store (i := 9) (by kernel_rfl) rfl rfl rfl rfl rfl rfl (cells := [.bool (ngB ((x * y)).num), .slice AP (digs 4294967296 ((x * y)).num.natAbs).length cP, .slice DP (digs 4294967296 ((x * y)).den).length eP]) rfl BA8 rfl (by kernel_rfl) (one3 rfl rfl rfl) fun w8 hg8 BN8 => ?_
        replace q5 := off q5 BA8 no_ints3 hg8
        replace d5 := off d5 BA8 no_ints3 hg8
        replace kxs := off kxs BA8 no_ints3 hg8
        replace kxd := off kxd BA8 no_ints3 hg8
        replace kxz : IsZ w8 (.agg #[.bool (ngB (x).num), .slice Ax (digs 4294967296 (x).num.natAbs).length cx]) ((x).num) := ⟨_, rfl, kxs⟩
        replace kx : IsQ w8 (.agg #[.bool (ngB (x).num), .slice Ax (digs 4294967296 (x).num.natAbs).length cx, .slice Dx (digs 4294967296 (x).den).length ex]) (x) := ⟨_, _, rfl, kxs, kxd⟩
        replace Bx := Bx.grown hg8 (by omega)
        replace kys := off kys BA8 no_ints3 hg8
        replace kyd := off kyd BA8 no_ints3 hg8
        replace kyz : IsZ w8 (.agg #[.bool (ngB (y).num), .slice Ay (digs 4294967296 (y).num.natAbs).length cy]) ((y).num) := ⟨_, rfl, kys⟩
        replace ky : IsQ w8 (.agg #[.bool (ngB (y).num), .slice Ay (digs 4294967296 (y).num.natAbs).length cy, .slice Dy (digs 4294967296 (y).den).length ey]) (y) := ⟨_, _, rfl, kys, kyd⟩
        replace By := By.grown hg8 (by omega)
        replace kzs := off kzs BA8 no_ints3 hg8
        replace kzd := off kzd BA8 no_ints3 hg8
        replace kzz : IsZ w8 (.agg #[.bool (ngB (z).num), .slice Az (digs 4294967296 (z).num.natAbs).length cz]) ((z).num) := ⟨_, rfl, kzs⟩
        replace kz : IsQ w8 (.agg #[.bool (ngB (z).num), .slice Az (digs 4294967296 (z).num.natAbs).length cz, .slice Dz (digs 4294967296 (z).den).length ez]) (z) := ⟨_, _, rfl, kzs, kzd⟩
        replace Bz := Bz.grown hg8 (by omega)
        replace kSs := off kSs BA8 no_ints3 hg8
        replace kSd := off kSd BA8 no_ints3 hg8
        replace kSz : IsZ w8 (.agg #[.bool (ngB ((x + y)).num), .slice AS (digs 4294967296 ((x + y)).num.natAbs).length cS]) (((x + y)).num) := ⟨_, rfl, kSs⟩
        replace kS : IsQ w8 (.agg #[.bool (ngB ((x + y)).num), .slice AS (digs 4294967296 ((x + y)).num.natAbs).length cS, .slice DS (digs 4294967296 ((x + y)).den).length eS]) ((x + y)) := ⟨_, _, rfl, kSs, kSd⟩
        replace BS := BS.grown hg8 (by omega)
        replace bb := bb.trans ((Below.refl _ _).grown hg8 bb.size (fun g hg => by injection hg with hg; omega))
        have hsz8 := bb.size
        have BP : Blk w8 (g16_7) _ _ := BN8
        have kPs := q5
        have kPd := d5
        have kPz : IsZ w8 (.agg #[.bool (ngB ((x * y)).num), .slice AP (digs 4294967296 ((x * y)).num.natAbs).length cP]) (((x * y)).num) := ⟨_, rfl, kPs⟩
        have kP : IsQ w8 (.agg #[.bool (ngB ((x * y)).num), .slice AP (digs 4294967296 ((x * y)).num.natAbs).length cP, .slice DP (digs 4294967296 ((x * y)).den).length eP]) ((x * y)) := ⟨_, _, rfl, kPs, kPd⟩
        refine any_done (by kernel_rfl) ?_
        go_upto_region 5 with (fail)
        refine flow 32 [Pd.eq (.agg #[.bool (ngB ((x + y)).num), .slice AS (digs 4294967296 ((x + y)).num.natAbs).length cS, .slice DS (digs 4294967296 ((x + y)).den).length eS]), Pd.eq (.bool true), Pd.eq (.bool false), Pd.eq (.bool false), Pd.eq (.agg #[.bool (ngB ((x * y)).num), .slice AP (digs 4294967296 ((x * y)).num.natAbs).length cP, .slice DP (digs 4294967296 ((x * y)).den).length eP]), Pd.eq (.bool true), Pd.eq (.bool false), Pd.eq (.bool false), Pd.eq (.bool false), Pd.eq (.agg #[.bool (ngB ((x + y)).num), .slice AS (digs 4294967296 ((x + y)).num.natAbs).length cS, .slice DS (digs 4294967296 ((x + y)).den).length eS]), Pd.eq (.agg #[.bool (ngB (z).num), .slice Az (digs 4294967296 (z).num.natAbs).length cz, .slice Dz (digs 4294967296 (z).den).length ez]), pqn (((x + y) + z)), Pd.eq (.agg #[.bool (ngB (x).num), .slice Ax (digs 4294967296 (x).num.natAbs).length cx, .slice Dx (digs 4294967296 (x).den).length ex]), Pd.eq (.agg #[.bool (ngB (z).num), .slice Az (digs 4294967296 (z).num.natAbs).length cz, .slice Dz (digs 4294967296 (z).den).length ez]), Pd.eq (.agg #[.bool (ngB (y).num), .slice Ay (digs 4294967296 (y).num.natAbs).length cy, .slice Dy (digs 4294967296 (y).den).length ey]), pqn ((z + y)), pqn ((x + (z + y))), Pd.eq (.bool true), Pd.eq (.bool false), Pd.eq (.bool false), Pd.eq (.bool false), Pd.eq (.agg #[.bool (ngB ((x * y)).num), .slice AP (digs 4294967296 ((x * y)).num.natAbs).length cP, .slice DP (digs 4294967296 ((x * y)).den).length eP]), Pd.eq (.agg #[.bool (ngB (z).num), .slice Az (digs 4294967296 (z).num.natAbs).length cz, .slice Dz (digs 4294967296 (z).den).length ez]), pqn (((x * y) * z)), Pd.eq (.agg #[.bool (ngB (x).num), .slice Ax (digs 4294967296 (x).num.natAbs).length cx, .slice Dx (digs 4294967296 (x).den).length ex]), Pd.eq (.agg #[.bool (ngB (z).num), .slice Az (digs 4294967296 (z).num.natAbs).length cz, .slice Dz (digs 4294967296 (z).den).length ez]), Pd.eq (.agg #[.bool (ngB (y).num), .slice Ay (digs 4294967296 (y).num.natAbs).length cy, .slice Dy (digs 4294967296 (y).den).length ey]), pqn ((z * y)), pqn ((x * (z * y))), Pd.eq (.bool true), Pd.eq (.bool false), Pd.eq (.bool false)] (by kernel_rfl) (by kernel_rfl) ?ob17 ?done17
        case ob17 =>
          refine And.intro (ob_load rfl (wt_none rfl) (ev_far rfl rfl) (fun w2 hb => run_loadAll Tryz.underlying27 rfl (by kernel_rfl) (BS.drew.below hb)) (fun _ _ => rfl)) ?_
          refine And.intro (ob_call1 rfl Tryz.func29 (by kernel_rfl) (wt_none rfl) (ev_dep (j := 0) (by kernel_rfl) rfl rfl) (fun w2 u0 hb h0 => by obtain rfl := h0; exact (fmay_any _ ((x + y)) _ (kS.drew.below hb) ((lenQ_add lx ly).mono (by decide))).mono fun e w3 h => RetV.pd h)) ?_
          refine And.intro (ob_un rfl (wt_none rfl) (ev_dep (j := 1) (by kernel_rfl) rfl rfl) (fun _ => un_not _ _) (fun _ => rfl)) ?_
          refine And.intro (ob_move rfl (wt_none rfl) (ev_dep (j := 2) (by kernel_rfl) rfl rfl) (fun _ _ h => h)) ?_
          refine And.intro (ob_load rfl (wt_dep (c := false) (b := false) (g := 3) rfl (by kernel_rfl) rfl rfl rfl (by exact fun _ _ h => h)) (ev_far rfl rfl) (fun w2 hb => run_loadAll Tryz.underlying27 rfl (by kernel_rfl) (BP.drew.below hb)) (fun _ _ => rfl)) ?_
          refine And.intro (ob_call1 rfl Tryz.func29 (by kernel_rfl) (wt_dep (c := false) (b := false) (g := 3) rfl (by kernel_rfl) rfl rfl rfl (by exact fun _ _ h => h)) (ev_dep (j := 4) (by kernel_rfl) rfl rfl) (fun w2 u0 hb h0 => by obtain rfl := h0; exact (fmay_any _ ((x * y)) _ (kP.drew.below hb) ((lenQ_mul lx ly).mono (by decide))).mono fun e w3 h => RetV.pd h)) ?_
          refine And.intro (ob_un rfl (wt_dep (c := false) (b := false) (g := 3) rfl (by kernel_rfl) rfl rfl rfl (by exact fun _ _ h => h)) (ev_dep (j := 5) (by kernel_rfl) rfl rfl) (fun _ => un_not _ _) (fun _ => rfl)) ?_
          refine And.intro (ob_pick (b := false) rfl (wt_none rfl) (ev_dep (j := 3) (by kernel_rfl) rfl rfl) (ev_dep (j := 6) (by kernel_rfl) rfl rfl) (fun _ _ h => h)) ?_
          refine And.intro (ob_move rfl (wt_none rfl) (ev_dep (j := 7) (by kernel_rfl) rfl rfl) (fun _ _ h => h)) ?_
          refine And.intro (ob_load rfl (wt_dep (c := false) (b := false) (g := 8) rfl (by kernel_rfl) rfl rfl rfl (by exact fun _ _ h => h)) (ev_far rfl rfl) (fun w2 hb => run_loadAll Tryz.underlying27 rfl (by kernel_rfl) (BS.drew.below hb)) (fun _ _ => rfl)) ?_
          refine And.intro (ob_load rfl (wt_dep (c := false) (b := false) (g := 8) rfl (by kernel_rfl) rfl rfl rfl (by exact fun _ _ h => h)) (ev_far rfl rfl) (fun w2 hb => run_loadAll Tryz.underlying27 rfl (by kernel_rfl) (Bz.drew.below hb)) (fun _ _ => rfl)) ?_
          refine And.intro (ob_call2 rfl Tryz.func9 (by kernel_rfl) (wt_dep (c := false) (b := false) (g := 8) rfl (by kernel_rfl) rfl rfl rfl (by exact fun _ _ h => h)) (ev_dep (j := 9) (by kernel_rfl) rfl rfl) (ev_dep (j := 10) (by kernel_rfl) rfl rfl) (fun w2 u0 u1 hb h0 h1 => by obtain rfl := h0; obtain rfl := h1; exact (fadd_any _ _ _ _ _ (kS.drew.below hb) (kz.drew.below hb) ((lenQ_add lx ly).mono (by decide)) (lz.mono (by decide))).mono fun e w3 h => RetQn.pd h)) ?_
          refine And.intro (ob_load rfl (wt_dep (c := false) (b := false) (g := 8) rfl (by kernel_rfl) rfl rfl rfl (by exact fun _ _ h => h)) (ev_far rfl rfl) (fun w2 hb => run_loadAll Tryz.underlying27 rfl (by kernel_rfl) (Bx.drew.below hb)) (fun _ _ => rfl)) ?_
          refine And.intro (ob_load rfl (wt_dep (c := false) (b := false) (g := 8) rfl (by kernel_rfl) rfl rfl rfl (by exact fun _ _ h => h)) (ev_far rfl rfl) (fun w2 hb => run_loadAll Tryz.underlying27 rfl (by kernel_rfl) (Bz.drew.below hb)) (fun _ _ => rfl)) ?_
          refine And.intro (ob_load rfl (wt_dep (c := false) (b := false) (g := 8) rfl (by kernel_rfl) rfl rfl rfl (by exact fun _ _ h => h)) (ev_far rfl rfl) (fun w2 hb => run_loadAll Tryz.underlying27 rfl (by kernel_rfl) (By.drew.below hb)) (fun _ _ => rfl)) ?_
          refine And.intro (ob_call2 rfl Tryz.func9 (by kernel_rfl) (wt_dep (c := false) (b := false) (g := 8) rfl (by kernel_rfl) rfl rfl rfl (by exact fun _ _ h => h)) (ev_dep (j := 13) (by kernel_rfl) rfl rfl) (ev_dep (j := 14) (by kernel_rfl) rfl rfl) (fun w2 u0 u1 hb h0 h1 => by obtain rfl := h0; obtain rfl := h1; exact (fadd_any _ _ _ _ _ (kz.drew.below hb) (ky.drew.below hb) (lz.mono (by decide)) (ly.mono (by decide))).mono fun e w3 h => RetQn.pd h)) ?_
          refine And.intro (ob_call2 rfl Tryz.func9 (by kernel_rfl) (wt_dep (c := false) (b := false) (g := 8) rfl (by kernel_rfl) rfl rfl rfl (by exact fun _ _ h => h)) (ev_dep (j := 12) (by kernel_rfl) rfl rfl) (ev_dep (j := 15) (by kernel_rfl) rfl rfl) (fun w2 u0 u1 hb h0 h1 => by obtain rfl := h0; exact (fadd_any _ _ _ _ _ (kx.drew.below hb) h1 (lx.mono (by decide)) ((lenQ_add lz ly).mono (by decide))).mono fun e w3 h => RetQn.pd h)) ?_
          refine And.intro (ob_call2 rfl Tryz.func20 (by kernel_rfl) (wt_dep (c := false) (b := false) (g := 8) rfl (by kernel_rfl) rfl rfl rfl (by exact fun _ _ h => h)) (ev_dep (j := 11) (by kernel_rfl) rfl rfl) (ev_dep (j := 16) (by kernel_rfl) rfl rfl) (fun w2 u0 u1 hb h0 h1 => by exact (fsame_any _ _ (((x + y) + z)) ((x + (z + y))) true _ h0 h1 ((lenQ_add (lenQ_add lx ly) lz).mono (by decide)) ((lenQ_add lx (lenQ_add lz ly)).mono (by decide)) (decide_eq_true (by rw [Rat.add_comm z y, Rat.add_assoc])).symm).mono fun e w3 h => RetV.pd h)) ?_
          refine And.intro (ob_un rfl (wt_dep (c := false) (b := false) (g := 8) rfl (by kernel_rfl) rfl rfl rfl (by exact fun _ _ h => h)) (ev_dep (j := 17) (by kernel_rfl) rfl rfl) (fun _ => un_not _ _) (fun _ => rfl)) ?_
          refine And.intro (ob_pick (b := false) rfl (wt_none rfl) (ev_dep (j := 8) (by kernel_rfl) rfl rfl) (ev_dep (j := 18) (by kernel_rfl) rfl rfl) (fun _ _ h => h)) ?_
          refine And.intro (ob_move rfl (wt_none rfl) (ev_dep (j := 19) (by kernel_rfl) rfl rfl) (fun _ _ h => h)) ?_
          refine And.intro (ob_load rfl (wt_dep (c := false) (b := false) (g := 20) rfl (by kernel_rfl) rfl rfl rfl (by exact fun _ _ h => h)) (ev_far rfl rfl) (fun w2 hb => run_loadAll Tryz.underlying27 rfl (by kernel_rfl) (BP.drew.below hb)) (fun _ _ => rfl)) ?_
          refine And.intro (ob_load rfl (wt_dep (c := false) (b := false) (g := 20) rfl (by kernel_rfl) rfl rfl rfl (by exact fun _ _ h => h)) (ev_far rfl rfl) (fun w2 hb => run_loadAll Tryz.underlying27 rfl (by kernel_rfl) (Bz.drew.below hb)) (fun _ _ => rfl)) ?_
          refine And.intro (ob_call2 rfl Tryz.func14 (by kernel_rfl) (wt_dep (c := false) (b := false) (g := 20) rfl (by kernel_rfl) rfl rfl rfl (by exact fun _ _ h => h)) (ev_dep (j := 21) (by kernel_rfl) rfl rfl) (ev_dep (j := 22) (by kernel_rfl) rfl rfl) (fun w2 u0 u1 hb h0 h1 => by obtain rfl := h0; obtain rfl := h1; exact (fmul_any _ _ _ _ _ (kP.drew.below hb) (kz.drew.below hb) ((lenQ_mul lx ly).mono (by decide)) (lz.mono (by decide))).mono fun e w3 h => RetQn.pd h)) ?_
          refine And.intro (ob_load rfl (wt_dep (c := false) (b := false) (g := 20) rfl (by kernel_rfl) rfl rfl rfl (by exact fun _ _ h => h)) (ev_far rfl rfl) (fun w2 hb => run_loadAll Tryz.underlying27 rfl (by kernel_rfl) (Bx.drew.below hb)) (fun _ _ => rfl)) ?_
          refine And.intro (ob_load rfl (wt_dep (c := false) (b := false) (g := 20) rfl (by kernel_rfl) rfl rfl rfl (by exact fun _ _ h => h)) (ev_far rfl rfl) (fun w2 hb => run_loadAll Tryz.underlying27 rfl (by kernel_rfl) (Bz.drew.below hb)) (fun _ _ => rfl)) ?_
          refine And.intro (ob_load rfl (wt_dep (c := false) (b := false) (g := 20) rfl (by kernel_rfl) rfl rfl rfl (by exact fun _ _ h => h)) (ev_far rfl rfl) (fun w2 hb => run_loadAll Tryz.underlying27 rfl (by kernel_rfl) (By.drew.below hb)) (fun _ _ => rfl)) ?_
          refine And.intro (ob_call2 rfl Tryz.func14 (by kernel_rfl) (wt_dep (c := false) (b := false) (g := 20) rfl (by kernel_rfl) rfl rfl rfl (by exact fun _ _ h => h)) (ev_dep (j := 25) (by kernel_rfl) rfl rfl) (ev_dep (j := 26) (by kernel_rfl) rfl rfl) (fun w2 u0 u1 hb h0 h1 => by obtain rfl := h0; obtain rfl := h1; exact (fmul_any _ _ _ _ _ (kz.drew.below hb) (ky.drew.below hb) (lz.mono (by decide)) (ly.mono (by decide))).mono fun e w3 h => RetQn.pd h)) ?_
          refine And.intro (ob_call2 rfl Tryz.func14 (by kernel_rfl) (wt_dep (c := false) (b := false) (g := 20) rfl (by kernel_rfl) rfl rfl rfl (by exact fun _ _ h => h)) (ev_dep (j := 24) (by kernel_rfl) rfl rfl) (ev_dep (j := 27) (by kernel_rfl) rfl rfl) (fun w2 u0 u1 hb h0 h1 => by obtain rfl := h0; exact (fmul_any _ _ _ _ _ (kx.drew.below hb) h1 (lx.mono (by decide)) ((lenQ_mul lz ly).mono (by decide))).mono fun e w3 h => RetQn.pd h)) ?_
          refine And.intro (ob_call2 rfl Tryz.func20 (by kernel_rfl) (wt_dep (c := false) (b := false) (g := 20) rfl (by kernel_rfl) rfl rfl rfl (by exact fun _ _ h => h)) (ev_dep (j := 23) (by kernel_rfl) rfl rfl) (ev_dep (j := 28) (by kernel_rfl) rfl rfl) (fun w2 u0 u1 hb h0 h1 => by exact (fsame_any _ _ (((x * y) * z)) ((x * (z * y))) true _ h0 h1 ((lenQ_mul (lenQ_mul lx ly) lz).mono (by decide)) ((lenQ_mul lx (lenQ_mul lz ly)).mono (by decide)) (decide_eq_true (by rw [Rat.mul_comm z y, Rat.mul_assoc])).symm).mono fun e w3 h => RetV.pd h)) ?_
          refine And.intro (ob_un rfl (wt_dep (c := false) (b := false) (g := 20) rfl (by kernel_rfl) rfl rfl rfl (by exact fun _ _ h => h)) (ev_dep (j := 29) (by kernel_rfl) rfl rfl) (fun _ => un_not _ _) (fun _ => rfl)) ?_
          refine And.intro (ob_pick (b := false) rfl (wt_none rfl) (ev_dep (j := 20) (by kernel_rfl) rfl rfl) (ev_dep (j := 30) (by kernel_rfl) rfl rfl) (fun _ _ h => h)) ?_
          trivial
        case done17 =>
          refine fun w9 hb9 v0 h0 v1 h1 v2 h2 v3 h3 v4 h4 v5 h5 v6 h6 v7 h7 v8 h8 v9 h9 v10 h10 v11 h11 v12 h12 v13 h13 v14 h14 v15 h15 v16 h16 v17 h17 v18 h18 v19 h19 v20 h20 v21 h21 v22 h22 v23 h23 v24 h24 v25 h25 v26 h26 v27 h27 v28 h28 v29 h29 v30 h30 v31 h31 b hbf => ?_
          obtain rfl := h0; obtain rfl := h1; obtain rfl := h2; obtain rfl := h3; obtain rfl := h4; obtain rfl := h5; obtain rfl := h6; obtain rfl := h7; obtain rfl := h8; obtain rfl := h9; obtain rfl := h10; obtain rfl := h12; obtain rfl := h13; obtain rfl := h14; obtain rfl := h17; obtain rfl := h18; obtain rfl := h19; obtain rfl := h20; obtain rfl := h21; obtain rfl := h22; obtain rfl := h24; obtain rfl := h25; obtain rfl := h26; obtain rfl := h29; obtain rfl := h30; obtain rfl := h31
          have q11 := h11
          have q15 := h15
          have q16 := h16
          have q23 := h23
          have q27 := h27
          have q28 := h28
          simp only [Act.put, List.setIfInBounds_toArray, List.set_cons_zero, List.set_cons_succ] at hbf
          subst hbf
          replace Bx := Bx.below hb9
          replace kxs := kxs.below hb9
          replace kxd := kxd.below hb9
          replace kxz := kxz.below hb9
          replace kx := kx.below hb9
          replace By := By.below hb9
          replace kys := kys.below hb9
          replace kyd := kyd.below hb9
          replace kyz := kyz.below hb9
          replace ky := ky.below hb9
          replace Bz := Bz.below hb9
          replace kzs := kzs.below hb9
          replace kzd := kzd.below hb9
          replace kzz := kzz.below hb9
          replace kz := kz.below hb9
          replace BS := BS.below hb9
          replace kSs := kSs.below hb9
          replace kSd := kSd.below hb9
          replace kSz := kSz.below hb9
          replace kS := kS.below hb9
          replace BP := BP.below hb9
          replace kPs := kPs.below hb9
          replace kPd := kPd.below hb9
          replace kPz := kPz.below hb9
          replace kP := kP.below hb9
          replace bb := bb.trans (hb9.mono bb.size)
          have hsz9 := bb.size
          refine any_done (by kernel_rfl) ?_
          obtain ⟨C, hC⟩ : ∃ C, C = ordq x y := ⟨_, rfl⟩
          have HC1 : Hid (C = ordq (x + z) (y + z)) := by show _ = _; rw [hC, ordq_add]
          have HC2 : Hid ((C == 0) = decide (x = y)) := by show _ = _; rw [Bool.eq_iff_iff, beq_iff_eq, decide_eq_true_eq, hC]; exact ordq_zero
          have HC := Lib.hid hC
          clear hC
          obtain ⟨E, hE⟩ : ∃ E, E = decide (x = y) := ⟨_, rfl⟩
          have HE := Lib.hid hE
          have HCE : Hid ((C == 0) = E) := by show _ = _; rw [HC2.out, hE]
          clear hE
          go_upto_region 7 with (fail)
          refine flow 43 [Pd.eq (.agg #[.bool (ngB (x).num), .slice Ax (digs 4294967296 (x).num.natAbs).length cx, .slice Dx (digs 4294967296 (x).den).length ex]), Pd.eq (.agg #[.bool (ngB (y).num), .slice Ay (digs 4294967296 (y).num.natAbs).length cy, .slice Dy (digs 4294967296 (y).den).length ey]), Pd.eq (.agg #[.bool (ngB (z).num), .slice Az (digs 4294967296 (z).num.natAbs).length cz, .slice Dz (digs 4294967296 (z).den).length ez]), pqn ((y + z)), pqn ((x * (y + z))), Pd.eq (.agg #[.bool (ngB ((x * y)).num), .slice AP (digs 4294967296 ((x * y)).num.natAbs).length cP, .slice DP (digs 4294967296 ((x * y)).den).length eP]), Pd.eq (.agg #[.bool (ngB (x).num), .slice Ax (digs 4294967296 (x).num.natAbs).length cx, .slice Dx (digs 4294967296 (x).den).length ex]), Pd.eq (.agg #[.bool (ngB (z).num), .slice Az (digs 4294967296 (z).num.natAbs).length cz, .slice Dz (digs 4294967296 (z).den).length ez]), pqn ((x * z)), pqn (((x * y) + (x * z))), Pd.eq (.bool true), Pd.eq (.bool false), Pd.eq (.bool false), Pd.eq (.agg #[.bool (ngB ((x + y)).num), .slice AS (digs 4294967296 ((x + y)).num.natAbs).length cS, .slice DS (digs 4294967296 ((x + y)).den).length eS]), Pd.eq (.agg #[.bool (ngB (y).num), .slice Ay (digs 4294967296 (y).num.natAbs).length cy, .slice Dy (digs 4294967296 (y).den).length ey]), pqn (((x + y) - y)), Pd.eq (.agg #[.bool (ngB (x).num), .slice Ax (digs 4294967296 (x).num.natAbs).length cx, .slice Dx (digs 4294967296 (x).den).length ex]), Pd.eq (.bool true), Pd.eq (.bool false), Pd.eq (.bool false), Pd.eq (.bool false), Pd.eq (.agg #[.bool (ngB (x).num), .slice Ax (digs 4294967296 (x).num.natAbs).length cx, .slice Dx (digs 4294967296 (x).den).length ex]), Pd.eq (.agg #[.bool (ngB (z).num), .slice Az (digs 4294967296 (z).num.natAbs).length cz, .slice Dz (digs 4294967296 (z).den).length ez]), pqn ((x + z)), Pd.eq (.agg #[.bool (ngB (y).num), .slice Ay (digs 4294967296 (y).num.natAbs).length cy, .slice Dy (digs 4294967296 (y).den).length ey]), Pd.eq (.agg #[.bool (ngB (z).num), .slice Az (digs 4294967296 (z).num.natAbs).length cz, .slice Dz (digs 4294967296 (z).den).length ez]), pqn ((y + z)), Pd.eq (.int .i64 C), Pd.eq (.agg #[.bool (ngB (x).num), .slice Ax (digs 4294967296 (x).num.natAbs).length cx, .slice Dx (digs 4294967296 (x).den).length ex]), Pd.eq (.agg #[.bool (ngB (y).num), .slice Ay (digs 4294967296 (y).num.natAbs).length cy, .slice Dy (digs 4294967296 (y).den).length ey]), Pd.eq (.int .i64 C), Pd.eq (.bool false), Pd.eq (.bool false), Pd.eq (.bool false), Pd.eq (.agg #[.bool (ngB (x).num), .slice Ax (digs 4294967296 (x).num.natAbs).length cx, .slice Dx (digs 4294967296 (x).den).length ex]), Pd.eq (.agg #[.bool (ngB (y).num), .slice Ay (digs 4294967296 (y).num.natAbs).length cy, .slice Dy (digs 4294967296 (y).den).length ey]), Pd.eq (.int .i64 C), Pd.eq (.bool E), Pd.eq (.agg #[.bool (ngB (x).num), .slice Ax (digs 4294967296 (x).num.natAbs).length cx, .slice Dx (digs 4294967296 (x).den).length ex]), Pd.eq (.agg #[.bool (ngB (y).num), .slice Ay (digs 4294967296 (y).num.natAbs).length cy, .slice Dy (digs 4294967296 (y).den).length ey]), Pd.eq (.bool E), Pd.eq (.bool false), Pd.eq (.bool false)] (by kernel_rfl) (by kernel_rfl) ?ob18 ?done18
          case ob18 =>
            refine And.intro (ob_load rfl (wt_none rfl) (ev_far rfl rfl) (fun w2 hb => run_loadAll Tryz.underlying27 rfl (by kernel_rfl) (Bx.drew.below hb)) (fun _ _ => rfl)) ?_
            refine And.intro (ob_load rfl (wt_none rfl) (ev_far rfl rfl) (fun w2 hb => run_loadAll Tryz.underlying27 rfl (by kernel_rfl) (By.drew.below hb)) (fun _ _ => rfl)) ?_
            refine And.intro (ob_load rfl (wt_none rfl) (ev_far rfl rfl) (fun w2 hb => run_loadAll Tryz.underlying27 rfl (by kernel_rfl) (Bz.drew.below hb)) (fun _ _ => rfl)) ?_
            refine And.intro (ob_call2 rfl Tryz.func9 (by kernel_rfl) (wt_none rfl) (ev_dep (j := 1) (by kernel_rfl) rfl rfl) (ev_dep (j := 2) (by kernel_rfl) rfl rfl) (fun w2 u0 u1 hb h0 h1 => by obtain rfl := h0; obtain rfl := h1; exact (fadd_any _ _ _ _ _ (ky.drew.below hb) (kz.drew.below hb) (ly.mono (by decide)) (lz.mono (by decide))).mono fun e w3 h => RetQn.pd h)) ?_
            refine And.intro (ob_call2 rfl Tryz.func14 (by kernel_rfl) (wt_none rfl) (ev_dep (j := 0) (by kernel_rfl) rfl rfl) (ev_dep (j := 3) (by kernel_rfl) rfl rfl) (fun w2 u0 u1 hb h0 h1 => by obtain rfl := h0; exact (fmul_any _ _ _ _ _ (kx.drew.below hb) h1 (lx.mono (by decide)) ((lenQ_add ly lz).mono (by decide))).mono fun e w3 h => RetQn.pd h)) ?_
            refine And.intro (ob_load rfl (wt_none rfl) (ev_far rfl rfl) (fun w2 hb => run_loadAll Tryz.underlying27 rfl (by kernel_rfl) (BP.drew.below hb)) (fun _ _ => rfl)) ?_
            refine And.intro (ob_load rfl (wt_none rfl) (ev_far rfl rfl) (fun w2 hb => run_loadAll Tryz.underlying27 rfl (by kernel_rfl) (Bx.drew.below hb)) (fun _ _ => rfl)) ?_
            refine And.intro (ob_load rfl (wt_none rfl) (ev_far rfl rfl) (fun w2 hb => run_loadAll Tryz.underlying27 rfl (by kernel_rfl) (Bz.drew.below hb)) (fun _ _ => rfl)) ?_
            refine And.intro (ob_call2 rfl Tryz.func14 (by kernel_rfl) (wt_none rfl) (ev_dep (j := 6) (by kernel_rfl) rfl rfl) (ev_dep (j := 7) (by kernel_rfl) rfl rfl) (fun w2 u0 u1 hb h0 h1 => by obtain rfl := h0; obtain rfl := h1; exact (fmul_any _ _ _ _ _ (kx.drew.below hb) (kz.drew.below hb) (lx.mono (by decide)) (lz.mono (by decide))).mono fun e w3 h => RetQn.pd h)) ?_
            refine And.intro (ob_call2 rfl Tryz.func9 (by kernel_rfl) (wt_none rfl) (ev_dep (j := 5) (by kernel_rfl) rfl rfl) (ev_dep (j := 8) (by kernel_rfl) rfl rfl) (fun w2 u0 u1 hb h0 h1 => by obtain rfl := h0; exact (fadd_any _ _ _ _ _ (kP.drew.below hb) h1 ((lenQ_mul lx ly).mono (by decide)) ((lenQ_mul lx lz).mono (by decide))).mono fun e w3 h => RetQn.pd h)) ?_
            refine And.intro (ob_call2 rfl Tryz.func20 (by kernel_rfl) (wt_none rfl) (ev_dep (j := 4) (by kernel_rfl) rfl rfl) (ev_dep (j := 9) (by kernel_rfl) rfl rfl) (fun w2 u0 u1 hb h0 h1 => by exact (fsame_any _ _ ((x * (y + z))) (((x * y) + (x * z))) true _ h0 h1 ((lenQ_mul lx (lenQ_add ly lz)).mono (by decide)) ((lenQ_add (lenQ_mul lx ly) (lenQ_mul lx lz)).mono (by decide)) (decide_eq_true (Rat.mul_add x y z)).symm).mono fun e w3 h => RetV.pd h)) ?_
            refine And.intro (ob_un rfl (wt_none rfl) (ev_dep (j := 10) (by kernel_rfl) rfl rfl) (fun _ => un_not _ _) (fun _ => rfl)) ?_
            refine And.intro (ob_move rfl (wt_none rfl) (ev_dep (j := 11) (by kernel_rfl) rfl rfl) (fun _ _ h => h)) ?_
            refine And.intro (ob_load rfl (wt_dep (c := false) (b := false) (g := 12) rfl (by kernel_rfl) rfl rfl rfl (by exact fun _ _ h => h)) (ev_far rfl rfl) (fun w2 hb => run_loadAll Tryz.underlying27 rfl (by kernel_rfl) (BS.drew.below hb)) (fun _ _ => rfl)) ?_
            refine And.intro (ob_load rfl (wt_dep (c := false) (b := false) (g := 12) rfl (by kernel_rfl) rfl rfl rfl (by exact fun _ _ h => h)) (ev_far rfl rfl) (fun w2 hb => run_loadAll Tryz.underlying27 rfl (by kernel_rfl) (By.drew.below hb)) (fun _ _ => rfl)) ?_
            refine And.intro (ob_call2 rfl Tryz.func12 (by kernel_rfl) (wt_dep (c := false) (b := false) (g := 12) rfl (by kernel_rfl) rfl rfl rfl (by exact fun _ _ h => h)) (ev_dep (j := 13) (by kernel_rfl) rfl rfl) (ev_dep (j := 14) (by kernel_rfl) rfl rfl) (fun w2 u0 u1 hb h0 h1 => by obtain rfl := h0; obtain rfl := h1; exact (fsub_any _ _ _ _ _ (kS.drew.below hb) (ky.drew.below hb) ((lenQ_add lx ly).mono (by decide)) (ly.mono (by decide))).mono fun e w3 h => RetQn.pd h)) ?_
            refine And.intro (ob_load rfl (wt_dep (c := false) (b := false) (g := 12) rfl (by kernel_rfl) rfl rfl rfl (by exact fun _ _ h => h)) (ev_far rfl rfl) (fun w2 hb => run_loadAll Tryz.underlying27 rfl (by kernel_rfl) (Bx.drew.below hb)) (fun _ _ => rfl)) ?_
            refine And.intro (ob_call2 rfl Tryz.func20 (by kernel_rfl) (wt_dep (c := false) (b := false) (g := 12) rfl (by kernel_rfl) rfl rfl rfl (by exact fun _ _ h => h)) (ev_dep (j := 15) (by kernel_rfl) rfl rfl) (ev_dep (j := 16) (by kernel_rfl) rfl rfl) (fun w2 u0 u1 hb h0 h1 => by obtain rfl := h1; exact (fsame_any _ _ (((x + y) - y)) (x) true _ h0 (kx.drew.below hb) ((lenQ_sub (lenQ_add lx ly) ly).mono (by decide)) (lx.mono (by decide)) (decide_eq_true Rat.add_sub_cancel).symm).mono fun e w3 h => RetV.pd h)) ?_
            refine And.intro (ob_un rfl (wt_dep (c := false) (b := false) (g := 12) rfl (by kernel_rfl) rfl rfl rfl (by exact fun _ _ h => h)) (ev_dep (j := 17) (by kernel_rfl) rfl rfl) (fun _ => un_not _ _) (fun _ => rfl)) ?_
            refine And.intro (ob_pick (b := false) rfl (wt_none rfl) (ev_dep (j := 12) (by kernel_rfl) rfl rfl) (ev_dep (j := 18) (by kernel_rfl) rfl rfl) (fun _ _ h => h)) ?_
            refine And.intro (ob_move rfl (wt_none rfl) (ev_dep (j := 19) (by kernel_rfl) rfl rfl) (fun _ _ h => h)) ?_
            refine And.intro (ob_load rfl (wt_dep (c := false) (b := false) (g := 20) rfl (by kernel_rfl) rfl rfl rfl (by exact fun _ _ h => h)) (ev_far rfl rfl) (fun w2 hb => run_loadAll Tryz.underlying27 rfl (by kernel_rfl) (Bx.drew.below hb)) (fun _ _ => rfl)) ?_
            refine And.intro (ob_load rfl (wt_dep (c := false) (b := false) (g := 20) rfl (by kernel_rfl) rfl rfl rfl (by exact fun _ _ h => h)) (ev_far rfl rfl) (fun w2 hb => run_loadAll Tryz.underlying27 rfl (by kernel_rfl) (Bz.drew.below hb)) (fun _ _ => rfl)) ?_
            refine And.intro (ob_call2 rfl Tryz.func9 (by kernel_rfl) (wt_dep (c := false) (b := false) (g := 20) rfl (by kernel_rfl) rfl rfl rfl (by exact fun _ _ h => h)) (ev_dep (j := 21) (by kernel_rfl) rfl rfl) (ev_dep (j := 22) (by kernel_rfl) rfl rfl) (fun w2 u0 u1 hb h0 h1 => by obtain rfl := h0; obtain rfl := h1; exact (fadd_any _ _ _ _ _ (kx.drew.below hb) (kz.drew.below hb) (lx.mono (by decide)) (lz.mono (by decide))).mono fun e w3 h => RetQn.pd h)) ?_
            refine And.intro (ob_load rfl (wt_dep (c := false) (b := false) (g := 20) rfl (by kernel_rfl) rfl rfl rfl (by exact fun _ _ h => h)) (ev_far rfl rfl) (fun w2 hb => run_loadAll Tryz.underlying27 rfl (by kernel_rfl) (By.drew.below hb)) (fun _ _ => rfl)) ?_
            refine And.intro (ob_load rfl (wt_dep (c := false) (b := false) (g := 20) rfl (by kernel_rfl) rfl rfl rfl (by exact fun _ _ h => h)) (ev_far rfl rfl) (fun w2 hb => run_loadAll Tryz.underlying27 rfl (by kernel_rfl) (Bz.drew.below hb)) (fun _ _ => rfl)) ?_
            refine And.intro (ob_call2 rfl Tryz.func9 (by kernel_rfl) (wt_dep (c := false) (b := false) (g := 20) rfl (by kernel_rfl) rfl rfl rfl (by exact fun _ _ h => h)) (ev_dep (j := 24) (by kernel_rfl) rfl rfl) (ev_dep (j := 25) (by kernel_rfl) rfl rfl) (fun w2 u0 u1 hb h0 h1 => by obtain rfl := h0; obtain rfl := h1; exact (fadd_any _ _ _ _ _ (ky.drew.below hb) (kz.drew.below hb) (ly.mono (by decide)) (lz.mono (by decide))).mono fun e w3 h => RetQn.pd h)) ?_
            refine And.intro (ob_call2 rfl Tryz.func16 (by kernel_rfl) (wt_dep (c := false) (b := false) (g := 20) rfl (by kernel_rfl) rfl rfl rfl (by exact fun _ _ h => h)) (ev_dep (j := 23) (by kernel_rfl) rfl rfl) (ev_dep (j := 26) (by kernel_rfl) rfl rfl) (fun w2 u0 u1 hb h0 h1 => by exact (fcmp_any _ _ ((x + z)) ((y + z)) C _ h0 h1 ((lenQ_add lx lz).mono (by decide)) ((lenQ_add ly lz).mono (by decide)) HC1.out).mono fun e w3 h => RetV.pd h)) ?_
            refine And.intro (ob_load rfl (wt_dep (c := false) (b := false) (g := 20) rfl (by kernel_rfl) rfl rfl rfl (by exact fun _ _ h => h)) (ev_far rfl rfl) (fun w2 hb => run_loadAll Tryz.underlying27 rfl (by kernel_rfl) (Bx.drew.below hb)) (fun _ _ => rfl)) ?_
            refine And.intro (ob_load rfl (wt_dep (c := false) (b := false) (g := 20) rfl (by kernel_rfl) rfl rfl rfl (by exact fun _ _ h => h)) (ev_far rfl rfl) (fun w2 hb => run_loadAll Tryz.underlying27 rfl (by kernel_rfl) (By.drew.below hb)) (fun _ _ => rfl)) ?_
            refine And.intro (ob_call2 rfl Tryz.func16 (by kernel_rfl) (wt_dep (c := false) (b := false) (g := 20) rfl (by kernel_rfl) rfl rfl rfl (by exact fun _ _ h => h)) (ev_dep (j := 28) (by kernel_rfl) rfl rfl) (ev_dep (j := 29) (by kernel_rfl) rfl rfl) (fun w2 u0 u1 hb h0 h1 => by obtain rfl := h0; obtain rfl := h1; exact (fcmp_any _ _ (x) (y) C _ (kx.drew.below hb) (ky.drew.below hb) (lx.mono (by decide)) (ly.mono (by decide)) HC.out).mono fun e w3 h => RetV.pd h)) ?_
            refine And.intro (ob_bin rfl (wt_dep (c := false) (b := false) (g := 20) rfl (by kernel_rfl) rfl rfl rfl (by exact fun _ _ h => h)) (ev_dep (j := 27) (by kernel_rfl) rfl rfl) (ev_dep (j := 30) (by kernel_rfl) rfl rfl) (fun _ _ _ hx hy => ⟨.bool (C != C), by rw [hx, hy]; exact bin_neq_int _ _ _ _ _, congrArg Value.bool (bne_self_eq_false _)⟩)) ?_
            refine And.intro (ob_pick (b := false) rfl (wt_none rfl) (ev_dep (j := 20) (by kernel_rfl) rfl rfl) (ev_dep (j := 31) (by kernel_rfl) rfl rfl) (fun _ _ h => h)) ?_
            refine And.intro (ob_move rfl (wt_none rfl) (ev_dep (j := 32) (by kernel_rfl) rfl rfl) (fun _ _ h => h)) ?_
            refine And.intro (ob_load rfl (wt_dep (c := false) (b := false) (g := 33) rfl (by kernel_rfl) rfl rfl rfl (by exact fun _ _ h => h)) (ev_far rfl rfl) (fun w2 hb => run_loadAll Tryz.underlying27 rfl (by kernel_rfl) (Bx.drew.below hb)) (fun _ _ => rfl)) ?_
            refine And.intro (ob_load rfl (wt_dep (c := false) (b := false) (g := 33) rfl (by kernel_rfl) rfl rfl rfl (by exact fun _ _ h => h)) (ev_far rfl rfl) (fun w2 hb => run_loadAll Tryz.underlying27 rfl (by kernel_rfl) (By.drew.below hb)) (fun _ _ => rfl)) ?_
            refine And.intro (ob_call2 rfl Tryz.func16 (by kernel_rfl) (wt_dep (c := false) (b := false) (g := 33) rfl (by kernel_rfl) rfl rfl rfl (by exact fun _ _ h => h)) (ev_dep (j := 34) (by kernel_rfl) rfl rfl) (ev_dep (j := 35) (by kernel_rfl) rfl rfl) (fun w2 u0 u1 hb h0 h1 => by obtain rfl := h0; obtain rfl := h1; exact (fcmp_any _ _ (x) (y) C _ (kx.drew.below hb) (ky.drew.below hb) (lx.mono (by decide)) (ly.mono (by decide)) HC.out).mono fun e w3 h => RetV.pd h)) ?_
            refine And.intro (ob_bin rfl (wt_dep (c := false) (b := false) (g := 33) rfl (by kernel_rfl) rfl rfl rfl (by exact fun _ _ h => h)) (ev_dep (j := 36) (by kernel_rfl) rfl rfl) (ev_const _) (fun _ _ _ hx hy => ⟨.bool E, by rw [hx, hy, bin_eql_int, HCE.out], rfl⟩)) ?_
            refine And.intro (ob_load rfl (wt_dep (c := false) (b := false) (g := 33) rfl (by kernel_rfl) rfl rfl rfl (by exact fun _ _ h => h)) (ev_far rfl rfl) (fun w2 hb => run_loadAll Tryz.underlying27 rfl (by kernel_rfl) (Bx.drew.below hb)) (fun _ _ => rfl)) ?_
            refine And.intro (ob_load rfl (wt_dep (c := false) (b := false) (g := 33) rfl (by kernel_rfl) rfl rfl rfl (by exact fun _ _ h => h)) (ev_far rfl rfl) (fun w2 hb => run_loadAll Tryz.underlying27 rfl (by kernel_rfl) (By.drew.below hb)) (fun _ _ => rfl)) ?_
            refine And.intro (ob_call2 rfl Tryz.func20 (by kernel_rfl) (wt_dep (c := false) (b := false) (g := 33) rfl (by kernel_rfl) rfl rfl rfl (by exact fun _ _ h => h)) (ev_dep (j := 38) (by kernel_rfl) rfl rfl) (ev_dep (j := 39) (by kernel_rfl) rfl rfl) (fun w2 u0 u1 hb h0 h1 => by obtain rfl := h0; obtain rfl := h1; exact (fsame_any _ _ (x) (y) E _ (kx.drew.below hb) (ky.drew.below hb) (lx.mono (by decide)) (ly.mono (by decide)) HE.out).mono fun e w3 h => RetV.pd h)) ?_
            refine And.intro (ob_bin rfl (wt_dep (c := false) (b := false) (g := 33) rfl (by kernel_rfl) rfl rfl rfl (by exact fun _ _ h => h)) (ev_dep (j := 37) (by kernel_rfl) rfl rfl) (ev_dep (j := 40) (by kernel_rfl) rfl rfl) (fun _ _ _ hx hy => ⟨.bool (!(E == E)), by rw [hx, hy]; exact bin_neq_bool _ _ _ _ Tryz.underlying4 _, congrArg (fun t => Value.bool (!t)) (beq_self_eq_true _)⟩)) ?_
            refine And.intro (ob_pick (b := false) rfl (wt_none rfl) (ev_dep (j := 33) (by kernel_rfl) rfl rfl) (ev_dep (j := 41) (by kernel_rfl) rfl rfl) (fun _ _ h => h)) ?_
            trivial
          case done18 =>
            refine fun w10 hb10 v0 h0 v1 h1 v2 h2 v3 h3 v4 h4 v5 h5 v6 h6 v7 h7 v8 h8 v9 h9 v10 h10 v11 h11 v12 h12 v13 h13 v14 h14 v15 h15 v16 h16 v17 h17 v18 h18 v19 h19 v20 h20 v21 h21 v22 h22 v23 h23 v24 h24 v25 h25 v26 h26 v27 h27 v28 h28 v29 h29 v30 h30 v31 h31 v32 h32 v33 h33 v34 h34 v35 h35 v36 h36 v37 h37 v38 h38 v39 h39 v40 h40 v41 h41 v42 h42 b hbf => ?_
            obtain rfl := h0; obtain rfl := h1; obtain rfl := h2; obtain rfl := h5; obtain rfl := h6; obtain rfl := h7; obtain rfl := h10; obtain rfl := h11; obtain rfl := h12; obtain rfl := h13; obtain rfl := h14; obtain rfl := h16; obtain rfl := h17; obtain rfl := h18; obtain rfl := h19; obtain rfl := h20; obtain rfl := h21; obtain rfl := h22; obtain rfl := h24; obtain rfl := h25; obtain rfl := h27; obtain rfl := h28; obtain rfl := h29; obtain rfl := h30; obtain rfl := h31; obtain rfl := h32; obtain rfl := h33; obtain rfl := h34; obtain rfl := h35; obtain rfl := h36; obtain rfl := h37; obtain rfl := h38; obtain rfl := h39; obtain rfl := h40; obtain rfl := h41; obtain rfl := h42
            have q3 := h3
            have q4 := h4
            have q8 := h8
            have q9 := h9
            have q15 := h15
            have q23 := h23
            have q26 := h26
            simp only [Act.put, List.setIfInBounds_toArray, List.set_cons_zero, List.set_cons_succ] at hbf
            subst hbf
            replace Bx := Bx.below hb10
            replace kxs := kxs.below hb10
            replace kxd := kxd.below hb10
            replace kxz := kxz.below hb10
            replace kx := kx.below hb10
            replace By := By.below hb10
            replace kys := kys.below hb10
            replace kyd := kyd.below hb10
            replace kyz := kyz.below hb10
            replace ky := ky.below hb10
            replace Bz := Bz.below hb10
            replace kzs := kzs.below hb10
            replace kzd := kzd.below hb10
            replace kzz := kzz.below hb10
            replace kz := kz.below hb10
            replace BS := BS.below hb10
            replace kSs := kSs.below hb10
            replace kSd := kSd.below hb10
            replace kSz := kSz.below hb10
            replace kS := kS.below hb10
            replace BP := BP.below hb10
            replace kPs := kPs.below hb10
            replace kPd := kPd.below hb10
            replace kPz := kPz.below hb10
            replace kP := kP.below hb10
            replace bb := bb.trans (hb10.mono bb.size)
            have hsz10 := bb.size
            refine any_done (by kernel_rfl) ?_
            by_cases hy0 : y = 0
            · go_upto_region 9 with (fail)
              have lt10_3 := Blk.lt Bx
              have lt10_4 := Blk.lt By
              have lt10_5 := Blk.lt Bz
              have lt10_7 := Blk.lt BS
              have lt10_8 := Blk.lt BP
              refine flowp 7 [Pd.eq (.agg #[.bool (ngB ((x * y)).num), .slice AP (digs 4294967296 ((x * y)).num.natAbs).length cP, .slice DP (digs 4294967296 ((x * y)).den).length eP]), Pd.eq (.agg #[.bool (ngB (y).num), .slice Ay (digs 4294967296 (y).num.natAbs).length cy, .slice Dy (digs 4294967296 (y).den).length ey]), Pd.eq (.tuple #[.agg #[.bool false, .slice none 0 0, .slice none 0 0], .int .i64 3]), Pd.eq (.tuple #[.agg #[.bool false, .slice none 0 0, .slice none 0 0], .int .i64 3]), Pd.eq (.agg #[.bool false, .slice none 0 0, .slice none 0 0]), Pd.eq (.int .i64 3), pn 27 #[.bool false, .slice none 0 0, .slice none 0 0] w10.heap.size] (by kernel_rfl) ?ob19 ?done19
              case ob19 =>
                refine And.intro (ob_load rfl (wt_none rfl) (ev_far rfl rfl) (fun w2 hb => run_loadAll Tryz.underlying27 rfl (by kernel_rfl) (BP.below hb)) (fun _ _ => rfl)) ?_
                refine And.intro (ob_load rfl (wt_none rfl) (ev_far rfl rfl) (fun w2 hb => run_loadAll Tryz.underlying27 rfl (by kernel_rfl) (By.below hb)) (fun _ _ => rfl)) ?_
                refine And.intro (ob_call2 rfl Tryz.func22 (by kernel_rfl) (wt_none rfl) (ev_dep (j := 0) (by kernel_rfl) rfl rfl) (ev_dep (j := 1) (by kernel_rfl) rfl rfl) (fun w2 u0 u1 hb h0 h1 => by obtain rfl := h0; obtain rfl := h1; exact (fdiv_zero _ _ _ _ _ (kP.below hb) (ky.below hb) hy0).mono fun e w3 h => RetQN.pd h)) ?_
                refine And.intro (ob_move rfl (wt_none rfl) (ev_dep (j := 2) (by kernel_rfl) rfl rfl) (fun _ _ h => h)) ?_
                refine And.intro (ob_extract rfl (wt_none rfl) (ev_dep (j := 3) (by kernel_rfl) rfl rfl) (fun w2 u hu => by obtain rfl := hu; exact ⟨_, rfl, rfl⟩)) ?_
                refine And.intro (ob_extract rfl (wt_none rfl) (ev_dep (j := 3) (by kernel_rfl) rfl rfl) (fun w2 u hu => by obtain rfl := hu; exact ⟨_, rfl, rfl⟩)) ?_
                refine And.intro (ob_alloc (z := .agg #[.bool false, .slice none 0 0, .slice none 0 0]) rfl rfl (fun _ => by kernel_rfl) (fun _ _ hB h => ⟨_, rfl, hB, h⟩)) ?_
                trivial
              case done19 =>
                refine fun w11 hb11 v0 h0 v1 h1 v2 h2 v3 h3 v4 h4 v5 h5 v6 h6 d6 b hbf => ?_
                obtain rfl := h0; obtain rfl := h1; obtain rfl := h2; obtain rfl := h3; obtain rfl := h4; obtain rfl := h5
                obtain ⟨g19_6, rfl, hg6, B6⟩ := h6
                simp only [Act.put, List.setIfInBounds_toArray, List.set_cons_zero, List.set_cons_succ] at hbf
                subst hbf
                replace Bx := Bx.below hb11
                replace kxs := kxs.below hb11
                replace kxd := kxd.below hb11
                replace kxz := kxz.below hb11
                replace kx := kx.below hb11
                replace By := By.below hb11
                replace kys := kys.below hb11
                replace kyd := kyd.below hb11
                replace kyz := kyz.below hb11
                replace ky := ky.below hb11
                replace Bz := Bz.below hb11
                replace kzs := kzs.below hb11
                replace kzd := kzd.below hb11
                replace kzz := kzz.below hb11
                replace kz := kz.below hb11
                replace BS := BS.below hb11
                replace kSs := kSs.below hb11
                replace kSd := kSd.below hb11
                replace kSz := kSz.below hb11
                replace kS := kS.below hb11
                replace BP := BP.below hb11
                replace kPs := kPs.below hb11
                replace kPd := kPd.below hb11
                replace kPz := kPz.below hb11
                replace kP := kP.below hb11
                replace bb := bb.trans (hb11.mono bb.size)
                have hsz11 := bb.size
                have BA9 := B6
                refine ops_store (i := 7) rfl rfl rfl rfl rfl rfl (cells := [.bool false, .slice none 0 0, .slice none 0 0]) rfl BA9 rfl (by kernel_rfl) (one3 rfl rfl rfl) fun w12 hg12 BN12 => ?_
                replace kxs := off kxs BA9 no_ints3 hg12
                replace kxd := off kxd BA9 no_ints3 hg12
                replace kxz : IsZ w12 (.agg #[.bool (ngB (x).num), .slice Ax (digs 4294967296 (x).num.natAbs).length cx]) ((x).num) := ⟨_, rfl, kxs⟩
                replace kx : IsQ w12 (.agg #[.bool (ngB (x).num), .slice Ax (digs 4294967296 (x).num.natAbs).length cx, .slice Dx (digs 4294967296 (x).den).length ex]) (x) := ⟨_, _, rfl, kxs, kxd⟩
                replace Bx := Bx.grown hg12 (by omega)
                replace kys := off kys BA9 no_ints3 hg12
                replace kyd := off kyd BA9 no_ints3 hg12
                replace kyz : IsZ w12 (.agg #[.bool (ngB (y).num), .slice Ay (digs 4294967296 (y).num.natAbs).length cy]) ((y).num) := ⟨_, rfl, kys⟩
                replace ky : IsQ w12 (.agg #[.bool (ngB (y).num), .slice Ay (digs 4294967296 (y).num.natAbs).length cy, .slice Dy (digs 4294967296 (y).den).length ey]) (y) := ⟨_, _, rfl, kys, kyd⟩
                replace By := By.grown hg12 (by omega)
                replace kzs := off kzs BA9 no_ints3 hg12
                replace kzd := off kzd BA9 no_ints3 hg12
                replace kzz : IsZ w12 (.agg #[.bool (ngB (z).num), .slice Az (digs 4294967296 (z).num.natAbs).length cz]) ((z).num) := ⟨_, rfl, kzs⟩
                replace kz : IsQ w12 (.agg #[.bool (ngB (z).num), .slice Az (digs 4294967296 (z).num.natAbs).length cz, .slice Dz (digs 4294967296 (z).den).length ez]) (z) := ⟨_, _, rfl, kzs, kzd⟩
                replace Bz := Bz.grown hg12 (by omega)
                replace kSs := off kSs BA9 no_ints3 hg12
                replace kSd := off kSd BA9 no_ints3 hg12
                replace kSz : IsZ w12 (.agg #[.bool (ngB ((x + y)).num), .slice AS (digs 4294967296 ((x + y)).num.natAbs).length cS]) (((x + y)).num) := ⟨_, rfl, kSs⟩
                replace kS : IsQ w12 (.agg #[.bool (ngB ((x + y)).num), .slice AS (digs 4294967296 ((x + y)).num.natAbs).length cS, .slice DS (digs 4294967296 ((x + y)).den).length eS]) ((x + y)) := ⟨_, _, rfl, kSs, kSd⟩
                replace BS := BS.grown hg12 (by omega)
                replace kPs := off kPs BA9 no_ints3 hg12
                replace kPd := off kPd BA9 no_ints3 hg12
                replace kPz : IsZ w12 (.agg #[.bool (ngB ((x * y)).num), .slice AP (digs 4294967296 ((x * y)).num.natAbs).length cP]) (((x * y)).num) := ⟨_, rfl, kPs⟩
                replace kP : IsQ w12 (.agg #[.bool (ngB ((x * y)).num), .slice AP (digs 4294967296 ((x * y)).num.natAbs).length cP, .slice DP (digs 4294967296 ((x * y)).den).length eP]) ((x * y)) := ⟨_, _, rfl, kPs, kPd⟩
                replace BP := BP.grown hg12 (by omega)
                replace bb := bb.trans ((Below.refl _ _).grown hg12 bb.size (fun g hg => by injection hg with hg; omega))
                have hsz12 := bb.size
                replace BA9 : Blk w12 (g19_6) _ #[.bool false, .slice none 0 0, .slice none 0 0] := BN12
                refine ops_assign (i := 8) (.int .i64 3) rfl rfl rfl rfl rfl fun b hbf => ?_
                simp only [Act.put, List.setIfInBounds_toArray, List.set_cons_zero, List.set_cons_succ] at hbf
                subst hbf
                refine ops_done ?_
                go_upto_region 11 with (fail)
                refine flowp 4 [Pd.eq (.agg #[.bool (ngB (y).num), .slice Ay (digs 4294967296 (y).num.natAbs).length cy, .slice Dy (digs 4294967296 (y).den).length ey]), Pd.eq (.int .i64 0), Pd.eq (.bool true), Pd.eq (.bool true)] (by kernel_rfl) ?ob20 ?done20
                case ob20 =>
                  refine And.intro (ob_load rfl (wt_none rfl) (ev_far rfl rfl) (fun w2 hb => run_loadAll Tryz.underlying27 rfl (by kernel_rfl) (By.below hb)) (fun _ _ => rfl)) ?_
                  refine And.intro (ob_call1 rfl Tryz.func18 (by kernel_rfl) (wt_none rfl) (ev_dep (j := 0) (by kernel_rfl) rfl rfl) (fun w2 u0 hb h0 => by obtain rfl := h0; exact (fsign_any _ _ 0 _ (ky.below hb) (ly.mono (by decide)) (by rw [hy0]; rfl)).mono fun e w3 h => RetV.pd h)) ?_
                  refine And.intro (ob_bin rfl (wt_none rfl) (ev_dep (j := 1) (by kernel_rfl) rfl rfl) (ev_const _) (fun _ _ _ hx hy => ⟨.bool ((0 : Int) == 0), by rw [hx, hy]; exact bin_eql_int _ _ _ _ _, congrArg Value.bool (by decide)⟩)) ?_
                  refine And.intro (ob_assign rfl (wt_none rfl) (ev_dep (j := 2) (by kernel_rfl) rfl rfl) (fun _ _ h => h)) ?_
                  trivial
                case done20 =>
                  refine fun w13 hb13 v0 h0 v1 h1 v2 h2 v3 h3 b hbf => ?_
                  obtain rfl := h0; obtain rfl := h1; obtain rfl := h2; obtain rfl := h3
                  simp only [Act.put, List.setIfInBounds_toArray, List.set_cons_zero, List.set_cons_succ] at hbf
                  subst hbf
                  replace Bx := Bx.below hb13
                  replace kxs := kxs.below hb13
                  replace kxd := kxd.below hb13
                  replace kxz := kxz.below hb13
                  replace kx := kx.below hb13
                  replace By := By.below hb13
                  replace kys := kys.below hb13
                  replace kyd := kyd.below hb13
                  replace kyz := kyz.below hb13
                  replace ky := ky.below hb13
                  replace Bz := Bz.below hb13
                  replace kzs := kzs.below hb13
                  replace kzd := kzd.below hb13
                  replace kzz := kzz.below hb13
                  replace kz := kz.below hb13
                  replace BS := BS.below hb13
                  replace kSs := kSs.below hb13
                  replace kSd := kSd.below hb13
                  replace kSz := kSz.below hb13
                  replace kS := kS.below hb13
                  replace BP := BP.below hb13
                  replace kPs := kPs.below hb13
                  replace kPd := kPd.below hb13
                  replace kPz := kPz.below hb13
                  replace kP := kP.below hb13
                  replace BA9 := BA9.below hb13
                  replace bb := bb.trans (hb13.mono bb.size)
                  have hsz13 := bb.size
                  refine ops_done ?_
                  go_wp2
                  go_ret
                  exact ⟨rfl, bb⟩
            · go_upto_region 9 with (fail)
              have lt10_3 := Blk.lt Bx
              have lt10_4 := Blk.lt By
              have lt10_5 := Blk.lt Bz
              have lt10_7 := Blk.lt BS
              have lt10_8 := Blk.lt BP
              refine flowp 7 [Pd.eq (.agg #[.bool (ngB ((x * y)).num), .slice AP (digs 4294967296 ((x * y)).num.natAbs).length cP, .slice DP (digs 4294967296 ((x * y)).den).length eP]), Pd.eq (.agg #[.bool (ngB (y).num), .slice Ay (digs 4294967296 (y).num.natAbs).length cy, .slice Dy (digs 4294967296 (y).den).length ey]), pqe (((x * y) / y)) 0, pqe (((x * y) / y)) 0, pqn (((x * y) / y)), Pd.eq (.int .i64 0), pn 27 #[.bool false, .slice none 0 0, .slice none 0 0] w10.heap.size] (by kernel_rfl) ?ob21 ?done21
              case ob21 =>
                refine And.intro (ob_load rfl (wt_none rfl) (ev_far rfl rfl) (fun w2 hb => run_loadAll Tryz.underlying27 rfl (by kernel_rfl) (BP.below hb)) (fun _ _ => rfl)) ?_
                refine And.intro (ob_load rfl (wt_none rfl) (ev_far rfl rfl) (fun w2 hb => run_loadAll Tryz.underlying27 rfl (by kernel_rfl) (By.below hb)) (fun _ _ => rfl)) ?_
                refine And.intro (ob_call2 rfl Tryz.func22 (by kernel_rfl) (wt_none rfl) (ev_dep (j := 0) (by kernel_rfl) rfl rfl) (ev_dep (j := 1) (by kernel_rfl) rfl rfl) (fun w2 u0 u1 hb h0 h1 => by obtain rfl := h0; obtain rfl := h1; exact (fdiv_ok _ _ _ _ _ (kP.below hb) (ky.below hb) ((lenQ_mul lx ly).mono (by decide)) (ly.mono (by decide)) hy0).mono fun e w3 h => RetQE.pd h)) ?_
                refine And.intro (ob_move rfl (wt_none rfl) (ev_dep (j := 2) (by kernel_rfl) rfl rfl) (fun _ _ h => h)) ?_
                refine And.intro (ob_extract rfl (wt_none rfl) (ev_dep (j := 3) (by kernel_rfl) rfl rfl) (fun w2 u hu => by obtain ⟨v, rfl, q1⟩ := hu; exact ⟨v, rfl, q1⟩)) ?_
                refine And.intro (ob_extract rfl (wt_none rfl) (ev_dep (j := 3) (by kernel_rfl) rfl rfl) (fun w2 u hu => by obtain ⟨v, rfl, q1⟩ := hu; exact ⟨_, rfl, rfl⟩)) ?_
                refine And.intro (ob_alloc (z := .agg #[.bool false, .slice none 0 0, .slice none 0 0]) rfl rfl (fun _ => by kernel_rfl) (fun _ _ hB h => ⟨_, rfl, hB, h⟩)) ?_
                trivial
              case done21 =>
                refine fun w11 hb11 v0 h0 v1 h1 v2 h2 v3 h3 v4 h4 v5 h5 v6 h6 d6 b hbf => ?_
                obtain rfl := h0; obtain rfl := h1; obtain rfl := h5
                clear h2
                clear h3
                have q4 := h4
                obtain ⟨g21_6, rfl, hg6, B6⟩ := h6
                simp only [Act.put, List.setIfInBounds_toArray, List.set_cons_zero, List.set_cons_succ] at hbf
                subst hbf
                replace Bx := Bx.below hb11
                replace kxs := kxs.below hb11
                replace kxd := kxd.below hb11
                replace kxz := kxz.below hb11
                replace kx := kx.below hb11
                replace By := By.below hb11
                replace kys := kys.below hb11
                replace kyd := kyd.below hb11
                replace kyz := kyz.below hb11
                replace ky := ky.below hb11
                replace Bz := Bz.below hb11
                replace kzs := kzs.below hb11
                replace kzd := kzd.below hb11
                replace kzz := kzz.below hb11
                replace kz := kz.below hb11
                replace BS := BS.below hb11
                replace kSs := kSs.below hb11
                replace kSd := kSd.below hb11
                replace kSz := kSz.below hb11
                replace kS := kS.below hb11
                replace BP := BP.below hb11
                replace kPs := kPs.below hb11
                replace kPd := kPd.below hb11
                replace kPz := kPz.below hb11
                replace kP := kP.below hb11
                replace bb := bb.trans (hb11.mono bb.size)
                have hsz11 := bb.size
                have BA9 := B6
                obtain ⟨u4, t4, rfl, q4, d4⟩ := q4
                obtain ⟨Aq, cq, rfl, _⟩ := id q4
                obtain ⟨Dq, eq, rfl, _⟩ := id d4
                refine ops_store (i := 7) rfl rfl rfl rfl rfl rfl (cells := [.bool (ngB (((x * y) / y)).num), .slice Aq (digs 4294967296 (((x * y) / y)).num.natAbs).length cq, .slice Dq (digs 4294967296 (((x * y) / y)).den).length eq]) rfl BA9 rfl (by kernel_rfl) (one3 rfl rfl rfl) fun w12 hg12 BN12 => ?_
                replace q4 := off q4 BA9 no_ints3 hg12
                replace d4 := off d4 BA9 no_ints3 hg12
                replace kxs := off kxs BA9 no_ints3 hg12
                replace kxd := off kxd BA9 no_ints3 hg12
                replace kxz : IsZ w12 (.agg #[.bool (ngB (x).num), .slice Ax (digs 4294967296 (x).num.natAbs).length cx]) ((x).num) := ⟨_, rfl, kxs⟩
                replace kx : IsQ w12 (.agg #[.bool (ngB (x).num), .slice Ax (digs 4294967296 (x).num.natAbs).length cx, .slice Dx (digs 4294967296 (x).den).length ex]) (x) := ⟨_, _, rfl, kxs, kxd⟩
                replace Bx := Bx.grown hg12 (by omega)
                replace kys := off kys BA9 no_ints3 hg12
                replace kyd := off kyd BA9 no_ints3 hg12
                replace kyz : IsZ w12 (.agg #[.bool (ngB (y).num), .slice Ay (digs 4294967296 (y).num.natAbs).length cy]) ((y).num) := ⟨_, rfl, kys⟩
                replace ky : IsQ w12 (.agg #[.bool (ngB (y).num), .slice Ay (digs 4294967296 (y).num.natAbs).length cy, .slice Dy (digs 4294967296 (y).den).length ey]) (y) := ⟨_, _, rfl, kys, kyd⟩
                replace By := By.grown hg12 (by omega)
                replace kzs := off kzs BA9 no_ints3 hg12
                replace kzd := off kzd BA9 no_ints3 hg12
                replace kzz : IsZ w12 (.agg #[.bool (ngB (z).num), .slice Az (digs 4294967296 (z).num.natAbs).length cz]) ((z).num) := ⟨_, rfl, kzs⟩
                replace kz : IsQ w12 (.agg #[.bool (ngB (z).num), .slice Az (digs 4294967296 (z).num.natAbs).length cz, .slice Dz (digs 4294967296 (z).den).length ez]) (z) := ⟨_, _, rfl, kzs, kzd⟩
                replace Bz := Bz.grown hg12 (by omega)
                replace kSs := off kSs BA9 no_ints3 hg12
                replace kSd := off kSd BA9 no_ints3 hg12
                replace kSz : IsZ w12 (.agg #[.bool (ngB ((x + y)).num), .slice AS (digs 4294967296 ((x + y)).num.natAbs).length cS]) (((x + y)).num) := ⟨_, rfl, kSs⟩
                replace kS : IsQ w12 (.agg #[.bool (ngB ((x + y)).num), .slice AS (digs 4294967296 ((x + y)).num.natAbs).length cS, .slice DS (digs 4294967296 ((x + y)).den).length eS]) ((x + y)) := ⟨_, _, rfl, kSs, kSd⟩
                replace BS := BS.grown hg12 (by omega)
                replace kPs := off kPs BA9 no_ints3 hg12
                replace kPd := off kPd BA9 no_ints3 hg12
                replace kPz : IsZ w12 (.agg #[.bool (ngB ((x * y)).num), .slice AP (digs 4294967296 ((x * y)).num.natAbs).length cP]) (((x * y)).num) := ⟨_, rfl, kPs⟩
                replace kP : IsQ w12 (.agg #[.bool (ngB ((x * y)).num), .slice AP (digs 4294967296 ((x * y)).num.natAbs).length cP, .slice DP (digs 4294967296 ((x * y)).den).length eP]) ((x * y)) := ⟨_, _, rfl, kPs, kPd⟩
                replace BP := BP.grown hg12 (by omega)
                replace bb := bb.trans ((Below.refl _ _).grown hg12 bb.size (fun g hg => by injection hg with hg; omega))
                have hsz12 := bb.size
                have Bq : Blk w12 (g21_6) _ _ := BN12
                have kqs := q4
                have kqd := d4
                have kqz : IsZ w12 (.agg #[.bool (ngB (((x * y) / y)).num), .slice Aq (digs 4294967296 (((x * y) / y)).num.natAbs).length cq]) ((((x * y) / y)).num) := ⟨_, rfl, kqs⟩
                have kq : IsQ w12 (.agg #[.bool (ngB (((x * y) / y)).num), .slice Aq (digs 4294967296 (((x * y) / y)).num.natAbs).length cq, .slice Dq (digs 4294967296 (((x * y) / y)).den).length eq]) (((x * y) / y)) := ⟨_, _, rfl, kqs, kqd⟩
                refine ops_assign (i := 8) (.int .i64 0) rfl rfl rfl rfl rfl fun b hbf => ?_
                simp only [Act.put, List.setIfInBounds_toArray, List.set_cons_zero, List.set_cons_succ] at hbf
                subst hbf
                refine ops_done ?_
                go_upto_region 12 with (fail)
                refine flowp 8 [Pd.eq (.agg #[.bool (ngB (((x * y) / y)).num), .slice Aq (digs 4294967296 (((x * y) / y)).num.natAbs).length cq, .slice Dq (digs 4294967296 (((x * y) / y)).den).length eq]), Pd.eq (.agg #[.bool (ngB (x).num), .slice Ax (digs 4294967296 (x).num.natAbs).length cx, .slice Dx (digs 4294967296 (x).den).length ex]), Pd.eq (.bool true), Pd.eq (.bool true), Pd.eq (.agg #[.bool (ngB (((x * y) / y)).num), .slice Aq (digs 4294967296 (((x * y) / y)).num.natAbs).length cq, .slice Dq (digs 4294967296 (((x * y) / y)).den).length eq]), Pd.eq (.bool true), Pd.eq (.bool true), Pd.eq (.bool true)] (by kernel_rfl) ?ob22 ?done22
                case ob22 =>
                  refine And.intro (ob_load rfl (wt_none rfl) (ev_far rfl rfl) (fun w2 hb => run_loadAll Tryz.underlying27 rfl (by kernel_rfl) (Bq.below hb)) (fun _ _ => rfl)) ?_
                  refine And.intro (ob_load rfl (wt_none rfl) (ev_far rfl rfl) (fun w2 hb => run_loadAll Tryz.underlying27 rfl (by kernel_rfl) (Bx.below hb)) (fun _ _ => rfl)) ?_
                  refine And.intro (ob_call2 rfl Tryz.func20 (by kernel_rfl) (wt_none rfl) (ev_dep (j := 0) (by kernel_rfl) rfl rfl) (ev_dep (j := 1) (by kernel_rfl) rfl rfl) (fun w2 u0 u1 hb h0 h1 => by obtain rfl := h0; obtain rfl := h1; exact (fsame_any _ _ (((x * y) / y)) (x) true _ (kq.below hb) (kx.below hb) ((lenQ_div hy0 (lenQ_mul lx ly) ly).mono (by decide)) (lx.mono (by decide)) (decide_eq_true (Rat.mul_div_cancel hy0)).symm).mono fun e w3 h => RetV.pd h)) ?_
                  refine And.intro (ob_move rfl (wt_none rfl) (ev_dep (j := 2) (by kernel_rfl) rfl rfl) (fun _ _ h => h)) ?_
                  refine And.intro (ob_load rfl (wt_dep (c := true) (b := true) (g := 3) rfl (by kernel_rfl) rfl rfl rfl (by exact fun _ _ h => h)) (ev_far rfl rfl) (fun w2 hb => run_loadAll Tryz.underlying27 rfl (by kernel_rfl) (Bq.below hb)) (fun _ _ => rfl)) ?_
                  refine And.intro (ob_call1 rfl Tryz.func29 (by kernel_rfl) (wt_dep (c := true) (b := true) (g := 3) rfl (by kernel_rfl) rfl rfl rfl (by exact fun _ _ h => h)) (ev_dep (j := 4) (by kernel_rfl) rfl rfl) (fun w2 u0 hb h0 => by obtain rfl := h0; exact (fmay_any _ (((x * y) / y)) _ (kq.below hb) ((lenQ_div hy0 (lenQ_mul lx ly) ly).mono (by decide))).mono fun e w3 h => RetV.pd h)) ?_
                  refine And.intro (ob_pick (b := true) rfl (wt_none rfl) (ev_dep (j := 3) (by kernel_rfl) rfl rfl) (ev_dep (j := 5) (by kernel_rfl) rfl rfl) (fun _ _ h => h)) ?_
                  refine And.intro (ob_assign rfl (wt_none rfl) (ev_dep (j := 6) (by kernel_rfl) rfl rfl) (fun _ _ h => h)) ?_
                  trivial
                case done22 =>
                  refine fun w13 hb13 v0 h0 v1 h1 v2 h2 v3 h3 v4 h4 v5 h5 v6 h6 v7 h7 b hbf => ?_
                  obtain rfl := h0; obtain rfl := h1; obtain rfl := h2; obtain rfl := h3; obtain rfl := h4; obtain rfl := h5; obtain rfl := h6; obtain rfl := h7
                  simp only [Act.put, List.setIfInBounds_toArray, List.set_cons_zero, List.set_cons_succ] at hbf
                  subst hbf
                  replace Bx := Bx.below hb13
                  replace kxs := kxs.below hb13
                  replace kxd := kxd.below hb13
                  replace kxz := kxz.below hb13
                  replace kx := kx.below hb13
                  replace By := By.below hb13
                  replace kys := kys.below hb13
                  replace kyd := kyd.below hb13
                  replace kyz := kyz.below hb13
                  replace ky := ky.below hb13
                  replace Bz := Bz.below hb13
                  replace kzs := kzs.below hb13
                  replace kzd := kzd.below hb13
                  replace kzz := kzz.below hb13
                  replace kz := kz.below hb13
                  replace BS := BS.below hb13
                  replace kSs := kSs.below hb13
                  replace kSd := kSd.below hb13
                  replace kSz := kSz.below hb13
                  replace kS := kS.below hb13
                  replace BP := BP.below hb13
                  replace kPs := kPs.below hb13
                  replace kPd := kPd.below hb13
                  replace kPz := kPz.below hb13
                  replace kP := kP.below hb13
                  replace Bq := Bq.below hb13
                  replace kqs := kqs.below hb13
                  replace kqd := kqd.below hb13
                  replace kqz := kqz.below hb13
                  replace kq := kq.below hb13
                  replace bb := bb.trans (hb13.mono bb.size)
                  have hsz13 := bb.size
                  refine ops_done ?_
                  go_wp2
                  go_ret
                  exact ⟨rfl, bb⟩

set_option maxRecDepth 100000 in
theorem lifted (os : Os) (started : os.Started) (H : Type) (enc : TypeId × Value → H) :
    ReturnsInHanded {} Tryz.checked os 5 .any (Rows.ratFieldSpec.pre6 enc Tryz.prog Tryz.f5 Rows.ratFieldRow.domain false) (Rows.ratFieldSpec.post enc Tryz.prog Tryz.f5 false true false false) := by
  refine returnsInHanded_of_change (C := Tryz.checked) own started (by kernel_rfl) Tryz.func5
    (ChangeSpec.witness6 (enc := enc) (C := Tryz.checked) false ⟨#[], #[.agg #[.bool false, .slice none 0 0, .slice none 0 0], .agg #[.bool false, .slice none 0 0, .slice none 0 0], .agg #[.bool false, .slice none 0 0, .slice none 0 0]], []⟩ 8 (by kernel_rfl) (by kernel_rfl) (by kernel_rfl) (by kernel_rfl)) ?_
  intro W base args ds gs before hval0 hW hcnd _
  have hval : ∀ (j : Nat) t v, Tryz.f5.params[j]? = some t → args[j]? = some v → Value.okWide Tryz.prog W .any base t v := hval0
  have hW' := hW
  obtain ⟨p, q, hA0, hV, rfl, hfz, hnd⟩ := hW
  have hA : DataW.TrodAll enc Tryz.prog W 0 (fun _ => true) true Tryz.f5.params.toList args.toList ds p := hA0
  rw [Tryz.params5] at hA hval
  obtain ⟨v0, vs0, d0, ds0, p0, q0, hargs, rfl, rfl, t0, r0⟩ := trodAll_cons hA
  obtain ⟨v1, vs1, d1, ds1, p1, q1, rfl, rfl, rfl, t1, r1⟩ := trodAll_cons r0
  obtain ⟨v2, vs2, d2, ds2, p2, q2, rfl, rfl, rfl, t2, r2⟩ := trodAll_cons r1
  obtain ⟨rfl, rfl, rfl⟩ := trodAll_nil r2
  obtain rfl : args = #[v0, v1, v2] := by cases args; simp_all
  obtain ⟨rfl, rfl⟩ := trodVars_none hV
  obtain ⟨b0, x0, r0_, l0, m0, rfl, hs0, hu0, hj0, hx0⟩ := arg_q Tryz.underlying27 (by kernel_rfl) (by kernel_rfl) Tryz.underlying25 (by kernel_rfl) Tryz.underlying4 Tryz.underlying23 Tryz.underlying23 Tryz.underlying55 cells_u (hval 0 27 v0 rfl rfl) t0
  obtain ⟨b1, x1, r1_, l1, m1, rfl, hs1, hu1, hj1, hx1⟩ := arg_q Tryz.underlying27 (by kernel_rfl) (by kernel_rfl) Tryz.underlying25 (by kernel_rfl) Tryz.underlying4 Tryz.underlying23 Tryz.underlying23 Tryz.underlying55 cells_u (hval 1 27 v1 rfl rfl) t1
  obtain ⟨b2, x2, r2_, l2, m2, rfl, hs2, hu2, hj2, hx2⟩ := arg_q Tryz.underlying27 (by kernel_rfl) (by kernel_rfl) Tryz.underlying25 (by kernel_rfl) Tryz.underlying4 Tryz.underlying23 Tryz.underlying23 Tryz.underlying55 cells_u (hval 2 27 v2 rfl rfl) t2
  clear hA0 hval0
  simp only [List.append_nil] at hW'
  have hlt0 : ∀ x ∈ p0, x.block < W.heap.size := fun x hx => hW'.lt x (List.mem_append_left _ hx)
  have hlt1 : ∀ x ∈ p1, x.block < W.heap.size := fun x hx => hW'.lt x (List.mem_append_right _ (List.mem_append_left _ hx))
  have hlt2 : ∀ x ∈ p2, x.block < W.heap.size := fun x hx => hW'.lt x (List.mem_append_right _ (List.mem_append_right _ (hx)))
  refine (walk b0 x0 r0_ l0 m0 b1 x1 r1_ l1 m1 b2 x2 r2_ l2 m2 W hs0 hu0 hj0 hx0 hs1 hu1 hj1 hx1 hs2 hu2 hj2 hx2).mono fun e W' ⟨he, hb⟩ => ?_
  subst he
  have s0 := Below.trod laidOut (by kernel_rfl) (of_decide_eq_true (by kernel_rfl)) t0 hb hlt0
  have s1 := Below.trod laidOut (by kernel_rfl) (of_decide_eq_true (by kernel_rfl)) t1 hb hlt1
  have s2 := Below.trod laidOut (by kernel_rfl) (of_decide_eq_true (by kernel_rfl)) t2 hb hlt2
  exact ⟨_, rfl, _, _, _, [] ++ [], _, [], hW', trodAll_cons_mk (shut_bool Tryz.underlying4 _) trodAll_mk0, trodAll_cons_mk s0 (trodAll_cons_mk s1 (trodAll_cons_mk s2 (trodAll_mk0))), rfl, hb.frame _, fun h => by cases h⟩

theorem over : Rows.ratFieldRow.holds Tryz.pinned (OpenSpec.ofChange Rows.ratFieldSpec) :=
  OpenClaim.holds_of_wide 5 Tryz.f5 rfl rfl rfl rfl rfl rfl rfl ⟨rfl, rfl, rfl, rfl, rfl⟩ rfl rfl rfl rfl rfl (by kernel_rfl) Tryz.func5 (by kernel_rfl)
    (of_decide_eq_true (by kernel_rfl)) (by unfold Func.isWrapper; first | (rw [if_pos (by decide +kernel)]; kernel_rfl) | (rw [if_neg (by decide +kernel)]; exact ⟨rfl, rfl⟩))
    (fun os started H enc _ => lifted os started H enc)

/-- The statement. -/
theorem proved : Rows.RatFieldSaid := over
end Go.Proofs.YtbebmknfecehnaaGreat.ratField
