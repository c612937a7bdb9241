/- RatioPrints: any fraction is printed, in each way, as the document says. Condition: the arguments can be read as data. -/
import Derived.Test.YtpcllhdfalebbaaGreatDoorK6
import Derived.Deep.Cut
import Derived.OpenShut
import Derived.LaidMore
import Derived.Lay
import Derived.SevenTiedAt
import Derived.Stop.Joined
import Derived.Test.YtpcllhdfalebbaaGreatDoorCards
import Derived.Test.YtpcllhdfalebbaaGreatDoorTie
namespace Go.Proofs.YtpcllhdfalebbaaGreatDoor.ratioPrints
open Go.ChangeShapes Go.WideShapes Go.ChangeAt Go.RowKit Go.Proofs.YtpcllhdfalebbaaGreatDoor.num Go.Proofs.YtpcllhdfalebbaaGreatDoor.mem Go.Proofs.YtpcllhdfalebbaaGreatDoor.nat Go.Proofs.YtpcllhdfalebbaaGreatDoor.txt Go.Proofs.YtpcllhdfalebbaaGreatDoor.str Go.Proofs.YtpcllhdfalebbaaGreatDoor.flow Go.Proofs.YtpcllhdfalebbaaGreatDoor.whl Go.Proofs.YtpcllhdfalebbaaGreatDoor.rat Go.Proofs.YtpcllhdfalebbaaGreatDoor.rto
set_option linter.unusedVariables false
theorem own : ownKnob Tryz.prog.godebug = none := by kernel_rfl
theorem laidOut : laidOutB Tryz.prog = true := by kernel_rfl
theorem cells_u : Tryz.prog.cellsOf 60 = 1 := by kernel_rfl
set_option maxHeartbeats 6400000 in
set_option maxRecDepth 100000 in
/-- The walk: the Go text returns true; what was there is as it was. -/
theorem walk (b0 : Bool) (v0 r0 : Value) (l0 m0 : List Nat) (w : World) (h0 : IsS w .u64 v0 l0) (u0 : Lt 18446744073709551616 l0) (j0 : IsS w .u64 r0 m0) (x0 : Lt 18446744073709551616 m0) :
    Calls Tryz.prog 4 #[.agg #[.bool b0, v0, r0]] w (RetV (.bool true) w) := by
  obtain ⟨x, hx0⟩ : ∃ x, x = cleanQ b0 l0 m0 2 := ⟨_, rfl⟩
  have lx : lenQ x 2 := by rw [hx0]; exact cleanQ_len _ _ _ (by omega)
  have HX0 := Lib.hid hx0.symm
  clear hx0
  obtain ⟨A0, c0, rfl, _⟩ := id h0
  obtain ⟨D0, e0, rfl, _⟩ := id j0
  go_enter Tryz.func4, Tryz.ntmps4
  go_upto_region 1 with (fail)
  obtain ⟨w0, hwx, bb, BP0, hsz⟩ := vars1 w 27 #[.bool b0, .slice A0 l0.length c0, .slice D0 m0.length e0]
  rw [hwx]
  clear hwx
  have p0s := h0.below bb
  have p0d := j0.below bb
  have hsz0 := bb.size
  refine flowp 2 [Pd.eq (.agg #[.bool b0, .slice A0 l0.length c0, .slice D0 m0.length e0]), pqn x] (by kernel_rfl) ?ob14 ?done14
  case ob14 =>
    refine And.intro (ob_load rfl (wt_none rfl) (ev_far rfl rfl) (fun w2 hb => run_loadAll Tryz.underlying27 rfl (by kernel_rfl) (BP0.below hb)) (fun _ _ => rfl)) ?_
    refine And.intro (ob_call2 rfl Tryz.func11 (by kernel_rfl) (wt_none rfl) (ev_dep (j := 0) (by kernel_rfl) rfl rfl) (ev_const _) (fun w2 u0 u1 hb h0 h1 => by obtain rfl := h0; obtain rfl := h1; exact (HX0.out ▸ qclean_any _ _ _ _ _ _ 2 _ rfl (p0s.below hb) u0 (p0d.below hb) x0 (by omega) (by omega)).mono fun e w3 h => RetQn.pd (RetQ.n h))) ?_
    trivial
  case done14 =>
    refine fun w1 hb1 v0 h0 v1 h1 b hbf => ?_
    obtain rfl := h0
    have q1 := h1
    simp only [Act.put, List.setIfInBounds_toArray, List.set_cons_zero, List.set_cons_succ] at hbf
    subst hbf
    replace BP0 := BP0.below hb1
    replace p0s := p0s.below hb1
    replace p0d := p0d.below hb1
    replace bb := bb.trans (hb1.mono bb.size)
    have hsz1 := bb.size
    obtain ⟨u1, t1, rfl, q1, d1⟩ := q1
    obtain ⟨Ax, cx, rfl, _⟩ := id q1
    obtain ⟨Dx, ex, rfl, _⟩ := id d1
    refine ops_store (i := 2) rfl rfl rfl rfl rfl rfl (cells := [.bool (ngB (x).num), .slice Ax (digs 4294967296 (x).num.natAbs).length cx, .slice Dx (digs 4294967296 (x).den).length ex]) rfl BP0 rfl (by kernel_rfl) (one3 rfl rfl rfl) fun w2 hg2 BN2 => ?_
    replace q1 := off q1 BP0 no_ints3 hg2
    replace d1 := off d1 BP0 no_ints3 hg2
    replace bb := bb.trans ((Below.refl _ _).grown hg2 bb.size (fun g hg => by injection hg with hg; omega))
    have hsz2 := bb.size
    have Bx : Blk w2 (w.heap.size) _ _ := BN2
    have kxs := q1
    have kxd := d1
    have kxz : IsZ w2 (.agg #[.bool (ngB (x).num), .slice Ax (digs 4294967296 (x).num.natAbs).length cx]) ((x).num) := ⟨_, rfl, kxs⟩
    have kx : IsQ w2 (.agg #[.bool (ngB (x).num), .slice Ax (digs 4294967296 (x).num.natAbs).length cx, .slice Dx (digs 4294967296 (x).den).length ex]) (x) := ⟨_, _, rfl, kxs, kxd⟩
    refine ops_done ?_
    go_upto_region 2 with (fail)
    have lt2_1 := Blk.lt Bx
    refine flowp 3 [Pd.eq (.agg #[.bool (ngB (x).num), .slice Ax (digs 4294967296 (x).num.natAbs).length cx, .slice Dx (digs 4294967296 (x).den).length ex]), pp (x), pn 36 #[.bool false, .slice none 0 0, .slice none 0 0] w2.heap.size] (by kernel_rfl) ?ob15 ?done15
    case ob15 =>
      refine And.intro (ob_load rfl (wt_none rfl) (ev_far rfl rfl) (fun w2 hb => run_loadAll Tryz.underlying27 rfl (by kernel_rfl) (Bx.below hb)) (fun _ _ => rfl)) ?_
      refine And.intro (ob_call1 rfl Tryz.func12 (by kernel_rfl) (wt_none rfl) (ev_dep (j := 0) (by kernel_rfl) rfl rfl) (fun w2 u0 hb h0 => by obtain rfl := h0; exact (qof_any _ _ _ (kx.below hb) (lx.mono (by decide))).mono fun e w3 h => RetP.pd h)) ?_
      refine And.intro (ob_alloc (z := .agg #[.bool false, .slice none 0 0, .slice none 0 0]) rfl rfl (fun _ => by kernel_rfl) (fun _ _ hB h => ⟨_, rfl, hB, h⟩)) ?_
      trivial
    case done15 =>
      refine fun w3 hb3 v0 h0 v1 h1 v2 h2 d2 b hbf => ?_
      obtain rfl := h0
      have q1 := h1
      obtain ⟨g15_2, rfl, hg2, B2⟩ := h2
      simp only [Act.put, List.setIfInBounds_toArray, List.set_cons_zero, List.set_cons_succ] at hbf
      subst hbf
      replace Bx := Bx.below hb3
      replace kxs := kxs.below hb3
      replace kxd := kxd.below hb3
      replace kxz := kxz.below hb3
      replace kx := kx.below hb3
      replace bb := bb.trans (hb3.mono bb.size)
      have hsz3 := bb.size
      have BA3 := B2
      obtain ⟨u1, t1, rfl, q1, d1⟩ := q1
      obtain ⟨AX, cX, rfl, _⟩ := id q1
      obtain ⟨DX, eX, rfl, _⟩ := id d1
      refine ops_store (i := 3) rfl rfl rfl rfl rfl rfl (cells := [.bool (ngB (x).num), .slice AX (digs 10000 (x).num.natAbs).length cX, .slice DX (digs 10000 (x).den).length eX]) rfl BA3 rfl (by kernel_rfl) (one3 rfl rfl rfl) fun w4 hg4 BN4 => ?_
      replace q1 := off q1 BA3 no_ints3 hg4
      replace d1 := off d1 BA3 no_ints3 hg4
      replace kxs := off kxs BA3 no_ints3 hg4
      replace kxd := off kxd BA3 no_ints3 hg4
      replace kxz : IsZ w4 (.agg #[.bool (ngB (x).num), .slice Ax (digs 4294967296 (x).num.natAbs).length cx]) ((x).num) := ⟨_, rfl, kxs⟩
      replace kx : IsQ w4 (.agg #[.bool (ngB (x).num), .slice Ax (digs 4294967296 (x).num.natAbs).length cx, .slice Dx (digs 4294967296 (x).den).length ex]) (x) := ⟨_, _, rfl, kxs, kxd⟩
      replace Bx := Bx.grown hg4 (by omega)
      replace bb := bb.trans ((Below.refl _ _).grown hg4 bb.size (fun g hg => by injection hg with hg; omega))
      have hsz4 := bb.size
      have BX : Blk w4 (g15_2) _ _ := BN4
      have kXs := q1
      have kXd := d1
      have kXz : IsR w4 (.agg #[.bool (ngB (x).num), .slice AX (digs 10000 (x).num.natAbs).length cX]) ((x).num) := ⟨_, rfl, kXs⟩
      have kX : IsP w4 (.agg #[.bool (ngB (x).num), .slice AX (digs 10000 (x).num.natAbs).length cX, .slice DX (digs 10000 (x).den).length eX]) (x) := ⟨_, _, rfl, kXs, kXd⟩
      refine ops_done ?_
      have l100 : lenQ (mkRat 100 1) 1 := lenQ_mk (by omega) (digs_len_le (k := 1) (by omega) (by decide)) (digs_len_le (k := 1) (by omega) (by decide))
      have e100 : x * mkRat 100 1 = x * 100 := by rw [show mkRat 100 1 = (100 : Rat) by decide +kernel]
      have lh : lenQ (x * 100) 3 := by rw [← e100]; exact lenQ_mul lx l100
      have HH := Lib.hid e100
      clear e100
      rcases tells_or x.den with ⟨n, hd, hm, h2⟩ | hm <;> rcases tells_or (x * 100).den with ⟨k, gd, gm, g2⟩ | gm
      · obtain ⟨X, hX⟩ : ∃ X, X = x.num.natAbs * 10 ^ n / x.den := ⟨_, rfl⟩
        have HX := Lib.hid hX
        have HD := Lib.hid hd
        have HM := Lib.hid hm
        have H2 := Lib.hid h2
        clear hX hd hm h2
        obtain ⟨Y, hY⟩ : ∃ Y, Y = (x * 100).num.natAbs * 10 ^ k / (x * 100).den := ⟨_, rfl⟩
        have GX := Lib.hid hY
        have GD := Lib.hid gd
        have GM := Lib.hid gm
        have G2 := Lib.hid g2
        clear hY gd gm g2
        go_upto_region 3 with (fail)
        refine flowp 7 [Pd.eq (.agg #[.bool (ngB (x).num), .slice Ax (digs 4294967296 (x).num.natAbs).length cx, .slice Dx (digs 4294967296 (x).den).length ex]), Pd.eq (.tuple #[.string (ByteArray.mk (List.toArray (decT (ngB (x).num) X n : List UInt8))), .bool true]), Pd.eq (.tuple #[.string (ByteArray.mk (List.toArray (decT (ngB (x).num) X n : List UInt8))), .bool true]), Pd.eq (.string (ByteArray.mk (List.toArray (decT (ngB (x).num) X n : List UInt8)))), Pd.eq (.bool true), Pd.eq (.string (ByteArray.mk (List.toArray (decT (ngB (x).num) X n : List UInt8)))), Pd.eq (.bool true)] (by kernel_rfl) ?ob16 ?done16
        case ob16 =>
          refine And.intro (ob_load rfl (wt_none rfl) (ev_far rfl rfl) (fun w2 hb => run_loadAll Tryz.underlying27 rfl (by kernel_rfl) (Bx.below hb)) (fun _ _ => rfl)) ?_
          refine And.intro (ob_call1 rfl Tryz.func13 (by kernel_rfl) (wt_none rfl) (ev_dep (j := 0) (by kernel_rfl) rfl rfl) (fun w2 u0 hb h0 => by obtain rfl := h0; exact (fdec9_yes _ x n X _ (kx.below hb) (lx.mono (by decide)) HD.out HM.out H2.out HX.out).mono fun e w3 h => RetSB.pd h)) ?_
          refine And.intro (ob_move rfl (wt_none rfl) (ev_dep (j := 1) (by kernel_rfl) rfl rfl) (fun _ _ h => h)) ?_
          refine And.intro (ob_extract rfl (wt_none rfl) (ev_dep (j := 2) (by kernel_rfl) rfl rfl) (fun w2 u hu => by obtain rfl := hu; exact ⟨_, rfl, rfl⟩)) ?_
          refine And.intro (ob_extract rfl (wt_none rfl) (ev_dep (j := 2) (by kernel_rfl) rfl rfl) (fun w2 u hu => by obtain rfl := hu; exact ⟨_, rfl, rfl⟩)) ?_
          refine And.intro (ob_assign rfl (wt_none rfl) (ev_dep (j := 3) (by kernel_rfl) rfl rfl) (fun _ _ h => h)) ?_
          refine And.intro (ob_assign rfl (wt_none rfl) (ev_dep (j := 4) (by kernel_rfl) rfl rfl) (fun _ _ h => h)) ?_
          trivial
        case done16 =>
          refine fun w5 hb5 v0 h0 v1 h1 v2 h2 v3 h3 v4 h4 v5 h5 v6 h6 b hbf => ?_
          obtain rfl := h0; obtain rfl := h1; obtain rfl := h2; obtain rfl := h3; obtain rfl := h4; obtain rfl := h5; obtain rfl := h6
          simp only [Act.put, List.setIfInBounds_toArray, List.set_cons_zero, List.set_cons_succ] at hbf
          subst hbf
          replace Bx := Bx.below hb5
          replace kxs := kxs.below hb5
          replace kxd := kxd.below hb5
          replace kxz := kxz.below hb5
          replace kx := kx.below hb5
          replace BX := BX.below hb5
          replace kXs := kXs.below hb5
          replace kXd := kXd.below hb5
          replace kXz := kXz.below hb5
          replace kX := kX.below hb5
          replace bb := bb.trans (hb5.mono bb.size)
          have hsz5 := bb.size
          refine ops_done ?_
          go_upto_region 4 with (fail)
          refine flowp 7 [Pd.eq (.agg #[.bool (ngB (x).num), .slice AX (digs 10000 (x).num.natAbs).length cX, .slice DX (digs 10000 (x).den).length eX]), Pd.eq (.tuple #[.string (ByteArray.mk (List.toArray (decT (ngB (x).num) X n : List UInt8))), .bool true]), Pd.eq (.tuple #[.string (ByteArray.mk (List.toArray (decT (ngB (x).num) X n : List UInt8))), .bool true]), Pd.eq (.string (ByteArray.mk (List.toArray (decT (ngB (x).num) X n : List UInt8)))), Pd.eq (.bool true), Pd.eq (.string (ByteArray.mk (List.toArray (decT (ngB (x).num) X n : List UInt8)))), Pd.eq (.bool true)] (by kernel_rfl) ?ob17 ?done17
          case ob17 =>
            refine And.intro (ob_load rfl (wt_none rfl) (ev_far rfl rfl) (fun w2 hb => run_loadAll Tryz.underlying36 rfl (by kernel_rfl) (BX.below hb)) (fun _ _ => rfl)) ?_
            refine And.intro (ob_call1 rfl Tryz.func14 (by kernel_rfl) (wt_none rfl) (ev_dep (j := 0) (by kernel_rfl) rfl rfl) (fun w2 u0 hb h0 => by obtain rfl := h0; exact (rdec_yes _ x n X _ (kX.below hb) (lx.mono (by decide)) HD.out HM.out H2.out HX.out).mono fun e w3 h => RetSB.pd h)) ?_
            refine And.intro (ob_move rfl (wt_none rfl) (ev_dep (j := 1) (by kernel_rfl) rfl rfl) (fun _ _ h => h)) ?_
            refine And.intro (ob_extract rfl (wt_none rfl) (ev_dep (j := 2) (by kernel_rfl) rfl rfl) (fun w2 u hu => by obtain rfl := hu; exact ⟨_, rfl, rfl⟩)) ?_
            refine And.intro (ob_extract rfl (wt_none rfl) (ev_dep (j := 2) (by kernel_rfl) rfl rfl) (fun w2 u hu => by obtain rfl := hu; exact ⟨_, rfl, rfl⟩)) ?_
            refine And.intro (ob_assign rfl (wt_none rfl) (ev_dep (j := 3) (by kernel_rfl) rfl rfl) (fun _ _ h => h)) ?_
            refine And.intro (ob_assign rfl (wt_none rfl) (ev_dep (j := 4) (by kernel_rfl) rfl rfl) (fun _ _ h => h)) ?_
            trivial
          case done17 =>
            refine fun w6 hb6 v0 h0 v1 h1 v2 h2 v3 h3 v4 h4 v5 h5 v6 h6 b hbf => ?_
            obtain rfl := h0; obtain rfl := h1; obtain rfl := h2; obtain rfl := h3; obtain rfl := h4; obtain rfl := h5; obtain rfl := h6
            simp only [Act.put, List.setIfInBounds_toArray, List.set_cons_zero, List.set_cons_succ] at hbf
            subst hbf
            replace Bx := Bx.below hb6
            replace kxs := kxs.below hb6
            replace kxd := kxd.below hb6
            replace kxz := kxz.below hb6
            replace kx := kx.below hb6
            replace BX := BX.below hb6
            replace kXs := kXs.below hb6
            replace kXd := kXd.below hb6
            replace kXz := kXz.below hb6
            replace kX := kX.below hb6
            replace bb := bb.trans (hb6.mono bb.size)
            have hsz6 := bb.size
            refine ops_done ?_
            go_upto_region 5 with (fail)
            refine flowp 7 [Pd.eq (.agg #[.bool (ngB (x).num), .slice Ax (digs 4294967296 (x).num.natAbs).length cx, .slice Dx (digs 4294967296 (x).den).length ex]), Pd.eq (.tuple #[.string (ByteArray.mk (List.toArray (decT (ngB (x * 100).num) Y k ++ [37] : List UInt8))), .bool true]), Pd.eq (.tuple #[.string (ByteArray.mk (List.toArray (decT (ngB (x * 100).num) Y k ++ [37] : List UInt8))), .bool true]), Pd.eq (.string (ByteArray.mk (List.toArray (decT (ngB (x * 100).num) Y k ++ [37] : List UInt8)))), Pd.eq (.bool true), Pd.eq (.string (ByteArray.mk (List.toArray (decT (ngB (x * 100).num) Y k ++ [37] : List UInt8)))), Pd.eq (.bool true)] (by kernel_rfl) ?ob18 ?done18
            case ob18 =>
              refine And.intro (ob_load rfl (wt_none rfl) (ev_far rfl rfl) (fun w2 hb => run_loadAll Tryz.underlying27 rfl (by kernel_rfl) (Bx.below hb)) (fun _ _ => rfl)) ?_
              refine And.intro (ob_call1 rfl Tryz.func15 (by kernel_rfl) (wt_none rfl) (ev_dep (j := 0) (by kernel_rfl) rfl rfl) (fun w2 u0 hb h0 => by obtain rfl := h0; exact (fpct9_yes _ x k Y _ (kx.below hb) (lx.mono (by decide)) GD.out GM.out G2.out GX.out).mono fun e w3 h => RetSB.pd h)) ?_
              refine And.intro (ob_move rfl (wt_none rfl) (ev_dep (j := 1) (by kernel_rfl) rfl rfl) (fun _ _ h => h)) ?_
              refine And.intro (ob_extract rfl (wt_none rfl) (ev_dep (j := 2) (by kernel_rfl) rfl rfl) (fun w2 u hu => by obtain rfl := hu; exact ⟨_, rfl, rfl⟩)) ?_
              refine And.intro (ob_extract rfl (wt_none rfl) (ev_dep (j := 2) (by kernel_rfl) rfl rfl) (fun w2 u hu => by obtain rfl := hu; exact ⟨_, rfl, rfl⟩)) ?_
              refine And.intro (ob_assign rfl (wt_none rfl) (ev_dep (j := 3) (by kernel_rfl) rfl rfl) (fun _ _ h => h)) ?_
              refine And.intro (ob_assign rfl (wt_none rfl) (ev_dep (j := 4) (by kernel_rfl) rfl rfl) (fun _ _ h => h)) ?_
              trivial
            case done18 =>
              refine fun w7 hb7 v0 h0 v1 h1 v2 h2 v3 h3 v4 h4 v5 h5 v6 h6 b hbf => ?_
              obtain rfl := h0; obtain rfl := h1; obtain rfl := h2; obtain rfl := h3; obtain rfl := h4; obtain rfl := h5; obtain rfl := h6
              simp only [Act.put, List.setIfInBounds_toArray, List.set_cons_zero, List.set_cons_succ] at hbf
              subst hbf
              replace Bx := Bx.below hb7
              replace kxs := kxs.below hb7
              replace kxd := kxd.below hb7
              replace kxz := kxz.below hb7
              replace kx := kx.below hb7
              replace BX := BX.below hb7
              replace kXs := kXs.below hb7
              replace kXd := kXd.below hb7
              replace kXz := kXz.below hb7
              replace kX := kX.below hb7
              replace bb := bb.trans (hb7.mono bb.size)
              have hsz7 := bb.size
              refine ops_done ?_
              go_upto_region 6 with (fail)
              refine flow 9 [Pd.eq (.agg #[.bool (ngB (x).num), .slice AX (digs 10000 (x).num.natAbs).length cX, .slice DX (digs 10000 (x).den).length eX]), pp (mkRat 100 1), pp (x * 100), Pd.eq (.tuple #[.string (ByteArray.mk (List.toArray (decT (ngB (x * 100).num) Y k : List UInt8))), .bool true]), Pd.eq (.tuple #[.string (ByteArray.mk (List.toArray (decT (ngB (x * 100).num) Y k : List UInt8))), .bool true]), Pd.eq (.string (ByteArray.mk (List.toArray (decT (ngB (x * 100).num) Y k : List UInt8)))), Pd.eq (.bool true), Pd.eq (.string (ByteArray.mk (List.toArray (decT (ngB (x * 100).num) Y k : List UInt8)))), Pd.eq (.bool true)] (by kernel_rfl) (by kernel_rfl) ?ob19 ?done19
              case ob19 =>
                refine And.intro (ob_load rfl (wt_none rfl) (ev_far rfl rfl) (fun w2 hb => run_loadAll Tryz.underlying36 rfl (by kernel_rfl) (BX.drew.below hb)) (fun _ _ => rfl)) ?_
                refine And.intro (ob_call2 rfl Tryz.func17 (by kernel_rfl) (wt_none rfl) (ev_const _) (ev_const _) (fun w2 u0 u1 hb h0 h1 => by obtain rfl := h0; obtain rfl := h1; exact (qnum_any 100 1 _ 1 rfl (by omega) (by omega) (by omega) (by omega)).mono fun e w3 h => RetPF.pd h)) ?_
                refine And.intro (ob_call2 rfl Tryz.func16 (by kernel_rfl) (wt_none rfl) (ev_dep (j := 0) (by kernel_rfl) rfl rfl) (ev_dep (j := 1) (by kernel_rfl) rfl rfl) (fun w2 u0 u1 hb h0 h1 => by obtain rfl := h0; exact (HH.out ▸ qmul_any _ x _ (mkRat 100 1) _ (kX.drew.below hb) h1 (lx.mono (by decide)) (l100.mono (by decide))).mono fun e w3 h => RetPF.pd h)) ?_
                refine And.intro (ob_call1 rfl Tryz.func14 (by kernel_rfl) (wt_none rfl) (ev_dep (j := 2) (by kernel_rfl) rfl rfl) (fun w2 u0 hb h0 => by exact (rdec_yes _ (x * 100) k Y _ h0 (lh.mono (by decide)) GD.out GM.out G2.out GX.out).mono fun e w3 h => RetSB.pd h)) ?_
                refine And.intro (ob_move rfl (wt_none rfl) (ev_dep (j := 3) (by kernel_rfl) rfl rfl) (fun _ _ h => h)) ?_
                refine And.intro (ob_extract rfl (wt_none rfl) (ev_dep (j := 4) (by kernel_rfl) rfl rfl) (fun w2 u hu => by obtain rfl := hu; exact ⟨_, rfl, rfl⟩)) ?_
                refine And.intro (ob_extract rfl (wt_none rfl) (ev_dep (j := 4) (by kernel_rfl) rfl rfl) (fun w2 u hu => by obtain rfl := hu; exact ⟨_, rfl, rfl⟩)) ?_
                refine And.intro (ob_assign rfl (wt_none rfl) (ev_dep (j := 5) (by kernel_rfl) rfl rfl) (fun _ _ h => h)) ?_
                refine And.intro (ob_assign rfl (wt_none rfl) (ev_dep (j := 6) (by kernel_rfl) rfl rfl) (fun _ _ h => h)) ?_
                trivial
              case done19 =>
                refine fun w8 hb8 v0 h0 v1 h1 v2 h2 v3 h3 v4 h4 v5 h5 v6 h6 v7 h7 v8 h8 b hbf => ?_
                obtain rfl := h0; obtain rfl := h3; obtain rfl := h4; obtain rfl := h5; obtain rfl := h6; obtain rfl := h7; obtain rfl := h8
                have q1 := h1
                have q2 := h2
                simp only [Act.put, List.setIfInBounds_toArray, List.set_cons_zero, List.set_cons_succ] at hbf
                subst hbf
                replace Bx := Bx.below hb8
                replace kxs := kxs.below hb8
                replace kxd := kxd.below hb8
                replace kxz := kxz.below hb8
                replace kx := kx.below hb8
                replace BX := BX.below hb8
                replace kXs := kXs.below hb8
                replace kXd := kXd.below hb8
                replace kXz := kXz.below hb8
                replace kX := kX.below hb8
                replace bb := bb.trans (hb8.mono bb.size)
                have hsz8 := bb.size
                refine any_done (by kernel_rfl) ?_
                have lY : (decT (ngB (x * 100).num) Y k).length ≤ 2000 := decT_len lh G2.out GX.out
                go_upto_region 8 with (fail)
                refine flowp 2 [Pd.eq (.string (ByteArray.mk (List.toArray (decT (ngB (x * 100).num) Y k : List UInt8)))), Pd.eq (.string (ByteArray.mk (List.toArray ((decT (ngB (x * 100).num) Y k) ++ ([37]) : List UInt8))))] (by kernel_rfl) ?ob20 ?done20
                case ob20 =>
                  refine And.intro (ob_move rfl (wt_none rfl) (ev_far rfl rfl) (fun _ _ h => h)) ?_
                  refine And.intro (ob_bin rfl (wt_none rfl) (ev_dep (j := 0) (by kernel_rfl) rfl rfl) (ev_const _) (fun _ _ _ hx hy => ⟨.string (ByteArray.mk (List.toArray ((decT (ngB (x * 100).num) Y k) ++ ([37]) : List UInt8))), by rw [hx, hy]; exact bin_add_str _ _ (decT (ngB (x * 100).num) Y k) ([37]) (by first | omega | (simp; omega)) _, rfl⟩)) ?_
                  trivial
                case done20 =>
                  refine fun w9 hb9 v0 h0 v1 h1 b hbf => ?_
                  obtain rfl := h0; obtain rfl := h1
                  simp only [Act.put, List.setIfInBounds_toArray, List.set_cons_zero, List.set_cons_succ] at hbf
                  subst hbf
                  replace Bx := Bx.below hb9
                  replace kxs := kxs.below hb9
                  replace kxd := kxd.below hb9
                  replace kxz := kxz.below hb9
                  replace kx := kx.below hb9
                  replace BX := BX.below hb9
                  replace kXs := kXs.below hb9
                  replace kXd := kXd.below hb9
                  replace kXz := kXz.below hb9
                  replace kX := kX.below hb9
                  replace bb := bb.trans (hb9.mono bb.size)
                  have hsz9 := bb.size
                  refine ops_assign (i := 2) (.string (ByteArray.mk (List.toArray ((decT (ngB (x * 100).num) Y k) ++ ([37]) : List UInt8)))) rfl rfl rfl rfl rfl fun b hbf => ?_
                  simp only [Act.put, List.setIfInBounds_toArray, List.set_cons_zero, List.set_cons_succ] at hbf
                  subst hbf
                  refine ops_done ?_
                  go_upto_region 9 with (fail)
                  refine flow 38 [Pd.eq (.agg #[.bool (ngB (x).num), .slice Ax (digs 4294967296 (x).num.natAbs).length cx, .slice Dx (digs 4294967296 (x).den).length ex]), Pd.eq (.string (ByteArray.mk (List.toArray (txtr (x) : List UInt8)))), Pd.eq (.agg #[.bool (ngB (x).num), .slice AX (digs 10000 (x).num.natAbs).length cX, .slice DX (digs 10000 (x).den).length eX]), Pd.eq (.string (ByteArray.mk (List.toArray (txtr (x) : List UInt8)))), Pd.eq (.bool true), Pd.eq (.bool true), Pd.eq (.string (ByteArray.mk (List.toArray (decT (ngB (x).num) X n : List UInt8)))), Pd.eq (.string (ByteArray.mk (List.toArray (decT (ngB (x).num) X n : List UInt8)))), Pd.eq (.bool true), Pd.eq (.bool true), Pd.eq (.bool true), Pd.eq (.bool true), Pd.eq (.bool true), Pd.eq (.bool true), Pd.eq (.bool true), Pd.eq (.bool true), Pd.eq (.string (ByteArray.mk (List.toArray ((decT (ngB (x * 100).num) Y k) ++ ([37]) : List UInt8)))), Pd.eq (.string (ByteArray.mk (List.toArray ((decT (ngB (x * 100).num) Y k) ++ ([37]) : List UInt8)))), Pd.eq (.bool true), Pd.eq (.bool true), Pd.eq (.bool true), Pd.eq (.bool true), Pd.eq (.bool true), Pd.eq (.bool true), Pd.eq (.bool true), Pd.eq (.bool true), Pd.eq (.agg #[.bool (ngB (x).num), .slice Ax (digs 4294967296 (x).num.natAbs).length cx, .slice Dx (digs 4294967296 (x).den).length ex]), Pd.eq (.int .i64 (((txt 10 (x).den).length : Nat) : Int)), Pd.eq (.pointer (some ⟨g15_2, 2, none⟩)), Pd.eq (.slice DX (digs 10000 (x).den).length eX), Pd.eq (.string (ByteArray.mk (List.toArray (txt 10 (x).den : List UInt8)))), Pd.eq (.int .i64 (((txt 10 (x).den).length : Nat) : Int)), Pd.eq (.bool true), Pd.eq (.bool true), Pd.eq (.bool true), Pd.eq (.bool true), Pd.eq (.bool true), Pd.eq (.bool true)] (by kernel_rfl) (by kernel_rfl) ?ob21 ?done21
                  case ob21 =>
                    refine And.intro (ob_load rfl (wt_none rfl) (ev_far rfl rfl) (fun w2 hb => run_loadAll Tryz.underlying27 rfl (by kernel_rfl) (Bx.drew.below hb)) (fun _ _ => rfl)) ?_
                    refine And.intro (ob_call1 rfl Tryz.func18 (by kernel_rfl) (wt_none rfl) (ev_dep (j := 0) (by kernel_rfl) rfl rfl) (fun w2 u0 hb h0 => by obtain rfl := h0; exact (fprint9_any _ x _ (kx.drew.below hb) (lx.mono (by decide))).mono fun e w3 h => RetStrB.pd h)) ?_
                    refine And.intro (ob_load rfl (wt_none rfl) (ev_far rfl rfl) (fun w2 hb => run_loadAll Tryz.underlying36 rfl (by kernel_rfl) (BX.drew.below hb)) (fun _ _ => rfl)) ?_
                    refine And.intro (ob_call1 rfl Tryz.func19 (by kernel_rfl) (wt_none rfl) (ev_dep (j := 2) (by kernel_rfl) rfl rfl) (fun w2 u0 hb h0 => by obtain rfl := h0; exact (rprint9_any _ x _ (kX.drew.below hb) (lx.mono (by decide))).mono fun e w3 h => RetStrB.pd h)) ?_
                    refine And.intro (ob_bin rfl (wt_none rfl) (ev_dep (j := 1) (by kernel_rfl) rfl rfl) (ev_dep (j := 3) (by kernel_rfl) rfl rfl) (fun _ _ _ hx hy => ⟨.bool ((ByteArray.mk (List.toArray (txtr (x) : List UInt8))).toList == (ByteArray.mk (List.toArray (txtr (x) : List UInt8))).toList), by rw [hx, hy]; exact bin_eql_str _ _ _ _ _, congrArg Value.bool (beq_self_eq_true _)⟩)) ?_
                    refine And.intro (ob_move rfl (wt_none rfl) (ev_dep (j := 4) (by kernel_rfl) rfl rfl) (fun _ _ h => h)) ?_
                    refine And.intro (ob_move rfl (wt_dep (c := true) (b := true) (g := 5) rfl (by kernel_rfl) rfl rfl rfl (by exact fun _ _ h => h)) (ev_far rfl rfl) (fun _ _ h => h)) ?_
                    refine And.intro (ob_move rfl (wt_dep (c := true) (b := true) (g := 5) rfl (by kernel_rfl) rfl rfl rfl (by exact fun _ _ h => h)) (ev_far rfl rfl) (fun _ _ h => h)) ?_
                    refine And.intro (ob_bin rfl (wt_dep (c := true) (b := true) (g := 5) rfl (by kernel_rfl) rfl rfl rfl (by exact fun _ _ h => h)) (ev_dep (j := 6) (by kernel_rfl) rfl rfl) (ev_dep (j := 7) (by kernel_rfl) rfl rfl) (fun _ _ _ hx hy => ⟨.bool ((ByteArray.mk (List.toArray (decT (ngB (x).num) X n : List UInt8))).toList == (ByteArray.mk (List.toArray (decT (ngB (x).num) X n : List UInt8))).toList), by rw [hx, hy]; exact bin_eql_str _ _ _ _ _, congrArg Value.bool (beq_self_eq_true _)⟩)) ?_
                    refine And.intro (ob_pick (b := true) rfl (wt_none rfl) (ev_dep (j := 5) (by kernel_rfl) rfl rfl) (ev_dep (j := 8) (by kernel_rfl) rfl rfl) (fun _ _ h => h)) ?_
                    refine And.intro (ob_move rfl (wt_none rfl) (ev_dep (j := 9) (by kernel_rfl) rfl rfl) (fun _ _ h => h)) ?_
                    refine And.intro (ob_move rfl (wt_dep (c := true) (b := true) (g := 10) rfl (by kernel_rfl) rfl rfl rfl (by exact fun _ _ h => h)) (ev_far rfl rfl) (fun _ _ h => h)) ?_
                    refine And.intro (ob_move rfl (wt_dep (c := true) (b := true) (g := 10) rfl (by kernel_rfl) rfl rfl rfl (by exact fun _ _ h => h)) (ev_far rfl rfl) (fun _ _ h => h)) ?_
                    refine And.intro (ob_bin rfl (wt_dep (c := true) (b := true) (g := 10) rfl (by kernel_rfl) rfl rfl rfl (by exact fun _ _ h => h)) (ev_dep (j := 11) (by kernel_rfl) rfl rfl) (ev_dep (j := 12) (by kernel_rfl) rfl rfl) (fun _ _ _ hx hy => ⟨.bool (true == true), by rw [hx, hy]; exact bin_eql_bool _ _ _ _ Tryz.underlying4 _, rfl⟩)) ?_
                    refine And.intro (ob_pick (b := true) rfl (wt_none rfl) (ev_dep (j := 10) (by kernel_rfl) rfl rfl) (ev_dep (j := 13) (by kernel_rfl) rfl rfl) (fun _ _ h => h)) ?_
                    refine And.intro (ob_move rfl (wt_none rfl) (ev_dep (j := 14) (by kernel_rfl) rfl rfl) (fun _ _ h => h)) ?_
                    refine And.intro (ob_move rfl (wt_dep (c := true) (b := true) (g := 15) rfl (by kernel_rfl) rfl rfl rfl (by exact fun _ _ h => h)) (ev_far rfl rfl) (fun _ _ h => h)) ?_
                    refine And.intro (ob_move rfl (wt_dep (c := true) (b := true) (g := 15) rfl (by kernel_rfl) rfl rfl rfl (by exact fun _ _ h => h)) (ev_far rfl rfl) (fun _ _ h => h)) ?_
                    refine And.intro (ob_bin rfl (wt_dep (c := true) (b := true) (g := 15) rfl (by kernel_rfl) rfl rfl rfl (by exact fun _ _ h => h)) (ev_dep (j := 16) (by kernel_rfl) rfl rfl) (ev_dep (j := 17) (by kernel_rfl) rfl rfl) (fun _ _ _ hx hy => ⟨.bool ((ByteArray.mk (List.toArray ((decT (ngB (x * 100).num) Y k) ++ ([37]) : List UInt8))).toList == (ByteArray.mk (List.toArray ((decT (ngB (x * 100).num) Y k) ++ ([37]) : List UInt8))).toList), by rw [hx, hy]; exact bin_eql_str _ _ _ _ _, congrArg Value.bool (beq_self_eq_true _)⟩)) ?_
                    refine And.intro (ob_pick (b := true) rfl (wt_none rfl) (ev_dep (j := 15) (by kernel_rfl) rfl rfl) (ev_dep (j := 18) (by kernel_rfl) rfl rfl) (fun _ _ h => h)) ?_
                    refine And.intro (ob_move rfl (wt_none rfl) (ev_dep (j := 19) (by kernel_rfl) rfl rfl) (fun _ _ h => h)) ?_
                    refine And.intro (ob_move rfl (wt_dep (c := true) (b := true) (g := 20) rfl (by kernel_rfl) rfl rfl rfl (by exact fun _ _ h => h)) (ev_far rfl rfl) (fun _ _ h => h)) ?_
                    refine And.intro (ob_move rfl (wt_dep (c := true) (b := true) (g := 20) rfl (by kernel_rfl) rfl rfl rfl (by exact fun _ _ h => h)) (ev_far rfl rfl) (fun _ _ h => h)) ?_
                    refine And.intro (ob_bin rfl (wt_dep (c := true) (b := true) (g := 20) rfl (by kernel_rfl) rfl rfl rfl (by exact fun _ _ h => h)) (ev_dep (j := 21) (by kernel_rfl) rfl rfl) (ev_dep (j := 22) (by kernel_rfl) rfl rfl) (fun _ _ _ hx hy => ⟨.bool (true == true), by rw [hx, hy]; exact bin_eql_bool _ _ _ _ Tryz.underlying4 _, rfl⟩)) ?_
                    refine And.intro (ob_pick (b := true) rfl (wt_none rfl) (ev_dep (j := 20) (by kernel_rfl) rfl rfl) (ev_dep (j := 23) (by kernel_rfl) rfl rfl) (fun _ _ h => h)) ?_
                    refine And.intro (ob_move rfl (wt_none rfl) (ev_dep (j := 24) (by kernel_rfl) rfl rfl) (fun _ _ h => h)) ?_
                    refine And.intro (ob_load rfl (wt_dep (c := true) (b := true) (g := 25) rfl (by kernel_rfl) rfl rfl rfl (by exact fun _ _ h => h)) (ev_far rfl rfl) (fun w2 hb => run_loadAll Tryz.underlying27 rfl (by kernel_rfl) (Bx.drew.below hb)) (fun _ _ => rfl)) ?_
                    refine And.intro (ob_call1 rfl Tryz.func20 (by kernel_rfl) (wt_dep (c := true) (b := true) (g := 25) rfl (by kernel_rfl) rfl rfl rfl (by exact fun _ _ h => h)) (ev_dep (j := 26) (by kernel_rfl) rfl rfl) (fun w2 u0 hb h0 => by obtain rfl := h0; exact (fdigits9_any _ x _ (kx.drew.below hb) (lx.mono (by decide))).mono fun e w3 h => RetV.pd h)) ?_
                    refine And.intro (ob_fieldAddr rfl (wt_dep (c := true) (b := true) (g := 25) rfl (by kernel_rfl) rfl rfl rfl (by exact fun _ _ h => h)) (ev_far rfl rfl) (fun _ => by kernel_rfl) (fun _ => rfl)) ?_
                    refine And.intro (ob_load rfl (wt_dep (c := true) (b := true) (g := 25) rfl (by kernel_rfl) rfl rfl rfl (by exact fun _ _ h => h)) (ev_dep (j := 28) (by kernel_rfl) rfl rfl) (fun w2 hb => run_load1 Tryz.underlying32 rfl ((BX.drew.below hb).cell 2)) (fun _ _ => rfl)) ?_
                    refine And.intro (ob_call1 rfl Tryz.func21 (by kernel_rfl) (wt_dep (c := true) (b := true) (g := 25) rfl (by kernel_rfl) rfl rfl rfl (by exact fun _ _ h => h)) (ev_dep (j := 29) (by kernel_rfl) rfl rfl) (fun w2 u0 hb h0 => by obtain rfl := h0; exact (rtext_any _ x.den _ (kXd.drew.below hb) (Nat.le_trans (dec_le _) (by have := lx.2; omega))).mono fun e w3 h => RetStrB.pd h)) ?_
                    refine And.intro (ob_len rfl (wt_dep (c := true) (b := true) (g := 25) rfl (by kernel_rfl) rfl rfl rfl (by exact fun _ _ h => h)) (ev_dep (j := 30) (by kernel_rfl) rfl rfl) (fun _ _ hx => ⟨_, by rw [hx]; exact len_txt Tryz.underlying9 _ _, rfl⟩)) ?_
                    refine And.intro (ob_bin rfl (wt_dep (c := true) (b := true) (g := 25) rfl (by kernel_rfl) rfl rfl rfl (by exact fun _ _ h => h)) (ev_dep (j := 27) (by kernel_rfl) rfl rfl) (ev_dep (j := 31) (by kernel_rfl) rfl rfl) (fun _ _ _ hx hy => ⟨.bool ((((txt 10 (x).den).length : Nat) : Int) == (((txt 10 (x).den).length : Nat) : Int)), by rw [hx, hy]; exact bin_eql_int _ _ _ _ _, congrArg Value.bool (beq_self_eq_true _)⟩)) ?_
                    refine And.intro (ob_pick (b := true) rfl (wt_none rfl) (ev_dep (j := 25) (by kernel_rfl) rfl rfl) (ev_dep (j := 32) (by kernel_rfl) rfl rfl) (fun _ _ h => h)) ?_
                    refine And.intro (ob_move rfl (wt_none rfl) (ev_dep (j := 33) (by kernel_rfl) rfl rfl) (fun _ _ h => h)) ?_
                    refine And.intro (ob_call0 rfl Tryz.func8 (by kernel_rfl) (wt_dep (c := true) (b := true) (g := 34) rfl (by kernel_rfl) rfl rfl rfl (by exact fun _ _ h => h)) (fun w2 hb => (works9_any _).mono fun e w3 h => RetV.pd h)) ?_
                    refine And.intro (ob_pick (b := true) rfl (wt_none rfl) (ev_dep (j := 34) (by kernel_rfl) rfl rfl) (ev_dep (j := 35) (by kernel_rfl) rfl rfl) (fun _ _ h => h)) ?_
                    refine And.intro (ob_assign rfl (wt_none rfl) (ev_dep (j := 36) (by kernel_rfl) rfl rfl) (fun _ _ h => h)) ?_
                    trivial
                  case done21 =>
                    refine fun w10 hb10 v0 h0 v1 h1 v2 h2 v3 h3 v4 h4 v5 h5 v6 h6 v7 h7 v8 h8 v9 h9 v10 h10 v11 h11 v12 h12 v13 h13 v14 h14 v15 h15 v16 h16 v17 h17 v18 h18 v19 h19 v20 h20 v21 h21 v22 h22 v23 h23 v24 h24 v25 h25 v26 h26 v27 h27 v28 h28 v29 h29 v30 h30 v31 h31 v32 h32 v33 h33 v34 h34 v35 h35 v36 h36 v37 h37 b hbf => ?_
                    obtain rfl := h0; obtain rfl := h1; obtain rfl := h2; obtain rfl := h3; obtain rfl := h4; obtain rfl := h5; obtain rfl := h6; obtain rfl := h7; obtain rfl := h8; obtain rfl := h9; obtain rfl := h10; obtain rfl := h11; obtain rfl := h12; obtain rfl := h13; obtain rfl := h14; obtain rfl := h15; obtain rfl := h16; obtain rfl := h17; obtain rfl := h18; obtain rfl := h19; obtain rfl := h20; obtain rfl := h21; obtain rfl := h22; obtain rfl := h23; obtain rfl := h24; obtain rfl := h25; obtain rfl := h26; obtain rfl := h27; obtain rfl := h28; obtain rfl := h29; obtain rfl := h30; obtain rfl := h31; obtain rfl := h32; obtain rfl := h33; obtain rfl := h34; obtain rfl := h35; obtain rfl := h36; obtain rfl := h37
                    simp only [Act.put, List.setIfInBounds_toArray, List.set_cons_zero, List.set_cons_succ] at hbf
                    subst hbf
                    replace Bx := Bx.below hb10
                    replace kxs := kxs.below hb10
                    replace kxd := kxd.below hb10
                    replace kxz := kxz.below hb10
                    replace kx := kx.below hb10
                    replace BX := BX.below hb10
                    replace kXs := kXs.below hb10
                    replace kXd := kXd.below hb10
                    replace kXz := kXz.below hb10
                    replace kX := kX.below hb10
                    replace bb := bb.trans (hb10.mono bb.size)
                    have hsz10 := bb.size
                    refine any_done (by kernel_rfl) ?_
                    go_wp2
                    go_ret
                    exact ⟨rfl, bb⟩
      · obtain ⟨X, hX⟩ : ∃ X, X = x.num.natAbs * 10 ^ n / x.den := ⟨_, rfl⟩
        have HX := Lib.hid hX
        have HD := Lib.hid hd
        have HM := Lib.hid hm
        have H2 := Lib.hid h2
        clear hX hd hm h2
        have GM := Lib.hid gm
        clear gm
        go_upto_region 3 with (fail)
        refine flowp 7 [Pd.eq (.agg #[.bool (ngB (x).num), .slice Ax (digs 4294967296 (x).num.natAbs).length cx, .slice Dx (digs 4294967296 (x).den).length ex]), Pd.eq (.tuple #[.string (ByteArray.mk (List.toArray (decT (ngB (x).num) X n : List UInt8))), .bool true]), Pd.eq (.tuple #[.string (ByteArray.mk (List.toArray (decT (ngB (x).num) X n : List UInt8))), .bool true]), Pd.eq (.string (ByteArray.mk (List.toArray (decT (ngB (x).num) X n : List UInt8)))), Pd.eq (.bool true), Pd.eq (.string (ByteArray.mk (List.toArray (decT (ngB (x).num) X n : List UInt8)))), Pd.eq (.bool true)] (by kernel_rfl) ?ob22 ?done22
        case ob22 =>
          refine And.intro (ob_load rfl (wt_none rfl) (ev_far rfl rfl) (fun w2 hb => run_loadAll Tryz.underlying27 rfl (by kernel_rfl) (Bx.below hb)) (fun _ _ => rfl)) ?_
          refine And.intro (ob_call1 rfl Tryz.func13 (by kernel_rfl) (wt_none rfl) (ev_dep (j := 0) (by kernel_rfl) rfl rfl) (fun w2 u0 hb h0 => by obtain rfl := h0; exact (fdec9_yes _ x n X _ (kx.below hb) (lx.mono (by decide)) HD.out HM.out H2.out HX.out).mono fun e w3 h => RetSB.pd h)) ?_
          refine And.intro (ob_move rfl (wt_none rfl) (ev_dep (j := 1) (by kernel_rfl) rfl rfl) (fun _ _ h => h)) ?_
          refine And.intro (ob_extract rfl (wt_none rfl) (ev_dep (j := 2) (by kernel_rfl) rfl rfl) (fun w2 u hu => by obtain rfl := hu; exact ⟨_, rfl, rfl⟩)) ?_
          refine And.intro (ob_extract rfl (wt_none rfl) (ev_dep (j := 2) (by kernel_rfl) rfl rfl) (fun w2 u hu => by obtain rfl := hu; exact ⟨_, rfl, rfl⟩)) ?_
          refine And.intro (ob_assign rfl (wt_none rfl) (ev_dep (j := 3) (by kernel_rfl) rfl rfl) (fun _ _ h => h)) ?_
          refine And.intro (ob_assign rfl (wt_none rfl) (ev_dep (j := 4) (by kernel_rfl) rfl rfl) (fun _ _ h => h)) ?_
          trivial
        case done22 =>
          refine fun w5 hb5 v0 h0 v1 h1 v2 h2 v3 h3 v4 h4 v5 h5 v6 h6 b hbf => ?_
          obtain rfl := h0; obtain rfl := h1; obtain rfl := h2; obtain rfl := h3; obtain rfl := h4; obtain rfl := h5; obtain rfl := h6
          simp only [Act.put, List.setIfInBounds_toArray, List.set_cons_zero, List.set_cons_succ] at hbf
          subst hbf
          replace Bx := Bx.below hb5
          replace kxs := kxs.below hb5
          replace kxd := kxd.below hb5
          replace kxz := kxz.below hb5
          replace kx := kx.below hb5
          replace BX := BX.below hb5
          replace kXs := kXs.below hb5
          replace kXd := kXd.below hb5
          replace kXz := kXz.below hb5
          replace kX := kX.below hb5
          replace bb := bb.trans (hb5.mono bb.size)
          have hsz5 := bb.size
          refine ops_done ?_
          go_upto_region 4 with (fail)
          refine flowp 7 [Pd.eq (.agg #[.bool (ngB (x).num), .slice AX (digs 10000 (x).num.natAbs).length cX, .slice DX (digs 10000 (x).den).length eX]), Pd.eq (.tuple #[.string (ByteArray.mk (List.toArray (decT (ngB (x).num) X n : List UInt8))), .bool true]), Pd.eq (.tuple #[.string (ByteArray.mk (List.toArray (decT (ngB (x).num) X n : List UInt8))), .bool true]), Pd.eq (.string (ByteArray.mk (List.toArray (decT (ngB (x).num) X n : List UInt8)))), Pd.eq (.bool true), Pd.eq (.string (ByteArray.mk (List.toArray (decT (ngB (x).num) X n : List UInt8)))), Pd.eq (.bool true)] (by kernel_rfl) ?ob23 ?done23
          case ob23 =>
            refine And.intro (ob_load rfl (wt_none rfl) (ev_far rfl rfl) (fun w2 hb => run_loadAll Tryz.underlying36 rfl (by kernel_rfl) (BX.below hb)) (fun _ _ => rfl)) ?_
            refine And.intro (ob_call1 rfl Tryz.func14 (by kernel_rfl) (wt_none rfl) (ev_dep (j := 0) (by kernel_rfl) rfl rfl) (fun w2 u0 hb h0 => by obtain rfl := h0; exact (rdec_yes _ x n X _ (kX.below hb) (lx.mono (by decide)) HD.out HM.out H2.out HX.out).mono fun e w3 h => RetSB.pd h)) ?_
            refine And.intro (ob_move rfl (wt_none rfl) (ev_dep (j := 1) (by kernel_rfl) rfl rfl) (fun _ _ h => h)) ?_
            refine And.intro (ob_extract rfl (wt_none rfl) (ev_dep (j := 2) (by kernel_rfl) rfl rfl) (fun w2 u hu => by obtain rfl := hu; exact ⟨_, rfl, rfl⟩)) ?_
            refine And.intro (ob_extract rfl (wt_none rfl) (ev_dep (j := 2) (by kernel_rfl) rfl rfl) (fun w2 u hu => by obtain rfl := hu; exact ⟨_, rfl, rfl⟩)) ?_
            refine And.intro (ob_assign rfl (wt_none rfl) (ev_dep (j := 3) (by kernel_rfl) rfl rfl) (fun _ _ h => h)) ?_
            refine And.intro (ob_assign rfl (wt_none rfl) (ev_dep (j := 4) (by kernel_rfl) rfl rfl) (fun _ _ h => h)) ?_
            trivial
          case done23 =>
            refine fun w6 hb6 v0 h0 v1 h1 v2 h2 v3 h3 v4 h4 v5 h5 v6 h6 b hbf => ?_
            obtain rfl := h0; obtain rfl := h1; obtain rfl := h2; obtain rfl := h3; obtain rfl := h4; obtain rfl := h5; obtain rfl := h6
            simp only [Act.put, List.setIfInBounds_toArray, List.set_cons_zero, List.set_cons_succ] at hbf
            subst hbf
            replace Bx := Bx.below hb6
            replace kxs := kxs.below hb6
            replace kxd := kxd.below hb6
            replace kxz := kxz.below hb6
            replace kx := kx.below hb6
            replace BX := BX.below hb6
            replace kXs := kXs.below hb6
            replace kXd := kXd.below hb6
            replace kXz := kXz.below hb6
            replace kX := kX.below hb6
            replace bb := bb.trans (hb6.mono bb.size)
            have hsz6 := bb.size
            refine ops_done ?_
            go_upto_region 5 with (fail)
            refine flowp 7 [Pd.eq (.agg #[.bool (ngB (x).num), .slice Ax (digs 4294967296 (x).num.natAbs).length cx, .slice Dx (digs 4294967296 (x).den).length ex]), Pd.eq (.tuple #[.string (ByteArray.mk (List.toArray ([] : List UInt8))), .bool false]), Pd.eq (.tuple #[.string (ByteArray.mk (List.toArray ([] : List UInt8))), .bool false]), Pd.eq (.string (ByteArray.mk (List.toArray ([] : List UInt8)))), Pd.eq (.bool false), Pd.eq (.string (ByteArray.mk (List.toArray ([] : List UInt8)))), Pd.eq (.bool false)] (by kernel_rfl) ?ob24 ?done24
            case ob24 =>
              refine And.intro (ob_load rfl (wt_none rfl) (ev_far rfl rfl) (fun w2 hb => run_loadAll Tryz.underlying27 rfl (by kernel_rfl) (Bx.below hb)) (fun _ _ => rfl)) ?_
              refine And.intro (ob_call1 rfl Tryz.func15 (by kernel_rfl) (wt_none rfl) (ev_dep (j := 0) (by kernel_rfl) rfl rfl) (fun w2 u0 hb h0 => by obtain rfl := h0; exact (fpct9_no _ x _ (kx.below hb) (lx.mono (by decide)) GM.out).mono fun e w3 h => RetSB.pd h)) ?_
              refine And.intro (ob_move rfl (wt_none rfl) (ev_dep (j := 1) (by kernel_rfl) rfl rfl) (fun _ _ h => h)) ?_
              refine And.intro (ob_extract rfl (wt_none rfl) (ev_dep (j := 2) (by kernel_rfl) rfl rfl) (fun w2 u hu => by obtain rfl := hu; exact ⟨_, rfl, rfl⟩)) ?_
              refine And.intro (ob_extract rfl (wt_none rfl) (ev_dep (j := 2) (by kernel_rfl) rfl rfl) (fun w2 u hu => by obtain rfl := hu; exact ⟨_, rfl, rfl⟩)) ?_
              refine And.intro (ob_assign rfl (wt_none rfl) (ev_dep (j := 3) (by kernel_rfl) rfl rfl) (fun _ _ h => h)) ?_
              refine And.intro (ob_assign rfl (wt_none rfl) (ev_dep (j := 4) (by kernel_rfl) rfl rfl) (fun _ _ h => h)) ?_
              trivial
            case done24 =>
              refine fun w7 hb7 v0 h0 v1 h1 v2 h2 v3 h3 v4 h4 v5 h5 v6 h6 b hbf => ?_
              obtain rfl := h0; obtain rfl := h1; obtain rfl := h2; obtain rfl := h3; obtain rfl := h4; obtain rfl := h5; obtain rfl := h6
              simp only [Act.put, List.setIfInBounds_toArray, List.set_cons_zero, List.set_cons_succ] at hbf
              subst hbf
              replace Bx := Bx.below hb7
              replace kxs := kxs.below hb7
              replace kxd := kxd.below hb7
              replace kxz := kxz.below hb7
              replace kx := kx.below hb7
              replace BX := BX.below hb7
              replace kXs := kXs.below hb7
              replace kXd := kXd.below hb7
              replace kXz := kXz.below hb7
              replace kX := kX.below hb7
              replace bb := bb.trans (hb7.mono bb.size)
              have hsz7 := bb.size
              refine ops_done ?_
              go_upto_region 6 with (fail)
              refine flow 9 [Pd.eq (.agg #[.bool (ngB (x).num), .slice AX (digs 10000 (x).num.natAbs).length cX, .slice DX (digs 10000 (x).den).length eX]), pp (mkRat 100 1), pp (x * 100), Pd.eq (.tuple #[.string (ByteArray.mk (List.toArray ([] : List UInt8))), .bool false]), Pd.eq (.tuple #[.string (ByteArray.mk (List.toArray ([] : List UInt8))), .bool false]), Pd.eq (.string (ByteArray.mk (List.toArray ([] : List UInt8)))), Pd.eq (.bool false), Pd.eq (.string (ByteArray.mk (List.toArray ([] : List UInt8)))), Pd.eq (.bool false)] (by kernel_rfl) (by kernel_rfl) ?ob25 ?done25
              case ob25 =>
                refine And.intro (ob_load rfl (wt_none rfl) (ev_far rfl rfl) (fun w2 hb => run_loadAll Tryz.underlying36 rfl (by kernel_rfl) (BX.drew.below hb)) (fun _ _ => rfl)) ?_
                refine And.intro (ob_call2 rfl Tryz.func17 (by kernel_rfl) (wt_none rfl) (ev_const _) (ev_const _) (fun w2 u0 u1 hb h0 h1 => by obtain rfl := h0; obtain rfl := h1; exact (qnum_any 100 1 _ 1 rfl (by omega) (by omega) (by omega) (by omega)).mono fun e w3 h => RetPF.pd h)) ?_
                refine And.intro (ob_call2 rfl Tryz.func16 (by kernel_rfl) (wt_none rfl) (ev_dep (j := 0) (by kernel_rfl) rfl rfl) (ev_dep (j := 1) (by kernel_rfl) rfl rfl) (fun w2 u0 u1 hb h0 h1 => by obtain rfl := h0; exact (HH.out ▸ qmul_any _ x _ (mkRat 100 1) _ (kX.drew.below hb) h1 (lx.mono (by decide)) (l100.mono (by decide))).mono fun e w3 h => RetPF.pd h)) ?_
                refine And.intro (ob_call1 rfl Tryz.func14 (by kernel_rfl) (wt_none rfl) (ev_dep (j := 2) (by kernel_rfl) rfl rfl) (fun w2 u0 hb h0 => by exact (rdec_no _ (x * 100) _ h0 (lh.mono (by decide)) GM.out).mono fun e w3 h => RetSB.pd h)) ?_
                refine And.intro (ob_move rfl (wt_none rfl) (ev_dep (j := 3) (by kernel_rfl) rfl rfl) (fun _ _ h => h)) ?_
                refine And.intro (ob_extract rfl (wt_none rfl) (ev_dep (j := 4) (by kernel_rfl) rfl rfl) (fun w2 u hu => by obtain rfl := hu; exact ⟨_, rfl, rfl⟩)) ?_
                refine And.intro (ob_extract rfl (wt_none rfl) (ev_dep (j := 4) (by kernel_rfl) rfl rfl) (fun w2 u hu => by obtain rfl := hu; exact ⟨_, rfl, rfl⟩)) ?_
                refine And.intro (ob_assign rfl (wt_none rfl) (ev_dep (j := 5) (by kernel_rfl) rfl rfl) (fun _ _ h => h)) ?_
                refine And.intro (ob_assign rfl (wt_none rfl) (ev_dep (j := 6) (by kernel_rfl) rfl rfl) (fun _ _ h => h)) ?_
                trivial
              case done25 =>
                refine fun w8 hb8 v0 h0 v1 h1 v2 h2 v3 h3 v4 h4 v5 h5 v6 h6 v7 h7 v8 h8 b hbf => ?_
                obtain rfl := h0; obtain rfl := h3; obtain rfl := h4; obtain rfl := h5; obtain rfl := h6; obtain rfl := h7; obtain rfl := h8
                have q1 := h1
                have q2 := h2
                simp only [Act.put, List.setIfInBounds_toArray, List.set_cons_zero, List.set_cons_succ] at hbf
                subst hbf
                replace Bx := Bx.below hb8
                replace kxs := kxs.below hb8
                replace kxd := kxd.below hb8
                replace kxz := kxz.below hb8
                replace kx := kx.below hb8
                replace BX := BX.below hb8
                replace kXs := kXs.below hb8
                replace kXd := kXd.below hb8
                replace kXz := kXz.below hb8
                replace kX := kX.below hb8
                replace bb := bb.trans (hb8.mono bb.size)
                have hsz8 := bb.size
                refine any_done (by kernel_rfl) ?_
                go_upto_region 9 with (fail)
                refine flow 38 [Pd.eq (.agg #[.bool (ngB (x).num), .slice Ax (digs 4294967296 (x).num.natAbs).length cx, .slice Dx (digs 4294967296 (x).den).length ex]), Pd.eq (.string (ByteArray.mk (List.toArray (txtr (x) : List UInt8)))), Pd.eq (.agg #[.bool (ngB (x).num), .slice AX (digs 10000 (x).num.natAbs).length cX, .slice DX (digs 10000 (x).den).length eX]), Pd.eq (.string (ByteArray.mk (List.toArray (txtr (x) : List UInt8)))), Pd.eq (.bool true), Pd.eq (.bool true), Pd.eq (.string (ByteArray.mk (List.toArray (decT (ngB (x).num) X n : List UInt8)))), Pd.eq (.string (ByteArray.mk (List.toArray (decT (ngB (x).num) X n : List UInt8)))), Pd.eq (.bool true), Pd.eq (.bool true), Pd.eq (.bool true), Pd.eq (.bool true), Pd.eq (.bool true), Pd.eq (.bool true), Pd.eq (.bool true), Pd.eq (.bool true), Pd.eq (.string (ByteArray.mk (List.toArray ([] : List UInt8)))), Pd.eq (.string (ByteArray.mk (List.toArray ([] : List UInt8)))), Pd.eq (.bool true), Pd.eq (.bool true), Pd.eq (.bool true), Pd.eq (.bool false), Pd.eq (.bool false), Pd.eq (.bool true), Pd.eq (.bool true), Pd.eq (.bool true), Pd.eq (.agg #[.bool (ngB (x).num), .slice Ax (digs 4294967296 (x).num.natAbs).length cx, .slice Dx (digs 4294967296 (x).den).length ex]), Pd.eq (.int .i64 (((txt 10 (x).den).length : Nat) : Int)), Pd.eq (.pointer (some ⟨g15_2, 2, none⟩)), Pd.eq (.slice DX (digs 10000 (x).den).length eX), Pd.eq (.string (ByteArray.mk (List.toArray (txt 10 (x).den : List UInt8)))), Pd.eq (.int .i64 (((txt 10 (x).den).length : Nat) : Int)), Pd.eq (.bool true), Pd.eq (.bool true), Pd.eq (.bool true), Pd.eq (.bool true), Pd.eq (.bool true), Pd.eq (.bool true)] (by kernel_rfl) (by kernel_rfl) ?ob26 ?done26
                case ob26 =>
                  refine And.intro (ob_load rfl (wt_none rfl) (ev_far rfl rfl) (fun w2 hb => run_loadAll Tryz.underlying27 rfl (by kernel_rfl) (Bx.drew.below hb)) (fun _ _ => rfl)) ?_
                  refine And.intro (ob_call1 rfl Tryz.func18 (by kernel_rfl) (wt_none rfl) (ev_dep (j := 0) (by kernel_rfl) rfl rfl) (fun w2 u0 hb h0 => by obtain rfl := h0; exact (fprint9_any _ x _ (kx.drew.below hb) (lx.mono (by decide))).mono fun e w3 h => RetStrB.pd h)) ?_
                  refine And.intro (ob_load rfl (wt_none rfl) (ev_far rfl rfl) (fun w2 hb => run_loadAll Tryz.underlying36 rfl (by kernel_rfl) (BX.drew.below hb)) (fun _ _ => rfl)) ?_
                  refine And.intro (ob_call1 rfl Tryz.func19 (by kernel_rfl) (wt_none rfl) (ev_dep (j := 2) (by kernel_rfl) rfl rfl) (fun w2 u0 hb h0 => by obtain rfl := h0; exact (rprint9_any _ x _ (kX.drew.below hb) (lx.mono (by decide))).mono fun e w3 h => RetStrB.pd h)) ?_
                  refine And.intro (ob_bin rfl (wt_none rfl) (ev_dep (j := 1) (by kernel_rfl) rfl rfl) (ev_dep (j := 3) (by kernel_rfl) rfl rfl) (fun _ _ _ hx hy => ⟨.bool ((ByteArray.mk (List.toArray (txtr (x) : List UInt8))).toList == (ByteArray.mk (List.toArray (txtr (x) : List UInt8))).toList), by rw [hx, hy]; exact bin_eql_str _ _ _ _ _, congrArg Value.bool (beq_self_eq_true _)⟩)) ?_
                  refine And.intro (ob_move rfl (wt_none rfl) (ev_dep (j := 4) (by kernel_rfl) rfl rfl) (fun _ _ h => h)) ?_
                  refine And.intro (ob_move rfl (wt_dep (c := true) (b := true) (g := 5) rfl (by kernel_rfl) rfl rfl rfl (by exact fun _ _ h => h)) (ev_far rfl rfl) (fun _ _ h => h)) ?_
                  refine And.intro (ob_move rfl (wt_dep (c := true) (b := true) (g := 5) rfl (by kernel_rfl) rfl rfl rfl (by exact fun _ _ h => h)) (ev_far rfl rfl) (fun _ _ h => h)) ?_
                  refine And.intro (ob_bin rfl (wt_dep (c := true) (b := true) (g := 5) rfl (by kernel_rfl) rfl rfl rfl (by exact fun _ _ h => h)) (ev_dep (j := 6) (by kernel_rfl) rfl rfl) (ev_dep (j := 7) (by kernel_rfl) rfl rfl) (fun _ _ _ hx hy => ⟨.bool ((ByteArray.mk (List.toArray (decT (ngB (x).num) X n : List UInt8))).toList == (ByteArray.mk (List.toArray (decT (ngB (x).num) X n : List UInt8))).toList), by rw [hx, hy]; exact bin_eql_str _ _ _ _ _, congrArg Value.bool (beq_self_eq_true _)⟩)) ?_
                  refine And.intro (ob_pick (b := true) rfl (wt_none rfl) (ev_dep (j := 5) (by kernel_rfl) rfl rfl) (ev_dep (j := 8) (by kernel_rfl) rfl rfl) (fun _ _ h => h)) ?_
                  refine And.intro (ob_move rfl (wt_none rfl) (ev_dep (j := 9) (by kernel_rfl) rfl rfl) (fun _ _ h => h)) ?_
                  refine And.intro (ob_move rfl (wt_dep (c := true) (b := true) (g := 10) rfl (by kernel_rfl) rfl rfl rfl (by exact fun _ _ h => h)) (ev_far rfl rfl) (fun _ _ h => h)) ?_
                  refine And.intro (ob_move rfl (wt_dep (c := true) (b := true) (g := 10) rfl (by kernel_rfl) rfl rfl rfl (by exact fun _ _ h => h)) (ev_far rfl rfl) (fun _ _ h => h)) ?_
                  refine And.intro (ob_bin rfl (wt_dep (c := true) (b := true) (g := 10) rfl (by kernel_rfl) rfl rfl rfl (by exact fun _ _ h => h)) (ev_dep (j := 11) (by kernel_rfl) rfl rfl) (ev_dep (j := 12) (by kernel_rfl) rfl rfl) (fun _ _ _ hx hy => ⟨.bool (true == true), by rw [hx, hy]; exact bin_eql_bool _ _ _ _ Tryz.underlying4 _, rfl⟩)) ?_
                  refine And.intro (ob_pick (b := true) rfl (wt_none rfl) (ev_dep (j := 10) (by kernel_rfl) rfl rfl) (ev_dep (j := 13) (by kernel_rfl) rfl rfl) (fun _ _ h => h)) ?_
                  refine And.intro (ob_move rfl (wt_none rfl) (ev_dep (j := 14) (by kernel_rfl) rfl rfl) (fun _ _ h => h)) ?_
                  refine And.intro (ob_move rfl (wt_dep (c := true) (b := true) (g := 15) rfl (by kernel_rfl) rfl rfl rfl (by exact fun _ _ h => h)) (ev_far rfl rfl) (fun _ _ h => h)) ?_
                  refine And.intro (ob_move rfl (wt_dep (c := true) (b := true) (g := 15) rfl (by kernel_rfl) rfl rfl rfl (by exact fun _ _ h => h)) (ev_far rfl rfl) (fun _ _ h => h)) ?_
                  refine And.intro (ob_bin rfl (wt_dep (c := true) (b := true) (g := 15) rfl (by kernel_rfl) rfl rfl rfl (by exact fun _ _ h => h)) (ev_dep (j := 16) (by kernel_rfl) rfl rfl) (ev_dep (j := 17) (by kernel_rfl) rfl rfl) (fun _ _ _ hx hy => ⟨.bool ((ByteArray.mk (List.toArray ([] : List UInt8))).toList == (ByteArray.mk (List.toArray ([] : List UInt8))).toList), by rw [hx, hy]; exact bin_eql_str _ _ _ _ _, congrArg Value.bool (beq_self_eq_true _)⟩)) ?_
                  refine And.intro (ob_pick (b := true) rfl (wt_none rfl) (ev_dep (j := 15) (by kernel_rfl) rfl rfl) (ev_dep (j := 18) (by kernel_rfl) rfl rfl) (fun _ _ h => h)) ?_
                  refine And.intro (ob_move rfl (wt_none rfl) (ev_dep (j := 19) (by kernel_rfl) rfl rfl) (fun _ _ h => h)) ?_
                  refine And.intro (ob_move rfl (wt_dep (c := true) (b := true) (g := 20) rfl (by kernel_rfl) rfl rfl rfl (by exact fun _ _ h => h)) (ev_far rfl rfl) (fun _ _ h => h)) ?_
                  refine And.intro (ob_move rfl (wt_dep (c := true) (b := true) (g := 20) rfl (by kernel_rfl) rfl rfl rfl (by exact fun _ _ h => h)) (ev_far rfl rfl) (fun _ _ h => h)) ?_
                  refine And.intro (ob_bin rfl (wt_dep (c := true) (b := true) (g := 20) rfl (by kernel_rfl) rfl rfl rfl (by exact fun _ _ h => h)) (ev_dep (j := 21) (by kernel_rfl) rfl rfl) (ev_dep (j := 22) (by kernel_rfl) rfl rfl) (fun _ _ _ hx hy => ⟨.bool (false == false), by rw [hx, hy]; exact bin_eql_bool _ _ _ _ Tryz.underlying4 _, rfl⟩)) ?_
                  refine And.intro (ob_pick (b := true) rfl (wt_none rfl) (ev_dep (j := 20) (by kernel_rfl) rfl rfl) (ev_dep (j := 23) (by kernel_rfl) rfl rfl) (fun _ _ h => h)) ?_
                  refine And.intro (ob_move rfl (wt_none rfl) (ev_dep (j := 24) (by kernel_rfl) rfl rfl) (fun _ _ h => h)) ?_
                  refine And.intro (ob_load rfl (wt_dep (c := true) (b := true) (g := 25) rfl (by kernel_rfl) rfl rfl rfl (by exact fun _ _ h => h)) (ev_far rfl rfl) (fun w2 hb => run_loadAll Tryz.underlying27 rfl (by kernel_rfl) (Bx.drew.below hb)) (fun _ _ => rfl)) ?_
                  refine And.intro (ob_call1 rfl Tryz.func20 (by kernel_rfl) (wt_dep (c := true) (b := true) (g := 25) rfl (by kernel_rfl) rfl rfl rfl (by exact fun _ _ h => h)) (ev_dep (j := 26) (by kernel_rfl) rfl rfl) (fun w2 u0 hb h0 => by obtain rfl := h0; exact (fdigits9_any _ x _ (kx.drew.below hb) (lx.mono (by decide))).mono fun e w3 h => RetV.pd h)) ?_
                  refine And.intro (ob_fieldAddr rfl (wt_dep (c := true) (b := true) (g := 25) rfl (by kernel_rfl) rfl rfl rfl (by exact fun _ _ h => h)) (ev_far rfl rfl) (fun _ => by kernel_rfl) (fun _ => rfl)) ?_
                  refine And.intro (ob_load rfl (wt_dep (c := true) (b := true) (g := 25) rfl (by kernel_rfl) rfl rfl rfl (by exact fun _ _ h => h)) (ev_dep (j := 28) (by kernel_rfl) rfl rfl) (fun w2 hb => run_load1 Tryz.underlying32 rfl ((BX.drew.below hb).cell 2)) (fun _ _ => rfl)) ?_
                  refine And.intro (ob_call1 rfl Tryz.func21 (by kernel_rfl) (wt_dep (c := true) (b := true) (g := 25) rfl (by kernel_rfl) rfl rfl rfl (by exact fun _ _ h => h)) (ev_dep (j := 29) (by kernel_rfl) rfl rfl) (fun w2 u0 hb h0 => by obtain rfl := h0; exact (rtext_any _ x.den _ (kXd.drew.below hb) (Nat.le_trans (dec_le _) (by have := lx.2; omega))).mono fun e w3 h => RetStrB.pd h)) ?_
                  refine And.intro (ob_len rfl (wt_dep (c := true) (b := true) (g := 25) rfl (by kernel_rfl) rfl rfl rfl (by exact fun _ _ h => h)) (ev_dep (j := 30) (by kernel_rfl) rfl rfl) (fun _ _ hx => ⟨_, by rw [hx]; exact len_txt Tryz.underlying9 _ _, rfl⟩)) ?_
                  refine And.intro (ob_bin rfl (wt_dep (c := true) (b := true) (g := 25) rfl (by kernel_rfl) rfl rfl rfl (by exact fun _ _ h => h)) (ev_dep (j := 27) (by kernel_rfl) rfl rfl) (ev_dep (j := 31) (by kernel_rfl) rfl rfl) (fun _ _ _ hx hy => ⟨.bool ((((txt 10 (x).den).length : Nat) : Int) == (((txt 10 (x).den).length : Nat) : Int)), by rw [hx, hy]; exact bin_eql_int _ _ _ _ _, congrArg Value.bool (beq_self_eq_true _)⟩)) ?_
                  refine And.intro (ob_pick (b := true) rfl (wt_none rfl) (ev_dep (j := 25) (by kernel_rfl) rfl rfl) (ev_dep (j := 32) (by kernel_rfl) rfl rfl) (fun _ _ h => h)) ?_
                  refine And.intro (ob_move rfl (wt_none rfl) (ev_dep (j := 33) (by kernel_rfl) rfl rfl) (fun _ _ h => h)) ?_
                  refine And.intro (ob_call0 rfl Tryz.func8 (by kernel_rfl) (wt_dep (c := true) (b := true) (g := 34) rfl (by kernel_rfl) rfl rfl rfl (by exact fun _ _ h => h)) (fun w2 hb => (works9_any _).mono fun e w3 h => RetV.pd h)) ?_
                  refine And.intro (ob_pick (b := true) rfl (wt_none rfl) (ev_dep (j := 34) (by kernel_rfl) rfl rfl) (ev_dep (j := 35) (by kernel_rfl) rfl rfl) (fun _ _ h => h)) ?_
                  refine And.intro (ob_assign rfl (wt_none rfl) (ev_dep (j := 36) (by kernel_rfl) rfl rfl) (fun _ _ h => h)) ?_
                  trivial
                case done26 =>
                  refine fun w9 hb9 v0 h0 v1 h1 v2 h2 v3 h3 v4 h4 v5 h5 v6 h6 v7 h7 v8 h8 v9 h9 v10 h10 v11 h11 v12 h12 v13 h13 v14 h14 v15 h15 v16 h16 v17 h17 v18 h18 v19 h19 v20 h20 v21 h21 v22 h22 v23 h23 v24 h24 v25 h25 v26 h26 v27 h27 v28 h28 v29 h29 v30 h30 v31 h31 v32 h32 v33 h33 v34 h34 v35 h35 v36 h36 v37 h37 b hbf => ?_
                  obtain rfl := h0; obtain rfl := h1; obtain rfl := h2; obtain rfl := h3; obtain rfl := h4; obtain rfl := h5; obtain rfl := h6; obtain rfl := h7; obtain rfl := h8; obtain rfl := h9; obtain rfl := h10; obtain rfl := h11; obtain rfl := h12; obtain rfl := h13; obtain rfl := h14; obtain rfl := h15; obtain rfl := h16; obtain rfl := h17; obtain rfl := h18; obtain rfl := h19; obtain rfl := h20; obtain rfl := h21; obtain rfl := h22; obtain rfl := h23; obtain rfl := h24; obtain rfl := h25; obtain rfl := h26; obtain rfl := h27; obtain rfl := h28; obtain rfl := h29; obtain rfl := h30; obtain rfl := h31; obtain rfl := h32; obtain rfl := h33; obtain rfl := h34; obtain rfl := h35; obtain rfl := h36; obtain rfl := h37
                  simp only [Act.put, List.setIfInBounds_toArray, List.set_cons_zero, List.set_cons_succ] at hbf
                  subst hbf
                  replace Bx := Bx.below hb9
                  replace kxs := kxs.below hb9
                  replace kxd := kxd.below hb9
                  replace kxz := kxz.below hb9
                  replace kx := kx.below hb9
                  replace BX := BX.below hb9
                  replace kXs := kXs.below hb9
                  replace kXd := kXd.below hb9
                  replace kXz := kXz.below hb9
                  replace kX := kX.below hb9
                  replace bb := bb.trans (hb9.mono bb.size)
                  have hsz9 := bb.size
                  refine any_done (by kernel_rfl) ?_
                  go_wp2
                  go_ret
                  exact ⟨rfl, bb⟩
      · have HM := Lib.hid hm
        clear hm
        obtain ⟨Y, hY⟩ : ∃ Y, Y = (x * 100).num.natAbs * 10 ^ k / (x * 100).den := ⟨_, rfl⟩
        have GX := Lib.hid hY
        have GD := Lib.hid gd
        have GM := Lib.hid gm
        have G2 := Lib.hid g2
        clear hY gd gm g2
        go_upto_region 3 with (fail)
        refine flowp 7 [Pd.eq (.agg #[.bool (ngB (x).num), .slice Ax (digs 4294967296 (x).num.natAbs).length cx, .slice Dx (digs 4294967296 (x).den).length ex]), Pd.eq (.tuple #[.string (ByteArray.mk (List.toArray ([] : List UInt8))), .bool false]), Pd.eq (.tuple #[.string (ByteArray.mk (List.toArray ([] : List UInt8))), .bool false]), Pd.eq (.string (ByteArray.mk (List.toArray ([] : List UInt8)))), Pd.eq (.bool false), Pd.eq (.string (ByteArray.mk (List.toArray ([] : List UInt8)))), Pd.eq (.bool false)] (by kernel_rfl) ?ob27 ?done27
        case ob27 =>
          refine And.intro (ob_load rfl (wt_none rfl) (ev_far rfl rfl) (fun w2 hb => run_loadAll Tryz.underlying27 rfl (by kernel_rfl) (Bx.below hb)) (fun _ _ => rfl)) ?_
          refine And.intro (ob_call1 rfl Tryz.func13 (by kernel_rfl) (wt_none rfl) (ev_dep (j := 0) (by kernel_rfl) rfl rfl) (fun w2 u0 hb h0 => by obtain rfl := h0; exact (fdec9_no _ x _ (kx.below hb) (lx.mono (by decide)) HM.out).mono fun e w3 h => RetSB.pd h)) ?_
          refine And.intro (ob_move rfl (wt_none rfl) (ev_dep (j := 1) (by kernel_rfl) rfl rfl) (fun _ _ h => h)) ?_
          refine And.intro (ob_extract rfl (wt_none rfl) (ev_dep (j := 2) (by kernel_rfl) rfl rfl) (fun w2 u hu => by obtain rfl := hu; exact ⟨_, rfl, rfl⟩)) ?_
          refine And.intro (ob_extract rfl (wt_none rfl) (ev_dep (j := 2) (by kernel_rfl) rfl rfl) (fun w2 u hu => by obtain rfl := hu; exact ⟨_, rfl, rfl⟩)) ?_
          refine And.intro (ob_assign rfl (wt_none rfl) (ev_dep (j := 3) (by kernel_rfl) rfl rfl) (fun _ _ h => h)) ?_
          refine And.intro (ob_assign rfl (wt_none rfl) (ev_dep (j := 4) (by kernel_rfl) rfl rfl) (fun _ _ h => h)) ?_
          trivial
        case done27 =>
          refine fun w5 hb5 v0 h0 v1 h1 v2 h2 v3 h3 v4 h4 v5 h5 v6 h6 b hbf => ?_
          obtain rfl := h0; obtain rfl := h1; obtain rfl := h2; obtain rfl := h3; obtain rfl := h4; obtain rfl := h5; obtain rfl := h6
          simp only [Act.put, List.setIfInBounds_toArray, List.set_cons_zero, List.set_cons_succ] at hbf
          subst hbf
          replace Bx := Bx.below hb5
          replace kxs := kxs.below hb5
          replace kxd := kxd.below hb5
          replace kxz := kxz.below hb5
          replace kx := kx.below hb5
          replace BX := BX.below hb5
          replace kXs := kXs.below hb5
          replace kXd := kXd.below hb5
          replace kXz := kXz.below hb5
          replace kX := kX.below hb5
          replace bb := bb.trans (hb5.mono bb.size)
          have hsz5 := bb.size
          refine ops_done ?_
          go_upto_region 4 with (fail)
          refine flowp 7 [Pd.eq (.agg #[.bool (ngB (x).num), .slice AX (digs 10000 (x).num.natAbs).length cX, .slice DX (digs 10000 (x).den).length eX]), Pd.eq (.tuple #[.string (ByteArray.mk (List.toArray ([] : List UInt8))), .bool false]), Pd.eq (.tuple #[.string (ByteArray.mk (List.toArray ([] : List UInt8))), .bool false]), Pd.eq (.string (ByteArray.mk (List.toArray ([] : List UInt8)))), Pd.eq (.bool false), Pd.eq (.string (ByteArray.mk (List.toArray ([] : List UInt8)))), Pd.eq (.bool false)] (by kernel_rfl) ?ob28 ?done28
          case ob28 =>
            refine And.intro (ob_load rfl (wt_none rfl) (ev_far rfl rfl) (fun w2 hb => run_loadAll Tryz.underlying36 rfl (by kernel_rfl) (BX.below hb)) (fun _ _ => rfl)) ?_
            refine And.intro (ob_call1 rfl Tryz.func14 (by kernel_rfl) (wt_none rfl) (ev_dep (j := 0) (by kernel_rfl) rfl rfl) (fun w2 u0 hb h0 => by obtain rfl := h0; exact (rdec_no _ x _ (kX.below hb) (lx.mono (by decide)) HM.out).mono fun e w3 h => RetSB.pd h)) ?_
            refine And.intro (ob_move rfl (wt_none rfl) (ev_dep (j := 1) (by kernel_rfl) rfl rfl) (fun _ _ h => h)) ?_
            refine And.intro (ob_extract rfl (wt_none rfl) (ev_dep (j := 2) (by kernel_rfl) rfl rfl) (fun w2 u hu => by obtain rfl := hu; exact ⟨_, rfl, rfl⟩)) ?_
            refine And.intro (ob_extract rfl (wt_none rfl) (ev_dep (j := 2) (by kernel_rfl) rfl rfl) (fun w2 u hu => by obtain rfl := hu; exact ⟨_, rfl, rfl⟩)) ?_
            refine And.intro (ob_assign rfl (wt_none rfl) (ev_dep (j := 3) (by kernel_rfl) rfl rfl) (fun _ _ h => h)) ?_
            refine And.intro (ob_assign rfl (wt_none rfl) (ev_dep (j := 4) (by kernel_rfl) rfl rfl) (fun _ _ h => h)) ?_
            trivial
          case done28 =>
            refine fun w6 hb6 v0 h0 v1 h1 v2 h2 v3 h3 v4 h4 v5 h5 v6 h6 b hbf => ?_
            obtain rfl := h0; obtain rfl := h1; obtain rfl := h2; obtain rfl := h3; obtain rfl := h4; obtain rfl := h5; obtain rfl := h6
            simp only [Act.put, List.setIfInBounds_toArray, List.set_cons_zero, List.set_cons_succ] at hbf
            subst hbf
            replace Bx := Bx.below hb6
            replace kxs := kxs.below hb6
            replace kxd := kxd.below hb6
            replace kxz := kxz.below hb6
            replace kx := kx.below hb6
            replace BX := BX.below hb6
            replace kXs := kXs.below hb6
            replace kXd := kXd.below hb6
            replace kXz := kXz.below hb6
            replace kX := kX.below hb6
            replace bb := bb.trans (hb6.mono bb.size)
            have hsz6 := bb.size
            refine ops_done ?_
            go_upto_region 5 with (fail)
            refine flowp 7 [Pd.eq (.agg #[.bool (ngB (x).num), .slice Ax (digs 4294967296 (x).num.natAbs).length cx, .slice Dx (digs 4294967296 (x).den).length ex]), Pd.eq (.tuple #[.string (ByteArray.mk (List.toArray (decT (ngB (x * 100).num) Y k ++ [37] : List UInt8))), .bool true]), Pd.eq (.tuple #[.string (ByteArray.mk (List.toArray (decT (ngB (x * 100).num) Y k ++ [37] : List UInt8))), .bool true]), Pd.eq (.string (ByteArray.mk (List.toArray (decT (ngB (x * 100).num) Y k ++ [37] : List UInt8)))), Pd.eq (.bool true), Pd.eq (.string (ByteArray.mk (List.toArray (decT (ngB (x * 100).num) Y k ++ [37] : List UInt8)))), Pd.eq (.bool true)] (by kernel_rfl) ?ob29 ?done29
            case ob29 =>
              refine And.intro (ob_load rfl (wt_none rfl) (ev_far rfl rfl) (fun w2 hb => run_loadAll Tryz.underlying27 rfl (by kernel_rfl) (Bx.below hb)) (fun _ _ => rfl)) ?_
              refine And.intro (ob_call1 rfl Tryz.func15 (by kernel_rfl) (wt_none rfl) (ev_dep (j := 0) (by kernel_rfl) rfl rfl) (fun w2 u0 hb h0 => by obtain rfl := h0; exact (fpct9_yes _ x k Y _ (kx.below hb) (lx.mono (by decide)) GD.out GM.out G2.out GX.out).mono fun e w3 h => RetSB.pd h)) ?_
              refine And.intro (ob_move rfl (wt_none rfl) (ev_dep (j := 1) (by kernel_rfl) rfl rfl) (fun _ _ h => h)) ?_
              refine And.intro (ob_extract rfl (wt_none rfl) (ev_dep (j := 2) (by kernel_rfl) rfl rfl) (fun w2 u hu => by obtain rfl := hu; exact ⟨_, rfl, rfl⟩)) ?_
              refine And.intro (ob_extract rfl (wt_none rfl) (ev_dep (j := 2) (by kernel_rfl) rfl rfl) (fun w2 u hu => by obtain rfl := hu; exact ⟨_, rfl, rfl⟩)) ?_
              refine And.intro (ob_assign rfl (wt_none rfl) (ev_dep (j := 3) (by kernel_rfl) rfl rfl) (fun _ _ h => h)) ?_
              refine And.intro (ob_assign rfl (wt_none rfl) (ev_dep (j := 4) (by kernel_rfl) rfl rfl) (fun _ _ h => h)) ?_
              trivial
            case done29 =>
              refine fun w7 hb7 v0 h0 v1 h1 v2 h2 v3 h3 v4 h4 v5 h5 v6 h6 b hbf => ?_
              obtain rfl := h0; obtain rfl := h1; obtain rfl := h2; obtain rfl := h3; obtain rfl := h4; obtain rfl := h5; obtain rfl := h6
              simp only [Act.put, List.setIfInBounds_toArray, List.set_cons_zero, List.set_cons_succ] at hbf
              subst hbf
              replace Bx := Bx.below hb7
              replace kxs := kxs.below hb7
              replace kxd := kxd.below hb7
              replace kxz := kxz.below hb7
              replace kx := kx.below hb7
              replace BX := BX.below hb7
              replace kXs := kXs.below hb7
              replace kXd := kXd.below hb7
              replace kXz := kXz.below hb7
              replace kX := kX.below hb7
              replace bb := bb.trans (hb7.mono bb.size)
              have hsz7 := bb.size
              refine ops_done ?_
              go_upto_region 6 with (fail)
              refine flow 9 [Pd.eq (.agg #[.bool (ngB (x).num), .slice AX (digs 10000 (x).num.natAbs).length cX, .slice DX (digs 10000 (x).den).length eX]), pp (mkRat 100 1), pp (x * 100), Pd.eq (.tuple #[.string (ByteArray.mk (List.toArray (decT (ngB (x * 100).num) Y k : List UInt8))), .bool true]), Pd.eq (.tuple #[.string (ByteArray.mk (List.toArray (decT (ngB (x * 100).num) Y k : List UInt8))), .bool true]), Pd.eq (.string (ByteArray.mk (List.toArray (decT (ngB (x * 100).num) Y k : List UInt8)))), Pd.eq (.bool true), Pd.eq (.string (ByteArray.mk (List.toArray (decT (ngB (x * 100).num) Y k : List UInt8)))), Pd.eq (.bool true)] (by kernel_rfl) (by kernel_rfl) ?ob30 ?done30
              case ob30 =>
                refine And.intro (ob_load rfl (wt_none rfl) (ev_far rfl rfl) (fun w2 hb => run_loadAll Tryz.underlying36 rfl (by kernel_rfl) (BX.drew.below hb)) (fun _ _ => rfl)) ?_
                refine And.intro (ob_call2 rfl Tryz.func17 (by kernel_rfl) (wt_none rfl) (ev_const _) (ev_const _) (fun w2 u0 u1 hb h0 h1 => by obtain rfl := h0; obtain rfl := h1; exact (qnum_any 100 1 _ 1 rfl (by omega) (by omega) (by omega) (by omega)).mono fun e w3 h => RetPF.pd h)) ?_
                refine And.intro (ob_call2 rfl Tryz.func16 (by kernel_rfl) (wt_none rfl) (ev_dep (j := 0) (by kernel_rfl) rfl rfl) (ev_dep (j := 1) (by kernel_rfl) rfl rfl) (fun w2 u0 u1 hb h0 h1 => by obtain rfl := h0; exact (HH.out ▸ qmul_any _ x _ (mkRat 100 1) _ (kX.drew.below hb) h1 (lx.mono (by decide)) (l100.mono (by decide))).mono fun e w3 h => RetPF.pd h)) ?_
                refine And.intro (ob_call1 rfl Tryz.func14 (by kernel_rfl) (wt_none rfl) (ev_dep (j := 2) (by kernel_rfl) rfl rfl) (fun w2 u0 hb h0 => by exact (rdec_yes _ (x * 100) k Y _ h0 (lh.mono (by decide)) GD.out GM.out G2.out GX.out).mono fun e w3 h => RetSB.pd h)) ?_
                refine And.intro (ob_move rfl (wt_none rfl) (ev_dep (j := 3) (by kernel_rfl) rfl rfl) (fun _ _ h => h)) ?_
                refine And.intro (ob_extract rfl (wt_none rfl) (ev_dep (j := 4) (by kernel_rfl) rfl rfl) (fun w2 u hu => by obtain rfl := hu; exact ⟨_, rfl, rfl⟩)) ?_
                refine And.intro (ob_extract rfl (wt_none rfl) (ev_dep (j := 4) (by kernel_rfl) rfl rfl) (fun w2 u hu => by obtain rfl := hu; exact ⟨_, rfl, rfl⟩)) ?_
                refine And.intro (ob_assign rfl (wt_none rfl) (ev_dep (j := 5) (by kernel_rfl) rfl rfl) (fun _ _ h => h)) ?_
                refine And.intro (ob_assign rfl (wt_none rfl) (ev_dep (j := 6) (by kernel_rfl) rfl rfl) (fun _ _ h => h)) ?_
                trivial
              case done30 =>
                refine fun w8 hb8 v0 h0 v1 h1 v2 h2 v3 h3 v4 h4 v5 h5 v6 h6 v7 h7 v8 h8 b hbf => ?_
                obtain rfl := h0; obtain rfl := h3; obtain rfl := h4; obtain rfl := h5; obtain rfl := h6; obtain rfl := h7; obtain rfl := h8
                have q1 := h1
                have q2 := h2
                simp only [Act.put, List.setIfInBounds_toArray, List.set_cons_zero, List.set_cons_succ] at hbf
                subst hbf
                replace Bx := Bx.below hb8
                replace kxs := kxs.below hb8
                replace kxd := kxd.below hb8
                replace kxz := kxz.below hb8
                replace kx := kx.below hb8
                replace BX := BX.below hb8
                replace kXs := kXs.below hb8
                replace kXd := kXd.below hb8
                replace kXz := kXz.below hb8
                replace kX := kX.below hb8
                replace bb := bb.trans (hb8.mono bb.size)
                have hsz8 := bb.size
                refine any_done (by kernel_rfl) ?_
                have lY : (decT (ngB (x * 100).num) Y k).length ≤ 2000 := decT_len lh G2.out GX.out
                go_upto_region 8 with (fail)
                refine flowp 2 [Pd.eq (.string (ByteArray.mk (List.toArray (decT (ngB (x * 100).num) Y k : List UInt8)))), Pd.eq (.string (ByteArray.mk (List.toArray ((decT (ngB (x * 100).num) Y k) ++ ([37]) : List UInt8))))] (by kernel_rfl) ?ob31 ?done31
                case ob31 =>
                  refine And.intro (ob_move rfl (wt_none rfl) (ev_far rfl rfl) (fun _ _ h => h)) ?_
                  refine And.intro (ob_bin rfl (wt_none rfl) (ev_dep (j := 0) (by kernel_rfl) rfl rfl) (ev_const _) (fun _ _ _ hx hy => ⟨.string (ByteArray.mk (List.toArray ((decT (ngB (x * 100).num) Y k) ++ ([37]) : List UInt8))), by rw [hx, hy]; exact bin_add_str _ _ (decT (ngB (x * 100).num) Y k) ([37]) (by first | omega | (simp; omega)) _, rfl⟩)) ?_
                  trivial
                case done31 =>
                  refine fun w9 hb9 v0 h0 v1 h1 b hbf => ?_
                  obtain rfl := h0; obtain rfl := h1
                  simp only [Act.put, List.setIfInBounds_toArray, List.set_cons_zero, List.set_cons_succ] at hbf
                  subst hbf
                  replace Bx := Bx.below hb9
                  replace kxs := kxs.below hb9
                  replace kxd := kxd.below hb9
                  replace kxz := kxz.below hb9
                  replace kx := kx.below hb9
                  replace BX := BX.below hb9
                  replace kXs := kXs.below hb9
                  replace kXd := kXd.below hb9
                  replace kXz := kXz.below hb9
                  replace kX := kX.below hb9
                  replace bb := bb.trans (hb9.mono bb.size)
                  have hsz9 := bb.size
                  refine ops_assign (i := 2) (.string (ByteArray.mk (List.toArray ((decT (ngB (x * 100).num) Y k) ++ ([37]) : List UInt8)))) rfl rfl rfl rfl rfl fun b hbf => ?_
                  simp only [Act.put, List.setIfInBounds_toArray, List.set_cons_zero, List.set_cons_succ] at hbf
                  subst hbf
                  refine ops_done ?_
                  go_upto_region 9 with (fail)
                  refine flow 38 [Pd.eq (.agg #[.bool (ngB (x).num), .slice Ax (digs 4294967296 (x).num.natAbs).length cx, .slice Dx (digs 4294967296 (x).den).length ex]), Pd.eq (.string (ByteArray.mk (List.toArray (txtr (x) : List UInt8)))), Pd.eq (.agg #[.bool (ngB (x).num), .slice AX (digs 10000 (x).num.natAbs).length cX, .slice DX (digs 10000 (x).den).length eX]), Pd.eq (.string (ByteArray.mk (List.toArray (txtr (x) : List UInt8)))), Pd.eq (.bool true), Pd.eq (.bool true), Pd.eq (.string (ByteArray.mk (List.toArray ([] : List UInt8)))), Pd.eq (.string (ByteArray.mk (List.toArray ([] : List UInt8)))), Pd.eq (.bool true), Pd.eq (.bool true), Pd.eq (.bool true), Pd.eq (.bool false), Pd.eq (.bool false), Pd.eq (.bool true), Pd.eq (.bool true), Pd.eq (.bool true), Pd.eq (.string (ByteArray.mk (List.toArray ((decT (ngB (x * 100).num) Y k) ++ ([37]) : List UInt8)))), Pd.eq (.string (ByteArray.mk (List.toArray ((decT (ngB (x * 100).num) Y k) ++ ([37]) : List UInt8)))), Pd.eq (.bool true), Pd.eq (.bool true), Pd.eq (.bool true), Pd.eq (.bool true), Pd.eq (.bool true), Pd.eq (.bool true), Pd.eq (.bool true), Pd.eq (.bool true), Pd.eq (.agg #[.bool (ngB (x).num), .slice Ax (digs 4294967296 (x).num.natAbs).length cx, .slice Dx (digs 4294967296 (x).den).length ex]), Pd.eq (.int .i64 (((txt 10 (x).den).length : Nat) : Int)), Pd.eq (.pointer (some ⟨g15_2, 2, none⟩)), Pd.eq (.slice DX (digs 10000 (x).den).length eX), Pd.eq (.string (ByteArray.mk (List.toArray (txt 10 (x).den : List UInt8)))), Pd.eq (.int .i64 (((txt 10 (x).den).length : Nat) : Int)), Pd.eq (.bool true), Pd.eq (.bool true), Pd.eq (.bool true), Pd.eq (.bool true), Pd.eq (.bool true), Pd.eq (.bool true)] (by kernel_rfl) (by kernel_rfl) ?ob32 ?done32
                  case ob32 =>
                    refine And.intro (ob_load rfl (wt_none rfl) (ev_far rfl rfl) (fun w2 hb => run_loadAll Tryz.underlying27 rfl (by kernel_rfl) (Bx.drew.below hb)) (fun _ _ => rfl)) ?_
                    refine And.intro (ob_call1 rfl Tryz.func18 (by kernel_rfl) (wt_none rfl) (ev_dep (j := 0) (by kernel_rfl) rfl rfl) (fun w2 u0 hb h0 => by obtain rfl := h0; exact (fprint9_any _ x _ (kx.drew.below hb) (lx.mono (by decide))).mono fun e w3 h => RetStrB.pd h)) ?_
                    refine And.intro (ob_load rfl (wt_none rfl) (ev_far rfl rfl) (fun w2 hb => run_loadAll Tryz.underlying36 rfl (by kernel_rfl) (BX.drew.below hb)) (fun _ _ => rfl)) ?_
                    refine And.intro (ob_call1 rfl Tryz.func19 (by kernel_rfl) (wt_none rfl) (ev_dep (j := 2) (by kernel_rfl) rfl rfl) (fun w2 u0 hb h0 => by obtain rfl := h0; exact (rprint9_any _ x _ (kX.drew.below hb) (lx.mono (by decide))).mono fun e w3 h => RetStrB.pd h)) ?_
                    refine And.intro (ob_bin rfl (wt_none rfl) (ev_dep (j := 1) (by kernel_rfl) rfl rfl) (ev_dep (j := 3) (by kernel_rfl) rfl rfl) (fun _ _ _ hx hy => ⟨.bool ((ByteArray.mk (List.toArray (txtr (x) : List UInt8))).toList == (ByteArray.mk (List.toArray (txtr (x) : List UInt8))).toList), by rw [hx, hy]; exact bin_eql_str _ _ _ _ _, congrArg Value.bool (beq_self_eq_true _)⟩)) ?_
                    refine And.intro (ob_move rfl (wt_none rfl) (ev_dep (j := 4) (by kernel_rfl) rfl rfl) (fun _ _ h => h)) ?_
                    refine And.intro (ob_move rfl (wt_dep (c := true) (b := true) (g := 5) rfl (by kernel_rfl) rfl rfl rfl (by exact fun _ _ h => h)) (ev_far rfl rfl) (fun _ _ h => h)) ?_
                    refine And.intro (ob_move rfl (wt_dep (c := true) (b := true) (g := 5) rfl (by kernel_rfl) rfl rfl rfl (by exact fun _ _ h => h)) (ev_far rfl rfl) (fun _ _ h => h)) ?_
                    refine And.intro (ob_bin rfl (wt_dep (c := true) (b := true) (g := 5) rfl (by kernel_rfl) rfl rfl rfl (by exact fun _ _ h => h)) (ev_dep (j := 6) (by kernel_rfl) rfl rfl) (ev_dep (j := 7) (by kernel_rfl) rfl rfl) (fun _ _ _ hx hy => ⟨.bool ((ByteArray.mk (List.toArray ([] : List UInt8))).toList == (ByteArray.mk (List.toArray ([] : List UInt8))).toList), by rw [hx, hy]; exact bin_eql_str _ _ _ _ _, congrArg Value.bool (beq_self_eq_true _)⟩)) ?_
                    refine And.intro (ob_pick (b := true) rfl (wt_none rfl) (ev_dep (j := 5) (by kernel_rfl) rfl rfl) (ev_dep (j := 8) (by kernel_rfl) rfl rfl) (fun _ _ h => h)) ?_
                    refine And.intro (ob_move rfl (wt_none rfl) (ev_dep (j := 9) (by kernel_rfl) rfl rfl) (fun _ _ h => h)) ?_
                    refine And.intro (ob_move rfl (wt_dep (c := true) (b := true) (g := 10) rfl (by kernel_rfl) rfl rfl rfl (by exact fun _ _ h => h)) (ev_far rfl rfl) (fun _ _ h => h)) ?_
                    refine And.intro (ob_move rfl (wt_dep (c := true) (b := true) (g := 10) rfl (by kernel_rfl) rfl rfl rfl (by exact fun _ _ h => h)) (ev_far rfl rfl) (fun _ _ h => h)) ?_
                    refine And.intro (ob_bin rfl (wt_dep (c := true) (b := true) (g := 10) rfl (by kernel_rfl) rfl rfl rfl (by exact fun _ _ h => h)) (ev_dep (j := 11) (by kernel_rfl) rfl rfl) (ev_dep (j := 12) (by kernel_rfl) rfl rfl) (fun _ _ _ hx hy => ⟨.bool (false == false), by rw [hx, hy]; exact bin_eql_bool _ _ _ _ Tryz.underlying4 _, rfl⟩)) ?_
                    refine And.intro (ob_pick (b := true) rfl (wt_none rfl) (ev_dep (j := 10) (by kernel_rfl) rfl rfl) (ev_dep (j := 13) (by kernel_rfl) rfl rfl) (fun _ _ h => h)) ?_
                    refine And.intro (ob_move rfl (wt_none rfl) (ev_dep (j := 14) (by kernel_rfl) rfl rfl) (fun _ _ h => h)) ?_
                    refine And.intro (ob_move rfl (wt_dep (c := true) (b := true) (g := 15) rfl (by kernel_rfl) rfl rfl rfl (by exact fun _ _ h => h)) (ev_far rfl rfl) (fun _ _ h => h)) ?_
                    refine And.intro (ob_move rfl (wt_dep (c := true) (b := true) (g := 15) rfl (by kernel_rfl) rfl rfl rfl (by exact fun _ _ h => h)) (ev_far rfl rfl) (fun _ _ h => h)) ?_
                    refine And.intro (ob_bin rfl (wt_dep (c := true) (b := true) (g := 15) rfl (by kernel_rfl) rfl rfl rfl (by exact fun _ _ h => h)) (ev_dep (j := 16) (by kernel_rfl) rfl rfl) (ev_dep (j := 17) (by kernel_rfl) rfl rfl) (fun _ _ _ hx hy => ⟨.bool ((ByteArray.mk (List.toArray ((decT (ngB (x * 100).num) Y k) ++ ([37]) : List UInt8))).toList == (ByteArray.mk (List.toArray ((decT (ngB (x * 100).num) Y k) ++ ([37]) : List UInt8))).toList), by rw [hx, hy]; exact bin_eql_str _ _ _ _ _, congrArg Value.bool (beq_self_eq_true _)⟩)) ?_
                    refine And.intro (ob_pick (b := true) rfl (wt_none rfl) (ev_dep (j := 15) (by kernel_rfl) rfl rfl) (ev_dep (j := 18) (by kernel_rfl) rfl rfl) (fun _ _ h => h)) ?_
                    refine And.intro (ob_move rfl (wt_none rfl) (ev_dep (j := 19) (by kernel_rfl) rfl rfl) (fun _ _ h => h)) ?_
                    refine And.intro (ob_move rfl (wt_dep (c := true) (b := true) (g := 20) rfl (by kernel_rfl) rfl rfl rfl (by exact fun _ _ h => h)) (ev_far rfl rfl) (fun _ _ h => h)) ?_
                    refine And.intro (ob_move rfl (wt_dep (c := true) (b := true) (g := 20) rfl (by kernel_rfl) rfl rfl rfl (by exact fun _ _ h => h)) (ev_far rfl rfl) (fun _ _ h => h)) ?_
                    refine And.intro (ob_bin rfl (wt_dep (c := true) (b := true) (g := 20) rfl (by kernel_rfl) rfl rfl rfl (by exact fun _ _ h => h)) (ev_dep (j := 21) (by kernel_rfl) rfl rfl) (ev_dep (j := 22) (by kernel_rfl) rfl rfl) (fun _ _ _ hx hy => ⟨.bool (true == true), by rw [hx, hy]; exact bin_eql_bool _ _ _ _ Tryz.underlying4 _, rfl⟩)) ?_
                    refine And.intro (ob_pick (b := true) rfl (wt_none rfl) (ev_dep (j := 20) (by kernel_rfl) rfl rfl) (ev_dep (j := 23) (by kernel_rfl) rfl rfl) (fun _ _ h => h)) ?_
                    refine And.intro (ob_move rfl (wt_none rfl) (ev_dep (j := 24) (by kernel_rfl) rfl rfl) (fun _ _ h => h)) ?_
                    refine And.intro (ob_load rfl (wt_dep (c := true) (b := true) (g := 25) rfl (by kernel_rfl) rfl rfl rfl (by exact fun _ _ h => h)) (ev_far rfl rfl) (fun w2 hb => run_loadAll Tryz.underlying27 rfl (by kernel_rfl) (Bx.drew.below hb)) (fun _ _ => rfl)) ?_
                    refine And.intro (ob_call1 rfl Tryz.func20 (by kernel_rfl) (wt_dep (c := true) (b := true) (g := 25) rfl (by kernel_rfl) rfl rfl rfl (by exact fun _ _ h => h)) (ev_dep (j := 26) (by kernel_rfl) rfl rfl) (fun w2 u0 hb h0 => by obtain rfl := h0; exact (fdigits9_any _ x _ (kx.drew.below hb) (lx.mono (by decide))).mono fun e w3 h => RetV.pd h)) ?_
                    refine And.intro (ob_fieldAddr rfl (wt_dep (c := true) (b := true) (g := 25) rfl (by kernel_rfl) rfl rfl rfl (by exact fun _ _ h => h)) (ev_far rfl rfl) (fun _ => by kernel_rfl) (fun _ => rfl)) ?_
                    refine And.intro (ob_load rfl (wt_dep (c := true) (b := true) (g := 25) rfl (by kernel_rfl) rfl rfl rfl (by exact fun _ _ h => h)) (ev_dep (j := 28) (by kernel_rfl) rfl rfl) (fun w2 hb => run_load1 Tryz.underlying32 rfl ((BX.drew.below hb).cell 2)) (fun _ _ => rfl)) ?_
                    refine And.intro (ob_call1 rfl Tryz.func21 (by kernel_rfl) (wt_dep (c := true) (b := true) (g := 25) rfl (by kernel_rfl) rfl rfl rfl (by exact fun _ _ h => h)) (ev_dep (j := 29) (by kernel_rfl) rfl rfl) (fun w2 u0 hb h0 => by obtain rfl := h0; exact (rtext_any _ x.den _ (kXd.drew.below hb) (Nat.le_trans (dec_le _) (by have := lx.2; omega))).mono fun e w3 h => RetStrB.pd h)) ?_
                    refine And.intro (ob_len rfl (wt_dep (c := true) (b := true) (g := 25) rfl (by kernel_rfl) rfl rfl rfl (by exact fun _ _ h => h)) (ev_dep (j := 30) (by kernel_rfl) rfl rfl) (fun _ _ hx => ⟨_, by rw [hx]; exact len_txt Tryz.underlying9 _ _, rfl⟩)) ?_
                    refine And.intro (ob_bin rfl (wt_dep (c := true) (b := true) (g := 25) rfl (by kernel_rfl) rfl rfl rfl (by exact fun _ _ h => h)) (ev_dep (j := 27) (by kernel_rfl) rfl rfl) (ev_dep (j := 31) (by kernel_rfl) rfl rfl) (fun _ _ _ hx hy => ⟨.bool ((((txt 10 (x).den).length : Nat) : Int) == (((txt 10 (x).den).length : Nat) : Int)), by rw [hx, hy]; exact bin_eql_int _ _ _ _ _, congrArg Value.bool (beq_self_eq_true _)⟩)) ?_
                    refine And.intro (ob_pick (b := true) rfl (wt_none rfl) (ev_dep (j := 25) (by kernel_rfl) rfl rfl) (ev_dep (j := 32) (by kernel_rfl) rfl rfl) (fun _ _ h => h)) ?_
                    refine And.intro (ob_move rfl (wt_none rfl) (ev_dep (j := 33) (by kernel_rfl) rfl rfl) (fun _ _ h => h)) ?_
                    refine And.intro (ob_call0 rfl Tryz.func8 (by kernel_rfl) (wt_dep (c := true) (b := true) (g := 34) rfl (by kernel_rfl) rfl rfl rfl (by exact fun _ _ h => h)) (fun w2 hb => (works9_any _).mono fun e w3 h => RetV.pd h)) ?_
                    refine And.intro (ob_pick (b := true) rfl (wt_none rfl) (ev_dep (j := 34) (by kernel_rfl) rfl rfl) (ev_dep (j := 35) (by kernel_rfl) rfl rfl) (fun _ _ h => h)) ?_
                    refine And.intro (ob_assign rfl (wt_none rfl) (ev_dep (j := 36) (by kernel_rfl) rfl rfl) (fun _ _ h => h)) ?_
                    trivial
                  case done32 =>
                    refine fun w10 hb10 v0 h0 v1 h1 v2 h2 v3 h3 v4 h4 v5 h5 v6 h6 v7 h7 v8 h8 v9 h9 v10 h10 v11 h11 v12 h12 v13 h13 v14 h14 v15 h15 v16 h16 v17 h17 v18 h18 v19 h19 v20 h20 v21 h21 v22 h22 v23 h23 v24 h24 v25 h25 v26 h26 v27 h27 v28 h28 v29 h29 v30 h30 v31 h31 v32 h32 v33 h33 v34 h34 v35 h35 v36 h36 v37 h37 b hbf => ?_
                    obtain rfl := h0; obtain rfl := h1; obtain rfl := h2; obtain rfl := h3; obtain rfl := h4; obtain rfl := h5; obtain rfl := h6; obtain rfl := h7; obtain rfl := h8; obtain rfl := h9; obtain rfl := h10; obtain rfl := h11; obtain rfl := h12; obtain rfl := h13; obtain rfl := h14; obtain rfl := h15; obtain rfl := h16; obtain rfl := h17; obtain rfl := h18; obtain rfl := h19; obtain rfl := h20; obtain rfl := h21; obtain rfl := h22; obtain rfl := h23; obtain rfl := h24; obtain rfl := h25; obtain rfl := h26; obtain rfl := h27; obtain rfl := h28; obtain rfl := h29; obtain rfl := h30; obtain rfl := h31; obtain rfl := h32; obtain rfl := h33; obtain rfl := h34; obtain rfl := h35; obtain rfl := h36; obtain rfl := h37
                    simp only [Act.put, List.setIfInBounds_toArray, List.set_cons_zero, List.set_cons_succ] at hbf
                    subst hbf
                    replace Bx := Bx.below hb10
                    replace kxs := kxs.below hb10
                    replace kxd := kxd.below hb10
                    replace kxz := kxz.below hb10
                    replace kx := kx.below hb10
                    replace BX := BX.below hb10
                    replace kXs := kXs.below hb10
                    replace kXd := kXd.below hb10
                    replace kXz := kXz.below hb10
                    replace kX := kX.below hb10
                    replace bb := bb.trans (hb10.mono bb.size)
                    have hsz10 := bb.size
                    refine any_done (by kernel_rfl) ?_
                    go_wp2
                    go_ret
                    exact ⟨rfl, bb⟩
      · have HM := Lib.hid hm
        clear hm
        have GM := Lib.hid gm
        clear gm
        go_upto_region 3 with (fail)
        refine flowp 7 [Pd.eq (.agg #[.bool (ngB (x).num), .slice Ax (digs 4294967296 (x).num.natAbs).length cx, .slice Dx (digs 4294967296 (x).den).length ex]), Pd.eq (.tuple #[.string (ByteArray.mk (List.toArray ([] : List UInt8))), .bool false]), Pd.eq (.tuple #[.string (ByteArray.mk (List.toArray ([] : List UInt8))), .bool false]), Pd.eq (.string (ByteArray.mk (List.toArray ([] : List UInt8)))), Pd.eq (.bool false), Pd.eq (.string (ByteArray.mk (List.toArray ([] : List UInt8)))), Pd.eq (.bool false)] (by kernel_rfl) ?ob33 ?done33
        case ob33 =>
          refine And.intro (ob_load rfl (wt_none rfl) (ev_far rfl rfl) (fun w2 hb => run_loadAll Tryz.underlying27 rfl (by kernel_rfl) (Bx.below hb)) (fun _ _ => rfl)) ?_
          refine And.intro (ob_call1 rfl Tryz.func13 (by kernel_rfl) (wt_none rfl) (ev_dep (j := 0) (by kernel_rfl) rfl rfl) (fun w2 u0 hb h0 => by obtain rfl := h0; exact (fdec9_no _ x _ (kx.below hb) (lx.mono (by decide)) HM.out).mono fun e w3 h => RetSB.pd h)) ?_
          refine And.intro (ob_move rfl (wt_none rfl) (ev_dep (j := 1) (by kernel_rfl) rfl rfl) (fun _ _ h => h)) ?_
          refine And.intro (ob_extract rfl (wt_none rfl) (ev_dep (j := 2) (by kernel_rfl) rfl rfl) (fun w2 u hu => by obtain rfl := hu; exact ⟨_, rfl, rfl⟩)) ?_
          refine And.intro (ob_extract rfl (wt_none rfl) (ev_dep (j := 2) (by kernel_rfl) rfl rfl) (fun w2 u hu => by obtain rfl := hu; exact ⟨_, rfl, rfl⟩)) ?_
          refine And.intro (ob_assign rfl (wt_none rfl) (ev_dep (j := 3) (by kernel_rfl) rfl rfl) (fun _ _ h => h)) ?_
          refine And.intro (ob_assign rfl (wt_none rfl) (ev_dep (j := 4) (by kernel_rfl) rfl rfl) (fun _ _ h => h)) ?_
          trivial
        case done33 =>
          refine fun w5 hb5 v0 h0 v1 h1 v2 h2 v3 h3 v4 h4 v5 h5 v6 h6 b hbf => ?_
          obtain rfl := h0; obtain rfl := h1; obtain rfl := h2; obtain rfl := h3; obtain rfl := h4; obtain rfl := h5; obtain rfl := h6
          simp only [Act.put, List.setIfInBounds_toArray, List.set_cons_zero, List.set_cons_succ] at hbf
          subst hbf
          replace Bx := Bx.below hb5
          replace kxs := kxs.below hb5
          replace kxd := kxd.below hb5
          replace kxz := kxz.below hb5
          replace kx := kx.below hb5
          replace BX := BX.below hb5
          replace kXs := kXs.below hb5
          replace kXd := kXd.below hb5
          replace kXz := kXz.below hb5
          replace kX := kX.below hb5
          replace bb := bb.trans (hb5.mono bb.size)
          have hsz5 := bb.size
          refine ops_done ?_
          go_upto_region 4 with (fail)
          refine flowp 7 [Pd.eq (.agg #[.bool (ngB (x).num), .slice AX (digs 10000 (x).num.natAbs).length cX, .slice DX (digs 10000 (x).den).length eX]), Pd.eq (.tuple #[.string (ByteArray.mk (List.toArray ([] : List UInt8))), .bool false]), Pd.eq (.tuple #[.string (ByteArray.mk (List.toArray ([] : List UInt8))), .bool false]), Pd.eq (.string (ByteArray.mk (List.toArray ([] : List UInt8)))), Pd.eq (.bool false), Pd.eq (.string (ByteArray.mk (List.toArray ([] : List UInt8)))), Pd.eq (.bool false)] (by kernel_rfl) ?ob34 ?done34
          case ob34 =>
            refine And.intro (ob_load rfl (wt_none rfl) (ev_far rfl rfl) (fun w2 hb => run_loadAll Tryz.underlying36 rfl (by kernel_rfl) (BX.below hb)) (fun _ _ => rfl)) ?_
            refine And.intro (ob_call1 rfl Tryz.func14 (by kernel_rfl) (wt_none rfl) (ev_dep (j := 0) (by kernel_rfl) rfl rfl) (fun w2 u0 hb h0 => by obtain rfl := h0; exact (rdec_no _ x _ (kX.below hb) (lx.mono (by decide)) HM.out).mono fun e w3 h => RetSB.pd h)) ?_
            refine And.intro (ob_move rfl (wt_none rfl) (ev_dep (j := 1) (by kernel_rfl) rfl rfl) (fun _ _ h => h)) ?_
            refine And.intro (ob_extract rfl (wt_none rfl) (ev_dep (j := 2) (by kernel_rfl) rfl rfl) (fun w2 u hu => by obtain rfl := hu; exact ⟨_, rfl, rfl⟩)) ?_
            refine And.intro (ob_extract rfl (wt_none rfl) (ev_dep (j := 2) (by kernel_rfl) rfl rfl) (fun w2 u hu => by obtain rfl := hu; exact ⟨_, rfl, rfl⟩)) ?_
            refine And.intro (ob_assign rfl (wt_none rfl) (ev_dep (j := 3) (by kernel_rfl) rfl rfl) (fun _ _ h => h)) ?_
            refine And.intro (ob_assign rfl (wt_none rfl) (ev_dep (j := 4) (by kernel_rfl) rfl rfl) (fun _ _ h => h)) ?_
            trivial
          case done34 =>
            refine fun w6 hb6 v0 h0 v1 h1 v2 h2 v3 h3 v4 h4 v5 h5 v6 h6 b hbf => ?_
            obtain rfl := h0; obtain rfl := h1; obtain rfl := h2; obtain rfl := h3; obtain rfl := h4; obtain rfl := h5; obtain rfl := h6
            simp only [Act.put, List.setIfInBounds_toArray, List.set_cons_zero, List.set_cons_succ] at hbf
            subst hbf
            replace Bx := Bx.below hb6
            replace kxs := kxs.below hb6
            replace kxd := kxd.below hb6
            replace kxz := kxz.below hb6
            replace kx := kx.below hb6
            replace BX := BX.below hb6
            replace kXs := kXs.below hb6
            replace kXd := kXd.below hb6
            replace kXz := kXz.below hb6
            replace kX := kX.below hb6
            replace bb := bb.trans (hb6.mono bb.size)
            have hsz6 := bb.size
            refine ops_done ?_
            go_upto_region 5 with (fail)
            refine flowp 7 [Pd.eq (.agg #[.bool (ngB (x).num), .slice Ax (digs 4294967296 (x).num.natAbs).length cx, .slice Dx (digs 4294967296 (x).den).length ex]), Pd.eq (.tuple #[.string (ByteArray.mk (List.toArray ([] : List UInt8))), .bool false]), Pd.eq (.tuple #[.string (ByteArray.mk (List.toArray ([] : List UInt8))), .bool false]), Pd.eq (.string (ByteArray.mk (List.toArray ([] : List UInt8)))), Pd.eq (.bool false), Pd.eq (.string (ByteArray.mk (List.toArray ([] : List UInt8)))), Pd.eq (.bool false)] (by kernel_rfl) ?ob35 ?done35
            case ob35 =>
              refine And.intro (ob_load rfl (wt_none rfl) (ev_far rfl rfl) (fun w2 hb => run_loadAll Tryz.underlying27 rfl (by kernel_rfl) (Bx.below hb)) (fun _ _ => rfl)) ?_
              refine And.intro (ob_call1 rfl Tryz.func15 (by kernel_rfl) (wt_none rfl) (ev_dep (j := 0) (by kernel_rfl) rfl rfl) (fun w2 u0 hb h0 => by obtain rfl := h0; exact (fpct9_no _ x _ (kx.below hb) (lx.mono (by decide)) GM.out).mono fun e w3 h => RetSB.pd h)) ?_
              refine And.intro (ob_move rfl (wt_none rfl) (ev_dep (j := 1) (by kernel_rfl) rfl rfl) (fun _ _ h => h)) ?_
              refine And.intro (ob_extract rfl (wt_none rfl) (ev_dep (j := 2) (by kernel_rfl) rfl rfl) (fun w2 u hu => by obtain rfl := hu; exact ⟨_, rfl, rfl⟩)) ?_
              refine And.intro (ob_extract rfl (wt_none rfl) (ev_dep (j := 2) (by kernel_rfl) rfl rfl) (fun w2 u hu => by obtain rfl := hu; exact ⟨_, rfl, rfl⟩)) ?_
              refine And.intro (ob_assign rfl (wt_none rfl) (ev_dep (j := 3) (by kernel_rfl) rfl rfl) (fun _ _ h => h)) ?_
              refine And.intro (ob_assign rfl (wt_none rfl) (ev_dep (j := 4) (by kernel_rfl) rfl rfl) (fun _ _ h => h)) ?_
              trivial
            case done35 =>
              refine fun w7 hb7 v0 h0 v1 h1 v2 h2 v3 h3 v4 h4 v5 h5 v6 h6 b hbf => ?_
              obtain rfl := h0; obtain rfl := h1; obtain rfl := h2; obtain rfl := h3; obtain rfl := h4; obtain rfl := h5; obtain rfl := h6
              simp only [Act.put, List.setIfInBounds_toArray, List.set_cons_zero, List.set_cons_succ] at hbf
              subst hbf
              replace Bx := Bx.below hb7
              replace kxs := kxs.below hb7
              replace kxd := kxd.below hb7
              replace kxz := kxz.below hb7
              replace kx := kx.below hb7
              replace BX := BX.below hb7
              replace kXs := kXs.below hb7
              replace kXd := kXd.below hb7
              replace kXz := kXz.below hb7
              replace kX := kX.below hb7
              replace bb := bb.trans (hb7.mono bb.size)
              have hsz7 := bb.size
              refine ops_done ?_
              go_upto_region 6 with (fail)
              refine flow 9 [Pd.eq (.agg #[.bool (ngB (x).num), .slice AX (digs 10000 (x).num.natAbs).length cX, .slice DX (digs 10000 (x).den).length eX]), pp (mkRat 100 1), pp (x * 100), Pd.eq (.tuple #[.string (ByteArray.mk (List.toArray ([] : List UInt8))), .bool false]), Pd.eq (.tuple #[.string (ByteArray.mk (List.toArray ([] : List UInt8))), .bool false]), Pd.eq (.string (ByteArray.mk (List.toArray ([] : List UInt8)))), Pd.eq (.bool false), Pd.eq (.string (ByteArray.mk (List.toArray ([] : List UInt8)))), Pd.eq (.bool false)] (by kernel_rfl) (by kernel_rfl) ?ob36 ?done36
              case ob36 =>
                refine And.intro (ob_load rfl (wt_none rfl) (ev_far rfl rfl) (fun w2 hb => run_loadAll Tryz.underlying36 rfl (by kernel_rfl) (BX.drew.below hb)) (fun _ _ => rfl)) ?_
                refine And.intro (ob_call2 rfl Tryz.func17 (by kernel_rfl) (wt_none rfl) (ev_const _) (ev_const _) (fun w2 u0 u1 hb h0 h1 => by obtain rfl := h0; obtain rfl := h1; exact (qnum_any 100 1 _ 1 rfl (by omega) (by omega) (by omega) (by omega)).mono fun e w3 h => RetPF.pd h)) ?_
                refine And.intro (ob_call2 rfl Tryz.func16 (by kernel_rfl) (wt_none rfl) (ev_dep (j := 0) (by kernel_rfl) rfl rfl) (ev_dep (j := 1) (by kernel_rfl) rfl rfl) (fun w2 u0 u1 hb h0 h1 => by obtain rfl := h0; exact (HH.out ▸ qmul_any _ x _ (mkRat 100 1) _ (kX.drew.below hb) h1 (lx.mono (by decide)) (l100.mono (by decide))).mono fun e w3 h => RetPF.pd h)) ?_
                refine And.intro (ob_call1 rfl Tryz.func14 (by kernel_rfl) (wt_none rfl) (ev_dep (j := 2) (by kernel_rfl) rfl rfl) (fun w2 u0 hb h0 => by exact (rdec_no _ (x * 100) _ h0 (lh.mono (by decide)) GM.out).mono fun e w3 h => RetSB.pd h)) ?_
                refine And.intro (ob_move rfl (wt_none rfl) (ev_dep (j := 3) (by kernel_rfl) rfl rfl) (fun _ _ h => h)) ?_
                refine And.intro (ob_extract rfl (wt_none rfl) (ev_dep (j := 4) (by kernel_rfl) rfl rfl) (fun w2 u hu => by obtain rfl := hu; exact ⟨_, rfl, rfl⟩)) ?_
                refine And.intro (ob_extract rfl (wt_none rfl) (ev_dep (j := 4) (by kernel_rfl) rfl rfl) (fun w2 u hu => by obtain rfl := hu; exact ⟨_, rfl, rfl⟩)) ?_
                refine And.intro (ob_assign rfl (wt_none rfl) (ev_dep (j := 5) (by kernel_rfl) rfl rfl) (fun _ _ h => h)) ?_
                refine And.intro (ob_assign rfl (wt_none rfl) (ev_dep (j := 6) (by kernel_rfl) rfl rfl) (fun _ _ h => h)) ?_
                trivial
              case done36 =>
                refine fun w8 hb8 v0 h0 v1 h1 v2 h2 v3 h3 v4 h4 v5 h5 v6 h6 v7 h7 v8 h8 b hbf => ?_
                obtain rfl := h0; obtain rfl := h3; obtain rfl := h4; obtain rfl := h5; obtain rfl := h6; obtain rfl := h7; obtain rfl := h8
                have q1 := h1
                have q2 := h2
                simp only [Act.put, List.setIfInBounds_toArray, List.set_cons_zero, List.set_cons_succ] at hbf
                subst hbf
                replace Bx := Bx.below hb8
                replace kxs := kxs.below hb8
                replace kxd := kxd.below hb8
                replace kxz := kxz.below hb8
                replace kx := kx.below hb8
                replace BX := BX.below hb8
                replace kXs := kXs.below hb8
                replace kXd := kXd.below hb8
                replace kXz := kXz.below hb8
                replace kX := kX.below hb8
                replace bb := bb.trans (hb8.mono bb.size)
                have hsz8 := bb.size
                refine any_done (by kernel_rfl) ?_
                go_upto_region 9 with (fail)
                refine flow 38 [Pd.eq (.agg #[.bool (ngB (x).num), .slice Ax (digs 4294967296 (x).num.natAbs).length cx, .slice Dx (digs 4294967296 (x).den).length ex]), Pd.eq (.string (ByteArray.mk (List.toArray (txtr (x) : List UInt8)))), Pd.eq (.agg #[.bool (ngB (x).num), .slice AX (digs 10000 (x).num.natAbs).length cX, .slice DX (digs 10000 (x).den).length eX]), Pd.eq (.string (ByteArray.mk (List.toArray (txtr (x) : List UInt8)))), Pd.eq (.bool true), Pd.eq (.bool true), Pd.eq (.string (ByteArray.mk (List.toArray ([] : List UInt8)))), Pd.eq (.string (ByteArray.mk (List.toArray ([] : List UInt8)))), Pd.eq (.bool true), Pd.eq (.bool true), Pd.eq (.bool true), Pd.eq (.bool false), Pd.eq (.bool false), Pd.eq (.bool true), Pd.eq (.bool true), Pd.eq (.bool true), Pd.eq (.string (ByteArray.mk (List.toArray ([] : List UInt8)))), Pd.eq (.string (ByteArray.mk (List.toArray ([] : List UInt8)))), Pd.eq (.bool true), Pd.eq (.bool true), Pd.eq (.bool true), Pd.eq (.bool false), Pd.eq (.bool false), Pd.eq (.bool true), Pd.eq (.bool true), Pd.eq (.bool true), Pd.eq (.agg #[.bool (ngB (x).num), .slice Ax (digs 4294967296 (x).num.natAbs).length cx, .slice Dx (digs 4294967296 (x).den).length ex]), Pd.eq (.int .i64 (((txt 10 (x).den).length : Nat) : Int)), Pd.eq (.pointer (some ⟨g15_2, 2, none⟩)), Pd.eq (.slice DX (digs 10000 (x).den).length eX), Pd.eq (.string (ByteArray.mk (List.toArray (txt 10 (x).den : List UInt8)))), Pd.eq (.int .i64 (((txt 10 (x).den).length : Nat) : Int)), Pd.eq (.bool true), Pd.eq (.bool true), Pd.eq (.bool true), Pd.eq (.bool true), Pd.eq (.bool true), Pd.eq (.bool true)] (by kernel_rfl) (by kernel_rfl) ?ob37 ?done37
                case ob37 =>
                  refine And.intro (ob_load rfl (wt_none rfl) (ev_far rfl rfl) (fun w2 hb => run_loadAll Tryz.underlying27 rfl (by kernel_rfl) (Bx.drew.below hb)) (fun _ _ => rfl)) ?_
                  refine And.intro (ob_call1 rfl Tryz.func18 (by kernel_rfl) (wt_none rfl) (ev_dep (j := 0) (by kernel_rfl) rfl rfl) (fun w2 u0 hb h0 => by obtain rfl := h0; exact (fprint9_any _ x _ (kx.drew.below hb) (lx.mono (by decide))).mono fun e w3 h => RetStrB.pd h)) ?_
                  refine And.intro (ob_load rfl (wt_none rfl) (ev_far rfl rfl) (fun w2 hb => run_loadAll Tryz.underlying36 rfl (by kernel_rfl) (BX.drew.below hb)) (fun _ _ => rfl)) ?_
                  refine And.intro (ob_call1 rfl Tryz.func19 (by kernel_rfl) (wt_none rfl) (ev_dep (j := 2) (by kernel_rfl) rfl rfl) (fun w2 u0 hb h0 => by obtain rfl := h0; exact (rprint9_any _ x _ (kX.drew.below hb) (lx.mono (by decide))).mono fun e w3 h => RetStrB.pd h)) ?_
                  refine And.intro (ob_bin rfl (wt_none rfl) (ev_dep (j := 1) (by kernel_rfl) rfl rfl) (ev_dep (j := 3) (by kernel_rfl) rfl rfl) (fun _ _ _ hx hy => ⟨.bool ((ByteArray.mk (List.toArray (txtr (x) : List UInt8))).toList == (ByteArray.mk (List.toArray (txtr (x) : List UInt8))).toList), by rw [hx, hy]; exact bin_eql_str _ _ _ _ _, congrArg Value.bool (beq_self_eq_true _)⟩)) ?_
                  refine And.intro (ob_move rfl (wt_none rfl) (ev_dep (j := 4) (by kernel_rfl) rfl rfl) (fun _ _ h => h)) ?_
                  refine And.intro (ob_move rfl (wt_dep (c := true) (b := true) (g := 5) rfl (by kernel_rfl) rfl rfl rfl (by exact fun _ _ h => h)) (ev_far rfl rfl) (fun _ _ h => h)) ?_
                  refine And.intro (ob_move rfl (wt_dep (c := true) (b := true) (g := 5) rfl (by kernel_rfl) rfl rfl rfl (by exact fun _ _ h => h)) (ev_far rfl rfl) (fun _ _ h => h)) ?_
                  refine And.intro (ob_bin rfl (wt_dep (c := true) (b := true) (g := 5) rfl (by kernel_rfl) rfl rfl rfl (by exact fun _ _ h => h)) (ev_dep (j := 6) (by kernel_rfl) rfl rfl) (ev_dep (j := 7) (by kernel_rfl) rfl rfl) (fun _ _ _ hx hy => ⟨.bool ((ByteArray.mk (List.toArray ([] : List UInt8))).toList == (ByteArray.mk (List.toArray ([] : List UInt8))).toList), by rw [hx, hy]; exact bin_eql_str _ _ _ _ _, congrArg Value.bool (beq_self_eq_true _)⟩)) ?_
                  refine And.intro (ob_pick (b := true) rfl (wt_none rfl) (ev_dep (j := 5) (by kernel_rfl) rfl rfl) (ev_dep (j := 8) (by kernel_rfl) rfl rfl) (fun _ _ h => h)) ?_
                  refine And.intro (ob_move rfl (wt_none rfl) (ev_dep (j := 9) (by kernel_rfl) rfl rfl) (fun _ _ h => h)) ?_
                  refine And.intro (ob_move rfl (wt_dep (c := true) (b := true) (g := 10) rfl (by kernel_rfl) rfl rfl rfl (by exact fun _ _ h => h)) (ev_far rfl rfl) (fun _ _ h => h)) ?_
                  refine And.intro (ob_move rfl (wt_dep (c := true) (b := true) (g := 10) rfl (by kernel_rfl) rfl rfl rfl (by exact fun _ _ h => h)) (ev_far rfl rfl) (fun _ _ h => h)) ?_
                  refine And.intro (ob_bin rfl (wt_dep (c := true) (b := true) (g := 10) rfl (by kernel_rfl) rfl rfl rfl (by exact fun _ _ h => h)) (ev_dep (j := 11) (by kernel_rfl) rfl rfl) (ev_dep (j := 12) (by kernel_rfl) rfl rfl) (fun _ _ _ hx hy => ⟨.bool (false == false), by rw [hx, hy]; exact bin_eql_bool _ _ _ _ Tryz.underlying4 _, rfl⟩)) ?_
                  refine And.intro (ob_pick (b := true) rfl (wt_none rfl) (ev_dep (j := 10) (by kernel_rfl) rfl rfl) (ev_dep (j := 13) (by kernel_rfl) rfl rfl) (fun _ _ h => h)) ?_
                  refine And.intro (ob_move rfl (wt_none rfl) (ev_dep (j := 14) (by kernel_rfl) rfl rfl) (fun _ _ h => h)) ?_
                  refine And.intro (ob_move rfl (wt_dep (c := true) (b := true) (g := 15) rfl (by kernel_rfl) rfl rfl rfl (by exact fun _ _ h => h)) (ev_far rfl rfl) (fun _ _ h => h)) ?_
                  refine And.intro (ob_move rfl (wt_dep (c := true) (b := true) (g := 15) rfl (by kernel_rfl) rfl rfl rfl (by exact fun _ _ h => h)) (ev_far rfl rfl) (fun _ _ h => h)) ?_
                  refine And.intro (ob_bin rfl (wt_dep (c := true) (b := true) (g := 15) rfl (by kernel_rfl) rfl rfl rfl (by exact fun _ _ h => h)) (ev_dep (j := 16) (by kernel_rfl) rfl rfl) (ev_dep (j := 17) (by kernel_rfl) rfl rfl) (fun _ _ _ hx hy => ⟨.bool ((ByteArray.mk (List.toArray ([] : List UInt8))).toList == (ByteArray.mk (List.toArray ([] : List UInt8))).toList), by rw [hx, hy]; exact bin_eql_str _ _ _ _ _, congrArg Value.bool (beq_self_eq_true _)⟩)) ?_
                  refine And.intro (ob_pick (b := true) rfl (wt_none rfl) (ev_dep (j := 15) (by kernel_rfl) rfl rfl) (ev_dep (j := 18) (by kernel_rfl) rfl rfl) (fun _ _ h => h)) ?_
                  refine And.intro (ob_move rfl (wt_none rfl) (ev_dep (j := 19) (by kernel_rfl) rfl rfl) (fun _ _ h => h)) ?_
                  refine And.intro (ob_move rfl (wt_dep (c := true) (b := true) (g := 20) rfl (by kernel_rfl) rfl rfl rfl (by exact fun _ _ h => h)) (ev_far rfl rfl) (fun _ _ h => h)) ?_
                  refine And.intro (ob_move rfl (wt_dep (c := true) (b := true) (g := 20) rfl (by kernel_rfl) rfl rfl rfl (by exact fun _ _ h => h)) (ev_far rfl rfl) (fun _ _ h => h)) ?_
                  refine And.intro (ob_bin rfl (wt_dep (c := true) (b := true) (g := 20) rfl (by kernel_rfl) rfl rfl rfl (by exact fun _ _ h => h)) (ev_dep (j := 21) (by kernel_rfl) rfl rfl) (ev_dep (j := 22) (by kernel_rfl) rfl rfl) (fun _ _ _ hx hy => ⟨.bool (false == false), by rw [hx, hy]; exact bin_eql_bool _ _ _ _ Tryz.underlying4 _, rfl⟩)) ?_
                  refine And.intro (ob_pick (b := true) rfl (wt_none rfl) (ev_dep (j := 20) (by kernel_rfl) rfl rfl) (ev_dep (j := 23) (by kernel_rfl) rfl rfl) (fun _ _ h => h)) ?_
                  refine And.intro (ob_move rfl (wt_none rfl) (ev_dep (j := 24) (by kernel_rfl) rfl rfl) (fun _ _ h => h)) ?_
                  refine And.intro (ob_load rfl (wt_dep (c := true) (b := true) (g := 25) rfl (by kernel_rfl) rfl rfl rfl (by exact fun _ _ h => h)) (ev_far rfl rfl) (fun w2 hb => run_loadAll Tryz.underlying27 rfl (by kernel_rfl) (Bx.drew.below hb)) (fun _ _ => rfl)) ?_
                  refine And.intro (ob_call1 rfl Tryz.func20 (by kernel_rfl) (wt_dep (c := true) (b := true) (g := 25) rfl (by kernel_rfl) rfl rfl rfl (by exact fun _ _ h => h)) (ev_dep (j := 26) (by kernel_rfl) rfl rfl) (fun w2 u0 hb h0 => by obtain rfl := h0; exact (fdigits9_any _ x _ (kx.drew.below hb) (lx.mono (by decide))).mono fun e w3 h => RetV.pd h)) ?_
                  refine And.intro (ob_fieldAddr rfl (wt_dep (c := true) (b := true) (g := 25) rfl (by kernel_rfl) rfl rfl rfl (by exact fun _ _ h => h)) (ev_far rfl rfl) (fun _ => by kernel_rfl) (fun _ => rfl)) ?_
                  refine And.intro (ob_load rfl (wt_dep (c := true) (b := true) (g := 25) rfl (by kernel_rfl) rfl rfl rfl (by exact fun _ _ h => h)) (ev_dep (j := 28) (by kernel_rfl) rfl rfl) (fun w2 hb => run_load1 Tryz.underlying32 rfl ((BX.drew.below hb).cell 2)) (fun _ _ => rfl)) ?_
                  refine And.intro (ob_call1 rfl Tryz.func21 (by kernel_rfl) (wt_dep (c := true) (b := true) (g := 25) rfl (by kernel_rfl) rfl rfl rfl (by exact fun _ _ h => h)) (ev_dep (j := 29) (by kernel_rfl) rfl rfl) (fun w2 u0 hb h0 => by obtain rfl := h0; exact (rtext_any _ x.den _ (kXd.drew.below hb) (Nat.le_trans (dec_le _) (by have := lx.2; omega))).mono fun e w3 h => RetStrB.pd h)) ?_
                  refine And.intro (ob_len rfl (wt_dep (c := true) (b := true) (g := 25) rfl (by kernel_rfl) rfl rfl rfl (by exact fun _ _ h => h)) (ev_dep (j := 30) (by kernel_rfl) rfl rfl) (fun _ _ hx => ⟨_, by rw [hx]; exact len_txt Tryz.underlying9 _ _, rfl⟩)) ?_
                  refine And.intro (ob_bin rfl (wt_dep (c := true) (b := true) (g := 25) rfl (by kernel_rfl) rfl rfl rfl (by exact fun _ _ h => h)) (ev_dep (j := 27) (by kernel_rfl) rfl rfl) (ev_dep (j := 31) (by kernel_rfl) rfl rfl) (fun _ _ _ hx hy => ⟨.bool ((((txt 10 (x).den).length : Nat) : Int) == (((txt 10 (x).den).length : Nat) : Int)), by rw [hx, hy]; exact bin_eql_int _ _ _ _ _, congrArg Value.bool (beq_self_eq_true _)⟩)) ?_
                  refine And.intro (ob_pick (b := true) rfl (wt_none rfl) (ev_dep (j := 25) (by kernel_rfl) rfl rfl) (ev_dep (j := 32) (by kernel_rfl) rfl rfl) (fun _ _ h => h)) ?_
                  refine And.intro (ob_move rfl (wt_none rfl) (ev_dep (j := 33) (by kernel_rfl) rfl rfl) (fun _ _ h => h)) ?_
                  refine And.intro (ob_call0 rfl Tryz.func8 (by kernel_rfl) (wt_dep (c := true) (b := true) (g := 34) rfl (by kernel_rfl) rfl rfl rfl (by exact fun _ _ h => h)) (fun w2 hb => (works9_any _).mono fun e w3 h => RetV.pd h)) ?_
                  refine And.intro (ob_pick (b := true) rfl (wt_none rfl) (ev_dep (j := 34) (by kernel_rfl) rfl rfl) (ev_dep (j := 35) (by kernel_rfl) rfl rfl) (fun _ _ h => h)) ?_
                  refine And.intro (ob_assign rfl (wt_none rfl) (ev_dep (j := 36) (by kernel_rfl) rfl rfl) (fun _ _ h => h)) ?_
                  trivial
                case done37 =>
                  refine fun w9 hb9 v0 h0 v1 h1 v2 h2 v3 h3 v4 h4 v5 h5 v6 h6 v7 h7 v8 h8 v9 h9 v10 h10 v11 h11 v12 h12 v13 h13 v14 h14 v15 h15 v16 h16 v17 h17 v18 h18 v19 h19 v20 h20 v21 h21 v22 h22 v23 h23 v24 h24 v25 h25 v26 h26 v27 h27 v28 h28 v29 h29 v30 h30 v31 h31 v32 h32 v33 h33 v34 h34 v35 h35 v36 h36 v37 h37 b hbf => ?_
                  obtain rfl := h0; obtain rfl := h1; obtain rfl := h2; obtain rfl := h3; obtain rfl := h4; obtain rfl := h5; obtain rfl := h6; obtain rfl := h7; obtain rfl := h8; obtain rfl := h9; obtain rfl := h10; obtain rfl := h11; obtain rfl := h12; obtain rfl := h13; obtain rfl := h14; obtain rfl := h15; obtain rfl := h16; obtain rfl := h17; obtain rfl := h18; obtain rfl := h19; obtain rfl := h20; obtain rfl := h21; obtain rfl := h22; obtain rfl := h23; obtain rfl := h24; obtain rfl := h25; obtain rfl := h26; obtain rfl := h27; obtain rfl := h28; obtain rfl := h29; obtain rfl := h30; obtain rfl := h31; obtain rfl := h32; obtain rfl := h33; obtain rfl := h34; obtain rfl := h35; obtain rfl := h36; obtain rfl := h37
                  simp only [Act.put, List.setIfInBounds_toArray, List.set_cons_zero, List.set_cons_succ] at hbf
                  subst hbf
                  replace Bx := Bx.below hb9
                  replace kxs := kxs.below hb9
                  replace kxd := kxd.below hb9
                  replace kxz := kxz.below hb9
                  replace kx := kx.below hb9
                  replace BX := BX.below hb9
                  replace kXs := kXs.below hb9
                  replace kXd := kXd.below hb9
                  replace kXz := kXz.below hb9
                  replace kX := kX.below hb9
                  replace bb := bb.trans (hb9.mono bb.size)
                  have hsz9 := bb.size
                  refine any_done (by kernel_rfl) ?_
                  go_wp2
                  go_ret
                  exact ⟨rfl, bb⟩
set_option maxRecDepth 100000 in
theorem lifted (os : Os) (started : os.Started) (H : Type) (enc : TypeId × Value → H) :
    ReturnsInHanded {} Tryz.checked os 4 .any (fun w args => (Rows.ratioPrintsSpec.pre enc Tryz.prog Tryz.f4 Rows.ratioPrintsRow.domain false w args ∧ laidMetH Tryz.prog Rows.ratioPrintsRow.laid w) ∧ sizedMet enc Tryz.prog Tryz.f4 (OpenSpec.ofChange Rows.ratioPrintsSpec) false w args)
      (Rows.ratioPrintsSpec.post enc Tryz.prog Tryz.f4 false true false false) := by
  refine returnsInHanded_of_change_and (C := Tryz.checked) (X := fun w _ => laidMetH Tryz.prog Rows.ratioPrintsRow.laid w) (fun _ _ _ hh h => h.of_heap hh) own started (by kernel_rfl) Tryz.func4
    (ChangeSpec.witness_shaped (enc := enc) (C := Tryz.checked) (os := os) (X := fun w _ => laidMetH Tryz.prog Rows.ratioPrintsRow.laid w) false (World.laidAll Tryz.prog os Rows.ratioPrintsRow.laid) #[.agg #[.bool false, .slice none 0 0, .slice none 0 0]] 8 (World.laidAll_os _ _ _)
      (World.shaped_of_ZipB (by kernel_rfl) (by kernel_rfl)) (by kernel_rfl) (by kernel_rfl) (by kernel_rfl)
      (by rw [MakeChecks.laidMetH_plain _ _ _ (by kernel_rfl)]; exact laidMet_laidAll _ (by kernel_rfl) (by kernel_rfl))) ?_
  intro W base args ds gs before hval0 hW hcnd _ hL _
  have hval : ∀ (j : Nat) t v, Tryz.f4.params[j]? = some t → args[j]? = some v → Value.okWide Tryz.prog W .any base t v := hval0
  have hW' := hW
  obtain ⟨p, q, hA0, hV, rfl, hfz, hnd⟩ := hW
  have hA : DataW.TrodAll enc Tryz.prog W 0 (fun _ => true) true Tryz.f4.params.toList args.toList ds p := hA0
  rw [Tryz.params4] at hA hval
  obtain ⟨v0, vs0, d0, ds0, p0, q0, hargs, rfl, rfl, t0, r0⟩ := trodAll_cons hA
  obtain ⟨rfl, rfl, rfl⟩ := trodAll_nil r0
  obtain rfl : args = #[v0] := by cases args; simp_all
  obtain ⟨rfl, rfl⟩ := trodVars_none hV
  obtain ⟨b0, x0, r0_, l0, m0, rfl, hs0, hu0, hj0, hx0⟩ := arg_q Tryz.underlying27 (by kernel_rfl) (by kernel_rfl) Tryz.underlying25 (by kernel_rfl) Tryz.underlying4 Tryz.underlying23 Tryz.underlying23 Tryz.underlying60 cells_u (hval 0 27 v0 rfl rfl) t0
  clear hA0 hval0
  simp only [List.append_nil] at hW'
  have hlt0 : ∀ x ∈ p0, x.block < W.heap.size := fun x hx => hW'.lt x (hx)
  refine (walk b0 x0 r0_ l0 m0 W hs0 hu0 hj0 hx0).mono fun e W' ⟨he, hb⟩ => ?_
  subst he
  have s0 := Below.trod laidOut (by kernel_rfl) (of_decide_eq_true (by kernel_rfl)) t0 hb hlt0
  exact ⟨_, rfl, _, _, _, [] ++ [], _, [], hW', trodAll_cons_mk (shut_bool Tryz.underlying4 _) trodAll_mk0, trodAll_cons_mk s0 (trodAll_mk0), rfl, hb.frame _, fun h => by cases h⟩
theorem over : Rows.ratioPrintsRow.holds Tryz.pinned (OpenSpec.ofChange Rows.ratioPrintsSpec) :=
  OpenClaim.holds_of_wide 4 Tryz.f4 rfl rfl rfl rfl rfl rfl rfl ⟨rfl, rfl, rfl, rfl, rfl⟩ rfl rfl rfl rfl rfl (by kernel_rfl) Tryz.func4 (by kernel_rfl)
    (of_decide_eq_true (by kernel_rfl)) (by unfold Func.isWrapper; first | (rw [if_pos (by decide +kernel)]; kernel_rfl) | (rw [if_neg (by decide +kernel)]; exact ⟨rfl, rfl⟩))
    (fun os started H enc _ => lifted os started H enc)
/-- The statement: the card. -/
theorem proved : Rows.RatioPrintsCardSaid :=
  Claim7.holds_tied_plain_at .later [] [.data, .pinned] true _ false over (fun _ h => by cases h) (by kernel_rfl) (fun _ h => by cases h) ratioPrints_row_tie rfl ⟨rfl, rfl⟩ (by kernel_rfl) rfl
    (fun f fn hf hfn => by
      obtain rfl : f = 4 := Option.some.inj ((show Tryz.prog.funcNamed Rows.ratioPrintsRow.func = some 4 by kernel_rfl).symm.trans hf) |>.symm
      obtain rfl : fn = Tryz.f4 := (Option.some.inj (Tryz.func4.symm.trans hfn)).symm
      exact ⟨by kernel_rfl, fun j t ht => by
        rw [Tryz.params4] at ht
        have hm : t ∈ [27] := by simpa using Array.mem_of_getElem? ht
        have hall : ([27].all fun u => !Tryz.prog.wantsStandIn u) = true := by kernel_rfl
        exact (show Tryz.prog.wantsStandIn t = false by simpa using List.all_eq_true.1 hall t hm)⟩)
    (by kernel_rfl)
end Go.Proofs.YtpcllhdfalebbaaGreatDoor.ratioPrints
