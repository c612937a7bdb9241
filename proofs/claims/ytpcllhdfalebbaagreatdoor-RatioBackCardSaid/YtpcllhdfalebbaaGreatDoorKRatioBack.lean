/- RatioBack: what was printed is read, in each way that there is. Condition: the arguments can be read as data. -/
import Derived.Test.YtpcllhdfalebbaaGreatDoorK6
import Derived.Deep.Cut
import Derived.OpenShut
import Derived.LaidMore
import Derived.Lay
import Derived.SevenTiedAt
import Derived.Stop.Joined
import Derived.Test.YtpcllhdfalebbaaGreatDoorCards
import Derived.Test.YtpcllhdfalebbaaGreatDoorTie
namespace Go.Proofs.YtpcllhdfalebbaaGreatDoor.ratioBack
open Go.ChangeShapes Go.WideShapes Go.ChangeAt Go.RowKit Go.Proofs.YtpcllhdfalebbaaGreatDoor.num Go.Proofs.YtpcllhdfalebbaaGreatDoor.mem Go.Proofs.YtpcllhdfalebbaaGreatDoor.nat Go.Proofs.YtpcllhdfalebbaaGreatDoor.txt Go.Proofs.YtpcllhdfalebbaaGreatDoor.str Go.Proofs.YtpcllhdfalebbaaGreatDoor.flow Go.Proofs.YtpcllhdfalebbaaGreatDoor.whl Go.Proofs.YtpcllhdfalebbaaGreatDoor.rat Go.Proofs.YtpcllhdfalebbaaGreatDoor.rto
set_option linter.unusedVariables false
theorem own : ownKnob Tryz.prog.godebug = none := by kernel_rfl
theorem laidOut : laidOutB Tryz.prog = true := by kernel_rfl
theorem cells_u : Tryz.prog.cellsOf 60 = 1 := by kernel_rfl
set_option maxHeartbeats 6400000 in
set_option maxRecDepth 100000 in
/-- The walk: the Go text returns true; what was there is as it was. -/
theorem walk (b0 : Bool) (v0 r0 : Value) (l0 m0 : List Nat) (w : World) (h0 : IsS w .u64 v0 l0) (u0 : Lt 18446744073709551616 l0) (j0 : IsS w .u64 r0 m0) (x0 : Lt 18446744073709551616 m0) :
    Calls Tryz.prog 5 #[.agg #[.bool b0, v0, r0]] w (RetV (.bool true) w) := by
  obtain ⟨x, hx0⟩ : ∃ x, x = cleanQ b0 l0 m0 2 := ⟨_, rfl⟩
  have lx : lenQ x 2 := by rw [hx0]; exact cleanQ_len _ _ _ (by omega)
  have HX0 := Lib.hid hx0.symm
  clear hx0
  obtain ⟨A0, c0, rfl, _⟩ := id h0
  obtain ⟨D0, e0, rfl, _⟩ := id j0
  go_enter Tryz.func5, Tryz.ntmps5
  go_upto_region 1 with (fail)
  obtain ⟨w0, hwx, bb, BP0, hsz⟩ := vars1 w 27 #[.bool b0, .slice A0 l0.length c0, .slice D0 m0.length e0]
  rw [hwx]
  clear hwx
  have p0s := h0.below bb
  have p0d := j0.below bb
  have hsz0 := bb.size
  refine flowp 2 [Pd.eq (.bool true), Pd.eq (.bool false)] (by kernel_rfl) ?ob38 ?done38
  case ob38 =>
    refine And.intro (ob_call0 rfl Tryz.func8 (by kernel_rfl) (wt_none rfl) (fun w2 hb => (works9_any _).mono fun e w3 h => RetV.pd h)) ?_
    refine And.intro (ob_un rfl (wt_none rfl) (ev_dep (j := 0) (by kernel_rfl) rfl rfl) (fun _ => un_not _ _) (fun _ => rfl)) ?_
    trivial
  case done38 =>
    refine fun w1 hb1 v0 h0 v1 h1 b hbf => ?_
    obtain rfl := h0; obtain rfl := h1
    simp only [Act.put, List.setIfInBounds_toArray, List.set_cons_zero, List.set_cons_succ] at hbf
    subst hbf
    replace BP0 := BP0.below hb1
    replace p0s := p0s.below hb1
    replace p0d := p0d.below hb1
    replace bb := bb.trans (hb1.mono bb.size)
    have hsz1 := bb.size
    refine ops_done ?_
    go_upto_region 3 with (fail)
    refine flowp 2 [Pd.eq (.agg #[.bool b0, .slice A0 l0.length c0, .slice D0 m0.length e0]), pqn x] (by kernel_rfl) ?ob39 ?done39
    case ob39 =>
      refine And.intro (ob_load rfl (wt_none rfl) (ev_far rfl rfl) (fun w2 hb => run_loadAll Tryz.underlying27 rfl (by kernel_rfl) (BP0.below hb)) (fun _ _ => rfl)) ?_
      refine And.intro (ob_call2 rfl Tryz.func11 (by kernel_rfl) (wt_none rfl) (ev_dep (j := 0) (by kernel_rfl) rfl rfl) (ev_const _) (fun w2 u0 u1 hb h0 h1 => by obtain rfl := h0; obtain rfl := h1; exact (HX0.out ▸ qclean_any _ _ _ _ _ _ 2 _ rfl (p0s.below hb) u0 (p0d.below hb) x0 (by omega) (by omega)).mono fun e w3 h => RetQn.pd (RetQ.n h))) ?_
      trivial
    case done39 =>
      refine fun w2 hb2 v0 h0 v1 h1 b hbf => ?_
      obtain rfl := h0
      have q1 := h1
      simp only [Act.put, List.setIfInBounds_toArray, List.set_cons_zero, List.set_cons_succ] at hbf
      subst hbf
      replace BP0 := BP0.below hb2
      replace p0s := p0s.below hb2
      replace p0d := p0d.below hb2
      replace bb := bb.trans (hb2.mono bb.size)
      have hsz2 := bb.size
      obtain ⟨u1, t1, rfl, q1, d1⟩ := q1
      obtain ⟨Ax, cx, rfl, _⟩ := id q1
      obtain ⟨Dx, ex, rfl, _⟩ := id d1
      refine ops_store (i := 2) rfl rfl rfl rfl rfl rfl (cells := [.bool (ngB (x).num), .slice Ax (digs 4294967296 (x).num.natAbs).length cx, .slice Dx (digs 4294967296 (x).den).length ex]) rfl BP0 rfl (by kernel_rfl) (one3 rfl rfl rfl) fun w3 hg3 BN3 => ?_
      replace q1 := off q1 BP0 no_ints3 hg3
      replace d1 := off d1 BP0 no_ints3 hg3
      replace bb := bb.trans ((Below.refl _ _).grown hg3 bb.size (fun g hg => by injection hg with hg; omega))
      have hsz3 := bb.size
      have Bx : Blk w3 (w.heap.size) _ _ := BN3
      have kxs := q1
      have kxd := d1
      have kxz : IsZ w3 (.agg #[.bool (ngB (x).num), .slice Ax (digs 4294967296 (x).num.natAbs).length cx]) ((x).num) := ⟨_, rfl, kxs⟩
      have kx : IsQ w3 (.agg #[.bool (ngB (x).num), .slice Ax (digs 4294967296 (x).num.natAbs).length cx, .slice Dx (digs 4294967296 (x).den).length ex]) (x) := ⟨_, _, rfl, kxs, kxd⟩
      refine ops_done ?_
      go_upto_region 4 with (fail)
      refine flowp 2 [Pd.eq (.pointer (some ⟨w.heap.size, 0, none⟩)), Pd.eq (.pointer (some ⟨w.heap.size, 0, none⟩))] (by kernel_rfl) ?ob40 ?done40
      case ob40 =>
        refine And.intro (ob_fieldAddr rfl (wt_none rfl) (ev_far rfl rfl) (fun _ => by kernel_rfl) (fun _ => rfl)) ?_
        refine And.intro (ob_fieldAddr rfl (wt_none rfl) (ev_dep (j := 0) (by kernel_rfl) rfl rfl) (fun _ => by kernel_rfl) (fun _ => rfl)) ?_
        trivial
      case done40 =>
        refine fun w4 hb4 v0 h0 v1 h1 b hbf => ?_
        obtain rfl := h0; obtain rfl := h1
        simp only [Act.put, List.setIfInBounds_toArray, List.set_cons_zero, List.set_cons_succ] at hbf
        subst hbf
        replace Bx := Bx.below hb4
        replace kxs := kxs.below hb4
        replace kxd := kxd.below hb4
        replace kxz := kxz.below hb4
        replace kx := kx.below hb4
        replace bb := bb.trans (hb4.mono bb.size)
        have hsz4 := bb.size
        refine ops_store_at (i := 2) (v := .bool false) rfl rfl rfl rfl rfl rfl rfl rfl Bx (by show 0 < 3; omega) (by kernel_rfl) fun w5 hg5 BN => ?_
        obtain ⟨R, hRn, hRd⟩ := abs_q x
        have hn : x.num.natAbs = R.num.natAbs := by rw [hRn, Int.natAbs_natCast]
        have lR : lenQ R 2 := ⟨by unfold lenZ; rw [hRn, Int.natAbs_natCast]; exact lx.1, by rw [hRd]; exact lx.2⟩
        have HRN : Hid (ngB R.num = false) := ngB_of_pos (by omega)
        have nxs := off kxs Bx no_ints3 hg5
        have nxd := off kxd Bx no_ints3 hg5
        clear kx kxz kxs kxd
        rw [hn] at nxs BN
        rw [← hRd] at nxd BN
        have Bx' : Blk w5 (w.heap.size) _ #[.bool false, .slice Ax (digs 4294967296 (R).num.natAbs).length cx, .slice Dx (digs 4294967296 (R).den).length ex] := BN
        clear Bx BN
        have Bx := Bx'
        have kxs := nxs
        have kxd := nxd
        have kxz : IsZ w5 (.agg #[.bool false, .slice Ax (digs 4294967296 (R).num.natAbs).length cx]) (R).num := isZ_mk kxs rfl HRN.out.symm
        have kx : IsQ w5 (.agg #[.bool false, .slice Ax (digs 4294967296 (R).num.natAbs).length cx, .slice Dx (digs 4294967296 (R).den).length ex]) (R) := isQ_mk kxs kxd HRN.out.symm rfl rfl
        clear hRn hRd hn nxs nxd Bx'
        replace bb := bb.trans ((Below.refl _ _).grown hg5 bb.size (fun g hg => by injection hg with hg; omega))
        have hszW := bb.size
        refine ops_done ?_
        have bW : Below w5.heap.size w5 w5 := Below.refl _ _
        have oBx := Bx
        have okxs := kxs
        have okxd := kxd
        have okxz := kxz
        have okx := kx
        have l100 : lenQ (100 : Rat) 1 := ⟨digs_len_le (k := 1) (by omega) (by decide +kernel), digs_len_le (k := 1) (by omega) (by decide +kernel)⟩
        have lh : lenQ (R * 100) 3 := lenQ_mul lR l100
        rcases tells_or R.den with ⟨n, hd, hm, h2⟩ | hm <;> rcases tells_or (R * 100).den with ⟨k, gd, gm, g2⟩ | gm
        · obtain ⟨X, hX⟩ : ∃ X, X = R.num.natAbs * 10 ^ n / R.den := ⟨_, rfl⟩
          have HX := Lib.hid hX
          have HD := Lib.hid hd
          have HM := Lib.hid hm
          have H2 := Lib.hid h2
          clear hX hd hm h2
          obtain ⟨Y, hY⟩ : ∃ Y, Y = (R * 100).num.natAbs * 10 ^ k / (R * 100).den := ⟨_, rfl⟩
          have GX := Lib.hid hY
          have GD := Lib.hid gd
          have GM := Lib.hid gm
          have G2 := Lib.hid g2
          clear hY gd gm g2
          obtain ⟨y0, y1, y2, _, _, _⟩ := three Bx
          go_wp2_with fail
          refine (fprint9_any _ R _ kx (lR.mono (by decide))).mono ?_
          rintro e wa ⟨T0, rfl, hT0, ba⟩
          obtain rfl := hT0.is
          clear hT0 y0 y1 y2
          go_upto_region 6 with (fail)
          obtain ⟨wb, hwb, row, bab⟩ := row_lit1 wa w5.heap.size 9 (.string (ByteArray.mk (List.toArray (txtr (R) : List UInt8)))) ba.size
          rw [hwb]
          clear hwb
          have hbab := ba.trans (bab.mono ba.size)
          generalize hV : Value.slice (some ⟨wa.heap.size, 0, none⟩) 1 1 = V0 at row ⊢
          clear hV
          replace Bx := Bx.below hbab
          replace kxs := kxs.below hbab
          replace kxd := kxd.below hbab
          replace kxz := kxz.below hbab
          replace kx := kx.below hbab
          replace bb := bb.trans (hbab.mono bb.size)
          have hsz6 := bb.size
          replace bW := bW.trans (hbab.mono bW.size)
          refine flowp 7 [Pd.eq (.agg #[.bool false, .slice Ax (digs 4294967296 (R).num.natAbs).length cx, .slice Dx (digs 4294967296 (R).den).length ex]), Pd.eq (.tuple #[.string (ByteArray.mk (List.toArray (decT (ngB (R).num) X n : List UInt8))), .bool true]), Pd.eq (.tuple #[.string (ByteArray.mk (List.toArray (decT (ngB (R).num) X n : List UInt8))), .bool true]), Pd.eq (.string (ByteArray.mk (List.toArray (decT (ngB (R).num) X n : List UInt8)))), Pd.eq (.bool true), Pd.eq (.string (ByteArray.mk (List.toArray (decT (ngB (R).num) X n : List UInt8)))), Pd.eq (.bool true)] (by kernel_rfl) ?ob41 ?done41
          case ob41 =>
            refine And.intro (ob_load rfl (wt_none rfl) (ev_far rfl rfl) (fun w2 hb => run_loadAll Tryz.underlying27 rfl (by kernel_rfl) (Bx.below hb)) (fun _ _ => rfl)) ?_
            refine And.intro (ob_call1 rfl Tryz.func13 (by kernel_rfl) (wt_none rfl) (ev_dep (j := 0) (by kernel_rfl) rfl rfl) (fun w2 u0 hb h0 => by obtain rfl := h0; exact (fdec9_yes _ R n X _ (kx.below hb) (lR.mono (by decide)) HD.out HM.out H2.out HX.out).mono fun e w3 h => RetSB.pd h)) ?_
            refine And.intro (ob_move rfl (wt_none rfl) (ev_dep (j := 1) (by kernel_rfl) rfl rfl) (fun _ _ h => h)) ?_
            refine And.intro (ob_extract rfl (wt_none rfl) (ev_dep (j := 2) (by kernel_rfl) rfl rfl) (fun w2 u hu => by obtain rfl := hu; exact ⟨_, rfl, rfl⟩)) ?_
            refine And.intro (ob_extract rfl (wt_none rfl) (ev_dep (j := 2) (by kernel_rfl) rfl rfl) (fun w2 u hu => by obtain rfl := hu; exact ⟨_, rfl, rfl⟩)) ?_
            refine And.intro (ob_assign rfl (wt_none rfl) (ev_dep (j := 3) (by kernel_rfl) rfl rfl) (fun _ _ h => h)) ?_
            refine And.intro (ob_assign rfl (wt_none rfl) (ev_dep (j := 4) (by kernel_rfl) rfl rfl) (fun _ _ h => h)) ?_
            trivial
          case done41 =>
            refine fun w7 hb7 v0 h0 v1 h1 v2 h2 v3 h3 v4 h4 v5 h5 v6 h6 b hbf => ?_
            obtain rfl := h0; obtain rfl := h1; obtain rfl := h2; obtain rfl := h3; obtain rfl := h4; obtain rfl := h5; obtain rfl := h6
            simp only [Act.put, List.setIfInBounds_toArray, List.set_cons_zero, List.set_cons_succ] at hbf
            subst hbf
            replace Bx := Bx.below hb7
            replace kxs := kxs.below hb7
            replace kxd := kxd.below hb7
            replace kxz := kxz.below hb7
            replace kx := kx.below hb7
            replace row := row.below hb7
            replace bb := bb.trans (hb7.mono bb.size)
            have hsz7 := bb.size
            replace bW := bW.trans (hb7.mono bW.size)
            refine ops_done ?_
            go_upto_region 9 with (at_builtin; refine wpList_append_str rfl (.tmp 26) (.tmp 28) rfl Tryz.underlying55 info_str rfl row rfl rfl (by simp) bW.size ?_; intro V1 wq1 row1 bd1)
            replace bb := bb.trans (bd1.mono hszW)
            replace bW := bW.trans bd1
            clear row
            have row := row1
            clear row1
            replace Bx := oBx.below bW
            replace kxs := okxs.below bW
            replace kxd := okxd.below bW
            replace kxz := okxz.below bW
            replace kx := okx.below bW
            have hsz8_ := bb.size
            refine flowp 7 [Pd.eq (.agg #[.bool false, .slice Ax (digs 4294967296 (R).num.natAbs).length cx, .slice Dx (digs 4294967296 (R).den).length ex]), Pd.eq (.tuple #[.string (ByteArray.mk (List.toArray (decT (ngB (R * 100).num) Y k ++ [37] : List UInt8))), .bool true]), Pd.eq (.tuple #[.string (ByteArray.mk (List.toArray (decT (ngB (R * 100).num) Y k ++ [37] : List UInt8))), .bool true]), Pd.eq (.string (ByteArray.mk (List.toArray (decT (ngB (R * 100).num) Y k ++ [37] : List UInt8)))), Pd.eq (.bool true), Pd.eq (.string (ByteArray.mk (List.toArray (decT (ngB (R * 100).num) Y k ++ [37] : List UInt8)))), Pd.eq (.bool true)] (by kernel_rfl) ?ob42 ?done42
            case ob42 =>
              refine And.intro (ob_load rfl (wt_none rfl) (ev_far rfl rfl) (fun w2 hb => run_loadAll Tryz.underlying27 rfl (by kernel_rfl) (Bx.below hb)) (fun _ _ => rfl)) ?_
              refine And.intro (ob_call1 rfl Tryz.func15 (by kernel_rfl) (wt_none rfl) (ev_dep (j := 0) (by kernel_rfl) rfl rfl) (fun w2 u0 hb h0 => by obtain rfl := h0; exact (fpct9_yes _ R k Y _ (kx.below hb) (lR.mono (by decide)) GD.out GM.out G2.out GX.out).mono fun e w3 h => RetSB.pd h)) ?_
              refine And.intro (ob_move rfl (wt_none rfl) (ev_dep (j := 1) (by kernel_rfl) rfl rfl) (fun _ _ h => h)) ?_
              refine And.intro (ob_extract rfl (wt_none rfl) (ev_dep (j := 2) (by kernel_rfl) rfl rfl) (fun w2 u hu => by obtain rfl := hu; exact ⟨_, rfl, rfl⟩)) ?_
              refine And.intro (ob_extract rfl (wt_none rfl) (ev_dep (j := 2) (by kernel_rfl) rfl rfl) (fun w2 u hu => by obtain rfl := hu; exact ⟨_, rfl, rfl⟩)) ?_
              refine And.intro (ob_assign rfl (wt_none rfl) (ev_dep (j := 3) (by kernel_rfl) rfl rfl) (fun _ _ h => h)) ?_
              refine And.intro (ob_assign rfl (wt_none rfl) (ev_dep (j := 4) (by kernel_rfl) rfl rfl) (fun _ _ h => h)) ?_
              trivial
            case done42 =>
              refine fun w9 hb9 v0 h0 v1 h1 v2 h2 v3 h3 v4 h4 v5 h5 v6 h6 b hbf => ?_
              obtain rfl := h0; obtain rfl := h1; obtain rfl := h2; obtain rfl := h3; obtain rfl := h4; obtain rfl := h5; obtain rfl := h6
              simp only [Act.put, List.setIfInBounds_toArray, List.set_cons_zero, List.set_cons_succ] at hbf
              subst hbf
              replace Bx := Bx.below hb9
              replace kxs := kxs.below hb9
              replace kxd := kxd.below hb9
              replace kxz := kxz.below hb9
              replace kx := kx.below hb9
              replace row := row.below hb9
              replace bb := bb.trans (hb9.mono bb.size)
              have hsz9 := bb.size
              replace bW := bW.trans (hb9.mono bW.size)
              refine ops_done ?_
              go_upto_region 12 with (at_builtin; refine wpList_append_str rfl (.tmp 36) (.tmp 38) rfl Tryz.underlying55 info_str rfl row rfl rfl (by simp) bW.size ?_; intro V2 wq2 row2 bd2)
              replace bb := bb.trans (bd2.mono hszW)
              replace bW := bW.trans bd2
              clear row
              have row := row2
              clear row2
              replace Bx := oBx.below bW
              replace kxs := okxs.below bW
              replace kxd := okxd.below bW
              replace kxz := okxz.below bW
              replace kx := okx.below bW
              have hsz10_ := bb.size
              have HTs : Hid (∀ T ∈ ([txtr (R), decT (ngB (R).num) X n, decT (ngB (R * 100).num) Y k ++ [37]] : List (List UInt8)), Reads R T) := by
                intro T hT
                rcases List.mem_cons.1 hT with rfl | hT
                · exact ⟨read_print (ngB_false HRN.out), Nat.le_trans (txtr_short lR) (by omega)⟩
                rcases List.mem_cons.1 hT with rfl | hT
                · exact ⟨read_decT HRN.out HX.out HD.out, Nat.le_trans (decT_short (lR.mono (by decide)) H2.out HX.out) (by omega)⟩
                obtain rfl := List.mem_singleton.1 hT
                exact ⟨read_pctT HRN.out GX.out GD.out, by have := decT_short (b := ngB (R * 100).num) lh G2.out GX.out; simp; omega⟩
              have hrow := RowV.isV row
              obtain ⟨A3, c3, rfl, hc3, hcells⟩ := hrow
              have HCE := Lib.hid hcells
              clear hcells
              generalize hTs : ([txtr (R), decT (ngB (R).num) X n, decT (ngB (R * 100).num) Y k ++ [37]] : List (List UInt8)) = Ts at HTs
              have hvs : ∀ (j : Nat) (T : List UInt8), Ts[j]? = some T → ∃ ad, A3 = some ad ∧ wq2.cell? (ad.add j) = some (.string ⟨T.toArray⟩) := by
                intro j T hT
                refine HCE.out j _ ?_
                subst hTs
                have := congrArg (Option.map fun T : List UInt8 => Value.string ⟨T.toArray⟩) hT
                rw [← List.getElem?_map] at this
                exact this
              have hTl : Ts.length = 3 := by rw [← hTs]; rfl
              have HVS := Lib.hid hvs
              have HTL := Lib.hid hTl
              clear hvs hTl hTs HCE row
              go_wp2
              go_loopw [8] (fun v8 wr => ∃ i : Nat, i ≤ 3 ∧ Below wq2.heap.size wq2 wr ∧ v8 = .int .i64 (i : Int)) (fun v8 _ => 3 - (intOf v8).toNat)
              case atStart => exact ⟨0, by omega, Below.refl _ _, rfl⟩
              case round =>
                obtain ⟨i, hi, hbr, rfl⟩ := hrel
                have bl := hbr
                have hblz := hbr.size
                replace Bx := Bx.below hbr
                replace kxs := kxs.below hbr
                replace kxd := kxd.below hbr
                replace kxz := kxz.below hbr
                replace kx := kx.below hbr
                replace bb := bb.trans (hbr.mono bb.size)
                have hsz11 := bb.size
                by_cases hlt : i < 3
                · skip
                  obtain ⟨T, hT⟩ : ∃ T, Ts[i]? = some T := ⟨_, List.getElem?_eq_getElem (by have := HTL.out; omega)⟩
                  have hRT := HTs.out T (List.mem_of_getElem? hT)
                  have HRT := Lib.hid hRT.1
                  have hTlen := hRT.2
                  obtain ⟨ad, hA3, hcell0⟩ := HVS.out i T hT
                  subst hA3
                  have hcell := (hbr.cell (World.block_lt_of_cell? wq2 _ hcell0)).trans hcell0
                  clear hT hRT hcell0
                  go_upto_region 15 with (fail)
                  have lt11_1 := Blk.lt Bx
                  refine flowp 9 [Pd.eq (.slice (some ad) 3 c3), Pd.eq (.int .i64 (i : Int)), Pd.eq (.pointer (some (ad.add i))), Pd.eq (.string (ByteArray.mk (List.toArray (T : List UInt8)))), pqf (R) 0 wr.heap.size, pqf (R) 0 wr.heap.size, pq (R) wr.heap.size, Pd.eq (.int .i64 0), pn 27 #[.bool false, .slice none 0 0, .slice none 0 0] wr.heap.size] (by kernel_rfl) ?ob43 ?done43
                  case ob43 =>
                    refine And.intro (ob_move rfl (wt_none rfl) (ev_far rfl rfl) (fun _ _ h => h)) ?_
                    refine And.intro (ob_move rfl (wt_none rfl) (ev_far rfl rfl) (fun _ _ h => h)) ?_
                    refine And.intro (ob_indexAddr rfl (wt_none rfl) (ev_dep (j := 0) (by kernel_rfl) rfl rfl) (ev_dep (j := 1) (by kernel_rfl) rfl rfl) (fun _ _ _ hx hy => ⟨_, by rw [hx, hy]; exact index_row Tryz.underlying55 (by kernel_rfl) ad hlt _, rfl⟩)) ?_
                    refine And.intro (ob_load rfl (wt_none rfl) (ev_dep (j := 2) (by kernel_rfl) rfl rfl) (fun w2 hb => run_load1 Tryz.underlying9 rfl ((hb.cell (World.block_lt_of_cell? wr _ hcell)).trans hcell)) (fun _ _ => rfl)) ?_
                    refine And.intro (ob_call1 rfl Tryz.func6 (by kernel_rfl) (wt_none rfl) (ev_dep (j := 3) (by kernel_rfl) rfl rfl) (fun w2 u0 hb h0 => by obtain rfl := h0; exact (fparse9_ok T R _ (by first | decide | omega) HRT.out).mono fun e w3 h => RetQF.pd h hb.size)) ?_
                    refine And.intro (ob_move rfl (wt_none rfl) (ev_dep (j := 4) (by kernel_rfl) rfl rfl) (fun _ _ h => h)) ?_
                    refine And.intro (ob_extract rfl (wt_none rfl) (ev_dep (j := 5) (by kernel_rfl) rfl rfl) (fun w2 u hu => by obtain ⟨v, rfl, q1, q2⟩ := hu; exact ⟨v, rfl, q1, q2⟩)) ?_
                    refine And.intro (ob_extract rfl (wt_none rfl) (ev_dep (j := 5) (by kernel_rfl) rfl rfl) (fun w2 u hu => by obtain ⟨v, rfl, q1, q2⟩ := hu; exact ⟨_, rfl, rfl⟩)) ?_
                    refine And.intro (ob_alloc (z := .agg #[.bool false, .slice none 0 0, .slice none 0 0]) rfl rfl (fun _ => by kernel_rfl) (fun _ _ hB h => ⟨_, rfl, hB, h⟩)) ?_
                    trivial
                  case done43 =>
                    refine fun w12 hb12 v0 h0 v1 h1 v2 h2 v3 h3 v4 h4 v5 h5 v6 h6 v7 h7 v8 h8 d8 b hbf => ?_
                    obtain rfl := h0; obtain rfl := h1; obtain rfl := h2; obtain rfl := h3; obtain rfl := h7
                    clear h4
                    clear h5
                    obtain ⟨q6, f6⟩ := h6
                    obtain ⟨g43_8, rfl, hg8, B8⟩ := h8
                    simp only [Act.put, List.setIfInBounds_toArray, List.set_cons_zero, List.set_cons_succ] at hbf
                    subst hbf
                    replace Bx := Bx.below hb12
                    replace kxs := kxs.below hb12
                    replace kxd := kxd.below hb12
                    replace kxz := kxz.below hb12
                    replace kx := kx.below hb12
                    replace bb := bb.trans (hb12.mono bb.size)
                    have hsz12 := bb.size
                    replace bl := bl.trans (hb12.mono bl.size)
                    have BA9 := B8
                    obtain ⟨u6, t6, rfl, q6, d6⟩ := q6
                    obtain ⟨A9, c9, rfl, _⟩ := id q6
                    obtain ⟨D9, e9, rfl, _⟩ := id d6
                    refine ops_store (i := 9) rfl rfl rfl rfl rfl rfl (cells := [.bool (ngB (R).num), .slice A9 (digs 4294967296 (R).num.natAbs).length c9, .slice D9 (digs 4294967296 (R).den).length e9]) rfl BA9 rfl (by kernel_rfl) (one3 rfl rfl rfl) fun w13 hg13 BN13 => ?_
                    replace q6 := off q6 BA9 no_ints3 hg13
                    replace d6 := off d6 BA9 no_ints3 hg13
                    replace kxs := off kxs BA9 no_ints3 hg13
                    replace kxd := off kxd BA9 no_ints3 hg13
                    replace kxz : IsZ w13 (.agg #[.bool false, .slice Ax (digs 4294967296 (R).num.natAbs).length cx]) ((R).num) := isZ_mk kxs rfl HRN.out.symm
                    replace kx : IsQ w13 (.agg #[.bool false, .slice Ax (digs 4294967296 (R).num.natAbs).length cx, .slice Dx (digs 4294967296 (R).den).length ex]) (R) := isQ_mk kxs kxd HRN.out.symm rfl rfl
                    replace Bx := Bx.grown hg13 (by omega)
                    replace bb := bb.trans ((Below.refl _ _).grown hg13 bb.size (fun g hg => by injection hg with hg; omega))
                    have hsz13 := bb.size
                    have B9 : Blk w13 (g43_8) _ _ := BN13
                    have k9s := q6
                    have k9d := d6
                    have k9z : IsZ w13 (.agg #[.bool (ngB (R).num), .slice A9 (digs 4294967296 (R).num.natAbs).length c9]) ((R).num) := ⟨_, rfl, k9s⟩
                    have k9 : IsQ w13 (.agg #[.bool (ngB (R).num), .slice A9 (digs 4294967296 (R).num.natAbs).length c9, .slice D9 (digs 4294967296 (R).den).length e9]) (R) := ⟨_, _, rfl, k9s, k9d⟩
                    have hq_ := bl.size
                    replace bl := bl.trans ((Below.refl _ _).grown hg13 bl.size (fun g hg => by injection hg with hg; omega))
                    clear hq_
                    refine ops_assign (i := 10) (.int .i64 0) rfl rfl rfl rfl rfl fun b hbf => ?_
                    simp only [Act.put, List.setIfInBounds_toArray, List.set_cons_zero, List.set_cons_succ] at hbf
                    subst hbf
                    refine ops_done ?_
                    go_upto_region 16 with (fail)
                    refine flowp 8 [Pd.eq (.int .i64 0), Pd.eq (.bool false), Pd.eq (.bool false), Pd.eq (.agg #[.bool false, .slice Ax (digs 4294967296 (R).num.natAbs).length cx, .slice Dx (digs 4294967296 (R).den).length ex]), Pd.eq (.agg #[.bool (ngB (R).num), .slice A9 (digs 4294967296 (R).num.natAbs).length c9, .slice D9 (digs 4294967296 (R).den).length e9]), Pd.eq (.bool true), Pd.eq (.bool false), Pd.eq (.bool false)] (by kernel_rfl) ?ob44 ?done44
                    case ob44 =>
                      refine And.intro (ob_move rfl (wt_none rfl) (ev_far rfl rfl) (fun _ _ h => h)) ?_
                      refine And.intro (ob_bin rfl (wt_none rfl) (ev_dep (j := 0) (by kernel_rfl) rfl rfl) (ev_const _) (fun _ _ _ hx hy => ⟨.bool ((0 : Int) != 0), by rw [hx, hy]; exact bin_neq_int _ _ _ _ _, congrArg Value.bool (by decide)⟩)) ?_
                      refine And.intro (ob_move rfl (wt_none rfl) (ev_dep (j := 1) (by kernel_rfl) rfl rfl) (fun _ _ h => h)) ?_
                      refine And.intro (ob_load rfl (wt_dep (c := false) (b := false) (g := 2) rfl (by kernel_rfl) rfl rfl rfl (by exact fun _ _ h => h)) (ev_far rfl rfl) (fun w2 hb => run_loadAll Tryz.underlying27 rfl (by kernel_rfl) (Bx.below hb)) (fun _ _ => rfl)) ?_
                      refine And.intro (ob_load rfl (wt_dep (c := false) (b := false) (g := 2) rfl (by kernel_rfl) rfl rfl rfl (by exact fun _ _ h => h)) (ev_far rfl rfl) (fun w2 hb => run_loadAll Tryz.underlying27 rfl (by kernel_rfl) (B9.below hb)) (fun _ _ => rfl)) ?_
                      refine And.intro (ob_call2 rfl Tryz.func22 (by kernel_rfl) (wt_dep (c := false) (b := false) (g := 2) rfl (by kernel_rfl) rfl rfl rfl (by exact fun _ _ h => h)) (ev_dep (j := 3) (by kernel_rfl) rfl rfl) (ev_dep (j := 4) (by kernel_rfl) rfl rfl) (fun w2 u0 u1 hb h0 h1 => by obtain rfl := h0; obtain rfl := h1; exact (fsame_any _ _ (R) (R) true _ (kx.below hb) (k9.below hb) (lR.mono (by decide)) (lR.mono (by decide)) (decide_eq_true rfl).symm).mono fun e w3 h => RetV.pd h)) ?_
                      refine And.intro (ob_un rfl (wt_dep (c := false) (b := false) (g := 2) rfl (by kernel_rfl) rfl rfl rfl (by exact fun _ _ h => h)) (ev_dep (j := 5) (by kernel_rfl) rfl rfl) (fun _ => un_not _ _) (fun _ => rfl)) ?_
                      refine And.intro (ob_pick (b := false) rfl (wt_none rfl) (ev_dep (j := 2) (by kernel_rfl) rfl rfl) (ev_dep (j := 6) (by kernel_rfl) rfl rfl) (fun _ _ h => h)) ?_
                      trivial
                    case done44 =>
                      refine fun w14 hb14 v0 h0 v1 h1 v2 h2 v3 h3 v4 h4 v5 h5 v6 h6 v7 h7 b hbf => ?_
                      obtain rfl := h0; obtain rfl := h1; obtain rfl := h2; obtain rfl := h3; obtain rfl := h4; obtain rfl := h5; obtain rfl := h6; obtain rfl := h7
                      simp only [Act.put, List.setIfInBounds_toArray, List.set_cons_zero, List.set_cons_succ] at hbf
                      subst hbf
                      replace Bx := Bx.below hb14
                      replace kxs := kxs.below hb14
                      replace kxd := kxd.below hb14
                      replace kxz := kxz.below hb14
                      replace kx := kx.below hb14
                      replace B9 := B9.below hb14
                      replace k9s := k9s.below hb14
                      replace k9d := k9d.below hb14
                      replace k9z := k9z.below hb14
                      replace k9 := k9.below hb14
                      replace bb := bb.trans (hb14.mono bb.size)
                      have hsz14 := bb.size
                      replace bl := bl.trans (hb14.mono bl.size)
                      refine ops_done ?_
                      go_wp2
                      go_roundw
                      case rel => exact ⟨i + 1, by omega, bl, by go_num⟩
                      case measure => simp [intOf]; omega
                · go_wp2
                  go_ret
                  exact ⟨rfl, bb⟩
        · obtain ⟨X, hX⟩ : ∃ X, X = R.num.natAbs * 10 ^ n / R.den := ⟨_, rfl⟩
          have HX := Lib.hid hX
          have HD := Lib.hid hd
          have HM := Lib.hid hm
          have H2 := Lib.hid h2
          clear hX hd hm h2
          have GM := Lib.hid gm
          clear gm
          obtain ⟨y0, y1, y2, _, _, _⟩ := three Bx
          go_wp2_with fail
          refine (fprint9_any _ R _ kx (lR.mono (by decide))).mono ?_
          rintro e wa ⟨T0, rfl, hT0, ba⟩
          obtain rfl := hT0.is
          clear hT0 y0 y1 y2
          go_upto_region 6 with (fail)
          obtain ⟨wb, hwb, row, bab⟩ := row_lit1 wa w5.heap.size 9 (.string (ByteArray.mk (List.toArray (txtr (R) : List UInt8)))) ba.size
          rw [hwb]
          clear hwb
          have hbab := ba.trans (bab.mono ba.size)
          generalize hV : Value.slice (some ⟨wa.heap.size, 0, none⟩) 1 1 = V0 at row ⊢
          clear hV
          replace Bx := Bx.below hbab
          replace kxs := kxs.below hbab
          replace kxd := kxd.below hbab
          replace kxz := kxz.below hbab
          replace kx := kx.below hbab
          replace bb := bb.trans (hbab.mono bb.size)
          have hsz6 := bb.size
          replace bW := bW.trans (hbab.mono bW.size)
          refine flowp 7 [Pd.eq (.agg #[.bool false, .slice Ax (digs 4294967296 (R).num.natAbs).length cx, .slice Dx (digs 4294967296 (R).den).length ex]), Pd.eq (.tuple #[.string (ByteArray.mk (List.toArray (decT (ngB (R).num) X n : List UInt8))), .bool true]), Pd.eq (.tuple #[.string (ByteArray.mk (List.toArray (decT (ngB (R).num) X n : List UInt8))), .bool true]), Pd.eq (.string (ByteArray.mk (List.toArray (decT (ngB (R).num) X n : List UInt8)))), Pd.eq (.bool true), Pd.eq (.string (ByteArray.mk (List.toArray (decT (ngB (R).num) X n : List UInt8)))), Pd.eq (.bool true)] (by kernel_rfl) ?ob45 ?done45
          case ob45 =>
            refine And.intro (ob_load rfl (wt_none rfl) (ev_far rfl rfl) (fun w2 hb => run_loadAll Tryz.underlying27 rfl (by kernel_rfl) (Bx.below hb)) (fun _ _ => rfl)) ?_
            refine And.intro (ob_call1 rfl Tryz.func13 (by kernel_rfl) (wt_none rfl) (ev_dep (j := 0) (by kernel_rfl) rfl rfl) (fun w2 u0 hb h0 => by obtain rfl := h0; exact (fdec9_yes _ R n X _ (kx.below hb) (lR.mono (by decide)) HD.out HM.out H2.out HX.out).mono fun e w3 h => RetSB.pd h)) ?_
            refine And.intro (ob_move rfl (wt_none rfl) (ev_dep (j := 1) (by kernel_rfl) rfl rfl) (fun _ _ h => h)) ?_
            refine And.intro (ob_extract rfl (wt_none rfl) (ev_dep (j := 2) (by kernel_rfl) rfl rfl) (fun w2 u hu => by obtain rfl := hu; exact ⟨_, rfl, rfl⟩)) ?_
            refine And.intro (ob_extract rfl (wt_none rfl) (ev_dep (j := 2) (by kernel_rfl) rfl rfl) (fun w2 u hu => by obtain rfl := hu; exact ⟨_, rfl, rfl⟩)) ?_
            refine And.intro (ob_assign rfl (wt_none rfl) (ev_dep (j := 3) (by kernel_rfl) rfl rfl) (fun _ _ h => h)) ?_
            refine And.intro (ob_assign rfl (wt_none rfl) (ev_dep (j := 4) (by kernel_rfl) rfl rfl) (fun _ _ h => h)) ?_
            trivial
          case done45 =>
            refine fun w7 hb7 v0 h0 v1 h1 v2 h2 v3 h3 v4 h4 v5 h5 v6 h6 b hbf => ?_
            obtain rfl := h0; obtain rfl := h1; obtain rfl := h2; obtain rfl := h3; obtain rfl := h4; obtain rfl := h5; obtain rfl := h6
            simp only [Act.put, List.setIfInBounds_toArray, List.set_cons_zero, List.set_cons_succ] at hbf
            subst hbf
            replace Bx := Bx.below hb7
            replace kxs := kxs.below hb7
            replace kxd := kxd.below hb7
            replace kxz := kxz.below hb7
            replace kx := kx.below hb7
            replace row := row.below hb7
            replace bb := bb.trans (hb7.mono bb.size)
            have hsz7 := bb.size
            replace bW := bW.trans (hb7.mono bW.size)
            refine ops_done ?_
            go_upto_region 9 with (at_builtin; refine wpList_append_str rfl (.tmp 26) (.tmp 28) rfl Tryz.underlying55 info_str rfl row rfl rfl (by simp) bW.size ?_; intro V1 wq1 row1 bd1)
            replace bb := bb.trans (bd1.mono hszW)
            replace bW := bW.trans bd1
            clear row
            have row := row1
            clear row1
            replace Bx := oBx.below bW
            replace kxs := okxs.below bW
            replace kxd := okxd.below bW
            replace kxz := okxz.below bW
            replace kx := okx.below bW
            have hsz8_ := bb.size
            refine flowp 7 [Pd.eq (.agg #[.bool false, .slice Ax (digs 4294967296 (R).num.natAbs).length cx, .slice Dx (digs 4294967296 (R).den).length ex]), Pd.eq (.tuple #[.string (ByteArray.mk (List.toArray ([] : List UInt8))), .bool false]), Pd.eq (.tuple #[.string (ByteArray.mk (List.toArray ([] : List UInt8))), .bool false]), Pd.eq (.string (ByteArray.mk (List.toArray ([] : List UInt8)))), Pd.eq (.bool false), Pd.eq (.string (ByteArray.mk (List.toArray ([] : List UInt8)))), Pd.eq (.bool false)] (by kernel_rfl) ?ob46 ?done46
            case ob46 =>
              refine And.intro (ob_load rfl (wt_none rfl) (ev_far rfl rfl) (fun w2 hb => run_loadAll Tryz.underlying27 rfl (by kernel_rfl) (Bx.below hb)) (fun _ _ => rfl)) ?_
              refine And.intro (ob_call1 rfl Tryz.func15 (by kernel_rfl) (wt_none rfl) (ev_dep (j := 0) (by kernel_rfl) rfl rfl) (fun w2 u0 hb h0 => by obtain rfl := h0; exact (fpct9_no _ R _ (kx.below hb) (lR.mono (by decide)) GM.out).mono fun e w3 h => RetSB.pd h)) ?_
              refine And.intro (ob_move rfl (wt_none rfl) (ev_dep (j := 1) (by kernel_rfl) rfl rfl) (fun _ _ h => h)) ?_
              refine And.intro (ob_extract rfl (wt_none rfl) (ev_dep (j := 2) (by kernel_rfl) rfl rfl) (fun w2 u hu => by obtain rfl := hu; exact ⟨_, rfl, rfl⟩)) ?_
              refine And.intro (ob_extract rfl (wt_none rfl) (ev_dep (j := 2) (by kernel_rfl) rfl rfl) (fun w2 u hu => by obtain rfl := hu; exact ⟨_, rfl, rfl⟩)) ?_
              refine And.intro (ob_assign rfl (wt_none rfl) (ev_dep (j := 3) (by kernel_rfl) rfl rfl) (fun _ _ h => h)) ?_
              refine And.intro (ob_assign rfl (wt_none rfl) (ev_dep (j := 4) (by kernel_rfl) rfl rfl) (fun _ _ h => h)) ?_
              trivial
            case done46 =>
              refine fun w9 hb9 v0 h0 v1 h1 v2 h2 v3 h3 v4 h4 v5 h5 v6 h6 b hbf => ?_
              obtain rfl := h0; obtain rfl := h1; obtain rfl := h2; obtain rfl := h3; obtain rfl := h4; obtain rfl := h5; obtain rfl := h6
              simp only [Act.put, List.setIfInBounds_toArray, List.set_cons_zero, List.set_cons_succ] at hbf
              subst hbf
              replace Bx := Bx.below hb9
              replace kxs := kxs.below hb9
              replace kxd := kxd.below hb9
              replace kxz := kxz.below hb9
              replace kx := kx.below hb9
              replace row := row.below hb9
              replace bb := bb.trans (hb9.mono bb.size)
              have hsz9 := bb.size
              replace bW := bW.trans (hb9.mono bW.size)
              refine ops_done ?_
              have HTs : Hid (∀ T ∈ ([txtr (R), decT (ngB (R).num) X n] : List (List UInt8)), Reads R T) := by
                intro T hT
                rcases List.mem_cons.1 hT with rfl | hT
                · exact ⟨read_print (ngB_false HRN.out), Nat.le_trans (txtr_short lR) (by omega)⟩
                obtain rfl := List.mem_singleton.1 hT
                exact ⟨read_decT HRN.out HX.out HD.out, Nat.le_trans (decT_short (lR.mono (by decide)) H2.out HX.out) (by omega)⟩
              have hrow := RowV.isV row
              obtain ⟨A3, c3, rfl, hc3, hcells⟩ := hrow
              have HCE := Lib.hid hcells
              clear hcells
              generalize hTs : ([txtr (R), decT (ngB (R).num) X n] : List (List UInt8)) = Ts at HTs
              have hvs : ∀ (j : Nat) (T : List UInt8), Ts[j]? = some T → ∃ ad, A3 = some ad ∧ w9.cell? (ad.add j) = some (.string ⟨T.toArray⟩) := by
                intro j T hT
                refine HCE.out j _ ?_
                subst hTs
                have := congrArg (Option.map fun T : List UInt8 => Value.string ⟨T.toArray⟩) hT
                rw [← List.getElem?_map] at this
                exact this
              have hTl : Ts.length = 2 := by rw [← hTs]; rfl
              have HVS := Lib.hid hvs
              have HTL := Lib.hid hTl
              clear hvs hTl hTs HCE row
              go_wp2
              go_loopw [8] (fun v8 wr => ∃ i : Nat, i ≤ 2 ∧ Below w9.heap.size w9 wr ∧ v8 = .int .i64 (i : Int)) (fun v8 _ => 2 - (intOf v8).toNat)
              case atStart => exact ⟨0, by omega, Below.refl _ _, rfl⟩
              case round =>
                obtain ⟨i, hi, hbr, rfl⟩ := hrel
                have bl := hbr
                have hblz := hbr.size
                replace Bx := Bx.below hbr
                replace kxs := kxs.below hbr
                replace kxd := kxd.below hbr
                replace kxz := kxz.below hbr
                replace kx := kx.below hbr
                replace bb := bb.trans (hbr.mono bb.size)
                have hsz10 := bb.size
                by_cases hlt : i < 2
                · skip
                  obtain ⟨T, hT⟩ : ∃ T, Ts[i]? = some T := ⟨_, List.getElem?_eq_getElem (by have := HTL.out; omega)⟩
                  have hRT := HTs.out T (List.mem_of_getElem? hT)
                  have HRT := Lib.hid hRT.1
                  have hTlen := hRT.2
                  obtain ⟨ad, hA3, hcell0⟩ := HVS.out i T hT
                  subst hA3
                  have hcell := (hbr.cell (World.block_lt_of_cell? w9 _ hcell0)).trans hcell0
                  clear hT hRT hcell0
                  go_upto_region 15 with (fail)
                  have lt10_1 := Blk.lt Bx
                  refine flowp 9 [Pd.eq (.slice (some ad) 2 c3), Pd.eq (.int .i64 (i : Int)), Pd.eq (.pointer (some (ad.add i))), Pd.eq (.string (ByteArray.mk (List.toArray (T : List UInt8)))), pqf (R) 0 wr.heap.size, pqf (R) 0 wr.heap.size, pq (R) wr.heap.size, Pd.eq (.int .i64 0), pn 27 #[.bool false, .slice none 0 0, .slice none 0 0] wr.heap.size] (by kernel_rfl) ?ob47 ?done47
                  case ob47 =>
                    refine And.intro (ob_move rfl (wt_none rfl) (ev_far rfl rfl) (fun _ _ h => h)) ?_
                    refine And.intro (ob_move rfl (wt_none rfl) (ev_far rfl rfl) (fun _ _ h => h)) ?_
                    refine And.intro (ob_indexAddr rfl (wt_none rfl) (ev_dep (j := 0) (by kernel_rfl) rfl rfl) (ev_dep (j := 1) (by kernel_rfl) rfl rfl) (fun _ _ _ hx hy => ⟨_, by rw [hx, hy]; exact index_row Tryz.underlying55 (by kernel_rfl) ad hlt _, rfl⟩)) ?_
                    refine And.intro (ob_load rfl (wt_none rfl) (ev_dep (j := 2) (by kernel_rfl) rfl rfl) (fun w2 hb => run_load1 Tryz.underlying9 rfl ((hb.cell (World.block_lt_of_cell? wr _ hcell)).trans hcell)) (fun _ _ => rfl)) ?_
                    refine And.intro (ob_call1 rfl Tryz.func6 (by kernel_rfl) (wt_none rfl) (ev_dep (j := 3) (by kernel_rfl) rfl rfl) (fun w2 u0 hb h0 => by obtain rfl := h0; exact (fparse9_ok T R _ (by first | decide | omega) HRT.out).mono fun e w3 h => RetQF.pd h hb.size)) ?_
                    refine And.intro (ob_move rfl (wt_none rfl) (ev_dep (j := 4) (by kernel_rfl) rfl rfl) (fun _ _ h => h)) ?_
                    refine And.intro (ob_extract rfl (wt_none rfl) (ev_dep (j := 5) (by kernel_rfl) rfl rfl) (fun w2 u hu => by obtain ⟨v, rfl, q1, q2⟩ := hu; exact ⟨v, rfl, q1, q2⟩)) ?_
                    refine And.intro (ob_extract rfl (wt_none rfl) (ev_dep (j := 5) (by kernel_rfl) rfl rfl) (fun w2 u hu => by obtain ⟨v, rfl, q1, q2⟩ := hu; exact ⟨_, rfl, rfl⟩)) ?_
                    refine And.intro (ob_alloc (z := .agg #[.bool false, .slice none 0 0, .slice none 0 0]) rfl rfl (fun _ => by kernel_rfl) (fun _ _ hB h => ⟨_, rfl, hB, h⟩)) ?_
                    trivial
                  case done47 =>
                    refine fun w11 hb11 v0 h0 v1 h1 v2 h2 v3 h3 v4 h4 v5 h5 v6 h6 v7 h7 v8 h8 d8 b hbf => ?_
                    obtain rfl := h0; obtain rfl := h1; obtain rfl := h2; obtain rfl := h3; obtain rfl := h7
                    clear h4
                    clear h5
                    obtain ⟨q6, f6⟩ := h6
                    obtain ⟨g47_8, rfl, hg8, B8⟩ := h8
                    simp only [Act.put, List.setIfInBounds_toArray, List.set_cons_zero, List.set_cons_succ] at hbf
                    subst hbf
                    replace Bx := Bx.below hb11
                    replace kxs := kxs.below hb11
                    replace kxd := kxd.below hb11
                    replace kxz := kxz.below hb11
                    replace kx := kx.below hb11
                    replace bb := bb.trans (hb11.mono bb.size)
                    have hsz11 := bb.size
                    replace bl := bl.trans (hb11.mono bl.size)
                    have BA9 := B8
                    obtain ⟨u6, t6, rfl, q6, d6⟩ := q6
                    obtain ⟨A9, c9, rfl, _⟩ := id q6
                    obtain ⟨D9, e9, rfl, _⟩ := id d6
                    refine ops_store (i := 9) rfl rfl rfl rfl rfl rfl (cells := [.bool (ngB (R).num), .slice A9 (digs 4294967296 (R).num.natAbs).length c9, .slice D9 (digs 4294967296 (R).den).length e9]) rfl BA9 rfl (by kernel_rfl) (one3 rfl rfl rfl) fun w12 hg12 BN12 => ?_
                    replace q6 := off q6 BA9 no_ints3 hg12
                    replace d6 := off d6 BA9 no_ints3 hg12
                    replace kxs := off kxs BA9 no_ints3 hg12
                    replace kxd := off kxd BA9 no_ints3 hg12
                    replace kxz : IsZ w12 (.agg #[.bool false, .slice Ax (digs 4294967296 (R).num.natAbs).length cx]) ((R).num) := isZ_mk kxs rfl HRN.out.symm
                    replace kx : IsQ w12 (.agg #[.bool false, .slice Ax (digs 4294967296 (R).num.natAbs).length cx, .slice Dx (digs 4294967296 (R).den).length ex]) (R) := isQ_mk kxs kxd HRN.out.symm rfl rfl
                    replace Bx := Bx.grown hg12 (by omega)
                    replace bb := bb.trans ((Below.refl _ _).grown hg12 bb.size (fun g hg => by injection hg with hg; omega))
                    have hsz12 := bb.size
                    have B9 : Blk w12 (g47_8) _ _ := BN12
                    have k9s := q6
                    have k9d := d6
                    have k9z : IsZ w12 (.agg #[.bool (ngB (R).num), .slice A9 (digs 4294967296 (R).num.natAbs).length c9]) ((R).num) := ⟨_, rfl, k9s⟩
                    have k9 : IsQ w12 (.agg #[.bool (ngB (R).num), .slice A9 (digs 4294967296 (R).num.natAbs).length c9, .slice D9 (digs 4294967296 (R).den).length e9]) (R) := ⟨_, _, rfl, k9s, k9d⟩
                    have hq_ := bl.size
                    replace bl := bl.trans ((Below.refl _ _).grown hg12 bl.size (fun g hg => by injection hg with hg; omega))
                    clear hq_
                    refine ops_assign (i := 10) (.int .i64 0) rfl rfl rfl rfl rfl fun b hbf => ?_
                    simp only [Act.put, List.setIfInBounds_toArray, List.set_cons_zero, List.set_cons_succ] at hbf
                    subst hbf
                    refine ops_done ?_
                    go_upto_region 16 with (fail)
                    refine flowp 8 [Pd.eq (.int .i64 0), Pd.eq (.bool false), Pd.eq (.bool false), Pd.eq (.agg #[.bool false, .slice Ax (digs 4294967296 (R).num.natAbs).length cx, .slice Dx (digs 4294967296 (R).den).length ex]), Pd.eq (.agg #[.bool (ngB (R).num), .slice A9 (digs 4294967296 (R).num.natAbs).length c9, .slice D9 (digs 4294967296 (R).den).length e9]), Pd.eq (.bool true), Pd.eq (.bool false), Pd.eq (.bool false)] (by kernel_rfl) ?ob48 ?done48
                    case ob48 =>
                      refine And.intro (ob_move rfl (wt_none rfl) (ev_far rfl rfl) (fun _ _ h => h)) ?_
                      refine And.intro (ob_bin rfl (wt_none rfl) (ev_dep (j := 0) (by kernel_rfl) rfl rfl) (ev_const _) (fun _ _ _ hx hy => ⟨.bool ((0 : Int) != 0), by rw [hx, hy]; exact bin_neq_int _ _ _ _ _, congrArg Value.bool (by decide)⟩)) ?_
                      refine And.intro (ob_move rfl (wt_none rfl) (ev_dep (j := 1) (by kernel_rfl) rfl rfl) (fun _ _ h => h)) ?_
                      refine And.intro (ob_load rfl (wt_dep (c := false) (b := false) (g := 2) rfl (by kernel_rfl) rfl rfl rfl (by exact fun _ _ h => h)) (ev_far rfl rfl) (fun w2 hb => run_loadAll Tryz.underlying27 rfl (by kernel_rfl) (Bx.below hb)) (fun _ _ => rfl)) ?_
                      refine And.intro (ob_load rfl (wt_dep (c := false) (b := false) (g := 2) rfl (by kernel_rfl) rfl rfl rfl (by exact fun _ _ h => h)) (ev_far rfl rfl) (fun w2 hb => run_loadAll Tryz.underlying27 rfl (by kernel_rfl) (B9.below hb)) (fun _ _ => rfl)) ?_
                      refine And.intro (ob_call2 rfl Tryz.func22 (by kernel_rfl) (wt_dep (c := false) (b := false) (g := 2) rfl (by kernel_rfl) rfl rfl rfl (by exact fun _ _ h => h)) (ev_dep (j := 3) (by kernel_rfl) rfl rfl) (ev_dep (j := 4) (by kernel_rfl) rfl rfl) (fun w2 u0 u1 hb h0 h1 => by obtain rfl := h0; obtain rfl := h1; exact (fsame_any _ _ (R) (R) true _ (kx.below hb) (k9.below hb) (lR.mono (by decide)) (lR.mono (by decide)) (decide_eq_true rfl).symm).mono fun e w3 h => RetV.pd h)) ?_
                      refine And.intro (ob_un rfl (wt_dep (c := false) (b := false) (g := 2) rfl (by kernel_rfl) rfl rfl rfl (by exact fun _ _ h => h)) (ev_dep (j := 5) (by kernel_rfl) rfl rfl) (fun _ => un_not _ _) (fun _ => rfl)) ?_
                      refine And.intro (ob_pick (b := false) rfl (wt_none rfl) (ev_dep (j := 2) (by kernel_rfl) rfl rfl) (ev_dep (j := 6) (by kernel_rfl) rfl rfl) (fun _ _ h => h)) ?_
                      trivial
                    case done48 =>
                      refine fun w13 hb13 v0 h0 v1 h1 v2 h2 v3 h3 v4 h4 v5 h5 v6 h6 v7 h7 b hbf => ?_
                      obtain rfl := h0; obtain rfl := h1; obtain rfl := h2; obtain rfl := h3; obtain rfl := h4; obtain rfl := h5; obtain rfl := h6; obtain rfl := h7
                      simp only [Act.put, List.setIfInBounds_toArray, List.set_cons_zero, List.set_cons_succ] at hbf
                      subst hbf
                      replace Bx := Bx.below hb13
                      replace kxs := kxs.below hb13
                      replace kxd := kxd.below hb13
                      replace kxz := kxz.below hb13
                      replace kx := kx.below hb13
                      replace B9 := B9.below hb13
                      replace k9s := k9s.below hb13
                      replace k9d := k9d.below hb13
                      replace k9z := k9z.below hb13
                      replace k9 := k9.below hb13
                      replace bb := bb.trans (hb13.mono bb.size)
                      have hsz13 := bb.size
                      replace bl := bl.trans (hb13.mono bl.size)
                      refine ops_done ?_
                      go_wp2
                      go_roundw
                      case rel => exact ⟨i + 1, by omega, bl, by go_num⟩
                      case measure => simp [intOf]; omega
                · go_wp2
                  go_ret
                  exact ⟨rfl, bb⟩
        · have HM := Lib.hid hm
          clear hm
          obtain ⟨Y, hY⟩ : ∃ Y, Y = (R * 100).num.natAbs * 10 ^ k / (R * 100).den := ⟨_, rfl⟩
          have GX := Lib.hid hY
          have GD := Lib.hid gd
          have GM := Lib.hid gm
          have G2 := Lib.hid g2
          clear hY gd gm g2
          obtain ⟨y0, y1, y2, _, _, _⟩ := three Bx
          go_wp2_with fail
          refine (fprint9_any _ R _ kx (lR.mono (by decide))).mono ?_
          rintro e wa ⟨T0, rfl, hT0, ba⟩
          obtain rfl := hT0.is
          clear hT0 y0 y1 y2
          go_upto_region 6 with (fail)
          obtain ⟨wb, hwb, row, bab⟩ := row_lit1 wa w5.heap.size 9 (.string (ByteArray.mk (List.toArray (txtr (R) : List UInt8)))) ba.size
          rw [hwb]
          clear hwb
          have hbab := ba.trans (bab.mono ba.size)
          generalize hV : Value.slice (some ⟨wa.heap.size, 0, none⟩) 1 1 = V0 at row ⊢
          clear hV
          replace Bx := Bx.below hbab
          replace kxs := kxs.below hbab
          replace kxd := kxd.below hbab
          replace kxz := kxz.below hbab
          replace kx := kx.below hbab
          replace bb := bb.trans (hbab.mono bb.size)
          have hsz6 := bb.size
          replace bW := bW.trans (hbab.mono bW.size)
          refine flowp 7 [Pd.eq (.agg #[.bool false, .slice Ax (digs 4294967296 (R).num.natAbs).length cx, .slice Dx (digs 4294967296 (R).den).length ex]), Pd.eq (.tuple #[.string (ByteArray.mk (List.toArray ([] : List UInt8))), .bool false]), Pd.eq (.tuple #[.string (ByteArray.mk (List.toArray ([] : List UInt8))), .bool false]), Pd.eq (.string (ByteArray.mk (List.toArray ([] : List UInt8)))), Pd.eq (.bool false), Pd.eq (.string (ByteArray.mk (List.toArray ([] : List UInt8)))), Pd.eq (.bool false)] (by kernel_rfl) ?ob49 ?done49
          case ob49 =>
            refine And.intro (ob_load rfl (wt_none rfl) (ev_far rfl rfl) (fun w2 hb => run_loadAll Tryz.underlying27 rfl (by kernel_rfl) (Bx.below hb)) (fun _ _ => rfl)) ?_
            refine And.intro (ob_call1 rfl Tryz.func13 (by kernel_rfl) (wt_none rfl) (ev_dep (j := 0) (by kernel_rfl) rfl rfl) (fun w2 u0 hb h0 => by obtain rfl := h0; exact (fdec9_no _ R _ (kx.below hb) (lR.mono (by decide)) HM.out).mono fun e w3 h => RetSB.pd h)) ?_
            refine And.intro (ob_move rfl (wt_none rfl) (ev_dep (j := 1) (by kernel_rfl) rfl rfl) (fun _ _ h => h)) ?_
            refine And.intro (ob_extract rfl (wt_none rfl) (ev_dep (j := 2) (by kernel_rfl) rfl rfl) (fun w2 u hu => by obtain rfl := hu; exact ⟨_, rfl, rfl⟩)) ?_
            refine And.intro (ob_extract rfl (wt_none rfl) (ev_dep (j := 2) (by kernel_rfl) rfl rfl) (fun w2 u hu => by obtain rfl := hu; exact ⟨_, rfl, rfl⟩)) ?_
            refine And.intro (ob_assign rfl (wt_none rfl) (ev_dep (j := 3) (by kernel_rfl) rfl rfl) (fun _ _ h => h)) ?_
            refine And.intro (ob_assign rfl (wt_none rfl) (ev_dep (j := 4) (by kernel_rfl) rfl rfl) (fun _ _ h => h)) ?_
            trivial
          case done49 =>
            refine fun w7 hb7 v0 h0 v1 h1 v2 h2 v3 h3 v4 h4 v5 h5 v6 h6 b hbf => ?_
            obtain rfl := h0; obtain rfl := h1; obtain rfl := h2; obtain rfl := h3; obtain rfl := h4; obtain rfl := h5; obtain rfl := h6
            simp only [Act.put, List.setIfInBounds_toArray, List.set_cons_zero, List.set_cons_succ] at hbf
            subst hbf
            replace Bx := Bx.below hb7
            replace kxs := kxs.below hb7
            replace kxd := kxd.below hb7
            replace kxz := kxz.below hb7
            replace kx := kx.below hb7
            replace row := row.below hb7
            replace bb := bb.trans (hb7.mono bb.size)
            have hsz7 := bb.size
            replace bW := bW.trans (hb7.mono bW.size)
            refine ops_done ?_
            go_upto_region 9 with (fail)
            refine flowp 7 [Pd.eq (.agg #[.bool false, .slice Ax (digs 4294967296 (R).num.natAbs).length cx, .slice Dx (digs 4294967296 (R).den).length ex]), Pd.eq (.tuple #[.string (ByteArray.mk (List.toArray (decT (ngB (R * 100).num) Y k ++ [37] : List UInt8))), .bool true]), Pd.eq (.tuple #[.string (ByteArray.mk (List.toArray (decT (ngB (R * 100).num) Y k ++ [37] : List UInt8))), .bool true]), Pd.eq (.string (ByteArray.mk (List.toArray (decT (ngB (R * 100).num) Y k ++ [37] : List UInt8)))), Pd.eq (.bool true), Pd.eq (.string (ByteArray.mk (List.toArray (decT (ngB (R * 100).num) Y k ++ [37] : List UInt8)))), Pd.eq (.bool true)] (by kernel_rfl) ?ob50 ?done50
            case ob50 =>
              refine And.intro (ob_load rfl (wt_none rfl) (ev_far rfl rfl) (fun w2 hb => run_loadAll Tryz.underlying27 rfl (by kernel_rfl) (Bx.below hb)) (fun _ _ => rfl)) ?_
              refine And.intro (ob_call1 rfl Tryz.func15 (by kernel_rfl) (wt_none rfl) (ev_dep (j := 0) (by kernel_rfl) rfl rfl) (fun w2 u0 hb h0 => by obtain rfl := h0; exact (fpct9_yes _ R k Y _ (kx.below hb) (lR.mono (by decide)) GD.out GM.out G2.out GX.out).mono fun e w3 h => RetSB.pd h)) ?_
              refine And.intro (ob_move rfl (wt_none rfl) (ev_dep (j := 1) (by kernel_rfl) rfl rfl) (fun _ _ h => h)) ?_
              refine And.intro (ob_extract rfl (wt_none rfl) (ev_dep (j := 2) (by kernel_rfl) rfl rfl) (fun w2 u hu => by obtain rfl := hu; exact ⟨_, rfl, rfl⟩)) ?_
              refine And.intro (ob_extract rfl (wt_none rfl) (ev_dep (j := 2) (by kernel_rfl) rfl rfl) (fun w2 u hu => by obtain rfl := hu; exact ⟨_, rfl, rfl⟩)) ?_
              refine And.intro (ob_assign rfl (wt_none rfl) (ev_dep (j := 3) (by kernel_rfl) rfl rfl) (fun _ _ h => h)) ?_
              refine And.intro (ob_assign rfl (wt_none rfl) (ev_dep (j := 4) (by kernel_rfl) rfl rfl) (fun _ _ h => h)) ?_
              trivial
            case done50 =>
              refine fun w8 hb8 v0 h0 v1 h1 v2 h2 v3 h3 v4 h4 v5 h5 v6 h6 b hbf => ?_
              obtain rfl := h0; obtain rfl := h1; obtain rfl := h2; obtain rfl := h3; obtain rfl := h4; obtain rfl := h5; obtain rfl := h6
              simp only [Act.put, List.setIfInBounds_toArray, List.set_cons_zero, List.set_cons_succ] at hbf
              subst hbf
              replace Bx := Bx.below hb8
              replace kxs := kxs.below hb8
              replace kxd := kxd.below hb8
              replace kxz := kxz.below hb8
              replace kx := kx.below hb8
              replace row := row.below hb8
              replace bb := bb.trans (hb8.mono bb.size)
              have hsz8 := bb.size
              replace bW := bW.trans (hb8.mono bW.size)
              refine ops_done ?_
              go_upto_region 12 with (at_builtin; refine wpList_append_str rfl (.tmp 36) (.tmp 38) rfl Tryz.underlying55 info_str rfl row rfl rfl (by simp) bW.size ?_; intro V1 wq1 row1 bd1)
              replace bb := bb.trans (bd1.mono hszW)
              replace bW := bW.trans bd1
              clear row
              have row := row1
              clear row1
              replace Bx := oBx.below bW
              replace kxs := okxs.below bW
              replace kxd := okxd.below bW
              replace kxz := okxz.below bW
              replace kx := okx.below bW
              have hsz9_ := bb.size
              have HTs : Hid (∀ T ∈ ([txtr (R), decT (ngB (R * 100).num) Y k ++ [37]] : List (List UInt8)), Reads R T) := by
                intro T hT
                rcases List.mem_cons.1 hT with rfl | hT
                · exact ⟨read_print (ngB_false HRN.out), Nat.le_trans (txtr_short lR) (by omega)⟩
                obtain rfl := List.mem_singleton.1 hT
                exact ⟨read_pctT HRN.out GX.out GD.out, by have := decT_short (b := ngB (R * 100).num) lh G2.out GX.out; simp; omega⟩
              have hrow := RowV.isV row
              obtain ⟨A3, c3, rfl, hc3, hcells⟩ := hrow
              have HCE := Lib.hid hcells
              clear hcells
              generalize hTs : ([txtr (R), decT (ngB (R * 100).num) Y k ++ [37]] : List (List UInt8)) = Ts at HTs
              have hvs : ∀ (j : Nat) (T : List UInt8), Ts[j]? = some T → ∃ ad, A3 = some ad ∧ wq1.cell? (ad.add j) = some (.string ⟨T.toArray⟩) := by
                intro j T hT
                refine HCE.out j _ ?_
                subst hTs
                have := congrArg (Option.map fun T : List UInt8 => Value.string ⟨T.toArray⟩) hT
                rw [← List.getElem?_map] at this
                exact this
              have hTl : Ts.length = 2 := by rw [← hTs]; rfl
              have HVS := Lib.hid hvs
              have HTL := Lib.hid hTl
              clear hvs hTl hTs HCE row
              go_wp2
              go_loopw [8] (fun v8 wr => ∃ i : Nat, i ≤ 2 ∧ Below wq1.heap.size wq1 wr ∧ v8 = .int .i64 (i : Int)) (fun v8 _ => 2 - (intOf v8).toNat)
              case atStart => exact ⟨0, by omega, Below.refl _ _, rfl⟩
              case round =>
                obtain ⟨i, hi, hbr, rfl⟩ := hrel
                have bl := hbr
                have hblz := hbr.size
                replace Bx := Bx.below hbr
                replace kxs := kxs.below hbr
                replace kxd := kxd.below hbr
                replace kxz := kxz.below hbr
                replace kx := kx.below hbr
                replace bb := bb.trans (hbr.mono bb.size)
                have hsz10 := bb.size
                by_cases hlt : i < 2
                · skip
                  obtain ⟨T, hT⟩ : ∃ T, Ts[i]? = some T := ⟨_, List.getElem?_eq_getElem (by have := HTL.out; omega)⟩
                  have hRT := HTs.out T (List.mem_of_getElem? hT)
                  have HRT := Lib.hid hRT.1
                  have hTlen := hRT.2
                  obtain ⟨ad, hA3, hcell0⟩ := HVS.out i T hT
                  subst hA3
                  have hcell := (hbr.cell (World.block_lt_of_cell? wq1 _ hcell0)).trans hcell0
                  clear hT hRT hcell0
                  go_upto_region 15 with (fail)
                  have lt10_1 := Blk.lt Bx
                  refine flowp 9 [Pd.eq (.slice (some ad) 2 c3), Pd.eq (.int .i64 (i : Int)), Pd.eq (.pointer (some (ad.add i))), Pd.eq (.string (ByteArray.mk (List.toArray (T : List UInt8)))), pqf (R) 0 wr.heap.size, pqf (R) 0 wr.heap.size, pq (R) wr.heap.size, Pd.eq (.int .i64 0), pn 27 #[.bool false, .slice none 0 0, .slice none 0 0] wr.heap.size] (by kernel_rfl) ?ob51 ?done51
                  case ob51 =>
                    refine And.intro (ob_move rfl (wt_none rfl) (ev_far rfl rfl) (fun _ _ h => h)) ?_
                    refine And.intro (ob_move rfl (wt_none rfl) (ev_far rfl rfl) (fun _ _ h => h)) ?_
                    refine And.intro (ob_indexAddr rfl (wt_none rfl) (ev_dep (j := 0) (by kernel_rfl) rfl rfl) (ev_dep (j := 1) (by kernel_rfl) rfl rfl) (fun _ _ _ hx hy => ⟨_, by rw [hx, hy]; exact index_row Tryz.underlying55 (by kernel_rfl) ad hlt _, rfl⟩)) ?_
                    refine And.intro (ob_load rfl (wt_none rfl) (ev_dep (j := 2) (by kernel_rfl) rfl rfl) (fun w2 hb => run_load1 Tryz.underlying9 rfl ((hb.cell (World.block_lt_of_cell? wr _ hcell)).trans hcell)) (fun _ _ => rfl)) ?_
                    refine And.intro (ob_call1 rfl Tryz.func6 (by kernel_rfl) (wt_none rfl) (ev_dep (j := 3) (by kernel_rfl) rfl rfl) (fun w2 u0 hb h0 => by obtain rfl := h0; exact (fparse9_ok T R _ (by first | decide | omega) HRT.out).mono fun e w3 h => RetQF.pd h hb.size)) ?_
                    refine And.intro (ob_move rfl (wt_none rfl) (ev_dep (j := 4) (by kernel_rfl) rfl rfl) (fun _ _ h => h)) ?_
                    refine And.intro (ob_extract rfl (wt_none rfl) (ev_dep (j := 5) (by kernel_rfl) rfl rfl) (fun w2 u hu => by obtain ⟨v, rfl, q1, q2⟩ := hu; exact ⟨v, rfl, q1, q2⟩)) ?_
                    refine And.intro (ob_extract rfl (wt_none rfl) (ev_dep (j := 5) (by kernel_rfl) rfl rfl) (fun w2 u hu => by obtain ⟨v, rfl, q1, q2⟩ := hu; exact ⟨_, rfl, rfl⟩)) ?_
                    refine And.intro (ob_alloc (z := .agg #[.bool false, .slice none 0 0, .slice none 0 0]) rfl rfl (fun _ => by kernel_rfl) (fun _ _ hB h => ⟨_, rfl, hB, h⟩)) ?_
                    trivial
                  case done51 =>
                    refine fun w11 hb11 v0 h0 v1 h1 v2 h2 v3 h3 v4 h4 v5 h5 v6 h6 v7 h7 v8 h8 d8 b hbf => ?_
                    obtain rfl := h0; obtain rfl := h1; obtain rfl := h2; obtain rfl := h3; obtain rfl := h7
                    clear h4
                    clear h5
                    obtain ⟨q6, f6⟩ := h6
                    obtain ⟨g51_8, rfl, hg8, B8⟩ := h8
                    simp only [Act.put, List.setIfInBounds_toArray, List.set_cons_zero, List.set_cons_succ] at hbf
                    subst hbf
                    replace Bx := Bx.below hb11
                    replace kxs := kxs.below hb11
                    replace kxd := kxd.below hb11
                    replace kxz := kxz.below hb11
                    replace kx := kx.below hb11
                    replace bb := bb.trans (hb11.mono bb.size)
                    have hsz11 := bb.size
                    replace bl := bl.trans (hb11.mono bl.size)
                    have BA9 := B8
                    obtain ⟨u6, t6, rfl, q6, d6⟩ := q6
                    obtain ⟨A9, c9, rfl, _⟩ := id q6
                    obtain ⟨D9, e9, rfl, _⟩ := id d6
                    refine ops_store (i := 9) rfl rfl rfl rfl rfl rfl (cells := [.bool (ngB (R).num), .slice A9 (digs 4294967296 (R).num.natAbs).length c9, .slice D9 (digs 4294967296 (R).den).length e9]) rfl BA9 rfl (by kernel_rfl) (one3 rfl rfl rfl) fun w12 hg12 BN12 => ?_
                    replace q6 := off q6 BA9 no_ints3 hg12
                    replace d6 := off d6 BA9 no_ints3 hg12
                    replace kxs := off kxs BA9 no_ints3 hg12
                    replace kxd := off kxd BA9 no_ints3 hg12
                    replace kxz : IsZ w12 (.agg #[.bool false, .slice Ax (digs 4294967296 (R).num.natAbs).length cx]) ((R).num) := isZ_mk kxs rfl HRN.out.symm
                    replace kx : IsQ w12 (.agg #[.bool false, .slice Ax (digs 4294967296 (R).num.natAbs).length cx, .slice Dx (digs 4294967296 (R).den).length ex]) (R) := isQ_mk kxs kxd HRN.out.symm rfl rfl
                    replace Bx := Bx.grown hg12 (by omega)
                    replace bb := bb.trans ((Below.refl _ _).grown hg12 bb.size (fun g hg => by injection hg with hg; omega))
                    have hsz12 := bb.size
                    have B9 : Blk w12 (g51_8) _ _ := BN12
                    have k9s := q6
                    have k9d := d6
                    have k9z : IsZ w12 (.agg #[.bool (ngB (R).num), .slice A9 (digs 4294967296 (R).num.natAbs).length c9]) ((R).num) := ⟨_, rfl, k9s⟩
                    have k9 : IsQ w12 (.agg #[.bool (ngB (R).num), .slice A9 (digs 4294967296 (R).num.natAbs).length c9, .slice D9 (digs 4294967296 (R).den).length e9]) (R) := ⟨_, _, rfl, k9s, k9d⟩
                    have hq_ := bl.size
                    replace bl := bl.trans ((Below.refl _ _).grown hg12 bl.size (fun g hg => by injection hg with hg; omega))
                    clear hq_
                    refine ops_assign (i := 10) (.int .i64 0) rfl rfl rfl rfl rfl fun b hbf => ?_
                    simp only [Act.put, List.setIfInBounds_toArray, List.set_cons_zero, List.set_cons_succ] at hbf
                    subst hbf
                    refine ops_done ?_
                    go_upto_region 16 with (fail)
                    refine flowp 8 [Pd.eq (.int .i64 0), Pd.eq (.bool false), Pd.eq (.bool false), Pd.eq (.agg #[.bool false, .slice Ax (digs 4294967296 (R).num.natAbs).length cx, .slice Dx (digs 4294967296 (R).den).length ex]), Pd.eq (.agg #[.bool (ngB (R).num), .slice A9 (digs 4294967296 (R).num.natAbs).length c9, .slice D9 (digs 4294967296 (R).den).length e9]), Pd.eq (.bool true), Pd.eq (.bool false), Pd.eq (.bool false)] (by kernel_rfl) ?ob52 ?done52
                    case ob52 =>
                      refine And.intro (ob_move rfl (wt_none rfl) (ev_far rfl rfl) (fun _ _ h => h)) ?_
                      refine And.intro (ob_bin rfl (wt_none rfl) (ev_dep (j := 0) (by kernel_rfl) rfl rfl) (ev_const _) (fun _ _ _ hx hy => ⟨.bool ((0 : Int) != 0), by rw [hx, hy]; exact bin_neq_int _ _ _ _ _, congrArg Value.bool (by decide)⟩)) ?_
                      refine And.intro (ob_move rfl (wt_none rfl) (ev_dep (j := 1) (by kernel_rfl) rfl rfl) (fun _ _ h => h)) ?_
                      refine And.intro (ob_load rfl (wt_dep (c := false) (b := false) (g := 2) rfl (by kernel_rfl) rfl rfl rfl (by exact fun _ _ h => h)) (ev_far rfl rfl) (fun w2 hb => run_loadAll Tryz.underlying27 rfl (by kernel_rfl) (Bx.below hb)) (fun _ _ => rfl)) ?_
                      refine And.intro (ob_load rfl (wt_dep (c := false) (b := false) (g := 2) rfl (by kernel_rfl) rfl rfl rfl (by exact fun _ _ h => h)) (ev_far rfl rfl) (fun w2 hb => run_loadAll Tryz.underlying27 rfl (by kernel_rfl) (B9.below hb)) (fun _ _ => rfl)) ?_
                      refine And.intro (ob_call2 rfl Tryz.func22 (by kernel_rfl) (wt_dep (c := false) (b := false) (g := 2) rfl (by kernel_rfl) rfl rfl rfl (by exact fun _ _ h => h)) (ev_dep (j := 3) (by kernel_rfl) rfl rfl) (ev_dep (j := 4) (by kernel_rfl) rfl rfl) (fun w2 u0 u1 hb h0 h1 => by obtain rfl := h0; obtain rfl := h1; exact (fsame_any _ _ (R) (R) true _ (kx.below hb) (k9.below hb) (lR.mono (by decide)) (lR.mono (by decide)) (decide_eq_true rfl).symm).mono fun e w3 h => RetV.pd h)) ?_
                      refine And.intro (ob_un rfl (wt_dep (c := false) (b := false) (g := 2) rfl (by kernel_rfl) rfl rfl rfl (by exact fun _ _ h => h)) (ev_dep (j := 5) (by kernel_rfl) rfl rfl) (fun _ => un_not _ _) (fun _ => rfl)) ?_
                      refine And.intro (ob_pick (b := false) rfl (wt_none rfl) (ev_dep (j := 2) (by kernel_rfl) rfl rfl) (ev_dep (j := 6) (by kernel_rfl) rfl rfl) (fun _ _ h => h)) ?_
                      trivial
                    case done52 =>
                      refine fun w13 hb13 v0 h0 v1 h1 v2 h2 v3 h3 v4 h4 v5 h5 v6 h6 v7 h7 b hbf => ?_
                      obtain rfl := h0; obtain rfl := h1; obtain rfl := h2; obtain rfl := h3; obtain rfl := h4; obtain rfl := h5; obtain rfl := h6; obtain rfl := h7
                      simp only [Act.put, List.setIfInBounds_toArray, List.set_cons_zero, List.set_cons_succ] at hbf
                      subst hbf
                      replace Bx := Bx.below hb13
                      replace kxs := kxs.below hb13
                      replace kxd := kxd.below hb13
                      replace kxz := kxz.below hb13
                      replace kx := kx.below hb13
                      replace B9 := B9.below hb13
                      replace k9s := k9s.below hb13
                      replace k9d := k9d.below hb13
                      replace k9z := k9z.below hb13
                      replace k9 := k9.below hb13
                      replace bb := bb.trans (hb13.mono bb.size)
                      have hsz13 := bb.size
                      replace bl := bl.trans (hb13.mono bl.size)
                      refine ops_done ?_
                      go_wp2
                      go_roundw
                      case rel => exact ⟨i + 1, by omega, bl, by go_num⟩
                      case measure => simp [intOf]; omega
                · go_wp2
                  go_ret
                  exact ⟨rfl, bb⟩
        · have HM := Lib.hid hm
          clear hm
          have GM := Lib.hid gm
          clear gm
          obtain ⟨y0, y1, y2, _, _, _⟩ := three Bx
          go_wp2_with fail
          refine (fprint9_any _ R _ kx (lR.mono (by decide))).mono ?_
          rintro e wa ⟨T0, rfl, hT0, ba⟩
          obtain rfl := hT0.is
          clear hT0 y0 y1 y2
          go_upto_region 6 with (fail)
          obtain ⟨wb, hwb, row, bab⟩ := row_lit1 wa w5.heap.size 9 (.string (ByteArray.mk (List.toArray (txtr (R) : List UInt8)))) ba.size
          rw [hwb]
          clear hwb
          have hbab := ba.trans (bab.mono ba.size)
          generalize hV : Value.slice (some ⟨wa.heap.size, 0, none⟩) 1 1 = V0 at row ⊢
          clear hV
          replace Bx := Bx.below hbab
          replace kxs := kxs.below hbab
          replace kxd := kxd.below hbab
          replace kxz := kxz.below hbab
          replace kx := kx.below hbab
          replace bb := bb.trans (hbab.mono bb.size)
          have hsz6 := bb.size
          replace bW := bW.trans (hbab.mono bW.size)
          refine flowp 7 [Pd.eq (.agg #[.bool false, .slice Ax (digs 4294967296 (R).num.natAbs).length cx, .slice Dx (digs 4294967296 (R).den).length ex]), Pd.eq (.tuple #[.string (ByteArray.mk (List.toArray ([] : List UInt8))), .bool false]), Pd.eq (.tuple #[.string (ByteArray.mk (List.toArray ([] : List UInt8))), .bool false]), Pd.eq (.string (ByteArray.mk (List.toArray ([] : List UInt8)))), Pd.eq (.bool false), Pd.eq (.string (ByteArray.mk (List.toArray ([] : List UInt8)))), Pd.eq (.bool false)] (by kernel_rfl) ?ob53 ?done53
          case ob53 =>
            refine And.intro (ob_load rfl (wt_none rfl) (ev_far rfl rfl) (fun w2 hb => run_loadAll Tryz.underlying27 rfl (by kernel_rfl) (Bx.below hb)) (fun _ _ => rfl)) ?_
            refine And.intro (ob_call1 rfl Tryz.func13 (by kernel_rfl) (wt_none rfl) (ev_dep (j := 0) (by kernel_rfl) rfl rfl) (fun w2 u0 hb h0 => by obtain rfl := h0; exact (fdec9_no _ R _ (kx.below hb) (lR.mono (by decide)) HM.out).mono fun e w3 h => RetSB.pd h)) ?_
            refine And.intro (ob_move rfl (wt_none rfl) (ev_dep (j := 1) (by kernel_rfl) rfl rfl) (fun _ _ h => h)) ?_
            refine And.intro (ob_extract rfl (wt_none rfl) (ev_dep (j := 2) (by kernel_rfl) rfl rfl) (fun w2 u hu => by obtain rfl := hu; exact ⟨_, rfl, rfl⟩)) ?_
            refine And.intro (ob_extract rfl (wt_none rfl) (ev_dep (j := 2) (by kernel_rfl) rfl rfl) (fun w2 u hu => by obtain rfl := hu; exact ⟨_, rfl, rfl⟩)) ?_
            refine And.intro (ob_assign rfl (wt_none rfl) (ev_dep (j := 3) (by kernel_rfl) rfl rfl) (fun _ _ h => h)) ?_
            refine And.intro (ob_assign rfl (wt_none rfl) (ev_dep (j := 4) (by kernel_rfl) rfl rfl) (fun _ _ h => h)) ?_
            trivial
          case done53 =>
            refine fun w7 hb7 v0 h0 v1 h1 v2 h2 v3 h3 v4 h4 v5 h5 v6 h6 b hbf => ?_
            obtain rfl := h0; obtain rfl := h1; obtain rfl := h2; obtain rfl := h3; obtain rfl := h4; obtain rfl := h5; obtain rfl := h6
            simp only [Act.put, List.setIfInBounds_toArray, List.set_cons_zero, List.set_cons_succ] at hbf
            subst hbf
            replace Bx := Bx.below hb7
            replace kxs := kxs.below hb7
            replace kxd := kxd.below hb7
            replace kxz := kxz.below hb7
            replace kx := kx.below hb7
            replace row := row.below hb7
            replace bb := bb.trans (hb7.mono bb.size)
            have hsz7 := bb.size
            replace bW := bW.trans (hb7.mono bW.size)
            refine ops_done ?_
            go_upto_region 9 with (fail)
            refine flowp 7 [Pd.eq (.agg #[.bool false, .slice Ax (digs 4294967296 (R).num.natAbs).length cx, .slice Dx (digs 4294967296 (R).den).length ex]), Pd.eq (.tuple #[.string (ByteArray.mk (List.toArray ([] : List UInt8))), .bool false]), Pd.eq (.tuple #[.string (ByteArray.mk (List.toArray ([] : List UInt8))), .bool false]), Pd.eq (.string (ByteArray.mk (List.toArray ([] : List UInt8)))), Pd.eq (.bool false), Pd.eq (.string (ByteArray.mk (List.toArray ([] : List UInt8)))), Pd.eq (.bool false)] (by kernel_rfl) ?ob54 ?done54
            case ob54 =>
              refine And.intro (ob_load rfl (wt_none rfl) (ev_far rfl rfl) (fun w2 hb => run_loadAll Tryz.underlying27 rfl (by kernel_rfl) (Bx.below hb)) (fun _ _ => rfl)) ?_
              refine And.intro (ob_call1 rfl Tryz.func15 (by kernel_rfl) (wt_none rfl) (ev_dep (j := 0) (by kernel_rfl) rfl rfl) (fun w2 u0 hb h0 => by obtain rfl := h0; exact (fpct9_no _ R _ (kx.below hb) (lR.mono (by decide)) GM.out).mono fun e w3 h => RetSB.pd h)) ?_
              refine And.intro (ob_move rfl (wt_none rfl) (ev_dep (j := 1) (by kernel_rfl) rfl rfl) (fun _ _ h => h)) ?_
              refine And.intro (ob_extract rfl (wt_none rfl) (ev_dep (j := 2) (by kernel_rfl) rfl rfl) (fun w2 u hu => by obtain rfl := hu; exact ⟨_, rfl, rfl⟩)) ?_
              refine And.intro (ob_extract rfl (wt_none rfl) (ev_dep (j := 2) (by kernel_rfl) rfl rfl) (fun w2 u hu => by obtain rfl := hu; exact ⟨_, rfl, rfl⟩)) ?_
              refine And.intro (ob_assign rfl (wt_none rfl) (ev_dep (j := 3) (by kernel_rfl) rfl rfl) (fun _ _ h => h)) ?_
              refine And.intro (ob_assign rfl (wt_none rfl) (ev_dep (j := 4) (by kernel_rfl) rfl rfl) (fun _ _ h => h)) ?_
              trivial
            case done54 =>
              refine fun w8 hb8 v0 h0 v1 h1 v2 h2 v3 h3 v4 h4 v5 h5 v6 h6 b hbf => ?_
              obtain rfl := h0; obtain rfl := h1; obtain rfl := h2; obtain rfl := h3; obtain rfl := h4; obtain rfl := h5; obtain rfl := h6
              simp only [Act.put, List.setIfInBounds_toArray, List.set_cons_zero, List.set_cons_succ] at hbf
              subst hbf
              replace Bx := Bx.below hb8
              replace kxs := kxs.below hb8
              replace kxd := kxd.below hb8
              replace kxz := kxz.below hb8
              replace kx := kx.below hb8
              replace row := row.below hb8
              replace bb := bb.trans (hb8.mono bb.size)
              have hsz8 := bb.size
              replace bW := bW.trans (hb8.mono bW.size)
              refine ops_done ?_
              have HTs : Hid (∀ T ∈ ([txtr (R)] : List (List UInt8)), Reads R T) := by
                intro T hT
                obtain rfl := List.mem_singleton.1 hT
                exact ⟨read_print (ngB_false HRN.out), Nat.le_trans (txtr_short lR) (by omega)⟩
              have hrow := RowV.isV row
              obtain ⟨A3, c3, rfl, hc3, hcells⟩ := hrow
              have HCE := Lib.hid hcells
              clear hcells
              generalize hTs : ([txtr (R)] : List (List UInt8)) = Ts at HTs
              have hvs : ∀ (j : Nat) (T : List UInt8), Ts[j]? = some T → ∃ ad, A3 = some ad ∧ w8.cell? (ad.add j) = some (.string ⟨T.toArray⟩) := by
                intro j T hT
                refine HCE.out j _ ?_
                subst hTs
                have := congrArg (Option.map fun T : List UInt8 => Value.string ⟨T.toArray⟩) hT
                rw [← List.getElem?_map] at this
                exact this
              have hTl : Ts.length = 1 := by rw [← hTs]; rfl
              have HVS := Lib.hid hvs
              have HTL := Lib.hid hTl
              clear hvs hTl hTs HCE row
              go_wp2
              go_loopw [8] (fun v8 wr => ∃ i : Nat, i ≤ 1 ∧ Below w8.heap.size w8 wr ∧ v8 = .int .i64 (i : Int)) (fun v8 _ => 1 - (intOf v8).toNat)
              case atStart => exact ⟨0, by omega, Below.refl _ _, rfl⟩
              case round =>
                obtain ⟨i, hi, hbr, rfl⟩ := hrel
                have bl := hbr
                have hblz := hbr.size
                replace Bx := Bx.below hbr
                replace kxs := kxs.below hbr
                replace kxd := kxd.below hbr
                replace kxz := kxz.below hbr
                replace kx := kx.below hbr
                replace bb := bb.trans (hbr.mono bb.size)
                have hsz9 := bb.size
                by_cases hlt : i < 1
                · skip
                  obtain ⟨T, hT⟩ : ∃ T, Ts[i]? = some T := ⟨_, List.getElem?_eq_getElem (by have := HTL.out; omega)⟩
                  have hRT := HTs.out T (List.mem_of_getElem? hT)
                  have HRT := Lib.hid hRT.1
                  have hTlen := hRT.2
                  obtain ⟨ad, hA3, hcell0⟩ := HVS.out i T hT
                  subst hA3
                  have hcell := (hbr.cell (World.block_lt_of_cell? w8 _ hcell0)).trans hcell0
                  clear hT hRT hcell0
                  go_upto_region 15 with (fail)
                  have lt9_1 := Blk.lt Bx
                  refine flowp 9 [Pd.eq (.slice (some ad) 1 c3), Pd.eq (.int .i64 (i : Int)), Pd.eq (.pointer (some (ad.add i))), Pd.eq (.string (ByteArray.mk (List.toArray (T : List UInt8)))), pqf (R) 0 wr.heap.size, pqf (R) 0 wr.heap.size, pq (R) wr.heap.size, Pd.eq (.int .i64 0), pn 27 #[.bool false, .slice none 0 0, .slice none 0 0] wr.heap.size] (by kernel_rfl) ?ob55 ?done55
                  case ob55 =>
                    refine And.intro (ob_move rfl (wt_none rfl) (ev_far rfl rfl) (fun _ _ h => h)) ?_
                    refine And.intro (ob_move rfl (wt_none rfl) (ev_far rfl rfl) (fun _ _ h => h)) ?_
                    refine And.intro (ob_indexAddr rfl (wt_none rfl) (ev_dep (j := 0) (by kernel_rfl) rfl rfl) (ev_dep (j := 1) (by kernel_rfl) rfl rfl) (fun _ _ _ hx hy => ⟨_, by rw [hx, hy]; exact index_row Tryz.underlying55 (by kernel_rfl) ad hlt _, rfl⟩)) ?_
                    refine And.intro (ob_load rfl (wt_none rfl) (ev_dep (j := 2) (by kernel_rfl) rfl rfl) (fun w2 hb => run_load1 Tryz.underlying9 rfl ((hb.cell (World.block_lt_of_cell? wr _ hcell)).trans hcell)) (fun _ _ => rfl)) ?_
                    refine And.intro (ob_call1 rfl Tryz.func6 (by kernel_rfl) (wt_none rfl) (ev_dep (j := 3) (by kernel_rfl) rfl rfl) (fun w2 u0 hb h0 => by obtain rfl := h0; exact (fparse9_ok T R _ (by first | decide | omega) HRT.out).mono fun e w3 h => RetQF.pd h hb.size)) ?_
                    refine And.intro (ob_move rfl (wt_none rfl) (ev_dep (j := 4) (by kernel_rfl) rfl rfl) (fun _ _ h => h)) ?_
                    refine And.intro (ob_extract rfl (wt_none rfl) (ev_dep (j := 5) (by kernel_rfl) rfl rfl) (fun w2 u hu => by obtain ⟨v, rfl, q1, q2⟩ := hu; exact ⟨v, rfl, q1, q2⟩)) ?_
                    refine And.intro (ob_extract rfl (wt_none rfl) (ev_dep (j := 5) (by kernel_rfl) rfl rfl) (fun w2 u hu => by obtain ⟨v, rfl, q1, q2⟩ := hu; exact ⟨_, rfl, rfl⟩)) ?_
                    refine And.intro (ob_alloc (z := .agg #[.bool false, .slice none 0 0, .slice none 0 0]) rfl rfl (fun _ => by kernel_rfl) (fun _ _ hB h => ⟨_, rfl, hB, h⟩)) ?_
                    trivial
                  case done55 =>
                    refine fun w10 hb10 v0 h0 v1 h1 v2 h2 v3 h3 v4 h4 v5 h5 v6 h6 v7 h7 v8 h8 d8 b hbf => ?_
                    obtain rfl := h0; obtain rfl := h1; obtain rfl := h2; obtain rfl := h3; obtain rfl := h7
                    clear h4
                    clear h5
                    obtain ⟨q6, f6⟩ := h6
                    obtain ⟨g55_8, rfl, hg8, B8⟩ := h8
                    simp only [Act.put, List.setIfInBounds_toArray, List.set_cons_zero, List.set_cons_succ] at hbf
                    subst hbf
                    replace Bx := Bx.below hb10
                    replace kxs := kxs.below hb10
                    replace kxd := kxd.below hb10
                    replace kxz := kxz.below hb10
                    replace kx := kx.below hb10
                    replace bb := bb.trans (hb10.mono bb.size)
                    have hsz10 := bb.size
                    replace bl := bl.trans (hb10.mono bl.size)
                    have BA9 := B8
                    obtain ⟨u6, t6, rfl, q6, d6⟩ := q6
                    obtain ⟨A9, c9, rfl, _⟩ := id q6
                    obtain ⟨D9, e9, rfl, _⟩ := id d6
                    refine ops_store (i := 9) rfl rfl rfl rfl rfl rfl (cells := [.bool (ngB (R).num), .slice A9 (digs 4294967296 (R).num.natAbs).length c9, .slice D9 (digs 4294967296 (R).den).length e9]) rfl BA9 rfl (by kernel_rfl) (one3 rfl rfl rfl) fun w11 hg11 BN11 => ?_
                    replace q6 := off q6 BA9 no_ints3 hg11
                    replace d6 := off d6 BA9 no_ints3 hg11
                    replace kxs := off kxs BA9 no_ints3 hg11
                    replace kxd := off kxd BA9 no_ints3 hg11
                    replace kxz : IsZ w11 (.agg #[.bool false, .slice Ax (digs 4294967296 (R).num.natAbs).length cx]) ((R).num) := isZ_mk kxs rfl HRN.out.symm
                    replace kx : IsQ w11 (.agg #[.bool false, .slice Ax (digs 4294967296 (R).num.natAbs).length cx, .slice Dx (digs 4294967296 (R).den).length ex]) (R) := isQ_mk kxs kxd HRN.out.symm rfl rfl
                    replace Bx := Bx.grown hg11 (by omega)
                    replace bb := bb.trans ((Below.refl _ _).grown hg11 bb.size (fun g hg => by injection hg with hg; omega))
                    have hsz11 := bb.size
                    have B9 : Blk w11 (g55_8) _ _ := BN11
                    have k9s := q6
                    have k9d := d6
                    have k9z : IsZ w11 (.agg #[.bool (ngB (R).num), .slice A9 (digs 4294967296 (R).num.natAbs).length c9]) ((R).num) := ⟨_, rfl, k9s⟩
                    have k9 : IsQ w11 (.agg #[.bool (ngB (R).num), .slice A9 (digs 4294967296 (R).num.natAbs).length c9, .slice D9 (digs 4294967296 (R).den).length e9]) (R) := ⟨_, _, rfl, k9s, k9d⟩
                    have hq_ := bl.size
                    replace bl := bl.trans ((Below.refl _ _).grown hg11 bl.size (fun g hg => by injection hg with hg; omega))
                    clear hq_
                    refine ops_assign (i := 10) (.int .i64 0) rfl rfl rfl rfl rfl fun b hbf => ?_
                    simp only [Act.put, List.setIfInBounds_toArray, List.set_cons_zero, List.set_cons_succ] at hbf
                    subst hbf
                    refine ops_done ?_
                    go_upto_region 16 with (fail)
                    refine flowp 8 [Pd.eq (.int .i64 0), Pd.eq (.bool false), Pd.eq (.bool false), Pd.eq (.agg #[.bool false, .slice Ax (digs 4294967296 (R).num.natAbs).length cx, .slice Dx (digs 4294967296 (R).den).length ex]), Pd.eq (.agg #[.bool (ngB (R).num), .slice A9 (digs 4294967296 (R).num.natAbs).length c9, .slice D9 (digs 4294967296 (R).den).length e9]), Pd.eq (.bool true), Pd.eq (.bool false), Pd.eq (.bool false)] (by kernel_rfl) ?ob56 ?done56
                    case ob56 =>
                      refine And.intro (ob_move rfl (wt_none rfl) (ev_far rfl rfl) (fun _ _ h => h)) ?_
                      refine And.intro (ob_bin rfl (wt_none rfl) (ev_dep (j := 0) (by kernel_rfl) rfl rfl) (ev_const _) (fun _ _ _ hx hy => ⟨.bool ((0 : Int) != 0), by rw [hx, hy]; exact bin_neq_int _ _ _ _ _, congrArg Value.bool (by decide)⟩)) ?_
                      refine And.intro (ob_move rfl (wt_none rfl) (ev_dep (j := 1) (by kernel_rfl) rfl rfl) (fun _ _ h => h)) ?_
                      refine And.intro (ob_load rfl (wt_dep (c := false) (b := false) (g := 2) rfl (by kernel_rfl) rfl rfl rfl (by exact fun _ _ h => h)) (ev_far rfl rfl) (fun w2 hb => run_loadAll Tryz.underlying27 rfl (by kernel_rfl) (Bx.below hb)) (fun _ _ => rfl)) ?_
                      refine And.intro (ob_load rfl (wt_dep (c := false) (b := false) (g := 2) rfl (by kernel_rfl) rfl rfl rfl (by exact fun _ _ h => h)) (ev_far rfl rfl) (fun w2 hb => run_loadAll Tryz.underlying27 rfl (by kernel_rfl) (B9.below hb)) (fun _ _ => rfl)) ?_
                      refine And.intro (ob_call2 rfl Tryz.func22 (by kernel_rfl) (wt_dep (c := false) (b := false) (g := 2) rfl (by kernel_rfl) rfl rfl rfl (by exact fun _ _ h => h)) (ev_dep (j := 3) (by kernel_rfl) rfl rfl) (ev_dep (j := 4) (by kernel_rfl) rfl rfl) (fun w2 u0 u1 hb h0 h1 => by obtain rfl := h0; obtain rfl := h1; exact (fsame_any _ _ (R) (R) true _ (kx.below hb) (k9.below hb) (lR.mono (by decide)) (lR.mono (by decide)) (decide_eq_true rfl).symm).mono fun e w3 h => RetV.pd h)) ?_
                      refine And.intro (ob_un rfl (wt_dep (c := false) (b := false) (g := 2) rfl (by kernel_rfl) rfl rfl rfl (by exact fun _ _ h => h)) (ev_dep (j := 5) (by kernel_rfl) rfl rfl) (fun _ => un_not _ _) (fun _ => rfl)) ?_
                      refine And.intro (ob_pick (b := false) rfl (wt_none rfl) (ev_dep (j := 2) (by kernel_rfl) rfl rfl) (ev_dep (j := 6) (by kernel_rfl) rfl rfl) (fun _ _ h => h)) ?_
                      trivial
                    case done56 =>
                      refine fun w12 hb12 v0 h0 v1 h1 v2 h2 v3 h3 v4 h4 v5 h5 v6 h6 v7 h7 b hbf => ?_
                      obtain rfl := h0; obtain rfl := h1; obtain rfl := h2; obtain rfl := h3; obtain rfl := h4; obtain rfl := h5; obtain rfl := h6; obtain rfl := h7
                      simp only [Act.put, List.setIfInBounds_toArray, List.set_cons_zero, List.set_cons_succ] at hbf
                      subst hbf
                      replace Bx := Bx.below hb12
                      replace kxs := kxs.below hb12
                      replace kxd := kxd.below hb12
                      replace kxz := kxz.below hb12
                      replace kx := kx.below hb12
                      replace B9 := B9.below hb12
                      replace k9s := k9s.below hb12
                      replace k9d := k9d.below hb12
                      replace k9z := k9z.below hb12
                      replace k9 := k9.below hb12
                      replace bb := bb.trans (hb12.mono bb.size)
                      have hsz12 := bb.size
                      replace bl := bl.trans (hb12.mono bl.size)
                      refine ops_done ?_
                      go_wp2
                      go_roundw
                      case rel => exact ⟨i + 1, by omega, bl, by go_num⟩
                      case measure => simp [intOf]; omega
                · go_wp2
                  go_ret
                  exact ⟨rfl, bb⟩
set_option maxRecDepth 100000 in
theorem lifted (os : Os) (started : os.Started) (H : Type) (enc : TypeId × Value → H) :
    ReturnsInHanded {} Tryz.checked os 5 .any (fun w args => (Rows.ratioBackSpec.pre enc Tryz.prog Tryz.f5 Rows.ratioBackRow.domain false w args ∧ laidMetH Tryz.prog Rows.ratioBackRow.laid w) ∧ sizedMet enc Tryz.prog Tryz.f5 (OpenSpec.ofChange Rows.ratioBackSpec) false w args)
      (Rows.ratioBackSpec.post enc Tryz.prog Tryz.f5 false true false false) := by
  refine returnsInHanded_of_change_and (C := Tryz.checked) (X := fun w _ => laidMetH Tryz.prog Rows.ratioBackRow.laid w) (fun _ _ _ hh h => h.of_heap hh) own started (by kernel_rfl) Tryz.func5
    (ChangeSpec.witness_shaped (enc := enc) (C := Tryz.checked) (os := os) (X := fun w _ => laidMetH Tryz.prog Rows.ratioBackRow.laid w) false (World.laidAll Tryz.prog os Rows.ratioBackRow.laid) #[.agg #[.bool false, .slice none 0 0, .slice none 0 0]] 8 (World.laidAll_os _ _ _)
      (World.shaped_of_ZipB (by kernel_rfl) (by kernel_rfl)) (by kernel_rfl) (by kernel_rfl) (by kernel_rfl)
      (by rw [MakeChecks.laidMetH_plain _ _ _ (by kernel_rfl)]; exact laidMet_laidAll _ (by kernel_rfl) (by kernel_rfl))) ?_
  intro W base args ds gs before hval0 hW hcnd _ hL _
  have hval : ∀ (j : Nat) t v, Tryz.f5.params[j]? = some t → args[j]? = some v → Value.okWide Tryz.prog W .any base t v := hval0
  have hW' := hW
  obtain ⟨p, q, hA0, hV, rfl, hfz, hnd⟩ := hW
  have hA : DataW.TrodAll enc Tryz.prog W 0 (fun _ => true) true Tryz.f5.params.toList args.toList ds p := hA0
  rw [Tryz.params5] at hA hval
  obtain ⟨v0, vs0, d0, ds0, p0, q0, hargs, rfl, rfl, t0, r0⟩ := trodAll_cons hA
  obtain ⟨rfl, rfl, rfl⟩ := trodAll_nil r0
  obtain rfl : args = #[v0] := by cases args; simp_all
  obtain ⟨rfl, rfl⟩ := trodVars_none hV
  obtain ⟨b0, x0, r0_, l0, m0, rfl, hs0, hu0, hj0, hx0⟩ := arg_q Tryz.underlying27 (by kernel_rfl) (by kernel_rfl) Tryz.underlying25 (by kernel_rfl) Tryz.underlying4 Tryz.underlying23 Tryz.underlying23 Tryz.underlying60 cells_u (hval 0 27 v0 rfl rfl) t0
  clear hA0 hval0
  simp only [List.append_nil] at hW'
  have hlt0 : ∀ x ∈ p0, x.block < W.heap.size := fun x hx => hW'.lt x (hx)
  refine (walk b0 x0 r0_ l0 m0 W hs0 hu0 hj0 hx0).mono fun e W' ⟨he, hb⟩ => ?_
  subst he
  have s0 := Below.trod laidOut (by kernel_rfl) (of_decide_eq_true (by kernel_rfl)) t0 hb hlt0
  exact ⟨_, rfl, _, _, _, [] ++ [], _, [], hW', trodAll_cons_mk (shut_bool Tryz.underlying4 _) trodAll_mk0, trodAll_cons_mk s0 (trodAll_mk0), rfl, hb.frame _, fun h => by cases h⟩
theorem over : Rows.ratioBackRow.holds Tryz.pinned (OpenSpec.ofChange Rows.ratioBackSpec) :=
  OpenClaim.holds_of_wide 5 Tryz.f5 rfl rfl rfl rfl rfl rfl rfl ⟨rfl, rfl, rfl, rfl, rfl⟩ rfl rfl rfl rfl rfl (by kernel_rfl) Tryz.func5 (by kernel_rfl)
    (of_decide_eq_true (by kernel_rfl)) (by unfold Func.isWrapper; first | (rw [if_pos (by decide +kernel)]; kernel_rfl) | (rw [if_neg (by decide +kernel)]; exact ⟨rfl, rfl⟩))
    (fun os started H enc _ => lifted os started H enc)
/-- The statement: the card. -/
theorem proved : Rows.RatioBackCardSaid :=
  Claim7.holds_tied_plain_at .later [] [.data, .pinned] true _ false over (fun _ h => by cases h) (by kernel_rfl) (fun _ h => by cases h) ratioBack_row_tie rfl ⟨rfl, rfl⟩ (by kernel_rfl) rfl
    (fun f fn hf hfn => by
      obtain rfl : f = 5 := Option.some.inj ((show Tryz.prog.funcNamed Rows.ratioBackRow.func = some 5 by kernel_rfl).symm.trans hf) |>.symm
      obtain rfl : fn = Tryz.f5 := (Option.some.inj (Tryz.func5.symm.trans hfn)).symm
      exact ⟨by kernel_rfl, fun j t ht => by
        rw [Tryz.params5] at ht
        have hm : t ∈ [27] := by simpa using Array.mem_of_getElem? ht
        have hall : ([27].all fun u => !Tryz.prog.wantsStandIn u) = true := by kernel_rfl
        exact (show Tryz.prog.wantsStandIn t = false by simpa using List.all_eq_true.1 hall t hm)⟩)
    (by kernel_rfl)
end Go.Proofs.YtpcllhdfalebbaaGreatDoor.ratioBack
