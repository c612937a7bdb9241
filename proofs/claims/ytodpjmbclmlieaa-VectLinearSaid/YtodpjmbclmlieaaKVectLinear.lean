/- VectLinear: products of rows are linear. Condition: the arguments can be read as data. -/
import Derived.Test.YtodpjmbclmlieaaK4
import Derived.Deep.Cut
import Derived.OpenShut
import Derived.LaidMore
import Derived.Lay
import Derived.Stop.Joined
namespace Go.Proofs.Ytodpjmbclmlieaa.vectLinear
open Go.ChangeShapes Go.WideShapes Go.ChangeAt Go.RowKit Go.Proofs.Ytodpjmbclmlieaa.num Go.Proofs.Ytodpjmbclmlieaa.mem Go.Proofs.Ytodpjmbclmlieaa.nat Go.Proofs.Ytodpjmbclmlieaa.txt Go.Proofs.Ytodpjmbclmlieaa.str Go.Proofs.Ytodpjmbclmlieaa.flow Go.Proofs.Ytodpjmbclmlieaa.whl Go.Proofs.Ytodpjmbclmlieaa.rat
set_option linter.unusedVariables false
theorem own : ownKnob Try.prog.godebug = none := by kernel_rfl
theorem laidOut : laidOutB Try.prog = true := by kernel_rfl
theorem cells_u : Try.prog.cellsOf 53 = 1 := by kernel_rfl
set_option maxHeartbeats 6400000 in
set_option maxRecDepth 100000 in
/-- The walk: the Go text returns true; what was there is as it was. -/
theorem walk (v0 : Value) (v1 : Value) (v2 : Value) (b3 : Bool) (v3 r3 : Value) (l3 m3 : List Nat) (w : World) (h0 : ArgQs w v0) (h1 : ArgQs w v1) (h2 : ArgQs w v2) (h3 : IsS w .u64 v3 l3) (u3 : Lt 18446744073709551616 l3) (j3 : IsS w .u64 r3 m3) (x3 : Lt 18446744073709551616 m3) :
    Calls Try.prog 4 #[v0, v1, v2, .agg #[.bool b3, v3, r3]] w (RetV (.bool true) w) := by
  obtain ⟨A0, n0, c0, rfl, _⟩ := id h0
  obtain ⟨A1, n1, c1, rfl, _⟩ := id h1
  obtain ⟨A2, n2, c2, rfl, _⟩ := id h2
  obtain ⟨A3, c3, rfl, _⟩ := id h3
  obtain ⟨D3, e3, rfl, _⟩ := id j3
  obtain ⟨K, hx3⟩ : ∃ K, K = cleanQ b3 l3 m3 1 := ⟨_, rfl⟩
  have lK : lenQ K 1 := by rw [hx3]; exact cleanQ_len _ _ _ (by omega)
  have HX3 := Lib.hid hx3.symm
  clear hx3
  go_enter Try.func4, Try.ntmps4
  go_upto_region 1 with (fail)
  obtain ⟨w0, hwx, bb, BP3, hsz⟩ := vars1 w 34 #[.bool b3, .slice A3 l3.length c3, .slice D3 m3.length e3]
  rw [hwx]
  clear hwx
  have p3s := h3.below bb
  have p3d := j3.below bb
  have hsz0 := bb.size
  refine flowp 2 [Pd.eq (.bool true), Pd.eq (.bool false)] (by kernel_rfl) ?ob28 ?done28
  case ob28 =>
    refine And.intro (ob_call0 rfl Try.func7 (by kernel_rfl) (wt_none rfl) (fun w2 hb => (works11_any _).mono fun e w3 h => RetV.pd h)) ?_
    refine And.intro (ob_un rfl (wt_none rfl) (ev_dep (j := 0) (by kernel_rfl) rfl rfl) (fun _ => un_not _ _) (fun _ => rfl)) ?_
    trivial
  case done28 =>
    refine fun w1 hb1 v0 h0 v1 h1 b hbf => ?_
    obtain rfl := h0; obtain rfl := h1
    simp only [Act.put, List.setIfInBounds_toArray, List.set_cons_zero, List.set_cons_succ] at hbf
    subst hbf
    replace BP3 := BP3.below hb1
    replace p3s := p3s.below hb1
    replace p3d := p3d.below hb1
    replace bb := bb.trans (hb1.mono bb.size)
    have hsz1 := bb.size
    refine ops_done ?_
    obtain ⟨M, hM⟩ : ∃ M : Nat, M = min (min (min n0 n1) n2) 6 := ⟨_, rfl⟩
    have hM6 : M ≤ 6 := by omega
    have hM0 : min n0 M = M := by omega
    have hM1 : min n1 M = M := by omega
    have hM2 : min n2 M = M := by omega
    have HM := Lib.hid hM
    clear hM
    go_upto_region 3 with (fail)
    refine flowp 8 [Pd.eq (.slice A0 n0 c0), Pd.eq (.int .i64 ((n0 : Nat) : Int)), Pd.eq (.slice A1 n1 c1), Pd.eq (.int .i64 ((n1 : Nat) : Int)), Pd.eq (.slice A2 n2 c2), Pd.eq (.int .i64 ((n2 : Nat) : Int)), Pd.eq (.int .i64 (M : Int)), Pd.eq (.int .i64 (M : Int))] (by kernel_rfl) ?ob29 ?done29
    case ob29 =>
      refine And.intro (ob_move rfl (wt_none rfl) (ev_far rfl rfl) (fun _ _ h => h)) ?_
      refine And.intro (ob_len rfl (wt_none rfl) (ev_dep (j := 0) (by kernel_rfl) rfl rfl) (fun _ _ hx => ⟨_, by rw [hx]; exact len_slice Try.underlying22 _ _ _ _, rfl⟩)) ?_
      refine And.intro (ob_move rfl (wt_none rfl) (ev_far rfl rfl) (fun _ _ h => h)) ?_
      refine And.intro (ob_len rfl (wt_none rfl) (ev_dep (j := 2) (by kernel_rfl) rfl rfl) (fun _ _ hx => ⟨_, by rw [hx]; exact len_slice Try.underlying22 _ _ _ _, rfl⟩)) ?_
      refine And.intro (ob_move rfl (wt_none rfl) (ev_far rfl rfl) (fun _ _ h => h)) ?_
      refine And.intro (ob_len rfl (wt_none rfl) (ev_dep (j := 4) (by kernel_rfl) rfl rfl) (fun _ _ hx => ⟨_, by rw [hx]; exact len_slice Try.underlying22 _ _ _ _, rfl⟩)) ?_
      refine And.intro (ob_min4 (a := n0) (b := n1) (c := n2) (d := 6) rfl (wt_none rfl) (ev_dep (j := 1) (by kernel_rfl) rfl rfl) (ev_dep (j := 3) (by kernel_rfl) rfl rfl) (ev_dep (j := 5) (by kernel_rfl) rfl rfl) (ev_const _) (fun _ => by show Value.int .i64 ((min (min (min n0 n1) n2) 6 : Nat) : Int) = .int .i64 (M : Int); rw [HM.out])) ?_
      refine And.intro (ob_assign rfl (wt_none rfl) (ev_dep (j := 6) (by kernel_rfl) rfl rfl) (fun _ _ h => h)) ?_
      trivial
    case done29 =>
      refine fun w2 hb2 v0 h0 v1 h1 v2 h2 v3 h3 v4 h4 v5 h5 v6 h6 v7 h7 b hbf => ?_
      obtain rfl := h0; obtain rfl := h1; obtain rfl := h2; obtain rfl := h3; obtain rfl := h4; obtain rfl := h5; obtain rfl := h6; obtain rfl := h7
      simp only [Act.put, List.setIfInBounds_toArray, List.set_cons_zero, List.set_cons_succ] at hbf
      subst hbf
      replace BP3 := BP3.below hb2
      replace p3s := p3s.below hb2
      replace p3d := p3d.below hb2
      replace bb := bb.trans (hb2.mono bb.size)
      have hsz2 := bb.size
      refine ops_done ?_
      have hBl3 := BP3.lt
      go_wp2_with fail
      refine (few11_any A0 n0 c0 M _ (ArgQs.below h0 bb) (by omega)).mono ?_
      rintro e w3 ⟨V0, U0, p, rfl, hV, hU0, hlp, hqp, hb3, hfV, hfU0⟩
      rw [hM0] at hlp
      obtain ⟨AV, cV, rfl, _, hmV⟩ := hV.shape
      clear hU0 hfU0
      have hsb3 := hb3.size
      have hneV : (Value.slice AV p.length cV).ownBlock ≠ some w.heap.size := fun e => by have := hfV _ e; omega
      have HLp := Lib.hid hlp
      have HQp : Hid (∀ x ∈ p, lenQ x 1) := hqp
      clear hlp hqp
      replace BP3 := BP3.below hb3
      replace p3s := p3s.below hb3
      replace p3d := p3d.below hb3
      replace bb := bb.trans (hb3.mono bb.size)
      have hsz3 := bb.size
      have hBl4 := BP3.lt
      go_wp2_with fail
      refine (few11_any A1 n1 c1 M _ (ArgQs.below h1 bb) (by omega)).mono ?_
      rintro e w4 ⟨V1, U1, q, rfl, hS, hU1, hlq, hqq, hb4, hfS, hfU1⟩
      rw [hM1] at hlq
      obtain ⟨AS, cS, rfl, _, hmS⟩ := hS.shape
      clear hU1 hfU1
      have hsb4 := hb4.size
      have hneS : (Value.slice AS q.length cS).ownBlock ≠ some w.heap.size := fun e => by have := hfS _ e; omega
      have HLq := Lib.hid hlq
      have HQq : Hid (∀ x ∈ q, lenQ x 1) := hqq
      clear hlq hqq
      replace BP3 := BP3.below hb4
      replace p3s := p3s.below hb4
      replace p3d := p3d.below hb4
      replace hV := hV.below hb4
      replace bb := bb.trans (hb4.mono bb.size)
      have hsz4 := bb.size
      have hBl5 := BP3.lt
      go_wp2_with fail
      refine (few11_any A2 n2 c2 M _ (ArgQs.below h2 bb) (by omega)).mono ?_
      rintro e w5 ⟨V2, U2, r, rfl, hT, hU2, hlr, hqr, hb5, hfT, hfU2⟩
      rw [hM2] at hlr
      obtain ⟨AT, cT, rfl, _, hmT⟩ := hT.shape
      clear hU2 hfU2
      have hsb5 := hb5.size
      have hneT : (Value.slice AT r.length cT).ownBlock ≠ some w.heap.size := fun e => by have := hfT _ e; omega
      have HLr := Lib.hid hlr
      have HQr : Hid (∀ x ∈ r, lenQ x 1) := hqr
      clear hlr hqr
      replace BP3 := BP3.below hb5
      replace p3s := p3s.below hb5
      replace p3d := p3d.below hb5
      replace hV := hV.below hb5
      replace hS := hS.below hb5
      replace bb := bb.trans (hb5.mono bb.size)
      have hsz5 := bb.size
      go_upto_region 7 with (fail)
      refine flowp 2 [Pd.eq (.agg #[.bool b3, .slice A3 l3.length c3, .slice D3 m3.length e3]), pqn K] (by kernel_rfl) ?ob30 ?done30
      case ob30 =>
        refine And.intro (ob_load rfl (wt_none rfl) (ev_far rfl rfl) (fun w2 hb => run_loadAll Try.underlying34 rfl (by kernel_rfl) (BP3.below hb)) (fun _ _ => rfl)) ?_
        refine And.intro (ob_call2 rfl Try.func13 (by kernel_rfl) (wt_none rfl) (ev_dep (j := 0) (by kernel_rfl) rfl rfl) (ev_const _) (fun w2 u0 u1 hb h0 h1 => by obtain rfl := h0; obtain rfl := h1; exact (HX3.out ▸ qclean_any _ _ _ _ _ _ 1 _ rfl (p3s.below hb) u3 (p3d.below hb) x3 (by omega) (by omega)).mono fun e w3 h => RetQn.pd (RetQ.n h))) ?_
        trivial
      case done30 =>
        refine fun w6 hb6 v0 h0 v1 h1 b hbf => ?_
        obtain rfl := h0
        have q1 := h1
        simp only [Act.put, List.setIfInBounds_toArray, List.set_cons_zero, List.set_cons_succ] at hbf
        subst hbf
        replace BP3 := BP3.below hb6
        replace p3s := p3s.below hb6
        replace p3d := p3d.below hb6
        replace hV := hV.below hb6
        replace hS := hS.below hb6
        replace hT := hT.below hb6
        replace bb := bb.trans (hb6.mono bb.size)
        have hsz6 := bb.size
        have hs7a := hb6.size
        obtain ⟨u1, t1, rfl, q1, d1⟩ := q1
        obtain ⟨Ak, ck, rfl, _⟩ := id q1
        obtain ⟨Dk, ek, rfl, _⟩ := id d1
        refine ops_store (i := 2) rfl rfl rfl rfl rfl rfl (cells := [.bool (ngB (K).num), .slice Ak (digs 4294967296 (K).num.natAbs).length ck, .slice Dk (digs 4294967296 (K).den).length ek]) rfl BP3 rfl (by kernel_rfl) (one3 rfl rfl rfl) fun w7 hg7 BN7 => ?_
        replace hV := hV.off BP3 no_ints3 hg7 hneV
        replace hS := hS.off BP3 no_ints3 hg7 hneS
        replace hT := hT.off BP3 no_ints3 hg7 hneT
        replace q1 := off q1 BP3 no_ints3 hg7
        replace d1 := off d1 BP3 no_ints3 hg7
        replace bb := bb.trans ((Below.refl _ _).grown hg7 bb.size (fun g hg => by injection hg with hg; omega))
        have hsz7 := bb.size
        have Bk : Blk w7 (w.heap.size) _ _ := BN7
        have kks := q1
        have kkd := d1
        have kkz : IsZ w7 (.agg #[.bool (ngB (K).num), .slice Ak (digs 4294967296 (K).num.natAbs).length ck]) ((K).num) := ⟨_, rfl, kks⟩
        have kk : IsQ w7 (.agg #[.bool (ngB (K).num), .slice Ak (digs 4294967296 (K).num.natAbs).length ck, .slice Dk (digs 4294967296 (K).den).length ek]) (K) := ⟨_, _, rfl, kks, kkd⟩
        have hs7b := hg7.size
        have hby : Below w7.heap.size w7 w7 := Below.refl _ _
        refine ops_done ?_
        have hpq : p.length = q.length := by rw [HLp.out, HLq.out]
        have hpr : p.length = r.length := by rw [HLp.out, HLr.out]
        obtain ⟨SU, hSU⟩ : ∃ SU, SU = addq p q := ⟨_, rfl⟩
        obtain ⟨SC, hSC⟩ : ∃ SC, SC = scaleq p K := ⟨_, rfl⟩
        have HSU := Lib.hid hSU
        have HSC := Lib.hid hSC
        have HEP := Lib.hid hpq
        have HSL : Hid (SU.length = r.length) := by show _ = _; rw [hSU, addq_len hpq, hpr]
        have HCL : Hid (SC.length = r.length) := by show _ = _; rw [hSC, scaleq_len, hpr]
        have HPR := Lib.hid hpr
        have HQR : Hid (q.length = r.length) := by show _ = _; rw [← hpq, hpr]
        have r3 : ∀ x ∈ r, lenQ x 3 := fun x hx => (HQr.out x hx).mono (by omega)
        have HBA : Hid (p.length ≤ 8 ∧ (∀ x ∈ p, lenQ x 1) ∧ ∀ x ∈ q, lenQ x 1) := ⟨by rw [HLp.out]; omega, HQp.out, HQq.out⟩
        have HBK : Hid (p.length ≤ 8 ∧ (∀ x ∈ p, lenQ x 1) ∧ lenQ K 1) := ⟨by rw [HLp.out]; omega, HQp.out, lK⟩
        have s3 : ∀ x ∈ SU, lenQ x 3 := by rw [hSU]; exact fun x hx => (lenQ_addq HQp.out HQq.out x hx).mono (by omega)
        have c3_ : ∀ x ∈ SC, lenQ x 3 := by rw [hSC]; exact fun x hx => (lenQ_scaleq HQp.out lK x hx).mono (by omega)
        have p3_ : ∀ x ∈ p, lenQ x 3 := fun x hx => (HQp.out x hx).mono (by omega)
        have q3_ : ∀ x ∈ q, lenQ x 3 := fun x hx => (HQq.out x hx).mono (by omega)
        have HB1 : Hid (SU.length ≤ 8 ∧ (∀ x ∈ SU, lenQ x 3) ∧ ∀ x ∈ r, lenQ x 3) := ⟨by rw [HSL.out, HLr.out]; omega, s3, r3⟩
        have HB2 : Hid (p.length ≤ 8 ∧ (∀ x ∈ p, lenQ x 3) ∧ ∀ x ∈ r, lenQ x 3) := ⟨by rw [HLp.out]; omega, p3_, r3⟩
        have HB3 : Hid (q.length ≤ 8 ∧ (∀ x ∈ q, lenQ x 3) ∧ ∀ x ∈ r, lenQ x 3) := ⟨by rw [HLq.out]; omega, q3_, r3⟩
        have HB4 : Hid (SC.length ≤ 8 ∧ (∀ x ∈ SC, lenQ x 3) ∧ ∀ x ∈ r, lenQ x 3) := ⟨by rw [HCL.out, HLr.out]; omega, c3_, r3⟩
        obtain ⟨X, hX⟩ : ∃ X, X = dotq SU r := ⟨_, rfl⟩
        obtain ⟨Y, hY⟩ : ∃ Y, Y = dotq p r := ⟨_, rfl⟩
        obtain ⟨Z, hZ⟩ : ∃ Z, Z = dotq q r := ⟨_, rfl⟩
        obtain ⟨W, hW⟩ : ∃ W, W = dotq SC r := ⟨_, rfl⟩
        have lY : lenQ Y 60 := by rw [hY]; exact (lenQ_dotq p3_ r3 hpr).mono (by rw [HLp.out]; omega)
        have lZ : lenQ Z 60 := by rw [hZ]; exact (lenQ_dotq q3_ r3 HQR.out).mono (by rw [HLq.out]; omega)
        have HE1 : Hid (true = decide (X = Y + Z)) := by show _ = _; rw [hX, hY, hZ, hSU, dotq_add p q r hpq hpr]; exact (decide_eq_true rfl).symm
        have HE2 : Hid (true = decide (W = K * Y)) := by show _ = _; rw [hW, hY, hSC, dotq_scale p r K hpr]; exact (decide_eq_true rfl).symm
        have HX := Lib.hid hX
        have HY := Lib.hid hY
        have HZ := Lib.hid hZ
        have HW := Lib.hid hW
        clear hSU hSC hpq hpr s3 c3_ p3_ q3_ r3 hX hY hZ hW
        go_upto_region 8 with (fail)
        refine flowp 9 [Pd.eq (.slice AV p.length cV), Pd.eq (.slice AS q.length cS), pvv (p) (q), psl .u64 4294967296 (SU) 0, psl .u64 4294967296 (SU) 0, pslv .u64 4294967296 (SU), Pd.eq (.int .i64 0), pslv .u64 4294967296 (SU), Pd.eq (.int .i64 0)] (by kernel_rfl) ?ob31 ?done31
        case ob31 =>
          refine And.intro (ob_move rfl (wt_none rfl) (ev_far rfl rfl) (fun _ _ h => h)) ?_
          refine And.intro (ob_move rfl (wt_none rfl) (ev_far rfl rfl) (fun _ _ h => h)) ?_
          refine And.intro (ob_lit2v rfl (wt_none rfl) (ev_dep (j := 0) (by kernel_rfl) rfl rfl) (ev_dep (j := 1) (by kernel_rfl) rfl rfl) Try.underlying68 info_slq (fun w2 v hb hv => by obtain rfl := hv; exact hV.below hb) (fun w2 v hb hv => by obtain rfl := hv; exact hS.below hb) (fun _ _ h => h)) ?_
          refine And.intro (ob_call1 rfl Try.func14 (by kernel_rfl) (wt_none rfl) (ev_dep (j := 2) (by kernel_rfl) rfl rfl) (fun w2 u0 hb h0 => by exact (HSU.out ▸ fvadd_ok _ p q _ h0 HEP.out HBA.out).mono fun e w3 h => RetQLE.pd h)) ?_
          refine And.intro (ob_move rfl (wt_none rfl) (ev_dep (j := 3) (by kernel_rfl) rfl rfl) (fun _ _ h => h)) ?_
          refine And.intro (ob_extract rfl (wt_none rfl) (ev_dep (j := 4) (by kernel_rfl) rfl rfl) (fun w2 u hu => by obtain ⟨V, rfl, h1⟩ := hu; exact ⟨V, rfl, h1⟩)) ?_
          refine And.intro (ob_extract rfl (wt_none rfl) (ev_dep (j := 4) (by kernel_rfl) rfl rfl) (fun w2 u hu => by obtain ⟨V, rfl, h1⟩ := hu; exact ⟨_, rfl, rfl⟩)) ?_
          refine And.intro (ob_assign rfl (wt_none rfl) (ev_dep (j := 5) (by kernel_rfl) rfl rfl) (fun _ _ h => h)) ?_
          refine And.intro (ob_assign rfl (wt_none rfl) (ev_dep (j := 6) (by kernel_rfl) rfl rfl) (fun _ _ h => h)) ?_
          trivial
        case done31 =>
          refine fun w8 hb8 v0 h0 v1 h1 v2 h2 v3 h3 v4 h4 v5 h5 v6 h6 v7 h7 v8 h8 b hbf => ?_
          obtain rfl := h0; obtain rfl := h1; obtain rfl := h6; obtain rfl := h8
          have q2 := h2
          clear h3
          clear h4
          have q5 := h5
          have q7 := h7
          simp only [Act.put, List.setIfInBounds_toArray, List.set_cons_zero, List.set_cons_succ] at hbf
          subst hbf
          replace Bk := Bk.below hb8
          replace kks := kks.below hb8
          replace kkd := kkd.below hb8
          replace kkz := kkz.below hb8
          replace kk := kk.below hb8
          replace hV := hV.below hb8
          replace hS := hS.below hb8
          replace hT := hT.below hb8
          replace bb := bb.trans (hb8.mono bb.size)
          have hsz8 := bb.size
          replace hby := hby.trans (hb8.mono hby.size)
          refine ops_done ?_
          have hX := q7
          obtain ⟨AX, cX, rfl, _, hmX⟩ := hX.shape
          have hsby := hby.size
          go_upto_region 9 with (fail)
          have lt8_7 := Blk.lt Bk
          refine flowp 7 [Pd.eq (.slice AX SU.length cX), Pd.eq (.slice AT r.length cT), pqe (X) 0, pqe (X) 0, pqn (X), Pd.eq (.int .i64 0), pn 34 #[.bool false, .slice none 0 0, .slice none 0 0] w8.heap.size] (by kernel_rfl) ?ob32 ?done32
          case ob32 =>
            refine And.intro (ob_move rfl (wt_none rfl) (ev_far rfl rfl) (fun _ _ h => h)) ?_
            refine And.intro (ob_move rfl (wt_none rfl) (ev_far rfl rfl) (fun _ _ h => h)) ?_
            refine And.intro (ob_call2 rfl Try.func15 (by kernel_rfl) (wt_none rfl) (ev_dep (j := 0) (by kernel_rfl) rfl rfl) (ev_dep (j := 1) (by kernel_rfl) rfl rfl) (fun w2 u0 u1 hb h0 h1 => by obtain rfl := h0; obtain rfl := h1; exact (HX.out ▸ fdot_ok _ _ SU r _ (hX.below hb) (hT.below hb) HSL.out HB1.out).mono fun e w3 h => RetQE.pd h)) ?_
            refine And.intro (ob_move rfl (wt_none rfl) (ev_dep (j := 2) (by kernel_rfl) rfl rfl) (fun _ _ h => h)) ?_
            refine And.intro (ob_extract rfl (wt_none rfl) (ev_dep (j := 3) (by kernel_rfl) rfl rfl) (fun w2 u hu => by obtain ⟨v, rfl, q1⟩ := hu; exact ⟨v, rfl, q1⟩)) ?_
            refine And.intro (ob_extract rfl (wt_none rfl) (ev_dep (j := 3) (by kernel_rfl) rfl rfl) (fun w2 u hu => by obtain ⟨v, rfl, q1⟩ := hu; exact ⟨_, rfl, rfl⟩)) ?_
            refine And.intro (ob_alloc (z := .agg #[.bool false, .slice none 0 0, .slice none 0 0]) rfl rfl (fun _ => by kernel_rfl) (fun _ _ hB h => ⟨_, rfl, hB, h⟩)) ?_
            trivial
          case done32 =>
            refine fun w9 hb9 v0 h0 v1 h1 v2 h2 v3 h3 v4 h4 v5 h5 v6 h6 d6 b hbf => ?_
            obtain rfl := h0; obtain rfl := h1; obtain rfl := h5
            clear h2
            clear h3
            have q4 := h4
            obtain ⟨g32_6, rfl, hg6, B6⟩ := h6
            simp only [Act.put, List.setIfInBounds_toArray, List.set_cons_zero, List.set_cons_succ] at hbf
            subst hbf
            replace Bk := Bk.below hb9
            replace kks := kks.below hb9
            replace kkd := kkd.below hb9
            replace kkz := kkz.below hb9
            replace kk := kk.below hb9
            replace hV := hV.below hb9
            replace hS := hS.below hb9
            replace hT := hT.below hb9
            replace hX := hX.below hb9
            replace bb := bb.trans (hb9.mono bb.size)
            have hsz9 := bb.size
            replace hby := hby.trans (hb9.mono hby.size)
            clear hneV hneS hneT
            have hneV : (Value.slice AV p.length cV).ownBlock ≠ some g32_6 := fun e => by have := hfV _ e; omega
            have hneS : (Value.slice AS q.length cS).ownBlock ≠ some g32_6 := fun e => by have := hfS _ e; omega
            have hneT : (Value.slice AT r.length cT).ownBlock ≠ some g32_6 := fun e => by have := hfT _ e; omega
            have BA12 := B6
            obtain ⟨u4, t4, rfl, q4, d4⟩ := q4
            obtain ⟨Ax, cx, rfl, _⟩ := id q4
            obtain ⟨Dx, ex, rfl, _⟩ := id d4
            refine ops_store (i := 7) rfl rfl rfl rfl rfl rfl (cells := [.bool (ngB (X).num), .slice Ax (digs 4294967296 (X).num.natAbs).length cx, .slice Dx (digs 4294967296 (X).den).length ex]) rfl BA12 rfl (by kernel_rfl) (one3 rfl rfl rfl) fun w10 hg10 BN10 => ?_
            replace hV := hV.off BA12 no_ints3 hg10 hneV
            replace hS := hS.off BA12 no_ints3 hg10 hneS
            replace hT := hT.off BA12 no_ints3 hg10 hneT
            replace q4 := off q4 BA12 no_ints3 hg10
            replace d4 := off d4 BA12 no_ints3 hg10
            replace kks := off kks BA12 no_ints3 hg10
            replace kkd := off kkd BA12 no_ints3 hg10
            replace kkz : IsZ w10 (.agg #[.bool (ngB (K).num), .slice Ak (digs 4294967296 (K).num.natAbs).length ck]) ((K).num) := ⟨_, rfl, kks⟩
            replace kk : IsQ w10 (.agg #[.bool (ngB (K).num), .slice Ak (digs 4294967296 (K).num.natAbs).length ck, .slice Dk (digs 4294967296 (K).den).length ek]) (K) := ⟨_, _, rfl, kks, kkd⟩
            replace Bk := Bk.grown hg10 (by omega)
            replace bb := bb.trans ((Below.refl _ _).grown hg10 bb.size (fun g hg => by injection hg with hg; omega))
            have hsz10 := bb.size
            have Bx : Blk w10 (g32_6) _ _ := BN10
            have kxs := q4
            have kxd := d4
            have kxz : IsZ w10 (.agg #[.bool (ngB (X).num), .slice Ax (digs 4294967296 (X).num.natAbs).length cx]) ((X).num) := ⟨_, rfl, kxs⟩
            have kx : IsQ w10 (.agg #[.bool (ngB (X).num), .slice Ax (digs 4294967296 (X).num.natAbs).length cx, .slice Dx (digs 4294967296 (X).den).length ex]) (X) := ⟨_, _, rfl, kxs, kxd⟩
            have hq_ := hby.size
            replace hby := hby.trans ((Below.refl _ _).grown hg10 hby.size (fun g hg => by injection hg with hg; omega))
            clear hq_
            refine ops_assign (i := 8) (.int .i64 0) rfl rfl rfl rfl rfl fun b hbf => ?_
            simp only [Act.put, List.setIfInBounds_toArray, List.set_cons_zero, List.set_cons_succ] at hbf
            subst hbf
            refine ops_done ?_
            have hsby := hby.size
            go_upto_region 10 with (fail)
            have lt10_7 := Blk.lt Bk
            have lt10_12 := Blk.lt Bx
            refine flowp 7 [Pd.eq (.slice AV p.length cV), Pd.eq (.slice AT r.length cT), pqe (Y) 0, pqe (Y) 0, pqn (Y), Pd.eq (.int .i64 0), pn 34 #[.bool false, .slice none 0 0, .slice none 0 0] w10.heap.size] (by kernel_rfl) ?ob33 ?done33
            case ob33 =>
              refine And.intro (ob_move rfl (wt_none rfl) (ev_far rfl rfl) (fun _ _ h => h)) ?_
              refine And.intro (ob_move rfl (wt_none rfl) (ev_far rfl rfl) (fun _ _ h => h)) ?_
              refine And.intro (ob_call2 rfl Try.func15 (by kernel_rfl) (wt_none rfl) (ev_dep (j := 0) (by kernel_rfl) rfl rfl) (ev_dep (j := 1) (by kernel_rfl) rfl rfl) (fun w2 u0 u1 hb h0 h1 => by obtain rfl := h0; obtain rfl := h1; exact (HY.out ▸ fdot_ok _ _ p r _ (hV.below hb) (hT.below hb) HPR.out HB2.out).mono fun e w3 h => RetQE.pd h)) ?_
              refine And.intro (ob_move rfl (wt_none rfl) (ev_dep (j := 2) (by kernel_rfl) rfl rfl) (fun _ _ h => h)) ?_
              refine And.intro (ob_extract rfl (wt_none rfl) (ev_dep (j := 3) (by kernel_rfl) rfl rfl) (fun w2 u hu => by obtain ⟨v, rfl, q1⟩ := hu; exact ⟨v, rfl, q1⟩)) ?_
              refine And.intro (ob_extract rfl (wt_none rfl) (ev_dep (j := 3) (by kernel_rfl) rfl rfl) (fun w2 u hu => by obtain ⟨v, rfl, q1⟩ := hu; exact ⟨_, rfl, rfl⟩)) ?_
              refine And.intro (ob_alloc (z := .agg #[.bool false, .slice none 0 0, .slice none 0 0]) rfl rfl (fun _ => by kernel_rfl) (fun _ _ hB h => ⟨_, rfl, hB, h⟩)) ?_
              trivial
            case done33 =>
              refine fun w11 hb11 v0 h0 v1 h1 v2 h2 v3 h3 v4 h4 v5 h5 v6 h6 d6 b hbf => ?_
              obtain rfl := h0; obtain rfl := h1; obtain rfl := h5
              clear h2
              clear h3
              have q4 := h4
              obtain ⟨g33_6, rfl, hg6, B6⟩ := h6
              simp only [Act.put, List.setIfInBounds_toArray, List.set_cons_zero, List.set_cons_succ] at hbf
              subst hbf
              replace Bk := Bk.below hb11
              replace kks := kks.below hb11
              replace kkd := kkd.below hb11
              replace kkz := kkz.below hb11
              replace kk := kk.below hb11
              replace Bx := Bx.below hb11
              replace kxs := kxs.below hb11
              replace kxd := kxd.below hb11
              replace kxz := kxz.below hb11
              replace kx := kx.below hb11
              replace hV := hV.below hb11
              replace hS := hS.below hb11
              replace hT := hT.below hb11
              replace bb := bb.trans (hb11.mono bb.size)
              have hsz11 := bb.size
              replace hby := hby.trans (hb11.mono hby.size)
              clear hneV hneS hneT
              have hneV : (Value.slice AV p.length cV).ownBlock ≠ some g33_6 := fun e => by have := hfV _ e; omega
              have hneS : (Value.slice AS q.length cS).ownBlock ≠ some g33_6 := fun e => by have := hfS _ e; omega
              have hneT : (Value.slice AT r.length cT).ownBlock ≠ some g33_6 := fun e => by have := hfT _ e; omega
              have BA14 := B6
              obtain ⟨u4, t4, rfl, q4, d4⟩ := q4
              obtain ⟨Ay, cy, rfl, _⟩ := id q4
              obtain ⟨Dy, ey, rfl, _⟩ := id d4
              refine ops_store (i := 7) rfl rfl rfl rfl rfl rfl (cells := [.bool (ngB (Y).num), .slice Ay (digs 4294967296 (Y).num.natAbs).length cy, .slice Dy (digs 4294967296 (Y).den).length ey]) rfl BA14 rfl (by kernel_rfl) (one3 rfl rfl rfl) fun w12 hg12 BN12 => ?_
              replace hV := hV.off BA14 no_ints3 hg12 hneV
              replace hS := hS.off BA14 no_ints3 hg12 hneS
              replace hT := hT.off BA14 no_ints3 hg12 hneT
              replace q4 := off q4 BA14 no_ints3 hg12
              replace d4 := off d4 BA14 no_ints3 hg12
              replace kks := off kks BA14 no_ints3 hg12
              replace kkd := off kkd BA14 no_ints3 hg12
              replace kkz : IsZ w12 (.agg #[.bool (ngB (K).num), .slice Ak (digs 4294967296 (K).num.natAbs).length ck]) ((K).num) := ⟨_, rfl, kks⟩
              replace kk : IsQ w12 (.agg #[.bool (ngB (K).num), .slice Ak (digs 4294967296 (K).num.natAbs).length ck, .slice Dk (digs 4294967296 (K).den).length ek]) (K) := ⟨_, _, rfl, kks, kkd⟩
              replace Bk := Bk.grown hg12 (by omega)
              replace kxs := off kxs BA14 no_ints3 hg12
              replace kxd := off kxd BA14 no_ints3 hg12
              replace kxz : IsZ w12 (.agg #[.bool (ngB (X).num), .slice Ax (digs 4294967296 (X).num.natAbs).length cx]) ((X).num) := ⟨_, rfl, kxs⟩
              replace kx : IsQ w12 (.agg #[.bool (ngB (X).num), .slice Ax (digs 4294967296 (X).num.natAbs).length cx, .slice Dx (digs 4294967296 (X).den).length ex]) (X) := ⟨_, _, rfl, kxs, kxd⟩
              replace Bx := Bx.grown hg12 (by omega)
              replace bb := bb.trans ((Below.refl _ _).grown hg12 bb.size (fun g hg => by injection hg with hg; omega))
              have hsz12 := bb.size
              have By : Blk w12 (g33_6) _ _ := BN12
              have kys := q4
              have kyd := d4
              have kyz : IsZ w12 (.agg #[.bool (ngB (Y).num), .slice Ay (digs 4294967296 (Y).num.natAbs).length cy]) ((Y).num) := ⟨_, rfl, kys⟩
              have ky : IsQ w12 (.agg #[.bool (ngB (Y).num), .slice Ay (digs 4294967296 (Y).num.natAbs).length cy, .slice Dy (digs 4294967296 (Y).den).length ey]) (Y) := ⟨_, _, rfl, kys, kyd⟩
              have hq_ := hby.size
              replace hby := hby.trans ((Below.refl _ _).grown hg12 hby.size (fun g hg => by injection hg with hg; omega))
              clear hq_
              refine ops_assign (i := 8) (.int .i64 0) rfl rfl rfl rfl rfl fun b hbf => ?_
              simp only [Act.put, List.setIfInBounds_toArray, List.set_cons_zero, List.set_cons_succ] at hbf
              subst hbf
              refine ops_done ?_
              have hsby := hby.size
              go_upto_region 11 with (fail)
              have lt12_7 := Blk.lt Bk
              have lt12_12 := Blk.lt Bx
              have lt12_14 := Blk.lt By
              refine flowp 7 [Pd.eq (.slice AS q.length cS), Pd.eq (.slice AT r.length cT), pqe (Z) 0, pqe (Z) 0, pqn (Z), Pd.eq (.int .i64 0), pn 34 #[.bool false, .slice none 0 0, .slice none 0 0] w12.heap.size] (by kernel_rfl) ?ob34 ?done34
              case ob34 =>
                refine And.intro (ob_move rfl (wt_none rfl) (ev_far rfl rfl) (fun _ _ h => h)) ?_
                refine And.intro (ob_move rfl (wt_none rfl) (ev_far rfl rfl) (fun _ _ h => h)) ?_
                refine And.intro (ob_call2 rfl Try.func15 (by kernel_rfl) (wt_none rfl) (ev_dep (j := 0) (by kernel_rfl) rfl rfl) (ev_dep (j := 1) (by kernel_rfl) rfl rfl) (fun w2 u0 u1 hb h0 h1 => by obtain rfl := h0; obtain rfl := h1; exact (HZ.out ▸ fdot_ok _ _ q r _ (hS.below hb) (hT.below hb) HQR.out HB3.out).mono fun e w3 h => RetQE.pd h)) ?_
                refine And.intro (ob_move rfl (wt_none rfl) (ev_dep (j := 2) (by kernel_rfl) rfl rfl) (fun _ _ h => h)) ?_
                refine And.intro (ob_extract rfl (wt_none rfl) (ev_dep (j := 3) (by kernel_rfl) rfl rfl) (fun w2 u hu => by obtain ⟨v, rfl, q1⟩ := hu; exact ⟨v, rfl, q1⟩)) ?_
                refine And.intro (ob_extract rfl (wt_none rfl) (ev_dep (j := 3) (by kernel_rfl) rfl rfl) (fun w2 u hu => by obtain ⟨v, rfl, q1⟩ := hu; exact ⟨_, rfl, rfl⟩)) ?_
                refine And.intro (ob_alloc (z := .agg #[.bool false, .slice none 0 0, .slice none 0 0]) rfl rfl (fun _ => by kernel_rfl) (fun _ _ hB h => ⟨_, rfl, hB, h⟩)) ?_
                trivial
              case done34 =>
                refine fun w13 hb13 v0 h0 v1 h1 v2 h2 v3 h3 v4 h4 v5 h5 v6 h6 d6 b hbf => ?_
                obtain rfl := h0; obtain rfl := h1; obtain rfl := h5
                clear h2
                clear h3
                have q4 := h4
                obtain ⟨g34_6, rfl, hg6, B6⟩ := h6
                simp only [Act.put, List.setIfInBounds_toArray, List.set_cons_zero, List.set_cons_succ] at hbf
                subst hbf
                replace Bk := Bk.below hb13
                replace kks := kks.below hb13
                replace kkd := kkd.below hb13
                replace kkz := kkz.below hb13
                replace kk := kk.below hb13
                replace Bx := Bx.below hb13
                replace kxs := kxs.below hb13
                replace kxd := kxd.below hb13
                replace kxz := kxz.below hb13
                replace kx := kx.below hb13
                replace By := By.below hb13
                replace kys := kys.below hb13
                replace kyd := kyd.below hb13
                replace kyz := kyz.below hb13
                replace ky := ky.below hb13
                replace hV := hV.below hb13
                replace hS := hS.below hb13
                replace hT := hT.below hb13
                replace bb := bb.trans (hb13.mono bb.size)
                have hsz13 := bb.size
                replace hby := hby.trans (hb13.mono hby.size)
                clear hneV hneS hneT
                have hneV : (Value.slice AV p.length cV).ownBlock ≠ some g34_6 := fun e => by have := hfV _ e; omega
                have hneS : (Value.slice AS q.length cS).ownBlock ≠ some g34_6 := fun e => by have := hfS _ e; omega
                have hneT : (Value.slice AT r.length cT).ownBlock ≠ some g34_6 := fun e => by have := hfT _ e; omega
                have BA16 := B6
                obtain ⟨u4, t4, rfl, q4, d4⟩ := q4
                obtain ⟨Az, cz, rfl, _⟩ := id q4
                obtain ⟨Dz, ez, rfl, _⟩ := id d4
                refine ops_store (i := 7) rfl rfl rfl rfl rfl rfl (cells := [.bool (ngB (Z).num), .slice Az (digs 4294967296 (Z).num.natAbs).length cz, .slice Dz (digs 4294967296 (Z).den).length ez]) rfl BA16 rfl (by kernel_rfl) (one3 rfl rfl rfl) fun w14 hg14 BN14 => ?_
                replace hV := hV.off BA16 no_ints3 hg14 hneV
                replace hS := hS.off BA16 no_ints3 hg14 hneS
                replace hT := hT.off BA16 no_ints3 hg14 hneT
                replace q4 := off q4 BA16 no_ints3 hg14
                replace d4 := off d4 BA16 no_ints3 hg14
                replace kks := off kks BA16 no_ints3 hg14
                replace kkd := off kkd BA16 no_ints3 hg14
                replace kkz : IsZ w14 (.agg #[.bool (ngB (K).num), .slice Ak (digs 4294967296 (K).num.natAbs).length ck]) ((K).num) := ⟨_, rfl, kks⟩
                replace kk : IsQ w14 (.agg #[.bool (ngB (K).num), .slice Ak (digs 4294967296 (K).num.natAbs).length ck, .slice Dk (digs 4294967296 (K).den).length ek]) (K) := ⟨_, _, rfl, kks, kkd⟩
                replace Bk := Bk.grown hg14 (by omega)
                replace kxs := off kxs BA16 no_ints3 hg14
                replace kxd := off kxd BA16 no_ints3 hg14
                replace kxz : IsZ w14 (.agg #[.bool (ngB (X).num), .slice Ax (digs 4294967296 (X).num.natAbs).length cx]) ((X).num) := ⟨_, rfl, kxs⟩
                replace kx : IsQ w14 (.agg #[.bool (ngB (X).num), .slice Ax (digs 4294967296 (X).num.natAbs).length cx, .slice Dx (digs 4294967296 (X).den).length ex]) (X) := ⟨_, _, rfl, kxs, kxd⟩
                replace Bx := Bx.grown hg14 (by omega)
                replace kys := off kys BA16 no_ints3 hg14
                replace kyd := off kyd BA16 no_ints3 hg14
                replace kyz : IsZ w14 (.agg #[.bool (ngB (Y).num), .slice Ay (digs 4294967296 (Y).num.natAbs).length cy]) ((Y).num) := ⟨_, rfl, kys⟩
                replace ky : IsQ w14 (.agg #[.bool (ngB (Y).num), .slice Ay (digs 4294967296 (Y).num.natAbs).length cy, .slice Dy (digs 4294967296 (Y).den).length ey]) (Y) := ⟨_, _, rfl, kys, kyd⟩
                replace By := By.grown hg14 (by omega)
                replace bb := bb.trans ((Below.refl _ _).grown hg14 bb.size (fun g hg => by injection hg with hg; omega))
                have hsz14 := bb.size
                have Bz : Blk w14 (g34_6) _ _ := BN14
                have kzs := q4
                have kzd := d4
                have kzz : IsZ w14 (.agg #[.bool (ngB (Z).num), .slice Az (digs 4294967296 (Z).num.natAbs).length cz]) ((Z).num) := ⟨_, rfl, kzs⟩
                have kz : IsQ w14 (.agg #[.bool (ngB (Z).num), .slice Az (digs 4294967296 (Z).num.natAbs).length cz, .slice Dz (digs 4294967296 (Z).den).length ez]) (Z) := ⟨_, _, rfl, kzs, kzd⟩
                have hq_ := hby.size
                replace hby := hby.trans ((Below.refl _ _).grown hg14 hby.size (fun g hg => by injection hg with hg; omega))
                clear hq_
                refine ops_assign (i := 8) (.int .i64 0) rfl rfl rfl rfl rfl fun b hbf => ?_
                simp only [Act.put, List.setIfInBounds_toArray, List.set_cons_zero, List.set_cons_succ] at hbf
                subst hbf
                refine ops_done ?_
                have hsby := hby.size
                go_upto_region 12 with (fail)
                have lt14_7 := Blk.lt Bk
                have lt14_12 := Blk.lt Bx
                have lt14_14 := Blk.lt By
                have lt14_16 := Blk.lt Bz
                refine flowp 9 [Pd.eq (.slice AV p.length cV), Pd.eq (.agg #[.bool (ngB (K).num), .slice Ak (digs 4294967296 (K).num.natAbs).length ck, .slice Dk (digs 4294967296 (K).den).length ek]), pslv .u64 4294967296 (SC), Pd.eq (.slice AT r.length cT), pqe (W) 0, pqe (W) 0, pqn (W), Pd.eq (.int .i64 0), pn 34 #[.bool false, .slice none 0 0, .slice none 0 0] w14.heap.size] (by kernel_rfl) ?ob35 ?done35
                case ob35 =>
                  refine And.intro (ob_move rfl (wt_none rfl) (ev_far rfl rfl) (fun _ _ h => h)) ?_
                  refine And.intro (ob_load rfl (wt_none rfl) (ev_far rfl rfl) (fun w2 hb => run_loadAll Try.underlying34 rfl (by kernel_rfl) (Bk.below hb)) (fun _ _ => rfl)) ?_
                  refine And.intro (ob_call2 rfl Try.func16 (by kernel_rfl) (wt_none rfl) (ev_dep (j := 0) (by kernel_rfl) rfl rfl) (ev_dep (j := 1) (by kernel_rfl) rfl rfl) (fun w2 u0 u1 hb h0 h1 => by obtain rfl := h0; obtain rfl := h1; exact (HSC.out ▸ fscale_any _ _ p K _ (hV.below hb) (kk.below hb) HBK.out).mono fun e w3 h => by obtain ⟨V, h1, h2, h3⟩ := h; exact ⟨V, h1, h2, h3⟩)) ?_
                  refine And.intro (ob_move rfl (wt_none rfl) (ev_far rfl rfl) (fun _ _ h => h)) ?_
                  refine And.intro (ob_call2 rfl Try.func15 (by kernel_rfl) (wt_none rfl) (ev_dep (j := 2) (by kernel_rfl) rfl rfl) (ev_dep (j := 3) (by kernel_rfl) rfl rfl) (fun w2 u0 u1 hb h0 h1 => by obtain rfl := h1; exact (HW.out ▸ fdot_ok _ _ SC r _ h0 (hT.below hb) HCL.out HB4.out).mono fun e w3 h => RetQE.pd h)) ?_
                  refine And.intro (ob_move rfl (wt_none rfl) (ev_dep (j := 4) (by kernel_rfl) rfl rfl) (fun _ _ h => h)) ?_
                  refine And.intro (ob_extract rfl (wt_none rfl) (ev_dep (j := 5) (by kernel_rfl) rfl rfl) (fun w2 u hu => by obtain ⟨v, rfl, q1⟩ := hu; exact ⟨v, rfl, q1⟩)) ?_
                  refine And.intro (ob_extract rfl (wt_none rfl) (ev_dep (j := 5) (by kernel_rfl) rfl rfl) (fun w2 u hu => by obtain ⟨v, rfl, q1⟩ := hu; exact ⟨_, rfl, rfl⟩)) ?_
                  refine And.intro (ob_alloc (z := .agg #[.bool false, .slice none 0 0, .slice none 0 0]) rfl rfl (fun _ => by kernel_rfl) (fun _ _ hB h => ⟨_, rfl, hB, h⟩)) ?_
                  trivial
                case done35 =>
                  refine fun w15 hb15 v0 h0 v1 h1 v2 h2 v3 h3 v4 h4 v5 h5 v6 h6 v7 h7 v8 h8 d8 b hbf => ?_
                  obtain rfl := h0; obtain rfl := h1; obtain rfl := h3; obtain rfl := h7
                  have q2 := h2
                  clear h4
                  clear h5
                  have q6 := h6
                  obtain ⟨g35_8, rfl, hg8, B8⟩ := h8
                  simp only [Act.put, List.setIfInBounds_toArray, List.set_cons_zero, List.set_cons_succ] at hbf
                  subst hbf
                  replace Bk := Bk.below hb15
                  replace kks := kks.below hb15
                  replace kkd := kkd.below hb15
                  replace kkz := kkz.below hb15
                  replace kk := kk.below hb15
                  replace Bx := Bx.below hb15
                  replace kxs := kxs.below hb15
                  replace kxd := kxd.below hb15
                  replace kxz := kxz.below hb15
                  replace kx := kx.below hb15
                  replace By := By.below hb15
                  replace kys := kys.below hb15
                  replace kyd := kyd.below hb15
                  replace kyz := kyz.below hb15
                  replace ky := ky.below hb15
                  replace Bz := Bz.below hb15
                  replace kzs := kzs.below hb15
                  replace kzd := kzd.below hb15
                  replace kzz := kzz.below hb15
                  replace kz := kz.below hb15
                  replace hV := hV.below hb15
                  replace hS := hS.below hb15
                  replace hT := hT.below hb15
                  replace bb := bb.trans (hb15.mono bb.size)
                  have hsz15 := bb.size
                  replace hby := hby.trans (hb15.mono hby.size)
                  clear hneV hneS hneT
                  have hneV : (Value.slice AV p.length cV).ownBlock ≠ some g35_8 := fun e => by have := hfV _ e; omega
                  have hneS : (Value.slice AS q.length cS).ownBlock ≠ some g35_8 := fun e => by have := hfS _ e; omega
                  have hneT : (Value.slice AT r.length cT).ownBlock ≠ some g35_8 := fun e => by have := hfT _ e; omega
                  have BA18 := B8
                  obtain ⟨u6, t6, rfl, q6, d6⟩ := q6
                  obtain ⟨Au, cu, rfl, _⟩ := id q6
                  obtain ⟨Du, eu, rfl, _⟩ := id d6
                  refine ops_store (i := 9) rfl rfl rfl rfl rfl rfl (cells := [.bool (ngB (W).num), .slice Au (digs 4294967296 (W).num.natAbs).length cu, .slice Du (digs 4294967296 (W).den).length eu]) rfl BA18 rfl (by kernel_rfl) (one3 rfl rfl rfl) fun w16 hg16 BN16 => ?_
                  replace hV := hV.off BA18 no_ints3 hg16 hneV
                  replace hS := hS.off BA18 no_ints3 hg16 hneS
                  replace hT := hT.off BA18 no_ints3 hg16 hneT
                  replace q6 := off q6 BA18 no_ints3 hg16
                  replace d6 := off d6 BA18 no_ints3 hg16
                  replace kks := off kks BA18 no_ints3 hg16
                  replace kkd := off kkd BA18 no_ints3 hg16
                  replace kkz : IsZ w16 (.agg #[.bool (ngB (K).num), .slice Ak (digs 4294967296 (K).num.natAbs).length ck]) ((K).num) := ⟨_, rfl, kks⟩
                  replace kk : IsQ w16 (.agg #[.bool (ngB (K).num), .slice Ak (digs 4294967296 (K).num.natAbs).length ck, .slice Dk (digs 4294967296 (K).den).length ek]) (K) := ⟨_, _, rfl, kks, kkd⟩
                  replace Bk := Bk.grown hg16 (by omega)
                  replace kxs := off kxs BA18 no_ints3 hg16
                  replace kxd := off kxd BA18 no_ints3 hg16
                  replace kxz : IsZ w16 (.agg #[.bool (ngB (X).num), .slice Ax (digs 4294967296 (X).num.natAbs).length cx]) ((X).num) := ⟨_, rfl, kxs⟩
                  replace kx : IsQ w16 (.agg #[.bool (ngB (X).num), .slice Ax (digs 4294967296 (X).num.natAbs).length cx, .slice Dx (digs 4294967296 (X).den).length ex]) (X) := ⟨_, _, rfl, kxs, kxd⟩
                  replace Bx := Bx.grown hg16 (by omega)
                  replace kys := off kys BA18 no_ints3 hg16
                  replace kyd := off kyd BA18 no_ints3 hg16
                  replace kyz : IsZ w16 (.agg #[.bool (ngB (Y).num), .slice Ay (digs 4294967296 (Y).num.natAbs).length cy]) ((Y).num) := ⟨_, rfl, kys⟩
                  replace ky : IsQ w16 (.agg #[.bool (ngB (Y).num), .slice Ay (digs 4294967296 (Y).num.natAbs).length cy, .slice Dy (digs 4294967296 (Y).den).length ey]) (Y) := ⟨_, _, rfl, kys, kyd⟩
                  replace By := By.grown hg16 (by omega)
                  replace kzs := off kzs BA18 no_ints3 hg16
                  replace kzd := off kzd BA18 no_ints3 hg16
                  replace kzz : IsZ w16 (.agg #[.bool (ngB (Z).num), .slice Az (digs 4294967296 (Z).num.natAbs).length cz]) ((Z).num) := ⟨_, rfl, kzs⟩
                  replace kz : IsQ w16 (.agg #[.bool (ngB (Z).num), .slice Az (digs 4294967296 (Z).num.natAbs).length cz, .slice Dz (digs 4294967296 (Z).den).length ez]) (Z) := ⟨_, _, rfl, kzs, kzd⟩
                  replace Bz := Bz.grown hg16 (by omega)
                  replace bb := bb.trans ((Below.refl _ _).grown hg16 bb.size (fun g hg => by injection hg with hg; omega))
                  have hsz16 := bb.size
                  have Bu : Blk w16 (g35_8) _ _ := BN16
                  have kus := q6
                  have kud := d6
                  have kuz : IsZ w16 (.agg #[.bool (ngB (W).num), .slice Au (digs 4294967296 (W).num.natAbs).length cu]) ((W).num) := ⟨_, rfl, kus⟩
                  have ku : IsQ w16 (.agg #[.bool (ngB (W).num), .slice Au (digs 4294967296 (W).num.natAbs).length cu, .slice Du (digs 4294967296 (W).den).length eu]) (W) := ⟨_, _, rfl, kus, kud⟩
                  have hq_ := hby.size
                  replace hby := hby.trans ((Below.refl _ _).grown hg16 hby.size (fun g hg => by injection hg with hg; omega))
                  clear hq_
                  refine ops_assign (i := 10) (.int .i64 0) rfl rfl rfl rfl rfl fun b hbf => ?_
                  simp only [Act.put, List.setIfInBounds_toArray, List.set_cons_zero, List.set_cons_succ] at hbf
                  subst hbf
                  refine ops_done ?_
                  go_upto_region 13 with (fail)
                  refine flow 33 [Pd.eq (.int .i64 0), Pd.eq (.bool true), Pd.eq (.bool true), Pd.eq (.int .i64 0), Pd.eq (.bool true), Pd.eq (.bool true), Pd.eq (.bool true), Pd.eq (.int .i64 0), Pd.eq (.bool true), Pd.eq (.bool true), Pd.eq (.bool true), Pd.eq (.int .i64 0), Pd.eq (.bool true), Pd.eq (.bool true), Pd.eq (.bool true), Pd.eq (.int .i64 0), Pd.eq (.bool true), Pd.eq (.bool true), Pd.eq (.bool true), Pd.eq (.agg #[.bool (ngB (X).num), .slice Ax (digs 4294967296 (X).num.natAbs).length cx, .slice Dx (digs 4294967296 (X).den).length ex]), Pd.eq (.agg #[.bool (ngB (Y).num), .slice Ay (digs 4294967296 (Y).num.natAbs).length cy, .slice Dy (digs 4294967296 (Y).den).length ey]), Pd.eq (.agg #[.bool (ngB (Z).num), .slice Az (digs 4294967296 (Z).num.natAbs).length cz, .slice Dz (digs 4294967296 (Z).den).length ez]), pqn (Y + Z), Pd.eq (.bool true), Pd.eq (.bool true), Pd.eq (.bool true), Pd.eq (.agg #[.bool (ngB (W).num), .slice Au (digs 4294967296 (W).num.natAbs).length cu, .slice Du (digs 4294967296 (W).den).length eu]), Pd.eq (.agg #[.bool (ngB (K).num), .slice Ak (digs 4294967296 (K).num.natAbs).length ck, .slice Dk (digs 4294967296 (K).den).length ek]), Pd.eq (.agg #[.bool (ngB (Y).num), .slice Ay (digs 4294967296 (Y).num.natAbs).length cy, .slice Dy (digs 4294967296 (Y).den).length ey]), pqn (K * Y), Pd.eq (.bool true), Pd.eq (.bool true), Pd.eq (.bool true)] (by kernel_rfl) (by kernel_rfl) ?ob36 ?done36
                  case ob36 =>
                    refine And.intro (ob_move rfl (wt_none rfl) (ev_far rfl rfl) (fun _ _ h => h)) ?_
                    refine And.intro (ob_bin rfl (wt_none rfl) (ev_dep (j := 0) (by kernel_rfl) rfl rfl) (ev_const _) (fun _ _ _ hx hy => ⟨.bool ((0 : Int) == 0), by rw [hx, hy]; exact bin_eql_int _ _ _ _ _, congrArg Value.bool (by decide)⟩)) ?_
                    refine And.intro (ob_move rfl (wt_none rfl) (ev_dep (j := 1) (by kernel_rfl) rfl rfl) (fun _ _ h => h)) ?_
                    refine And.intro (ob_move rfl (wt_dep (c := true) (b := true) (g := 2) rfl (by kernel_rfl) rfl rfl rfl (by exact fun _ _ h => h)) (ev_far rfl rfl) (fun _ _ h => h)) ?_
                    refine And.intro (ob_bin rfl (wt_dep (c := true) (b := true) (g := 2) rfl (by kernel_rfl) rfl rfl rfl (by exact fun _ _ h => h)) (ev_dep (j := 3) (by kernel_rfl) rfl rfl) (ev_const _) (fun _ _ _ hx hy => ⟨.bool ((0 : Int) == 0), by rw [hx, hy]; exact bin_eql_int _ _ _ _ _, congrArg Value.bool (by decide)⟩)) ?_
                    refine And.intro (ob_pick (b := true) rfl (wt_none rfl) (ev_dep (j := 2) (by kernel_rfl) rfl rfl) (ev_dep (j := 4) (by kernel_rfl) rfl rfl) (fun _ _ h => h)) ?_
                    refine And.intro (ob_move rfl (wt_none rfl) (ev_dep (j := 5) (by kernel_rfl) rfl rfl) (fun _ _ h => h)) ?_
                    refine And.intro (ob_move rfl (wt_dep (c := true) (b := true) (g := 6) rfl (by kernel_rfl) rfl rfl rfl (by exact fun _ _ h => h)) (ev_far rfl rfl) (fun _ _ h => h)) ?_
                    refine And.intro (ob_bin rfl (wt_dep (c := true) (b := true) (g := 6) rfl (by kernel_rfl) rfl rfl rfl (by exact fun _ _ h => h)) (ev_dep (j := 7) (by kernel_rfl) rfl rfl) (ev_const _) (fun _ _ _ hx hy => ⟨.bool ((0 : Int) == 0), by rw [hx, hy]; exact bin_eql_int _ _ _ _ _, congrArg Value.bool (by decide)⟩)) ?_
                    refine And.intro (ob_pick (b := true) rfl (wt_none rfl) (ev_dep (j := 6) (by kernel_rfl) rfl rfl) (ev_dep (j := 8) (by kernel_rfl) rfl rfl) (fun _ _ h => h)) ?_
                    refine And.intro (ob_move rfl (wt_none rfl) (ev_dep (j := 9) (by kernel_rfl) rfl rfl) (fun _ _ h => h)) ?_
                    refine And.intro (ob_move rfl (wt_dep (c := true) (b := true) (g := 10) rfl (by kernel_rfl) rfl rfl rfl (by exact fun _ _ h => h)) (ev_far rfl rfl) (fun _ _ h => h)) ?_
                    refine And.intro (ob_bin rfl (wt_dep (c := true) (b := true) (g := 10) rfl (by kernel_rfl) rfl rfl rfl (by exact fun _ _ h => h)) (ev_dep (j := 11) (by kernel_rfl) rfl rfl) (ev_const _) (fun _ _ _ hx hy => ⟨.bool ((0 : Int) == 0), by rw [hx, hy]; exact bin_eql_int _ _ _ _ _, congrArg Value.bool (by decide)⟩)) ?_
                    refine And.intro (ob_pick (b := true) rfl (wt_none rfl) (ev_dep (j := 10) (by kernel_rfl) rfl rfl) (ev_dep (j := 12) (by kernel_rfl) rfl rfl) (fun _ _ h => h)) ?_
                    refine And.intro (ob_move rfl (wt_none rfl) (ev_dep (j := 13) (by kernel_rfl) rfl rfl) (fun _ _ h => h)) ?_
                    refine And.intro (ob_move rfl (wt_dep (c := true) (b := true) (g := 14) rfl (by kernel_rfl) rfl rfl rfl (by exact fun _ _ h => h)) (ev_far rfl rfl) (fun _ _ h => h)) ?_
                    refine And.intro (ob_bin rfl (wt_dep (c := true) (b := true) (g := 14) rfl (by kernel_rfl) rfl rfl rfl (by exact fun _ _ h => h)) (ev_dep (j := 15) (by kernel_rfl) rfl rfl) (ev_const _) (fun _ _ _ hx hy => ⟨.bool ((0 : Int) == 0), by rw [hx, hy]; exact bin_eql_int _ _ _ _ _, congrArg Value.bool (by decide)⟩)) ?_
                    refine And.intro (ob_pick (b := true) rfl (wt_none rfl) (ev_dep (j := 14) (by kernel_rfl) rfl rfl) (ev_dep (j := 16) (by kernel_rfl) rfl rfl) (fun _ _ h => h)) ?_
                    refine And.intro (ob_move rfl (wt_none rfl) (ev_dep (j := 17) (by kernel_rfl) rfl rfl) (fun _ _ h => h)) ?_
                    refine And.intro (ob_load rfl (wt_dep (c := true) (b := true) (g := 18) rfl (by kernel_rfl) rfl rfl rfl (by exact fun _ _ h => h)) (ev_far rfl rfl) (fun w2 hb => run_loadAll Try.underlying34 rfl (by kernel_rfl) (Bx.drew.below hb)) (fun _ _ => rfl)) ?_
                    refine And.intro (ob_load rfl (wt_dep (c := true) (b := true) (g := 18) rfl (by kernel_rfl) rfl rfl rfl (by exact fun _ _ h => h)) (ev_far rfl rfl) (fun w2 hb => run_loadAll Try.underlying34 rfl (by kernel_rfl) (By.drew.below hb)) (fun _ _ => rfl)) ?_
                    refine And.intro (ob_load rfl (wt_dep (c := true) (b := true) (g := 18) rfl (by kernel_rfl) rfl rfl rfl (by exact fun _ _ h => h)) (ev_far rfl rfl) (fun w2 hb => run_loadAll Try.underlying34 rfl (by kernel_rfl) (Bz.drew.below hb)) (fun _ _ => rfl)) ?_
                    refine And.intro (ob_call2 rfl Try.func17 (by kernel_rfl) (wt_dep (c := true) (b := true) (g := 18) rfl (by kernel_rfl) rfl rfl rfl (by exact fun _ _ h => h)) (ev_dep (j := 20) (by kernel_rfl) rfl rfl) (ev_dep (j := 21) (by kernel_rfl) rfl rfl) (fun w2 u0 u1 hb h0 h1 => by obtain rfl := h0; obtain rfl := h1; exact (add8_any _ Y _ Z _ (ky.drew.below hb) (kz.drew.below hb) (lY.mono (by decide)) (lZ.mono (by decide))).mono fun e w3 h => RetQn.pd h.n)) ?_
                    refine And.intro (ob_call2 rfl Try.func8 (by kernel_rfl) (wt_dep (c := true) (b := true) (g := 18) rfl (by kernel_rfl) rfl rfl rfl (by exact fun _ _ h => h)) (ev_dep (j := 19) (by kernel_rfl) rfl rfl) (ev_dep (j := 22) (by kernel_rfl) rfl rfl) (fun w2 u0 u1 hb h0 h1 => by obtain rfl := h0; exact (same8_any _ _ (X) (Y + Z) true _ (kx.drew.below hb) h1 HE1.out).mono fun e w3 h => RetV.pd h)) ?_
                    refine And.intro (ob_pick (b := true) rfl (wt_none rfl) (ev_dep (j := 18) (by kernel_rfl) rfl rfl) (ev_dep (j := 23) (by kernel_rfl) rfl rfl) (fun _ _ h => h)) ?_
                    refine And.intro (ob_move rfl (wt_none rfl) (ev_dep (j := 24) (by kernel_rfl) rfl rfl) (fun _ _ h => h)) ?_
                    refine And.intro (ob_load rfl (wt_dep (c := true) (b := true) (g := 25) rfl (by kernel_rfl) rfl rfl rfl (by exact fun _ _ h => h)) (ev_far rfl rfl) (fun w2 hb => run_loadAll Try.underlying34 rfl (by kernel_rfl) (Bu.drew.below hb)) (fun _ _ => rfl)) ?_
                    refine And.intro (ob_load rfl (wt_dep (c := true) (b := true) (g := 25) rfl (by kernel_rfl) rfl rfl rfl (by exact fun _ _ h => h)) (ev_far rfl rfl) (fun w2 hb => run_loadAll Try.underlying34 rfl (by kernel_rfl) (Bk.drew.below hb)) (fun _ _ => rfl)) ?_
                    refine And.intro (ob_load rfl (wt_dep (c := true) (b := true) (g := 25) rfl (by kernel_rfl) rfl rfl rfl (by exact fun _ _ h => h)) (ev_far rfl rfl) (fun w2 hb => run_loadAll Try.underlying34 rfl (by kernel_rfl) (By.drew.below hb)) (fun _ _ => rfl)) ?_
                    refine And.intro (ob_call2 rfl Try.func18 (by kernel_rfl) (wt_dep (c := true) (b := true) (g := 25) rfl (by kernel_rfl) rfl rfl rfl (by exact fun _ _ h => h)) (ev_dep (j := 27) (by kernel_rfl) rfl rfl) (ev_dep (j := 28) (by kernel_rfl) rfl rfl) (fun w2 u0 u1 hb h0 h1 => by obtain rfl := h0; obtain rfl := h1; exact (mul8_any _ K _ Y _ (kk.drew.below hb) (ky.drew.below hb) (lK.mono (by decide)) (lY.mono (by decide))).mono fun e w3 h => RetQn.pd h.n)) ?_
                    refine And.intro (ob_call2 rfl Try.func8 (by kernel_rfl) (wt_dep (c := true) (b := true) (g := 25) rfl (by kernel_rfl) rfl rfl rfl (by exact fun _ _ h => h)) (ev_dep (j := 26) (by kernel_rfl) rfl rfl) (ev_dep (j := 29) (by kernel_rfl) rfl rfl) (fun w2 u0 u1 hb h0 h1 => by obtain rfl := h0; exact (same8_any _ _ (W) (K * Y) true _ (ku.drew.below hb) h1 HE2.out).mono fun e w3 h => RetV.pd h)) ?_
                    refine And.intro (ob_pick (b := true) rfl (wt_none rfl) (ev_dep (j := 25) (by kernel_rfl) rfl rfl) (ev_dep (j := 30) (by kernel_rfl) rfl rfl) (fun _ _ h => h)) ?_
                    refine And.intro (ob_assign rfl (wt_none rfl) (ev_dep (j := 31) (by kernel_rfl) rfl rfl) (fun _ _ h => h)) ?_
                    trivial
                  case done36 =>
                    refine fun w17 hb17 v0 h0 v1 h1 v2 h2 v3 h3 v4 h4 v5 h5 v6 h6 v7 h7 v8 h8 v9 h9 v10 h10 v11 h11 v12 h12 v13 h13 v14 h14 v15 h15 v16 h16 v17 h17 v18 h18 v19 h19 v20 h20 v21 h21 v22 h22 v23 h23 v24 h24 v25 h25 v26 h26 v27 h27 v28 h28 v29 h29 v30 h30 v31 h31 v32 h32 b hbf => ?_
                    obtain rfl := h0; obtain rfl := h1; obtain rfl := h2; obtain rfl := h3; obtain rfl := h4; obtain rfl := h5; obtain rfl := h6; obtain rfl := h7; obtain rfl := h8; obtain rfl := h9; obtain rfl := h10; obtain rfl := h11; obtain rfl := h12; obtain rfl := h13; obtain rfl := h14; obtain rfl := h15; obtain rfl := h16; obtain rfl := h17; obtain rfl := h18; obtain rfl := h19; obtain rfl := h20; obtain rfl := h21; obtain rfl := h23; obtain rfl := h24; obtain rfl := h25; obtain rfl := h26; obtain rfl := h27; obtain rfl := h28; obtain rfl := h30; obtain rfl := h31; obtain rfl := h32
                    have q22 := h22
                    have q29 := h29
                    simp only [Act.put, List.setIfInBounds_toArray, List.set_cons_zero, List.set_cons_succ] at hbf
                    subst hbf
                    replace Bk := Bk.below hb17
                    replace kks := kks.below hb17
                    replace kkd := kkd.below hb17
                    replace kkz := kkz.below hb17
                    replace kk := kk.below hb17
                    replace Bx := Bx.below hb17
                    replace kxs := kxs.below hb17
                    replace kxd := kxd.below hb17
                    replace kxz := kxz.below hb17
                    replace kx := kx.below hb17
                    replace By := By.below hb17
                    replace kys := kys.below hb17
                    replace kyd := kyd.below hb17
                    replace kyz := kyz.below hb17
                    replace ky := ky.below hb17
                    replace Bz := Bz.below hb17
                    replace kzs := kzs.below hb17
                    replace kzd := kzd.below hb17
                    replace kzz := kzz.below hb17
                    replace kz := kz.below hb17
                    replace Bu := Bu.below hb17
                    replace kus := kus.below hb17
                    replace kud := kud.below hb17
                    replace kuz := kuz.below hb17
                    replace ku := ku.below hb17
                    replace hV := hV.below hb17
                    replace hS := hS.below hb17
                    replace hT := hT.below hb17
                    replace bb := bb.trans (hb17.mono bb.size)
                    have hsz17 := bb.size
                    replace hby := hby.trans (hb17.mono hby.size)
                    refine any_done (by kernel_rfl) ?_
                    go_wp2
                    go_ret
                    exact ⟨rfl, bb⟩
set_option maxRecDepth 100000 in
theorem lifted (os : Os) (started : os.Started) (H : Type) (enc : TypeId × Value → H) :
    ReturnsInHanded {} Try.checked os 4 .any (Rows.vectLinearSpec.pre6 enc Try.prog Try.f4 Rows.vectLinearRow.domain false) (Rows.vectLinearSpec.post enc Try.prog Try.f4 false true false false) := by
  refine returnsInHanded_of_change (C := Try.checked) own started (by kernel_rfl) Try.func4
    (ChangeSpec.witness6 (enc := enc) (C := Try.checked) false ⟨#[], #[.slice none 0 0, .slice none 0 0, .slice none 0 0, .agg #[.bool false, .slice none 0 0, .slice none 0 0]], []⟩ 8 (by kernel_rfl) (by kernel_rfl) (by kernel_rfl) (by kernel_rfl)) ?_
  intro W base args ds gs before hval0 hW hcnd _
  have hval : ∀ (j : Nat) t v, Try.f4.params[j]? = some t → args[j]? = some v → Value.okWide Try.prog W .any base t v := hval0
  have hW' := hW
  obtain ⟨p, q, hA0, hV, rfl, hfz, hnd⟩ := hW
  have hA : DataW.TrodAll enc Try.prog W 0 (fun _ => true) true Try.f4.params.toList args.toList ds p := hA0
  rw [Try.params4] at hA hval
  obtain ⟨v0, vs0, d0, ds0, p0, q0, hargs, rfl, rfl, t0, r0⟩ := trodAll_cons hA
  obtain ⟨v1, vs1, d1, ds1, p1, q1, rfl, rfl, rfl, t1, r1⟩ := trodAll_cons r0
  obtain ⟨v2, vs2, d2, ds2, p2, q2, rfl, rfl, rfl, t2, r2⟩ := trodAll_cons r1
  obtain ⟨v3, vs3, d3, ds3, p3, q3, rfl, rfl, rfl, t3, r3⟩ := trodAll_cons r2
  obtain ⟨rfl, rfl, rfl⟩ := trodAll_nil r3
  obtain rfl : args = #[v0, v1, v2, v3] := by cases args; simp_all
  obtain ⟨rfl, rfl⟩ := trodVars_none hV
  have hs0 := arg_qs Try.underlying22 Try.underlying34 (by kernel_rfl) (by kernel_rfl) Try.underlying32 (by kernel_rfl) Try.underlying4 Try.underlying30 Try.underlying30 Try.underlying53 cells_u (hval 0 22 v0 rfl rfl) t0
  have hs1 := arg_qs Try.underlying22 Try.underlying34 (by kernel_rfl) (by kernel_rfl) Try.underlying32 (by kernel_rfl) Try.underlying4 Try.underlying30 Try.underlying30 Try.underlying53 cells_u (hval 1 22 v1 rfl rfl) t1
  have hs2 := arg_qs Try.underlying22 Try.underlying34 (by kernel_rfl) (by kernel_rfl) Try.underlying32 (by kernel_rfl) Try.underlying4 Try.underlying30 Try.underlying30 Try.underlying53 cells_u (hval 2 22 v2 rfl rfl) t2
  obtain ⟨b3, x3, r3_, l3, m3, rfl, hs3, hu3, hj3, hx3⟩ := arg_q Try.underlying34 (by kernel_rfl) (by kernel_rfl) Try.underlying32 (by kernel_rfl) Try.underlying4 Try.underlying30 Try.underlying30 Try.underlying53 cells_u (hval 3 34 v3 rfl rfl) t3
  clear hA0 hval0
  simp only [List.append_nil] at hW'
  have hlt0 : ∀ x ∈ p0, x.block < W.heap.size := fun x hx => hW'.lt x (List.mem_append_left _ hx)
  have hlt1 : ∀ x ∈ p1, x.block < W.heap.size := fun x hx => hW'.lt x (List.mem_append_right _ (List.mem_append_left _ hx))
  have hlt2 : ∀ x ∈ p2, x.block < W.heap.size := fun x hx => hW'.lt x (List.mem_append_right _ (List.mem_append_right _ (List.mem_append_left _ hx)))
  have hlt3 : ∀ x ∈ p3, x.block < W.heap.size := fun x hx => hW'.lt x (List.mem_append_right _ (List.mem_append_right _ (List.mem_append_right _ (hx))))
  refine (walk v0 v1 v2 b3 x3 r3_ l3 m3 W hs0 hs1 hs2 hs3 hu3 hj3 hx3).mono fun e W' ⟨he, hb⟩ => ?_
  subst he
  have s0 := Below.trod laidOut (by kernel_rfl) (of_decide_eq_true (by kernel_rfl)) t0 hb hlt0
  have s1 := Below.trod laidOut (by kernel_rfl) (of_decide_eq_true (by kernel_rfl)) t1 hb hlt1
  have s2 := Below.trod laidOut (by kernel_rfl) (of_decide_eq_true (by kernel_rfl)) t2 hb hlt2
  have s3 := Below.trod laidOut (by kernel_rfl) (of_decide_eq_true (by kernel_rfl)) t3 hb hlt3
  exact ⟨_, rfl, _, _, _, [] ++ [], _, [], hW', trodAll_cons_mk (shut_bool Try.underlying4 _) trodAll_mk0, trodAll_cons_mk s0 (trodAll_cons_mk s1 (trodAll_cons_mk s2 (trodAll_cons_mk s3 (trodAll_mk0)))), rfl, hb.frame _, fun h => by cases h⟩
theorem over : Rows.vectLinearRow.holds Try.pinned (OpenSpec.ofChange Rows.vectLinearSpec) :=
  OpenClaim.holds_of_wide 4 Try.f4 rfl rfl rfl rfl rfl rfl rfl ⟨rfl, rfl, rfl, rfl, rfl⟩ rfl rfl rfl rfl rfl (by kernel_rfl) Try.func4 (by kernel_rfl)
    (of_decide_eq_true (by kernel_rfl)) (by unfold Func.isWrapper; first | (rw [if_pos (by decide +kernel)]; kernel_rfl) | (rw [if_neg (by decide +kernel)]; exact ⟨rfl, rfl⟩))
    (fun os started H enc _ => lifted os started H enc)
/-- The statement. -/
theorem proved : Rows.VectLinearSaid := over
end Go.Proofs.Ytodpjmbclmlieaa.vectLinear
